/-
  What is needed of FloatG, FloatM, FB.
-/
import Derived.Test.YtnliofakkkjpoaaGreatDoorA07
import Derived.Test.YtnliofakkkjpoaaGreatDoorA53
set_option maxHeartbeats 16000000
set_option maxRecDepth 1000000
namespace Go.Proofs.YtnliofakkkjpoaaGreatDoor
set_option linter.unusedVariables false
set_option linter.unusedSimpArgs false
open Go.RowKit
/-- The sign turned; the sign gone; whether there is one. -/
def negF (fm x : Int) : Int := if okF fm x then (if x < sgOf fm then x + sgOf fm else x - sgOf fm) else 0
theorem neg32 {x : Int} (h : x < 4294967296) : negF 32 x = if x < 2147483648 then x + 2147483648 else x - 2147483648 := by unfold negF; rw [okF32 h]; rfl
theorem neg64 {x : Int} : negF 64 x = if x < 9223372036854775808 then x + 9223372036854775808 else x - 9223372036854775808 := by unfold negF; rw [okF64]; rfl
theorem impl_neg32 (x : Int) (w : World) (h : Tab w) (h0 : 0 ≤ x) (h1 : x < 4294967296) :
    Calls Tryz.prog 101 #[.int .i64 32, .int .u64 x] w fun e w' => e = .returned (.int .u64 (if x < 2147483648 then x + 2147483648 else x - 2147483648)) ∧ Below w.heap.size w w' := by
  have hok : okF 32 x = true := by simp [okF, h1]
  have h1' : x < 18446744073709551616 := by omega
  obtain ⟨y, hy⟩ : ∃ y, y = if x < 2147483648 then x + 2147483648 else x - 2147483648 := ⟨_, rfl⟩
  rw [← hy]
  have e : bits .xor .u64 x 2147483648 = y := by rw [Bt.xor31 x h0 (by omega), hy]; split <;> split <;> omega
  clear hy
  go_enter Tryz.func101, Tryz.ntmps101
  go_wp2_with fail
  refine (impl_ok 32 x _ h h0 h1').mono ?_
  rintro e w1 ⟨rfl, hb1⟩
  have hT1 := h.below hb1
  go_wp2_with fail
  refine (sizes32 _ hT1).mono ?_
  rintro e w2 ⟨rfl, hb2⟩
  go_wp2_with (go_at_call 165; refine (sign32 _).mono ?_; rintro e w3 ⟨rfl, hb3⟩)
  go_ret
  exact ⟨rfl, (by repeat (first | exact bz0 _ _ | refine bz1 ?_ | refine bz2 ?_ _ | refine bz3 ?_ _ | refine bz4 ?_ hb3 | refine bz4 ?_ hb2 | refine bz4 ?_ hb1 | refine bz5 ?_ _ | refine bz6 ?_ _ | refine bz7 ?_ hb3 | refine bz7 ?_ hb2 | refine bz7 ?_ hb1))⟩
theorem impl_neg64 (x : Int) (w : World) (h : Tab w) (h0 : 0 ≤ x) (h1 : x < 18446744073709551616) :
    Calls Tryz.prog 101 #[.int .i64 64, .int .u64 x] w fun e w' => e = .returned (.int .u64 (if x < 9223372036854775808 then x + 9223372036854775808 else x - 9223372036854775808)) ∧ Below w.heap.size w w' := by
  have hok : okF 64 x = true := by simp [okF, h1]
  have h1' : x < 18446744073709551616 := by omega
  obtain ⟨y, hy⟩ : ∃ y, y = if x < 9223372036854775808 then x + 9223372036854775808 else x - 9223372036854775808 := ⟨_, rfl⟩
  rw [← hy]
  have e : bits .xor .u64 x 9223372036854775808 = y := by rw [Bt.xor63 x h0 (by omega), hy]; split <;> split <;> omega
  clear hy
  go_enter Tryz.func101, Tryz.ntmps101
  go_wp2_with fail
  refine (impl_ok 64 x _ h h0 h1').mono ?_
  rintro e w1 ⟨rfl, hb1⟩
  have hT1 := h.below hb1
  go_wp2_with fail
  refine (sizes64 _ hT1).mono ?_
  rintro e w2 ⟨rfl, hb2⟩
  go_wp2_with (go_at_call 165; refine (sign64 _).mono ?_; rintro e w3 ⟨rfl, hb3⟩)
  go_ret
  exact ⟨rfl, (by repeat (first | exact bz0 _ _ | refine bz1 ?_ | refine bz2 ?_ _ | refine bz3 ?_ _ | refine bz4 ?_ hb3 | refine bz4 ?_ hb2 | refine bz4 ?_ hb1 | refine bz5 ?_ _ | refine bz6 ?_ _ | refine bz7 ?_ hb3 | refine bz7 ?_ hb2 | refine bz7 ?_ hb1))⟩
theorem neg_ok {fm x : Int} (h : okF fm x = true) (h0 : 0 ≤ x) (h1 : x < 18446744073709551616) : okF fm (negF fm x) = true ∧ 0 ≤ negF fm x ∧ negF fm x < 18446744073709551616 := by
  rcases okF_cases h with ⟨rfl, hx⟩ | rfl
  · rw [neg32 hx]
    split
    · exact ⟨okF32 (by omega), by omega, by omega⟩
    · exact ⟨okF32 (by omega), by omega, by omega⟩
  · rw [neg64]
    split
    · exact ⟨okF64, by omega, by omega⟩
    · exact ⟨okF64, by omega, by omega⟩
end Go.Proofs.YtnliofakkkjpoaaGreatDoor
namespace Go.Proofs.YtnliofakkkjpoaaGreatDoor
set_option linter.unusedVariables false
set_option linter.unusedSimpArgs false
open Go.RowKit Go.Deep
theorem neg_i (fm y : Int) (w : World) (hT : Tab w) (hy : okF fm y = true) (y0 : 0 ≤ y) (y1 : y < 18446744073709551616) :
    Calls Tryz.prog 101 #[.int .i64 fm, .int .u64 y] w fun e w' => e = .returned (.int .u64 (negF fm y)) ∧ Below w.heap.size w w' := by
  rcases okF_cases hy with ⟨rfl, hy'⟩ | rfl
  · rw [neg32 hy']; exact impl_neg32 y w hT y0 hy'
  · rw [neg64]; exact impl_neg64 y w hT y0 y1
theorem sign_s (fm : Int) (w : World) (h : fmtB fm = true) :
    Calls Tryz.prog 99 #[.int .i64 fm] w fun e w' => e = .returned (.int .u64 (sgOf fm)) ∧ Below w.heap.size w w' := by
  rcases fmt_cases h with rfl | rfl
  all_goals
    go_enter Tryz.func99, Tryz.ntmps99
    go_wp2
    go_ret
    exact ⟨rfl, (by repeat (first | exact bz0 _ _ | refine bz1 ?_ | refine bz2 ?_ _ | refine bz3 ?_ _ | refine bz5 ?_ _ | refine bz6 ?_ _))⟩
theorem xor_negB {fm x : Int} (h : okF fm x = true) (h0 : 0 ≤ x) (h1 : x < 18446744073709551616) : bits .xor .u64 x (sgOf fm) = negF fm x := by
  rcases okF_cases h with ⟨rfl, hx⟩ | rfl
  · rw [neg32 hx, show sgOf 32 = 2147483648 from rfl, Bt.xor31 x h0 h1]; split <;> split <;> omega
  · rw [neg64, show sgOf 64 = 9223372036854775808 from rfl, Bt.xor63 x h0 h1]; split <;> split <;> omega
/-- A difference, of all floats. -/
def suB (fm mode x y : Int) : Int := if muO fm mode x y then adB fm mode x (negF fm y) else 0
def suF (fm mode x y : Int) : Int := if muO fm mode x y then adF fm mode x (negF fm y) else 0
theorem su_O {fm mode x y : Int} (hy : okF fm y = true) (y0 : 0 ≤ y) (y1 : y < 18446744073709551616) : muO fm mode x (negF fm y) = muO fm mode x y := by
  have h := (neg_ok hy y0 y1).1
  unfold muO allB; simp [h, hy]
theorem su_no {fm mode x y : Int} (h : muO fm mode x y = false) : suB fm mode x y = 0 ∧ suF fm mode x y = 0 := by unfold suB suF; rw [h]; exact ⟨rfl, rfl⟩
theorem sub_spec (fm mode x y : Int) (w : World) (x0 : 0 ≤ x) (x1 : x < 18446744073709551616) (y0 : 0 ≤ y) (y1 : y < 18446744073709551616) (B F : Int) (O : Bool) (hB : B = suB fm mode x y) (hF : F = suF fm mode x y) (hO : O = muO fm mode x y) :
    Calls Tryz.prog 39 #[.int .i64 fm, .int .i64 mode, .int .u64 x, .int .u64 y] w fun r w' => r = .returned (.tuple #[.int .u64 B, .int .i64 F, .bool O]) ∧ Below w.heap.size w w' := by
  have CF := hid (fun w' h => l4form fm mode (some ⟨w.heap.size, 0, none⟩) 2 [x, y] w' h (by simp))
  rw [all2_fmt] at CF
  have s2 := sl64_2 w x y 27
  cases ho : muO fm mode x y
  · obtain ⟨e1, e2⟩ := su_no ho
    rw [e1] at hB; rw [e2] at hF; rw [ho] at hO
    subst hB hF hO
    have ho' : (modeB mode && allB fm [x, y]) = false := ho
    rw [ho'] at CF
    clear ho ho' e1 e2
    go_enter Tryz.func39, Tryz.ntmps39
    go_wp2_with fail
    refine (CF.out _ s2).mono ?_
    rintro r w1 ⟨rfl, hb1⟩
    go_wp2
    go_ret3
    exact ⟨rfl, (by repeat (first | exact bz0 _ _ | refine bz1 ?_ | refine bz2 ?_ _ | refine bz3 ?_ _ | refine bz4 ?_ hb1 | refine bz5 ?_ _ | refine bz6 ?_ _ | refine bz7 ?_ hb1))⟩
  have ho' : (modeB mode && allB fm [x, y]) = true := ho
  rw [ho'] at CF
  obtain ⟨hm, ha⟩ : modeB mode = true ∧ allB fm [x, y] = true := by simpa using ho'
  obtain ⟨hx, hy⟩ := all2 ha
  obtain ⟨n1, n2, n3⟩ := neg_ok hy y0 y1
  have hB' : B = adB fm mode x (negF fm y) := by rw [hB]; unfold suB; rw [ho]; rfl
  have hF' : F = adF fm mode x (negF fm y) := by rw [hF]; unfold suF; rw [ho]; rfl
  have hO' : O = muO fm mode x (negF fm y) := by rw [hO, su_O hy y0 y1]
  have CA := hid (fun w' => add_spec fm mode x (negF fm y) w' x0 x1 n2 n3 B F O hB' hF' hO')
  have CS := hid (fun w' => sign_s fm w' (ok_fmt hx))
  have hxr := xor_negB hy y0 y1
  obtain ⟨S, hS⟩ : ∃ S, S = sgOf fm := ⟨_, rfl⟩
  obtain ⟨ny, hny⟩ : ∃ ny, ny = negF fm y := ⟨_, rfl⟩
  rw [← hS] at CS
  rw [← hS, ← hny] at hxr
  rw [← hny] at CA
  clear hB hF hO hB' hF' hO' ho ho' hm ha hx hy n1 n2 n3 hS hny
  go_enter Tryz.func39, Tryz.ntmps39
  go_wp2_with fail
  refine (CF.out _ s2).mono ?_
  rintro r w1 ⟨rfl, hb1⟩
  go_wp2_with fail
  refine (CS.out _).mono ?_
  rintro r w2 ⟨rfl, hb2⟩
  go_wp2_with fail
  refine (CA.out _).mono ?_
  rintro r w3 ⟨rfl, hb3⟩
  go_wp2
  go_ret3
  exact ⟨rfl, (by repeat (first | exact bz0 _ _ | refine bz1 ?_ | refine bz2 ?_ _ | refine bz3 ?_ _ | refine bz4 ?_ hb3 | refine bz4 ?_ hb2 | refine bz4 ?_ hb1 | refine bz5 ?_ _ | refine bz6 ?_ _ | refine bz7 ?_ hb3 | refine bz7 ?_ hb2 | refine bz7 ?_ hb1))⟩
theorem subi_all (fm mode x y : Int) (u : Value) (w : World) (hE : E3 u w) (x0 : 0 ≤ x) (x1 : x < 18446744073709551616) (y0 : 0 ≤ y) (y1 : y < 18446744073709551616) (B F : Int) (O : Bool) (hB : B = suB fm mode x y) (hF : F = suF fm mode x y) (hO : O = muO fm mode x y) :
    Calls Tryz.prog 40 #[.int .i64 fm, .int .i64 mode, .int .u64 x, .int .u64 y] w fun r w' => r = .returned (.tuple #[.int .u64 B, .int .i64 F, .bool O]) ∧ Below w.heap.size w w' := by
  have CO := hid (fun w' h => impl_ok fm y w' h y0 y1)
  cases hy : okF fm y
  · have ho : muO fm mode x y = false := by unfold muO allB; simp [hy]
    obtain ⟨e1, e2⟩ := su_no ho
    rw [e1] at hB; rw [e2] at hF; rw [ho] at hO
    subst hB hF hO
    rw [hy] at CO
    clear ho e1 e2 hy
    go_enter Tryz.func40, Tryz.ntmps40
    go_wp2_with fail
    refine (CO.out _ hE.t.s.f).mono ?_
    rintro r w1 ⟨rfl, hb1⟩
    go_wp2
    go_ret3
    exact ⟨rfl, (by repeat (first | exact bz0 _ _ | refine bz1 ?_ | refine bz2 ?_ _ | refine bz3 ?_ _ | refine bz4 ?_ hb1 | refine bz5 ?_ _ | refine bz6 ?_ _ | refine bz7 ?_ hb1))⟩
  rw [hy] at CO
  obtain ⟨n1, n2, n3⟩ := neg_ok hy y0 y1
  have hO' : O = muO fm mode x (negF fm y) := by rw [hO, su_O hy y0 y1]
  have hB' : B = adB fm mode x (negF fm y) := by
    rw [hB]; unfold suB
    cases ho : muO fm mode x y
    · rw [(ad_no (by rw [su_O hy y0 y1]; exact ho)).1]; rfl
    · rfl
  have hF' : F = adF fm mode x (negF fm y) := by
    rw [hF]; unfold suF
    cases ho : muO fm mode x y
    · rw [(ad_no (by rw [su_O hy y0 y1]; exact ho)).2]; rfl
    · rfl
  have CA := hid (fun w' h => addf_all fm mode x (negF fm y) u w' h x0 x1 n2 n3 B F O hB' hF' hO')
  have CN := hid (fun w' h => neg_i fm y w' h hy y0 y1)
  obtain ⟨ny, hny⟩ : ∃ ny, ny = negF fm y := ⟨_, rfl⟩
  rw [← hny] at CA CN
  clear hB hF hO hB' hF' hO' hy n1 n2 n3 hny
  go_enter Tryz.func40, Tryz.ntmps40
  go_wp2_with fail
  refine (CO.out _ hE.t.s.f).mono ?_
  rintro r w1 ⟨rfl, hb1⟩
  go_wp2_with fail
  refine (CN.out _ (hE.t.s.f.below hb1)).mono ?_
  rintro r w2 ⟨rfl, hb2⟩
  go_wp2_with fail
  refine (CA.out _ ((hE.below hb1).below hb2)).mono ?_
  rintro r w3 ⟨rfl, hb3⟩
  go_wp2
  go_ret3
  exact ⟨rfl, (by repeat (first | exact bz0 _ _ | refine bz1 ?_ | refine bz2 ?_ _ | refine bz3 ?_ _ | refine bz4 ?_ hb3 | refine bz4 ?_ hb2 | refine bz4 ?_ hb1 | refine bz5 ?_ _ | refine bz6 ?_ _ | refine bz7 ?_ hb3 | refine bz7 ?_ hb2 | refine bz7 ?_ hb1))⟩
theorem law_FloatSub (fm mode x y : Int) (w : World) (hT : EX3 w) (x0 : 0 ≤ x) (x1 : x < 18446744073709551616) (y0 : 0 ≤ y) (y1 : y < 18446744073709551616) :
    Calls Tryz.prog 11 #[.int .i64 fm, .int .i64 mode, .int .u64 x, .int .u64 y] w fun e w' => e = .returned (.bool true) ∧ Below w.heap.size w w' := by
  obtain ⟨B, hB⟩ : ∃ B, B = suB fm mode x y := ⟨_, rfl⟩
  obtain ⟨F, hF⟩ : ∃ F, F = suF fm mode x y := ⟨_, rfl⟩
  obtain ⟨O, hO⟩ : ∃ O, O = muO fm mode x y := ⟨_, rfl⟩
  obtain ⟨u, hE⟩ := hT
  have CS := hid (fun w' => sub_spec fm mode x y w' x0 x1 y0 y1 B F O hB hF hO)
  have CI := hid (fun w' h => subi_all fm mode x y u w' h x0 x1 y0 y1 B F O hB hF hO)
  have q1 : (B != B) = false := by simp
  have q2 : (F != F) = false := by simp
  have q3 : (O != O) = false := by simp
  clear hB hF hO
  go_enter Tryz.func11, Tryz.ntmps11
  go_wp2_with fail
  refine (CS.out _).mono ?_
  rintro e w1 ⟨rfl, hb1⟩
  go_wp2_with fail
  refine (CI.out _ (hE.below hb1)).mono ?_
  rintro e w2 ⟨rfl, hb2⟩
  go_wp2
  go_ret
  exact ⟨rfl, (by repeat (first | exact bz0 _ _ | refine bz1 ?_ | refine bz2 ?_ _ | refine bz3 ?_ _ | refine bz4 ?_ hb2 | refine bz4 ?_ hb1 | refine bz5 ?_ _ | refine bz6 ?_ _ | refine bz7 ?_ hb2 | refine bz7 ?_ hb1))⟩
end Go.Proofs.YtnliofakkkjpoaaGreatDoor
