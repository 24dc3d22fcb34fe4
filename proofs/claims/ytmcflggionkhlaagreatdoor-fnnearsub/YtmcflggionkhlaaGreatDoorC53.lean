/-
  What is needed of DrawB, TP, DR, FB, SM, DP.
-/
import Derived.Test.YtmcflggionkhlaaGreatDoorC51
import Derived.Test.YtmcflggionkhlaaGreatDoorC52
set_option maxHeartbeats 16000000
set_option maxRecDepth 1000000
namespace Go.Proofs.YtmcflggionkhlaaGreatDoor
set_option linter.unusedVariables false
set_option linter.unusedSimpArgs false
open Go.RowKit Go.Deep
/-- Own rows above a reader stay. -/
theorem Own.rd {w w' : World} {B rb : Nat} {a : Option Addr} {cap : Nat} {zs : List Int} (h : Own w B a cap zs) (hg : w.grownBy w' (some rb)) (hlt : rb < B) : Own w' B a cap zs :=
  h.kept hg (fun g hg' hr => by
    have e : rb = g := Option.some.inj hr
    rcases h.block with ⟨e', _⟩ | ⟨g', e', h1, _⟩
    · rw [e'] at hg'; cases hg'
    · rw [e'] at hg'; cases hg'; omega)
theorem R2.rd {w w' : World} {b rb : Nat} {v0 v1 : Value} (h : R2 w b v0 v1) (hg : w.grownBy w' (some rb)) (hne : b ≠ rb) : R2 w' b v0 v1 := h.grown hg hne
theorem Box.rd {w w' : World} {b rb : Nat} {v0 v1 : Value} (h : Box w b v0 v1) (hg : w.grownBy w' (some rb)) (hne : b ≠ rb) : Box w' b v0 v1 := h.grown hg (fun g e => by cases e; exact hne)
theorem un_abs {fm x : Int} (hf : finB fm x = true) : (unI fm x).natAbs = Nm.sh (pM fm x).toNat (pE fm x - unQ fm) := by
  unfold unI; rw [hf, if_pos rfl]; cases pS fm x <;> simp
theorem fin_ok {fm x : Int} (hf : finB fm x = true) : okF fm x = true := by
  cases h : okF fm x
  · exfalso
    have : cls fm x = -1 := by unfold cls; rw [h]; rfl
    unfold finB at hf; rw [this] at hf; simp at hf
  · rfl
theorem un_bl (fm x : Int) : bitLen (unI fm x).natAbs ≤ 2200 := by
  cases hf : finB fm x
  · rw [un_no hf]; decide
  · rw [un_abs hf]; exact un_bits hf
namespace Fd
theorem bl_add {x y : Int} {k : Nat} (hx : bitLen x.natAbs ≤ k) (hy : bitLen y.natAbs ≤ k) : bitLen (x + y).natAbs ≤ k + 1 := by
  have h1 := (Nm.bl_le_iff _ k).1 hx
  have h2 := (Nm.bl_le_iff _ k).1 hy
  refine (Nm.bl_le_iff _ _).2 ?_
  have h3 : (x + y).natAbs ≤ x.natAbs + y.natAbs := Int.natAbs_add_le _ _
  rw [Nat.pow_succ]; omega
theorem un_bl (fm x : Int) : bitLen (unI fm x).natAbs ≤ 2200 := by
  cases hf : finB fm x
  · rw [un_no hf]; decide
  · have h : (unI fm x).natAbs = Nm.sh (pM fm x).toNat (pE fm x - unQ fm) := by unfold unI; rw [hf, if_pos rfl]; cases pS fm x <;> simp
    rw [h]; exact un_bits hf
end Fd
theorem neg_i (fm y : Int) (w : World) (hT : Tab w) (hy : okF fm y = true) (y0 : 0 ≤ y) (y1 : y < 18446744073709551616) :
    Calls Tryz.prog 32 #[.int .i64 fm, .int .u64 y] w fun e w' => e = .returned (.int .u64 (negF fm y)) ∧ Below w.heap.size w w' := by
  rcases okF_cases hy with ⟨rfl, hy'⟩ | rfl
  · rw [neg32 hy']; exact impl_neg32 y w hT y0 hy'
  · rw [neg64]; exact impl_neg64 y w hT y0 y1
theorem sign_s (fm : Int) (w : World) (h : fmtB fm = true) :
    Calls Tryz.prog 63 #[.int .i64 fm] w fun e w' => e = .returned (.int .u64 (sgOf fm)) ∧ Below w.heap.size w w' := by
  rcases fmt_cases h with rfl | rfl
  all_goals
    go_enter Tryz.func63, Tryz.ntmps63
    go_wp2
    go_ret
    exact ⟨rfl, (by repeat (first | exact bz0 _ _ | refine bz1 ?_ | refine bz2 ?_ _ | refine bz3 ?_ _ | refine bz5 ?_ _ | refine bz6 ?_ _))⟩
theorem xor_negB {fm x : Int} (h : okF fm x = true) (h0 : 0 ≤ x) (h1 : x < 18446744073709551616) : bits .xor .u64 x (sgOf fm) = negF fm x := by
  rcases okF_cases h with ⟨rfl, hx⟩ | rfl
  · rw [neg32 hx, show sgOf 32 = 2147483648 from rfl, Bt.xor31 x h0 h1]; split <;> split <;> omega
  · rw [neg64, show sgOf 64 = 9223372036854775808 from rfl, Bt.xor63 x h0 h1]; split <;> split <;> omega
/-- A difference, of all floats. -/
def suB (fm mode x y : Int) : Int := if muO fm mode x y then adB fm mode x (negF fm y) else 0
def suF (fm mode x y : Int) : Int := if muO fm mode x y then adF fm mode x (negF fm y) else 0
theorem su_O {fm mode x y : Int} (hy : okF fm y = true) (y0 : 0 ≤ y) (y1 : y < 18446744073709551616) : muO fm mode x (negF fm y) = muO fm mode x y := by
  have h := (neg_ok hy y0 y1).1
  unfold muO allB; simp [h, hy]
theorem su_no {fm mode x y : Int} (h : muO fm mode x y = false) : suB fm mode x y = 0 ∧ suF fm mode x y = 0 := by unfold suB suF; rw [h]; exact ⟨rfl, rfl⟩
theorem sub_spec (fm mode x y : Int) (w : World) (x0 : 0 ≤ x) (x1 : x < 18446744073709551616) (y0 : 0 ≤ y) (y1 : y < 18446744073709551616) (B F : Int) (O : Bool) (hB : B = suB fm mode x y) (hF : F = suF fm mode x y) (hO : O = muO fm mode x y) :
    Calls Tryz.prog 18 #[.int .i64 fm, .int .i64 mode, .int .u64 x, .int .u64 y] w fun r w' => r = .returned (.tuple #[.int .u64 B, .int .i64 F, .bool O]) ∧ Below w.heap.size w w' := by
  have CF := hid (fun w' h => l4form fm mode (some ⟨w.heap.size, 0, none⟩) 2 [x, y] w' h (by simp))
  rw [all2_fmt] at CF
  have s2 := sl64_2 w x y 24
  cases ho : muO fm mode x y
  · obtain ⟨e1, e2⟩ := su_no ho
    rw [e1] at hB; rw [e2] at hF; rw [ho] at hO
    subst hB hF hO
    have ho' : (modeB mode && allB fm [x, y]) = false := ho
    rw [ho'] at CF
    clear ho ho' e1 e2
    go_enter Tryz.func18, Tryz.ntmps18
    go_wp2_with fail
    refine (CF.out _ s2).mono ?_
    rintro r w1 ⟨rfl, hb1⟩
    go_wp2
    go_ret3
    exact ⟨rfl, (by repeat (first | exact bz0 _ _ | refine bz1 ?_ | refine bz2 ?_ _ | refine bz3 ?_ _ | refine bz4 ?_ hb1 | refine bz5 ?_ _ | refine bz6 ?_ _ | refine bz7 ?_ hb1))⟩
  have ho' : (modeB mode && allB fm [x, y]) = true := ho
  rw [ho'] at CF
  obtain ⟨hm, ha⟩ : modeB mode = true ∧ allB fm [x, y] = true := by simpa using ho'
  obtain ⟨hx, hy⟩ := all2 ha
  obtain ⟨n1, n2, n3⟩ := neg_ok hy y0 y1
  have hB' : B = adB fm mode x (negF fm y) := by rw [hB]; unfold suB; rw [ho]; rfl
  have hF' : F = adF fm mode x (negF fm y) := by rw [hF]; unfold suF; rw [ho]; rfl
  have hO' : O = muO fm mode x (negF fm y) := by rw [hO, su_O hy y0 y1]
  have CA := hid (fun w' => add_spec fm mode x (negF fm y) w' x0 x1 n2 n3 B F O hB' hF' hO')
  have CS := hid (fun w' => sign_s fm w' (ok_fmt hx))
  have hxr := xor_negB hy y0 y1
  obtain ⟨S, hS⟩ : ∃ S, S = sgOf fm := ⟨_, rfl⟩
  obtain ⟨ny, hny⟩ : ∃ ny, ny = negF fm y := ⟨_, rfl⟩
  rw [← hS] at CS
  rw [← hS, ← hny] at hxr
  rw [← hny] at CA
  clear hB hF hO hB' hF' hO' ho ho' hm ha hx hy n1 n2 n3 hS hny
  go_enter Tryz.func18, Tryz.ntmps18
  go_wp2_with fail
  refine (CF.out _ s2).mono ?_
  rintro r w1 ⟨rfl, hb1⟩
  go_wp2_with fail
  refine (CS.out _).mono ?_
  rintro r w2 ⟨rfl, hb2⟩
  go_wp2_with fail
  refine (CA.out _).mono ?_
  rintro r w3 ⟨rfl, hb3⟩
  go_wp2
  go_ret3
  exact ⟨rfl, (by repeat (first | exact bz0 _ _ | refine bz1 ?_ | refine bz2 ?_ _ | refine bz3 ?_ _ | refine bz4 ?_ hb3 | refine bz4 ?_ hb2 | refine bz4 ?_ hb1 | refine bz5 ?_ _ | refine bz6 ?_ _ | refine bz7 ?_ hb3 | refine bz7 ?_ hb2 | refine bz7 ?_ hb1))⟩
theorem subi_all (fm mode x y : Int) (u : Value) (w : World) (hE : E3 u w) (x0 : 0 ≤ x) (x1 : x < 18446744073709551616) (y0 : 0 ≤ y) (y1 : y < 18446744073709551616) (B F : Int) (O : Bool) (hB : B = suB fm mode x y) (hF : F = suF fm mode x y) (hO : O = muO fm mode x y) :
    Calls Tryz.prog 17 #[.int .i64 fm, .int .i64 mode, .int .u64 x, .int .u64 y] w fun r w' => r = .returned (.tuple #[.int .u64 B, .int .i64 F, .bool O]) ∧ Below w.heap.size w w' := by
  have CO := hid (fun w' h => impl_ok fm y w' h y0 y1)
  cases hy : okF fm y
  · have ho : muO fm mode x y = false := by unfold muO allB; simp [hy]
    obtain ⟨e1, e2⟩ := su_no ho
    rw [e1] at hB; rw [e2] at hF; rw [ho] at hO
    subst hB hF hO
    rw [hy] at CO
    clear ho e1 e2 hy
    go_enter Tryz.func17, Tryz.ntmps17
    go_wp2_with fail
    refine (CO.out _ hE.t.s.f).mono ?_
    rintro r w1 ⟨rfl, hb1⟩
    go_wp2
    go_ret3
    exact ⟨rfl, (by repeat (first | exact bz0 _ _ | refine bz1 ?_ | refine bz2 ?_ _ | refine bz3 ?_ _ | refine bz4 ?_ hb1 | refine bz5 ?_ _ | refine bz6 ?_ _ | refine bz7 ?_ hb1))⟩
  rw [hy] at CO
  obtain ⟨n1, n2, n3⟩ := neg_ok hy y0 y1
  have hO' : O = muO fm mode x (negF fm y) := by rw [hO, su_O hy y0 y1]
  have hB' : B = adB fm mode x (negF fm y) := by
    rw [hB]; unfold suB
    cases ho : muO fm mode x y
    · rw [(ad_no (by rw [su_O hy y0 y1]; exact ho)).1]; rfl
    · rfl
  have hF' : F = adF fm mode x (negF fm y) := by
    rw [hF]; unfold suF
    cases ho : muO fm mode x y
    · rw [(ad_no (by rw [su_O hy y0 y1]; exact ho)).2]; rfl
    · rfl
  have CA := hid (fun w' h => addf_all fm mode x (negF fm y) u w' h x0 x1 n2 n3 B F O hB' hF' hO')
  have CN := hid (fun w' h => neg_i fm y w' h hy y0 y1)
  obtain ⟨ny, hny⟩ : ∃ ny, ny = negF fm y := ⟨_, rfl⟩
  rw [← hny] at CA CN
  clear hB hF hO hB' hF' hO' hy n1 n2 n3 hny
  go_enter Tryz.func17, Tryz.ntmps17
  go_wp2_with fail
  refine (CO.out _ hE.t.s.f).mono ?_
  rintro r w1 ⟨rfl, hb1⟩
  go_wp2_with fail
  refine (CN.out _ (hE.t.s.f.below hb1)).mono ?_
  rintro r w2 ⟨rfl, hb2⟩
  go_wp2_with fail
  refine (CA.out _ ((hE.below hb1).below hb2)).mono ?_
  rintro r w3 ⟨rfl, hb3⟩
  go_wp2
  go_ret3
  exact ⟨rfl, (by repeat (first | exact bz0 _ _ | refine bz1 ?_ | refine bz2 ?_ _ | refine bz3 ?_ _ | refine bz4 ?_ hb3 | refine bz4 ?_ hb2 | refine bz4 ?_ hb1 | refine bz5 ?_ _ | refine bz6 ?_ _ | refine bz7 ?_ hb3 | refine bz7 ?_ hb2 | refine bz7 ?_ hb1))⟩
namespace Fd
theorem fin_ok {fm x : Int} (h : finB fm x = true) : okF fm x = true := by
  cases ho : okF fm x
  · unfold finB cls at h; rw [ho] at h; simp at h
  · rfl
/-- A difference of near floats is a float. -/
theorem nearR_32 {x y : Int} (x0 : 0 ≤ x) (x1 : x < 4294967296) (y0 : 0 ≤ y) (y1 : y < 4294967296) (fx : finB 32 x = true) (fy : finB 32 y = true) (hs : Nm.wn (unI 32 x) = Nm.wn (unI 32 y)) (h1 : (unI 32 y).natAbs ≤ 2 * (unI 32 x).natAbs) (h2 : (unI 32 x).natAbs ≤ 2 * (unI 32 y).natAbs) (hd : unI 32 x - unI 32 y ≠ 0) (mode : Int) (hm : modeB mode = true) :
    RdF 32 mode (Nm.wn (unI 32 x - unI 32 y)) (Nm.wl (unI 32 x - unI 32 y)) (-149) = 0 ∧
    0 ≤ RdB 32 mode (Nm.wn (unI 32 x - unI 32 y)) (Nm.wl (unI 32 x - unI 32 y)) (-149) ∧ RdB 32 mode (Nm.wn (unI 32 x - unI 32 y)) (Nm.wl (unI 32 x - unI 32 y)) (-149) < 4294967296 ∧
    finB 32 (RdB 32 mode (Nm.wn (unI 32 x - unI 32 y)) (Nm.wl (unI 32 x - unI 32 y)) (-149)) = true ∧ unI 32 (RdB 32 mode (Nm.wn (unI 32 x - unI 32 y)) (Nm.wl (unI 32 x - unI 32 y)) (-149)) = unI 32 x - unI 32 y := by
  have ux := un_uf32 x0 x1 fx
  have uy := un_uf32 y0 y1 fy
  have lx := fin_lt32 x0 x1 fx
  have ly := fin_lt32 y0 y1 fy
  obtain ⟨a, ha⟩ : ∃ a : Nat, a = (x % 2147483648).toNat := ⟨_, rfl⟩
  obtain ⟨b, hb⟩ : ∃ b : Nat, b = (y % 2147483648).toNat := ⟨_, rfl⟩
  have ux' : (unI 32 x).natAbs = uf 8388608 a := by
    rw [ux]; split
    · rw [show x.toNat = a by omega]; omega
    · rw [show (x - 2147483648).toNat = a by omega]; omega
  have uy' : (unI 32 y).natAbs = uf 8388608 b := by
    rw [uy]; split
    · rw [show y.toNat = b by omega]; omega
    · rw [show (y - 2147483648).toNat = b by omega]; omega
  have hsg : (unI 32 x < 0 ↔ unI 32 y < 0) := by
    unfold Nm.wn at hs; rw [Bool.eq_iff_iff, decide_eq_true_eq, decide_eq_true_eq] at hs; exact hs
  obtain ⟨z, hz⟩ : ∃ z, z = unI 32 x - unI 32 y := ⟨_, rfl⟩
  rw [← hz] at hd ⊢
  have hL : (2 : Nat) ^ (24 - 1) = 8388608 := by decide
  have hdist : z.natAbs + uf 8388608 b = uf 8388608 a ∨ z.natAbs + uf 8388608 a = uf 8388608 b := by
    rw [← ux', ← uy', hz]; omega
  have hnf := near_flo (P := 24) (I := 2139095040) (by decide) (by decide) a b (by omega) (by omega) (by rw [hL, ← ux', ← uy']; exact h2) (by rw [hL, ← ux', ← uy']; exact h1) z.natAbs (by rw [hL]; exact hdist)
  obtain ⟨c, c1, c2⟩ := hnf
  rw [hL] at c2
  obtain ⟨v1, v2, v3, v4⟩ := unSg32 c1 (Nm.wn z)
  rw [c2] at v4
  have v5 : unI 32 (sgn 2147483648 (c : Int) (Nm.wn z)) = z := by
    rw [v4]; unfold Nm.wn
    by_cases hn : z < 0
    · rw [decide_eq_true hn, if_pos rfl]; omega
    · rw [decide_eq_false hn]; simp only [Bool.false_eq_true, if_false]; omega
  have hlen : (Nm.wl z).length ≤ 200 := by
    have := un_len 32 _ v3; rw [v5] at this; exact this
  have hRO : RdO 32 mode (Nm.wn z) (Nm.wl z) (-149) = true := by unfold RdO; rw [okB_wl hlen, hm]; rfl
  have hval : ValF 32 (sgn 2147483648 (c : Int) (Nm.wn z)) z (-149) := by
    have hq : unQ 32 = (-149) := rfl
    unfold ValF; rw [v5, hq]
  have hr := RdV_32 v1 v2 v3 mode z (-149) hm hRO hd hval
  rw [hr.1, hr.2]
  exact ⟨rfl, v1, v2, v3, v5⟩
/-- A difference of near floats is a float. -/
theorem nearR_64 {x y : Int} (x0 : 0 ≤ x) (x1 : x < 18446744073709551616) (y0 : 0 ≤ y) (y1 : y < 18446744073709551616) (fx : finB 64 x = true) (fy : finB 64 y = true) (hs : Nm.wn (unI 64 x) = Nm.wn (unI 64 y)) (h1 : (unI 64 y).natAbs ≤ 2 * (unI 64 x).natAbs) (h2 : (unI 64 x).natAbs ≤ 2 * (unI 64 y).natAbs) (hd : unI 64 x - unI 64 y ≠ 0) (mode : Int) (hm : modeB mode = true) :
    RdF 64 mode (Nm.wn (unI 64 x - unI 64 y)) (Nm.wl (unI 64 x - unI 64 y)) (-1074) = 0 ∧
    0 ≤ RdB 64 mode (Nm.wn (unI 64 x - unI 64 y)) (Nm.wl (unI 64 x - unI 64 y)) (-1074) ∧ RdB 64 mode (Nm.wn (unI 64 x - unI 64 y)) (Nm.wl (unI 64 x - unI 64 y)) (-1074) < 18446744073709551616 ∧
    finB 64 (RdB 64 mode (Nm.wn (unI 64 x - unI 64 y)) (Nm.wl (unI 64 x - unI 64 y)) (-1074)) = true ∧ unI 64 (RdB 64 mode (Nm.wn (unI 64 x - unI 64 y)) (Nm.wl (unI 64 x - unI 64 y)) (-1074)) = unI 64 x - unI 64 y := by
  have ux := un_uf64 x0 x1 fx
  have uy := un_uf64 y0 y1 fy
  have lx := fin_lt64 x0 x1 fx
  have ly := fin_lt64 y0 y1 fy
  obtain ⟨a, ha⟩ : ∃ a : Nat, a = (x % 9223372036854775808).toNat := ⟨_, rfl⟩
  obtain ⟨b, hb⟩ : ∃ b : Nat, b = (y % 9223372036854775808).toNat := ⟨_, rfl⟩
  have ux' : (unI 64 x).natAbs = uf 4503599627370496 a := by
    rw [ux]; split
    · rw [show x.toNat = a by omega]; omega
    · rw [show (x - 9223372036854775808).toNat = a by omega]; omega
  have uy' : (unI 64 y).natAbs = uf 4503599627370496 b := by
    rw [uy]; split
    · rw [show y.toNat = b by omega]; omega
    · rw [show (y - 9223372036854775808).toNat = b by omega]; omega
  have hsg : (unI 64 x < 0 ↔ unI 64 y < 0) := by
    unfold Nm.wn at hs; rw [Bool.eq_iff_iff, decide_eq_true_eq, decide_eq_true_eq] at hs; exact hs
  obtain ⟨z, hz⟩ : ∃ z, z = unI 64 x - unI 64 y := ⟨_, rfl⟩
  rw [← hz] at hd ⊢
  have hL : (2 : Nat) ^ (53 - 1) = 4503599627370496 := by decide
  have hdist : z.natAbs + uf 4503599627370496 b = uf 4503599627370496 a ∨ z.natAbs + uf 4503599627370496 a = uf 4503599627370496 b := by
    rw [← ux', ← uy', hz]; omega
  have hnf := near_flo (P := 53) (I := 9218868437227405312) (by decide) (by decide) a b (by omega) (by omega) (by rw [hL, ← ux', ← uy']; exact h2) (by rw [hL, ← ux', ← uy']; exact h1) z.natAbs (by rw [hL]; exact hdist)
  obtain ⟨c, c1, c2⟩ := hnf
  rw [hL] at c2
  obtain ⟨v1, v2, v3, v4⟩ := unSg64 c1 (Nm.wn z)
  rw [c2] at v4
  have v5 : unI 64 (sgn 9223372036854775808 (c : Int) (Nm.wn z)) = z := by
    rw [v4]; unfold Nm.wn
    by_cases hn : z < 0
    · rw [decide_eq_true hn, if_pos rfl]; omega
    · rw [decide_eq_false hn]; simp only [Bool.false_eq_true, if_false]; omega
  have hlen : (Nm.wl z).length ≤ 200 := by
    have := un_len 64 _ v3; rw [v5] at this; exact this
  have hRO : RdO 64 mode (Nm.wn z) (Nm.wl z) (-1074) = true := by unfold RdO; rw [okB_wl hlen, hm]; rfl
  have hval : ValF 64 (sgn 9223372036854775808 (c : Int) (Nm.wn z)) z (-1074) := by
    have hq : unQ 64 = (-1074) := rfl
    unfold ValF; rw [v5, hq]
  have hr := RdV_64 v1 v2 v3 mode z (-1074) hm hRO hd hval
  rw [hr.1, hr.2]
  exact ⟨rfl, v1, v2, v3, v5⟩
theorem res4 {fn : Func} {t u v x : Tmp} (h : fn.results = #[.tmp t, .tmp u, .tmp v, .tmp x]) (tmps : Array Value) (P : Program) (w : World) :
    (results fn tmps).run P w = .ok (.tuple #[tmps.getD t undef, tmps.getD u undef, tmps.getD v undef, tmps.getD x undef]) w := by
  simp [results, h]
theorem RdB_bd (fm mode z e : Int) : 0 ≤ RdB fm mode (Nm.wn z) (Nm.wl z) e ∧ RdB fm mode (Nm.wn z) (Nm.wl z) e < 18446744073709551616 := by
  cases hO : RdO fm mode (Nm.wn z) (Nm.wl z) e
  · rw [(Rd_no hO).1]; decide
  · have hf : fmtB fm = true := by unfold RdO at hO; simp at hO; exact hO.1.1.1
    rcases fmt_cases hf with rfl | rfl
    · obtain ⟨h1, h2, -, -⟩ := ord_R32 mode z e hO; omega
    · obtain ⟨h1, h2, -, -⟩ := ord_R64 mode z e hO; omega
theorem nanOf_bd (fm : Int) : 0 ≤ nanOf fm ∧ nanOf fm < 18446744073709551616 := by unfold nanOf; split <;> omega
theorem scB_bd (fm mode x n : Int) (x0 : 0 ≤ x) (x1 : x < 18446744073709551616) : 0 ≤ scB fm mode x n ∧ scB fm mode x n < 18446744073709551616 := by
  have h1 := RdB_bd fm mode (nZ fm x) (nE fm x + n)
  have h2 := nanOf_bd fm
  unfold scB
  repeat' split
  all_goals omega
theorem xor_bd (x y : Int) : 0 ≤ bits .xor .u64 x y ∧ bits .xor .u64 x y < 18446744073709551616 := by
  have lo := bits_lo_u64 .xor x y
  have hi := bits_hi_u64 .xor x y
  omega
theorem near2_x (fm : Int) (hf : fmtB fm = true) (x : Int) (hx : okF fm x = true) (x0 : 0 ≤ x) (x1 : x < 18446744073709551616) (rb : Nat) (ca : Option Addr) (cc : Nat) (cs : List Int) (w : World) (hr : RD w rb ca cc cs) :
    Calls Tryz.prog 77 #[.pointer (some ⟨rb, 0, none⟩), .int .i64 fm, .int .u64 x] w fun e w' => ∃ y : Int, e = .returned (.int .u64 y) ∧ 0 ≤ y ∧ y < 18446744073709551616 ∧ RD w' rb ca cc cs ∧ w.grownBy w' (some rb) := by
  have CF := hid (fun w' h => float_any fm hf rb ca cc cs w' h)
  have CS := hid (fun w' => sign_s fm w' hf)
  have CU := hid (fun w' => spec_up fm x w' x0 x1)
  have CI := hid (fun w' => spec_fin fm x w' x0 x1)
  have SB := hid (fun n => scB_bd fm 0 x n x0 x1)
  have SC := hid (fun n w' => sc_spec fm 0 x n w' x0 x1 _ _ _ rfl rfl rfl)
  clear hf hx
  have b1 := xor_bd x (sgOf fm)
  have b2 := xor_bd (upF fm x) (sgOf fm)
  obtain ⟨S, hS⟩ : ∃ q, q = sgOf fm := ⟨_, rfl⟩
  obtain ⟨U, hU⟩ : ∃ q, q = upF fm x := ⟨_, rfl⟩
  rw [← hS] at CS b1 b2
  rw [← hU] at CU b2
  clear hS hU
  go_enter Tryz.func77, Tryz.ntmps77
  go_wp2_with fail
  refine (below_any rb ca cc cs 6 _ hr (by decide) (by decide)).mono ?_
  rintro e w1 ⟨v, rfl, v0, v1, hr1, hg1⟩
  rcases (show v = 0 ∨ v = 1 ∨ v = 2 ∨ 2 < v by omega) with rfl | rfl | rfl | hv
  · go_wp2_with fail
    refine (CS.out _).mono ?_
    rintro e w2 ⟨rfl, hb2⟩
    go_wp2
    go_ret
    exact ⟨_, rfl, b1.1, b1.2, hr1.below hb2, grown_trans hg1 (grown_below hb2 _)⟩
  · go_wp2_with fail
    refine (CU.out _).mono ?_
    rintro e w2 ⟨rfl, hb2⟩
    go_wp2_with fail
    refine (CS.out _).mono ?_
    rintro e w3 ⟨rfl, hb3⟩
    go_wp2
    go_ret
    exact ⟨_, rfl, b2.1, b2.2, (hr1.below hb2).below hb3, grown_trans (grown_trans hg1 (grown_below hb2 _)) (grown_below hb3 _)⟩
  · go_wp2_with fail
    refine (CI.out _).mono ?_
    rintro e w2 ⟨rfl, hb2⟩
    have hr2 := hr1.below hb2
    have hg2 := grown_trans hg1 (grown_below hb2 (some rb))
    clear hr1 hb2 hg1
    cases hfin : finB fm x
    · go_wp2_with fail
      refine (CF.out _ hr2).mono ?_
      rintro e w3 ⟨y, rfl, y0, y1, hr3, hg3⟩
      go_wp2
      go_ret
      exact ⟨_, rfl, y0, y1, hr3, grown_trans hg2 hg3⟩
    · go_wp2_with fail
      refine (below_any rb ca cc cs 60 _ hr2 (by decide) (by decide)).mono ?_
      rintro e w3 ⟨n, rfl, n0, n1, hr3, hg3⟩
      have W1 : IntKind.i64.wrap (n - 55) = n - 55 := by rw [IntKind.wrap_i64]; omega
      have SCn := hid (fun w' => SC.out (n - 55) w')
      have hB := SB.out (n - 55)
      obtain ⟨B, hBe⟩ : ∃ q, q = scB fm 0 x (n - 55) := ⟨_, rfl⟩
      obtain ⟨F, hFe⟩ : ∃ q, q = scF fm 0 x (n - 55) := ⟨_, rfl⟩
      obtain ⟨O, hOe⟩ : ∃ q, q = scO fm 0 x (n - 55) := ⟨_, rfl⟩
      rw [← hBe] at hB
      rw [← hBe, ← hFe, ← hOe] at SCn
      clear hBe hFe hOe SC SB
      go_wp2_with fail
      refine (SCn.out _).mono ?_
      rintro e w4 ⟨rfl, hb4⟩
      go_wp2
      go_ret
      exact ⟨_, rfl, hB.1, hB.2, hr3.below hb4, grown_trans (grown_trans hg2 hg3) (grown_below hb4 _)⟩
  · have e0 : (v == 0) = false := by simp; omega
    have e1 : (v == 1) = false := by simp; omega
    have e2 : (v == 2) = false := by simp; omega
    go_wp2_with fail
    refine (CF.out _ hr1).mono ?_
    rintro e w3 ⟨y, rfl, y0, y1, hr3, hg3⟩
    go_wp2
    go_ret
    exact ⟨_, rfl, y0, y1, hr3, grown_trans hg1 hg3⟩
/-- A format, a mode and two floats, as they are drawn. -/
def DrQ (w w' : World) (e : Ending) : Prop := ∃ fm mode a b : Int, e = .returned (.tuple #[.int .i64 fm, .int .i64 mode, .int .u64 a, .int .u64 b]) ∧ 0 ≤ a ∧ a < 18446744073709551616 ∧ 0 ≤ b ∧ b < 18446744073709551616 ∧ Below w.heap.size w w'
theorem drawAdd_x (ca : Option Addr) (cc : Nat) (cs : List Int) (w : World) (hs : Sl .u8 w (.slice ca cs.length cc) cs) (hby : ∀ i, 0 ≤ cs.getD i 0 ∧ cs.getD i 0 ≤ 255) (hl : cs.length ≤ 1048576) :
    Calls Tryz.prog 59 #[.slice ca cs.length cc] w fun e w' => DrQ w w' e := by
  go_enter Tryz.func59, Tryz.ntmps59
  go_wp2_with fail
  refine (open_any ca cc cs _ hs hby hl).mono ?_
  rintro e w1 ⟨rfl, hr1, hb1⟩
  go_wp2_with fail
  refine (some_any w.heap.size ca cc cs _ hr1).mono ?_
  rintro e w2 ⟨fm, x, rfl, x0, x1, hr2, hg2⟩
  have bel := bel_rd hb1 hg2 (Nat.le_refl _)
  clear hb1 hg2
  go_wp2_with fail
  refine (spec_ok fm x _).mono ?_
  rintro e w3 ⟨rfl, hb3⟩
  have hr3 := hr2.below hb3
  replace bel := bel_go bel hb3
  clear hb3 hr2
  cases hok : okF fm x
  · go_wp2
    ((try simp only [Exit.inBlock, Exit.then]); refine bodyPost_ret (res4 rfl _ _ _) rfl ?_)
    exact ⟨fm, 0, x, x, rfl, x0, x1, x0, x1, bel⟩
  · have NE := hid (fun w' h => near2_x fm (ok_fmt hok) x hok x0 x1 w.heap.size ca cc cs w' h)
    clear hok
    go_wp2_with fail
    refine (off_z w.heap.size ca cc cs 0 5 _ hr3 (by decide) (by decide) (by decide)).mono ?_
    rintro e w4 ⟨m, rfl, hr4, hg4⟩
    go_wp2_with fail
    refine (NE.out _ hr4).mono ?_
    rintro e w5 ⟨y, rfl, y0, y1, hr5, hg5⟩
    go_wp2
    ((try simp only [Exit.inBlock, Exit.then]); refine bodyPost_ret (res4 rfl _ _ _) rfl ?_)
    exact ⟨fm, m, x, y, rfl, x0, x1, y0, y1, bel_rd (bel_rd bel hg4 (Nat.le_refl _)) hg5 (Nat.le_refl _)⟩
theorem drawSub_x (ca : Option Addr) (cc : Nat) (cs : List Int) (w : World) (hs : Sl .u8 w (.slice ca cs.length cc) cs) (hby : ∀ i, 0 ≤ cs.getD i 0 ∧ cs.getD i 0 ≤ 255) (hl : cs.length ≤ 1048576) :
    Calls Tryz.prog 16 #[.slice ca cs.length cc] w fun e w' => DrQ w w' e := by
  go_enter Tryz.func16, Tryz.ntmps16
  go_wp2_with fail
  refine (drawAdd_x ca cc cs _ hs hby hl).mono ?_
  rintro e w1 ⟨fm, m, x, y, rfl, x0, x1, y0, y1, bel⟩
  go_wp2
  ((try simp only [Exit.inBlock, Exit.then]); refine bodyPost_ret (res4 rfl _ _ _) rfl ?_)
  exact ⟨fm, m, x, y, rfl, x0, x1, y0, y1, bel⟩
end Fd
end Go.Proofs.YtmcflggionkhlaaGreatDoor
