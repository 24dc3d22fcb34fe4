/-
  What is needed of Bits, FloatG, FloatM, AE, FA, FB.
-/
import Derived.Test.YtbhfbaogmkgmiaaGreatDoorC43
import Derived.Test.YtbhfbaogmkgmiaaGreatDoorC56
set_option maxHeartbeats 16000000
set_option maxRecDepth 1000000
namespace Go.Proofs.YtbhfbaogmkgmiaaGreatDoor
set_option linter.unusedVariables false
set_option linter.unusedSimpArgs false
namespace Bt
theorem xor31 (x : Int) (h0 : 0 ≤ x) (h1 : x < 18446744073709551616) : bits .xor .u64 x 2147483648 = if x / 2147483648 % 2 = 0 then x + 2147483648 else x - 2147483648 := by
  obtain ⟨n, rfl⟩ := Int.eq_ofNat_of_zero_le h0
  have := u64_xor_nat n 2147483648 (by omega) (by decide)
  rw [show ((2147483648 : Nat) : Int) = 2147483648 from rfl] at this
  rw [this, nxor31]
  split <;> split <;> omega

theorem xor63 (x : Int) (h0 : 0 ≤ x) (h1 : x < 18446744073709551616) : bits .xor .u64 x 9223372036854775808 = if x / 9223372036854775808 % 2 = 0 then x + 9223372036854775808 else x - 9223372036854775808 := by
  obtain ⟨n, rfl⟩ := Int.eq_ofNat_of_zero_le h0
  have := u64_xor_nat n 9223372036854775808 (by omega) (by decide)
  rw [show ((9223372036854775808 : Nat) : Int) = 9223372036854775808 from rfl] at this
  rw [this, nxor63]
  split <;> split <;> omega

end Bt
open Go.RowKit
/-- The sign turned; the sign gone; whether there is one. -/
def negF (fm x : Int) : Int := if okF fm x then (if x < sgOf fm then x + sgOf fm else x - sgOf fm) else 0
theorem neg32 {x : Int} (h : x < 4294967296) : negF 32 x = if x < 2147483648 then x + 2147483648 else x - 2147483648 := by unfold negF; rw [okF32 h]; rfl
theorem neg64 {x : Int} : negF 64 x = if x < 9223372036854775808 then x + 9223372036854775808 else x - 9223372036854775808 := by unfold negF; rw [okF64]; rfl
theorem impl_neg32 (x : Int) (w : World) (h : Tab w) (h0 : 0 ≤ x) (h1 : x < 4294967296) :
    Calls Tryz.prog 32 #[.int .i64 32, .int .u64 x] w fun e w' => e = .returned (.int .u64 (if x < 2147483648 then x + 2147483648 else x - 2147483648)) ∧ Below w.heap.size w w' := by
  have hok : okF 32 x = true := by simp [okF, h1]
  have h1' : x < 18446744073709551616 := by omega
  obtain ⟨y, hy⟩ : ∃ y, y = if x < 2147483648 then x + 2147483648 else x - 2147483648 := ⟨_, rfl⟩
  rw [← hy]
  have e : bits .xor .u64 x 2147483648 = y := by rw [Bt.xor31 x h0 (by omega), hy]; split <;> split <;> omega
  clear hy
  go_enter Tryz.func32, Tryz.ntmps32
  go_wp2_with fail
  refine (impl_ok 32 x _ h h0 h1').mono ?_
  rintro e w1 ⟨rfl, hb1⟩
  have hT1 := h.below hb1
  go_wp2_with fail
  refine (sizes32 _ hT1).mono ?_
  rintro e w2 ⟨rfl, hb2⟩
  go_wp2_with (go_at_call 106; refine (sign32 _).mono ?_; rintro e w3 ⟨rfl, hb3⟩)
  go_ret
  exact ⟨rfl, (by repeat (first | exact bz0 _ _ | refine bz1 ?_ | refine bz2 ?_ _ | refine bz3 ?_ _ | refine bz4 ?_ hb3 | refine bz4 ?_ hb2 | refine bz4 ?_ hb1 | refine bz5 ?_ _ | refine bz6 ?_ _ | refine bz7 ?_ hb3 | refine bz7 ?_ hb2 | refine bz7 ?_ hb1))⟩
theorem impl_neg64 (x : Int) (w : World) (h : Tab w) (h0 : 0 ≤ x) (h1 : x < 18446744073709551616) :
    Calls Tryz.prog 32 #[.int .i64 64, .int .u64 x] w fun e w' => e = .returned (.int .u64 (if x < 9223372036854775808 then x + 9223372036854775808 else x - 9223372036854775808)) ∧ Below w.heap.size w w' := by
  have hok : okF 64 x = true := by simp [okF, h1]
  have h1' : x < 18446744073709551616 := by omega
  obtain ⟨y, hy⟩ : ∃ y, y = if x < 9223372036854775808 then x + 9223372036854775808 else x - 9223372036854775808 := ⟨_, rfl⟩
  rw [← hy]
  have e : bits .xor .u64 x 9223372036854775808 = y := by rw [Bt.xor63 x h0 (by omega), hy]; split <;> split <;> omega
  clear hy
  go_enter Tryz.func32, Tryz.ntmps32
  go_wp2_with fail
  refine (impl_ok 64 x _ h h0 h1').mono ?_
  rintro e w1 ⟨rfl, hb1⟩
  have hT1 := h.below hb1
  go_wp2_with fail
  refine (sizes64 _ hT1).mono ?_
  rintro e w2 ⟨rfl, hb2⟩
  go_wp2_with (go_at_call 106; refine (sign64 _).mono ?_; rintro e w3 ⟨rfl, hb3⟩)
  go_ret
  exact ⟨rfl, (by repeat (first | exact bz0 _ _ | refine bz1 ?_ | refine bz2 ?_ _ | refine bz3 ?_ _ | refine bz4 ?_ hb3 | refine bz4 ?_ hb2 | refine bz4 ?_ hb1 | refine bz5 ?_ _ | refine bz6 ?_ _ | refine bz7 ?_ hb3 | refine bz7 ?_ hb2 | refine bz7 ?_ hb1))⟩
theorem neg_ok {fm x : Int} (h : okF fm x = true) (h0 : 0 ≤ x) (h1 : x < 18446744073709551616) : okF fm (negF fm x) = true ∧ 0 ≤ negF fm x ∧ negF fm x < 18446744073709551616 := by
  rcases okF_cases h with ⟨rfl, hx⟩ | rfl
  · rw [neg32 hx]
    split
    · exact ⟨okF32 (by omega), by omega, by omega⟩
    · exact ⟨okF32 (by omega), by omega, by omega⟩
  · rw [neg64]
    split
    · exact ⟨okF64, by omega, by omega⟩
    · exact ⟨okF64, by omega, by omega⟩
end Go.Proofs.YtbhfbaogmkgmiaaGreatDoor
namespace Go.Proofs.YtbhfbaogmkgmiaaGreatDoor
set_option linter.unusedVariables false
set_option linter.unusedSimpArgs false
open Go.RowKit Go.Deep
theorem sQb (fm : Int) (w : World) (h : fmtB fm = true) : Calls Tryz.prog 71 #[.int .i64 fm] w fun e w' => e = .returned (.int .i64 (unQ fm)) ∧ Below w.heap.size w w' :=
  (sQ_any fm w h).mono fun e w' ⟨a, b⟩ => ⟨a, b ▸ Below.refl _ _⟩
theorem none4 (fm mode : Int) (s1 s2 : Bool) (w : World) (h : fmtB fm = true) :
    Calls Tryz.prog 140 #[.int .i64 fm, .int .i64 mode, .bool s1, .bool s2] w fun e w' => e = .returned (.int .u64 (sgn (sgOf fm) 0 (s1 && s2 || ((s1 != s2) && decide (mode = 3))))) ∧ Below w.heap.size w w' := by
  have C := hid (fun ng w' => with_s fm 0 ng w' h (by decide) (.inl (by decide)))
  obtain ⟨m3, hm3⟩ : ∃ m, m = decide (mode = 3) := ⟨_, rfl⟩
  have hmd : (mode == 3) = m3 := by rw [hm3, Bool.eq_iff_iff, beq_iff_eq, decide_eq_true_eq]
  rw [← hm3]
  obtain ⟨S, hS⟩ : ∃ S, S = sgOf fm := ⟨_, rfl⟩
  rw [← hS] at C ⊢
  clear hm3 hS
  cases s1 <;> cases s2
  all_goals
    go_enter Tryz.func140, Tryz.ntmps140
    go_wp2_with fail
    refine (C.out _ _).mono ?_
    rintro r w1 ⟨rfl, hb1⟩
    go_wp2
    go_ret
    exact ⟨by simp, (by repeat (first | exact bz0 _ _ | refine bz1 ?_ | refine bz2 ?_ _ | refine bz3 ?_ _ | refine bz4 ?_ hb1 | refine bz5 ?_ _ | refine bz6 ?_ _ | refine bz7 ?_ hb1))⟩
theorem un_lenA (fm x : Int) : (Nm.wl (unI fm x)).length ≤ 200 := by unfold Nm.wl; exact lim_len (k := 200) (by have := un_blA fm x; omega)
theorem l4add (fm mode x y : Int) (w : World) (hx : okF fm x = true) (hy : okF fm y = true) (x0 : 0 ≤ x) (x1 : x < 18446744073709551616) (y0 : 0 ≤ y) (y1 : y < 18446744073709551616) (hm : modeB mode = true) (nx : nanB fm x = false) (ny : nanB fm y = false) (B F : Int) (hB : B = aB fm mode x y) (hF : F = aF fm mode x y) :
    Calls Tryz.prog 95 #[.int .i64 fm, .int .i64 mode, .int .u64 x, .int .u64 y] w fun r w' => r = .returned (.tuple #[.int .u64 B, .int .i64 F]) ∧ Below w.heap.size w w' := by
  have hfm := ok_fmt hx
  have CI1 := hid (fun w' => inf4 fm x w' hx x0 x1 _ rfl)
  have CI2 := hid (fun w' => inf4 fm y w' hy y0 y1 _ rfl)
  have CN := hid (fun w' => nan_s fm w' hfm)
  unfold aB at hB
  unfold aF at hF
  cases hi : nI fm x with
  | true =>
    rw [hi] at CI1 hB hF
    cases hj : nI fm y with
    | true =>
      rw [hj] at CI2 hB hF
      cases hxy : (x != y) with
      | true =>
        rw [hxy] at hB hF
        have hB' : B = nanOf fm := hB
        have hF' : F = 8 := hF
        rw [← hB'] at CN
        subst hF'
        clear hB hF hB' hi hj nx ny hm hfm hx hy
        go_enter Tryz.func95, Tryz.ntmps95
        go_wp2_with fail
        refine (CI1.out _).mono ?_
        rintro r w1 ⟨rfl, hb1⟩
        go_wp2_with fail
        refine (CI2.out _).mono ?_
        rintro r w2 ⟨rfl, hb2⟩
        go_wp2_with fail
        refine (CN.out _).mono ?_
        rintro r w3 ⟨rfl, hb3⟩
        go_wp2
        go_ret2
        exact ⟨rfl, (by repeat (first | exact bz0 _ _ | refine bz1 ?_ | refine bz2 ?_ _ | refine bz3 ?_ _ | refine bz4 ?_ hb3 | refine bz4 ?_ hb2 | refine bz4 ?_ hb1 | refine bz5 ?_ _ | refine bz6 ?_ _ | refine bz7 ?_ hb3 | refine bz7 ?_ hb2 | refine bz7 ?_ hb1))⟩
      | false =>
        rw [hxy] at hB hF
        have hB' : B = x := hB
        have hF' : F = 0 := hF
        subst hB' hF'
        clear hB hF hi hj nx ny hm hfm hx hy
        go_enter Tryz.func95, Tryz.ntmps95
        go_wp2_with fail
        refine (CI1.out _).mono ?_
        rintro r w1 ⟨rfl, hb1⟩
        go_wp2_with fail
        refine (CI2.out _).mono ?_
        rintro r w2 ⟨rfl, hb2⟩
        go_wp2_with fail
        refine (CI1.out _).mono ?_
        rintro r w3 ⟨rfl, hb3⟩
        go_wp2
        go_ret2
        exact ⟨rfl, (by repeat (first | exact bz0 _ _ | refine bz1 ?_ | refine bz2 ?_ _ | refine bz3 ?_ _ | refine bz4 ?_ hb3 | refine bz4 ?_ hb2 | refine bz4 ?_ hb1 | refine bz5 ?_ _ | refine bz6 ?_ _ | refine bz7 ?_ hb3 | refine bz7 ?_ hb2 | refine bz7 ?_ hb1))⟩
    | false =>
      rw [hj] at CI2 hB hF
      have hB' : B = x := hB
      have hF' : F = 0 := hF
      subst hB' hF'
      clear hB hF hi hj nx ny hm hfm hx hy
      go_enter Tryz.func95, Tryz.ntmps95
      go_wp2_with fail
      refine (CI1.out _).mono ?_
      rintro r w1 ⟨rfl, hb1⟩
      go_wp2_with fail
      refine (CI2.out _).mono ?_
      rintro r w2 ⟨rfl, hb2⟩
      go_wp2_with fail
      refine (CI1.out _).mono ?_
      rintro r w3 ⟨rfl, hb3⟩
      go_wp2
      go_ret2
      exact ⟨rfl, (by repeat (first | exact bz0 _ _ | refine bz1 ?_ | refine bz2 ?_ _ | refine bz3 ?_ _ | refine bz4 ?_ hb3 | refine bz4 ?_ hb2 | refine bz4 ?_ hb1 | refine bz5 ?_ _ | refine bz6 ?_ _ | refine bz7 ?_ hb3 | refine bz7 ?_ hb2 | refine bz7 ?_ hb1))⟩
  | false =>
  rw [hi] at CI1 hB hF
  cases hj : nI fm y with
  | true =>
    rw [hj] at CI2 hB hF
    have hB' : B = y := hB
    have hF' : F = 0 := hF
    subst hB' hF'
    clear hB hF hi hj nx ny hm hfm hx hy
    go_enter Tryz.func95, Tryz.ntmps95
    go_wp2_with fail
    refine (CI1.out _).mono ?_
    rintro r w1 ⟨rfl, hb1⟩
    go_wp2_with fail
    refine (CI1.out _).mono ?_
    rintro r w2 ⟨rfl, hb2⟩
    go_wp2_with fail
    refine (CI2.out _).mono ?_
    rintro r w3 ⟨rfl, hb3⟩
    go_wp2
    go_ret2
    exact ⟨rfl, (by repeat (first | exact bz0 _ _ | refine bz1 ?_ | refine bz2 ?_ _ | refine bz3 ?_ _ | refine bz4 ?_ hb3 | refine bz4 ?_ hb2 | refine bz4 ?_ hb1 | refine bz5 ?_ _ | refine bz6 ?_ _ | refine bz7 ?_ hb3 | refine bz7 ?_ hb2 | refine bz7 ?_ hb1))⟩
  | false =>
    rw [hj] at CI2 hB hF
    have hfx := (nan_cases hx nx).resolve_right (by rw [hi]; decide)
    have hfy := (nan_cases hy ny).resolve_right (by rw [hj]; decide)
    have CU1 := hid (fun w' => l2units_any fm x w' hfx x0 x1)
    have CU2 := hid (fun w' => l2units_any fm y w' hfy y0 y1)
    have CA := hid (fun a c b d w' h h' => l1add_any (Nm.wn (unI fm x)) (Nm.wn (unI fm y)) a b c d (Nm.wl (unI fm x)) (Nm.wl (unI fm y)) w' h h' (Nm.wl_dg _) (Nm.wl_dg _) (Nm.wl_nz _) (Nm.wl_nz _) (by have := un_lenA fm x; omega) (by have := un_lenA fm y; omega) (unI fm x + unI fm y) (by rw [Nm.wv_out, Nm.wv_out]))
    have hul := uu_len fm x y
    by_cases hz : (unI fm x + unI fm y) = 0
    · have CS1 := hid (fun w' => spec_l2neg fm x w' hx x0 x1)
      have CS2 := hid (fun w' => spec_l2neg fm y w' hy y0 y1)
      have CZ := hid (fun w' => none4 fm mode (sigB fm x) (sigB fm y) w' hfm)
      have hB' : B = sgn (sgOf fm) 0 (sigB fm x && sigB fm y || ((sigB fm x != sigB fm y) && decide (mode = 3))) := by rw [hB]; simp [hz]
      have hF' : F = 0 := by rw [hF]; simp [hz]
      rw [← hB'] at CZ
      subst hF'
      have hw0 : Nm.wl 0 = [] := Nm.lim_zero
      have hn0 : Nm.wn 0 = false := by decide
      rw [hz, hw0, hn0] at CA
      obtain ⟨s1, hs1⟩ : ∃ s, s = sigB fm x := ⟨_, rfl⟩
      obtain ⟨s2, hs2⟩ : ∃ s, s = sigB fm y := ⟨_, rfl⟩
      obtain ⟨G1, hG1⟩ : ∃ s, s = Nm.wn (unI fm x) := ⟨_, rfl⟩
      obtain ⟨G2, hG2⟩ : ∃ s, s = Nm.wn (unI fm y) := ⟨_, rfl⟩
      obtain ⟨L1, hL1⟩ : ∃ s, s = Nm.wl (unI fm x) := ⟨_, rfl⟩
      obtain ⟨L2, hL2⟩ : ∃ s, s = Nm.wl (unI fm y) := ⟨_, rfl⟩
      rw [← hs1] at CS1 CZ
      rw [← hs2] at CS2 CZ
      simp only [← hG1, ← hL1] at CU1
      simp only [← hG2, ← hL2] at CU2
      simp only [← hG1, ← hL1, ← hG2, ← hL2] at CA
      clear hB hF hB' hi hj nx ny hm hfm hx hy hfx hfy hz hul hs1 hs2 hG1 hG2 hL1 hL2 hw0 hn0
      go_enter Tryz.func95, Tryz.ntmps95
      go_wp2_with fail
      refine (CI1.out _).mono ?_
      rintro r w1 ⟨rfl, hb1⟩
      go_wp2_with fail
      refine (CI1.out _).mono ?_
      rintro r w2 ⟨rfl, hb2⟩
      go_wp2_with fail
      refine (CI2.out _).mono ?_
      rintro r w3 ⟨rfl, hb3⟩
      go_wp2_with fail
      refine (CU1.out _).mono ?_
      rintro r w4 ⟨a4, c4, rfl, o4, hb4⟩
      go_wp2_with fail
      refine (CU2.out _).mono ?_
      rintro r w5 ⟨a5, c5, rfl, o5, hb5⟩
      go_wp2_with fail
      refine (CA.out a4 c4 a5 c5 _ (o4.below hb5).sl o5.sl).mono ?_
      rintro r w6 ⟨a6, c6, rfl, o6, hb6⟩
      obtain ⟨d0, d1⟩ := Box.new w6 (.bool false) (.slice a6 0 c6) 26
      go_wp2_with fail
      refine (CS1.out _).mono ?_
      rintro r w7 ⟨rfl, hb7⟩
      go_wp2_with fail
      refine (CS2.out _).mono ?_
      rintro r w8 ⟨rfl, hb8⟩
      go_wp2_with fail
      refine (CZ.out _).mono ?_
      rintro r w9 ⟨rfl, hb9⟩
      go_wp2
      go_ret2
      exact ⟨rfl, (by repeat (first | exact bz0 _ _ | refine bz1 ?_ | refine bz2 ?_ _ | refine bz3 ?_ _ | refine bz4 ?_ hb9 | refine bz4 ?_ hb8 | refine bz4 ?_ hb7 | refine bz4 ?_ hb6 | refine bz4 ?_ hb5 | refine bz4 ?_ hb4 | refine bz4 ?_ hb3 | refine bz4 ?_ hb2 | refine bz4 ?_ hb1 | refine bz5 ?_ _ | refine bz6 ?_ _ | refine bz7 ?_ hb9 | refine bz7 ?_ hb8 | refine bz7 ?_ hb7 | refine bz7 ?_ hb6 | refine bz7 ?_ hb5 | refine bz7 ?_ hb4 | refine bz7 ?_ hb3 | refine bz7 ?_ hb2 | refine bz7 ?_ hb1))⟩
    · have hB' : B = RdB fm mode (Nm.wn (unI fm x + unI fm y)) (Nm.wl (unI fm x + unI fm y)) (unQ fm) := by rw [hB]; simp [hz]
      have hF' : F = RdF fm mode (Nm.wn (unI fm x + unI fm y)) (Nm.wl (unI fm x + unI fm y)) (unQ fm) := by rw [hF]; simp [hz]
      have hq := unq_bd fm
      have CR := hid (fun p c w' h => l3r_any fm mode (unI fm x + unI fm y) (unQ fm) p c w' h hz (rdo_any hfm hm hul (by omega) (by omega)))
      simp only [← hB', ← hF'] at CR
      have CQ := hid (fun w' => sQb fm w' hfm)
      have hln : (Nm.wl (unI fm x + unI fm y)).length ≠ 0 := by unfold Nm.wl; rw [Ne, Nm.lim_length_zero]; omega
      obtain ⟨G1, hG1⟩ : ∃ s, s = Nm.wn (unI fm x) := ⟨_, rfl⟩
      obtain ⟨G2, hG2⟩ : ∃ s, s = Nm.wn (unI fm y) := ⟨_, rfl⟩
      obtain ⟨L1, hL1⟩ : ∃ s, s = Nm.wl (unI fm x) := ⟨_, rfl⟩
      obtain ⟨L2, hL2⟩ : ∃ s, s = Nm.wl (unI fm y) := ⟨_, rfl⟩
      obtain ⟨G, hG⟩ : ∃ s, s = Nm.wn (unI fm x + unI fm y) := ⟨_, rfl⟩
      obtain ⟨L, hL⟩ : ∃ s, s = Nm.wl (unI fm x + unI fm y) := ⟨_, rfl⟩
      obtain ⟨q, hq'⟩ : ∃ s, s = unQ fm := ⟨_, rfl⟩
      simp only [← hG1, ← hL1] at CU1
      simp only [← hG2, ← hL2] at CU2
      simp only [← hG, ← hL] at CA
      simp only [← hG1, ← hL1, ← hG2, ← hL2] at CA
      simp only [← hG, ← hL, ← hq'] at CR
      rw [← hq'] at CQ
      rw [← hL] at hln hul
      have hb0 : ((L.length : Int) == 0) = false := by rw [beq_eq_false_iff_ne]; omega
      clear hB hF hB' hF' hi hj nx ny hm hfm hx hy hfx hfy hz hG1 hG2 hL1 hL2 hG hL hq' hq hln
      go_enter Tryz.func95, Tryz.ntmps95
      go_wp2_with fail
      refine (CI1.out _).mono ?_
      rintro r w1 ⟨rfl, hb1⟩
      go_wp2_with fail
      refine (CI1.out _).mono ?_
      rintro r w2 ⟨rfl, hb2⟩
      go_wp2_with fail
      refine (CI2.out _).mono ?_
      rintro r w3 ⟨rfl, hb3⟩
      go_wp2_with fail
      refine (CU1.out _).mono ?_
      rintro r w4 ⟨a4, c4, rfl, o4, hb4⟩
      go_wp2_with fail
      refine (CU2.out _).mono ?_
      rintro r w5 ⟨a5, c5, rfl, o5, hb5⟩
      go_wp2_with fail
      refine (CA.out a4 c4 a5 c5 _ (o4.below hb5).sl o5.sl).mono ?_
      rintro r w6 ⟨a6, c6, rfl, o6, hb6⟩
      have D := Box.new w6 (.bool G) (.slice a6 L.length c6) 26
      have D' := D
      obtain ⟨d0, d1⟩ := D'
      have o7 := o6.alloc (.cells #[.bool G, .slice a6 L.length c6] 26)
      have bel6 : Below w.heap.size w w6 := (by repeat (first | exact bz0 _ _ | refine bz1 ?_ | refine bz2 ?_ _ | refine bz3 ?_ _ | refine bz4 ?_ hb6 | refine bz4 ?_ hb5 | refine bz4 ?_ hb4 | refine bz4 ?_ hb3 | refine bz4 ?_ hb2 | refine bz4 ?_ hb1 | refine bz5 ?_ _ | refine bz6 ?_ _ | refine bz7 ?_ hb6 | refine bz7 ?_ hb5 | refine bz7 ?_ hb4 | refine bz7 ?_ hb3 | refine bz7 ?_ hb2 | refine bz7 ?_ hb1))
      have Dd : Box (w6.alloc (.cells #[.bool G, .slice a6 L.length c6] 26)).drew w6.heap.size (.bool G) (.slice a6 L.length c6) := D
      have dd : (w6.alloc (.cells #[.bool G, .slice a6 L.length c6] 26)).drew.cell? ⟨w6.heap.size, 0, none⟩ = some (.bool G) ∧ (w6.alloc (.cells #[.bool G, .slice a6 L.length c6] 26)).drew.cell? ⟨w6.heap.size, 1, none⟩ = some (.slice a6 L.length c6) := Dd
      clear hb1 hb2 hb3 hb4 hb5 hb6 o4 o5 o6
      go_wp2_with fail
      go_region_held3 (fun w' => w'.cell? ⟨w6.heap.size, 0, none⟩ = some (.bool G) ∧ w'.cell? ⟨w6.heap.size, 1, none⟩ = some (.slice a6 L.length c6))
        (first | with_reducible assumption | with_reducible exact dd | fail)
        (first
          | (go_at_call 71; refine (CQ.out _).mono ?_; rintro r q1 ⟨rfl, hq1⟩; have D1 := Box.below Dd hq1; have u1 := And.intro D1.1 D1.2; have o8 := o7.drew.below hq1)
          | (go_at_call 121; refine (CR.out a6 c6 _ o8.sl).mono ?_; rintro r q2 ⟨rfl, hq2⟩; have D2 := D1.below hq2; have u2 := And.intro D2.1 D2.2))
      go_wp2
      go_ret2
      exact ⟨rfl, (by repeat (first | exact bz0 _ _ | refine bz1 ?_ | refine bz2 ?_ _ | refine bz3 ?_ _ | refine bz4 ?_ hq2 | refine bz4 ?_ hq1 | refine bz4 ?_ bel6 | refine bz5 ?_ _ | refine bz6 ?_ _ | refine bz7 ?_ hq2 | refine bz7 ?_ hq1 | refine bz7 ?_ bel6))⟩
theorem add_spec (fm mode x y : Int) (w : World) (x0 : 0 ≤ x) (x1 : x < 18446744073709551616) (y0 : 0 ≤ y) (y1 : y < 18446744073709551616) (B F : Int) (O : Bool) (hB : B = adB fm mode x y) (hF : F = adF fm mode x y) (hO : O = muO fm mode x y) :
    Calls Tryz.prog 27 #[.int .i64 fm, .int .i64 mode, .int .u64 x, .int .u64 y] w fun r w' => r = .returned (.tuple #[.int .u64 B, .int .i64 F, .bool O]) ∧ Below w.heap.size w w' := by
  have dx := d64_2 x0 x1 y0 y1
  have CF := hid (fun w' h => l4form fm mode (some ⟨w.heap.size, 0, none⟩) 2 [x, y] w' h (by simp))
  rw [all2_fmt] at CF
  have s2 := sl64_2 w x y 29
  cases ho : muO fm mode x y
  · obtain ⟨e1, e2⟩ := ad_no ho
    rw [e1] at hB; rw [e2] at hF; rw [ho] at hO
    subst hB hF hO
    have ho' : (modeB mode && allB fm [x, y]) = false := ho
    rw [ho'] at CF
    clear ho ho' e1 e2 dx
    go_enter Tryz.func27, Tryz.ntmps27
    go_wp2_with fail
    refine (CF.out _ s2).mono ?_
    rintro r w1 ⟨rfl, hb1⟩
    go_wp2
    go_ret3
    exact ⟨rfl, (by repeat (first | exact bz0 _ _ | refine bz1 ?_ | refine bz2 ?_ _ | refine bz3 ?_ _ | refine bz4 ?_ hb1 | refine bz5 ?_ _ | refine bz6 ?_ _ | refine bz7 ?_ hb1))⟩
  have ho' : (modeB mode && allB fm [x, y]) = true := ho
  rw [ho'] at CF
  obtain ⟨hm, ha⟩ : modeB mode = true ∧ allB fm [x, y] = true := by simpa using ho'
  obtain ⟨hx, hy⟩ := all2 ha
  have hfm := ok_fmt hx
  have CN := hid (fun a w' h => l4nan fm a 2 [x, y] w' h dx (by simp) hfm ha)
  have e1 : [x, y].any (nanB fm) = (nanB fm x || nanB fm y) := by simp
  have e2 : [x, y].any (nB fm) = (nB fm x || nB fm y) := by simp
  rw [e1, e2] at CN
  cases hn : (nanB fm x || nanB fm y)
  · obtain ⟨nx, ny⟩ : nanB fm x = false ∧ nanB fm y = false := by simpa using hn
    rw [hn] at CN
    have hB' : B = aB fm mode x y := by
      rw [hB]; unfold adB; rw [ho, if_pos rfl, hn]; rfl
    have hF' : F = aF fm mode x y := by
      rw [hF]; unfold adF; rw [ho, if_pos rfl, hn]; rfl
    have CM := hid (fun w' => l4add fm mode x y w' hx hy x0 x1 y0 y1 hm nx ny B F hB' hF')
    rw [ho] at hO
    subst hO
    obtain ⟨q1, hq1⟩ : ∃ i, i = nanOf fm := ⟨_, rfl⟩
    obtain ⟨q2, hq2⟩ : ∃ i : Int, i = fl8 (nB fm x || nB fm y) := ⟨_, rfl⟩
    rw [← hq1, ← hq2] at CN
    clear hB hF hB' hF' hn nx ny ho ho' dx e1 e2 hq1 hq2 hm ha hx hy hfm
    go_enter Tryz.func27, Tryz.ntmps27
    go_wp2_with fail
    refine (CF.out _ s2).mono ?_
    rintro r w1 ⟨rfl, hb1⟩
    go_wp2_with fail
    refine (CN.out _ _ (sl64_2 w1 x y 29)).mono ?_
    rintro r w2 ⟨rfl, hb2⟩
    go_wp2_with fail
    refine (CM.out _).mono ?_
    rintro r w3 ⟨rfl, hb3⟩
    go_wp2
    go_ret3
    exact ⟨rfl, (by repeat (first | exact bz0 _ _ | refine bz1 ?_ | refine bz2 ?_ _ | refine bz3 ?_ _ | refine bz4 ?_ hb3 | refine bz4 ?_ hb2 | refine bz4 ?_ hb1 | refine bz5 ?_ _ | refine bz6 ?_ _ | refine bz7 ?_ hb3 | refine bz7 ?_ hb2 | refine bz7 ?_ hb1))⟩
  · rw [hn] at CN
    have hB' : B = nanOf fm := by rw [hB]; unfold adB; rw [ho, if_pos rfl, hn]; rfl
    have hF' : F = fl8 (nB fm x || nB fm y) := by rw [hF]; unfold adF; rw [ho, if_pos rfl, hn]; rfl
    rw [← hB', ← hF'] at CN
    rw [ho] at hO
    subst hO
    clear hB hF hB' hF' hn ho ho' dx e1 e2 hm ha hx hy hfm
    go_enter Tryz.func27, Tryz.ntmps27
    go_wp2_with fail
    refine (CF.out _ s2).mono ?_
    rintro r w1 ⟨rfl, hb1⟩
    go_wp2_with fail
    refine (CN.out _ _ (sl64_2 w1 x y 29)).mono ?_
    rintro r w2 ⟨rfl, hb2⟩
    go_wp2
    go_ret3
    exact ⟨rfl, (by repeat (first | exact bz0 _ _ | refine bz1 ?_ | refine bz2 ?_ _ | refine bz3 ?_ _ | refine bz4 ?_ hb2 | refine bz4 ?_ hb1 | refine bz5 ?_ _ | refine bz6 ?_ _ | refine bz7 ?_ hb2 | refine bz7 ?_ hb1))⟩
theorem neg_i (fm y : Int) (w : World) (hT : Tab w) (hy : okF fm y = true) (y0 : 0 ≤ y) (y1 : y < 18446744073709551616) :
    Calls Tryz.prog 32 #[.int .i64 fm, .int .u64 y] w fun e w' => e = .returned (.int .u64 (negF fm y)) ∧ Below w.heap.size w w' := by
  rcases okF_cases hy with ⟨rfl, hy'⟩ | rfl
  · rw [neg32 hy']; exact impl_neg32 y w hT y0 hy'
  · rw [neg64]; exact impl_neg64 y w hT y0 y1
/-- A difference, of all floats. -/
def suB (fm mode x y : Int) : Int := if muO fm mode x y then adB fm mode x (negF fm y) else 0
def suF (fm mode x y : Int) : Int := if muO fm mode x y then adF fm mode x (negF fm y) else 0
theorem su_O {fm mode x y : Int} (hy : okF fm y = true) (y0 : 0 ≤ y) (y1 : y < 18446744073709551616) : muO fm mode x (negF fm y) = muO fm mode x y := by
  have h := (neg_ok hy y0 y1).1
  unfold muO allB; simp [h, hy]
theorem su_no {fm mode x y : Int} (h : muO fm mode x y = false) : suB fm mode x y = 0 ∧ suF fm mode x y = 0 := by unfold suB suF; rw [h]; exact ⟨rfl, rfl⟩
theorem subi_all (fm mode x y : Int) (u : Value) (w : World) (hE : E3 u w) (x0 : 0 ≤ x) (x1 : x < 18446744073709551616) (y0 : 0 ≤ y) (y1 : y < 18446744073709551616) (B F : Int) (O : Bool) (hB : B = suB fm mode x y) (hF : F = suF fm mode x y) (hO : O = muO fm mode x y) :
    Calls Tryz.prog 31 #[.int .i64 fm, .int .i64 mode, .int .u64 x, .int .u64 y] w fun r w' => r = .returned (.tuple #[.int .u64 B, .int .i64 F, .bool O]) ∧ Below w.heap.size w w' := by
  have CO := hid (fun w' h => impl_ok fm y w' h y0 y1)
  cases hy : okF fm y
  · have ho : muO fm mode x y = false := by unfold muO allB; simp [hy]
    obtain ⟨e1, e2⟩ := su_no ho
    rw [e1] at hB; rw [e2] at hF; rw [ho] at hO
    subst hB hF hO
    rw [hy] at CO
    clear ho e1 e2 hy
    go_enter Tryz.func31, Tryz.ntmps31
    go_wp2_with fail
    refine (CO.out _ hE.t.s.f).mono ?_
    rintro r w1 ⟨rfl, hb1⟩
    go_wp2
    go_ret3
    exact ⟨rfl, (by repeat (first | exact bz0 _ _ | refine bz1 ?_ | refine bz2 ?_ _ | refine bz3 ?_ _ | refine bz4 ?_ hb1 | refine bz5 ?_ _ | refine bz6 ?_ _ | refine bz7 ?_ hb1))⟩
  rw [hy] at CO
  obtain ⟨n1, n2, n3⟩ := neg_ok hy y0 y1
  have hO' : O = muO fm mode x (negF fm y) := by rw [hO, su_O hy y0 y1]
  have hB' : B = adB fm mode x (negF fm y) := by
    rw [hB]; unfold suB
    cases ho : muO fm mode x y
    · rw [(ad_no (by rw [su_O hy y0 y1]; exact ho)).1]; rfl
    · rfl
  have hF' : F = adF fm mode x (negF fm y) := by
    rw [hF]; unfold suF
    cases ho : muO fm mode x y
    · rw [(ad_no (by rw [su_O hy y0 y1]; exact ho)).2]; rfl
    · rfl
  have CA := hid (fun w' h => addf_all fm mode x (negF fm y) u w' h x0 x1 n2 n3 B F O hB' hF' hO')
  have CN := hid (fun w' h => neg_i fm y w' h hy y0 y1)
  obtain ⟨ny, hny⟩ : ∃ ny, ny = negF fm y := ⟨_, rfl⟩
  rw [← hny] at CA CN
  clear hB hF hO hB' hF' hO' hy n1 n2 n3 hny
  go_enter Tryz.func31, Tryz.ntmps31
  go_wp2_with fail
  refine (CO.out _ hE.t.s.f).mono ?_
  rintro r w1 ⟨rfl, hb1⟩
  go_wp2_with fail
  refine (CN.out _ (hE.t.s.f.below hb1)).mono ?_
  rintro r w2 ⟨rfl, hb2⟩
  go_wp2_with fail
  refine (CA.out _ ((hE.below hb1).below hb2)).mono ?_
  rintro r w3 ⟨rfl, hb3⟩
  go_wp2
  go_ret3
  exact ⟨rfl, (by repeat (first | exact bz0 _ _ | refine bz1 ?_ | refine bz2 ?_ _ | refine bz3 ?_ _ | refine bz4 ?_ hb3 | refine bz4 ?_ hb2 | refine bz4 ?_ hb1 | refine bz5 ?_ _ | refine bz6 ?_ _ | refine bz7 ?_ hb3 | refine bz7 ?_ hb2 | refine bz7 ?_ hb1))⟩
end Go.Proofs.YtbhfbaogmkgmiaaGreatDoor
