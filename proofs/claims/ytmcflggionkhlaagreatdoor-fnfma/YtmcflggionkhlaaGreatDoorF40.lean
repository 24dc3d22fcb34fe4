/-
  What is needed of FC, FA.
-/
import Derived.Test.YtmcflggionkhlaaGreatDoorF39
import Derived.Test.YtmcflggionkhlaaGreatDoorF41
set_option maxHeartbeats 16000000
set_option maxRecDepth 1000000
namespace Go.Proofs.YtmcflggionkhlaaGreatDoor
set_option linter.unusedVariables false
set_option linter.unusedSimpArgs false
open Go.RowKit Go.Deep
theorem abs_sig {fm x : Int} (hx : okF fm x = true) (x0 : 0 ≤ x) (x1 : x < 18446744073709551616) : x = sgn (sgOf fm) (absF fm x) (sigB fm x) := by
  rcases okF_cases hx with ⟨rfl, hx'⟩ | rfl
  · have e := abs32 hx'
    unfold sgn sigB sgOf
    rw [e, if_pos (show ((32 : Int) = 32) from rfl)]
    by_cases h : x = x % 2147483648
    · rw [if_neg (by simpa using h)]; exact h
    · rw [if_pos (by simpa using h)]; omega
  · have e := abs64 (x := x)
    unfold sgn sigB sgOf
    rw [e, if_neg (show ¬ ((64 : Int) = 32) by decide)]
    by_cases h : x = x % 9223372036854775808
    · rw [if_neg (by simpa using h)]; exact h
    · rw [if_pos (by simpa using h)]; omega
theorem none4 (fm mode : Int) (s1 s2 : Bool) (w : World) (h : fmtB fm = true) :
    Calls Tryz.prog 102 #[.int .i64 fm, .int .i64 mode, .bool s1, .bool s2] w fun e w' => e = .returned (.int .u64 (sgn (sgOf fm) 0 (s1 && s2 || ((s1 != s2) && decide (mode = 3))))) ∧ Below w.heap.size w w' := by
  have C := hid (fun ng w' => with_s fm 0 ng w' h (by decide) (.inl (by decide)))
  obtain ⟨m3, hm3⟩ : ∃ m, m = decide (mode = 3) := ⟨_, rfl⟩
  have hmd : (mode == 3) = m3 := by rw [hm3, Bool.eq_iff_iff, beq_iff_eq, decide_eq_true_eq]
  rw [← hm3]
  obtain ⟨S, hS⟩ : ∃ S, S = sgOf fm := ⟨_, rfl⟩
  rw [← hS] at C ⊢
  clear hm3 hS
  cases s1 <;> cases s2
  all_goals
    go_enter Tryz.func102, Tryz.ntmps102
    go_wp2_with fail
    refine (C.out _ _).mono ?_
    rintro r w1 ⟨rfl, hb1⟩
    go_wp2
    go_ret
    exact ⟨by simp, (by repeat (first | exact bz0 _ _ | refine bz1 ?_ | refine bz2 ?_ _ | refine bz3 ?_ _ | refine bz4 ?_ hb1 | refine bz5 ?_ _ | refine bz6 ?_ _ | refine bz7 ?_ hb1))⟩
/-- A sum, of what are no NaNs. -/
def aB (fm mode x y : Int) : Int := if nI fm x && nI fm y && (x != y) then nanOf fm else if nI fm x then x else if nI fm y then y else if (unI fm x + unI fm y) = 0 then sgn (sgOf fm) 0 (sigB fm x && sigB fm y || ((sigB fm x != sigB fm y) && decide (mode = 3))) else RdB fm mode (Nm.wn (unI fm x + unI fm y)) (Nm.wl (unI fm x + unI fm y)) (unQ fm)
def aF (fm mode x y : Int) : Int := if nI fm x && nI fm y && (x != y) then 8 else if nI fm x || nI fm y then 0 else if (unI fm x + unI fm y) = 0 then 0 else RdF fm mode (Nm.wn (unI fm x + unI fm y)) (Nm.wl (unI fm x + unI fm y)) (unQ fm)
theorem l4add (fm mode x y : Int) (w : World) (hx : okF fm x = true) (hy : okF fm y = true) (x0 : 0 ≤ x) (x1 : x < 18446744073709551616) (y0 : 0 ≤ y) (y1 : y < 18446744073709551616) (hm : modeB mode = true) (nx : nanB fm x = false) (ny : nanB fm y = false) (B F : Int) (hB : B = aB fm mode x y) (hF : F = aF fm mode x y) :
    Calls Tryz.prog 94 #[.int .i64 fm, .int .i64 mode, .int .u64 x, .int .u64 y] w fun r w' => r = .returned (.tuple #[.int .u64 B, .int .i64 F]) ∧ Below w.heap.size w w' := by
  have hfm := ok_fmt hx
  have CI1 := hid (fun w' => inf4 fm x w' hx x0 x1 _ rfl)
  have CI2 := hid (fun w' => inf4 fm y w' hy y0 y1 _ rfl)
  have CN := hid (fun w' => nan_s fm w' hfm)
  unfold aB at hB
  unfold aF at hF
  cases hi : nI fm x with
  | true =>
    rw [hi] at CI1 hB hF
    cases hj : nI fm y with
    | true =>
      rw [hj] at CI2 hB hF
      cases hxy : (x != y) with
      | true =>
        rw [hxy] at hB hF
        have hB' : B = nanOf fm := hB
        have hF' : F = 8 := hF
        rw [← hB'] at CN
        subst hF'
        clear hB hF hB' hi hj nx ny hm hfm hx hy
        go_enter Tryz.func94, Tryz.ntmps94
        go_wp2_with fail
        refine (CI1.out _).mono ?_
        rintro r w1 ⟨rfl, hb1⟩
        go_wp2_with fail
        refine (CI2.out _).mono ?_
        rintro r w2 ⟨rfl, hb2⟩
        go_wp2_with fail
        refine (CN.out _).mono ?_
        rintro r w3 ⟨rfl, hb3⟩
        go_wp2
        go_ret2
        exact ⟨rfl, (by repeat (first | exact bz0 _ _ | refine bz1 ?_ | refine bz2 ?_ _ | refine bz3 ?_ _ | refine bz4 ?_ hb3 | refine bz4 ?_ hb2 | refine bz4 ?_ hb1 | refine bz5 ?_ _ | refine bz6 ?_ _ | refine bz7 ?_ hb3 | refine bz7 ?_ hb2 | refine bz7 ?_ hb1))⟩
      | false =>
        rw [hxy] at hB hF
        have hB' : B = x := hB
        have hF' : F = 0 := hF
        subst hB' hF'
        clear hB hF hi hj nx ny hm hfm hx hy
        go_enter Tryz.func94, Tryz.ntmps94
        go_wp2_with fail
        refine (CI1.out _).mono ?_
        rintro r w1 ⟨rfl, hb1⟩
        go_wp2_with fail
        refine (CI2.out _).mono ?_
        rintro r w2 ⟨rfl, hb2⟩
        go_wp2_with fail
        refine (CI1.out _).mono ?_
        rintro r w3 ⟨rfl, hb3⟩
        go_wp2
        go_ret2
        exact ⟨rfl, (by repeat (first | exact bz0 _ _ | refine bz1 ?_ | refine bz2 ?_ _ | refine bz3 ?_ _ | refine bz4 ?_ hb3 | refine bz4 ?_ hb2 | refine bz4 ?_ hb1 | refine bz5 ?_ _ | refine bz6 ?_ _ | refine bz7 ?_ hb3 | refine bz7 ?_ hb2 | refine bz7 ?_ hb1))⟩
    | false =>
      rw [hj] at CI2 hB hF
      have hB' : B = x := hB
      have hF' : F = 0 := hF
      subst hB' hF'
      clear hB hF hi hj nx ny hm hfm hx hy
      go_enter Tryz.func94, Tryz.ntmps94
      go_wp2_with fail
      refine (CI1.out _).mono ?_
      rintro r w1 ⟨rfl, hb1⟩
      go_wp2_with fail
      refine (CI2.out _).mono ?_
      rintro r w2 ⟨rfl, hb2⟩
      go_wp2_with fail
      refine (CI1.out _).mono ?_
      rintro r w3 ⟨rfl, hb3⟩
      go_wp2
      go_ret2
      exact ⟨rfl, (by repeat (first | exact bz0 _ _ | refine bz1 ?_ | refine bz2 ?_ _ | refine bz3 ?_ _ | refine bz4 ?_ hb3 | refine bz4 ?_ hb2 | refine bz4 ?_ hb1 | refine bz5 ?_ _ | refine bz6 ?_ _ | refine bz7 ?_ hb3 | refine bz7 ?_ hb2 | refine bz7 ?_ hb1))⟩
  | false =>
  rw [hi] at CI1 hB hF
  cases hj : nI fm y with
  | true =>
    rw [hj] at CI2 hB hF
    have hB' : B = y := hB
    have hF' : F = 0 := hF
    subst hB' hF'
    clear hB hF hi hj nx ny hm hfm hx hy
    go_enter Tryz.func94, Tryz.ntmps94
    go_wp2_with fail
    refine (CI1.out _).mono ?_
    rintro r w1 ⟨rfl, hb1⟩
    go_wp2_with fail
    refine (CI1.out _).mono ?_
    rintro r w2 ⟨rfl, hb2⟩
    go_wp2_with fail
    refine (CI2.out _).mono ?_
    rintro r w3 ⟨rfl, hb3⟩
    go_wp2
    go_ret2
    exact ⟨rfl, (by repeat (first | exact bz0 _ _ | refine bz1 ?_ | refine bz2 ?_ _ | refine bz3 ?_ _ | refine bz4 ?_ hb3 | refine bz4 ?_ hb2 | refine bz4 ?_ hb1 | refine bz5 ?_ _ | refine bz6 ?_ _ | refine bz7 ?_ hb3 | refine bz7 ?_ hb2 | refine bz7 ?_ hb1))⟩
  | false =>
    rw [hj] at CI2 hB hF
    have hfx := (nan_cases hx nx).resolve_right (by rw [hi]; decide)
    have hfy := (nan_cases hy ny).resolve_right (by rw [hj]; decide)
    have CU1 := hid (fun w' => l2units_any fm x w' hfx x0 x1)
    have CU2 := hid (fun w' => l2units_any fm y w' hfy y0 y1)
    have CA := hid (fun a c b d w' h h' => l1add_any (Nm.wn (unI fm x)) (Nm.wn (unI fm y)) a b c d (Nm.wl (unI fm x)) (Nm.wl (unI fm y)) w' h h' (Nm.wl_dg _) (Nm.wl_dg _) (Nm.wl_nz _) (Nm.wl_nz _) (by have := un_lenA fm x; omega) (by have := un_lenA fm y; omega) (unI fm x + unI fm y) (by rw [Nm.wv_out, Nm.wv_out]))
    have hul := uu_len fm x y
    by_cases hz : (unI fm x + unI fm y) = 0
    · have CS1 := hid (fun w' => spec_l2neg fm x w' hx x0 x1)
      have CS2 := hid (fun w' => spec_l2neg fm y w' hy y0 y1)
      have CZ := hid (fun w' => none4 fm mode (sigB fm x) (sigB fm y) w' hfm)
      have hB' : B = sgn (sgOf fm) 0 (sigB fm x && sigB fm y || ((sigB fm x != sigB fm y) && decide (mode = 3))) := by rw [hB]; simp [hz]
      have hF' : F = 0 := by rw [hF]; simp [hz]
      rw [← hB'] at CZ
      subst hF'
      have hw0 : Nm.wl 0 = [] := Nm.lim_zero
      have hn0 : Nm.wn 0 = false := by decide
      rw [hz, hw0, hn0] at CA
      obtain ⟨s1, hs1⟩ : ∃ s, s = sigB fm x := ⟨_, rfl⟩
      obtain ⟨s2, hs2⟩ : ∃ s, s = sigB fm y := ⟨_, rfl⟩
      obtain ⟨G1, hG1⟩ : ∃ s, s = Nm.wn (unI fm x) := ⟨_, rfl⟩
      obtain ⟨G2, hG2⟩ : ∃ s, s = Nm.wn (unI fm y) := ⟨_, rfl⟩
      obtain ⟨L1, hL1⟩ : ∃ s, s = Nm.wl (unI fm x) := ⟨_, rfl⟩
      obtain ⟨L2, hL2⟩ : ∃ s, s = Nm.wl (unI fm y) := ⟨_, rfl⟩
      rw [← hs1] at CS1 CZ
      rw [← hs2] at CS2 CZ
      simp only [← hG1, ← hL1] at CU1
      simp only [← hG2, ← hL2] at CU2
      simp only [← hG1, ← hL1, ← hG2, ← hL2] at CA
      clear hB hF hB' hi hj nx ny hm hfm hx hy hfx hfy hz hul hs1 hs2 hG1 hG2 hL1 hL2 hw0 hn0
      go_enter Tryz.func94, Tryz.ntmps94
      go_wp2_with fail
      refine (CI1.out _).mono ?_
      rintro r w1 ⟨rfl, hb1⟩
      go_wp2_with fail
      refine (CI1.out _).mono ?_
      rintro r w2 ⟨rfl, hb2⟩
      go_wp2_with fail
      refine (CI2.out _).mono ?_
      rintro r w3 ⟨rfl, hb3⟩
      go_wp2_with fail
      refine (CU1.out _).mono ?_
      rintro r w4 ⟨a4, c4, rfl, o4, hb4⟩
      go_wp2_with fail
      refine (CU2.out _).mono ?_
      rintro r w5 ⟨a5, c5, rfl, o5, hb5⟩
      go_wp2_with fail
      refine (CA.out a4 c4 a5 c5 _ (o4.below hb5).sl o5.sl).mono ?_
      rintro r w6 ⟨a6, c6, rfl, o6, hb6⟩
      obtain ⟨d0, d1⟩ := Box.new w6 (.bool false) (.slice a6 0 c6) 31
      go_wp2_with fail
      refine (CS1.out _).mono ?_
      rintro r w7 ⟨rfl, hb7⟩
      go_wp2_with fail
      refine (CS2.out _).mono ?_
      rintro r w8 ⟨rfl, hb8⟩
      go_wp2_with fail
      refine (CZ.out _).mono ?_
      rintro r w9 ⟨rfl, hb9⟩
      go_wp2
      go_ret2
      exact ⟨rfl, (by repeat (first | exact bz0 _ _ | refine bz1 ?_ | refine bz2 ?_ _ | refine bz3 ?_ _ | refine bz4 ?_ hb9 | refine bz4 ?_ hb8 | refine bz4 ?_ hb7 | refine bz4 ?_ hb6 | refine bz4 ?_ hb5 | refine bz4 ?_ hb4 | refine bz4 ?_ hb3 | refine bz4 ?_ hb2 | refine bz4 ?_ hb1 | refine bz5 ?_ _ | refine bz6 ?_ _ | refine bz7 ?_ hb9 | refine bz7 ?_ hb8 | refine bz7 ?_ hb7 | refine bz7 ?_ hb6 | refine bz7 ?_ hb5 | refine bz7 ?_ hb4 | refine bz7 ?_ hb3 | refine bz7 ?_ hb2 | refine bz7 ?_ hb1))⟩
    · have hB' : B = RdB fm mode (Nm.wn (unI fm x + unI fm y)) (Nm.wl (unI fm x + unI fm y)) (unQ fm) := by rw [hB]; simp [hz]
      have hF' : F = RdF fm mode (Nm.wn (unI fm x + unI fm y)) (Nm.wl (unI fm x + unI fm y)) (unQ fm) := by rw [hF]; simp [hz]
      have hq := unq_bd fm
      have CR := hid (fun p c w' h => l3r_any fm mode (unI fm x + unI fm y) (unQ fm) p c w' h hz (rdo_any hfm hm hul (by omega) (by omega)))
      simp only [← hB', ← hF'] at CR
      have CQ := hid (fun w' => sQb fm w' hfm)
      have hln : (Nm.wl (unI fm x + unI fm y)).length ≠ 0 := by unfold Nm.wl; rw [Ne, Nm.lim_length_zero]; omega
      obtain ⟨G1, hG1⟩ : ∃ s, s = Nm.wn (unI fm x) := ⟨_, rfl⟩
      obtain ⟨G2, hG2⟩ : ∃ s, s = Nm.wn (unI fm y) := ⟨_, rfl⟩
      obtain ⟨L1, hL1⟩ : ∃ s, s = Nm.wl (unI fm x) := ⟨_, rfl⟩
      obtain ⟨L2, hL2⟩ : ∃ s, s = Nm.wl (unI fm y) := ⟨_, rfl⟩
      obtain ⟨G, hG⟩ : ∃ s, s = Nm.wn (unI fm x + unI fm y) := ⟨_, rfl⟩
      obtain ⟨L, hL⟩ : ∃ s, s = Nm.wl (unI fm x + unI fm y) := ⟨_, rfl⟩
      obtain ⟨q, hq'⟩ : ∃ s, s = unQ fm := ⟨_, rfl⟩
      simp only [← hG1, ← hL1] at CU1
      simp only [← hG2, ← hL2] at CU2
      simp only [← hG, ← hL] at CA
      simp only [← hG1, ← hL1, ← hG2, ← hL2] at CA
      simp only [← hG, ← hL, ← hq'] at CR
      rw [← hq'] at CQ
      rw [← hL] at hln hul
      have hb0 : ((L.length : Int) == 0) = false := by rw [beq_eq_false_iff_ne]; omega
      clear hB hF hB' hF' hi hj nx ny hm hfm hx hy hfx hfy hz hG1 hG2 hL1 hL2 hG hL hq' hq hln
      go_enter Tryz.func94, Tryz.ntmps94
      go_wp2_with fail
      refine (CI1.out _).mono ?_
      rintro r w1 ⟨rfl, hb1⟩
      go_wp2_with fail
      refine (CI1.out _).mono ?_
      rintro r w2 ⟨rfl, hb2⟩
      go_wp2_with fail
      refine (CI2.out _).mono ?_
      rintro r w3 ⟨rfl, hb3⟩
      go_wp2_with fail
      refine (CU1.out _).mono ?_
      rintro r w4 ⟨a4, c4, rfl, o4, hb4⟩
      go_wp2_with fail
      refine (CU2.out _).mono ?_
      rintro r w5 ⟨a5, c5, rfl, o5, hb5⟩
      go_wp2_with fail
      refine (CA.out a4 c4 a5 c5 _ (o4.below hb5).sl o5.sl).mono ?_
      rintro r w6 ⟨a6, c6, rfl, o6, hb6⟩
      have D := Box.new w6 (.bool G) (.slice a6 L.length c6) 31
      have D' := D
      obtain ⟨d0, d1⟩ := D'
      have o7 := o6.alloc (.cells #[.bool G, .slice a6 L.length c6] 31)
      have bel6 : Below w.heap.size w w6 := (by repeat (first | exact bz0 _ _ | refine bz1 ?_ | refine bz2 ?_ _ | refine bz3 ?_ _ | refine bz4 ?_ hb6 | refine bz4 ?_ hb5 | refine bz4 ?_ hb4 | refine bz4 ?_ hb3 | refine bz4 ?_ hb2 | refine bz4 ?_ hb1 | refine bz5 ?_ _ | refine bz6 ?_ _ | refine bz7 ?_ hb6 | refine bz7 ?_ hb5 | refine bz7 ?_ hb4 | refine bz7 ?_ hb3 | refine bz7 ?_ hb2 | refine bz7 ?_ hb1))
      have Dd : Box (w6.alloc (.cells #[.bool G, .slice a6 L.length c6] 31)).drew w6.heap.size (.bool G) (.slice a6 L.length c6) := D
      have dd : (w6.alloc (.cells #[.bool G, .slice a6 L.length c6] 31)).drew.cell? ⟨w6.heap.size, 0, none⟩ = some (.bool G) ∧ (w6.alloc (.cells #[.bool G, .slice a6 L.length c6] 31)).drew.cell? ⟨w6.heap.size, 1, none⟩ = some (.slice a6 L.length c6) := Dd
      clear hb1 hb2 hb3 hb4 hb5 hb6 o4 o5 o6
      go_wp2_with fail
      go_region_held3 (fun w' => w'.cell? ⟨w6.heap.size, 0, none⟩ = some (.bool G) ∧ w'.cell? ⟨w6.heap.size, 1, none⟩ = some (.slice a6 L.length c6))
        (first | with_reducible assumption | with_reducible exact dd | fail)
        (first
          | (go_at_call 98; refine (CQ.out _).mono ?_; rintro r q1 ⟨rfl, hq1⟩; have D1 := Box.below Dd hq1; have u1 := And.intro D1.1 D1.2; have o8 := o7.drew.below hq1)
          | (go_at_call 103; refine (CR.out a6 c6 _ o8.sl).mono ?_; rintro r q2 ⟨rfl, hq2⟩; have D2 := D1.below hq2; have u2 := And.intro D2.1 D2.2))
      go_wp2
      go_ret2
      exact ⟨rfl, (by repeat (first | exact bz0 _ _ | refine bz1 ?_ | refine bz2 ?_ _ | refine bz3 ?_ _ | refine bz4 ?_ hq2 | refine bz4 ?_ hq1 | refine bz4 ?_ bel6 | refine bz5 ?_ _ | refine bz6 ?_ _ | refine bz7 ?_ hq2 | refine bz7 ?_ hq1 | refine bz7 ?_ bel6))⟩
/-- A sum, of all floats. -/
def adB (fm mode x y : Int) : Int := if muO fm mode x y then (if nanB fm x || nanB fm y then nanOf fm else aB fm mode x y) else 0
def adF (fm mode x y : Int) : Int := if muO fm mode x y then (if nanB fm x || nanB fm y then fl8 (nB fm x || nB fm y) else aF fm mode x y) else 0
theorem ad_no {fm mode x y : Int} (h : muO fm mode x y = false) : adB fm mode x y = 0 ∧ adF fm mode x y = 0 := by unfold adB adF; rw [h]; exact ⟨rfl, rfl⟩
theorem sum_z {fm x y : Int} (hx : okF fm x = true) (hy : okF fm y = true) (fx : finB fm x = true) (fy : finB fm y = true) (em : Int) (hem : em = min (nE fm x) (nE fm y)) (z : Int) (hz : z = nZ fm x * 2 ^ (nE fm x - em).toNat + nZ fm y * 2 ^ (nE fm y - em).toNat) :
    (unI fm x + unI fm y) = z * 2 ^ (em - unQ fm).toNat ∧ 0 ≤ em - unQ fm := by
  obtain ⟨-, -, -, ex, -, -⟩ := fin_facts hx fx
  obtain ⟨-, -, -, ey, -, -⟩ := fin_facts hy fy
  have qx := pE_q fx
  have qy := pE_q fy
  rw [← ex] at qx
  rw [← ey] at qy
  refine ⟨?_, by omega⟩
  rw [un_nZ hx fx, un_nZ hy fy, hz, Int.add_mul, Int.mul_assoc, Int.mul_assoc, ← Int.pow_add, ← Int.pow_add]
  rw [show (nE fm x - em).toNat + (em - unQ fm).toNat = (nE fm x - unQ fm).toNat by omega, show (nE fm y - em).toNat + (em - unQ fm).toNat = (nE fm y - unQ fm).toNat by omega]
theorem nzs_len {fm x em : Int} (h0 : 0 ≤ nE fm x - em) (h1 : nE fm x - em ≤ 3100) : (Nm.wl (nZ fm x * 2 ^ (nE fm x - em).toNat)).length ≤ 200 := by
  obtain ⟨K, hK⟩ : ∃ K : Nat, K = 3100 := ⟨_, rfl⟩
  refine wl_of (k := 53 + K) ?_ (by omega)
  rw [Int.natAbs_mul, Int.natAbs_pow]
  have hb := (nZ_bd fm x).1
  have hb' : (nZ fm x).natAbs ≤ 9007199254740991 := by omega
  have hd : (nE fm x - em).toNat ≤ K := by omega
  have h2 : (2 : Int).natAbs ^ (nE fm x - em).toNat ≤ 2 ^ K := Nat.pow_le_pow_right (by decide) hd
  have h3 : (nZ fm x).natAbs * (2 : Int).natAbs ^ (nE fm x - em).toNat ≤ 9007199254740991 * 2 ^ K := Nat.mul_le_mul hb' h2
  have h4 : 9007199254740991 * 2 ^ K < 2 ^ 53 * 2 ^ K := Nat.mul_lt_mul_of_pos_right (by decide) (Nat.pow_pos (by decide))
  rw [Nat.pow_add]
  exact Nat.lt_of_le_of_lt h3 h4
theorem inf_eq {fm x y : Int} (hx : okF fm x = true) (hy : okF fm y = true) (x0 : 0 ≤ x) (x1 : x < 18446744073709551616) (y0 : 0 ≤ y) (y1 : y < 18446744073709551616) (ix : nI fm x = true) (iy : nI fm y = true) : (x != y) = (sigB fm x != sigB fm y) ∧ x = sgn (sgOf fm) (infOf fm) (sigB fm x) := by
  have ax : absF fm x = infOf fm := by
    have h3 := cls_inf hx x0
    have h4 : (cls fm x == 3) = true := ix
    rw [h4] at h3; simpa using h3
  have ay : absF fm y = infOf fm := by
    have h3 := cls_inf hy y0
    have h4 : (cls fm y == 3) = true := iy
    rw [h4] at h3; simpa using h3
  have ex := abs_sig hx x0 x1
  have ey := abs_sig hy y0 y1
  rw [ax] at ex
  rw [ay] at ey
  refine ⟨?_, ex⟩
  have hs : 0 < sgOf fm := by unfold sgOf; split <;> decide
  cases h1 : sigB fm x <;> cases h2 : sigB fm y <;> rw [h1] at ex <;> rw [h2] at ey <;> unfold sgn at ex ey <;> simp at ex ey ⊢ <;> omega
end Go.Proofs.YtmcflggionkhlaaGreatDoor
