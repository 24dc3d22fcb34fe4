/-
  What is needed of FA, FB.
-/
import Derived.Test.YtmcflggionkhlaaGreatDoorH37
import Derived.Test.YtmcflggionkhlaaGreatDoorH38
import Derived.Test.YtmcflggionkhlaaGreatDoorH39
import Derived.Test.YtmcflggionkhlaaGreatDoorH40
set_option maxHeartbeats 16000000
set_option maxRecDepth 1000000
namespace Go.Proofs.YtmcflggionkhlaaGreatDoor
set_option linter.unusedVariables false
set_option linter.unusedSimpArgs false
open Go.RowKit Go.Deep
theorem none4 (fm mode : Int) (s1 s2 : Bool) (w : World) (h : fmtB fm = true) :
    Calls Tryz.prog 102 #[.int .i64 fm, .int .i64 mode, .bool s1, .bool s2] w fun e w' => e = .returned (.int .u64 (sgn (sgOf fm) 0 (s1 && s2 || ((s1 != s2) && decide (mode = 3))))) ∧ Below w.heap.size w w' := by
  have C := hid (fun ng w' => with_s fm 0 ng w' h (by decide) (.inl (by decide)))
  obtain ⟨m3, hm3⟩ : ∃ m, m = decide (mode = 3) := ⟨_, rfl⟩
  have hmd : (mode == 3) = m3 := by rw [hm3, Bool.eq_iff_iff, beq_iff_eq, decide_eq_true_eq]
  rw [← hm3]
  obtain ⟨S, hS⟩ : ∃ S, S = sgOf fm := ⟨_, rfl⟩
  rw [← hS] at C ⊢
  clear hm3 hS
  cases s1 <;> cases s2
  all_goals
    go_enter Tryz.func102, Tryz.ntmps102
    go_wp2_with fail
    refine (C.out _ _).mono ?_
    rintro r w1 ⟨rfl, hb1⟩
    go_wp2
    go_ret
    exact ⟨by simp, (by repeat (first | exact bz0 _ _ | refine bz1 ?_ | refine bz2 ?_ _ | refine bz3 ?_ _ | refine bz4 ?_ hb1 | refine bz5 ?_ _ | refine bz6 ?_ _ | refine bz7 ?_ hb1))⟩
/-- A sum, of what are no NaNs. -/
def aB (fm mode x y : Int) : Int := if nI fm x && nI fm y && (x != y) then nanOf fm else if nI fm x then x else if nI fm y then y else if (unI fm x + unI fm y) = 0 then sgn (sgOf fm) 0 (sigB fm x && sigB fm y || ((sigB fm x != sigB fm y) && decide (mode = 3))) else RdB fm mode (Nm.wn (unI fm x + unI fm y)) (Nm.wl (unI fm x + unI fm y)) (unQ fm)
def aF (fm mode x y : Int) : Int := if nI fm x && nI fm y && (x != y) then 8 else if nI fm x || nI fm y then 0 else if (unI fm x + unI fm y) = 0 then 0 else RdF fm mode (Nm.wn (unI fm x + unI fm y)) (Nm.wl (unI fm x + unI fm y)) (unQ fm)
theorem unq_bd (fm : Int) : -1074 ≤ unQ fm ∧ unQ fm ≤ -149 := by unfold unQ; split <;> omega
theorem un_nZ {fm x : Int} (hx : okF fm x = true) (hf : finB fm x = true) : unI fm x = nZ fm x * 2 ^ (nE fm x - unQ fm).toNat := by
  obtain ⟨f1, f2, f3, f4, f5, f6⟩ := fin_facts hx hf
  have hq := pE_q hf
  have hM := pM_bd fm x
  rw [f3, f4]
  unfold unI
  rw [hf, if_pos rfl]
  have e : ((Nm.sh (pM fm x).toNat (pE fm x - unQ fm) : Nat) : Int) = pM fm x * 2 ^ (pE fm x - unQ fm).toNat := by
    unfold Nm.sh; rw [if_neg (by omega), Int.natCast_mul, Int.natCast_pow, Int.toNat_of_nonneg hM.1]; rfl
  rw [e]
  cases pS fm x
  · rfl
  · simp only [if_true, Int.neg_mul]
theorem un_blA (fm x : Int) : bitLen (unI fm x).natAbs ≤ 2200 := by
  cases hf : finB fm x
  · rw [un_no hf]; decide
  · have h : (unI fm x).natAbs = Nm.sh (pM fm x).toNat (pE fm x - unQ fm) := by unfold unI; rw [hf, if_pos rfl]; cases pS fm x <;> simp
    rw [h]; exact un_bits hf
theorem uu_len (fm x y : Int) : (Nm.wl (unI fm x + unI fm y)).length ≤ 200 := by
  obtain ⟨K, hK⟩ : ∃ K : Nat, K = 2200 := ⟨_, rfl⟩
  have h1 := (Nm.bl_le_iff (unI fm x).natAbs K).1 (by rw [hK]; exact un_blA fm x)
  have h2 := (Nm.bl_le_iff (unI fm y).natAbs K).1 (by rw [hK]; exact un_blA fm y)
  refine wl_of (k := K + 1) ?_ (by omega)
  have h3 : (unI fm x + unI fm y).natAbs ≤ (unI fm x).natAbs + (unI fm y).natAbs := Int.natAbs_add_le _ _
  have h4 : ∀ P : Nat, (unI fm x).natAbs < P → (unI fm y).natAbs < P → (unI fm x + unI fm y).natAbs < P * 2 := fun P a b => by omega
  rw [Nat.pow_succ]
  exact h4 _ h1 h2
theorem un_lenA (fm x : Int) : (Nm.wl (unI fm x)).length ≤ 200 := by unfold Nm.wl; exact lim_len (k := 200) (by have := un_blA fm x; omega)
theorem l4add (fm mode x y : Int) (w : World) (hx : okF fm x = true) (hy : okF fm y = true) (x0 : 0 ≤ x) (x1 : x < 18446744073709551616) (y0 : 0 ≤ y) (y1 : y < 18446744073709551616) (hm : modeB mode = true) (nx : nanB fm x = false) (ny : nanB fm y = false) (B F : Int) (hB : B = aB fm mode x y) (hF : F = aF fm mode x y) :
    Calls Tryz.prog 94 #[.int .i64 fm, .int .i64 mode, .int .u64 x, .int .u64 y] w fun r w' => r = .returned (.tuple #[.int .u64 B, .int .i64 F]) ∧ Below w.heap.size w w' := by
  have hfm := ok_fmt hx
  have CI1 := hid (fun w' => inf4 fm x w' hx x0 x1 _ rfl)
  have CI2 := hid (fun w' => inf4 fm y w' hy y0 y1 _ rfl)
  have CN := hid (fun w' => nan_s fm w' hfm)
  unfold aB at hB
  unfold aF at hF
  cases hi : nI fm x with
  | true =>
    rw [hi] at CI1 hB hF
    cases hj : nI fm y with
    | true =>
      rw [hj] at CI2 hB hF
      cases hxy : (x != y) with
      | true =>
        rw [hxy] at hB hF
        have hB' : B = nanOf fm := hB
        have hF' : F = 8 := hF
        rw [← hB'] at CN
        subst hF'
        clear hB hF hB' hi hj nx ny hm hfm hx hy
        go_enter Tryz.func94, Tryz.ntmps94
        go_wp2_with fail
        refine (CI1.out _).mono ?_
        rintro r w1 ⟨rfl, hb1⟩
        go_wp2_with fail
        refine (CI2.out _).mono ?_
        rintro r w2 ⟨rfl, hb2⟩
        go_wp2_with fail
        refine (CN.out _).mono ?_
        rintro r w3 ⟨rfl, hb3⟩
        go_wp2
        go_ret2
        exact ⟨rfl, (by repeat (first | exact bz0 _ _ | refine bz1 ?_ | refine bz2 ?_ _ | refine bz3 ?_ _ | refine bz4 ?_ hb3 | refine bz4 ?_ hb2 | refine bz4 ?_ hb1 | refine bz5 ?_ _ | refine bz6 ?_ _ | refine bz7 ?_ hb3 | refine bz7 ?_ hb2 | refine bz7 ?_ hb1))⟩
      | false =>
        rw [hxy] at hB hF
        have hB' : B = x := hB
        have hF' : F = 0 := hF
        subst hB' hF'
        clear hB hF hi hj nx ny hm hfm hx hy
        go_enter Tryz.func94, Tryz.ntmps94
        go_wp2_with fail
        refine (CI1.out _).mono ?_
        rintro r w1 ⟨rfl, hb1⟩
        go_wp2_with fail
        refine (CI2.out _).mono ?_
        rintro r w2 ⟨rfl, hb2⟩
        go_wp2_with fail
        refine (CI1.out _).mono ?_
        rintro r w3 ⟨rfl, hb3⟩
        go_wp2
        go_ret2
        exact ⟨rfl, (by repeat (first | exact bz0 _ _ | refine bz1 ?_ | refine bz2 ?_ _ | refine bz3 ?_ _ | refine bz4 ?_ hb3 | refine bz4 ?_ hb2 | refine bz4 ?_ hb1 | refine bz5 ?_ _ | refine bz6 ?_ _ | refine bz7 ?_ hb3 | refine bz7 ?_ hb2 | refine bz7 ?_ hb1))⟩
    | false =>
      rw [hj] at CI2 hB hF
      have hB' : B = x := hB
      have hF' : F = 0 := hF
      subst hB' hF'
      clear hB hF hi hj nx ny hm hfm hx hy
      go_enter Tryz.func94, Tryz.ntmps94
      go_wp2_with fail
      refine (CI1.out _).mono ?_
      rintro r w1 ⟨rfl, hb1⟩
      go_wp2_with fail
      refine (CI2.out _).mono ?_
      rintro r w2 ⟨rfl, hb2⟩
      go_wp2_with fail
      refine (CI1.out _).mono ?_
      rintro r w3 ⟨rfl, hb3⟩
      go_wp2
      go_ret2
      exact ⟨rfl, (by repeat (first | exact bz0 _ _ | refine bz1 ?_ | refine bz2 ?_ _ | refine bz3 ?_ _ | refine bz4 ?_ hb3 | refine bz4 ?_ hb2 | refine bz4 ?_ hb1 | refine bz5 ?_ _ | refine bz6 ?_ _ | refine bz7 ?_ hb3 | refine bz7 ?_ hb2 | refine bz7 ?_ hb1))⟩
  | false =>
  rw [hi] at CI1 hB hF
  cases hj : nI fm y with
  | true =>
    rw [hj] at CI2 hB hF
    have hB' : B = y := hB
    have hF' : F = 0 := hF
    subst hB' hF'
    clear hB hF hi hj nx ny hm hfm hx hy
    go_enter Tryz.func94, Tryz.ntmps94
    go_wp2_with fail
    refine (CI1.out _).mono ?_
    rintro r w1 ⟨rfl, hb1⟩
    go_wp2_with fail
    refine (CI1.out _).mono ?_
    rintro r w2 ⟨rfl, hb2⟩
    go_wp2_with fail
    refine (CI2.out _).mono ?_
    rintro r w3 ⟨rfl, hb3⟩
    go_wp2
    go_ret2
    exact ⟨rfl, (by repeat (first | exact bz0 _ _ | refine bz1 ?_ | refine bz2 ?_ _ | refine bz3 ?_ _ | refine bz4 ?_ hb3 | refine bz4 ?_ hb2 | refine bz4 ?_ hb1 | refine bz5 ?_ _ | refine bz6 ?_ _ | refine bz7 ?_ hb3 | refine bz7 ?_ hb2 | refine bz7 ?_ hb1))⟩
  | false =>
    rw [hj] at CI2 hB hF
    have hfx := (nan_cases hx nx).resolve_right (by rw [hi]; decide)
    have hfy := (nan_cases hy ny).resolve_right (by rw [hj]; decide)
    have CU1 := hid (fun w' => l2units_any fm x w' hfx x0 x1)
    have CU2 := hid (fun w' => l2units_any fm y w' hfy y0 y1)
    have CA := hid (fun a c b d w' h h' => l1add_any (Nm.wn (unI fm x)) (Nm.wn (unI fm y)) a b c d (Nm.wl (unI fm x)) (Nm.wl (unI fm y)) w' h h' (Nm.wl_dg _) (Nm.wl_dg _) (Nm.wl_nz _) (Nm.wl_nz _) (by have := un_lenA fm x; omega) (by have := un_lenA fm y; omega) (unI fm x + unI fm y) (by rw [Nm.wv_out, Nm.wv_out]))
    have hul := uu_len fm x y
    by_cases hz : (unI fm x + unI fm y) = 0
    · have CS1 := hid (fun w' => spec_l2neg fm x w' hx x0 x1)
      have CS2 := hid (fun w' => spec_l2neg fm y w' hy y0 y1)
      have CZ := hid (fun w' => none4 fm mode (sigB fm x) (sigB fm y) w' hfm)
      have hB' : B = sgn (sgOf fm) 0 (sigB fm x && sigB fm y || ((sigB fm x != sigB fm y) && decide (mode = 3))) := by rw [hB]; simp [hz]
      have hF' : F = 0 := by rw [hF]; simp [hz]
      rw [← hB'] at CZ
      subst hF'
      have hw0 : Nm.wl 0 = [] := Nm.lim_zero
      have hn0 : Nm.wn 0 = false := by decide
      rw [hz, hw0, hn0] at CA
      obtain ⟨s1, hs1⟩ : ∃ s, s = sigB fm x := ⟨_, rfl⟩
      obtain ⟨s2, hs2⟩ : ∃ s, s = sigB fm y := ⟨_, rfl⟩
      obtain ⟨G1, hG1⟩ : ∃ s, s = Nm.wn (unI fm x) := ⟨_, rfl⟩
      obtain ⟨G2, hG2⟩ : ∃ s, s = Nm.wn (unI fm y) := ⟨_, rfl⟩
      obtain ⟨L1, hL1⟩ : ∃ s, s = Nm.wl (unI fm x) := ⟨_, rfl⟩
      obtain ⟨L2, hL2⟩ : ∃ s, s = Nm.wl (unI fm y) := ⟨_, rfl⟩
      rw [← hs1] at CS1 CZ
      rw [← hs2] at CS2 CZ
      simp only [← hG1, ← hL1] at CU1
      simp only [← hG2, ← hL2] at CU2
      simp only [← hG1, ← hL1, ← hG2, ← hL2] at CA
      clear hB hF hB' hi hj nx ny hm hfm hx hy hfx hfy hz hul hs1 hs2 hG1 hG2 hL1 hL2 hw0 hn0
      go_enter Tryz.func94, Tryz.ntmps94
      go_wp2_with fail
      refine (CI1.out _).mono ?_
      rintro r w1 ⟨rfl, hb1⟩
      go_wp2_with fail
      refine (CI1.out _).mono ?_
      rintro r w2 ⟨rfl, hb2⟩
      go_wp2_with fail
      refine (CI2.out _).mono ?_
      rintro r w3 ⟨rfl, hb3⟩
      go_wp2_with fail
      refine (CU1.out _).mono ?_
      rintro r w4 ⟨a4, c4, rfl, o4, hb4⟩
      go_wp2_with fail
      refine (CU2.out _).mono ?_
      rintro r w5 ⟨a5, c5, rfl, o5, hb5⟩
      go_wp2_with fail
      refine (CA.out a4 c4 a5 c5 _ (o4.below hb5).sl o5.sl).mono ?_
      rintro r w6 ⟨a6, c6, rfl, o6, hb6⟩
      obtain ⟨d0, d1⟩ := Box.new w6 (.bool false) (.slice a6 0 c6) 31
      go_wp2_with fail
      refine (CS1.out _).mono ?_
      rintro r w7 ⟨rfl, hb7⟩
      go_wp2_with fail
      refine (CS2.out _).mono ?_
      rintro r w8 ⟨rfl, hb8⟩
      go_wp2_with fail
      refine (CZ.out _).mono ?_
      rintro r w9 ⟨rfl, hb9⟩
      go_wp2
      go_ret2
      exact ⟨rfl, (by repeat (first | exact bz0 _ _ | refine bz1 ?_ | refine bz2 ?_ _ | refine bz3 ?_ _ | refine bz4 ?_ hb9 | refine bz4 ?_ hb8 | refine bz4 ?_ hb7 | refine bz4 ?_ hb6 | refine bz4 ?_ hb5 | refine bz4 ?_ hb4 | refine bz4 ?_ hb3 | refine bz4 ?_ hb2 | refine bz4 ?_ hb1 | refine bz5 ?_ _ | refine bz6 ?_ _ | refine bz7 ?_ hb9 | refine bz7 ?_ hb8 | refine bz7 ?_ hb7 | refine bz7 ?_ hb6 | refine bz7 ?_ hb5 | refine bz7 ?_ hb4 | refine bz7 ?_ hb3 | refine bz7 ?_ hb2 | refine bz7 ?_ hb1))⟩
    · have hB' : B = RdB fm mode (Nm.wn (unI fm x + unI fm y)) (Nm.wl (unI fm x + unI fm y)) (unQ fm) := by rw [hB]; simp [hz]
      have hF' : F = RdF fm mode (Nm.wn (unI fm x + unI fm y)) (Nm.wl (unI fm x + unI fm y)) (unQ fm) := by rw [hF]; simp [hz]
      have hq := unq_bd fm
      have CR := hid (fun p c w' h => l3r_any fm mode (unI fm x + unI fm y) (unQ fm) p c w' h hz (rdo_any hfm hm hul (by omega) (by omega)))
      simp only [← hB', ← hF'] at CR
      have CQ := hid (fun w' => sQb fm w' hfm)
      have hln : (Nm.wl (unI fm x + unI fm y)).length ≠ 0 := by unfold Nm.wl; rw [Ne, Nm.lim_length_zero]; omega
      obtain ⟨G1, hG1⟩ : ∃ s, s = Nm.wn (unI fm x) := ⟨_, rfl⟩
      obtain ⟨G2, hG2⟩ : ∃ s, s = Nm.wn (unI fm y) := ⟨_, rfl⟩
      obtain ⟨L1, hL1⟩ : ∃ s, s = Nm.wl (unI fm x) := ⟨_, rfl⟩
      obtain ⟨L2, hL2⟩ : ∃ s, s = Nm.wl (unI fm y) := ⟨_, rfl⟩
      obtain ⟨G, hG⟩ : ∃ s, s = Nm.wn (unI fm x + unI fm y) := ⟨_, rfl⟩
      obtain ⟨L, hL⟩ : ∃ s, s = Nm.wl (unI fm x + unI fm y) := ⟨_, rfl⟩
      obtain ⟨q, hq'⟩ : ∃ s, s = unQ fm := ⟨_, rfl⟩
      simp only [← hG1, ← hL1] at CU1
      simp only [← hG2, ← hL2] at CU2
      simp only [← hG, ← hL] at CA
      simp only [← hG1, ← hL1, ← hG2, ← hL2] at CA
      simp only [← hG, ← hL, ← hq'] at CR
      rw [← hq'] at CQ
      rw [← hL] at hln hul
      have hb0 : ((L.length : Int) == 0) = false := by rw [beq_eq_false_iff_ne]; omega
      clear hB hF hB' hF' hi hj nx ny hm hfm hx hy hfx hfy hz hG1 hG2 hL1 hL2 hG hL hq' hq hln
      go_enter Tryz.func94, Tryz.ntmps94
      go_wp2_with fail
      refine (CI1.out _).mono ?_
      rintro r w1 ⟨rfl, hb1⟩
      go_wp2_with fail
      refine (CI1.out _).mono ?_
      rintro r w2 ⟨rfl, hb2⟩
      go_wp2_with fail
      refine (CI2.out _).mono ?_
      rintro r w3 ⟨rfl, hb3⟩
      go_wp2_with fail
      refine (CU1.out _).mono ?_
      rintro r w4 ⟨a4, c4, rfl, o4, hb4⟩
      go_wp2_with fail
      refine (CU2.out _).mono ?_
      rintro r w5 ⟨a5, c5, rfl, o5, hb5⟩
      go_wp2_with fail
      refine (CA.out a4 c4 a5 c5 _ (o4.below hb5).sl o5.sl).mono ?_
      rintro r w6 ⟨a6, c6, rfl, o6, hb6⟩
      have D := Box.new w6 (.bool G) (.slice a6 L.length c6) 31
      have D' := D
      obtain ⟨d0, d1⟩ := D'
      have o7 := o6.alloc (.cells #[.bool G, .slice a6 L.length c6] 31)
      have bel6 : Below w.heap.size w w6 := (by repeat (first | exact bz0 _ _ | refine bz1 ?_ | refine bz2 ?_ _ | refine bz3 ?_ _ | refine bz4 ?_ hb6 | refine bz4 ?_ hb5 | refine bz4 ?_ hb4 | refine bz4 ?_ hb3 | refine bz4 ?_ hb2 | refine bz4 ?_ hb1 | refine bz5 ?_ _ | refine bz6 ?_ _ | refine bz7 ?_ hb6 | refine bz7 ?_ hb5 | refine bz7 ?_ hb4 | refine bz7 ?_ hb3 | refine bz7 ?_ hb2 | refine bz7 ?_ hb1))
      have Dd : Box (w6.alloc (.cells #[.bool G, .slice a6 L.length c6] 31)).drew w6.heap.size (.bool G) (.slice a6 L.length c6) := D
      have dd : (w6.alloc (.cells #[.bool G, .slice a6 L.length c6] 31)).drew.cell? ⟨w6.heap.size, 0, none⟩ = some (.bool G) ∧ (w6.alloc (.cells #[.bool G, .slice a6 L.length c6] 31)).drew.cell? ⟨w6.heap.size, 1, none⟩ = some (.slice a6 L.length c6) := Dd
      clear hb1 hb2 hb3 hb4 hb5 hb6 o4 o5 o6
      go_wp2_with fail
      go_region_held3 (fun w' => w'.cell? ⟨w6.heap.size, 0, none⟩ = some (.bool G) ∧ w'.cell? ⟨w6.heap.size, 1, none⟩ = some (.slice a6 L.length c6))
        (first | with_reducible assumption | with_reducible exact dd | fail)
        (first
          | (go_at_call 98; refine (CQ.out _).mono ?_; rintro r q1 ⟨rfl, hq1⟩; have D1 := Box.below Dd hq1; have u1 := And.intro D1.1 D1.2; have o8 := o7.drew.below hq1)
          | (go_at_call 103; refine (CR.out a6 c6 _ o8.sl).mono ?_; rintro r q2 ⟨rfl, hq2⟩; have D2 := D1.below hq2; have u2 := And.intro D2.1 D2.2))
      go_wp2
      go_ret2
      exact ⟨rfl, (by repeat (first | exact bz0 _ _ | refine bz1 ?_ | refine bz2 ?_ _ | refine bz3 ?_ _ | refine bz4 ?_ hq2 | refine bz4 ?_ hq1 | refine bz4 ?_ bel6 | refine bz5 ?_ _ | refine bz6 ?_ _ | refine bz7 ?_ hq2 | refine bz7 ?_ hq1 | refine bz7 ?_ bel6))⟩
/-- A sum, of all floats. -/
def adB (fm mode x y : Int) : Int := if muO fm mode x y then (if nanB fm x || nanB fm y then nanOf fm else aB fm mode x y) else 0
def adF (fm mode x y : Int) : Int := if muO fm mode x y then (if nanB fm x || nanB fm y then fl8 (nB fm x || nB fm y) else aF fm mode x y) else 0
theorem ad_no {fm mode x y : Int} (h : muO fm mode x y = false) : adB fm mode x y = 0 ∧ adF fm mode x y = 0 := by unfold adB adF; rw [h]; exact ⟨rfl, rfl⟩
theorem add_spec (fm mode x y : Int) (w : World) (x0 : 0 ≤ x) (x1 : x < 18446744073709551616) (y0 : 0 ≤ y) (y1 : y < 18446744073709551616) (B F : Int) (O : Bool) (hB : B = adB fm mode x y) (hF : F = adF fm mode x y) (hO : O = muO fm mode x y) :
    Calls Tryz.prog 62 #[.int .i64 fm, .int .i64 mode, .int .u64 x, .int .u64 y] w fun r w' => r = .returned (.tuple #[.int .u64 B, .int .i64 F, .bool O]) ∧ Below w.heap.size w w' := by
  have dx := d64_2 x0 x1 y0 y1
  have CF := hid (fun w' h => l4form fm mode (some ⟨w.heap.size, 0, none⟩) 2 [x, y] w' h (by simp))
  rw [all2_fmt] at CF
  have s2 := sl64_2 w x y 24
  cases ho : muO fm mode x y
  · obtain ⟨e1, e2⟩ := ad_no ho
    rw [e1] at hB; rw [e2] at hF; rw [ho] at hO
    subst hB hF hO
    have ho' : (modeB mode && allB fm [x, y]) = false := ho
    rw [ho'] at CF
    clear ho ho' e1 e2 dx
    go_enter Tryz.func62, Tryz.ntmps62
    go_wp2_with fail
    refine (CF.out _ s2).mono ?_
    rintro r w1 ⟨rfl, hb1⟩
    go_wp2
    go_ret3
    exact ⟨rfl, (by repeat (first | exact bz0 _ _ | refine bz1 ?_ | refine bz2 ?_ _ | refine bz3 ?_ _ | refine bz4 ?_ hb1 | refine bz5 ?_ _ | refine bz6 ?_ _ | refine bz7 ?_ hb1))⟩
  have ho' : (modeB mode && allB fm [x, y]) = true := ho
  rw [ho'] at CF
  obtain ⟨hm, ha⟩ : modeB mode = true ∧ allB fm [x, y] = true := by simpa using ho'
  obtain ⟨hx, hy⟩ := all2 ha
  have hfm := ok_fmt hx
  have CN := hid (fun a w' h => l4nan fm a 2 [x, y] w' h dx (by simp) hfm ha)
  have e1 : [x, y].any (nanB fm) = (nanB fm x || nanB fm y) := by simp
  have e2 : [x, y].any (nB fm) = (nB fm x || nB fm y) := by simp
  rw [e1, e2] at CN
  cases hn : (nanB fm x || nanB fm y)
  · obtain ⟨nx, ny⟩ : nanB fm x = false ∧ nanB fm y = false := by simpa using hn
    rw [hn] at CN
    have hB' : B = aB fm mode x y := by
      rw [hB]; unfold adB; rw [ho, if_pos rfl, hn]; rfl
    have hF' : F = aF fm mode x y := by
      rw [hF]; unfold adF; rw [ho, if_pos rfl, hn]; rfl
    have CM := hid (fun w' => l4add fm mode x y w' hx hy x0 x1 y0 y1 hm nx ny B F hB' hF')
    rw [ho] at hO
    subst hO
    obtain ⟨q1, hq1⟩ : ∃ i, i = nanOf fm := ⟨_, rfl⟩
    obtain ⟨q2, hq2⟩ : ∃ i : Int, i = fl8 (nB fm x || nB fm y) := ⟨_, rfl⟩
    rw [← hq1, ← hq2] at CN
    clear hB hF hB' hF' hn nx ny ho ho' dx e1 e2 hq1 hq2 hm ha hx hy hfm
    go_enter Tryz.func62, Tryz.ntmps62
    go_wp2_with fail
    refine (CF.out _ s2).mono ?_
    rintro r w1 ⟨rfl, hb1⟩
    go_wp2_with fail
    refine (CN.out _ _ (sl64_2 w1 x y 24)).mono ?_
    rintro r w2 ⟨rfl, hb2⟩
    go_wp2_with fail
    refine (CM.out _).mono ?_
    rintro r w3 ⟨rfl, hb3⟩
    go_wp2
    go_ret3
    exact ⟨rfl, (by repeat (first | exact bz0 _ _ | refine bz1 ?_ | refine bz2 ?_ _ | refine bz3 ?_ _ | refine bz4 ?_ hb3 | refine bz4 ?_ hb2 | refine bz4 ?_ hb1 | refine bz5 ?_ _ | refine bz6 ?_ _ | refine bz7 ?_ hb3 | refine bz7 ?_ hb2 | refine bz7 ?_ hb1))⟩
  · rw [hn] at CN
    have hB' : B = nanOf fm := by rw [hB]; unfold adB; rw [ho, if_pos rfl, hn]; rfl
    have hF' : F = fl8 (nB fm x || nB fm y) := by rw [hF]; unfold adF; rw [ho, if_pos rfl, hn]; rfl
    rw [← hB', ← hF'] at CN
    rw [ho] at hO
    subst hO
    clear hB hF hB' hF' hn ho ho' dx e1 e2 hm ha hx hy hfm
    go_enter Tryz.func62, Tryz.ntmps62
    go_wp2_with fail
    refine (CF.out _ s2).mono ?_
    rintro r w1 ⟨rfl, hb1⟩
    go_wp2_with fail
    refine (CN.out _ _ (sl64_2 w1 x y 24)).mono ?_
    rintro r w2 ⟨rfl, hb2⟩
    go_wp2
    go_ret3
    exact ⟨rfl, (by repeat (first | exact bz0 _ _ | refine bz1 ?_ | refine bz2 ?_ _ | refine bz3 ?_ _ | refine bz4 ?_ hb2 | refine bz4 ?_ hb1 | refine bz5 ?_ _ | refine bz6 ?_ _ | refine bz7 ?_ hb2 | refine bz7 ?_ hb1))⟩
theorem addi_no2 (fm mode x y : Int) (w : World) (hT : Tab w) (x0 : 0 ≤ x) (x1 : x < 18446744073709551616) (y0 : 0 ≤ y) (y1 : y < 18446744073709551616) (ho : (modeB mode && allB fm [x, y]) = false) :
    Calls Tryz.prog 30 #[.int .i64 fm, .int .i64 mode, .int .u64 x, .int .u64 y] w fun r w' => r = .returned (.tuple #[.int .u64 0, .int .i64 0, .bool false]) ∧ Below w.heap.size w w' := by
  have CF := hid (fun w' h h' => fok_impl fm mode (some ⟨w.heap.size, 0, none⟩) 2 [x, y] w' h h' (d64_2 x0 x1 y0 y1) (by simp))
  rw [ho] at CF
  have s2 := sl64_2 w x y 24
  have bel0 : Below w.heap.size w (w.alloc (.cells #[.int .u64 x, .int .u64 y] 24)) := (by repeat (first | exact bz0 _ _ | refine bz1 ?_ | refine bz2 ?_ _ | refine bz3 ?_ _ | refine bz5 ?_ _ | refine bz6 ?_ _))
  clear ho
  go_enter Tryz.func30, Tryz.ntmps30
  go_wp2_with fail
  refine (CF.out _ (hT.below bel0) s2).mono ?_
  rintro r w1 ⟨rfl, hb1⟩
  go_wp2
  go_ret3
  exact ⟨rfl, (by repeat (first | exact bz0 _ _ | refine bz1 ?_ | refine bz2 ?_ _ | refine bz3 ?_ _ | refine bz4 ?_ hb1 | refine bz5 ?_ _ | refine bz6 ?_ _ | refine bz7 ?_ hb1))⟩
theorem addf_core (fm mode x y : Int) (u : Value) (w : World) (hE : E3 u w) (x0 : 0 ≤ x) (x1 : x < 18446744073709551616) (y0 : 0 ≤ y) (y1 : y < 18446744073709551616) (ho : (modeB mode && allB fm [x, y]) = true) (sg inf G : Bool) (L : List Int) (E : Int) (n b : Bool) (hp : TotAt u fm mode x y sg inf G L E n b) (hl : L.length ≤ 200) (hd : Nm.Dg L) (rb rf : Int) (hro : n = false → inf = false → L.length ≠ 0 → RdO fm mode G L E = true ∧ rb = RdB fm mode G L E ∧ rf = RdF fm mode G L E) (B F : Int) (hB : B = tdB (nanOf fm) (infOf fm) (sgOf fm) n inf (decide (L.length = 0)) sg rb) (hF : F = tdF n b inf (decide (L.length = 0)) rf) :
    Calls Tryz.prog 30 #[.int .i64 fm, .int .i64 mode, .int .u64 x, .int .u64 y] w fun r w' => r = .returned (.tuple #[.int .u64 B, .int .i64 F, .bool true]) ∧ Below w.heap.size w w' := by
  have CF := hid (fun w' h h' => fok_impl fm mode (some ⟨w.heap.size, 0, none⟩) 2 [x, y] w' h h' (d64_2 x0 x1 y0 y1) (by simp))
  have hfm : fmtB fm = true := by
    have h : modeB mode = true ∧ allB fm [x, y] = true := by simpa using ho
    exact ok_fmt (all2 h.2).1
  rw [ho] at CF
  have CP := hid hp
  have CT := hid (fun p c ev hk w' h1 h2 h3 => told_any fm mode hfm sg inf G L E p c u ev n b hk w' h1 h2 h3 hd hl rb rf hro B F hB hF)
  have s2 := sl64_2 w x y 24
  have bel0 : Below w.heap.size w (w.alloc (.cells #[.int .u64 x, .int .u64 y] 24)) := (by repeat (first | exact bz0 _ _ | refine bz1 ?_ | refine bz2 ?_ _ | refine bz3 ?_ _ | refine bz5 ?_ _ | refine bz6 ?_ _))
  clear ho hp hro hB hF hfm
  go_enter Tryz.func30, Tryz.ntmps30
  go_wp2_with fail
  refine (CF.out _ (hE.t.s.f.below bel0) s2).mono ?_
  rintro r w1 ⟨rfl, hb1⟩
  have bel1 := bel_go bel0 hb1
  clear s2
  go_wp2_with fail
  refine (CP.out _ (hE.below bel1).ee).mono ?_
  rintro r w2 ⟨a', c', ev, rfl, kv, ho2, hb2⟩
  have bel2 := bel_al (bel_go bel1 hb2) (.cells #[.bool sg, .bool inf, .bool G, .slice a' L.length c', .int .i64 E] 99)
  obtain ⟨x0', x1', x2', x3', x4'⟩ := (Q5.new w2 (.bool sg) (.bool inf) (.bool G) (.slice a' L.length c') (.int .i64 E) 99).cs
  have s3 := (ho2.alloc (.cells #[.bool sg, .bool inf, .bool G, .slice a' L.length c', .int .i64 E] 99)).sl
  have E2 := hE.below bel2
  go_wp2_with fail
  refine (CT.out a' c' ev kv _ E2.t E2.g s3).mono ?_
  rintro r w3 ⟨rfl, hb3⟩
  go_wp2
  go_ret3
  exact ⟨rfl, bel_go bel2 hb3⟩
theorem sum_z {fm x y : Int} (hx : okF fm x = true) (hy : okF fm y = true) (fx : finB fm x = true) (fy : finB fm y = true) (em : Int) (hem : em = min (nE fm x) (nE fm y)) (z : Int) (hz : z = nZ fm x * 2 ^ (nE fm x - em).toNat + nZ fm y * 2 ^ (nE fm y - em).toNat) :
    (unI fm x + unI fm y) = z * 2 ^ (em - unQ fm).toNat ∧ 0 ≤ em - unQ fm := by
  obtain ⟨-, -, -, ex, -, -⟩ := fin_facts hx fx
  obtain ⟨-, -, -, ey, -, -⟩ := fin_facts hy fy
  have qx := pE_q fx
  have qy := pE_q fy
  rw [← ex] at qx
  rw [← ey] at qy
  refine ⟨?_, by omega⟩
  rw [un_nZ hx fx, un_nZ hy fy, hz, Int.add_mul, Int.mul_assoc, Int.mul_assoc, ← Int.pow_add, ← Int.pow_add]
  rw [show (nE fm x - em).toNat + (em - unQ fm).toNat = (nE fm x - unQ fm).toNat by omega, show (nE fm y - em).toNat + (em - unQ fm).toNat = (nE fm y - unQ fm).toNat by omega]
theorem shz (z n : Int) (h : 0 ≤ n) : Nm.shV (Nm.wn z) (Nm.val (Nm.wl z)) n = z * 2 ^ n.toNat := by
  rw [Nm.val_wl, shV_sg]
  have e : ((Nm.sh z.natAbs n : Nat) : Int) = (z.natAbs : Int) * 2 ^ n.toNat := by unfold Nm.sh; rw [if_neg (by omega), Int.natCast_mul, Int.natCast_pow]; rfl
  rw [e]
  unfold Nm.wn
  by_cases hz : z < 0
  · rw [decide_eq_true hz, if_pos rfl, ← Int.neg_mul]; congr 1; omega
  · rw [decide_eq_false hz, if_neg (by decide)]; congr 1; omega
theorem sum_abs {z : Int} {d : Nat} {u : Int} (h : u = z * 2 ^ d) : z.natAbs ≤ u.natAbs := by
  rw [h, Int.natAbs_mul, Int.natAbs_pow]
  exact Nat.le_mul_of_pos_right _ (Nat.pow_pos (by decide))
theorem nzs_len {fm x em : Int} (h0 : 0 ≤ nE fm x - em) (h1 : nE fm x - em ≤ 3100) : (Nm.wl (nZ fm x * 2 ^ (nE fm x - em).toNat)).length ≤ 200 := by
  obtain ⟨K, hK⟩ : ∃ K : Nat, K = 3100 := ⟨_, rfl⟩
  refine wl_of (k := 53 + K) ?_ (by omega)
  rw [Int.natAbs_mul, Int.natAbs_pow]
  have hb := (nZ_bd fm x).1
  have hb' : (nZ fm x).natAbs ≤ 9007199254740991 := by omega
  have hd : (nE fm x - em).toNat ≤ K := by omega
  have h2 : (2 : Int).natAbs ^ (nE fm x - em).toNat ≤ 2 ^ K := Nat.pow_le_pow_right (by decide) hd
  have h3 : (nZ fm x).natAbs * (2 : Int).natAbs ^ (nE fm x - em).toNat ≤ 9007199254740991 * 2 ^ K := Nat.mul_le_mul hb' h2
  have h4 : 9007199254740991 * 2 ^ K < 2 ^ 53 * 2 ^ K := Nat.mul_lt_mul_of_pos_right (by decide) (Nat.pow_pos (by decide))
  rw [Nat.pow_add]
  exact Nat.lt_of_le_of_lt h3 h4
theorem inf_eq {fm x y : Int} (hx : okF fm x = true) (hy : okF fm y = true) (x0 : 0 ≤ x) (x1 : x < 18446744073709551616) (y0 : 0 ≤ y) (y1 : y < 18446744073709551616) (ix : nI fm x = true) (iy : nI fm y = true) : (x != y) = (sigB fm x != sigB fm y) ∧ x = sgn (sgOf fm) (infOf fm) (sigB fm x) := by
  have ax : absF fm x = infOf fm := by
    have h3 := cls_inf hx x0
    have h4 : (cls fm x == 3) = true := ix
    rw [h4] at h3; simpa using h3
  have ay : absF fm y = infOf fm := by
    have h3 := cls_inf hy y0
    have h4 : (cls fm y == 3) = true := iy
    rw [h4] at h3; simpa using h3
  have ex := abs_sig hx x0 x1
  have ey := abs_sig hy y0 y1
  rw [ax] at ex
  rw [ay] at ey
  refine ⟨?_, ex⟩
  have hs : 0 < sgOf fm := by unfold sgOf; split <;> decide
  cases h1 : sigB fm x <;> cases h2 : sigB fm y <;> rw [h1] at ex <;> rw [h2] at ey <;> unfold sgn at ex ey <;> simp at ex ey ⊢ <;> omega
/-- A right wide shifted, where all fits. -/
theorem wsh_at2 (G : Bool) (p : Option Addr) (c : Nat) (L : List Int) (n : Int) (w : World) (hs : Sl .u32 w (.slice p L.length c) L) (d : Nm.Dg L) (ho : okB G L = true) (h0 : -10000 ≤ n) (h1 : n ≤ 10000) (V : Int) (hV : V = Nm.shV G (Nm.val L) n) (hf : (Nm.wl V).length ≤ 200) :
    Calls Tryz.prog 20 #[.agg #[.bool G, .slice p L.length c], .int .i64 n] w fun r w' => ∃ a' c', r = .returned (.tuple #[.agg #[.bool (Nm.wn V), .slice a' (Nm.wl V).length c'], .bool true]) ∧ Own w' w.heap.size a' c' (Nm.wl V) ∧ Below w.heap.size w w' := by
  have h := wsh_impl G p c L n w hs d (by have := (okB_nz ho).2; omega)
  have e1 : (okB G L && inZ n (-10000) 10000) = true := by rw [ho]; unfold inZ; rw [decide_eq_true h0, decide_eq_true h1]; rfl
  have e3 : Nm.fits V = true := by unfold Nm.fits; exact decide_eq_true hf
  have e4 := out_fits e3
  rw [e1, ← hV, (op_yes _).1, (op_yes _).2.1, (op_yes _).2.2, e3, e4.1, e4.2] at h
  exact h
theorem addf_all (fm mode x y : Int) (u : Value) (w : World) (hE : E3 u w) (x0 : 0 ≤ x) (x1 : x < 18446744073709551616) (y0 : 0 ≤ y) (y1 : y < 18446744073709551616) (B F : Int) (O : Bool) (hB : B = adB fm mode x y) (hF : F = adF fm mode x y) (hO : O = muO fm mode x y) :
    Calls Tryz.prog 30 #[.int .i64 fm, .int .i64 mode, .int .u64 x, .int .u64 y] w fun r w' => r = .returned (.tuple #[.int .u64 B, .int .i64 F, .bool O]) ∧ Below w.heap.size w w' := by
  cases ho : muO fm mode x y
  · obtain ⟨e1, e2⟩ := ad_no ho
    rw [hB, hF, hO, e1, e2, ho]
    exact addi_no2 fm mode x y w hE.t.s.f x0 x1 y0 y1 ho
  obtain ⟨hm, ha⟩ : modeB mode = true ∧ allB fm [x, y] = true := by have : (modeB mode && allB fm [x, y]) = true := ho; simpa using this
  obtain ⟨hx, hy⟩ := all2 ha
  have hfm := ok_fmt hx
  have NX := numAt (u := u) hx x0 x1
  have NY := numAt (u := u) hy y0 y1
  rw [hO, ho]
  cases hn : (nanB fm x || nanB fm y)
  · obtain ⟨nx, ny⟩ : nanB fm x = false ∧ nanB fm y = false := by simpa using hn
    have hB' : B = aB fm mode x y := by rw [hB]; unfold adB; rw [ho, if_pos rfl, hn]; rfl
    have hF' : F = aF fm mode x y := by rw [hF]; unfold adF; rw [ho, if_pos rfl, hn]; rfl
    have sx : nS fm x = sigB fm x := by unfold nS; rw [nx]; rfl
    have sy : nS fm y = sigB fm y := by unfold nS; rw [ny]; rfl
    unfold aB at hB'
    unfold aF at hF'
    cases ix : nI fm x
    · rw [ix] at hB' hF' NX
      cases iy : nI fm y
      · rw [iy] at hB' hF' NY
        have fx := (nan_cases hx nx).resolve_right (by rw [ix]; decide)
        have fy := (nan_cases hy ny).resolve_right (by rw [iy]; decide)
        have b1 := nZ_bd fm x
        have b2 := nZ_bd fm y
        obtain ⟨em, hem⟩ : ∃ em, em = min (nE fm x) (nE fm y) := ⟨_, rfl⟩
        obtain ⟨z, hz⟩ : ∃ z, z = nZ fm x * 2 ^ (nE fm x - em).toNat + nZ fm y * 2 ^ (nE fm y - em).toNat := ⟨_, rfl⟩
        obtain ⟨hu, hq⟩ := sum_z hx hy fx fy em hem z hz
        have hqb := unq_bd fm
        have hul := uu_len fm x y
        have hzl : (Nm.wl z).length ≤ 200 := by
          have h1 := len_bl (x := (unI fm x + unI fm y).natAbs) (k := 200) hul
          have h2 := Nm.bl_mono (sum_abs hu)
          unfold Nm.wl; exact lim_len (k := 200) (by omega)
        have lx := nzs_len (fm := fm) (x := x) (em := em) (by omega) (by omega)
        have ly := nzs_len (fm := fm) (x := y) (em := em) (by omega) (by omega)
        have hz0 : (unI fm x + unI fm y) = 0 ↔ z = 0 := by
          rw [hu]; constructor
          · intro h
            rcases Int.mul_eq_zero.1 h with h' | h'
            · exact h'
            · exact absurd h' (Int.ne_of_gt (Int.pow_pos (by decide)))
          · intro h; rw [h, Int.zero_mul]
        have hl0 : decide ((Nm.wl z).length = 0) = decide ((unI fm x + unI fm y) = 0) := by
          rw [Bool.eq_iff_iff, decide_eq_true_eq, decide_eq_true_eq, hz0]; unfold Nm.wl; rw [Nm.lim_length_zero]; omega
        have hP := tot_num fm mode x y u _ _ _ _ _ _ _ _ _ _ _ _ _ _ NX NY hn (plN (decide ((Nm.wl z).length = 0)) (nS fm x) (nS fm y) (Nm.wn z) mode) false (Nm.wn z) (Nm.wl z) em false false
          (fun Q a1 c1 a2 c2 w hQ h1 h2 => (plus_fin (nS fm x) (Nm.wn (nZ fm x)) (Nm.wl (nZ fm x)) (nE fm x) a1 c1 (nS fm y) (Nm.wn (nZ fm y)) (Nm.wl (nZ fm y)) (nE fm y) a2 c2 mode w em hem (by omega) (by omega) h1.sl h2.sl (Nm.wn (nZ fm x * 2 ^ (nE fm x - em).toNat)) (Nm.wl (nZ fm x * 2 ^ (nE fm x - em).toNat)) (Nm.wn (nZ fm y * 2 ^ (nE fm y - em).toNat)) (Nm.wl (nZ fm y * 2 ^ (nE fm y - em).toNat)) (Nm.wn z) (Nm.wl z) _ rfl hzl
            (fun w' h => wsh_at2 _ a1 c1 _ (nE fm x - em) w' h (Nm.wl_dg _) (okB_wl (nZ_len fm x)) (by omega) (by omega) _ (shz _ _ (by omega)).symm lx)
            (fun w' h => wsh_at2 _ a2 c2 _ (nE fm y - em) w' h (Nm.wl_dg _) (okB_wl (nZ_len fm y)) (by omega) (by omega) _ (shz _ _ (by omega)).symm ly)
            (fun av cv aw cw w' h h' => add_ok av aw cv cw w' h h' (Nm.wl_dg _) (Nm.wl_dg _) (okB_wl lx) (okB_wl ly) z (by rw [Nm.wv_out, Nm.wv_out]; exact hz) (by unfold Nm.fits; exact decide_eq_true hzl))).mono fun r w' ⟨a, c, hr, ho, hb⟩ => ⟨a, c, _, hr, EK.no, ho.base hQ, hb⟩)
        have hro : z ≠ 0 → RdO fm mode (Nm.wn z) (Nm.wl z) em = true ∧ RdB fm mode (Nm.wn (unI fm x + unI fm y)) (Nm.wl (unI fm x + unI fm y)) (unQ fm) = RdB fm mode (Nm.wn z) (Nm.wl z) em ∧ RdF fm mode (Nm.wn (unI fm x + unI fm y)) (Nm.wl (unI fm x + unI fm y)) (unQ fm) = RdF fm mode (Nm.wn z) (Nm.wl z) em := by
          intro hzz
          have o1 := rdo_any (fm := fm) (mode := mode) (z := z) (e := em) hfm hm hzl (by omega) (by omega)
          have o2 := rdo_any (fm := fm) (mode := mode) (z := (unI fm x + unI fm y)) (e := unQ fm) hfm hm hul (by omega) (by omega)
          have hd : unQ fm = em - ((em - unQ fm).toNat : Nat) := by omega
          rw [hu] at o2 ⊢
          rw [hd] at o2 ⊢
          have e2 : (em - (em - ((em - unQ fm).toNat : Nat))).toNat = (em - unQ fm).toNat := by omega
          rw [e2] at o2 ⊢
          obtain ⟨q1, q2⟩ := Rd_scale fm mode z (em - unQ fm).toNat em hzz o1 o2
          exact ⟨o1, q1, q2⟩
        have hzn : (Nm.wl z).length ≠ 0 → z ≠ 0 := by
          intro h e; apply h; rw [e]; have : Nm.wl 0 = [] := Nm.lim_zero
          rw [this]; rfl
        refine addf_core fm mode x y u w hE x0 x1 y0 y1 ho _ _ _ _ _ _ _ hP hzl (Nm.wl_dg _) (RdB fm mode (Nm.wn (unI fm x + unI fm y)) (Nm.wl (unI fm x + unI fm y)) (unQ fm)) (RdF fm mode (Nm.wn (unI fm x + unI fm y)) (Nm.wl (unI fm x + unI fm y)) (unQ fm)) (fun _ _ h => hro (hzn h)) B F ?_ ?_
        · rw [hB', hl0, sx, sy]; unfold tdB plN
          by_cases h0 : (unI fm x + unI fm y) = 0
          · rw [decide_eq_true h0]; simp [h0]
          · rw [decide_eq_false h0]; simp [h0]
        · rw [hF', hl0]; unfold tdF
          by_cases h0 : (unI fm x + unI fm y) = 0
          · rw [decide_eq_true h0]; simp [h0]
          · rw [decide_eq_false h0]; simp [h0]
      · rw [iy] at hB' hF' NY
        obtain ⟨-, ey⟩ := inf_eq hy hy y0 y1 y0 y1 iy iy
        have z2 := nI_z hy iy
        have hP := tot_num fm mode x y u _ _ _ _ _ _ _ _ _ _ _ _ _ _ NX NY hn (nS fm y) true (Nm.wn (nZ fm y)) (Nm.wl (nZ fm y)) (nE fm y) false false
          (fun Q a1 c1 a2 c2 w hQ h1 h2 => (plus_inf2 (nS fm x) false (Nm.wn (nZ fm x)) (Nm.wl (nZ fm x)) (nE fm x) a1 c1 (nS fm y) true (Nm.wn (nZ fm y)) (Nm.wl (nZ fm y)) (nE fm y) a2 c2 mode w rfl rfl).mono fun r w' ⟨hr, hb⟩ => ⟨a2, c2, _, hr, EK.no, h2.below hb, hb⟩)
        refine addf_core fm mode x y u w hE x0 x1 y0 y1 ho _ _ _ _ _ _ _ hP (nZ_len fm y) (Nm.wl_dg _) 0 0 (fun _ h => by cases h) B F ?_ ?_
        · rw [hB', sy]; unfold tdB; simp; exact ey
        · rw [hF']; unfold tdF; simp
    · rw [ix] at hB' hF' NX
      obtain ⟨-, ex⟩ := inf_eq hx hx x0 x1 x0 x1 ix ix
      cases hod : (nI fm y && (x != y))
      · have hor : nI fm y = false ∨ (nS fm x != nS fm y) = false := by
          cases iy : nI fm y
          · exact .inl rfl
          · right
            rw [iy] at hod
            rw [sx, sy, ← (inf_eq hx hy x0 x1 y0 y1 ix iy).1]; simpa using hod
        have hP := tot_num fm mode x y u _ _ _ _ _ _ _ _ _ _ _ _ _ _ NX NY hn (nS fm x) true (Nm.wn (nZ fm x)) (Nm.wl (nZ fm x)) (nE fm x) false false
          (fun Q a1 c1 a2 c2 w hQ h1 h2 => (plus_inf1 (nS fm x) true (Nm.wn (nZ fm x)) (Nm.wl (nZ fm x)) (nE fm x) a1 c1 (nS fm y) (nI fm y) (Nm.wn (nZ fm y)) (Nm.wl (nZ fm y)) (nE fm y) a2 c2 mode w rfl hor).mono fun r w' ⟨hr, hb⟩ => ⟨a1, c1, _, hr, EK.no, h1.below hb, hb⟩)
        refine addf_core fm mode x y u w hE x0 x1 y0 y1 ho _ _ _ _ _ _ _ hP (nZ_len fm x) (Nm.wl_dg _) 0 0 (fun _ h => by cases h) B F ?_ ?_
        · rw [hB', Bool.true_and, hod, sx]; unfold tdB; simp; exact ex
        · rw [hF', Bool.true_and, hod]; unfold tdF; simp
      · obtain ⟨iy, hxy⟩ : nI fm y = true ∧ (x != y) = true := by rw [Bool.and_eq_true] at hod; exact hod
        rw [iy] at NY
        have hss : (nS fm x != nS fm y) = true := by rw [sx, sy, ← (inf_eq hx hy x0 x1 y0 y1 ix iy).1]; exact hxy
        have hP := tot_num fm mode x y u _ _ _ _ _ _ _ _ _ _ _ _ _ _ NX NY hn false false false [] 0 true true
          (fun Q a1 c1 a2 c2 w hQ h1 h2 => (plus_odd (nS fm x) true (Nm.wn (nZ fm x)) (Nm.wl (nZ fm x)) (nE fm x) a1 c1 (nS fm y) true (Nm.wn (nZ fm y)) (Nm.wl (nZ fm y)) (nE fm y) a2 c2 mode w rfl rfl hss).mono fun r w' ⟨s, hr, hb⟩ => ⟨none, 0, _, hr, EK.bad s, Own.nil _ _, hb⟩)
        refine addf_core fm mode x y u w hE x0 x1 y0 y1 ho _ _ _ _ _ _ _ hP (by simp) Nm.Dg.nil 0 0 (fun h => by cases h) B F ?_ ?_
        · rw [hB', Bool.true_and, hod]; rfl
        · rw [hF', Bool.true_and, hod]; rfl
  · have hB' : B = nanOf fm := by rw [hB]; unfold adB; rw [ho, if_pos rfl, hn]; rfl
    have hF' : F = fl8 (nB fm x || nB fm y) := by rw [hF]; unfold adF; rw [ho, if_pos rfl, hn]; rfl
    have hP := tot_nan fm mode x y u _ _ _ _ _ _ _ _ _ _ _ _ _ _ NX NY hn _ rfl
    refine addf_core fm mode x y u w hE x0 x1 y0 y1 ho _ _ _ _ _ _ _ hP (by simp) Nm.Dg.nil 0 0 (fun h => by cases h) B F ?_ ?_
    · rw [hB']; rfl
    · rw [hF']; unfold tdF; cases (nB fm x || nB fm y) <;> rfl
theorem neg_i (fm y : Int) (w : World) (hT : Tab w) (hy : okF fm y = true) (y0 : 0 ≤ y) (y1 : y < 18446744073709551616) :
    Calls Tryz.prog 32 #[.int .i64 fm, .int .u64 y] w fun e w' => e = .returned (.int .u64 (negF fm y)) ∧ Below w.heap.size w w' := by
  rcases okF_cases hy with ⟨rfl, hy'⟩ | rfl
  · rw [neg32 hy']; exact impl_neg32 y w hT y0 hy'
  · rw [neg64]; exact impl_neg64 y w hT y0 y1
theorem sign_s (fm : Int) (w : World) (h : fmtB fm = true) :
    Calls Tryz.prog 63 #[.int .i64 fm] w fun e w' => e = .returned (.int .u64 (sgOf fm)) ∧ Below w.heap.size w w' := by
  rcases fmt_cases h with rfl | rfl
  all_goals
    go_enter Tryz.func63, Tryz.ntmps63
    go_wp2
    go_ret
    exact ⟨rfl, (by repeat (first | exact bz0 _ _ | refine bz1 ?_ | refine bz2 ?_ _ | refine bz3 ?_ _ | refine bz5 ?_ _ | refine bz6 ?_ _))⟩
theorem xor_negB {fm x : Int} (h : okF fm x = true) (h0 : 0 ≤ x) (h1 : x < 18446744073709551616) : bits .xor .u64 x (sgOf fm) = negF fm x := by
  rcases okF_cases h with ⟨rfl, hx⟩ | rfl
  · rw [neg32 hx, show sgOf 32 = 2147483648 from rfl, Bt.xor31 x h0 h1]; split <;> split <;> omega
  · rw [neg64, show sgOf 64 = 9223372036854775808 from rfl, Bt.xor63 x h0 h1]; split <;> split <;> omega
/-- A difference, of all floats. -/
def suB (fm mode x y : Int) : Int := if muO fm mode x y then adB fm mode x (negF fm y) else 0
def suF (fm mode x y : Int) : Int := if muO fm mode x y then adF fm mode x (negF fm y) else 0
theorem su_O {fm mode x y : Int} (hy : okF fm y = true) (y0 : 0 ≤ y) (y1 : y < 18446744073709551616) : muO fm mode x (negF fm y) = muO fm mode x y := by
  have h := (neg_ok hy y0 y1).1
  unfold muO allB; simp [h, hy]
theorem su_no {fm mode x y : Int} (h : muO fm mode x y = false) : suB fm mode x y = 0 ∧ suF fm mode x y = 0 := by unfold suB suF; rw [h]; exact ⟨rfl, rfl⟩
theorem subi_all (fm mode x y : Int) (u : Value) (w : World) (hE : E3 u w) (x0 : 0 ≤ x) (x1 : x < 18446744073709551616) (y0 : 0 ≤ y) (y1 : y < 18446744073709551616) (B F : Int) (O : Bool) (hB : B = suB fm mode x y) (hF : F = suF fm mode x y) (hO : O = muO fm mode x y) :
    Calls Tryz.prog 17 #[.int .i64 fm, .int .i64 mode, .int .u64 x, .int .u64 y] w fun r w' => r = .returned (.tuple #[.int .u64 B, .int .i64 F, .bool O]) ∧ Below w.heap.size w w' := by
  have CO := hid (fun w' h => impl_ok fm y w' h y0 y1)
  cases hy : okF fm y
  · have ho : muO fm mode x y = false := by unfold muO allB; simp [hy]
    obtain ⟨e1, e2⟩ := su_no ho
    rw [e1] at hB; rw [e2] at hF; rw [ho] at hO
    subst hB hF hO
    rw [hy] at CO
    clear ho e1 e2 hy
    go_enter Tryz.func17, Tryz.ntmps17
    go_wp2_with fail
    refine (CO.out _ hE.t.s.f).mono ?_
    rintro r w1 ⟨rfl, hb1⟩
    go_wp2
    go_ret3
    exact ⟨rfl, (by repeat (first | exact bz0 _ _ | refine bz1 ?_ | refine bz2 ?_ _ | refine bz3 ?_ _ | refine bz4 ?_ hb1 | refine bz5 ?_ _ | refine bz6 ?_ _ | refine bz7 ?_ hb1))⟩
  rw [hy] at CO
  obtain ⟨n1, n2, n3⟩ := neg_ok hy y0 y1
  have hO' : O = muO fm mode x (negF fm y) := by rw [hO, su_O hy y0 y1]
  have hB' : B = adB fm mode x (negF fm y) := by
    rw [hB]; unfold suB
    cases ho : muO fm mode x y
    · rw [(ad_no (by rw [su_O hy y0 y1]; exact ho)).1]; rfl
    · rfl
  have hF' : F = adF fm mode x (negF fm y) := by
    rw [hF]; unfold suF
    cases ho : muO fm mode x y
    · rw [(ad_no (by rw [su_O hy y0 y1]; exact ho)).2]; rfl
    · rfl
  have CA := hid (fun w' h => addf_all fm mode x (negF fm y) u w' h x0 x1 n2 n3 B F O hB' hF' hO')
  have CN := hid (fun w' h => neg_i fm y w' h hy y0 y1)
  obtain ⟨ny, hny⟩ : ∃ ny, ny = negF fm y := ⟨_, rfl⟩
  rw [← hny] at CA CN
  clear hB hF hO hB' hF' hO' hy n1 n2 n3 hny
  go_enter Tryz.func17, Tryz.ntmps17
  go_wp2_with fail
  refine (CO.out _ hE.t.s.f).mono ?_
  rintro r w1 ⟨rfl, hb1⟩
  go_wp2_with fail
  refine (CN.out _ (hE.t.s.f.below hb1)).mono ?_
  rintro r w2 ⟨rfl, hb2⟩
  go_wp2_with fail
  refine (CA.out _ ((hE.below hb1).below hb2)).mono ?_
  rintro r w3 ⟨rfl, hb3⟩
  go_wp2
  go_ret3
  exact ⟨rfl, (by repeat (first | exact bz0 _ _ | refine bz1 ?_ | refine bz2 ?_ _ | refine bz3 ?_ _ | refine bz4 ?_ hb3 | refine bz4 ?_ hb2 | refine bz4 ?_ hb1 | refine bz5 ?_ _ | refine bz6 ?_ _ | refine bz7 ?_ hb3 | refine bz7 ?_ hb2 | refine bz7 ?_ hb1))⟩
end Go.Proofs.YtmcflggionkhlaaGreatDoor
