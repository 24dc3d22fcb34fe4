/-
  What is needed of FT.
-/
import Derived.Test.YtmcflggionkhlaaGreatDoorF51
set_option maxHeartbeats 16000000
set_option maxRecDepth 1000000
namespace Go.Proofs.YtmcflggionkhlaaGreatDoor
set_option linter.unusedVariables false
set_option linter.unusedSimpArgs false
open Go.RowKit Go.Deep
/-- Once x and y and z, in 2 to the 2 Q. -/
def ppI (fm x y z : Int) : Int := nZ fm x * nZ fm y * 2 ^ (nE fm x + nE fm y - 2 * unQ fm).toNat + unI fm z * 2 ^ (-unQ fm).toNat
def ftO (fm mode x y z : Int) : Bool := modeB mode && allB fm [x, y, z]
def ftI (fm x y : Int) : Int := sgn (sgOf fm) (infOf fm) (sigB fm x != sigB fm y)
def ftV (fm mode x y z : Int) : Int := if odd2 fm x y then nanOf fm else if nI fm x || nI fm y then aB fm mode (ftI fm x y) z else if nI fm z then z else if ppI fm x y z = 0 then sgn (sgOf fm) 0 ((sigB fm x != sigB fm y) && sigB fm z || (((sigB fm x != sigB fm y) != sigB fm z) && decide (mode = 3))) else RdB fm mode (Nm.wn (ppI fm x y z)) (Nm.wl (ppI fm x y z)) (2 * unQ fm)
def ftG (fm mode x y z : Int) : Int := if odd2 fm x y then 8 else if nI fm x || nI fm y then aF fm mode (ftI fm x y) z else if nI fm z then 0 else if ppI fm x y z = 0 then 0 else RdF fm mode (Nm.wn (ppI fm x y z)) (Nm.wl (ppI fm x y z)) (2 * unQ fm)
def ftB (fm mode x y z : Int) : Int := if ftO fm mode x y z then (if nanB fm x || (nanB fm y || nanB fm z) then nanOf fm else ftV fm mode x y z) else 0
def ftF (fm mode x y z : Int) : Int := if ftO fm mode x y z then (if nanB fm x || (nanB fm y || nanB fm z) then fl8 (nB fm x || (nB fm y || nB fm z) || odd2 fm x y) else ftG fm mode x y z) else 0
theorem ft_no {fm mode x y z : Int} (h : ftO fm mode x y z = false) : ftB fm mode x y z = 0 ∧ ftF fm mode x y z = 0 := by unfold ftB ftF; rw [h]; exact ⟨rfl, rfl⟩
theorem all3l {fm x y z : Int} (h : allB fm [x, y, z] = true) : okF fm x = true ∧ okF fm y = true ∧ okF fm z = true := by
  unfold allB at h; simpa using h
theorem all3_fmt {fm mode x y z : Int} : (allB fm [x, y, z] && fmtB fm && modeB mode) = (modeB mode && allB fm [x, y, z]) := by
  cases h : allB fm [x, y, z]
  · simp
  · rw [ok_fmt (all3l h).1]; simp
theorem d64_3 {x y z : Int} (x0 : 0 ≤ x) (x1 : x < 18446744073709551616) (y0 : 0 ≤ y) (y1 : y < 18446744073709551616) (z0 : 0 ≤ z) (z1 : z < 18446744073709551616) : D64 [x, y, z] := by
  intro i
  rcases i with _ | _ | _ | i <;> simp <;> omega
theorem pp_len (fm x y z : Int) : (Nm.wl (ppI fm x y z)).length ≤ 200 := by
  have hq := unq_bd fm
  obtain ⟨-, x0, x1⟩ := nZ_bd fm x
  obtain ⟨-, y0, y1⟩ := nZ_bd fm y
  have h1 := nZm_bd fm x y
  have h2 := un_blA fm z
  have b1 : bitLen (nZ fm x * nZ fm y).natAbs ≤ 106 := (Nm.bl_le_iff _ 106).2 h1
  have sh : ∀ (v : Int) (n : Nat), bitLen (v * 2 ^ n).natAbs ≤ bitLen v.natAbs + n := fun v n => by
    rw [Int.natAbs_mul, Int.natAbs_pow]
    by_cases h : v.natAbs = 0
    · rw [h, Nat.zero_mul, Nm.bl_zero]; omega
    · exact Nat.le_of_eq (Nm.bl_mul h n)
  have s1 := sh (nZ fm x * nZ fm y) (nE fm x + nE fm y - 2 * unQ fm).toNat
  have s2 := sh (unI fm z) (-unQ fm).toNat
  obtain ⟨K, hK⟩ : ∃ K : Nat, K = 6300 := ⟨_, rfl⟩
  have k1 : bitLen (nZ fm x * nZ fm y * 2 ^ (nE fm x + nE fm y - 2 * unQ fm).toNat).natAbs ≤ K := by omega
  have k2 : bitLen (unI fm z * 2 ^ (-unQ fm).toNat).natAbs ≤ K := by omega
  rw [Nm.bl_le_iff] at k1 k2
  refine wl_of (k := K + 1) ?_ (by omega)
  have h3 : (ppI fm x y z).natAbs ≤ (nZ fm x * nZ fm y * 2 ^ (nE fm x + nE fm y - 2 * unQ fm).toNat).natAbs + (unI fm z * 2 ^ (-unQ fm).toNat).natAbs := Int.natAbs_add_le _ _
  rw [Nat.pow_succ]
  exact (fun (P a b c : Nat) (h : c ≤ a + b) (ha : a < P) (hb : b < P) => by omega : ∀ P a b c : Nat, c ≤ a + b → a < P → b < P → c < P * 2) _ _ _ _ h3 k1 k2
theorem odd4 (fm x y : Int) (w : World) (hx : okF fm x = true) (hy : okF fm y = true) (x0 : 0 ≤ x) (x1 : x < 18446744073709551616) (y0 : 0 ≤ y) (y1 : y < 18446744073709551616) (o : Bool) (ho : o = odd2 fm x y) :
    Calls Tryz.prog 90 #[.int .i64 fm, .int .u64 x, .int .u64 y] w fun e w' => e = .returned (.bool o) ∧ Below w.heap.size w w' := by
  have CI1 := hid (fun w' => inf4 fm x w' hx x0 x1 _ rfl)
  have CI2 := hid (fun w' => inf4 fm y w' hy y0 y1 _ rfl)
  have CZ1 := hid (fun w' => zer4 fm x w' hx x0 x1 (zF fm x) rfl)
  have CZ2 := hid (fun w' => zer4 fm y w' hy y0 y1 (zF fm y) rfl)
  unfold odd2 at ho
  obtain ⟨i1, hi1⟩ : ∃ i, i = nI fm x := ⟨_, rfl⟩
  obtain ⟨i2, hi2⟩ : ∃ i, i = nI fm y := ⟨_, rfl⟩
  obtain ⟨z1, hz1⟩ : ∃ i, i = zF fm x := ⟨_, rfl⟩
  obtain ⟨z2, hz2⟩ : ∃ i, i = zF fm y := ⟨_, rfl⟩
  rw [← hi1, ← hi2, ← hz1, ← hz2] at ho
  rw [← hi1] at CI1
  rw [← hi2] at CI2
  rw [← hz1] at CZ1
  rw [← hz2] at CZ2
  clear hi1 hi2 hz1 hz2 hx hy x0 x1 y0 y1
  cases i1 with
  | false =>
    cases z1 with
    | false =>
      subst ho
      go_enter Tryz.func90, Tryz.ntmps90
      go_wp2_with fail
      refine (CI1.out _).mono ?_
      rintro r w1 ⟨rfl, hb1⟩
      go_wp2_with fail
      refine (CZ1.out _).mono ?_
      rintro r w2 ⟨rfl, hb2⟩
      go_wp2
      go_ret
      exact ⟨rfl, (by repeat (first | exact bz0 _ _ | refine bz1 ?_ | refine bz2 ?_ _ | refine bz3 ?_ _ | refine bz4 ?_ hb2 | refine bz4 ?_ hb1 | refine bz5 ?_ _ | refine bz6 ?_ _ | refine bz7 ?_ hb2 | refine bz7 ?_ hb1))⟩
    | true =>
      have ho' : o = i2 := by rw [ho]; cases i2 <;> cases z2 <;> rfl
      subst ho'
      clear ho
      go_enter Tryz.func90, Tryz.ntmps90
      go_wp2_with fail
      refine (CI1.out _).mono ?_
      rintro r w1 ⟨rfl, hb1⟩
      go_wp2_with fail
      refine (CZ1.out _).mono ?_
      rintro r w2 ⟨rfl, hb2⟩
      go_wp2_with fail
      refine (CI2.out _).mono ?_
      rintro r w3 ⟨rfl, hb3⟩
      go_wp2
      go_ret
      exact ⟨rfl, (by repeat (first | exact bz0 _ _ | refine bz1 ?_ | refine bz2 ?_ _ | refine bz3 ?_ _ | refine bz4 ?_ hb3 | refine bz4 ?_ hb2 | refine bz4 ?_ hb1 | refine bz5 ?_ _ | refine bz6 ?_ _ | refine bz7 ?_ hb3 | refine bz7 ?_ hb2 | refine bz7 ?_ hb1))⟩
  | true =>
    cases z2 with
    | true =>
      have ho' : o = true := by rw [ho]; cases z1 <;> cases i2 <;> rfl
      subst ho'
      clear ho
      go_enter Tryz.func90, Tryz.ntmps90
      go_wp2_with fail
      refine (CI1.out _).mono ?_
      rintro r w1 ⟨rfl, hb1⟩
      go_wp2_with fail
      refine (CZ2.out _).mono ?_
      rintro r w2 ⟨rfl, hb2⟩
      go_wp2
      go_ret
      exact ⟨rfl, (by repeat (first | exact bz0 _ _ | refine bz1 ?_ | refine bz2 ?_ _ | refine bz3 ?_ _ | refine bz4 ?_ hb2 | refine bz4 ?_ hb1 | refine bz5 ?_ _ | refine bz6 ?_ _ | refine bz7 ?_ hb2 | refine bz7 ?_ hb1))⟩
    | false =>
      cases z1 with
      | false =>
        have ho' : o = false := by rw [ho]; cases i2 <;> rfl
        subst ho'
        clear ho
        go_enter Tryz.func90, Tryz.ntmps90
        go_wp2_with fail
        refine (CI1.out _).mono ?_
        rintro r w1 ⟨rfl, hb1⟩
        go_wp2_with fail
        refine (CZ2.out _).mono ?_
        rintro r w2 ⟨rfl, hb2⟩
        go_wp2_with fail
        refine (CZ1.out _).mono ?_
        rintro r w3 ⟨rfl, hb3⟩
        go_wp2
        go_ret
        exact ⟨rfl, (by repeat (first | exact bz0 _ _ | refine bz1 ?_ | refine bz2 ?_ _ | refine bz3 ?_ _ | refine bz4 ?_ hb3 | refine bz4 ?_ hb2 | refine bz4 ?_ hb1 | refine bz5 ?_ _ | refine bz6 ?_ _ | refine bz7 ?_ hb3 | refine bz7 ?_ hb2 | refine bz7 ?_ hb1))⟩
      | true =>
        have ho' : o = i2 := by rw [ho]; cases i2 <;> rfl
        subst ho'
        clear ho
        go_enter Tryz.func90, Tryz.ntmps90
        go_wp2_with fail
        refine (CI1.out _).mono ?_
        rintro r w1 ⟨rfl, hb1⟩
        go_wp2_with fail
        refine (CZ2.out _).mono ?_
        rintro r w2 ⟨rfl, hb2⟩
        go_wp2_with fail
        refine (CZ1.out _).mono ?_
        rintro r w3 ⟨rfl, hb3⟩
        go_wp2_with fail
        refine (CI2.out _).mono ?_
        rintro r w4 ⟨rfl, hb4⟩
        go_wp2
        go_ret
        exact ⟨rfl, (by repeat (first | exact bz0 _ _ | refine bz1 ?_ | refine bz2 ?_ _ | refine bz3 ?_ _ | refine bz4 ?_ hb4 | refine bz4 ?_ hb3 | refine bz4 ?_ hb2 | refine bz4 ?_ hb1 | refine bz5 ?_ _ | refine bz6 ?_ _ | refine bz7 ?_ hb4 | refine bz7 ?_ hb3 | refine bz7 ?_ hb2 | refine bz7 ?_ hb1))⟩
theorem ftI_bd (fm x y : Int) : 0 ≤ ftI fm x y ∧ ftI fm x y < 18446744073709551616 := by
  unfold ftI sgn infOf sgOf
  by_cases h : fm = 32 <;> cases (sigB fm x != sigB fm y) <;> simp [h]
theorem ftI_ok {fm : Int} (h : fmtB fm = true) (x y : Int) : okF fm (ftI fm x y) = true ∧ nanB fm (ftI fm x y) = false ∧ nI fm (ftI fm x y) = true ∧ sigB fm (ftI fm x y) = (sigB fm x != sigB fm y) := by
  unfold ftI
  cases (sigB fm x != sigB fm y) <;> rcases fmt_cases h with rfl | rfl <;> decide +kernel
theorem ft_spec (fm mode x y z : Int) (w : World) (x0 : 0 ≤ x) (x1 : x < 18446744073709551616) (y0 : 0 ≤ y) (y1 : y < 18446744073709551616) (z0 : 0 ≤ z) (z1 : z < 18446744073709551616) (B F : Int) (O : Bool) (hB : B = ftB fm mode x y z) (hF : F = ftF fm mode x y z) (hO : O = ftO fm mode x y z) :
    Calls Tryz.prog 27 #[.int .i64 fm, .int .i64 mode, .int .u64 x, .int .u64 y, .int .u64 z] w fun r w' => r = .returned (.tuple #[.int .u64 B, .int .i64 F, .bool O]) ∧ Below w.heap.size w w' := by
  have dx := d64_3 x0 x1 y0 y1 z0 z1
  have CF := hid (fun w' h => l4form fm mode (some ⟨w.heap.size, 0, none⟩) 3 [x, y, z] w' h (by simp))
  rw [all3_fmt] at CF
  have s3 := sl64_3 w x y z 24
  cases ho : ftO fm mode x y z
  · obtain ⟨e1, e2⟩ := ft_no ho
    rw [e1] at hB; rw [e2] at hF; rw [ho] at hO
    subst hB hF hO
    have ho' : (modeB mode && allB fm [x, y, z]) = false := ho
    rw [ho'] at CF
    clear ho ho' e1 e2 dx
    go_enter Tryz.func27, Tryz.ntmps27
    go_wp2_with fail
    refine (CF.out _ s3).mono ?_
    rintro r w1 ⟨rfl, hb1⟩
    go_wp2
    go_ret3
    exact ⟨rfl, (by repeat (first | exact bz0 _ _ | refine bz1 ?_ | refine bz2 ?_ _ | refine bz3 ?_ _ | refine bz4 ?_ hb1 | refine bz5 ?_ _ | refine bz6 ?_ _ | refine bz7 ?_ hb1))⟩
  have ho' : (modeB mode && allB fm [x, y, z]) = true := ho
  rw [ho'] at CF
  obtain ⟨hm, ha⟩ : modeB mode = true ∧ allB fm [x, y, z] = true := by simpa using ho'
  obtain ⟨hx, hy, hz⟩ := all3l ha
  have hfm := ok_fmt hx
  have CN := hid (fun a w' h => l4nan fm a 3 [x, y, z] w' h dx (by simp) hfm ha)
  have e1 : [x, y, z].any (nanB fm) = (nanB fm x || (nanB fm y || nanB fm z)) := by simp
  have e2 : [x, y, z].any (nB fm) = (nB fm x || (nB fm y || nB fm z)) := by simp
  rw [e1, e2] at CN
  have CO := hid (fun w' => odd4 fm x y w' hx hy x0 x1 y0 y1 _ rfl)
  rw [ho] at hO
  subst hO
  cases hn : (nanB fm x || (nanB fm y || nanB fm z))
  rotate_left
  · rw [hn] at CN
    have hB' : B = nanOf fm := by rw [hB]; unfold ftB; rw [ho, if_pos rfl, hn]; rfl
    have hF' : F = fl8 (nB fm x || (nB fm y || nB fm z) || odd2 fm x y) := by rw [hF]; unfold ftF; rw [ho, if_pos rfl, hn]; rfl
    rw [← hB'] at CN
    cases hod : odd2 fm x y
    · rw [hod] at CO hF'
      rw [Bool.or_false] at hF'
      rw [← hF'] at CN
      clear hB hF hB' hF' hn ho ho' dx e1 e2 hm ha hx hy hz hfm hod
      go_enter Tryz.func27, Tryz.ntmps27
      go_wp2_with fail
      refine (CF.out _ s3).mono ?_
      rintro r w1 ⟨rfl, hb1⟩
      go_wp2_with fail
      refine (CN.out _ _ (sl64_3 w1 x y z 24)).mono ?_
      rintro r w2 ⟨rfl, hb2⟩
      go_wp2_with fail
      refine (CO.out _).mono ?_
      rintro r w3 ⟨rfl, hb3⟩
      go_wp2
      go_ret3
      exact ⟨rfl, (by repeat (first | exact bz0 _ _ | refine bz1 ?_ | refine bz2 ?_ _ | refine bz3 ?_ _ | refine bz4 ?_ hb3 | refine bz4 ?_ hb2 | refine bz4 ?_ hb1 | refine bz5 ?_ _ | refine bz6 ?_ _ | refine bz7 ?_ hb3 | refine bz7 ?_ hb2 | refine bz7 ?_ hb1))⟩
    · rw [hod] at CO hF'
      have hF2 : F = 8 := by rw [hF', Bool.or_true]; rfl
      subst hF2
      obtain ⟨q2, hq2⟩ : ∃ i : Int, i = fl8 (nB fm x || (nB fm y || nB fm z)) := ⟨_, rfl⟩
      rw [← hq2] at CN
      clear hB hF hB' hF' hn ho ho' dx e1 e2 hm ha hx hy hz hfm hod hq2
      go_enter Tryz.func27, Tryz.ntmps27
      go_wp2_with fail
      refine (CF.out _ s3).mono ?_
      rintro r w1 ⟨rfl, hb1⟩
      go_wp2_with fail
      refine (CN.out _ _ (sl64_3 w1 x y z 24)).mono ?_
      rintro r w2 ⟨rfl, hb2⟩
      go_wp2_with fail
      refine (CO.out _).mono ?_
      rintro r w3 ⟨rfl, hb3⟩
      go_wp2
      go_ret3
      exact ⟨rfl, (by repeat (first | exact bz0 _ _ | refine bz1 ?_ | refine bz2 ?_ _ | refine bz3 ?_ _ | refine bz4 ?_ hb3 | refine bz4 ?_ hb2 | refine bz4 ?_ hb1 | refine bz5 ?_ _ | refine bz6 ?_ _ | refine bz7 ?_ hb3 | refine bz7 ?_ hb2 | refine bz7 ?_ hb1))⟩
  obtain ⟨nx, ny, nz⟩ : nanB fm x = false ∧ nanB fm y = false ∧ nanB fm z = false := by simpa using hn
  rw [hn] at CN
  have hB' : B = ftV fm mode x y z := by rw [hB]; unfold ftB; rw [ho, if_pos rfl, hn]; rfl
  have hF' : F = ftG fm mode x y z := by rw [hF]; unfold ftF; rw [ho, if_pos rfl, hn]; rfl
  unfold ftV at hB'
  unfold ftG at hF'
  obtain ⟨q1, hq1⟩ : ∃ i, i = nanOf fm := ⟨_, rfl⟩
  obtain ⟨q2, hq2⟩ : ∃ i : Int, i = fl8 (nB fm x || (nB fm y || nB fm z)) := ⟨_, rfl⟩
  rw [← hq1, ← hq2] at CN
  clear hB hF hq2 dx e1 e2 hn ho ho'
  have CS1 := hid (fun w' => spec_l2neg fm x w' hx x0 x1)
  have CS2 := hid (fun w' => spec_l2neg fm y w' hy y0 y1)
  have CS3 := hid (fun w' => spec_l2neg fm z w' hz z0 z1)
  have CI1 := hid (fun w' => inf4 fm x w' hx x0 x1 _ rfl)
  have CI2 := hid (fun w' => inf4 fm y w' hy y0 y1 _ rfl)
  have CI3 := hid (fun w' => inf4 fm z w' hz z0 z1 _ rfl)
  have CNO := hid (fun w' => nan_s fm w' hfm)
  obtain ⟨ng, hng⟩ : ∃ i, i = (sigB fm x != sigB fm y) := ⟨_, rfl⟩
  obtain ⟨s1, hs1⟩ : ∃ i, i = sigB fm x := ⟨_, rfl⟩
  obtain ⟨s2, hs2⟩ : ∃ i, i = sigB fm y := ⟨_, rfl⟩
  have hng' : (s1 != s2) = ng := by rw [hng, hs1, hs2]
  have hng2 : (s1 == s2) = !ng := by rw [← hng']; cases s1 <;> cases s2 <;> rfl
  rw [← hs1] at CS1
  rw [← hs2] at CS2
  cases hod : odd2 fm x y
  rotate_left
  · rw [hod] at CO hB' hF'
    have hB2 : B = nanOf fm := hB'
    have hF2 : F = 8 := hF'
    rw [← hB2] at CNO
    subst hF2
    clear hB' hF' hB2 hq1 hng hs1 hs2 CI1 CI2 CI3 CS3 nx ny nz hm ha hx hy hz hfm hod
    go_enter Tryz.func27, Tryz.ntmps27
    go_wp2_with fail
    refine (CF.out _ s3).mono ?_
    rintro r w1 ⟨rfl, hb1⟩
    go_wp2_with fail
    refine (CN.out _ _ (sl64_3 w1 x y z 24)).mono ?_
    rintro r w2 ⟨rfl, hb2⟩
    go_wp2_with fail
    refine (CS1.out _).mono ?_
    rintro r w3 ⟨rfl, hb3⟩
    go_wp2_with fail
    refine (CS2.out _).mono ?_
    rintro r w4 ⟨rfl, hb4⟩
    go_wp2_with fail
    refine (CO.out _).mono ?_
    rintro r w5 ⟨rfl, hb5⟩
    go_wp2_with fail
    refine (CNO.out _).mono ?_
    rintro r w6 ⟨rfl, hb6⟩
    go_wp2
    go_ret3
    exact ⟨rfl, (by repeat (first | exact bz0 _ _ | refine bz1 ?_ | refine bz2 ?_ _ | refine bz3 ?_ _ | refine bz4 ?_ hb6 | refine bz4 ?_ hb5 | refine bz4 ?_ hb4 | refine bz4 ?_ hb3 | refine bz4 ?_ hb2 | refine bz4 ?_ hb1 | refine bz5 ?_ _ | refine bz6 ?_ _ | refine bz7 ?_ hb6 | refine bz7 ?_ hb5 | refine bz7 ?_ hb4 | refine bz7 ?_ hb3 | refine bz7 ?_ hb2 | refine bz7 ?_ hb1))⟩
  rw [hod] at CO hB' hF'
  clear hod
  cases hi : (nI fm x || nI fm y)
  rotate_left
  · rw [hi] at hB' hF'
    have hB2 : B = aB fm mode (ftI fm x y) z := hB'
    have hF2 : F = aF fm mode (ftI fm x y) z := hF'
    obtain ⟨j1, j2, j3, j4⟩ := ftI_ok hfm x y
    have CA := hid (fun w' => l4add fm mode (ftI fm x y) z w' j1 hz (ftI_bd fm x y).1 (ftI_bd fm x y).2 z0 z1 hm j2 nz B F hB2 hF2)
    have CI := hid (fun w' => inf_s fm w' hfm)
    have CW := hid (fun w' => with_s fm (infOf fm) ng w' hfm (by unfold infOf; split <;> decide) (by
      rcases fmt_cases hfm with rfl | rfl
      · exact .inl (by decide)
      · exact .inr ⟨rfl, by decide⟩))
    have hI : sgn (sgOf fm) (infOf fm) ng = ftI fm x y := by rw [hng]; rfl
    rw [hI] at CW
    obtain ⟨IN, hIN⟩ : ∃ i, i = ftI fm x y := ⟨_, rfl⟩
    obtain ⟨iv, hiv⟩ : ∃ i, i = infOf fm := ⟨_, rfl⟩
    rw [← hIN] at CW CA
    rw [← hiv] at CI CW
    obtain ⟨i1, hi1⟩ : ∃ i, i = nI fm x := ⟨_, rfl⟩
    obtain ⟨i2, hi2⟩ : ∃ i, i = nI fm y := ⟨_, rfl⟩
    rw [← hi1] at CI1 hi
    rw [← hi2] at CI2 hi
    clear hB' hF' hB2 hF2 hq1 hng hs1 hs2 CI3 CS3 nx ny nz hm ha hx hy hz hfm j1 j2 j3 j4 hI hIN hiv hi1 hi2
    cases i1
    · cases i2
      · exact absurd hi (by decide)
      · go_enter Tryz.func27, Tryz.ntmps27
        go_wp2_with fail
        refine (CF.out _ s3).mono ?_
        rintro r w1 ⟨rfl, hb1⟩
        go_wp2_with fail
        refine (CN.out _ _ (sl64_3 w1 x y z 24)).mono ?_
        rintro r w2 ⟨rfl, hb2⟩
        go_wp2_with fail
        refine (CS1.out _).mono ?_
        rintro r w3 ⟨rfl, hb3⟩
        go_wp2_with fail
        refine (CS2.out _).mono ?_
        rintro r w4 ⟨rfl, hb4⟩
        go_wp2_with fail
        refine (CO.out _).mono ?_
        rintro r w5 ⟨rfl, hb5⟩
        go_wp2_with fail
        refine (CI1.out _).mono ?_
        rintro r w6 ⟨rfl, hb6⟩
        go_wp2_with fail
        refine (CI2.out _).mono ?_
        rintro r w7 ⟨rfl, hb7⟩
        go_wp2_with fail
        refine (CI.out _).mono ?_
        rintro r w8 ⟨rfl, hb8⟩
        go_wp2_with fail
        refine (CW.out _).mono ?_
        rintro r w9 ⟨rfl, hb9⟩
        go_wp2_with fail
        refine (CA.out _).mono ?_
        rintro r w10 ⟨rfl, hb10⟩
        go_wp2
        go_ret3
        exact ⟨rfl, (by repeat (first | exact bz0 _ _ | refine bz1 ?_ | refine bz2 ?_ _ | refine bz3 ?_ _ | refine bz4 ?_ hb10 | refine bz4 ?_ hb9 | refine bz4 ?_ hb8 | refine bz4 ?_ hb7 | refine bz4 ?_ hb6 | refine bz4 ?_ hb5 | refine bz4 ?_ hb4 | refine bz4 ?_ hb3 | refine bz4 ?_ hb2 | refine bz4 ?_ hb1 | refine bz5 ?_ _ | refine bz6 ?_ _ | refine bz7 ?_ hb10 | refine bz7 ?_ hb9 | refine bz7 ?_ hb8 | refine bz7 ?_ hb7 | refine bz7 ?_ hb6 | refine bz7 ?_ hb5 | refine bz7 ?_ hb4 | refine bz7 ?_ hb3 | refine bz7 ?_ hb2 | refine bz7 ?_ hb1))⟩
    · go_enter Tryz.func27, Tryz.ntmps27
      go_wp2_with fail
      refine (CF.out _ s3).mono ?_
      rintro r w1 ⟨rfl, hb1⟩
      go_wp2_with fail
      refine (CN.out _ _ (sl64_3 w1 x y z 24)).mono ?_
      rintro r w2 ⟨rfl, hb2⟩
      go_wp2_with fail
      refine (CS1.out _).mono ?_
      rintro r w3 ⟨rfl, hb3⟩
      go_wp2_with fail
      refine (CS2.out _).mono ?_
      rintro r w4 ⟨rfl, hb4⟩
      go_wp2_with fail
      refine (CO.out _).mono ?_
      rintro r w5 ⟨rfl, hb5⟩
      go_wp2_with fail
      refine (CI1.out _).mono ?_
      rintro r w6 ⟨rfl, hb6⟩
      go_wp2_with fail
      refine (CI.out _).mono ?_
      rintro r w7 ⟨rfl, hb7⟩
      go_wp2_with fail
      refine (CW.out _).mono ?_
      rintro r w8 ⟨rfl, hb8⟩
      go_wp2_with fail
      refine (CA.out _).mono ?_
      rintro r w9 ⟨rfl, hb9⟩
      go_wp2
      go_ret3
      exact ⟨rfl, (by repeat (first | exact bz0 _ _ | refine bz1 ?_ | refine bz2 ?_ _ | refine bz3 ?_ _ | refine bz4 ?_ hb9 | refine bz4 ?_ hb8 | refine bz4 ?_ hb7 | refine bz4 ?_ hb6 | refine bz4 ?_ hb5 | refine bz4 ?_ hb4 | refine bz4 ?_ hb3 | refine bz4 ?_ hb2 | refine bz4 ?_ hb1 | refine bz5 ?_ _ | refine bz6 ?_ _ | refine bz7 ?_ hb9 | refine bz7 ?_ hb8 | refine bz7 ?_ hb7 | refine bz7 ?_ hb6 | refine bz7 ?_ hb5 | refine bz7 ?_ hb4 | refine bz7 ?_ hb3 | refine bz7 ?_ hb2 | refine bz7 ?_ hb1))⟩
  rw [hi] at hB' hF'
  obtain ⟨ix, iy⟩ : nI fm x = false ∧ nI fm y = false := by simpa using hi
  rw [ix] at CI1
  rw [iy] at CI2
  clear hi
  cases iz : nI fm z
  rotate_left
  · rw [iz] at CI3 hB' hF'
    have hB2 : B = z := hB'
    have hF2 : F = 0 := hF'
    subst hF2
    rw [hB2]
    clear hB' hF' hB2 hq1 hng hs1 hs2 CS3 nx ny nz hm ha hx hy hz hfm ix iy iz
    go_enter Tryz.func27, Tryz.ntmps27
    go_wp2_with fail
    refine (CF.out _ s3).mono ?_
    rintro r w1 ⟨rfl, hb1⟩
    go_wp2_with fail
    refine (CN.out _ _ (sl64_3 w1 x y z 24)).mono ?_
    rintro r w2 ⟨rfl, hb2⟩
    go_wp2_with fail
    refine (CS1.out _).mono ?_
    rintro r w3 ⟨rfl, hb3⟩
    go_wp2_with fail
    refine (CS2.out _).mono ?_
    rintro r w4 ⟨rfl, hb4⟩
    go_wp2_with fail
    refine (CO.out _).mono ?_
    rintro r w5 ⟨rfl, hb5⟩
    go_wp2_with fail
    refine (CI1.out _).mono ?_
    rintro r w6 ⟨rfl, hb6⟩
    go_wp2_with fail
    refine (CI2.out _).mono ?_
    rintro r w7 ⟨rfl, hb7⟩
    go_wp2_with fail
    refine (CI3.out _).mono ?_
    rintro r w8 ⟨rfl, hb8⟩
    go_wp2
    go_ret3
    exact ⟨rfl, (by repeat (first | exact bz0 _ _ | refine bz1 ?_ | refine bz2 ?_ _ | refine bz3 ?_ _ | refine bz4 ?_ hb8 | refine bz4 ?_ hb7 | refine bz4 ?_ hb6 | refine bz4 ?_ hb5 | refine bz4 ?_ hb4 | refine bz4 ?_ hb3 | refine bz4 ?_ hb2 | refine bz4 ?_ hb1 | refine bz5 ?_ _ | refine bz6 ?_ _ | refine bz7 ?_ hb8 | refine bz7 ?_ hb7 | refine bz7 ?_ hb6 | refine bz7 ?_ hb5 | refine bz7 ?_ hb4 | refine bz7 ?_ hb3 | refine bz7 ?_ hb2 | refine bz7 ?_ hb1))⟩
  rw [iz] at CI3 hB' hF'
  have fx := (nan_cases hx nx).resolve_right (by rw [ix]; decide)
  have fy := (nan_cases hy ny).resolve_right (by rw [iy]; decide)
  have fz := (nan_cases hz nz).resolve_right (by rw [iz]; decide)
  have CE := hid (fun w' => exact4 fm x y w' fx fy x0 x1 y0 y1 hx hy _ _ _ rfl rfl rfl)
  have CQ := hid (fun w' => sQb fm w' hfm)
  have CU := hid (fun w' => l2units_any fm z w' fz z0 z1)
  have bx := nZ_bd fm x
  have b_y := nZ_bd fm y
  have hq := unq_bd fm
  have lM := nZm_len fm x y
  have lU := un_lenA fm z
  have qx := pE_q fx
  have qy := pE_q fy
  rw [← (fin_facts hx fx).2.2.2.1] at qx
  rw [← (fin_facts hy fy).2.2.2.1] at qy
  have CSh1 := hid (fun a c w' h => l1shift_any (Nm.wn (nZ fm x * nZ fm y)) a c (Nm.wl (nZ fm x * nZ fm y)) (nE fm x + nE fm y - 2 * unQ fm) w' h (Nm.wl_dg _) (by omega) (by omega) (by omega) (nZ fm x * nZ fm y * 2 ^ (nE fm x + nE fm y - 2 * unQ fm).toNat) (shz _ _ (by omega)).symm)
  have CSh2 := hid (fun a c w' h => l1shift_any (Nm.wn (unI fm z)) a c (Nm.wl (unI fm z)) (-unQ fm) w' h (Nm.wl_dg _) (by omega) (by omega) (by omega) (unI fm z * 2 ^ (-unQ fm).toNat) (shz _ _ (by omega)).symm)
  have hul := pp_len fm x y z
  have lP : (Nm.wl (nZ fm x * nZ fm y * 2 ^ (nE fm x + nE fm y - 2 * unQ fm).toNat)).length ≤ 400000 := by
    have h1 : bitLen (nZ fm x * nZ fm y * 2 ^ (nE fm x + nE fm y - 2 * unQ fm).toNat).natAbs ≤ 6400 := by
      rw [Int.natAbs_mul, Int.natAbs_pow]
      have h2 : bitLen (nZ fm x * nZ fm y).natAbs ≤ 106 := (Nm.bl_le_iff _ 106).2 (nZm_bd fm x y)
      by_cases h : (nZ fm x * nZ fm y).natAbs = 0
      · rw [h, Nat.zero_mul, Nm.bl_zero]; omega
      · have := Nm.bl_mul h (nE fm x + nE fm y - 2 * unQ fm).toNat
        show bitLen ((nZ fm x * nZ fm y).natAbs * 2 ^ _) ≤ _
        omega
    have : (Nm.wl (nZ fm x * nZ fm y * 2 ^ (nE fm x + nE fm y - 2 * unQ fm).toNat)).length ≤ 200 := by unfold Nm.wl; exact lim_len (k := 200) (by omega)
    omega
  have lV : (Nm.wl (unI fm z * 2 ^ (-unQ fm).toNat)).length ≤ 400000 := by
    have h1 : bitLen (unI fm z * 2 ^ (-unQ fm).toNat).natAbs ≤ 6400 := by
      rw [Int.natAbs_mul, Int.natAbs_pow]
      have h2 := un_blA fm z
      by_cases h : (unI fm z).natAbs = 0
      · rw [h, Nat.zero_mul, Nm.bl_zero]; omega
      · have := Nm.bl_mul h (-unQ fm).toNat
        show bitLen ((unI fm z).natAbs * 2 ^ _) ≤ _
        omega
    have : (Nm.wl (unI fm z * 2 ^ (-unQ fm).toNat)).length ≤ 200 := by unfold Nm.wl; exact lim_len (k := 200) (by omega)
    omega
  have CA := hid (fun a c b d w' h h' => l1add_any (Nm.wn (nZ fm x * nZ fm y * 2 ^ (nE fm x + nE fm y - 2 * unQ fm).toNat)) (Nm.wn (unI fm z * 2 ^ (-unQ fm).toNat)) a b c d (Nm.wl (nZ fm x * nZ fm y * 2 ^ (nE fm x + nE fm y - 2 * unQ fm).toNat)) (Nm.wl (unI fm z * 2 ^ (-unQ fm).toNat)) w' h h' (Nm.wl_dg _) (Nm.wl_dg _) (Nm.wl_nz _) (Nm.wl_nz _) (by omega) (by omega) (ppI fm x y z) (by rw [Nm.wv_out, Nm.wv_out]; rfl))
  have hw1 : IntKind.i64.wrap (2 * unQ fm) = 2 * unQ fm := by rw [IntKind.wrap_i64]; omega
  have hw2 : IntKind.i64.wrap (nE fm x + nE fm y - 2 * unQ fm) = nE fm x + nE fm y - 2 * unQ fm := by rw [IntKind.wrap_i64]; omega
  have hw3 : IntKind.i64.wrap (-unQ fm) = -unQ fm := by rw [IntKind.wrap_i64]; omega
  have hw4 : wrap64 (2 * unQ fm) = 2 * unQ fm := by unfold wrap64; omega
  have hw5 : wrap64 (nE fm x + nE fm y - 2 * unQ fm) = nE fm x + nE fm y - 2 * unQ fm := by unfold wrap64; omega
  have hw6 : wrap64 (-unQ fm) = -unQ fm := by unfold wrap64; omega
  clear lP lV lM lU bx b_y qx qy
  by_cases hpz : ppI fm x y z = 0
  · have CZ := hid (fun w' => none4 fm mode ng (sigB fm z) w' hfm)
    have hB2 : B = sgn (sgOf fm) 0 (ng && sigB fm z || ((ng != sigB fm z) && decide (mode = 3))) := by rw [hB', hng]; simp [hpz]
    have hF2 : F = 0 := by rw [hF']; simp [hpz]
    rw [← hB2] at CZ
    subst hF2
    have hw0 : Nm.wl 0 = [] := Nm.lim_zero
    have hn0 : Nm.wn 0 = false := by decide
    rw [hpz, hw0, hn0] at CA
    clear hw0 hn0 hul
    obtain ⟨s9, h_s9⟩ : ∃ q, q = sigB fm z := ⟨_, rfl⟩
    rw [← h_s9] at CS3 CZ
    clear hB2 h_s9
    obtain ⟨q, h_q⟩ : ∃ q, q = unQ fm := ⟨_, rfl⟩
    obtain ⟨Gm, h_Gm⟩ : ∃ q, q = Nm.wn (nZ fm x * nZ fm y) := ⟨_, rfl⟩
    obtain ⟨Lm, h_Lm⟩ : ∃ q, q = Nm.wl (nZ fm x * nZ fm y) := ⟨_, rfl⟩
    obtain ⟨Gu, h_Gu⟩ : ∃ q, q = Nm.wn (unI fm z) := ⟨_, rfl⟩
    obtain ⟨Lu, h_Lu⟩ : ∃ q, q = Nm.wl (unI fm z) := ⟨_, rfl⟩
    obtain ⟨G1, h_G1⟩ : ∃ q, q = Nm.wn (nZ fm x * nZ fm y * 2 ^ (nE fm x + nE fm y - 2 * unQ fm).toNat) := ⟨_, rfl⟩
    obtain ⟨L1, h_L1⟩ : ∃ q, q = Nm.wl (nZ fm x * nZ fm y * 2 ^ (nE fm x + nE fm y - 2 * unQ fm).toNat) := ⟨_, rfl⟩
    obtain ⟨G2, h_G2⟩ : ∃ q, q = Nm.wn (unI fm z * 2 ^ (-unQ fm).toNat) := ⟨_, rfl⟩
    obtain ⟨L2, h_L2⟩ : ∃ q, q = Nm.wl (unI fm z * 2 ^ (-unQ fm).toNat) := ⟨_, rfl⟩
    obtain ⟨E, h_E⟩ : ∃ q, q = nE fm x + nE fm y := ⟨_, rfl⟩
    rw [← h_Gm, ← h_Lm, ← h_E] at CE
    rw [← h_Gu, ← h_Lu] at CU
    rw [← h_Gm, ← h_Lm, ← h_G1, ← h_L1, ← h_E, ← h_q] at CSh1
    rw [← h_Gu, ← h_Lu, ← h_G2, ← h_L2, ← h_q] at CSh2
    rw [← h_G1, ← h_L1, ← h_G2, ← h_L2] at CA
    rw [← h_q] at CQ hw1 hw3 hw4 hw6
    rw [← h_E, ← h_q] at hw2 hw5
    clear hB' hF' hpz hq1 hng hs1 hs2 nx ny nz hm ha hx hy hz hfm ix iy iz fx fy fz h_q h_Gm h_Lm h_Gu h_Lu h_G1 h_L1 h_G2 h_L2 h_E hq
    have bel := Below.refl w.heap.size w
    go_enter Tryz.func27, Tryz.ntmps27
    go_wp2_with fail
    refine (CF.out _ s3).mono ?_
    rintro r w1 ⟨rfl, hb1⟩
    go_wp2_with fail
    refine (CN.out _ _ (sl64_3 w1 x y z 24)).mono ?_
    rintro r w2 ⟨rfl, hb2⟩
    go_wp2_with fail
    refine (CS1.out _).mono ?_
    rintro r w3 ⟨rfl, hb3⟩
    go_wp2_with fail
    refine (CS2.out _).mono ?_
    rintro r w4 ⟨rfl, hb4⟩
    go_wp2_with fail
    refine (CO.out _).mono ?_
    rintro r w5 ⟨rfl, hb5⟩
    go_wp2_with fail
    refine (CI1.out _).mono ?_
    rintro r w6 ⟨rfl, hb6⟩
    go_wp2_with fail
    refine (CI2.out _).mono ?_
    rintro r w7 ⟨rfl, hb7⟩
    go_wp2_with fail
    refine (CI3.out _).mono ?_
    rintro r w8 ⟨rfl, hb8⟩
    replace bel : Below w.heap.size w w8 := (by repeat (first | exact bz0 _ _ | refine bz1 ?_ | refine bz2 ?_ _ | refine bz3 ?_ _ | refine bz4 ?_ hb8 | refine bz4 ?_ hb7 | refine bz4 ?_ hb6 | refine bz4 ?_ hb5 | refine bz4 ?_ hb4 | refine bz4 ?_ hb3 | refine bz4 ?_ hb2 | refine bz4 ?_ hb1 | refine bz5 ?_ _ | refine bz6 ?_ _ | refine bz7 ?_ hb8 | refine bz7 ?_ hb7 | refine bz7 ?_ hb6 | refine bz7 ?_ hb5 | refine bz7 ?_ hb4 | refine bz7 ?_ hb3 | refine bz7 ?_ hb2 | refine bz7 ?_ hb1))
    clear hb1 hb2 hb3 hb4 hb5 hb6 hb7 hb8
    go_wp2_with fail
    refine (CE.out _).mono ?_
    rintro r w9 ⟨am, cm, rfl, om, hb⟩
    replace bel := bel_go bel hb
    clear hb
    have sm := om.sl
    clear om
    replace sm := sm.below (al_b _ (.cells #[.bool Gm, .slice am Lm.length cm] 31))
    replace bel := bel_al bel (.cells #[.bool Gm, .slice am Lm.length cm] 31)
    have Bm := R2.new w9 (.bool Gm) (.slice am Lm.length cm) 31
    obtain ⟨km0, km1, -, -⟩ := id Bm
    go_wp2_with fail
    refine (CQ.out _).mono ?_
    rintro r w10 ⟨rfl, hb⟩
    clear km0 km1
    replace bel := bel_go bel hb
    replace sm := sm.below hb
    replace Bm := Bm.below hb
    clear hb
    obtain ⟨km0, km1, -, -⟩ := id Bm
    go_wp2_with fail
    refine (CSh1.out am cm _ sm).mono ?_
    rintro r w11 ⟨a1, c1, rfl, o1, hb⟩
    clear km0 km1
    replace bel := bel_go bel hb
    replace sm := sm.below hb
    replace Bm := Bm.below hb
    clear hb
    have s1 := o1.sl
    clear o1
    obtain ⟨km0, km1, -, -⟩ := id Bm
    go_wp2_with fail
    refine (CU.out _).mono ?_
    rintro r w12 ⟨au, cu, rfl, ou, hb⟩
    clear km0 km1
    replace bel := bel_go bel hb
    replace sm := sm.below hb
    replace Bm := Bm.below hb
    replace s1 := s1.below hb
    clear hb
    have su := ou.sl
    clear ou
    obtain ⟨km0, km1, -, -⟩ := id Bm
    go_wp2_with fail
    refine (CQ.out _).mono ?_
    rintro r w13 ⟨rfl, hb⟩
    clear km0 km1
    replace bel := bel_go bel hb
    replace sm := sm.below hb
    replace Bm := Bm.below hb
    replace s1 := s1.below hb
    replace su := su.below hb
    clear hb
    obtain ⟨km0, km1, -, -⟩ := id Bm
    go_wp2_with fail
    refine (CSh2.out au cu _ su).mono ?_
    rintro r w14 ⟨a2, c2, rfl, o2, hb⟩
    clear km0 km1
    replace bel := bel_go bel hb
    replace sm := sm.below hb
    replace Bm := Bm.below hb
    replace s1 := s1.below hb
    replace su := su.below hb
    clear hb
    have s2 := o2.sl
    clear o2
    obtain ⟨km0, km1, -, -⟩ := id Bm
    go_wp2_with fail
    refine (CA.out a1 c1 a2 c2 _ s1 s2).mono ?_
    rintro r w15 ⟨a6, c6, rfl, o6, hb⟩
    clear km0 km1
    replace bel := bel_go bel hb
    replace sm := sm.below hb
    replace Bm := Bm.below hb
    replace s1 := s1.below hb
    replace su := su.below hb
    replace s2 := s2.below hb
    clear hb
    have s6 := o6.sl
    clear o6
    replace sm := sm.below (al_b _ (.cells #[.bool false, .slice a6 0 c6] 31))
    replace Bm := Bm.below (al_b _ (.cells #[.bool false, .slice a6 0 c6] 31))
    replace s1 := s1.below (al_b _ (.cells #[.bool false, .slice a6 0 c6] 31))
    replace su := su.below (al_b _ (.cells #[.bool false, .slice a6 0 c6] 31))
    replace s2 := s2.below (al_b _ (.cells #[.bool false, .slice a6 0 c6] 31))
    replace s6 := s6.below (al_b _ (.cells #[.bool false, .slice a6 0 c6] 31))
    replace bel := bel_al bel (.cells #[.bool false, .slice a6 0 c6] 31)
    have Bs := R2.new w15 (.bool false) (.slice a6 0 c6) 31
    obtain ⟨km0, km1, -, -⟩ := id Bm
    obtain ⟨ks0, ks1, -, -⟩ := id Bs
    go_wp2_with fail
    refine (CS3.out _).mono ?_
    rintro r w16 ⟨rfl, hb⟩
    clear km0 km1 ks0 ks1
    replace bel := bel_go bel hb
    replace sm := sm.below hb
    replace Bm := Bm.below hb
    replace s1 := s1.below hb
    replace su := su.below hb
    replace s2 := s2.below hb
    replace s6 := s6.below hb
    replace Bs := Bs.below hb
    clear hb
    obtain ⟨km0, km1, -, -⟩ := id Bm
    obtain ⟨ks0, ks1, -, -⟩ := id Bs
    go_wp2_with fail
    refine (CZ.out _).mono ?_
    rintro r w17 ⟨rfl, hb⟩
    clear km0 km1 ks0 ks1
    replace bel := bel_go bel hb
    replace sm := sm.below hb
    replace Bm := Bm.below hb
    replace s1 := s1.below hb
    replace su := su.below hb
    replace s2 := s2.below hb
    replace s6 := s6.below hb
    replace Bs := Bs.below hb
    clear hb
    obtain ⟨km0, km1, -, -⟩ := id Bm
    obtain ⟨ks0, ks1, -, -⟩ := id Bs
    go_wp2
    all_goals go_ret3
    all_goals exact ⟨rfl, bel⟩
  · have hB2 : B = RdB fm mode (Nm.wn (ppI fm x y z)) (Nm.wl (ppI fm x y z)) (2 * unQ fm) := by rw [hB']; simp [hpz]
    have hF2 : F = RdF fm mode (Nm.wn (ppI fm x y z)) (Nm.wl (ppI fm x y z)) (2 * unQ fm) := by rw [hF']; simp [hpz]
    have CR := hid (fun p c w' h => l3r_any fm mode (ppI fm x y z) (2 * unQ fm) p c w' h hpz (rdo_any hfm hm hul (by omega) (by omega)))
    simp only [← hB2, ← hF2] at CR
    have hln : (Nm.wl (ppI fm x y z)).length ≠ 0 := by unfold Nm.wl; rw [Ne, Nm.lim_length_zero]; omega
    have hb0 : (((Nm.wl (ppI fm x y z)).length : Int) == 0) = false := by rw [beq_eq_false_iff_ne]; omega
    clear hB2 hF2 CS3
    obtain ⟨q, h_q⟩ : ∃ q, q = unQ fm := ⟨_, rfl⟩
    obtain ⟨Gm, h_Gm⟩ : ∃ q, q = Nm.wn (nZ fm x * nZ fm y) := ⟨_, rfl⟩
    obtain ⟨Lm, h_Lm⟩ : ∃ q, q = Nm.wl (nZ fm x * nZ fm y) := ⟨_, rfl⟩
    obtain ⟨Gu, h_Gu⟩ : ∃ q, q = Nm.wn (unI fm z) := ⟨_, rfl⟩
    obtain ⟨Lu, h_Lu⟩ : ∃ q, q = Nm.wl (unI fm z) := ⟨_, rfl⟩
    obtain ⟨G1, h_G1⟩ : ∃ q, q = Nm.wn (nZ fm x * nZ fm y * 2 ^ (nE fm x + nE fm y - 2 * unQ fm).toNat) := ⟨_, rfl⟩
    obtain ⟨L1, h_L1⟩ : ∃ q, q = Nm.wl (nZ fm x * nZ fm y * 2 ^ (nE fm x + nE fm y - 2 * unQ fm).toNat) := ⟨_, rfl⟩
    obtain ⟨G2, h_G2⟩ : ∃ q, q = Nm.wn (unI fm z * 2 ^ (-unQ fm).toNat) := ⟨_, rfl⟩
    obtain ⟨L2, h_L2⟩ : ∃ q, q = Nm.wl (unI fm z * 2 ^ (-unQ fm).toNat) := ⟨_, rfl⟩
    obtain ⟨G, h_G⟩ : ∃ q, q = Nm.wn (ppI fm x y z) := ⟨_, rfl⟩
    obtain ⟨L, h_L⟩ : ∃ q, q = Nm.wl (ppI fm x y z) := ⟨_, rfl⟩
    obtain ⟨E, h_E⟩ : ∃ q, q = nE fm x + nE fm y := ⟨_, rfl⟩
    rw [← h_Gm, ← h_Lm, ← h_E] at CE
    rw [← h_Gu, ← h_Lu] at CU
    rw [← h_Gm, ← h_Lm, ← h_G1, ← h_L1, ← h_E, ← h_q] at CSh1
    rw [← h_Gu, ← h_Lu, ← h_G2, ← h_L2, ← h_q] at CSh2
    rw [← h_G1, ← h_L1, ← h_G2, ← h_L2, ← h_G, ← h_L] at CA
    rw [← h_q] at CQ hw1 hw3 hw4 hw6
    rw [← h_E, ← h_q] at hw2 hw5
    rw [← h_L] at hln hul
    rw [← h_G, ← h_L, ← h_q] at CR
    rw [← h_L] at hb0
    clear hB' hF' hpz hq1 hng hs1 hs2 nx ny nz hm ha hx hy hz hfm ix iy iz fx fy fz h_q h_Gm h_Lm h_Gu h_Lu h_G1 h_L1 h_G2 h_L2 h_E hq h_G h_L
    have bel := Below.refl w.heap.size w
    go_enter Tryz.func27, Tryz.ntmps27
    go_wp2_with fail
    refine (CF.out _ s3).mono ?_
    rintro r w1 ⟨rfl, hb1⟩
    go_wp2_with fail
    refine (CN.out _ _ (sl64_3 w1 x y z 24)).mono ?_
    rintro r w2 ⟨rfl, hb2⟩
    go_wp2_with fail
    refine (CS1.out _).mono ?_
    rintro r w3 ⟨rfl, hb3⟩
    go_wp2_with fail
    refine (CS2.out _).mono ?_
    rintro r w4 ⟨rfl, hb4⟩
    go_wp2_with fail
    refine (CO.out _).mono ?_
    rintro r w5 ⟨rfl, hb5⟩
    go_wp2_with fail
    refine (CI1.out _).mono ?_
    rintro r w6 ⟨rfl, hb6⟩
    go_wp2_with fail
    refine (CI2.out _).mono ?_
    rintro r w7 ⟨rfl, hb7⟩
    go_wp2_with fail
    refine (CI3.out _).mono ?_
    rintro r w8 ⟨rfl, hb8⟩
    replace bel : Below w.heap.size w w8 := (by repeat (first | exact bz0 _ _ | refine bz1 ?_ | refine bz2 ?_ _ | refine bz3 ?_ _ | refine bz4 ?_ hb8 | refine bz4 ?_ hb7 | refine bz4 ?_ hb6 | refine bz4 ?_ hb5 | refine bz4 ?_ hb4 | refine bz4 ?_ hb3 | refine bz4 ?_ hb2 | refine bz4 ?_ hb1 | refine bz5 ?_ _ | refine bz6 ?_ _ | refine bz7 ?_ hb8 | refine bz7 ?_ hb7 | refine bz7 ?_ hb6 | refine bz7 ?_ hb5 | refine bz7 ?_ hb4 | refine bz7 ?_ hb3 | refine bz7 ?_ hb2 | refine bz7 ?_ hb1))
    clear hb1 hb2 hb3 hb4 hb5 hb6 hb7 hb8
    go_wp2_with fail
    refine (CE.out _).mono ?_
    rintro r w9 ⟨am, cm, rfl, om, hb⟩
    replace bel := bel_go bel hb
    clear hb
    have sm := om.sl
    clear om
    replace sm := sm.below (al_b _ (.cells #[.bool Gm, .slice am Lm.length cm] 31))
    replace bel := bel_al bel (.cells #[.bool Gm, .slice am Lm.length cm] 31)
    have Bm := R2.new w9 (.bool Gm) (.slice am Lm.length cm) 31
    obtain ⟨km0, km1, -, -⟩ := id Bm
    go_wp2_with fail
    refine (CQ.out _).mono ?_
    rintro r w10 ⟨rfl, hb⟩
    clear km0 km1
    replace bel := bel_go bel hb
    replace sm := sm.below hb
    replace Bm := Bm.below hb
    clear hb
    obtain ⟨km0, km1, -, -⟩ := id Bm
    go_wp2_with fail
    refine (CSh1.out am cm _ sm).mono ?_
    rintro r w11 ⟨a1, c1, rfl, o1, hb⟩
    clear km0 km1
    replace bel := bel_go bel hb
    replace sm := sm.below hb
    replace Bm := Bm.below hb
    clear hb
    have s1 := o1.sl
    clear o1
    obtain ⟨km0, km1, -, -⟩ := id Bm
    go_wp2_with fail
    refine (CU.out _).mono ?_
    rintro r w12 ⟨au, cu, rfl, ou, hb⟩
    clear km0 km1
    replace bel := bel_go bel hb
    replace sm := sm.below hb
    replace Bm := Bm.below hb
    replace s1 := s1.below hb
    clear hb
    have su := ou.sl
    clear ou
    obtain ⟨km0, km1, -, -⟩ := id Bm
    go_wp2_with fail
    refine (CQ.out _).mono ?_
    rintro r w13 ⟨rfl, hb⟩
    clear km0 km1
    replace bel := bel_go bel hb
    replace sm := sm.below hb
    replace Bm := Bm.below hb
    replace s1 := s1.below hb
    replace su := su.below hb
    clear hb
    obtain ⟨km0, km1, -, -⟩ := id Bm
    go_wp2_with fail
    refine (CSh2.out au cu _ su).mono ?_
    rintro r w14 ⟨a2, c2, rfl, o2, hb⟩
    clear km0 km1
    replace bel := bel_go bel hb
    replace sm := sm.below hb
    replace Bm := Bm.below hb
    replace s1 := s1.below hb
    replace su := su.below hb
    clear hb
    have s2 := o2.sl
    clear o2
    obtain ⟨km0, km1, -, -⟩ := id Bm
    go_wp2_with fail
    refine (CA.out a1 c1 a2 c2 _ s1 s2).mono ?_
    rintro r w15 ⟨a6, c6, rfl, o6, hb⟩
    clear km0 km1
    replace bel := bel_go bel hb
    replace sm := sm.below hb
    replace Bm := Bm.below hb
    replace s1 := s1.below hb
    replace su := su.below hb
    replace s2 := s2.below hb
    clear hb
    have s6 := o6.sl
    clear o6
    replace sm := sm.below (al_b _ (.cells #[.bool G, .slice a6 L.length c6] 31))
    replace Bm := Bm.below (al_b _ (.cells #[.bool G, .slice a6 L.length c6] 31))
    replace s1 := s1.below (al_b _ (.cells #[.bool G, .slice a6 L.length c6] 31))
    replace su := su.below (al_b _ (.cells #[.bool G, .slice a6 L.length c6] 31))
    replace s2 := s2.below (al_b _ (.cells #[.bool G, .slice a6 L.length c6] 31))
    replace s6 := s6.below (al_b _ (.cells #[.bool G, .slice a6 L.length c6] 31))
    replace bel := bel_al bel (.cells #[.bool G, .slice a6 L.length c6] 31)
    have Bs := R2.new w15 (.bool G) (.slice a6 L.length c6) 31
    obtain ⟨km0, km1, -, -⟩ := id Bm
    obtain ⟨ks0, ks1, -, -⟩ := id Bs
    go_wp2_with fail
    refine (CR.out a6 c6 _ s6).mono ?_
    rintro r w16 ⟨rfl, hb⟩
    clear km0 km1 ks0 ks1
    replace bel := bel_go bel hb
    replace sm := sm.below hb
    replace Bm := Bm.below hb
    replace s1 := s1.below hb
    replace su := su.below hb
    replace s2 := s2.below hb
    replace s6 := s6.below hb
    replace Bs := Bs.below hb
    clear hb
    obtain ⟨km0, km1, -, -⟩ := id Bm
    obtain ⟨ks0, ks1, -, -⟩ := id Bs
    go_wp2
    all_goals go_ret3
    all_goals exact ⟨rfl, bel⟩
end Go.Proofs.YtmcflggionkhlaaGreatDoor
