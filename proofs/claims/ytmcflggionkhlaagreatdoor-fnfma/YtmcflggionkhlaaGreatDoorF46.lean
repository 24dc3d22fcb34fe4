/-
  What is needed of FN, FO, FT, FU, AZ.
-/
import Derived.Test.YtmcflggionkhlaaGreatDoorF41
import Derived.Test.YtmcflggionkhlaaGreatDoorF42
set_option maxHeartbeats 16000000
set_option maxRecDepth 1000000
namespace Go.Proofs.YtmcflggionkhlaaGreatDoor
set_option linter.unusedVariables false
set_option linter.unusedSimpArgs false
open Go.RowKit Go.Deep
theorem l4mul (fm mode x y : Int) (w : World) (hx : okF fm x = true) (hy : okF fm y = true) (x0 : 0 ≤ x) (x1 : x < 18446744073709551616) (y0 : 0 ≤ y) (y1 : y < 18446744073709551616) (hm : modeB mode = true) (nx : nanB fm x = false) (ny : nanB fm y = false) (B F : Int) (hB : B = mB (nanOf fm) (infOf fm) (sgOf fm) (nI fm x || nI fm y) (zF fm x || zF fm y) (sigB fm x != sigB fm y) (RdB fm mode (Nm.wn (nZ fm x * nZ fm y)) (Nm.wl (nZ fm x * nZ fm y)) (nE fm x + nE fm y))) (hF : F = mF (nI fm x || nI fm y) (zF fm x || zF fm y) (RdF fm mode (Nm.wn (nZ fm x * nZ fm y)) (Nm.wl (nZ fm x * nZ fm y)) (nE fm x + nE fm y))) :
    Calls Tryz.prog 155 #[.int .i64 fm, .int .i64 mode, .int .u64 x, .int .u64 y] w fun r w' => r = .returned (.tuple #[.int .u64 B, .int .i64 F]) ∧ Below w.heap.size w w' := by
  have hfm := ok_fmt hx
  have CS1 := hid (fun w' => spec_l2neg fm x w' hx x0 x1)
  have CS2 := hid (fun w' => spec_l2neg fm y w' hy y0 y1)
  have CI1 := hid (fun w' => inf4 fm x w' hx x0 x1 _ rfl)
  have CI2 := hid (fun w' => inf4 fm y w' hy y0 y1 _ rfl)
  have CZ1 := hid (fun w' => zer4 fm x w' hx x0 x1 (zF fm x) rfl)
  have CZ2 := hid (fun w' => zer4 fm y w' hy y0 y1 (zF fm y) rfl)
  have CN := hid (fun w' => nan_s fm w' hfm)
  have CI := hid (fun w' => inf_s fm w' hfm)
  have CW0 := hid (fun ng w' => with_s fm 0 ng w' hfm (by decide) (.inl (by decide)))
  have CWi := hid (fun ng w' => with_s fm (infOf fm) ng w' hfm (by unfold infOf; split <;> decide) (by
    rcases fmt_cases hfm with rfl | rfl
    · exact .inl (by decide)
    · exact .inr ⟨rfl, by decide⟩))
  have CE : Hid (nI fm x = false → nI fm y = false → ∀ w' : World, Calls Tryz.prog 97 #[.int .i64 fm, .int .u64 x, .int .u64 y] w' fun r w'' => ∃ a' c', r = .returned (.tuple #[.agg #[.bool (Nm.wn (nZ fm x * nZ fm y)), .slice a' (Nm.wl (nZ fm x * nZ fm y)).length c'], .int .i64 (nE fm x + nE fm y)]) ∧ Own w'' w'.heap.size a' c' (Nm.wl (nZ fm x * nZ fm y)) ∧ Below w'.heap.size w' w'') := hid (fun hi hj w' => by
    have hfx := (nan_cases hx nx).resolve_right (by rw [hi]; decide)
    have hfy := (nan_cases hy ny).resolve_right (by rw [hj]; decide)
    exact exact4 fm x y w' hfx hfy x0 x1 y0 y1 hx hy _ _ _ rfl rfl rfl)
  have CR : Hid (nI fm x = false → nI fm y = false → zF fm x = false → zF fm y = false → ∀ (p : Option Addr) (c : Nat) (w' : World), Sl .u32 w' (.slice p (Nm.wl (nZ fm x * nZ fm y)).length c) (Nm.wl (nZ fm x * nZ fm y)) → Calls Tryz.prog 103 #[.int .i64 fm, .int .i64 mode, .agg #[.bool (Nm.wn (nZ fm x * nZ fm y)), .slice p (Nm.wl (nZ fm x * nZ fm y)).length c], .int .i64 (nE fm x + nE fm y)] w' fun r w'' => r = .returned (.tuple #[.int .u64 (RdB fm mode (Nm.wn (nZ fm x * nZ fm y)) (Nm.wl (nZ fm x * nZ fm y)) (nE fm x + nE fm y)), .int .i64 (RdF fm mode (Nm.wn (nZ fm x * nZ fm y)) (Nm.wl (nZ fm x * nZ fm y)) (nE fm x + nE fm y))]) ∧ Below w'.heap.size w' w'') := hid (fun hi hj hzx hzy p c w' h => by
    have hfx := (nan_cases hx nx).resolve_right (by rw [hi]; decide)
    have hfy := (nan_cases hy ny).resolve_right (by rw [hj]; decide)
    rw [zF_fin hx hfx] at hzx
    rw [zF_fin hy hfy] at hzy
    have n1 : nZ fm x ≠ 0 := of_decide_eq_false hzx
    have n2 : nZ fm y ≠ 0 := of_decide_eq_false hzy
    have b1 := nZ_bd fm x
    have b2 := nZ_bd fm y
    exact l3r_any fm mode (nZ fm x * nZ fm y) (nE fm x + nE fm y) p c w' h (Int.mul_ne_zero n1 n2) (rdo_any hfm hm (nZm_len fm x y) (by omega) (by omega)))
  obtain ⟨i1, hi1⟩ : ∃ i, i = nI fm x := ⟨_, rfl⟩
  obtain ⟨i2, hi2⟩ : ∃ i, i = nI fm y := ⟨_, rfl⟩
  obtain ⟨z1, hz1⟩ : ∃ i, i = zF fm x := ⟨_, rfl⟩
  obtain ⟨z2, hz2⟩ : ∃ i, i = zF fm y := ⟨_, rfl⟩
  obtain ⟨s1, hs1⟩ : ∃ i, i = sigB fm x := ⟨_, rfl⟩
  obtain ⟨s2, hs2⟩ : ∃ i, i = sigB fm y := ⟨_, rfl⟩
  obtain ⟨ng, hng⟩ : ∃ i, i = (s1 != s2) := ⟨_, rfl⟩
  obtain ⟨NN, hNN⟩ : ∃ i, i = nanOf fm := ⟨_, rfl⟩
  obtain ⟨II, hII⟩ : ∃ i, i = infOf fm := ⟨_, rfl⟩
  obtain ⟨SS, hSS⟩ : ∃ i, i = sgOf fm := ⟨_, rfl⟩
  obtain ⟨rb, hrb⟩ : ∃ i, i = RdB fm mode (Nm.wn (nZ fm x * nZ fm y)) (Nm.wl (nZ fm x * nZ fm y)) (nE fm x + nE fm y) := ⟨_, rfl⟩
  obtain ⟨rf, hrf⟩ : ∃ i, i = RdF fm mode (Nm.wn (nZ fm x * nZ fm y)) (Nm.wl (nZ fm x * nZ fm y)) (nE fm x + nE fm y) := ⟨_, rfl⟩
  rw [← hi1, ← hi2, ← hz1, ← hz2, ← hs1, ← hs2, ← hNN, ← hII, ← hSS, ← hrb, ← hng] at hB
  rw [← hi1, ← hi2, ← hz1, ← hz2, ← hrf] at hF
  rw [← hi1, ← hi2, ← hz1, ← hz2] at CR
  rw [← hrb, ← hrf] at CR
  rw [← hi1, ← hi2] at CE
  obtain ⟨G, hG⟩ : ∃ i, i = Nm.wn (nZ fm x * nZ fm y) := ⟨_, rfl⟩
  obtain ⟨L, hL⟩ : ∃ i, i = Nm.wl (nZ fm x * nZ fm y) := ⟨_, rfl⟩
  obtain ⟨E, hE⟩ : ∃ i, i = nE fm x + nE fm y := ⟨_, rfl⟩
  rw [← hG, ← hL, ← hE] at CE CR
  rw [← hi1] at CI1
  rw [← hi2] at CI2
  rw [← hz1] at CZ1
  rw [← hz2] at CZ2
  rw [← hs1] at CS1
  rw [← hs2] at CS2
  rw [← hNN] at CN
  rw [← hII] at CI
  rw [← hSS] at CW0
  simp only [← hII, ← hSS] at CWi
  have hng' : (s1 != s2) = ng := hng.symm
  have hng2 : (s1 == s2) = !ng := by rw [← hng']; cases s1 <;> cases s2 <;> rfl
  have HB := hid hB
  have HF := hid hF
  clear hi1 hi2 hz1 hz2 hs1 hs2 hNN hII hSS hrb hrf hG hL hE hng hB hF nx ny hm hfm hx hy
  cases i1 with
  | true =>
    cases z1 with
    | true =>
      go_enter Tryz.func155, Tryz.ntmps155
      go_wp2_with fail
      refine (CS1.out _).mono ?_
      rintro r w1 ⟨rfl, hb1⟩
      go_wp2_with fail
      refine (CS2.out _).mono ?_
      rintro r w2 ⟨rfl, hb2⟩
      go_wp2_with fail
      refine (CI1.out _).mono ?_
      rintro r w3 ⟨rfl, hb3⟩
      go_wp2_with fail
      refine (CZ1.out _).mono ?_
      rintro r w4 ⟨rfl, hb4⟩
      go_wp2_with fail
      refine (CN.out _).mono ?_
      rintro r w5 ⟨rfl, hb5⟩
      go_wp2
      go_ret2
      exact ⟨ret_ui (by rw [HB.out]; rfl) (by rw [HF.out]; rfl), (by repeat (first | exact bz0 _ _ | refine bz1 ?_ | refine bz2 ?_ _ | refine bz3 ?_ _ | refine bz4 ?_ hb5 | refine bz4 ?_ hb4 | refine bz4 ?_ hb3 | refine bz4 ?_ hb2 | refine bz4 ?_ hb1 | refine bz5 ?_ _ | refine bz6 ?_ _ | refine bz7 ?_ hb5 | refine bz7 ?_ hb4 | refine bz7 ?_ hb3 | refine bz7 ?_ hb2 | refine bz7 ?_ hb1))⟩
    | false =>
    cases z2 with
    | true =>
      go_enter Tryz.func155, Tryz.ntmps155
      go_wp2_with fail
      refine (CS1.out _).mono ?_
      rintro r w1 ⟨rfl, hb1⟩
      go_wp2_with fail
      refine (CS2.out _).mono ?_
      rintro r w2 ⟨rfl, hb2⟩
      go_wp2_with fail
      refine (CI1.out _).mono ?_
      rintro r w3 ⟨rfl, hb3⟩
      go_wp2_with fail
      refine (CZ1.out _).mono ?_
      rintro r w4 ⟨rfl, hb4⟩
      go_wp2_with fail
      refine (CZ2.out _).mono ?_
      rintro r w5 ⟨rfl, hb5⟩
      go_wp2_with fail
      refine (CN.out _).mono ?_
      rintro r w6 ⟨rfl, hb6⟩
      go_wp2
      go_ret2
      exact ⟨ret_ui (by rw [HB.out]; rfl) (by rw [HF.out]; rfl), (by repeat (first | exact bz0 _ _ | refine bz1 ?_ | refine bz2 ?_ _ | refine bz3 ?_ _ | refine bz4 ?_ hb6 | refine bz4 ?_ hb5 | refine bz4 ?_ hb4 | refine bz4 ?_ hb3 | refine bz4 ?_ hb2 | refine bz4 ?_ hb1 | refine bz5 ?_ _ | refine bz6 ?_ _ | refine bz7 ?_ hb6 | refine bz7 ?_ hb5 | refine bz7 ?_ hb4 | refine bz7 ?_ hb3 | refine bz7 ?_ hb2 | refine bz7 ?_ hb1))⟩
    | false =>
      go_enter Tryz.func155, Tryz.ntmps155
      go_wp2_with fail
      refine (CS1.out _).mono ?_
      rintro r w1 ⟨rfl, hb1⟩
      go_wp2_with fail
      refine (CS2.out _).mono ?_
      rintro r w2 ⟨rfl, hb2⟩
      go_wp2_with fail
      refine (CI1.out _).mono ?_
      rintro r w3 ⟨rfl, hb3⟩
      go_wp2_with fail
      refine (CZ1.out _).mono ?_
      rintro r w4 ⟨rfl, hb4⟩
      go_wp2_with fail
      refine (CZ2.out _).mono ?_
      rintro r w5 ⟨rfl, hb5⟩
      go_wp2_with fail
      refine (CI.out _).mono ?_
      rintro r w6 ⟨rfl, hb6⟩
      go_wp2_with fail
      refine (CWi.out ng _).mono ?_
      rintro r w7 ⟨rfl, hb7⟩
      go_wp2
      go_ret2
      exact ⟨ret_ui (by rw [HB.out]; rfl) (by rw [HF.out]; rfl), (by repeat (first | exact bz0 _ _ | refine bz1 ?_ | refine bz2 ?_ _ | refine bz3 ?_ _ | refine bz4 ?_ hb7 | refine bz4 ?_ hb6 | refine bz4 ?_ hb5 | refine bz4 ?_ hb4 | refine bz4 ?_ hb3 | refine bz4 ?_ hb2 | refine bz4 ?_ hb1 | refine bz5 ?_ _ | refine bz6 ?_ _ | refine bz7 ?_ hb7 | refine bz7 ?_ hb6 | refine bz7 ?_ hb5 | refine bz7 ?_ hb4 | refine bz7 ?_ hb3 | refine bz7 ?_ hb2 | refine bz7 ?_ hb1))⟩
  | false =>
  cases i2 with
  | true =>
    cases z1 with
    | true =>
      go_enter Tryz.func155, Tryz.ntmps155
      go_wp2_with fail
      refine (CS1.out _).mono ?_
      rintro r w1 ⟨rfl, hb1⟩
      go_wp2_with fail
      refine (CS2.out _).mono ?_
      rintro r w2 ⟨rfl, hb2⟩
      go_wp2_with fail
      refine (CI1.out _).mono ?_
      rintro r w3 ⟨rfl, hb3⟩
      go_wp2_with fail
      refine (CI2.out _).mono ?_
      rintro r w4 ⟨rfl, hb4⟩
      go_wp2_with fail
      refine (CZ1.out _).mono ?_
      rintro r w5 ⟨rfl, hb5⟩
      go_wp2_with fail
      refine (CN.out _).mono ?_
      rintro r w6 ⟨rfl, hb6⟩
      go_wp2
      go_ret2
      exact ⟨ret_ui (by rw [HB.out]; rfl) (by rw [HF.out]; rfl), (by repeat (first | exact bz0 _ _ | refine bz1 ?_ | refine bz2 ?_ _ | refine bz3 ?_ _ | refine bz4 ?_ hb6 | refine bz4 ?_ hb5 | refine bz4 ?_ hb4 | refine bz4 ?_ hb3 | refine bz4 ?_ hb2 | refine bz4 ?_ hb1 | refine bz5 ?_ _ | refine bz6 ?_ _ | refine bz7 ?_ hb6 | refine bz7 ?_ hb5 | refine bz7 ?_ hb4 | refine bz7 ?_ hb3 | refine bz7 ?_ hb2 | refine bz7 ?_ hb1))⟩
    | false =>
    cases z2 with
    | true =>
      go_enter Tryz.func155, Tryz.ntmps155
      go_wp2_with fail
      refine (CS1.out _).mono ?_
      rintro r w1 ⟨rfl, hb1⟩
      go_wp2_with fail
      refine (CS2.out _).mono ?_
      rintro r w2 ⟨rfl, hb2⟩
      go_wp2_with fail
      refine (CI1.out _).mono ?_
      rintro r w3 ⟨rfl, hb3⟩
      go_wp2_with fail
      refine (CI2.out _).mono ?_
      rintro r w4 ⟨rfl, hb4⟩
      go_wp2_with fail
      refine (CZ1.out _).mono ?_
      rintro r w5 ⟨rfl, hb5⟩
      go_wp2_with fail
      refine (CZ2.out _).mono ?_
      rintro r w6 ⟨rfl, hb6⟩
      go_wp2_with fail
      refine (CN.out _).mono ?_
      rintro r w7 ⟨rfl, hb7⟩
      go_wp2
      go_ret2
      exact ⟨ret_ui (by rw [HB.out]; rfl) (by rw [HF.out]; rfl), (by repeat (first | exact bz0 _ _ | refine bz1 ?_ | refine bz2 ?_ _ | refine bz3 ?_ _ | refine bz4 ?_ hb7 | refine bz4 ?_ hb6 | refine bz4 ?_ hb5 | refine bz4 ?_ hb4 | refine bz4 ?_ hb3 | refine bz4 ?_ hb2 | refine bz4 ?_ hb1 | refine bz5 ?_ _ | refine bz6 ?_ _ | refine bz7 ?_ hb7 | refine bz7 ?_ hb6 | refine bz7 ?_ hb5 | refine bz7 ?_ hb4 | refine bz7 ?_ hb3 | refine bz7 ?_ hb2 | refine bz7 ?_ hb1))⟩
    | false =>
      go_enter Tryz.func155, Tryz.ntmps155
      go_wp2_with fail
      refine (CS1.out _).mono ?_
      rintro r w1 ⟨rfl, hb1⟩
      go_wp2_with fail
      refine (CS2.out _).mono ?_
      rintro r w2 ⟨rfl, hb2⟩
      go_wp2_with fail
      refine (CI1.out _).mono ?_
      rintro r w3 ⟨rfl, hb3⟩
      go_wp2_with fail
      refine (CI2.out _).mono ?_
      rintro r w4 ⟨rfl, hb4⟩
      go_wp2_with fail
      refine (CZ1.out _).mono ?_
      rintro r w5 ⟨rfl, hb5⟩
      go_wp2_with fail
      refine (CZ2.out _).mono ?_
      rintro r w6 ⟨rfl, hb6⟩
      go_wp2_with fail
      refine (CI.out _).mono ?_
      rintro r w7 ⟨rfl, hb7⟩
      go_wp2_with fail
      refine (CWi.out ng _).mono ?_
      rintro r w8 ⟨rfl, hb8⟩
      go_wp2
      go_ret2
      exact ⟨ret_ui (by rw [HB.out]; rfl) (by rw [HF.out]; rfl), (by repeat (first | exact bz0 _ _ | refine bz1 ?_ | refine bz2 ?_ _ | refine bz3 ?_ _ | refine bz4 ?_ hb8 | refine bz4 ?_ hb7 | refine bz4 ?_ hb6 | refine bz4 ?_ hb5 | refine bz4 ?_ hb4 | refine bz4 ?_ hb3 | refine bz4 ?_ hb2 | refine bz4 ?_ hb1 | refine bz5 ?_ _ | refine bz6 ?_ _ | refine bz7 ?_ hb8 | refine bz7 ?_ hb7 | refine bz7 ?_ hb6 | refine bz7 ?_ hb5 | refine bz7 ?_ hb4 | refine bz7 ?_ hb3 | refine bz7 ?_ hb2 | refine bz7 ?_ hb1))⟩
  | false =>
    cases z1 with
    | true =>
      go_enter Tryz.func155, Tryz.ntmps155
      go_wp2_with fail
      refine (CS1.out _).mono ?_
      rintro r w1 ⟨rfl, hb1⟩
      go_wp2_with fail
      refine (CS2.out _).mono ?_
      rintro r w2 ⟨rfl, hb2⟩
      go_wp2_with fail
      refine (CI1.out _).mono ?_
      rintro r w3 ⟨rfl, hb3⟩
      go_wp2_with fail
      refine (CI2.out _).mono ?_
      rintro r w4 ⟨rfl, hb4⟩
      go_wp2_with fail
      refine (CZ1.out _).mono ?_
      rintro r w5 ⟨rfl, hb5⟩
      go_wp2_with fail
      refine (CW0.out ng _).mono ?_
      rintro r w6 ⟨rfl, hb6⟩
      go_wp2
      go_ret2
      exact ⟨ret_ui (by rw [HB.out]; rfl) (by rw [HF.out]; rfl), (by repeat (first | exact bz0 _ _ | refine bz1 ?_ | refine bz2 ?_ _ | refine bz3 ?_ _ | refine bz4 ?_ hb6 | refine bz4 ?_ hb5 | refine bz4 ?_ hb4 | refine bz4 ?_ hb3 | refine bz4 ?_ hb2 | refine bz4 ?_ hb1 | refine bz5 ?_ _ | refine bz6 ?_ _ | refine bz7 ?_ hb6 | refine bz7 ?_ hb5 | refine bz7 ?_ hb4 | refine bz7 ?_ hb3 | refine bz7 ?_ hb2 | refine bz7 ?_ hb1))⟩
    | false =>
    cases z2 with
    | true =>
      go_enter Tryz.func155, Tryz.ntmps155
      go_wp2_with fail
      refine (CS1.out _).mono ?_
      rintro r w1 ⟨rfl, hb1⟩
      go_wp2_with fail
      refine (CS2.out _).mono ?_
      rintro r w2 ⟨rfl, hb2⟩
      go_wp2_with fail
      refine (CI1.out _).mono ?_
      rintro r w3 ⟨rfl, hb3⟩
      go_wp2_with fail
      refine (CI2.out _).mono ?_
      rintro r w4 ⟨rfl, hb4⟩
      go_wp2_with fail
      refine (CZ1.out _).mono ?_
      rintro r w5 ⟨rfl, hb5⟩
      go_wp2_with fail
      refine (CZ2.out _).mono ?_
      rintro r w6 ⟨rfl, hb6⟩
      go_wp2_with fail
      refine (CW0.out ng _).mono ?_
      rintro r w7 ⟨rfl, hb7⟩
      go_wp2
      go_ret2
      exact ⟨ret_ui (by rw [HB.out]; rfl) (by rw [HF.out]; rfl), (by repeat (first | exact bz0 _ _ | refine bz1 ?_ | refine bz2 ?_ _ | refine bz3 ?_ _ | refine bz4 ?_ hb7 | refine bz4 ?_ hb6 | refine bz4 ?_ hb5 | refine bz4 ?_ hb4 | refine bz4 ?_ hb3 | refine bz4 ?_ hb2 | refine bz4 ?_ hb1 | refine bz5 ?_ _ | refine bz6 ?_ _ | refine bz7 ?_ hb7 | refine bz7 ?_ hb6 | refine bz7 ?_ hb5 | refine bz7 ?_ hb4 | refine bz7 ?_ hb3 | refine bz7 ?_ hb2 | refine bz7 ?_ hb1))⟩
    | false =>
      go_enter Tryz.func155, Tryz.ntmps155
      go_wp2_with fail
      refine (CS1.out _).mono ?_
      rintro r w1 ⟨rfl, hb1⟩
      go_wp2_with fail
      refine (CS2.out _).mono ?_
      rintro r w2 ⟨rfl, hb2⟩
      go_wp2_with fail
      refine (CI1.out _).mono ?_
      rintro r w3 ⟨rfl, hb3⟩
      go_wp2_with fail
      refine (CI2.out _).mono ?_
      rintro r w4 ⟨rfl, hb4⟩
      go_wp2_with fail
      refine (CZ1.out _).mono ?_
      rintro r w5 ⟨rfl, hb5⟩
      go_wp2_with fail
      refine (CZ2.out _).mono ?_
      rintro r w6 ⟨rfl, hb6⟩
      have CE' := hid (CE.out (by simp) (by simp))
      have CR' := hid (CR.out (by simp) (by simp) (by simp) (by simp))
      go_wp2_with fail
      refine (CE'.out _).mono ?_
      rintro r w7 ⟨a', c', rfl, ho, hb7⟩
      obtain ⟨d0, d1⟩ := Box.new w7 (.bool G) (.slice a' L.length c') 31
      have hol := (ho.alloc (.cells #[.bool G, .slice a' L.length c'] 31)).sl
      go_wp2_with fail
      refine (CR'.out a' c' _ hol).mono ?_
      rintro r w8 ⟨rfl, hb8⟩
      go_wp2
      go_ret2
      exact ⟨ret_ui (by rw [HB.out]; rfl) (by rw [HF.out]; rfl), (by repeat (first | exact bz0 _ _ | refine bz1 ?_ | refine bz2 ?_ _ | refine bz3 ?_ _ | refine bz4 ?_ hb8 | refine bz4 ?_ hb7 | refine bz4 ?_ hb6 | refine bz4 ?_ hb5 | refine bz4 ?_ hb4 | refine bz4 ?_ hb3 | refine bz4 ?_ hb2 | refine bz4 ?_ hb1 | refine bz5 ?_ _ | refine bz6 ?_ _ | refine bz7 ?_ hb8 | refine bz7 ?_ hb7 | refine bz7 ?_ hb6 | refine bz7 ?_ hb5 | refine bz7 ?_ hb4 | refine bz7 ?_ hb3 | refine bz7 ?_ hb2 | refine bz7 ?_ hb1))⟩
def muB (fm mode x y : Int) : Int := if muO fm mode x y then (if nanB fm x || nanB fm y then nanOf fm else mB (nanOf fm) (infOf fm) (sgOf fm) (nI fm x || nI fm y) (zF fm x || zF fm y) (sigB fm x != sigB fm y) (RdB fm mode (Nm.wn (nZ fm x * nZ fm y)) (Nm.wl (nZ fm x * nZ fm y)) (nE fm x + nE fm y))) else 0
def muF (fm mode x y : Int) : Int := if muO fm mode x y then (if nanB fm x || nanB fm y then fl8 (nB fm x || nB fm y) else mF (nI fm x || nI fm y) (zF fm x || zF fm y) (RdF fm mode (Nm.wn (nZ fm x * nZ fm y)) (Nm.wl (nZ fm x * nZ fm y)) (nE fm x + nE fm y))) else 0
theorem mu_no {fm mode x y : Int} (h : muO fm mode x y = false) : muB fm mode x y = 0 ∧ muF fm mode x y = 0 := by unfold muB muF; rw [h]; exact ⟨rfl, rfl⟩
theorem mul_spec (fm mode x y : Int) (w : World) (x0 : 0 ≤ x) (x1 : x < 18446744073709551616) (y0 : 0 ≤ y) (y1 : y < 18446744073709551616) (B F : Int) (O : Bool) (hB : B = muB fm mode x y) (hF : F = muF fm mode x y) (hO : O = muO fm mode x y) :
    Calls Tryz.prog 80 #[.int .i64 fm, .int .i64 mode, .int .u64 x, .int .u64 y] w fun r w' => r = .returned (.tuple #[.int .u64 B, .int .i64 F, .bool O]) ∧ Below w.heap.size w w' := by
  have dx := d64_2 x0 x1 y0 y1
  have CF := hid (fun w' h => l4form fm mode (some ⟨w.heap.size, 0, none⟩) 2 [x, y] w' h (by simp))
  rw [all2_fmt] at CF
  have s2 := sl64_2 w x y 24
  cases ho : muO fm mode x y
  · obtain ⟨e1, e2⟩ := mu_no ho
    rw [e1] at hB; rw [e2] at hF; rw [ho] at hO
    subst hB hF hO
    have ho' : (modeB mode && allB fm [x, y]) = false := ho
    rw [ho'] at CF
    clear ho ho' e1 e2 dx
    go_enter Tryz.func80, Tryz.ntmps80
    go_wp2_with fail
    refine (CF.out _ s2).mono ?_
    rintro r w1 ⟨rfl, hb1⟩
    go_wp2
    go_ret3
    exact ⟨rfl, (by repeat (first | exact bz0 _ _ | refine bz1 ?_ | refine bz2 ?_ _ | refine bz3 ?_ _ | refine bz4 ?_ hb1 | refine bz5 ?_ _ | refine bz6 ?_ _ | refine bz7 ?_ hb1))⟩
  have ho' : (modeB mode && allB fm [x, y]) = true := ho
  rw [ho'] at CF
  obtain ⟨hm, ha⟩ : modeB mode = true ∧ allB fm [x, y] = true := by simpa using ho'
  obtain ⟨hx, hy⟩ := all2 ha
  have hfm := ok_fmt hx
  have CN := hid (fun a w' h => l4nan fm a 2 [x, y] w' h dx (by simp) hfm ha)
  have e1 : [x, y].any (nanB fm) = (nanB fm x || nanB fm y) := by simp
  have e2 : [x, y].any (nB fm) = (nB fm x || nB fm y) := by simp
  rw [e1, e2] at CN
  cases hn : (nanB fm x || nanB fm y)
  · obtain ⟨nx, ny⟩ : nanB fm x = false ∧ nanB fm y = false := by simpa using hn
    rw [hn] at CN
    have hB' : B = mB (nanOf fm) (infOf fm) (sgOf fm) (nI fm x || nI fm y) (zF fm x || zF fm y) (sigB fm x != sigB fm y) (RdB fm mode (Nm.wn (nZ fm x * nZ fm y)) (Nm.wl (nZ fm x * nZ fm y)) (nE fm x + nE fm y)) := by
      rw [hB]; unfold muB; rw [ho, if_pos rfl, hn]; rfl
    have hF' : F = mF (nI fm x || nI fm y) (zF fm x || zF fm y) (RdF fm mode (Nm.wn (nZ fm x * nZ fm y)) (Nm.wl (nZ fm x * nZ fm y)) (nE fm x + nE fm y)) := by
      rw [hF]; unfold muF; rw [ho, if_pos rfl, hn]; rfl
    have CM := hid (fun w' => l4mul fm mode x y w' hx hy x0 x1 y0 y1 hm nx ny B F hB' hF')
    rw [ho] at hO
    subst hO
    obtain ⟨q1, hq1⟩ : ∃ i, i = nanOf fm := ⟨_, rfl⟩
    obtain ⟨q2, hq2⟩ : ∃ i : Int, i = fl8 (nB fm x || nB fm y) := ⟨_, rfl⟩
    rw [← hq1, ← hq2] at CN
    clear hB hF hB' hF' hn nx ny ho ho' dx e1 e2 hq1 hq2 hm ha hx hy hfm
    go_enter Tryz.func80, Tryz.ntmps80
    go_wp2_with fail
    refine (CF.out _ s2).mono ?_
    rintro r w1 ⟨rfl, hb1⟩
    go_wp2_with fail
    refine (CN.out _ _ (sl64_2 w1 x y 24)).mono ?_
    rintro r w2 ⟨rfl, hb2⟩
    go_wp2_with fail
    refine (CM.out _).mono ?_
    rintro r w3 ⟨rfl, hb3⟩
    go_wp2
    go_ret3
    exact ⟨rfl, (by repeat (first | exact bz0 _ _ | refine bz1 ?_ | refine bz2 ?_ _ | refine bz3 ?_ _ | refine bz4 ?_ hb3 | refine bz4 ?_ hb2 | refine bz4 ?_ hb1 | refine bz5 ?_ _ | refine bz6 ?_ _ | refine bz7 ?_ hb3 | refine bz7 ?_ hb2 | refine bz7 ?_ hb1))⟩
  · rw [hn] at CN
    have hB' : B = nanOf fm := by rw [hB]; unfold muB; rw [ho, if_pos rfl, hn]; rfl
    have hF' : F = fl8 (nB fm x || nB fm y) := by rw [hF]; unfold muF; rw [ho, if_pos rfl, hn]; rfl
    rw [← hB', ← hF'] at CN
    rw [ho] at hO
    subst hO
    clear hB hF hB' hF' hn ho ho' dx e1 e2 hm ha hx hy hfm
    go_enter Tryz.func80, Tryz.ntmps80
    go_wp2_with fail
    refine (CF.out _ s2).mono ?_
    rintro r w1 ⟨rfl, hb1⟩
    go_wp2_with fail
    refine (CN.out _ _ (sl64_2 w1 x y 24)).mono ?_
    rintro r w2 ⟨rfl, hb2⟩
    go_wp2
    go_ret3
    exact ⟨rfl, (by repeat (first | exact bz0 _ _ | refine bz1 ?_ | refine bz2 ?_ _ | refine bz3 ?_ _ | refine bz4 ?_ hb2 | refine bz4 ?_ hb1 | refine bz5 ?_ _ | refine bz6 ?_ _ | refine bz7 ?_ hb2 | refine bz7 ?_ hb1))⟩
theorem zlen {fm x : Int} : decide ((Nm.wl (nZ fm x)).length = 0) = decide (nZ fm x = 0) := by
  rw [Bool.eq_iff_iff, decide_eq_true_eq, decide_eq_true_eq]; unfold Nm.wl; rw [Nm.lim_length_zero]; omega
theorem sz_of {fm x : Int} (hx : okF fm x = true) (h : nanB fm x = false) : (!nI fm x && decide ((Nm.wl (nZ fm x)).length = 0)) = zF fm x := by
  rw [zlen]
  rcases nan_cases hx h with hf | hi
  · rw [zF_fin hx hf, (fin_facts hx hf).2.1]; rfl
  · rw [hi, zF_inf hx hi]; rfl
/-- A product that is invalid. -/
def odd2 (fm x y : Int) : Bool := (nI fm x && zF fm y) || (zF fm x && nI fm y)
theorem inf_pos (fm : Int) : 0 < infOf fm := by unfold infOf; split <;> decide
theorem nan_not {fm x : Int} (hx : okF fm x = true) (x0 : 0 ≤ x) (h : nanB fm x = true) : nI fm x = false ∧ zF fm x = false := by
  have h1 : infOf fm < absF fm x := by unfold nanB at h; simpa using h
  have h2 := cls_inf hx x0
  have h3 := inf_pos fm
  constructor
  · show (cls fm x == 3) = false
    rw [← h2, beq_eq_false_iff_ne]; omega
  · unfold zF; rw [beq_eq_false_iff_ne]; omega
theorem odd_nan {fm x y : Int} (hx : okF fm x = true) (hy : okF fm y = true) (x0 : 0 ≤ x) (y0 : 0 ≤ y) (h : (nanB fm x || nanB fm y) = true) : odd2 fm x y = false := by
  rcases Bool.or_eq_true_iff.1 h with h | h
  · obtain ⟨a, b⟩ := nan_not hx x0 h; unfold odd2; rw [a, b]; rfl
  · obtain ⟨a, b⟩ := nan_not hy y0 h; unfold odd2; rw [a, b]; simp
/-- A product, of all floats. -/
theorem prod_all (fm mode x y : Int) (u : Value) (x0 : 0 ≤ x) (x1 : x < 18446744073709551616) (y0 : 0 ≤ y) (y1 : y < 18446744073709551616) (ho : muO fm mode x y = true) :
    ∃ (sg inf G : Bool) (L : List Int) (E : Int), ProdAt u fm x y sg inf G L E (nanB fm x || nanB fm y || odd2 fm x y) (nB fm x || nB fm y || odd2 fm x y) ∧ L.length ≤ 200 ∧ Nm.Dg L ∧ -3000 ≤ E ∧ E ≤ 4000 ∧ ((nanB fm x || nanB fm y || odd2 fm x y) = false → sg = (sigB fm x != sigB fm y) ∧ inf = (nI fm x || nI fm y) ∧ (inf = false → finB fm x = true ∧ finB fm y = true ∧ G = Nm.wn (nZ fm x * nZ fm y) ∧ L = Nm.wl (nZ fm x * nZ fm y) ∧ E = nE fm x + nE fm y)) := by
  obtain ⟨hm, ha⟩ : modeB mode = true ∧ allB fm [x, y] = true := by have : (modeB mode && allB fm [x, y]) = true := ho; simpa using this
  obtain ⟨hx, hy⟩ := all2 ha
  have hfm := ok_fmt hx
  have NX := numAt (u := u) hx x0 x1
  have NY := numAt (u := u) hy y0 y1
  cases hn : (nanB fm x || nanB fm y)
  · obtain ⟨nx, ny⟩ : nanB fm x = false ∧ nanB fm y = false := by simpa using hn
    have sx : nS fm x = sigB fm x := by unfold nS; rw [nx]; rfl
    have sy : nS fm y = sigB fm y := by unfold nS; rw [ny]; rfl
    have zx := sz_of hx nx
    have zy := sz_of hy ny
    have bx : nB fm x = false := by
      have := nan_ofE hx; rw [nx] at this
      unfold nB; rw [beq_eq_false_iff_ne]; intro h; rw [h] at this; exact absurd this (by decide)
    have b_y : nB fm y = false := by
      have := nan_ofE hy; rw [ny] at this
      unfold nB; rw [beq_eq_false_iff_ne]; intro h; rw [h] at this; exact absurd this (by decide)
    have hodd : oddB (nI fm x) (decide ((Nm.wl (nZ fm x)).length = 0)) (nI fm y) (decide ((Nm.wl (nZ fm y)).length = 0)) = odd2 fm x y := by
      unfold oddB odd2; rw [zx, zy]
    rw [bx, b_y]
    cases hod : odd2 fm x y
    · rw [hod] at hodd
      cases hi : (nI fm x || nI fm y)
      · obtain ⟨ix, iy⟩ : nI fm x = false ∧ nI fm y = false := by simpa using hi
        have fx := (nan_cases hx nx).resolve_right (by rw [ix]; decide)
        have fy := (nan_cases hy ny).resolve_right (by rw [iy]; decide)
        have b1 := nZ_bd fm x
        have b2 := nZ_bd fm y
        have hl := nZm_len fm x y
        rw [ix] at NX
        rw [iy] at NY
        have hP := prod_num fm x y u _ _ _ _ _ _ _ _ _ _ _ _ _ _ NX NY hn (nS fm x != nS fm y) false (Nm.wn (nZ fm x * nZ fm y)) (Nm.wl (nZ fm x * nZ fm y)) (nE fm x + nE fm y) false false
          (fun Q a1 c1 a2 c2 w hQ h1 h2 => (times_fin (nS fm x) (Nm.wn (nZ fm x)) (Nm.wl (nZ fm x)) (nE fm x) a1 c1 (nS fm y) (Nm.wn (nZ fm y)) (Nm.wl (nZ fm y)) (nE fm y) a2 c2 w (nS fm x != nS fm y) (Nm.wn (nZ fm x * nZ fm y)) (Nm.wl (nZ fm x * nZ fm y)) (nE fm x + nE fm y) rfl rfl (by omega) (by omega) (nZ_len fm x) (nZ_len fm y) h1.sl h2.sl
            (fun w' h1' h2' => mul_ok a1 a2 c1 c2 w' h1' h2' (Nm.wl_dg _) (Nm.wl_dg _) (okB_wl (nZ_len fm x)) (okB_wl (nZ_len fm y)) (nZ fm x * nZ fm y) (by rw [Nm.wv_out, Nm.wv_out]) (by unfold Nm.fits; exact decide_eq_true hl))).mono fun r w' ⟨a, c, hr, ho, hb⟩ => ⟨a, c, _, hr, EK.no, ho.base hQ, hb⟩)
        exact ⟨_, _, _, _, _, hP, hl, Nm.wl_dg _, by omega, by omega, fun _ => ⟨by rw [sx, sy], rfl, fun _ => ⟨fx, fy, rfl, rfl, rfl⟩⟩⟩
      · have hP := prod_num fm x y u _ _ _ _ _ _ _ _ _ _ _ _ _ _ NX NY hn (nS fm x != nS fm y) true false [] 0 false false
          (fun Q a1 c1 a2 c2 w hQ h1 h2 => (times_inf (nS fm x) (nI fm x) (Nm.wn (nZ fm x)) (Nm.wl (nZ fm x)) (nE fm x) a1 c1 (nS fm y) (nI fm y) (Nm.wn (nZ fm y)) (Nm.wl (nZ fm y)) (nE fm y) a2 c2 w (nZ_len fm x) (nZ_len fm y) hodd hi _ rfl).mono fun r w' ⟨hr, hb⟩ => ⟨none, 0, _, hr, EK.no, Own.nil _ _, hb⟩)
        exact ⟨_, _, _, _, _, hP, by simp, Nm.Dg.nil, by omega, by omega, fun _ => ⟨by rw [sx, sy], rfl, fun h => by cases h⟩⟩
    · rw [hod] at hodd
      have hP := prod_num fm x y u _ _ _ _ _ _ _ _ _ _ _ _ _ _ NX NY hn false false false [] 0 true true
          (fun Q a1 c1 a2 c2 w hQ h1 h2 => (times_odd (nS fm x) (nI fm x) (Nm.wn (nZ fm x)) (Nm.wl (nZ fm x)) (nE fm x) a1 c1 (nS fm y) (nI fm y) (Nm.wn (nZ fm y)) (Nm.wl (nZ fm y)) (nE fm y) a2 c2 w (nZ_len fm x) (nZ_len fm y) hodd).mono fun r w' ⟨s, hr, hb⟩ => ⟨none, 0, _, hr, EK.bad s, Own.nil _ _, hb⟩)
      exact ⟨_, _, _, _, _, hP, by simp, Nm.Dg.nil, by omega, by omega, fun h => by cases h⟩
  · have hod := odd_nan hx hy x0 y0 hn
    have hP := prod_nan fm x y u _ _ _ _ _ _ _ _ _ _ _ _ _ _ NX NY hn _ rfl
    rw [hod, Bool.or_false, Bool.or_false]
    exact ⟨_, _, _, _, _, hP, by simp, Nm.Dg.nil, by omega, by omega, fun h => by cases h⟩
theorem odd_iz {fm x y : Int} (hx : okF fm x = true) (hy : okF fm y = true) : odd2 fm x y = ((nI fm x || nI fm y) && (zF fm x || zF fm y)) := by
  unfold odd2
  cases hi : nI fm x
  · cases hj : nI fm y
    · simp
    · rw [zF_inf hy hj]; simp
  · rw [zF_inf hx hi]; simp
theorem zlen2 {fm x y : Int} (hx : okF fm x = true) (hy : okF fm y = true) (fx : finB fm x = true) (fy : finB fm y = true) : decide ((Nm.wl (nZ fm x * nZ fm y)).length = 0) = (zF fm x || zF fm y) := by
  rw [zF_fin hx fx, zF_fin hy fy, Bool.eq_iff_iff, Bool.or_eq_true, decide_eq_true_eq, decide_eq_true_eq, decide_eq_true_eq, ← Int.mul_eq_zero]
  unfold Nm.wl; rw [Nm.lim_length_zero]; omega
end Go.Proofs.YtmcflggionkhlaaGreatDoor
