/-
  What is needed of FS, FM, FN.
-/
import Derived.Test.YtmcflggionkhlaaGreatDoorE42
import Derived.Test.YtmcflggionkhlaaGreatDoorE43
set_option maxHeartbeats 16000000
set_option maxRecDepth 1000000
namespace Go.Proofs.YtmcflggionkhlaaGreatDoor
set_option linter.unusedVariables false
set_option linter.unusedSimpArgs false
open Go.RowKit Go.Deep
theorem zer4 (fm x : Int) (w : World) (h : okF fm x = true) (h0 : 0 ≤ x) (h1 : x < 18446744073709551616) (z : Bool) (hz : z = (absF fm x == 0)) :
    Calls Tryz.prog 164 #[.int .i64 fm, .int .u64 x] w fun e w' => e = .returned (.bool z) ∧ Below w.heap.size w w' := by
  have C := hid (fun w' => spec_l2abs fm x w' h h0 h1)
  obtain ⟨a, ha⟩ : ∃ a, a = absF fm x := ⟨_, rfl⟩
  rw [← ha] at C hz
  subst hz
  clear ha
  go_enter Tryz.func164, Tryz.ntmps164
  go_wp2_with fail
  refine (C.out _).mono ?_
  rintro r w1 ⟨rfl, hb1⟩
  go_wp2
  go_ret
  exact ⟨rfl, (by repeat (first | exact bz0 _ _ | refine bz1 ?_ | refine bz2 ?_ _ | refine bz3 ?_ _ | refine bz4 ?_ hb1 | refine bz5 ?_ _ | refine bz6 ?_ _ | refine bz7 ?_ hb1))⟩
/-- A product, of what are no NaNs: i: one is infinity; z: one is zero. -/
def mB (nan inf sg : Int) (i z neg : Bool) (rb : Int) : Int := if i && z then nan else if i then sgn sg inf neg else if z then sgn sg 0 neg else rb
def mF (i z : Bool) (rf : Int) : Int := if i && z then 8 else if i || z then 0 else rf
def zF (fm x : Int) : Bool := absF fm x == 0
theorem zF_fin {fm x : Int} (hx : okF fm x = true) (hf : finB fm x = true) : zF fm x = decide (nZ fm x = 0) := by
  have hM := pM_bd fm x
  have e : (nZ fm x = 0) ↔ pM fm x = 0 := by
    rw [(fin_facts hx hf).2.2.1]; cases pS fm x <;> simp
  have h := cls_zero hx
  show (absF fm x == 0) = _
  rw [← h, Bool.eq_iff_iff, beq_iff_eq, decide_eq_true_eq, e]
  constructor
  · intro h
    have ha : (absF fm x == 0) = true := by rw [← cls_zero hx, h]; rfl
    have ha' : absF fm x = 0 := by simpa using ha
    unfold pM; rw [hf, if_pos rfl]
    rcases okF_cases hx with ⟨rfl, hx'⟩ | rfl
    · rw [abs32 hx'] at ha'
      rw [if_pos rfl, ha']; rfl
    · rw [abs64] at ha'
      rw [if_neg (by decide), ha']; rfl
  · intro h
    have hc : 0 ≤ cls fm x ∧ cls fm x ≤ 2 := by simpa [finB] using hf
    by_cases h12 : cls fm x = 1 ∨ cls fm x = 2
    · have := (pM_pos h12).2; omega
    · omega
theorem zF_inf {fm x : Int} (hx : okF fm x = true) (h : nI fm x = true) : zF fm x = false := by
  have h3 : cls fm x = 3 := by simpa [nI] using h
  unfold zF; rw [← cls_zero hx, h3]; rfl
theorem nZm_bd (fm x y : Int) : (nZ fm x * nZ fm y).natAbs < 2 ^ 106 := by
  have h1 := (nZ_bd fm x).1
  have h2 := (nZ_bd fm y).1
  rw [Int.natAbs_mul]
  have : (nZ fm x).natAbs * (nZ fm y).natAbs ≤ 9007199254740991 * 9007199254740991 := Nat.mul_le_mul (by omega) (by omega)
  omega
theorem nZm_len (fm x y : Int) : (Nm.wl (nZ fm x * nZ fm y)).length ≤ 200 := wl_of (nZm_bd fm x y) (by decide)
theorem exact4 (fm x y : Int) (w : World) (hx : finB fm x = true) (hy : finB fm y = true) (x0 : 0 ≤ x) (x1 : x < 18446744073709551616) (y0 : 0 ≤ y) (y1 : y < 18446744073709551616) (hox : okF fm x = true) (hoy : okF fm y = true) (G : Bool) (L : List Int) (E : Int) (hG : G = Nm.wn (nZ fm x * nZ fm y)) (hL : L = Nm.wl (nZ fm x * nZ fm y)) (hE : E = nE fm x + nE fm y) :
    Calls Tryz.prog 97 #[.int .i64 fm, .int .u64 x, .int .u64 y] w fun r w' => ∃ a' c', r = .returned (.tuple #[.agg #[.bool G, .slice a' L.length c'], .int .i64 E]) ∧ Own w' w.heap.size a' c' L ∧ Below w.heap.size w w' := by
  have C1 := hid (fun w' => sparts_any fm x w' hx x0 x1)
  have C2 := hid (fun w' => sparts_any fm y w' hy y0 y1)
  obtain ⟨fx1, fx2, fx3, fx4, -, -⟩ := fin_facts hox hx
  obtain ⟨fy1, fy2, fy3, fy4, -, -⟩ := fin_facts hoy hy
  have bx := pM_bd fm x
  have by' := pM_bd fm y
  have ex := pE_bd fm x
  have ey := pE_bd fm y
  have U1 := hid (fun w' => l1uint_z (pM fm x) (pS fm x) w' bx.1 (by omega))
  have U2 := hid (fun w' => l1uint_z (pM fm y) (pS fm y) w' by'.1 (by omega))
  rw [← fx3] at U1
  rw [← fy3] at U2
  have CM := hid (fun a c b d w' h h' => l1mul_any (Nm.wn (nZ fm x)) (Nm.wn (nZ fm y)) a b c d (Nm.wl (nZ fm x)) (Nm.wl (nZ fm y)) w' h h' (Nm.wl_dg _) (Nm.wl_dg _) (Nm.wl_nz _) (Nm.wl_nz _) (by have := nZ_len fm x; omega) (by have := nZ_len fm y; omega) (nZ fm x * nZ fm y) (by rw [Nm.wv_out, Nm.wv_out]))
  rw [fx4, fy4] at hE
  simp only [← hG, ← hL] at CM
  obtain ⟨s1, hs1⟩ : ∃ s, s = pS fm x := ⟨_, rfl⟩
  obtain ⟨s2, hs2⟩ : ∃ s, s = pS fm y := ⟨_, rfl⟩
  obtain ⟨m1, hm1⟩ : ∃ s, s = pM fm x := ⟨_, rfl⟩
  obtain ⟨m2, hm2⟩ : ∃ s, s = pM fm y := ⟨_, rfl⟩
  obtain ⟨e1, he1⟩ : ∃ s, s = pE fm x := ⟨_, rfl⟩
  obtain ⟨e2, he2⟩ : ∃ s, s = pE fm y := ⟨_, rfl⟩
  obtain ⟨G1, hG1⟩ : ∃ s, s = Nm.wn (nZ fm x) := ⟨_, rfl⟩
  obtain ⟨G2, hG2⟩ : ∃ s, s = Nm.wn (nZ fm y) := ⟨_, rfl⟩
  obtain ⟨L1, hL1⟩ : ∃ s, s = Nm.wl (nZ fm x) := ⟨_, rfl⟩
  obtain ⟨L2, hL2⟩ : ∃ s, s = Nm.wl (nZ fm y) := ⟨_, rfl⟩
  rw [← hs1, ← hm1, ← he1] at C1
  rw [← hs2, ← hm2, ← he2] at C2
  rw [← hs1, ← hm1, ← hG1, ← hL1] at U1
  rw [← hs2, ← hm2, ← hG2, ← hL2] at U2
  simp only [← hG1, ← hL1, ← hG2, ← hL2] at CM
  rw [← he1, ← he2] at hE
  rw [← hm1] at bx
  rw [← hm2] at by'
  rw [← he1] at ex
  rw [← he2] at ey
  have hwE : IntKind.i64.wrap (e1 + e2) = E := by rw [hE, IntKind.wrap_i64]; omega
  have hw1 : IntKind.u64.wrap m1 = m1 := by rw [IntKind.wrap_u64]; omega
  have hw2 : IntKind.u64.wrap m2 = m2 := by rw [IntKind.wrap_u64]; omega
  clear hs1 hs2 hm1 hm2 he1 he2 hG1 hG2 hL1 hL2 hE fx1 fx2 fx3 fx4 fy1 fy2 fy3 fy4 hG hL hx hy hox hoy bx by' ex ey
  have R := R2.new w (.bool false) (.slice none 0 0) 31
  go_enter Tryz.func97, Tryz.ntmps97
  go_wp2_with fail
  refine (C1.out _).mono ?_
  rintro r w1 ⟨rfl, hb1⟩
  replace R := (R.below hb1).alloc (.cells #[.bool s1, .int .i64 m1, .int .i64 e1] 77)
  have P := R3.new w1 (.bool s1) (.int .i64 m1) (.int .i64 e1) 77
  have bel1 : Below w.heap.size w (w1.alloc (.cells #[.bool s1, .int .i64 m1, .int .i64 e1] 77)) := (by repeat (first | exact bz0 _ _ | refine bz1 ?_ | refine bz2 ?_ _ | refine bz3 ?_ _ | refine bz4 ?_ hb1 | refine bz5 ?_ _ | refine bz6 ?_ _ | refine bz7 ?_ hb1))
  have lw1 : w.heap.size < w1.heap.size := by have := hb1.size; simp at this; omega
  go_wp2_with fail
  refine (C2.out _).mono ?_
  rintro r w2 ⟨rfl, hb2⟩
  replace R := (R.below hb2).alloc (.cells #[.bool s2, .int .i64 m2, .int .i64 e2] 77)
  replace P := (P.below hb2).al (.cells #[.bool s2, .int .i64 m2, .int .i64 e2] 77)
  have Q := R3.new w2 (.bool s2) (.int .i64 m2) (.int .i64 e2) 77
  have bel2w := bel_go bel1 hb2
  have bel2 := bel_al (bel_go bel1 hb2) (.cells #[.bool s2, .int .i64 m2, .int .i64 e2] 77)
  have lw2 : w1.heap.size < w2.heap.size := by have := hb2.size; simp at this; omega
  clear hb1 hb2 bel1
  have Pd := P.dr
  have Qd := Q.dr
  have pd := And.intro (And.intro Pd.c0 (And.intro Pd.c1 Pd.c2)) (And.intro Qd.c0 (And.intro Qd.c1 Qd.c2))
  go_wp2_with fail
  go_region_held3 (fun w' => (w'.cell? ⟨w1.heap.size, 0, none⟩ = some (.bool s1) ∧ w'.cell? ⟨w1.heap.size, 1, none⟩ = some (.int .i64 m1) ∧ w'.cell? ⟨w1.heap.size, 2, none⟩ = some (.int .i64 e1)) ∧ (w'.cell? ⟨w2.heap.size, 0, none⟩ = some (.bool s2) ∧ w'.cell? ⟨w2.heap.size, 1, none⟩ = some (.int .i64 m2) ∧ w'.cell? ⟨w2.heap.size, 2, none⟩ = some (.int .i64 e2)))
    (first | with_reducible assumption | with_reducible exact pd | with_reducible exact ss3 _ _ | fail)
    (first
      | (go_at_call 114; with_reducible refine (U1.out _).mono ?_; rintro r q1 ⟨a1, k1, rfl, hp1, hq1⟩; have P1 := Pd.below hq1; have Q1 := Qd.below hq1; have R1 := R.drew.below hq1; have u1 := And.intro (And.intro P1.c0 (And.intro P1.c1 P1.c2)) (And.intro Q1.c0 (And.intro Q1.c1 Q1.c2)))
      | (go_at_call 114; with_reducible refine (U2.out _).mono ?_; rintro r q2 ⟨a2, k2, rfl, hp2, hq2⟩; have P2 := P1.below hq2; have Q2 := Q1.below hq2; have R2' := R1.below hq2; have u2 := And.intro (And.intro P2.c0 (And.intro P2.c1 P2.c2)) (And.intro Q2.c0 (And.intro Q2.c1 Q2.c2)); have hp12 := hp1.below hq2)
      | (go_at_call 165; refine (CM.out a1 k1 a2 k2 _ hp12.sl hp2.sl).mono ?_; rintro r q3 ⟨a3, k3, rfl, hp3, hq3⟩; have P3 := P2.below hq3; have Q3 := Q2.below hq3; have u3 := And.intro (And.intro P3.c0 (And.intro P3.c1 P3.c2)) (And.intro Q3.c0 (And.intro Q3.c1 Q3.c2)); have ss3 := fun u v => And.intro (let P4 := (R3.other P3 (p := ⟨w.heap.size, 0, none⟩) (by simp; omega) u).other (p := ⟨w.heap.size, 1, none⟩) (by simp; omega) v; And.intro P4.c0 (And.intro P4.c1 P4.c2)) (let Q4 := (R3.other Q3 (p := ⟨w.heap.size, 0, none⟩) (by simp; omega) u).other (p := ⟨w.heap.size, 1, none⟩) (by simp; omega) v; And.intro Q4.c0 (And.intro Q4.c1 Q4.c2)); obtain ⟨r0, r1, g0, g1⟩ := R2'.below hq3))
  have z1 := hq1.size
  have z2 := hq2.size
  have z0 : w2.heap.size + 1 ≤ q1.heap.size := by simpa using z1
  go_wp2
  refine bodyPost_ret (v := .tuple #[.agg #[.bool G, .slice a3 L.length k3], .int .i64 E]) (by simp [results, Tryz.results97, go_sem, r0, r1]) rfl ⟨a3, k3, rfl, ?_, ?_⟩
  · exact Own.base ((hp3.setBelow (by simp; omega) _).setBelow (by simp; omega) _) (by omega)
  · exact (by (repeat with_reducible first | refine Below.setCell ?_ ?_ _ | exact bz0 _ _ | refine bz1 ?_ | refine bz2 ?_ _ | refine bz3 ?_ _ | refine bz4 ?_ hq3 | refine bz4 ?_ hq2 | refine bz4 ?_ hq1 | refine bz4 ?_ bel2w | refine Below.alloc ?_ ?_ _ | refine Below.trans ?_ (Below.mono hq3 ?_) | refine Below.trans ?_ (Below.mono hq2 ?_) | refine Below.trans ?_ (Below.mono hq1 ?_) | refine Below.trans ?_ (Below.mono bel2w ?_)) <;> first | omega | (simp; done) | (simp; omega))
theorem l4mul (fm mode x y : Int) (w : World) (hx : okF fm x = true) (hy : okF fm y = true) (x0 : 0 ≤ x) (x1 : x < 18446744073709551616) (y0 : 0 ≤ y) (y1 : y < 18446744073709551616) (hm : modeB mode = true) (nx : nanB fm x = false) (ny : nanB fm y = false) (B F : Int) (hB : B = mB (nanOf fm) (infOf fm) (sgOf fm) (nI fm x || nI fm y) (zF fm x || zF fm y) (sigB fm x != sigB fm y) (RdB fm mode (Nm.wn (nZ fm x * nZ fm y)) (Nm.wl (nZ fm x * nZ fm y)) (nE fm x + nE fm y))) (hF : F = mF (nI fm x || nI fm y) (zF fm x || zF fm y) (RdF fm mode (Nm.wn (nZ fm x * nZ fm y)) (Nm.wl (nZ fm x * nZ fm y)) (nE fm x + nE fm y))) :
    Calls Tryz.prog 155 #[.int .i64 fm, .int .i64 mode, .int .u64 x, .int .u64 y] w fun r w' => r = .returned (.tuple #[.int .u64 B, .int .i64 F]) ∧ Below w.heap.size w w' := by
  have hfm := ok_fmt hx
  have CS1 := hid (fun w' => spec_l2neg fm x w' hx x0 x1)
  have CS2 := hid (fun w' => spec_l2neg fm y w' hy y0 y1)
  have CI1 := hid (fun w' => inf4 fm x w' hx x0 x1 _ rfl)
  have CI2 := hid (fun w' => inf4 fm y w' hy y0 y1 _ rfl)
  have CZ1 := hid (fun w' => zer4 fm x w' hx x0 x1 (zF fm x) rfl)
  have CZ2 := hid (fun w' => zer4 fm y w' hy y0 y1 (zF fm y) rfl)
  have CN := hid (fun w' => nan_s fm w' hfm)
  have CI := hid (fun w' => inf_s fm w' hfm)
  have CW0 := hid (fun ng w' => with_s fm 0 ng w' hfm (by decide) (.inl (by decide)))
  have CWi := hid (fun ng w' => with_s fm (infOf fm) ng w' hfm (by unfold infOf; split <;> decide) (by
    rcases fmt_cases hfm with rfl | rfl
    · exact .inl (by decide)
    · exact .inr ⟨rfl, by decide⟩))
  have CE : Hid (nI fm x = false → nI fm y = false → ∀ w' : World, Calls Tryz.prog 97 #[.int .i64 fm, .int .u64 x, .int .u64 y] w' fun r w'' => ∃ a' c', r = .returned (.tuple #[.agg #[.bool (Nm.wn (nZ fm x * nZ fm y)), .slice a' (Nm.wl (nZ fm x * nZ fm y)).length c'], .int .i64 (nE fm x + nE fm y)]) ∧ Own w'' w'.heap.size a' c' (Nm.wl (nZ fm x * nZ fm y)) ∧ Below w'.heap.size w' w'') := hid (fun hi hj w' => by
    have hfx := (nan_cases hx nx).resolve_right (by rw [hi]; decide)
    have hfy := (nan_cases hy ny).resolve_right (by rw [hj]; decide)
    exact exact4 fm x y w' hfx hfy x0 x1 y0 y1 hx hy _ _ _ rfl rfl rfl)
  have CR : Hid (nI fm x = false → nI fm y = false → zF fm x = false → zF fm y = false → ∀ (p : Option Addr) (c : Nat) (w' : World), Sl .u32 w' (.slice p (Nm.wl (nZ fm x * nZ fm y)).length c) (Nm.wl (nZ fm x * nZ fm y)) → Calls Tryz.prog 103 #[.int .i64 fm, .int .i64 mode, .agg #[.bool (Nm.wn (nZ fm x * nZ fm y)), .slice p (Nm.wl (nZ fm x * nZ fm y)).length c], .int .i64 (nE fm x + nE fm y)] w' fun r w'' => r = .returned (.tuple #[.int .u64 (RdB fm mode (Nm.wn (nZ fm x * nZ fm y)) (Nm.wl (nZ fm x * nZ fm y)) (nE fm x + nE fm y)), .int .i64 (RdF fm mode (Nm.wn (nZ fm x * nZ fm y)) (Nm.wl (nZ fm x * nZ fm y)) (nE fm x + nE fm y))]) ∧ Below w'.heap.size w' w'') := hid (fun hi hj hzx hzy p c w' h => by
    have hfx := (nan_cases hx nx).resolve_right (by rw [hi]; decide)
    have hfy := (nan_cases hy ny).resolve_right (by rw [hj]; decide)
    rw [zF_fin hx hfx] at hzx
    rw [zF_fin hy hfy] at hzy
    have n1 : nZ fm x ≠ 0 := of_decide_eq_false hzx
    have n2 : nZ fm y ≠ 0 := of_decide_eq_false hzy
    have b1 := nZ_bd fm x
    have b2 := nZ_bd fm y
    exact l3r_any fm mode (nZ fm x * nZ fm y) (nE fm x + nE fm y) p c w' h (Int.mul_ne_zero n1 n2) (rdo_any hfm hm (nZm_len fm x y) (by omega) (by omega)))
  obtain ⟨i1, hi1⟩ : ∃ i, i = nI fm x := ⟨_, rfl⟩
  obtain ⟨i2, hi2⟩ : ∃ i, i = nI fm y := ⟨_, rfl⟩
  obtain ⟨z1, hz1⟩ : ∃ i, i = zF fm x := ⟨_, rfl⟩
  obtain ⟨z2, hz2⟩ : ∃ i, i = zF fm y := ⟨_, rfl⟩
  obtain ⟨s1, hs1⟩ : ∃ i, i = sigB fm x := ⟨_, rfl⟩
  obtain ⟨s2, hs2⟩ : ∃ i, i = sigB fm y := ⟨_, rfl⟩
  obtain ⟨ng, hng⟩ : ∃ i, i = (s1 != s2) := ⟨_, rfl⟩
  obtain ⟨NN, hNN⟩ : ∃ i, i = nanOf fm := ⟨_, rfl⟩
  obtain ⟨II, hII⟩ : ∃ i, i = infOf fm := ⟨_, rfl⟩
  obtain ⟨SS, hSS⟩ : ∃ i, i = sgOf fm := ⟨_, rfl⟩
  obtain ⟨rb, hrb⟩ : ∃ i, i = RdB fm mode (Nm.wn (nZ fm x * nZ fm y)) (Nm.wl (nZ fm x * nZ fm y)) (nE fm x + nE fm y) := ⟨_, rfl⟩
  obtain ⟨rf, hrf⟩ : ∃ i, i = RdF fm mode (Nm.wn (nZ fm x * nZ fm y)) (Nm.wl (nZ fm x * nZ fm y)) (nE fm x + nE fm y) := ⟨_, rfl⟩
  rw [← hi1, ← hi2, ← hz1, ← hz2, ← hs1, ← hs2, ← hNN, ← hII, ← hSS, ← hrb, ← hng] at hB
  rw [← hi1, ← hi2, ← hz1, ← hz2, ← hrf] at hF
  rw [← hi1, ← hi2, ← hz1, ← hz2] at CR
  rw [← hrb, ← hrf] at CR
  rw [← hi1, ← hi2] at CE
  obtain ⟨G, hG⟩ : ∃ i, i = Nm.wn (nZ fm x * nZ fm y) := ⟨_, rfl⟩
  obtain ⟨L, hL⟩ : ∃ i, i = Nm.wl (nZ fm x * nZ fm y) := ⟨_, rfl⟩
  obtain ⟨E, hE⟩ : ∃ i, i = nE fm x + nE fm y := ⟨_, rfl⟩
  rw [← hG, ← hL, ← hE] at CE CR
  rw [← hi1] at CI1
  rw [← hi2] at CI2
  rw [← hz1] at CZ1
  rw [← hz2] at CZ2
  rw [← hs1] at CS1
  rw [← hs2] at CS2
  rw [← hNN] at CN
  rw [← hII] at CI
  rw [← hSS] at CW0
  simp only [← hII, ← hSS] at CWi
  have hng' : (s1 != s2) = ng := hng.symm
  have hng2 : (s1 == s2) = !ng := by rw [← hng']; cases s1 <;> cases s2 <;> rfl
  have HB := hid hB
  have HF := hid hF
  clear hi1 hi2 hz1 hz2 hs1 hs2 hNN hII hSS hrb hrf hG hL hE hng hB hF nx ny hm hfm hx hy
  cases i1 with
  | true =>
    cases z1 with
    | true =>
      go_enter Tryz.func155, Tryz.ntmps155
      go_wp2_with fail
      refine (CS1.out _).mono ?_
      rintro r w1 ⟨rfl, hb1⟩
      go_wp2_with fail
      refine (CS2.out _).mono ?_
      rintro r w2 ⟨rfl, hb2⟩
      go_wp2_with fail
      refine (CI1.out _).mono ?_
      rintro r w3 ⟨rfl, hb3⟩
      go_wp2_with fail
      refine (CZ1.out _).mono ?_
      rintro r w4 ⟨rfl, hb4⟩
      go_wp2_with fail
      refine (CN.out _).mono ?_
      rintro r w5 ⟨rfl, hb5⟩
      go_wp2
      go_ret2
      exact ⟨ret_ui (by rw [HB.out]; rfl) (by rw [HF.out]; rfl), (by repeat (first | exact bz0 _ _ | refine bz1 ?_ | refine bz2 ?_ _ | refine bz3 ?_ _ | refine bz4 ?_ hb5 | refine bz4 ?_ hb4 | refine bz4 ?_ hb3 | refine bz4 ?_ hb2 | refine bz4 ?_ hb1 | refine bz5 ?_ _ | refine bz6 ?_ _ | refine bz7 ?_ hb5 | refine bz7 ?_ hb4 | refine bz7 ?_ hb3 | refine bz7 ?_ hb2 | refine bz7 ?_ hb1))⟩
    | false =>
    cases z2 with
    | true =>
      go_enter Tryz.func155, Tryz.ntmps155
      go_wp2_with fail
      refine (CS1.out _).mono ?_
      rintro r w1 ⟨rfl, hb1⟩
      go_wp2_with fail
      refine (CS2.out _).mono ?_
      rintro r w2 ⟨rfl, hb2⟩
      go_wp2_with fail
      refine (CI1.out _).mono ?_
      rintro r w3 ⟨rfl, hb3⟩
      go_wp2_with fail
      refine (CZ1.out _).mono ?_
      rintro r w4 ⟨rfl, hb4⟩
      go_wp2_with fail
      refine (CZ2.out _).mono ?_
      rintro r w5 ⟨rfl, hb5⟩
      go_wp2_with fail
      refine (CN.out _).mono ?_
      rintro r w6 ⟨rfl, hb6⟩
      go_wp2
      go_ret2
      exact ⟨ret_ui (by rw [HB.out]; rfl) (by rw [HF.out]; rfl), (by repeat (first | exact bz0 _ _ | refine bz1 ?_ | refine bz2 ?_ _ | refine bz3 ?_ _ | refine bz4 ?_ hb6 | refine bz4 ?_ hb5 | refine bz4 ?_ hb4 | refine bz4 ?_ hb3 | refine bz4 ?_ hb2 | refine bz4 ?_ hb1 | refine bz5 ?_ _ | refine bz6 ?_ _ | refine bz7 ?_ hb6 | refine bz7 ?_ hb5 | refine bz7 ?_ hb4 | refine bz7 ?_ hb3 | refine bz7 ?_ hb2 | refine bz7 ?_ hb1))⟩
    | false =>
      go_enter Tryz.func155, Tryz.ntmps155
      go_wp2_with fail
      refine (CS1.out _).mono ?_
      rintro r w1 ⟨rfl, hb1⟩
      go_wp2_with fail
      refine (CS2.out _).mono ?_
      rintro r w2 ⟨rfl, hb2⟩
      go_wp2_with fail
      refine (CI1.out _).mono ?_
      rintro r w3 ⟨rfl, hb3⟩
      go_wp2_with fail
      refine (CZ1.out _).mono ?_
      rintro r w4 ⟨rfl, hb4⟩
      go_wp2_with fail
      refine (CZ2.out _).mono ?_
      rintro r w5 ⟨rfl, hb5⟩
      go_wp2_with fail
      refine (CI.out _).mono ?_
      rintro r w6 ⟨rfl, hb6⟩
      go_wp2_with fail
      refine (CWi.out ng _).mono ?_
      rintro r w7 ⟨rfl, hb7⟩
      go_wp2
      go_ret2
      exact ⟨ret_ui (by rw [HB.out]; rfl) (by rw [HF.out]; rfl), (by repeat (first | exact bz0 _ _ | refine bz1 ?_ | refine bz2 ?_ _ | refine bz3 ?_ _ | refine bz4 ?_ hb7 | refine bz4 ?_ hb6 | refine bz4 ?_ hb5 | refine bz4 ?_ hb4 | refine bz4 ?_ hb3 | refine bz4 ?_ hb2 | refine bz4 ?_ hb1 | refine bz5 ?_ _ | refine bz6 ?_ _ | refine bz7 ?_ hb7 | refine bz7 ?_ hb6 | refine bz7 ?_ hb5 | refine bz7 ?_ hb4 | refine bz7 ?_ hb3 | refine bz7 ?_ hb2 | refine bz7 ?_ hb1))⟩
  | false =>
  cases i2 with
  | true =>
    cases z1 with
    | true =>
      go_enter Tryz.func155, Tryz.ntmps155
      go_wp2_with fail
      refine (CS1.out _).mono ?_
      rintro r w1 ⟨rfl, hb1⟩
      go_wp2_with fail
      refine (CS2.out _).mono ?_
      rintro r w2 ⟨rfl, hb2⟩
      go_wp2_with fail
      refine (CI1.out _).mono ?_
      rintro r w3 ⟨rfl, hb3⟩
      go_wp2_with fail
      refine (CI2.out _).mono ?_
      rintro r w4 ⟨rfl, hb4⟩
      go_wp2_with fail
      refine (CZ1.out _).mono ?_
      rintro r w5 ⟨rfl, hb5⟩
      go_wp2_with fail
      refine (CN.out _).mono ?_
      rintro r w6 ⟨rfl, hb6⟩
      go_wp2
      go_ret2
      exact ⟨ret_ui (by rw [HB.out]; rfl) (by rw [HF.out]; rfl), (by repeat (first | exact bz0 _ _ | refine bz1 ?_ | refine bz2 ?_ _ | refine bz3 ?_ _ | refine bz4 ?_ hb6 | refine bz4 ?_ hb5 | refine bz4 ?_ hb4 | refine bz4 ?_ hb3 | refine bz4 ?_ hb2 | refine bz4 ?_ hb1 | refine bz5 ?_ _ | refine bz6 ?_ _ | refine bz7 ?_ hb6 | refine bz7 ?_ hb5 | refine bz7 ?_ hb4 | refine bz7 ?_ hb3 | refine bz7 ?_ hb2 | refine bz7 ?_ hb1))⟩
    | false =>
    cases z2 with
    | true =>
      go_enter Tryz.func155, Tryz.ntmps155
      go_wp2_with fail
      refine (CS1.out _).mono ?_
      rintro r w1 ⟨rfl, hb1⟩
      go_wp2_with fail
      refine (CS2.out _).mono ?_
      rintro r w2 ⟨rfl, hb2⟩
      go_wp2_with fail
      refine (CI1.out _).mono ?_
      rintro r w3 ⟨rfl, hb3⟩
      go_wp2_with fail
      refine (CI2.out _).mono ?_
      rintro r w4 ⟨rfl, hb4⟩
      go_wp2_with fail
      refine (CZ1.out _).mono ?_
      rintro r w5 ⟨rfl, hb5⟩
      go_wp2_with fail
      refine (CZ2.out _).mono ?_
      rintro r w6 ⟨rfl, hb6⟩
      go_wp2_with fail
      refine (CN.out _).mono ?_
      rintro r w7 ⟨rfl, hb7⟩
      go_wp2
      go_ret2
      exact ⟨ret_ui (by rw [HB.out]; rfl) (by rw [HF.out]; rfl), (by repeat (first | exact bz0 _ _ | refine bz1 ?_ | refine bz2 ?_ _ | refine bz3 ?_ _ | refine bz4 ?_ hb7 | refine bz4 ?_ hb6 | refine bz4 ?_ hb5 | refine bz4 ?_ hb4 | refine bz4 ?_ hb3 | refine bz4 ?_ hb2 | refine bz4 ?_ hb1 | refine bz5 ?_ _ | refine bz6 ?_ _ | refine bz7 ?_ hb7 | refine bz7 ?_ hb6 | refine bz7 ?_ hb5 | refine bz7 ?_ hb4 | refine bz7 ?_ hb3 | refine bz7 ?_ hb2 | refine bz7 ?_ hb1))⟩
    | false =>
      go_enter Tryz.func155, Tryz.ntmps155
      go_wp2_with fail
      refine (CS1.out _).mono ?_
      rintro r w1 ⟨rfl, hb1⟩
      go_wp2_with fail
      refine (CS2.out _).mono ?_
      rintro r w2 ⟨rfl, hb2⟩
      go_wp2_with fail
      refine (CI1.out _).mono ?_
      rintro r w3 ⟨rfl, hb3⟩
      go_wp2_with fail
      refine (CI2.out _).mono ?_
      rintro r w4 ⟨rfl, hb4⟩
      go_wp2_with fail
      refine (CZ1.out _).mono ?_
      rintro r w5 ⟨rfl, hb5⟩
      go_wp2_with fail
      refine (CZ2.out _).mono ?_
      rintro r w6 ⟨rfl, hb6⟩
      go_wp2_with fail
      refine (CI.out _).mono ?_
      rintro r w7 ⟨rfl, hb7⟩
      go_wp2_with fail
      refine (CWi.out ng _).mono ?_
      rintro r w8 ⟨rfl, hb8⟩
      go_wp2
      go_ret2
      exact ⟨ret_ui (by rw [HB.out]; rfl) (by rw [HF.out]; rfl), (by repeat (first | exact bz0 _ _ | refine bz1 ?_ | refine bz2 ?_ _ | refine bz3 ?_ _ | refine bz4 ?_ hb8 | refine bz4 ?_ hb7 | refine bz4 ?_ hb6 | refine bz4 ?_ hb5 | refine bz4 ?_ hb4 | refine bz4 ?_ hb3 | refine bz4 ?_ hb2 | refine bz4 ?_ hb1 | refine bz5 ?_ _ | refine bz6 ?_ _ | refine bz7 ?_ hb8 | refine bz7 ?_ hb7 | refine bz7 ?_ hb6 | refine bz7 ?_ hb5 | refine bz7 ?_ hb4 | refine bz7 ?_ hb3 | refine bz7 ?_ hb2 | refine bz7 ?_ hb1))⟩
  | false =>
    cases z1 with
    | true =>
      go_enter Tryz.func155, Tryz.ntmps155
      go_wp2_with fail
      refine (CS1.out _).mono ?_
      rintro r w1 ⟨rfl, hb1⟩
      go_wp2_with fail
      refine (CS2.out _).mono ?_
      rintro r w2 ⟨rfl, hb2⟩
      go_wp2_with fail
      refine (CI1.out _).mono ?_
      rintro r w3 ⟨rfl, hb3⟩
      go_wp2_with fail
      refine (CI2.out _).mono ?_
      rintro r w4 ⟨rfl, hb4⟩
      go_wp2_with fail
      refine (CZ1.out _).mono ?_
      rintro r w5 ⟨rfl, hb5⟩
      go_wp2_with fail
      refine (CW0.out ng _).mono ?_
      rintro r w6 ⟨rfl, hb6⟩
      go_wp2
      go_ret2
      exact ⟨ret_ui (by rw [HB.out]; rfl) (by rw [HF.out]; rfl), (by repeat (first | exact bz0 _ _ | refine bz1 ?_ | refine bz2 ?_ _ | refine bz3 ?_ _ | refine bz4 ?_ hb6 | refine bz4 ?_ hb5 | refine bz4 ?_ hb4 | refine bz4 ?_ hb3 | refine bz4 ?_ hb2 | refine bz4 ?_ hb1 | refine bz5 ?_ _ | refine bz6 ?_ _ | refine bz7 ?_ hb6 | refine bz7 ?_ hb5 | refine bz7 ?_ hb4 | refine bz7 ?_ hb3 | refine bz7 ?_ hb2 | refine bz7 ?_ hb1))⟩
    | false =>
    cases z2 with
    | true =>
      go_enter Tryz.func155, Tryz.ntmps155
      go_wp2_with fail
      refine (CS1.out _).mono ?_
      rintro r w1 ⟨rfl, hb1⟩
      go_wp2_with fail
      refine (CS2.out _).mono ?_
      rintro r w2 ⟨rfl, hb2⟩
      go_wp2_with fail
      refine (CI1.out _).mono ?_
      rintro r w3 ⟨rfl, hb3⟩
      go_wp2_with fail
      refine (CI2.out _).mono ?_
      rintro r w4 ⟨rfl, hb4⟩
      go_wp2_with fail
      refine (CZ1.out _).mono ?_
      rintro r w5 ⟨rfl, hb5⟩
      go_wp2_with fail
      refine (CZ2.out _).mono ?_
      rintro r w6 ⟨rfl, hb6⟩
      go_wp2_with fail
      refine (CW0.out ng _).mono ?_
      rintro r w7 ⟨rfl, hb7⟩
      go_wp2
      go_ret2
      exact ⟨ret_ui (by rw [HB.out]; rfl) (by rw [HF.out]; rfl), (by repeat (first | exact bz0 _ _ | refine bz1 ?_ | refine bz2 ?_ _ | refine bz3 ?_ _ | refine bz4 ?_ hb7 | refine bz4 ?_ hb6 | refine bz4 ?_ hb5 | refine bz4 ?_ hb4 | refine bz4 ?_ hb3 | refine bz4 ?_ hb2 | refine bz4 ?_ hb1 | refine bz5 ?_ _ | refine bz6 ?_ _ | refine bz7 ?_ hb7 | refine bz7 ?_ hb6 | refine bz7 ?_ hb5 | refine bz7 ?_ hb4 | refine bz7 ?_ hb3 | refine bz7 ?_ hb2 | refine bz7 ?_ hb1))⟩
    | false =>
      go_enter Tryz.func155, Tryz.ntmps155
      go_wp2_with fail
      refine (CS1.out _).mono ?_
      rintro r w1 ⟨rfl, hb1⟩
      go_wp2_with fail
      refine (CS2.out _).mono ?_
      rintro r w2 ⟨rfl, hb2⟩
      go_wp2_with fail
      refine (CI1.out _).mono ?_
      rintro r w3 ⟨rfl, hb3⟩
      go_wp2_with fail
      refine (CI2.out _).mono ?_
      rintro r w4 ⟨rfl, hb4⟩
      go_wp2_with fail
      refine (CZ1.out _).mono ?_
      rintro r w5 ⟨rfl, hb5⟩
      go_wp2_with fail
      refine (CZ2.out _).mono ?_
      rintro r w6 ⟨rfl, hb6⟩
      have CE' := hid (CE.out (by simp) (by simp))
      have CR' := hid (CR.out (by simp) (by simp) (by simp) (by simp))
      go_wp2_with fail
      refine (CE'.out _).mono ?_
      rintro r w7 ⟨a', c', rfl, ho, hb7⟩
      obtain ⟨d0, d1⟩ := Box.new w7 (.bool G) (.slice a' L.length c') 31
      have hol := (ho.alloc (.cells #[.bool G, .slice a' L.length c'] 31)).sl
      go_wp2_with fail
      refine (CR'.out a' c' _ hol).mono ?_
      rintro r w8 ⟨rfl, hb8⟩
      go_wp2
      go_ret2
      exact ⟨ret_ui (by rw [HB.out]; rfl) (by rw [HF.out]; rfl), (by repeat (first | exact bz0 _ _ | refine bz1 ?_ | refine bz2 ?_ _ | refine bz3 ?_ _ | refine bz4 ?_ hb8 | refine bz4 ?_ hb7 | refine bz4 ?_ hb6 | refine bz4 ?_ hb5 | refine bz4 ?_ hb4 | refine bz4 ?_ hb3 | refine bz4 ?_ hb2 | refine bz4 ?_ hb1 | refine bz5 ?_ _ | refine bz6 ?_ _ | refine bz7 ?_ hb8 | refine bz7 ?_ hb7 | refine bz7 ?_ hb6 | refine bz7 ?_ hb5 | refine bz7 ?_ hb4 | refine bz7 ?_ hb3 | refine bz7 ?_ hb2 | refine bz7 ?_ hb1))⟩
def muB (fm mode x y : Int) : Int := if muO fm mode x y then (if nanB fm x || nanB fm y then nanOf fm else mB (nanOf fm) (infOf fm) (sgOf fm) (nI fm x || nI fm y) (zF fm x || zF fm y) (sigB fm x != sigB fm y) (RdB fm mode (Nm.wn (nZ fm x * nZ fm y)) (Nm.wl (nZ fm x * nZ fm y)) (nE fm x + nE fm y))) else 0
def muF (fm mode x y : Int) : Int := if muO fm mode x y then (if nanB fm x || nanB fm y then fl8 (nB fm x || nB fm y) else mF (nI fm x || nI fm y) (zF fm x || zF fm y) (RdF fm mode (Nm.wn (nZ fm x * nZ fm y)) (Nm.wl (nZ fm x * nZ fm y)) (nE fm x + nE fm y))) else 0
theorem mu_no {fm mode x y : Int} (h : muO fm mode x y = false) : muB fm mode x y = 0 ∧ muF fm mode x y = 0 := by unfold muB muF; rw [h]; exact ⟨rfl, rfl⟩
theorem mul_spec (fm mode x y : Int) (w : World) (x0 : 0 ≤ x) (x1 : x < 18446744073709551616) (y0 : 0 ≤ y) (y1 : y < 18446744073709551616) (B F : Int) (O : Bool) (hB : B = muB fm mode x y) (hF : F = muF fm mode x y) (hO : O = muO fm mode x y) :
    Calls Tryz.prog 80 #[.int .i64 fm, .int .i64 mode, .int .u64 x, .int .u64 y] w fun r w' => r = .returned (.tuple #[.int .u64 B, .int .i64 F, .bool O]) ∧ Below w.heap.size w w' := by
  have dx := d64_2 x0 x1 y0 y1
  have CF := hid (fun w' h => l4form fm mode (some ⟨w.heap.size, 0, none⟩) 2 [x, y] w' h (by simp))
  rw [all2_fmt] at CF
  have s2 := sl64_2 w x y 24
  cases ho : muO fm mode x y
  · obtain ⟨e1, e2⟩ := mu_no ho
    rw [e1] at hB; rw [e2] at hF; rw [ho] at hO
    subst hB hF hO
    have ho' : (modeB mode && allB fm [x, y]) = false := ho
    rw [ho'] at CF
    clear ho ho' e1 e2 dx
    go_enter Tryz.func80, Tryz.ntmps80
    go_wp2_with fail
    refine (CF.out _ s2).mono ?_
    rintro r w1 ⟨rfl, hb1⟩
    go_wp2
    go_ret3
    exact ⟨rfl, (by repeat (first | exact bz0 _ _ | refine bz1 ?_ | refine bz2 ?_ _ | refine bz3 ?_ _ | refine bz4 ?_ hb1 | refine bz5 ?_ _ | refine bz6 ?_ _ | refine bz7 ?_ hb1))⟩
  have ho' : (modeB mode && allB fm [x, y]) = true := ho
  rw [ho'] at CF
  obtain ⟨hm, ha⟩ : modeB mode = true ∧ allB fm [x, y] = true := by simpa using ho'
  obtain ⟨hx, hy⟩ := all2 ha
  have hfm := ok_fmt hx
  have CN := hid (fun a w' h => l4nan fm a 2 [x, y] w' h dx (by simp) hfm ha)
  have e1 : [x, y].any (nanB fm) = (nanB fm x || nanB fm y) := by simp
  have e2 : [x, y].any (nB fm) = (nB fm x || nB fm y) := by simp
  rw [e1, e2] at CN
  cases hn : (nanB fm x || nanB fm y)
  · obtain ⟨nx, ny⟩ : nanB fm x = false ∧ nanB fm y = false := by simpa using hn
    rw [hn] at CN
    have hB' : B = mB (nanOf fm) (infOf fm) (sgOf fm) (nI fm x || nI fm y) (zF fm x || zF fm y) (sigB fm x != sigB fm y) (RdB fm mode (Nm.wn (nZ fm x * nZ fm y)) (Nm.wl (nZ fm x * nZ fm y)) (nE fm x + nE fm y)) := by
      rw [hB]; unfold muB; rw [ho, if_pos rfl, hn]; rfl
    have hF' : F = mF (nI fm x || nI fm y) (zF fm x || zF fm y) (RdF fm mode (Nm.wn (nZ fm x * nZ fm y)) (Nm.wl (nZ fm x * nZ fm y)) (nE fm x + nE fm y)) := by
      rw [hF]; unfold muF; rw [ho, if_pos rfl, hn]; rfl
    have CM := hid (fun w' => l4mul fm mode x y w' hx hy x0 x1 y0 y1 hm nx ny B F hB' hF')
    rw [ho] at hO
    subst hO
    obtain ⟨q1, hq1⟩ : ∃ i, i = nanOf fm := ⟨_, rfl⟩
    obtain ⟨q2, hq2⟩ : ∃ i : Int, i = fl8 (nB fm x || nB fm y) := ⟨_, rfl⟩
    rw [← hq1, ← hq2] at CN
    clear hB hF hB' hF' hn nx ny ho ho' dx e1 e2 hq1 hq2 hm ha hx hy hfm
    go_enter Tryz.func80, Tryz.ntmps80
    go_wp2_with fail
    refine (CF.out _ s2).mono ?_
    rintro r w1 ⟨rfl, hb1⟩
    go_wp2_with fail
    refine (CN.out _ _ (sl64_2 w1 x y 24)).mono ?_
    rintro r w2 ⟨rfl, hb2⟩
    go_wp2_with fail
    refine (CM.out _).mono ?_
    rintro r w3 ⟨rfl, hb3⟩
    go_wp2
    go_ret3
    exact ⟨rfl, (by repeat (first | exact bz0 _ _ | refine bz1 ?_ | refine bz2 ?_ _ | refine bz3 ?_ _ | refine bz4 ?_ hb3 | refine bz4 ?_ hb2 | refine bz4 ?_ hb1 | refine bz5 ?_ _ | refine bz6 ?_ _ | refine bz7 ?_ hb3 | refine bz7 ?_ hb2 | refine bz7 ?_ hb1))⟩
  · rw [hn] at CN
    have hB' : B = nanOf fm := by rw [hB]; unfold muB; rw [ho, if_pos rfl, hn]; rfl
    have hF' : F = fl8 (nB fm x || nB fm y) := by rw [hF]; unfold muF; rw [ho, if_pos rfl, hn]; rfl
    rw [← hB', ← hF'] at CN
    rw [ho] at hO
    subst hO
    clear hB hF hB' hF' hn ho ho' dx e1 e2 hm ha hx hy hfm
    go_enter Tryz.func80, Tryz.ntmps80
    go_wp2_with fail
    refine (CF.out _ s2).mono ?_
    rintro r w1 ⟨rfl, hb1⟩
    go_wp2_with fail
    refine (CN.out _ _ (sl64_2 w1 x y 24)).mono ?_
    rintro r w2 ⟨rfl, hb2⟩
    go_wp2
    go_ret3
    exact ⟨rfl, (by repeat (first | exact bz0 _ _ | refine bz1 ?_ | refine bz2 ?_ _ | refine bz3 ?_ _ | refine bz4 ?_ hb2 | refine bz4 ?_ hb1 | refine bz5 ?_ _ | refine bz6 ?_ _ | refine bz7 ?_ hb2 | refine bz7 ?_ hb1))⟩
end Go.Proofs.YtmcflggionkhlaaGreatDoor
