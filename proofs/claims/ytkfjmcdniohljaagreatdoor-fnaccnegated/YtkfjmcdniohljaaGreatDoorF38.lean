/-
  What is needed of AccI, FS, FM.
-/
import Derived.Test.YtkfjmcdniohljaaGreatDoorF34
import Derived.Test.YtkfjmcdniohljaaGreatDoorF35
set_option maxHeartbeats 16000000
set_option maxRecDepth 1000000
namespace Go.Proofs.YtkfjmcdniohljaaGreatDoor
set_option linter.unusedVariables false
set_option linter.unusedSimpArgs false
open Go.RowKit Go.Deep
theorem acc_ok {fm : Int} {ng : Bool} {zs : List Int} {T : Int} {nn bd pl mi am : Bool} (h : accB fm ng zs T nn bd pl mi am = true) : okB ng zs = true := by
 cases ho : okB ng zs
 ·rw [acc_no ho] at h; exact h
 ·rfl
theorem acc_fm {fm : Int} {ng : Bool} {zs : List Int} {T : Int} {nn bd pl mi am : Bool} (h : accB fm ng zs T nn bd pl mi am = true) : fm = 32 ∨ fm = 64 := by
 cases hf : fmtB fm
 ·rw [acc_nf hf] at h; cases h
 ·exact fmt_cases hf
theorem infS32 (w : World) :
  Calls Tryz.prog 165 #[.int .i64 32] w fun e w' => e = .returned (.int .u64 2139095040) ∧ Below w.heap.size w w' := by
 go_enter Tryz.func165, Tryz.ntmps165
 go_wp2
 go_ret
 exact ⟨rfl, (by repeat (first | exact bz0 _ _ | refine bz1 ?_ | refine bz2 ?_ _ | refine bz3 ?_ _ | refine bz5 ?_ _ | refine bz6 ?_ _))⟩
theorem infS64 (w : World) :
  Calls Tryz.prog 165 #[.int .i64 64] w fun e w' => e = .returned (.int .u64 9218868437227405312) ∧ Below w.heap.size w w' := by
 go_enter Tryz.func165, Tryz.ntmps165
 go_wp2
 go_ret
 exact ⟨rfl, (by repeat (first | exact bz0 _ _ | refine bz1 ?_ | refine bz2 ?_ _ | refine bz3 ?_ _ | refine bz5 ?_ _ | refine bz6 ?_ _))⟩
theorem cls_inf {fm x : Int} (hx : okF fm x = true) (x0 : 0 ≤ x) : (absF fm x == infOf fm) = (cls fm x == 3) := by
 rw [Bool.eq_iff_iff, beq_iff_eq, beq_iff_eq]
 rcases okF_cases hx with ⟨rfl, hx'⟩ | rfl
 ·rw [abs32 hx', cls32 hx']
  unfold infOf clsY
  rw [if_pos rfl]
  have := Int.emod_nonneg x (show (2147483648 : Int) ≠ 0 by decide)
  repeat (first | omega | split)
 ·rw [abs64, cls64]
  unfold infOf clsY
  rw [if_neg (by decide)]
  have := Int.emod_nonneg x (show (9223372036854775808 : Int) ≠ 0 by decide)
  repeat (first | omega | split)
theorem inf_s (fm : Int) (w : World) (h : fmtB fm = true) : Calls Tryz.prog 165 #[.int .i64 fm] w fun e w' => e = .returned (.int .u64 (infOf fm)) ∧ Below w.heap.size w w' := by
 rcases fmt_cases h with rfl | rfl
 ·exact infS32 w
 ·exact infS64 w
theorem ok_fmt {fm x : Int} (h : okF fm x = true) : fmtB fm = true := by
 rcases okF_cases h with ⟨rfl, _⟩ | rfl <;> rfl
theorem inf4 (fm x : Int) (w : World) (h : okF fm x = true) (h0 : 0 ≤ x) (h1 : x < 18446744073709551616) (i : Bool) (hi : i = nI fm x) :
  Calls Tryz.prog 78 #[.int .i64 fm, .int .u64 x] w fun e w' => e = .returned (.bool i) ∧ Below w.heap.size w w' := by
 have C := hid (fun w' => spec_l2abs fm x w' h h0 h1)
 have CI := hid (fun w' => inf_s fm w' (ok_fmt h))
 have e := cls_inf h h0
 have hi' : i = (cls fm x == 3) := hi
 rw [← e] at hi'
 obtain ⟨a, ha⟩ : ∃ a, a = absF fm x := ⟨_, rfl⟩
 obtain ⟨b, hb⟩ : ∃ b, b = infOf fm := ⟨_, rfl⟩
 rw [← ha] at C hi'
 rw [← hb] at CI hi'
 subst hi'
 clear ha hb e hi
 go_enter Tryz.func78, Tryz.ntmps78
 go_wp2_with fail
 refine (C.out _).mono ?_
 rintro r w1 ⟨rfl, hb1⟩
 go_wp2_with fail
 refine (CI.out _).mono ?_
 rintro r w2 ⟨rfl, hb2⟩
 go_wp2
 go_ret
 exact ⟨rfl, (by repeat (first | exact bz0 _ _ | refine bz1 ?_ | refine bz2 ?_ _ | refine bz3 ?_ _ | refine bz4 ?_ hb2 | refine bz4 ?_ hb1 | refine bz5 ?_ _ | refine bz6 ?_ _ | refine bz7 ?_ hb2 | refine bz7 ?_ hb1))⟩
theorem zer4 (fm x : Int) (w : World) (h : okF fm x = true) (h0 : 0 ≤ x) (h1 : x < 18446744073709551616) (z : Bool) (hz : z = (absF fm x == 0)) :
  Calls Tryz.prog 135 #[.int .i64 fm, .int .u64 x] w fun e w' => e = .returned (.bool z) ∧ Below w.heap.size w w' := by
 have C := hid (fun w' => spec_l2abs fm x w' h h0 h1)
 obtain ⟨a, ha⟩ : ∃ a, a = absF fm x := ⟨_, rfl⟩
 rw [← ha] at C hz
 subst hz
 clear ha
 go_enter Tryz.func135, Tryz.ntmps135
 go_wp2_with fail
 refine (C.out _).mono ?_
 rintro r w1 ⟨rfl, hb1⟩
 go_wp2
 go_ret
 exact ⟨rfl, (by repeat (first | exact bz0 _ _ | refine bz1 ?_ | refine bz2 ?_ _ | refine bz3 ?_ _ | refine bz4 ?_ hb1 | refine bz5 ?_ _ | refine bz6 ?_ _ | refine bz7 ?_ hb1))⟩
def zF (fm x : Int) : Bool := absF fm x == 0
theorem zF_inf {fm x : Int} (hx : okF fm x = true) (h : nI fm x = true) : zF fm x = false := by
 have h3 : cls fm x = 3 := by simpa [nI] using h
 unfold zF; rw [← cls_zero hx, h3]; rfl
theorem nan_cases {fm x : Int} (hx : okF fm x = true) (h : nanB fm x = false) : finB fm x = true ∨ nI fm x = true := by
 rcases cls_sixE hx with hf | h3 | h4 | h5
 ·exact .inl hf
 ·exact .inr (by unfold nI; rw [h3]; rfl)
 ·rw [nan_ofE hx, h4] at h; simp at h
 ·rw [nan_ofE hx, h5] at h; simp at h
theorem nZ_bd (fm x : Int) : (nZ fm x).natAbs < 9007199254740992 ∧ -1074 ≤ nE fm x ∧ nE fm x ≤ 2000 := by
 have h1 := pM_bd fm x
 have h2 := pE_bd fm x
 unfold nZ nE
 cases finB fm x
 ·simp
 ·simp; refine ⟨?_, h2⟩; cases pS fm x <;> simp <;> omega
theorem wl_of {z : Int} {k : Nat} (h : z.natAbs < 2 ^ k) (hk : k ≤ 6400) : (Nm.wl z).length ≤ 200 := by
 unfold Nm.wl; exact lim_len (k := 200) (by have := (Nm.bl_le_iff z.natAbs k).2 h; omega)
theorem nZ_len (fm x : Int) : (Nm.wl (nZ fm x)).length ≤ 200 := wl_of (k := 53) (by have := (nZ_bd fm x).1; omega) (by decide)
theorem nZm_bd (fm x y : Int) : (nZ fm x * nZ fm y).natAbs < 2 ^ 106 := by
 have h1 := (nZ_bd fm x).1
 have h2 := (nZ_bd fm y).1
 rw [Int.natAbs_mul]
 have : (nZ fm x).natAbs * (nZ fm y).natAbs ≤ 9007199254740991 * 9007199254740991 := Nat.mul_le_mul (by omega) (by omega)
 omega
theorem nZm_len (fm x y : Int) : (Nm.wl (nZ fm x * nZ fm y)).length ≤ 200 := wl_of (nZm_bd fm x y) (by decide)
theorem rdo_any {fm mode : Int} {z e : Int} (hf : fmtB fm = true) (hm : modeB mode = true) (hl : (Nm.wl z).length ≤ 200) (h0 : -10000 ≤ e) (h1 : e ≤ 10000) : RdO fm mode (Nm.wn z) (Nm.wl z) e = true := by
 unfold RdO inZ; rw [hf, hm, okB_wl hl, decide_eq_true h0, decide_eq_true h1]; rfl
theorem exact4 (fm x y : Int) (w : World) (hx : finB fm x = true) (hy : finB fm y = true) (x0 : 0 ≤ x) (x1 : x < 18446744073709551616) (y0 : 0 ≤ y) (y1 : y < 18446744073709551616) (hox : okF fm x = true) (hoy : okF fm y = true) (G : Bool) (L : List Int) (E : Int) (hG : G = Nm.wn (nZ fm x * nZ fm y)) (hL : L = Nm.wl (nZ fm x * nZ fm y)) (hE : E = nE fm x + nE fm y) :
  Calls Tryz.prog 151 #[.int .i64 fm, .int .u64 x, .int .u64 y] w fun r w' => ∃ a' c', r = .returned (.tuple #[.agg #[.bool G, .slice a' L.length c'], .int .i64 E]) ∧ Own w' w.heap.size a' c' L ∧ Below w.heap.size w w' := by
 have C1 := hid (fun w' => sparts_any fm x w' hx x0 x1)
 have C2 := hid (fun w' => sparts_any fm y w' hy y0 y1)
 obtain ⟨fx1, fx2, fx3, fx4, -, -⟩ := fin_facts hox hx
 obtain ⟨fy1, fy2, fy3, fy4, -, -⟩ := fin_facts hoy hy
 have bx := pM_bd fm x
 have by' := pM_bd fm y
 have ex := pE_bd fm x
 have ey := pE_bd fm y
 have U1 := hid (fun w' => l1uint_z (pM fm x) (pS fm x) w' bx.1 (by omega))
 have U2 := hid (fun w' => l1uint_z (pM fm y) (pS fm y) w' by'.1 (by omega))
 rw [← fx3] at U1
 rw [← fy3] at U2
 have CM := hid (fun a c b d w' h h' => l1mul_any (Nm.wn (nZ fm x)) (Nm.wn (nZ fm y)) a b c d (Nm.wl (nZ fm x)) (Nm.wl (nZ fm y)) w' h h' (Nm.wl_dg _) (Nm.wl_dg _) (Nm.wl_nz _) (Nm.wl_nz _) (by have := nZ_len fm x; omega) (by have := nZ_len fm y; omega) (nZ fm x * nZ fm y) (by rw [Nm.wv_out, Nm.wv_out]))
 rw [fx4, fy4] at hE
 simp only [← hG, ← hL] at CM
 obtain ⟨s1, hs1⟩ : ∃ s, s = pS fm x := ⟨_, rfl⟩
 obtain ⟨s2, hs2⟩ : ∃ s, s = pS fm y := ⟨_, rfl⟩
 obtain ⟨m1, hm1⟩ : ∃ s, s = pM fm x := ⟨_, rfl⟩
 obtain ⟨m2, hm2⟩ : ∃ s, s = pM fm y := ⟨_, rfl⟩
 obtain ⟨e1, he1⟩ : ∃ s, s = pE fm x := ⟨_, rfl⟩
 obtain ⟨e2, he2⟩ : ∃ s, s = pE fm y := ⟨_, rfl⟩
 obtain ⟨G1, hG1⟩ : ∃ s, s = Nm.wn (nZ fm x) := ⟨_, rfl⟩
 obtain ⟨G2, hG2⟩ : ∃ s, s = Nm.wn (nZ fm y) := ⟨_, rfl⟩
 obtain ⟨L1, hL1⟩ : ∃ s, s = Nm.wl (nZ fm x) := ⟨_, rfl⟩
 obtain ⟨L2, hL2⟩ : ∃ s, s = Nm.wl (nZ fm y) := ⟨_, rfl⟩
 rw [← hs1, ← hm1, ← he1] at C1
 rw [← hs2, ← hm2, ← he2] at C2
 rw [← hs1, ← hm1, ← hG1, ← hL1] at U1
 rw [← hs2, ← hm2, ← hG2, ← hL2] at U2
 simp only [← hG1, ← hL1, ← hG2, ← hL2] at CM
 rw [← he1, ← he2] at hE
 rw [← hm1] at bx
 rw [← hm2] at by'
 rw [← he1] at ex
 rw [← he2] at ey
 have hwE : IntKind.i64.wrap (e1 + e2) = E := by rw [hE, IntKind.wrap_i64]; omega
 have hw1 : IntKind.u64.wrap m1 = m1 := by rw [IntKind.wrap_u64]; omega
 have hw2 : IntKind.u64.wrap m2 = m2 := by rw [IntKind.wrap_u64]; omega
 clear hs1 hs2 hm1 hm2 he1 he2 hG1 hG2 hL1 hL2 hE fx1 fx2 fx3 fx4 fy1 fy2 fy3 fy4 hG hL hx hy hox hoy bx by' ex ey
 have R := R2.new w (.bool false) (.slice none 0 0) 32
 go_enter Tryz.func151, Tryz.ntmps151
 go_wp2_with fail
 refine (C1.out _).mono ?_
 rintro r w1 ⟨rfl, hb1⟩
 replace R := (R.below hb1).alloc (.cells #[.bool s1, .int .i64 m1, .int .i64 e1] 89)
 have P := R3.new w1 (.bool s1) (.int .i64 m1) (.int .i64 e1) 89
 have bel1 : Below w.heap.size w (w1.alloc (.cells #[.bool s1, .int .i64 m1, .int .i64 e1] 89)) := (by repeat (first | exact bz0 _ _ | refine bz1 ?_ | refine bz2 ?_ _ | refine bz3 ?_ _ | refine bz4 ?_ hb1 | refine bz5 ?_ _ | refine bz6 ?_ _ | refine bz7 ?_ hb1))
 have lw1 : w.heap.size < w1.heap.size := by have := hb1.size; simp at this; omega
 go_wp2_with fail
 refine (C2.out _).mono ?_
 rintro r w2 ⟨rfl, hb2⟩
 replace R := (R.below hb2).alloc (.cells #[.bool s2, .int .i64 m2, .int .i64 e2] 89)
 replace P := (P.below hb2).al (.cells #[.bool s2, .int .i64 m2, .int .i64 e2] 89)
 have Q := R3.new w2 (.bool s2) (.int .i64 m2) (.int .i64 e2) 89
 have bel2w := bel_go bel1 hb2
 have bel2 := bel_al (bel_go bel1 hb2) (.cells #[.bool s2, .int .i64 m2, .int .i64 e2] 89)
 have lw2 : w1.heap.size < w2.heap.size := by have := hb2.size; simp at this; omega
 clear hb1 hb2 bel1
 have Pd := P.dr
 have Qd := Q.dr
 have pd := And.intro (And.intro Pd.c0 (And.intro Pd.c1 Pd.c2)) (And.intro Qd.c0 (And.intro Qd.c1 Qd.c2))
 go_wp2_with fail
 go_region_held3 (fun w' => (w'.cell? ⟨w1.heap.size, 0, none⟩ = some (.bool s1) ∧ w'.cell? ⟨w1.heap.size, 1, none⟩ = some (.int .i64 m1) ∧ w'.cell? ⟨w1.heap.size, 2, none⟩ = some (.int .i64 e1)) ∧ (w'.cell? ⟨w2.heap.size, 0, none⟩ = some (.bool s2) ∧ w'.cell? ⟨w2.heap.size, 1, none⟩ = some (.int .i64 m2) ∧ w'.cell? ⟨w2.heap.size, 2, none⟩ = some (.int .i64 e2)))
  (first | with_reducible assumption | with_reducible exact pd | with_reducible exact ss3 _ _ | fail)
  (first
   | (go_at_call 79; with_reducible refine (U1.out _).mono ?_; rintro r q1 ⟨a1, k1, rfl, hp1, hq1⟩; have P1 := Pd.below hq1; have Q1 := Qd.below hq1; have R1 := R.drew.below hq1; have u1 := And.intro (And.intro P1.c0 (And.intro P1.c1 P1.c2)) (And.intro Q1.c0 (And.intro Q1.c1 Q1.c2)))
   | (go_at_call 79; with_reducible refine (U2.out _).mono ?_; rintro r q2 ⟨a2, k2, rfl, hp2, hq2⟩; have P2 := P1.below hq2; have Q2 := Q1.below hq2; have R2' := R1.below hq2; have u2 := And.intro (And.intro P2.c0 (And.intro P2.c1 P2.c2)) (And.intro Q2.c0 (And.intro Q2.c1 Q2.c2)); have hp12 := hp1.below hq2)
   | (go_at_call 208; refine (CM.out a1 k1 a2 k2 _ hp12.sl hp2.sl).mono ?_; rintro r q3 ⟨a3, k3, rfl, hp3, hq3⟩; have P3 := P2.below hq3; have Q3 := Q2.below hq3; have u3 := And.intro (And.intro P3.c0 (And.intro P3.c1 P3.c2)) (And.intro Q3.c0 (And.intro Q3.c1 Q3.c2)); have ss3 := fun u v => And.intro (let P4 := (R3.other P3 (p := ⟨w.heap.size, 0, none⟩) (by simp; omega) u).other (p := ⟨w.heap.size, 1, none⟩) (by simp; omega) v; And.intro P4.c0 (And.intro P4.c1 P4.c2)) (let Q4 := (R3.other Q3 (p := ⟨w.heap.size, 0, none⟩) (by simp; omega) u).other (p := ⟨w.heap.size, 1, none⟩) (by simp; omega) v; And.intro Q4.c0 (And.intro Q4.c1 Q4.c2)); obtain ⟨r0, r1, g0, g1⟩ := R2'.below hq3))
 have z1 := hq1.size
 have z2 := hq2.size
 have z0 : w2.heap.size + 1 ≤ q1.heap.size := by simpa using z1
 go_wp2
 refine bodyPost_ret (v := .tuple #[.agg #[.bool G, .slice a3 L.length k3], .int .i64 E]) (by simp [results, Tryz.results151, go_sem, r0, r1]) rfl ⟨a3, k3, rfl, ?_, ?_⟩
 ·exact Own.base ((hp3.setBelow (by simp; omega) _).setBelow (by simp; omega) _) (by omega)
 ·exact (by (repeat with_reducible first | refine Below.setCell ?_ ?_ _ | exact bz0 _ _ | refine bz1 ?_ | refine bz2 ?_ _ | refine bz3 ?_ _ | refine bz4 ?_ hq3 | refine bz4 ?_ hq2 | refine bz4 ?_ hq1 | refine bz4 ?_ bel2w | refine Below.alloc ?_ ?_ _ | refine Below.trans ?_ (Below.mono hq3 ?_) | refine Below.trans ?_ (Below.mono hq2 ?_) | refine Below.trans ?_ (Below.mono hq1 ?_) | refine Below.trans ?_ (Below.mono bel2w ?_)) <;> first | omega | (simp; done) | (simp; omega))
end Go.Proofs.YtkfjmcdniohljaaGreatDoor
