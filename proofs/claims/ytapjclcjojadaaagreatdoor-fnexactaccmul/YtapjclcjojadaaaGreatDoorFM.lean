/-
  Products of floats: by the specification.
-/
import Derived.Test.YtapjclcjojadaaaGreatDoorFS
import Derived.Test.YtapjclcjojadaaaGreatDoorNT
namespace Go.Proofs.YtapjclcjojadaaaGreatDoor
set_option linter.unusedVariables false
set_option linter.unusedSimpArgs false
open Go.RowKit Go.Deep
theorem sl64_1 (w : World) (x : Int) (t : TypeId) : Sl .u64 (w.alloc (.cells #[.int .u64 x] t)) (.slice (some ⟨w.heap.size, 0, none⟩) [x].length 1) [x] :=
  ⟨_, 1, rfl, Nat.le_refl _, by unfold maxLen; omega, .inr ⟨w.heap.size, 0, rfl, fun i hi => by
    have : i = 0 := by simpa using hi
    subst this; simp⟩⟩
theorem sl64_2 (w : World) (x y : Int) (t : TypeId) : Sl .u64 (w.alloc (.cells #[.int .u64 x, .int .u64 y] t)) (.slice (some ⟨w.heap.size, 0, none⟩) [x, y].length 2) [x, y] :=
  ⟨_, 2, rfl, Nat.le_refl _, by unfold maxLen; simp, .inr ⟨w.heap.size, 0, rfl, fun i hi => by
    have h2 : i < 2 := by simpa using hi
    match i, h2 with
    | 0, _ => simp
    | 1, _ => simp⟩⟩
theorem sl64_3 (w : World) (x y z : Int) (t : TypeId) : Sl .u64 (w.alloc (.cells #[.int .u64 x, .int .u64 y, .int .u64 z] t)) (.slice (some ⟨w.heap.size, 0, none⟩) [x, y, z].length 3) [x, y, z] :=
  ⟨_, 3, rfl, Nat.le_refl _, by unfold maxLen; simp, .inr ⟨w.heap.size, 0, rfl, fun i hi => by
    have h2 : i < 3 := by simpa using hi
    match i, h2 with
    | 0, _ => simp
    | 1, _ => simp
    | 2, _ => simp⟩⟩
theorem d64_1 {x : Int} (x0 : 0 ≤ x) (x1 : x < 18446744073709551616) : D64 [x] := fun z hz => by
  simp only [List.mem_cons, List.not_mem_nil, or_false] at hz; subst hz; exact ⟨x0, x1⟩
theorem d64_2 {x y : Int} (x0 : 0 ≤ x) (x1 : x < 18446744073709551616) (y0 : 0 ≤ y) (y1 : y < 18446744073709551616) : D64 [x, y] := fun z hz => by
  simp only [List.mem_cons, List.not_mem_nil, or_false] at hz; rcases hz with rfl | rfl
  · exact ⟨x0, x1⟩
  · exact ⟨y0, y1⟩
/-- A product, of what are no NaNs: i: one is infinity; z: one is zero. -/
def mB (nan inf sg : Int) (i z neg : Bool) (rb : Int) : Int := if i && z then nan else if i then sgn sg inf neg else if z then sgn sg 0 neg else rb
def mF (i z : Bool) (rf : Int) : Int := if i && z then 8 else if i || z then 0 else rf
def zF (fm x : Int) : Bool := absF fm x == 0
theorem zF_fin {fm x : Int} (hx : okF fm x = true) (hf : finB fm x = true) : zF fm x = decide (nZ fm x = 0) := by
  have hM := pM_bd fm x
  have e : (nZ fm x = 0) ↔ pM fm x = 0 := by
    rw [(fin_facts hx hf).2.2.1]; cases pS fm x <;> simp
  have h := cls_zero hx
  show (absF fm x == 0) = _
  rw [← h, Bool.eq_iff_iff, beq_iff_eq, decide_eq_true_eq, e]
  constructor
  · intro h
    have ha : (absF fm x == 0) = true := by rw [← cls_zero hx, h]; rfl
    have ha' : absF fm x = 0 := by simpa using ha
    unfold pM; rw [hf, if_pos rfl]
    rcases okF_cases hx with ⟨rfl, hx'⟩ | rfl
    · rw [abs32 hx'] at ha'
      rw [if_pos rfl, ha']; rfl
    · rw [abs64] at ha'
      rw [if_neg (by decide), ha']; rfl
  · intro h
    have hc : 0 ≤ cls fm x ∧ cls fm x ≤ 2 := by simpa [finB] using hf
    by_cases h12 : cls fm x = 1 ∨ cls fm x = 2
    · have := (pM_pos h12).2; omega
    · omega
theorem zF_inf {fm x : Int} (hx : okF fm x = true) (h : nI fm x = true) : zF fm x = false := by
  have h3 : cls fm x = 3 := by simpa [nI] using h
  unfold zF; rw [← cls_zero hx, h3]; rfl
theorem nan_cases {fm x : Int} (hx : okF fm x = true) (h : nanB fm x = false) : finB fm x = true ∨ nI fm x = true := by
  rcases cls_sixE hx with hf | h3 | h4 | h5
  · exact .inl hf
  · exact .inr (by unfold nI; rw [h3]; rfl)
  · rw [nan_ofE hx, h4] at h; simp at h
  · rw [nan_ofE hx, h5] at h; simp at h
theorem nZ_bd (fm x : Int) : (nZ fm x).natAbs < 9007199254740992 ∧ -1074 ≤ nE fm x ∧ nE fm x ≤ 2000 := by
  have h1 := pM_bd fm x
  have h2 := pE_bd fm x
  unfold nZ nE
  cases finB fm x
  · simp
  · simp; refine ⟨?_, h2⟩; cases pS fm x <;> simp <;> omega
theorem wl_of {z : Int} {k : Nat} (h : z.natAbs < 2 ^ k) (hk : k ≤ 6400) : (Nm.wl z).length ≤ 200 := by
  unfold Nm.wl; exact lim_len (k := 200) (by have := (Nm.bl_le_iff z.natAbs k).2 h; omega)
theorem nZ_len (fm x : Int) : (Nm.wl (nZ fm x)).length ≤ 200 := wl_of (k := 53) (by have := (nZ_bd fm x).1; omega) (by decide)
theorem nZm_bd (fm x y : Int) : (nZ fm x * nZ fm y).natAbs < 2 ^ 106 := by
  have h1 := (nZ_bd fm x).1
  have h2 := (nZ_bd fm y).1
  rw [Int.natAbs_mul]
  have : (nZ fm x).natAbs * (nZ fm y).natAbs ≤ 9007199254740991 * 9007199254740991 := Nat.mul_le_mul (by omega) (by omega)
  omega
theorem nZm_len (fm x y : Int) : (Nm.wl (nZ fm x * nZ fm y)).length ≤ 200 := wl_of (nZm_bd fm x y) (by decide)
theorem rdo_any {fm mode : Int} {z e : Int} (hf : fmtB fm = true) (hm : modeB mode = true) (hl : (Nm.wl z).length ≤ 200) (h0 : -10000 ≤ e) (h1 : e ≤ 10000) : RdO fm mode (Nm.wn z) (Nm.wl z) e = true := by
  unfold RdO inZ; rw [hf, hm, okB_wl hl, decide_eq_true h0, decide_eq_true h1]; rfl
theorem l3r_any (fm mode : Int) (z e : Int) (p : Option Addr) (cap : Nat) (w : World) (hs : Sl .u32 w (.slice p (Nm.wl z).length cap) (Nm.wl z)) (hz : z ≠ 0) (ho : RdO fm mode (Nm.wn z) (Nm.wl z) e = true) :
    Calls Tryz.prog 94 #[.int .i64 fm, .int .i64 mode, .agg #[.bool (Nm.wn z), .slice p (Nm.wl z).length cap], .int .i64 e] w fun x w' => x = .returned (.tuple #[.int .u64 (RdB fm mode (Nm.wn z) (Nm.wl z) e), .int .i64 (RdF fm mode (Nm.wn z) (Nm.wl z) e)]) ∧ Below w.heap.size w w' := by
  have h0 : (Nm.wl z).length ≠ 0 := by unfold Nm.wl; rw [Ne, Nm.lim_length_zero]; omega
  have hf : fmtB fm = true := by unfold RdO at ho; simp only [Bool.and_eq_true] at ho; exact ho.1.1.1
  rcases fmt_cases hf with rfl | rfl
  · exact l3r_at32 mode (Nm.wn z) (Nm.wl z) e p cap w hs (Nm.wl_dg _) h0 ho
  · exact l3r_at64 mode (Nm.wn z) (Nm.wl z) e p cap w hs (Nm.wl_dg _) h0 ho
set_option maxHeartbeats 8000000 in
set_option maxRecDepth 100000 in
theorem exact4 (fm x y : Int) (w : World) (hx : finB fm x = true) (hy : finB fm y = true) (x0 : 0 ≤ x) (x1 : x < 18446744073709551616) (y0 : 0 ≤ y) (y1 : y < 18446744073709551616) (hox : okF fm x = true) (hoy : okF fm y = true) (G : Bool) (L : List Int) (E : Int) (hG : G = Nm.wn (nZ fm x * nZ fm y)) (hL : L = Nm.wl (nZ fm x * nZ fm y)) (hE : E = nE fm x + nE fm y) :
    Calls Tryz.prog 58 #[.int .i64 fm, .int .u64 x, .int .u64 y] w fun r w' => ∃ a' c', r = .returned (.tuple #[.agg #[.bool G, .slice a' L.length c'], .int .i64 E]) ∧ Own w' w.heap.size a' c' L ∧ Below w.heap.size w w' := by
  have C1 := hid (fun w' => sparts_any fm x w' hx x0 x1)
  have C2 := hid (fun w' => sparts_any fm y w' hy y0 y1)
  obtain ⟨fx1, fx2, fx3, fx4, -, -⟩ := fin_facts hox hx
  obtain ⟨fy1, fy2, fy3, fy4, -, -⟩ := fin_facts hoy hy
  have bx := pM_bd fm x
  have by' := pM_bd fm y
  have ex := pE_bd fm x
  have ey := pE_bd fm y
  have U1 := hid (fun w' => l1uint_z (pM fm x) (pS fm x) w' bx.1 (by omega))
  have U2 := hid (fun w' => l1uint_z (pM fm y) (pS fm y) w' by'.1 (by omega))
  rw [← fx3] at U1
  rw [← fy3] at U2
  have CM := hid (fun a c b d w' h h' => l1mul_any (Nm.wn (nZ fm x)) (Nm.wn (nZ fm y)) a b c d (Nm.wl (nZ fm x)) (Nm.wl (nZ fm y)) w' h h' (Nm.wl_dg _) (Nm.wl_dg _) (Nm.wl_nz _) (Nm.wl_nz _) (by have := nZ_len fm x; omega) (by have := nZ_len fm y; omega) (nZ fm x * nZ fm y) (by rw [Nm.wv_out, Nm.wv_out]))
  rw [fx4, fy4] at hE
  simp only [← hG, ← hL] at CM
  obtain ⟨s1, hs1⟩ : ∃ s, s = pS fm x := ⟨_, rfl⟩
  obtain ⟨s2, hs2⟩ : ∃ s, s = pS fm y := ⟨_, rfl⟩
  obtain ⟨m1, hm1⟩ : ∃ s, s = pM fm x := ⟨_, rfl⟩
  obtain ⟨m2, hm2⟩ : ∃ s, s = pM fm y := ⟨_, rfl⟩
  obtain ⟨e1, he1⟩ : ∃ s, s = pE fm x := ⟨_, rfl⟩
  obtain ⟨e2, he2⟩ : ∃ s, s = pE fm y := ⟨_, rfl⟩
  obtain ⟨G1, hG1⟩ : ∃ s, s = Nm.wn (nZ fm x) := ⟨_, rfl⟩
  obtain ⟨G2, hG2⟩ : ∃ s, s = Nm.wn (nZ fm y) := ⟨_, rfl⟩
  obtain ⟨L1, hL1⟩ : ∃ s, s = Nm.wl (nZ fm x) := ⟨_, rfl⟩
  obtain ⟨L2, hL2⟩ : ∃ s, s = Nm.wl (nZ fm y) := ⟨_, rfl⟩
  rw [← hs1, ← hm1, ← he1] at C1
  rw [← hs2, ← hm2, ← he2] at C2
  rw [← hs1, ← hm1, ← hG1, ← hL1] at U1
  rw [← hs2, ← hm2, ← hG2, ← hL2] at U2
  simp only [← hG1, ← hL1, ← hG2, ← hL2] at CM
  rw [← he1, ← he2] at hE
  rw [← hm1] at bx
  rw [← hm2] at by'
  rw [← he1] at ex
  rw [← he2] at ey
  have hwE : IntKind.i64.wrap (e1 + e2) = E := by rw [hE, IntKind.wrap_i64]; omega
  have hw1 : IntKind.u64.wrap m1 = m1 := by rw [IntKind.wrap_u64]; omega
  have hw2 : IntKind.u64.wrap m2 = m2 := by rw [IntKind.wrap_u64]; omega
  clear hs1 hs2 hm1 hm2 he1 he2 hG1 hG2 hL1 hL2 hE fx1 fx2 fx3 fx4 fy1 fy2 fy3 fy4 hG hL hx hy hox hoy bx by' ex ey
  have R := R2.new w (.bool false) (.slice none 0 0) 29
  go_enter Tryz.func58, Tryz.ntmps58
  go_wp2_with fail
  refine (C1.out _).mono ?_
  rintro r w1 ⟨rfl, hb1⟩
  replace R := (R.below hb1).alloc (.cells #[.bool s1, .int .i64 m1, .int .i64 e1] 113)
  have P := R3.new w1 (.bool s1) (.int .i64 m1) (.int .i64 e1) 113
  have bel1 : Below w.heap.size w (w1.alloc (.cells #[.bool s1, .int .i64 m1, .int .i64 e1] 113)) := (by repeat (first | exact Below.refl _ _ | refine Below.drew ?_ | refine bel_dn ?_ _ | refine bel_al ?_ _ | refine bel_go ?_ hb1 | refine Below.setCell ?_ (by first | omega | (simp; done) | (simp; omega)) _ | refine Below.alloc ?_ (by first | omega | (simp; done) | (simp; omega)) _ | refine Below.trans ?_ (Below.mono hb1 (by first | omega | (simp; done) | (simp; omega)))))
  have lw1 : w.heap.size < w1.heap.size := by have := hb1.size; simp at this; omega
  go_wp2_with fail
  refine (C2.out _).mono ?_
  rintro r w2 ⟨rfl, hb2⟩
  replace R := (R.below hb2).alloc (.cells #[.bool s2, .int .i64 m2, .int .i64 e2] 113)
  replace P := (P.below hb2).al (.cells #[.bool s2, .int .i64 m2, .int .i64 e2] 113)
  have Q := R3.new w2 (.bool s2) (.int .i64 m2) (.int .i64 e2) 113
  have bel2w := bel_go bel1 hb2
  have bel2 := bel_al (bel_go bel1 hb2) (.cells #[.bool s2, .int .i64 m2, .int .i64 e2] 113)
  have lw2 : w1.heap.size < w2.heap.size := by have := hb2.size; simp at this; omega
  clear hb1 hb2 bel1
  have Pd := P.dr
  have Qd := Q.dr
  have pd := And.intro (And.intro Pd.c0 (And.intro Pd.c1 Pd.c2)) (And.intro Qd.c0 (And.intro Qd.c1 Qd.c2))
  go_wp2_with fail
  go_region_held3 (fun w' => (w'.cell? ⟨w1.heap.size, 0, none⟩ = some (.bool s1) ∧ w'.cell? ⟨w1.heap.size, 1, none⟩ = some (.int .i64 m1) ∧ w'.cell? ⟨w1.heap.size, 2, none⟩ = some (.int .i64 e1)) ∧ (w'.cell? ⟨w2.heap.size, 0, none⟩ = some (.bool s2) ∧ w'.cell? ⟨w2.heap.size, 1, none⟩ = some (.int .i64 m2) ∧ w'.cell? ⟨w2.heap.size, 2, none⟩ = some (.int .i64 e2)))
    (first | with_reducible assumption | with_reducible exact pd | with_reducible exact ss3 _ _ | fail)
    (first
      | (go_at_call 95; with_reducible refine (U1.out _).mono ?_; rintro r q1 ⟨a1, k1, rfl, hp1, hq1⟩; have P1 := Pd.below hq1; have Q1 := Qd.below hq1; have R1 := R.drew.below hq1; have u1 := And.intro (And.intro P1.c0 (And.intro P1.c1 P1.c2)) (And.intro Q1.c0 (And.intro Q1.c1 Q1.c2)))
      | (go_at_call 95; with_reducible refine (U2.out _).mono ?_; rintro r q2 ⟨a2, k2, rfl, hp2, hq2⟩; have P2 := P1.below hq2; have Q2 := Q1.below hq2; have R2' := R1.below hq2; have u2 := And.intro (And.intro P2.c0 (And.intro P2.c1 P2.c2)) (And.intro Q2.c0 (And.intro Q2.c1 Q2.c2)); have hp12 := hp1.below hq2)
      | (go_at_call 126; refine (CM.out a1 k1 a2 k2 _ hp12.sl hp2.sl).mono ?_; rintro r q3 ⟨a3, k3, rfl, hp3, hq3⟩; have P3 := P2.below hq3; have Q3 := Q2.below hq3; have u3 := And.intro (And.intro P3.c0 (And.intro P3.c1 P3.c2)) (And.intro Q3.c0 (And.intro Q3.c1 Q3.c2)); have ss3 := fun u v => And.intro (let P4 := (R3.other P3 (p := ⟨w.heap.size, 0, none⟩) (by simp; omega) u).other (p := ⟨w.heap.size, 1, none⟩) (by simp; omega) v; And.intro P4.c0 (And.intro P4.c1 P4.c2)) (let Q4 := (R3.other Q3 (p := ⟨w.heap.size, 0, none⟩) (by simp; omega) u).other (p := ⟨w.heap.size, 1, none⟩) (by simp; omega) v; And.intro Q4.c0 (And.intro Q4.c1 Q4.c2)); obtain ⟨r0, r1, g0, g1⟩ := R2'.below hq3))
  have z1 := hq1.size
  have z2 := hq2.size
  have z0 : w2.heap.size + 1 ≤ q1.heap.size := by simpa using z1
  go_wp2
  refine bodyPost_ret (v := .tuple #[.agg #[.bool G, .slice a3 L.length k3], .int .i64 E]) (by simp [results, Tryz.results58, go_sem, r0, r1]) rfl ⟨a3, k3, rfl, ?_, ?_⟩
  · exact Own.base ((hp3.setBelow (by simp; omega) _).setBelow (by simp; omega) _) (by omega)
  · exact (by repeat (first | (with_reducible refine Below.setCell ?_ ?_ _; rotate_left; focus (first | omega | (simp; done) | (simp; omega))) | (with_reducible exact Below.refl _ _) | (with_reducible refine Below.drew ?_) | (with_reducible refine bel_dn ?_ _) | (with_reducible refine bel_al ?_ _) | (with_reducible refine bel_go ?_ hq3) | (with_reducible refine bel_go ?_ hq2) | (with_reducible refine bel_go ?_ hq1) | (with_reducible refine bel_go ?_ bel2w) | (with_reducible refine Below.alloc ?_ ?_ _; rotate_left; focus (first | omega | (simp; done) | (simp; omega))) | (with_reducible refine Below.trans ?_ (Below.mono hq3 ?_); rotate_left; focus (first | omega | (simp; done) | (simp; omega))) | (with_reducible refine Below.trans ?_ (Below.mono hq2 ?_); rotate_left; focus (first | omega | (simp; done) | (simp; omega))) | (with_reducible refine Below.trans ?_ (Below.mono hq1 ?_); rotate_left; focus (first | omega | (simp; done) | (simp; omega))) | (with_reducible refine Below.trans ?_ (Below.mono bel2w ?_); rotate_left; focus (first | omega | (simp; done) | (simp; omega)))))
end Go.Proofs.YtapjclcjojadaaaGreatDoor
