/-
  What is needed of ND, AF, AG, AH.
-/
import Derived.Test.YtkfjmcdniohljaaGreatDoorC33
import Derived.Test.YtkfjmcdniohljaaGreatDoorC36
import Derived.Test.YtkfjmcdniohljaaGreatDoorC38
import Derived.Test.YtkfjmcdniohljaaGreatDoorC41
set_option maxHeartbeats 16000000
set_option maxRecDepth 1000000
namespace Go.Proofs.YtkfjmcdniohljaaGreatDoor
set_option linter.unusedVariables false
set_option linter.unusedSimpArgs false
open Go.RowKit Go.Deep
/-- Why an accumulator takes no term of these floats: all: whether they are floats of its format. -/
def tcC (ok all : Bool) (T : Int) : Int := if ok then (if all then (if T = 1000000 then 3 else 0) else 2) else 1
theorem tcode (fm : Int) (ng : Bool) (T : Int) (nn bd pl mi am : Bool) (p : Option Addr) (cap : Nat) (zs : List Int) (q : Option Addr) (qc : Nat) (xs : List Int) (w : World) (hT : Tab w) (hs : Sl .u32 w (.slice p zs.length cap) zs) (hl : zs.length ≤ 1048576) (hx : Sl .u64 w (.slice q xs.length qc) xs) (dx : D64 xs) (hlx : xs.length ≤ 1048576) (c : Int) (hc : c = tcC (accB fm ng zs T nn bd pl mi am) (allB fm xs) T) :
    Calls Tryz.prog 121 #[.agg #[.int .i64 fm, .bool ng, .slice p zs.length cap, .int .i64 T, .bool nn, .bool bd, .bool pl, .bool mi, .bool am], .slice q xs.length qc] w fun e w' => e = .returned (.int .i64 c) ∧ Below w.heap.size w w' := by
  have C1 := hid (fun w' h h' => accok_impl fm ng T nn bd pl mi am p cap zs w' h h' hl)
  have C2 := hid (fun w' h h' => allf_impl fm q qc xs w' h h' dx hlx)
  have Q := Q9.new w (.int .i64 fm) (.bool ng) (.slice p zs.length cap) (.int .i64 T) (.bool nn) (.bool bd) (.bool pl) (.bool mi) (.bool am) 50
  have bel0 : Below w.heap.size w (w.alloc (.cells #[.int .i64 fm, .bool ng, .slice p zs.length cap, .int .i64 T, .bool nn, .bool bd, .bool pl, .bool mi, .bool am] 50)) := (by repeat (first | exact bz0 _ _ | refine bz1 ?_ | refine bz2 ?_ _ | refine bz3 ?_ _ | refine bz5 ?_ _ | refine bz6 ?_ _))
  unfold tcC at hc
  cases h1 : accB fm ng zs T nn bd pl mi am
  · rw [h1] at C1 hc
    have hc' : c = 1 := hc
    subst hc'
    clear hc h1 dx
    go_enter Tryz.func121, Tryz.ntmps121
    go_wp2_with fail
    refine (C1.out _ (hT.below bel0) (hs.below bel0)).mono ?_
    rintro e w1 ⟨rfl, hb1⟩
    go_wp2
    go_ret
    exact ⟨rfl, bel_go bel0 hb1⟩
  rw [h1] at C1 hc
  cases h2 : allB fm xs
  · rw [h2] at C2 hc
    have hc' : c = 2 := hc
    subst hc'
    clear hc h1 h2 dx
    go_enter Tryz.func121, Tryz.ntmps121
    go_wp2_with fail
    refine (C1.out _ (hT.below bel0) (hs.below bel0)).mono ?_
    rintro e w1 ⟨rfl, hb1⟩
    have bel1 := bel_go bel0 hb1
    have c0 := (Q.below hb1).c0
    go_wp2_with fail
    refine (C2.out _ (hT.below bel1) (hx.below bel1)).mono ?_
    rintro e w2 ⟨rfl, hb2⟩
    go_wp2
    go_ret
    exact ⟨rfl, bel_go bel1 hb2⟩
  rw [h2] at C2 hc
  by_cases h3 : T = 1000000
  · have hc' : c = 3 := by rw [hc, if_pos rfl, if_pos rfl, if_pos h3]
    subst hc' h3
    clear hc h1 h2 dx
    go_enter Tryz.func121, Tryz.ntmps121
    go_wp2_with fail
    refine (C1.out _ (hT.below bel0) (hs.below bel0)).mono ?_
    rintro e w1 ⟨rfl, hb1⟩
    have bel1 := bel_go bel0 hb1
    have c0 := (Q.below hb1).c0
    go_wp2_with fail
    refine (C2.out _ (hT.below bel1) (hx.below bel1)).mono ?_
    rintro e w2 ⟨rfl, hb2⟩
    have c3 := ((Q.below hb1).below hb2).c3
    go_wp2
    go_ret
    exact ⟨rfl, bel_go bel1 hb2⟩
  · have hc' : c = 0 := by rw [hc, if_pos rfl, if_pos rfl, if_neg h3]
    subst hc'
    have h3' : (T == 1000000) = false := by simpa using h3
    clear hc h1 h2 h3 dx
    go_enter Tryz.func121, Tryz.ntmps121
    go_wp2_with fail
    refine (C1.out _ (hT.below bel0) (hs.below bel0)).mono ?_
    rintro e w1 ⟨rfl, hb1⟩
    have bel1 := bel_go bel0 hb1
    have c0 := (Q.below hb1).c0
    go_wp2_with fail
    refine (C2.out _ (hT.below bel1) (hx.below bel1)).mono ?_
    rintro e w2 ⟨rfl, hb2⟩
    have c3 := ((Q.below hb1).below hb2).c3
    go_wp2
    go_ret
    exact ⟨rfl, bel_go bel1 hb2⟩
theorem keep95 {w : World} {B b b' : Nat} {v0 v1 v2 v3 v4 v5 v6 v7 v8 y0 y1 y2 y3 y4 : Value} (h : Q9 w b v0 v1 v2 v3 v4 v5 v6 v7 v8) (h' : Q5 w b' y0 y1 y2 y3 y4) (n : b ≠ B) (n' : b' ≠ B) (u0 u1 u2 u3 u4 u5 u6 u7 u8 : Value) (W : World) (hW : W = (((((((((w.setCell ⟨B, 0, none⟩ u0).setCell ⟨B, 1, none⟩ u1).setCell ⟨B, 2, none⟩ u2).setCell ⟨B, 3, none⟩ u3).setCell ⟨B, 4, none⟩ u4).setCell ⟨B, 5, none⟩ u5).setCell ⟨B, 6, none⟩ u6).setCell ⟨B, 7, none⟩ u7).setCell ⟨B, 8, none⟩ u8)) :
    (W.cell? ⟨b, 0, none⟩ = some v0 ∧ W.cell? ⟨b, 1, none⟩ = some v1 ∧ W.cell? ⟨b, 2, none⟩ = some v2 ∧ W.cell? ⟨b, 3, none⟩ = some v3 ∧ W.cell? ⟨b, 4, none⟩ = some v4 ∧ W.cell? ⟨b, 5, none⟩ = some v5 ∧ W.cell? ⟨b, 6, none⟩ = some v6 ∧ W.cell? ⟨b, 7, none⟩ = some v7 ∧ W.cell? ⟨b, 8, none⟩ = some v8) ∧ (W.cell? ⟨b', 0, none⟩ = some y0 ∧ W.cell? ⟨b', 1, none⟩ = some y1 ∧ W.cell? ⟨b', 2, none⟩ = some y2 ∧ W.cell? ⟨b', 3, none⟩ = some y3 ∧ W.cell? ⟨b', 4, none⟩ = some y4) := by
  subst hW
  exact ⟨(h.of_block (heap9n w B b n u0 u1 u2 u3 u4 u5 u6 u7 u8)).cs, (h'.of_block (heap9n w B b' n' u0 u1 u2 u3 u4 u5 u6 u7 u8)).cs⟩
theorem wl_len {V : Int} (h : bitLen V.natAbs ≤ 6400) : (Nm.wl V).length ≤ 200 := by unfold Nm.wl; exact lim_len (k := 200) (by omega)
theorem add_fits {fm : Int} {ng : Bool} {zs : List Int} {T : Int} {nn bd pl mi am : Bool} (dz : Nm.Dg zs) (h : accB fm ng zs T nn bd pl mi am = true) {V : Int} (hV : bitLen V.natAbs ≤ 4216) : Nm.fits (Nm.wv ng zs + V) = true := by
  refine fits_bl ?_
  have h1 := acc_val dz h
  have e1 := wv_abs ng dz
  have t1 := (mkB_T (acc_parts h).2.1).2
  have b := sum_bl (far_bl fm t1) hV
  have hm := Nm.bl_mono (show (Nm.wv ng zs + V).natAbs ≤ far fm T + V.natAbs by omega)
  omega
theorem wsh_at (G : Bool) (p : Option Addr) (c : Nat) (L : List Int) (n : Int) (w : World) (hs : Sl .u32 w (.slice p L.length c) L) (d : Nm.Dg L) (ho : okB G L = true) (h0 : -10000 ≤ n) (h1 : n ≤ 10000) (V : Int) (hV : V = Nm.shV G (Nm.val L) n) (hf : (Nm.wl V).length ≤ 200) :
    Calls Tryz.prog 21 #[.agg #[.bool G, .slice p L.length c], .int .i64 n] w fun r w' => ∃ a' c', r = .returned (.tuple #[.agg #[.bool (Nm.wn V), .slice a' (Nm.wl V).length c'], .bool true]) ∧ Own w' w.heap.size a' c' (Nm.wl V) ∧ Below w.heap.size w w' := by
  have h := wsh_impl G p c L n w hs d (by have := (okB_nz ho).2; omega)
  have e1 : (okB G L && inZ n (-10000) 10000) = true := by rw [ho]; unfold inZ; rw [decide_eq_true h0, decide_eq_true h1]; rfl
  have e3 : Nm.fits V = true := by unfold Nm.fits; exact decide_eq_true hf
  have e4 := out_fits e3
  rw [e1, ← hV, (op_yes _).1, (op_yes _).2.1, (op_yes _).2.2, e3, e4.1, e4.2] at h
  exact h
theorem wsh_nil (n : Int) (w : World) (h0 : -10000 ≤ n) (h1 : n ≤ 10000) (p : Option Addr) (c : Nat) (hs : Sl .u32 w (.slice p ([] : List Int).length c) []) :
    Calls Tryz.prog 21 #[.agg #[.bool false, .slice p ([] : List Int).length c], .int .i64 n] w fun r w' => ∃ a' c', r = .returned (.tuple #[.agg #[.bool false, .slice a' ([] : List Int).length c'], .bool true]) ∧ Own w' w.heap.size a' c' [] ∧ Below w.heap.size w w' := by
  have e : Nm.shV false (Nm.val []) n = 0 := by
    have : Nm.val [] = ((0 : Nat) : Int) := rfl
    rw [this, Nm.shV_sh]; unfold Nm.sh; split <;> simp
  have hw : Nm.wl 0 = [] := Nm.lim_zero
  have hn : Nm.wn 0 = false := by decide
  have h := wsh_at false p c [] n w hs Nm.Dg.nil rfl h0 h1 0 e.symm (by rw [hw]; simp)
  rw [hw, hn] at h
  exact h
theorem one_odd_32 (neg inf : Bool) (ev : Value) (m1 m2 m3 m4 m5 : Bool) (w : World) (hT : Tab w) (hg : EA.ErrT w) (p : Option Addr) (c : Nat) (hs : Sl .u32 w (.slice p ([] : List Int).length c) [])
    (hm : ∀ w' : World, EA.ErrT w' → Calls Tryz.prog 203 #[.agg #[.bool neg, .bool inf, .bool false, .slice p ([] : List Int).length c, .int .i64 0], ev] w' fun r w'' => r = .returned (.agg #[.int .i64 1, .bool m1, .bool m2, .bool m3, .bool m4, .bool m5]) ∧ Below w'.heap.size w' w'') :
    Calls Tryz.prog 124 #[.int .i64 32, .agg #[.bool neg, .bool inf, .bool false, .slice p ([] : List Int).length c, .int .i64 0], ev] w fun r w' => ∃ a' c', r = .returned (.agg #[.int .i64 1, .bool m1, .bool m2, .bool m3, .bool m4, .bool m5, .int .i64 32, .bool false, .slice a' ([] : List Int).length c']) ∧ Own w' w.heap.size a' c' [] ∧ Below w.heap.size w w' :=
  one_32 neg inf false p c [] 0 ev m1 m2 m3 m4 m5 false [] w hT hg hs (by decide) (by decide) hm (fun w' h => wsh_nil (0 + 298) w' (by decide) (by decide) p c h)
theorem one_odd_64 (neg inf : Bool) (ev : Value) (m1 m2 m3 m4 m5 : Bool) (w : World) (hT : Tab w) (hg : EA.ErrT w) (p : Option Addr) (c : Nat) (hs : Sl .u32 w (.slice p ([] : List Int).length c) [])
    (hm : ∀ w' : World, EA.ErrT w' → Calls Tryz.prog 203 #[.agg #[.bool neg, .bool inf, .bool false, .slice p ([] : List Int).length c, .int .i64 0], ev] w' fun r w'' => r = .returned (.agg #[.int .i64 1, .bool m1, .bool m2, .bool m3, .bool m4, .bool m5]) ∧ Below w'.heap.size w' w'') :
    Calls Tryz.prog 124 #[.int .i64 64, .agg #[.bool neg, .bool inf, .bool false, .slice p ([] : List Int).length c, .int .i64 0], ev] w fun r w' => ∃ a' c', r = .returned (.agg #[.int .i64 1, .bool m1, .bool m2, .bool m3, .bool m4, .bool m5, .int .i64 64, .bool false, .slice a' ([] : List Int).length c']) ∧ Own w' w.heap.size a' c' [] ∧ Below w.heap.size w w' :=
  one_64 neg inf false p c [] 0 ev m1 m2 m3 m4 m5 false [] w hT hg hs (by decide) (by decide) hm (fun w' h => wsh_nil (0 + 2148) w' (by decide) (by decide) p c h)
theorem one_odd (fm : Int) (hfm : fmtB fm = true) (neg inf : Bool) (ev : Value) (m1 m2 m3 m4 m5 : Bool) (w : World) (hT : Tab w) (hg : EA.ErrT w) (p : Option Addr) (c : Nat) (hs : Sl .u32 w (.slice p ([] : List Int).length c) [])
    (hm : ∀ w' : World, EA.ErrT w' → Calls Tryz.prog 203 #[.agg #[.bool neg, .bool inf, .bool false, .slice p ([] : List Int).length c, .int .i64 0], ev] w' fun r w'' => r = .returned (.agg #[.int .i64 1, .bool m1, .bool m2, .bool m3, .bool m4, .bool m5]) ∧ Below w'.heap.size w' w'') :
    Calls Tryz.prog 124 #[.int .i64 fm, .agg #[.bool neg, .bool inf, .bool false, .slice p ([] : List Int).length c, .int .i64 0], ev] w fun r w' => ∃ a' c', r = .returned (.agg #[.int .i64 1, .bool m1, .bool m2, .bool m3, .bool m4, .bool m5, .int .i64 fm, .bool false, .slice a' ([] : List Int).length c']) ∧ Own w' w.heap.size a' c' [] ∧ Below w.heap.size w w' := by
  rcases fmt_cases hfm with rfl | rfl
  · exact one_odd_32 neg inf ev m1 m2 m3 m4 m5 w hT hg p c hs hm
  · exact one_odd_64 neg inf ev m1 m2 m3 m4 m5 w hT hg p c hs hm
theorem amW_no (T : Int) (am : Bool) : amW T am 1 false = false := by unfold amW; simp
/-- A term: its value in 2 to the 2 Q; a NaN, invalid, infinity above and below 0; a zero below 0. -/
structure Tm where
  v : Int
  nan : Bool
  bad : Bool
  plus : Bool
  minus : Bool
  zm : Bool
/-- What an accumulator holds beside its format. -/
structure St where
  z : Int
  T : Int
  nn : Bool
  bd : Bool
  pl : Bool
  mi : Bool
  am : Bool
def St.add (s : St) (t : Tm) : St := ⟨s.z + t.v, s.T + 1, s.nn || t.nan, s.bd || t.bad, s.pl || t.plus, s.mi || t.minus, t.zm && (s.am || decide (s.T = 0))⟩
def Rt (fm : Int) (s : St) : Prop := accB fm (Nm.wn s.z) (Nm.wl s.z) s.T s.nn s.bd s.pl s.mi s.am = true
structure TmOk (fm : Int) (t : Tm) : Prop where
  v : t.v.natAbs ≤ far fm 1
  bn : t.bad = true → t.nan = true
  z : t.zm = true → t.v = 0 ∧ t.nan = false ∧ t.bad = false ∧ t.plus = false ∧ t.minus = false
def farE (fm : Int) : Nat := if fm = 32 then 554 else 4196
theorem far_eq (fm T : Int) : far fm T = T.toNat * 2 ^ farE fm := by
  unfold far Nm.sh farE
  by_cases h : fm = 32
  · have e : (554 : Int).toNat = 554 := rfl
    rw [if_pos h, if_pos h, if_neg (by decide), e]
  · have e : (4196 : Int).toNat = 4196 := rfl
    rw [if_neg h, if_neg h, if_neg (by decide), e]
theorem far_add (fm : Int) {T : Int} (h : 0 ≤ T) : far fm T + far fm 1 = far fm (T + 1) := by
  rw [far_eq, far_eq, far_eq, ← Nat.add_mul]
  congr 1; omega
theorem Rt.le {fm : Int} {s : St} (h : Rt fm s) : s.z.natAbs ≤ far fm s.T ∧ 0 ≤ s.T ∧ s.T ≤ 1000000 := by
  have h1 := acc_val (Nm.wl_dg _) h
  rw [Nm.val_wl] at h1
  have h2 := mkB_T (acc_parts h).2.1
  exact ⟨by simpa using h1, h2⟩
theorem Rt.mk {fm : Int} {s : St} (hf : fmtB fm = true) (hm : mkB s.T s.nn s.bd s.pl s.mi s.am = true) (hz : s.z.natAbs ≤ far fm s.T) (ha : s.am = true → s.z = 0) : Rt fm s := by
  have ht := mkB_T hm
  have hb := Nm.bl_mono hz
  have hb2 := far_bl fm ht.2
  have hl : (Nm.wl s.z).length ≤ 200 := wl_len (by omega)
  have hc : cmpL (Nm.wl s.z) (Nm.lim (far fm s.T)) ≤ 0 := by
    have h := (cmpL_val (Nm.wl_dg s.z) (Nm.lim_dg (far fm s.T)) (Nm.wl_nz s.z) (Nm.lim_nz _)).2
    have hr := cmpL_rng (Nm.wl s.z) (Nm.lim (far fm s.T))
    rw [Nm.lim_val, Nm.val_wl] at h
    have : ¬ 0 < cmpL (Nm.wl s.z) (Nm.lim (far fm s.T)) := fun h0 => by
      have := h.1 (by omega); omega
    omega
  have hz0 : (!s.am || decide ((Nm.wl s.z).length = 0)) = true := by
    cases e : s.am
    · rfl
    · rw [ha e]; have : Nm.wl 0 = [] := Nm.lim_zero
      rw [this]; rfl
  unfold Rt accB
  rw [hf, hm, okB_wl hl, decide_eq_true hc, hz0]; rfl
theorem Rt.zero {fm : Int} {s : St} (h : Rt fm s) : (s.am = true ∨ s.T = 0) → s.z = 0 ∧ s.nn = false ∧ s.bd = false ∧ s.pl = false ∧ s.mi = false := by
  intro hh
  have hl := h.le
  have hm := (acc_parts h).2.1
  unfold mkB at hm
  have hr := h
  unfold Rt accB at hr
  simp only [Bool.and_eq_true] at hr
  rcases hh with e | e
  · rw [e] at hm hr
    have hz : s.z = 0 := by
      have := hr.2
      simp only [Bool.not_true, Bool.false_or, decide_eq_true_eq] at this
      unfold Nm.wl at this
      rw [Nm.lim_length_zero] at this
      omega
    refine ⟨hz, ?_⟩
    revert hm
    cases s.nn <;> cases s.bd <;> cases s.pl <;> cases s.mi <;> simp
  · have hz : s.z = 0 := by
      have := hl.1
      rw [e] at this
      have e0 : far fm 0 = 0 := by rw [far_eq]; exact Nat.zero_mul _
      omega
    rw [e] at hm
    refine ⟨hz, ?_⟩
    revert hm
    cases s.nn <;> cases s.bd <;> cases s.pl <;> cases s.mi <;> simp
theorem Rt.add {fm : Int} {s : St} (h : Rt fm s) {t : Tm} (ht : TmOk fm t) (hT : s.T ≠ 1000000) : Rt fm (s.add t) := by
  obtain ⟨hl, h0, h1⟩ := h.le
  obtain ⟨hf, hm, -, -⟩ := acc_parts h
  have hv := ht.v
  refine Rt.mk hf ?_ ?_ ?_
  · have hz := h.zero
    have hbn := ht.bn
    have htz := ht.z
    show mkB (s.T + 1) (s.nn || t.nan) (s.bd || t.bad) (s.pl || t.plus) (s.mi || t.minus) (t.zm && (s.am || decide (s.T = 0))) = true
    unfold mkB at hm ⊢
    rw [decide_eq_true (show 0 ≤ s.T + 1 by omega), decide_eq_true (show s.T + 1 ≤ 1000000 by omega), decide_eq_false (show ¬ s.T + 1 = 0 by omega)]
    have hbd : s.bd = true → s.nn = true := by
      intro e; rw [e] at hm; revert hm; cases s.nn <;> simp
    by_cases hz' : t.zm = true ∧ (s.am = true ∨ s.T = 0)
    · obtain ⟨_, e1, e2, e3, e4⟩ := hz hz'.2
      obtain ⟨_, e5, e6, e7, e8⟩ := htz hz'.1
      rw [e1, e2, e3, e4, e5, e6, e7, e8]; simp
    · have : (t.zm && (s.am || decide (s.T = 0))) = false := by
        rw [Bool.eq_false_iff]; intro e; apply hz'
        simpa using e
      rw [this]
      revert hbd hbn
      cases s.nn <;> cases s.bd <;> cases t.nan <;> cases t.bad <;> simp
  · show (s.z + t.v).natAbs ≤ far fm (s.T + 1)
    rw [← far_add fm h0]; omega
  · intro e
    have e' : (t.zm && (s.am || decide (s.T = 0))) = true := e
    simp only [Bool.and_eq_true, Bool.or_eq_true, decide_eq_true_eq] at e'
    have h3 := (h.zero e'.2).1
    have h4 := (ht.z e'.1).1
    show s.z + t.v = 0
    omega
theorem un_blf {fm x : Int} (hf : finB fm x = true) : bitLen (Nm.sh (pM fm x).toNat (pE fm x - unQ fm)) ≤ (if fm = 32 then 277 else 2098) := by
  have hx : okF fm x = true := by
    cases ho : okF fm x
    · rw [fin_no ho] at hf; cases hf
    · rfl
  have hlt := fin_lt hx
  rw [hf] at hlt
  have hlt' := of_decide_eq_true hlt.symm
  have h1 := Nm.bl_sh (pM fm x).toNat (pE fm x - unQ fm)
  rcases okF_cases hx with ⟨rfl, hx'⟩ | rfl
  · rw [if_pos rfl]
    rw [abs32 hx'] at hlt'
    unfold infOf at hlt'; rw [if_pos rfl] at hlt'
    have hM : pM 32 x < 16777216 := by
      unfold pM; rw [hf, if_pos rfl, if_pos rfl]; unfold parM; split <;> omega
    have hE : pE 32 x - unQ 32 ≤ 253 := by
      unfold pE unQ; rw [hf, if_pos rfl, if_pos rfl, if_pos rfl]; unfold parE; split <;> omega
    have h0 := (pM_bd 32 x).1
    have h2 := (Nm.bl_le_iff (pM 32 x).toNat 24).2 (by omega)
    omega
  · rw [if_neg (by decide)]
    rw [abs64] at hlt'
    unfold infOf at hlt'; rw [if_neg (by decide)] at hlt'
    have hE : pE 64 x - unQ 64 ≤ 2045 := by
      unfold pE unQ; rw [hf, if_pos rfl, if_neg (by decide), if_neg (by decide)]; unfold parE; split <;> omega
    have h0 := pM_bd 64 x
    have h2 := (Nm.bl_le_iff (pM 64 x).toNat 53).2 (by omega)
    omega
end Go.Proofs.YtkfjmcdniohljaaGreatDoor
