/-
  What is needed of AD, AccE, AccF, AccL, AE.
-/
import Derived.Test.YtnliofakkkjpoaaGreatDoorA16
import Derived.Test.YtnliofakkkjpoaaGreatDoorA22
import Derived.Test.YtnliofakkkjpoaaGreatDoorA28
set_option maxHeartbeats 16000000
set_option maxRecDepth 1000000
namespace Go.Proofs.YtnliofakkkjpoaaGreatDoor
set_option linter.unusedVariables false
set_option linter.unusedSimpArgs false
open Go.RowKit Go.Deep
theorem Q9.nw2b (w : World) (o : Obj) (v0 v1 v2 v3 v4 v5 v6 v7 v8 : Value) (t : TypeId) : Q9 ((w.alloc o).alloc (.cells #[v0, v1, v2, v3, v4, v5, v6, v7, v8] t)) (w.heap.size + 1) v0 v1 v2 v3 v4 v5 v6 v7 v8 := by simpa using Q9.new (w.alloc o) v0 v1 v2 v3 v4 v5 v6 v7 v8 t
theorem zero7 (fm : Int) (ng : Bool) (T : Int) (nn bd pl mi am : Bool) (p : Option Addr) (n cap : Nat) (zr neg : Bool) (w : World) (h0 : 0 ≤ T) (h1 : T ≤ 1000000) (T2 : Int) (hT2 : T2 = T + 1) (a2 : Bool) (ha2 : a2 = (zr && neg && (am || decide (T = 0)))) :
    Calls Tryz.prog 62 #[.agg #[.int .i64 fm, .bool ng, .slice p n cap, .int .i64 T, .bool nn, .bool bd, .bool pl, .bool mi, .bool am], .bool zr, .bool neg] w fun e w' => e = .returned (.agg #[.int .i64 fm, .bool ng, .slice p n cap, .int .i64 T2, .bool nn, .bool bd, .bool pl, .bool mi, .bool a2]) ∧ Below w.heap.size w w' := by
  have hd1 : (T == 0) = decide (T = 0) := by rw [Bool.eq_iff_iff, beq_iff_eq, decide_eq_true_eq]
  obtain ⟨d1, e1'⟩ : ∃ d1, d1 = decide (T = 0) := ⟨_, rfl⟩
  rw [← e1'] at hd1 ha2
  clear e1'
  have hwr : IntKind.i64.wrap (T + 1) = T2 := by rw [IntKind.wrap_i64]; omega
  have HT2 := hid hT2
  clear hT2
  cases zr with
  | false =>
    have ha : a2 = false := ha2
    subst ha
    clear ha2
    go_enter Tryz.func62, Tryz.ntmps62
    go_wp2
    refine bodyPost_ret (v := .agg #[.int .i64 fm, .bool ng, .slice p n cap, .int .i64 T2, .bool nn, .bool bd, .bool pl, .bool mi, .bool false]) (by simp [results, Tryz.results62, go_sem, HT2.out]) rfl ⟨rfl, ?_⟩
    exact (by (repeat with_reducible first | refine Below.setCell ?_ ?_ _ | exact bz0 _ _ | refine bz1 ?_ | refine bz2 ?_ _ | refine bz3 ?_ _ | refine Below.alloc ?_ ?_ _) <;> first | omega | (simp; done) | (simp; omega))
  | true =>
  cases neg with
  | false =>
    have ha : a2 = false := ha2
    subst ha
    clear ha2
    go_enter Tryz.func62, Tryz.ntmps62
    go_wp2
    refine bodyPost_ret (v := .agg #[.int .i64 fm, .bool ng, .slice p n cap, .int .i64 T2, .bool nn, .bool bd, .bool pl, .bool mi, .bool false]) (by simp [results, Tryz.results62, go_sem, HT2.out]) rfl ⟨rfl, ?_⟩
    exact (by (repeat with_reducible first | refine Below.setCell ?_ ?_ _ | exact bz0 _ _ | refine bz1 ?_ | refine bz2 ?_ _ | refine bz3 ?_ _ | refine Below.alloc ?_ ?_ _) <;> first | omega | (simp; done) | (simp; omega))
  | true =>
  cases am with
  | true =>
    have ha : a2 = true := ha2
    subst ha
    clear ha2
    go_enter Tryz.func62, Tryz.ntmps62
    go_wp2
    refine bodyPost_ret (v := .agg #[.int .i64 fm, .bool ng, .slice p n cap, .int .i64 T2, .bool nn, .bool bd, .bool pl, .bool mi, .bool true]) (by simp [results, Tryz.results62, go_sem, HT2.out]) rfl ⟨rfl, ?_⟩
    exact (by (repeat with_reducible first | refine Below.setCell ?_ ?_ _ | exact bz0 _ _ | refine bz1 ?_ | refine bz2 ?_ _ | refine bz3 ?_ _ | refine Below.alloc ?_ ?_ _) <;> first | omega | (simp; done) | (simp; omega))
  | false =>
    have ha : a2 = d1 := by rw [ha2]; cases d1 <;> rfl
    subst ha
    clear ha2
    go_enter Tryz.func62, Tryz.ntmps62
    go_wp2
    refine bodyPost_ret (v := .agg #[.int .i64 fm, .bool ng, .slice p n cap, .int .i64 T2, .bool nn, .bool bd, .bool pl, .bool mi, .bool a2]) (by simp [results, Tryz.results62, go_sem, HT2.out]) rfl ⟨rfl, ?_⟩
    exact (by (repeat with_reducible first | refine Below.setCell ?_ ?_ _ | exact bz0 _ _ | refine bz1 ?_ | refine bz2 ?_ _ | refine bz3 ?_ _ | refine Below.alloc ?_ ?_ _) <;> first | omega | (simp; done) | (simp; omega))
theorem Q9.set4' {w : World} {b : Nat} {v0 v1 v2 v3 v4 v5 v6 v7 v8 : Value} (h : Q9 w b v0 v1 v2 v3 v4 v5 v6 v7 v8) (u : Value) : Q9 (w.setCell ⟨b, 4, none⟩ u) b v0 v1 v2 v3 u v5 v6 v7 v8 := by
  obtain ⟨c0, c1, c2, c3, c4, c5, c6, c7, c8, f0, f1, f2, f3, f4, f5, f6, f7, f8⟩ := h
  exact ⟨by simp [go_sem, c0, c4], by simp [go_sem, c1, c4], by simp [go_sem, c2, c4], by simp [go_sem, c3, c4], by simp [go_sem, c4, c4], by simp [go_sem, c5, c4], by simp [go_sem, c6, c4], by simp [go_sem, c7, c4], by simp [go_sem, c8, c4], by simp [go_sem, f0], by simp [go_sem, f1], by simp [go_sem, f2], by simp [go_sem, f3], by simp [go_sem, f4], by simp [go_sem, f5], by simp [go_sem, f6], by simp [go_sem, f7], by simp [go_sem, f8]⟩
theorem Q9.set5' {w : World} {b : Nat} {v0 v1 v2 v3 v4 v5 v6 v7 v8 : Value} (h : Q9 w b v0 v1 v2 v3 v4 v5 v6 v7 v8) (u : Value) : Q9 (w.setCell ⟨b, 5, none⟩ u) b v0 v1 v2 v3 v4 u v6 v7 v8 := by
  obtain ⟨c0, c1, c2, c3, c4, c5, c6, c7, c8, f0, f1, f2, f3, f4, f5, f6, f7, f8⟩ := h
  exact ⟨by simp [go_sem, c0, c5], by simp [go_sem, c1, c5], by simp [go_sem, c2, c5], by simp [go_sem, c3, c5], by simp [go_sem, c4, c5], by simp [go_sem, c5, c5], by simp [go_sem, c6, c5], by simp [go_sem, c7, c5], by simp [go_sem, c8, c5], by simp [go_sem, f0], by simp [go_sem, f1], by simp [go_sem, f2], by simp [go_sem, f3], by simp [go_sem, f4], by simp [go_sem, f5], by simp [go_sem, f6], by simp [go_sem, f7], by simp [go_sem, f8]⟩
theorem Q9.set6' {w : World} {b : Nat} {v0 v1 v2 v3 v4 v5 v6 v7 v8 : Value} (h : Q9 w b v0 v1 v2 v3 v4 v5 v6 v7 v8) (u : Value) : Q9 (w.setCell ⟨b, 6, none⟩ u) b v0 v1 v2 v3 v4 v5 u v7 v8 := by
  obtain ⟨c0, c1, c2, c3, c4, c5, c6, c7, c8, f0, f1, f2, f3, f4, f5, f6, f7, f8⟩ := h
  exact ⟨by simp [go_sem, c0, c6], by simp [go_sem, c1, c6], by simp [go_sem, c2, c6], by simp [go_sem, c3, c6], by simp [go_sem, c4, c6], by simp [go_sem, c5, c6], by simp [go_sem, c6, c6], by simp [go_sem, c7, c6], by simp [go_sem, c8, c6], by simp [go_sem, f0], by simp [go_sem, f1], by simp [go_sem, f2], by simp [go_sem, f3], by simp [go_sem, f4], by simp [go_sem, f5], by simp [go_sem, f6], by simp [go_sem, f7], by simp [go_sem, f8]⟩
theorem Q9.set7' {w : World} {b : Nat} {v0 v1 v2 v3 v4 v5 v6 v7 v8 : Value} (h : Q9 w b v0 v1 v2 v3 v4 v5 v6 v7 v8) (u : Value) : Q9 (w.setCell ⟨b, 7, none⟩ u) b v0 v1 v2 v3 v4 v5 v6 u v8 := by
  obtain ⟨c0, c1, c2, c3, c4, c5, c6, c7, c8, f0, f1, f2, f3, f4, f5, f6, f7, f8⟩ := h
  exact ⟨by simp [go_sem, c0, c7], by simp [go_sem, c1, c7], by simp [go_sem, c2, c7], by simp [go_sem, c3, c7], by simp [go_sem, c4, c7], by simp [go_sem, c5, c7], by simp [go_sem, c6, c7], by simp [go_sem, c7, c7], by simp [go_sem, c8, c7], by simp [go_sem, f0], by simp [go_sem, f1], by simp [go_sem, f2], by simp [go_sem, f3], by simp [go_sem, f4], by simp [go_sem, f5], by simp [go_sem, f6], by simp [go_sem, f7], by simp [go_sem, f8]⟩
theorem special7 (fm : Int) (ng : Bool) (T : Int) (nn bd pl mi am : Bool) (p : Option Addr) (n cap : Nat) (nan bad neg : Bool) (w : World) (h0 : 0 ≤ T) (h1 : T ≤ 1000000) (T2 : Int) (hT2 : T2 = T + 1) (n2 b2 p2 m2 : Bool) (hn2 : n2 = (nn || nan)) (hb2 : b2 = (bd || bad)) (hp2 : p2 = (pl || (!nan && !neg))) (hm2 : m2 = (mi || (!nan && neg))) :
    Calls Tryz.prog 56 #[.agg #[.int .i64 fm, .bool ng, .slice p n cap, .int .i64 T, .bool nn, .bool bd, .bool pl, .bool mi, .bool am], .bool nan, .bool bad, .bool neg] w fun e w' => e = .returned (.agg #[.int .i64 fm, .bool ng, .slice p n cap, .int .i64 T2, .bool n2, .bool b2, .bool p2, .bool m2, .bool false]) ∧ Below w.heap.size w w' := by
  have CZ := hid (fun w' => zero7 fm ng T n2 b2 p2 m2 am p n cap false false w' h0 h1 T2 hT2 false rfl)
  have H4 := hid hn2
  have H5 := hid hb2
  have H6 := hid hp2
  have H7 := hid hm2
  clear hn2 hb2 hp2 hm2 hT2
  have Q := (Q9.new w (.int .i64 fm) (.bool ng) (.slice p n cap) (.int .i64 T) (.bool nn) (.bool bd) (.bool pl) (.bool mi) (.bool am) 31).alloc (.cells #[.int .i64 0, .bool false, .slice none 0 0, .int .i64 0, .bool false, .bool false, .bool false, .bool false, .bool false] 31)
  have R := Q9.nw2b w (.cells #[.int .i64 fm, .bool ng, .slice p n cap, .int .i64 T, .bool nn, .bool bd, .bool pl, .bool mi, .bool am] 31) (.int .i64 0) (.bool false) (.slice none 0 0) (.int .i64 0) (.bool false) (.bool false) (.bool false) (.bool false) (.bool false) 31
  have bel : Below w.heap.size w ((w.alloc (.cells #[.int .i64 fm, .bool ng, .slice p n cap, .int .i64 T, .bool nn, .bool bd, .bool pl, .bool mi, .bool am] 31)).alloc (.cells #[.int .i64 0, .bool false, .slice none 0 0, .int .i64 0, .bool false, .bool false, .bool false, .bool false, .bool false] 31)) := (by repeat (first | exact bz0 _ _ | refine bz1 ?_ | refine bz2 ?_ _ | refine bz3 ?_ _ | refine bz5 ?_ _ | refine bz6 ?_ _))
  go_enter Tryz.func56, Tryz.ntmps56
  go_upto_region 1 with fail
  obtain ⟨W, hW⟩ : ∃ W, W = (w.alloc (.cells #[.int .i64 fm, .bool ng, .slice p n cap, .int .i64 T, .bool nn, .bool bd, .bool pl, .bool mi, .bool am] 31)).alloc (.cells #[.int .i64 0, .bool false, .slice none 0 0, .int .i64 0, .bool false, .bool false, .bool false, .bool false, .bool false] 31) := ⟨_, rfl⟩
  rw [← hW] at Q R bel ⊢
  clear hW
  go_cut [] (fun wx => Q9 wx w.heap.size (.int .i64 fm) (.bool ng) (.slice p n cap) (.int .i64 T) (.bool n2) (.bool bd) (.bool pl) (.bool mi) (.bool am) ∧ Q9 wx (w.heap.size + 1) (.int .i64 0) (.bool false) (.slice none 0 0) (.int .i64 0) (.bool false) (.bool false) (.bool false) (.bool false) (.bool false) ∧ Below w.heap.size w wx)
  case first =>
    have e1 := Q.c4
    have e2 := Q.f4
    cases nn with
    | true =>
      go_wp2_with fail; go_meet; (have hh := H4.out; simp at hh; subst hh; exact ⟨Q.set4' _, R.other (by simp) _, bel.setCell (by simp) _⟩)
    | false =>
      go_wp2_with fail; go_meet; (have hh := H4.out; simp at hh; subst hh; exact ⟨Q.set4' _, R.other (by simp) _, bel.setCell (by simp) _⟩)
  case rest =>
  clear Q R bel
  rename World => wx1
  obtain ⟨Q, R, bel⟩ := hcut
  go_upto_region 2 with fail
  go_cut [] (fun wx => Q9 wx w.heap.size (.int .i64 fm) (.bool ng) (.slice p n cap) (.int .i64 T) (.bool n2) (.bool b2) (.bool pl) (.bool mi) (.bool am) ∧ Q9 wx (w.heap.size + 1) (.int .i64 0) (.bool false) (.slice none 0 0) (.int .i64 0) (.bool false) (.bool false) (.bool false) (.bool false) (.bool false) ∧ Below w.heap.size w wx)
  case first =>
    have e1 := Q.c5
    have e2 := Q.f5
    cases bd with
    | true =>
      go_wp2_with fail; go_meet; (have hh := H5.out; simp at hh; subst hh; exact ⟨Q.set5' _, R.other (by simp) _, bel.setCell (by simp) _⟩)
    | false =>
      go_wp2_with fail; go_meet; (have hh := H5.out; simp at hh; subst hh; exact ⟨Q.set5' _, R.other (by simp) _, bel.setCell (by simp) _⟩)
  case rest =>
  clear Q R bel
  rename World => wx2
  obtain ⟨Q, R, bel⟩ := hcut
  go_upto_region 3 with fail
  go_cut [] (fun wx => Q9 wx w.heap.size (.int .i64 fm) (.bool ng) (.slice p n cap) (.int .i64 T) (.bool n2) (.bool b2) (.bool p2) (.bool mi) (.bool am) ∧ Q9 wx (w.heap.size + 1) (.int .i64 0) (.bool false) (.slice none 0 0) (.int .i64 0) (.bool false) (.bool false) (.bool false) (.bool false) (.bool false) ∧ Below w.heap.size w wx)
  case first =>
    have e1 := Q.c6
    have e2 := Q.f6
    cases pl with
    | true =>
      go_wp2_with fail; go_meet; (have hh := H6.out; simp at hh; subst hh; exact ⟨Q.set6' _, R.other (by simp) _, bel.setCell (by simp) _⟩)
    | false =>
      cases nan with
      | true =>
        go_wp2_with fail; go_meet; (have hh := H6.out; simp at hh; subst hh; exact ⟨Q.set6' _, R.other (by simp) _, bel.setCell (by simp) _⟩)
      | false =>
        go_wp2_with fail; go_meet; (have hh := H6.out; simp at hh; subst hh; exact ⟨Q.set6' _, R.other (by simp) _, bel.setCell (by simp) _⟩)
  case rest =>
  clear Q R bel
  rename World => wx3
  obtain ⟨Q, R, bel⟩ := hcut
  go_upto_region 4 with fail
  go_cut [] (fun wx => Q9 wx w.heap.size (.int .i64 fm) (.bool ng) (.slice p n cap) (.int .i64 T) (.bool n2) (.bool b2) (.bool p2) (.bool m2) (.bool am) ∧ Q9 wx (w.heap.size + 1) (.int .i64 0) (.bool false) (.slice none 0 0) (.int .i64 0) (.bool false) (.bool false) (.bool false) (.bool false) (.bool false) ∧ Below w.heap.size w wx)
  case first =>
    have e1 := Q.c7
    have e2 := Q.f7
    cases mi with
    | true =>
      go_wp2_with fail; go_meet; (have hh := H7.out; simp at hh; subst hh; exact ⟨Q.set7' _, R.other (by simp) _, bel.setCell (by simp) _⟩)
    | false =>
      cases nan with
      | true =>
        go_wp2_with fail; go_meet; (have hh := H7.out; simp at hh; subst hh; exact ⟨Q.set7' _, R.other (by simp) _, bel.setCell (by simp) _⟩)
      | false =>
        go_wp2_with fail; go_meet; (have hh := H7.out; simp at hh; subst hh; exact ⟨Q.set7' _, R.other (by simp) _, bel.setCell (by simp) _⟩)
  case rest =>
  clear Q R bel
  rename World => wx4
  obtain ⟨Q, R, bel⟩ := hcut
  obtain ⟨c0, c1, c2, c3, c4, c5, c6, c7, c8⟩ := Q.cs
  go_wp2_with fail
  refine (CZ.out _).mono ?_
  rintro e w5 ⟨rfl, hb5⟩
  clear c0 c1 c2 c3 c4 c5 c6 c7 c8
  obtain ⟨r0, r1, r2, r3, r4, r5, r6, r7, r8, f0, f1, f2, f3, f4, f5, f6, f7, f8⟩ := R.below hb5
  go_wp2
  refine bodyPost_ret (v := .agg #[.int .i64 fm, .bool ng, .slice p n cap, .int .i64 T2, .bool n2, .bool b2, .bool p2, .bool m2, .bool false]) (by simp [results, Tryz.results56, go_sem, r0, r1, r2, r3, r4, r5, r6, r7, r8]) rfl ⟨rfl, ?_⟩
  exact (by (repeat with_reducible first | refine Below.setCell ?_ ?_ _ | exact bz0 _ _ | refine bz1 ?_ | refine bz2 ?_ _ | refine bz3 ?_ _ | refine bz4 ?_ hb5 | refine bz4 ?_ bel | refine Below.alloc ?_ ?_ _ | refine Below.trans ?_ (Below.mono hb5 ?_) | refine Below.trans ?_ (Below.mono bel ?_)) <;> first | omega | (simp; done) | (simp; omega))
theorem accok_impl (fm : Int) (ng : Bool) (T : Int) (nn bd pl mi am : Bool) (p : Option Addr) (cap : Nat) (zs : List Int) (w : World) (hT : Tab w) (hs : Sl .u32 w (.slice p zs.length cap) zs) (hl : zs.length ≤ 1048576) :
    Calls Tryz.prog 131 #[.agg #[.int .i64 fm, .bool ng, .slice p zs.length cap, .int .i64 T, .bool nn, .bool bd, .bool pl, .bool mi, .bool am]] w fun e w' => e = .returned (.bool (accB fm ng zs T nn bd pl mi am)) ∧ Below w.heap.size w w' := by
  have C := hid (fun w' h h' => right_any fm ng T nn bd pl mi am p cap zs w' h h' hl)
  obtain ⟨r, hr⟩ : ∃ r, r = accB fm ng zs T nn bd pl mi am := ⟨_, rfl⟩
  rw [← hr] at C ⊢
  clear hr
  go_enter Tryz.func131, Tryz.ntmps131
  go_wp2_with fail
  refine (tally_any fm ng T nn bd pl mi am p zs.length cap _).mono ?_
  rintro e w1 ⟨rfl, hb1⟩
  go_wp2_with fail
  refine (C.out _ ((tab_al hT _).below hb1) ((hs.alloc _).below hb1)).mono ?_
  rintro e w2 ⟨rfl, hb2⟩
  go_wp2
  go_ret
  exact ⟨rfl, (by repeat (first | exact bz0 _ _ | refine bz1 ?_ | refine bz2 ?_ _ | refine bz3 ?_ _ | refine bz4 ?_ hb2 | refine bz4 ?_ hb1 | refine bz5 ?_ _ | refine bz6 ?_ _ | refine bz7 ?_ hb2 | refine bz7 ?_ hb1))⟩
theorem okis {ng : Bool} {zs : List Int} (hd : Nm.Dg zs) (h : okB ng zs = true) : Nm.wn (Nm.wv ng zs) = ng ∧ Nm.wl (Nm.wv ng zs) = zs := by
  obtain ⟨h1, h2⟩ := okB_nz h
  rw [Nm.wn_wv ng hd, Nm.wl_wv ng hd, Nm.trim_eq hd h1]
  refine ⟨?_, rfl⟩
  by_cases h0 : zs.length = 0
  · unfold okB at h
    rw [if_pos h0] at h
    rw [decide_eq_true h0]
    cases ng <;> simp at h ⊢
  · rw [decide_eq_false h0]; simp
theorem copy_any (fm : Int) (ng : Bool) (T : Int) (nn bd pl mi am : Bool) (p : Option Addr) (cap : Nat) (zs : List Int) (w : World) (hs : Sl .u32 w (.slice p zs.length cap) zs) (hz : Nm.Dg zs) (hl : zs.length ≤ 1048576) (hk : okB ng zs = true) :
    Calls Tryz.prog 51 #[.agg #[.int .i64 fm, .bool ng, .slice p zs.length cap, .int .i64 T, .bool nn, .bool bd, .bool pl, .bool mi, .bool am]] w fun e w' => ∃ a' c', e = .returned (.agg #[.int .i64 fm, .bool ng, .slice a' zs.length c', .int .i64 T, .bool nn, .bool bd, .bool pl, .bool mi, .bool am]) ∧ Own w' w.heap.size a' c' zs ∧ Below w.heap.size w w' := by
  have CM := hid (fun w' h => made_v ng p cap zs w' h hz hl _ rfl)
  obtain ⟨e1, e2⟩ := okis hz hk
  rw [e1, e2] at CM
  clear e1 e2 hk
  go_enter Tryz.func51, Tryz.ntmps51
  go_wp2_with fail
  refine (CM.out _ ((hs.alloc _).alloc _)).mono ?_
  rintro e w1 ⟨a2, c2', rfl, ho2, hb1⟩
  have rr := (Q9.new2 w (.cells #[.int .i64 fm, .bool ng, .slice p zs.length cap, .int .i64 T, .bool nn, .bool bd, .bool pl, .bool mi, .bool am] 31) (.int .i64 0) (.bool false) (.slice none 0 0) (.int .i64 0) (.bool false) (.bool false) (.bool false) (.bool false) (.bool false) 31).below hb1
  have qq := ((Q9.new w (.int .i64 fm) (.bool ng) (.slice p zs.length cap) (.int .i64 T) (.bool nn) (.bool bd) (.bool pl) (.bool mi) (.bool am) 31).alloc _).below hb1
  have bel1 : Below w.heap.size w w1 := (by repeat (first | exact bz0 _ _ | refine bz1 ?_ | refine bz2 ?_ _ | refine bz3 ?_ _ | refine bz4 ?_ hb1 | refine bz5 ?_ _ | refine bz6 ?_ _ | refine bz7 ?_ hb1))
  have lr := rr.lt
  obtain ⟨r0, r1, r2, r3, r4, r5, r6, r7, r8, f0, f1, f2, f3, f4, f5, f6, f7, f8⟩ := rr
  obtain ⟨c0, c1, c2, c3, c4, c5, c6, c7, c8, g0, g1, g2, g3, g4, g5, g6, g7, g8⟩ := qq
  have ho2 : Own w1 (w.heap.size + 1 + 1) a2 c2' zs := by simpa using ho2
  clear hb1 CM
  go_wp2
  refine bodyPost_ret (v := .agg #[.int .i64 fm, .bool ng, .slice a2 zs.length c2', .int .i64 T, .bool nn, .bool bd, .bool pl, .bool mi, .bool am]) (by simp [results, Tryz.results51, go_sem, r0, r1, r2, r3, r4, r5, r6, r7, r8]) rfl ⟨a2, c2', rfl, ?_, ?_⟩
  · refine Own.base (B := w.heap.size + 1 + 1) ?_ (by omega)
    repeat (first | with_reducible exact ho2 | (with_reducible refine Own.setBelow ?_ ?_ _; rotate_left; (simp; try omega)))
  · exact (by (repeat with_reducible first | refine Below.setCell ?_ ?_ _ | exact bz0 _ _ | refine bz1 ?_ | refine bz2 ?_ _ | refine bz3 ?_ _ | refine bz4 ?_ bel1 | refine Below.alloc ?_ ?_ _ | refine Below.trans ?_ (Below.mono bel1 ?_)) <;> first | omega | (simp; done) | (simp; omega))
/-- Whether all of the terms of both are zeros below 0. -/
def amW (T : Int) (am : Bool) (T' : Int) (am' : Bool) : Bool := am && (am' || decide (T' = 0)) || decide (T = 0) && am'
theorem mk_am {T : Int} {nn bd pl mi am : Bool} (h : mkB T nn bd pl mi am = true) : (am = true → nn = false ∧ bd = false ∧ pl = false ∧ mi = false) ∧ (bd = true → nn = true) ∧ (T = 0 → nn = false ∧ bd = false ∧ pl = false ∧ mi = false ∧ am = false) := by
  unfold mkB at h
  by_cases h0 : T = 0
  · rw [decide_eq_true h0] at h
    revert h
    cases nn <;> cases bd <;> cases pl <;> cases mi <;> cases am <;> simp
  · rw [decide_eq_false h0] at h
    revert h
    cases nn <;> cases bd <;> cases pl <;> cases mi <;> cases am <;> simp [h0]
theorem mwith (T : Int) (nn bd pl mi am : Bool) (T' : Int) (nn' bd' pl' mi' am' : Bool) (w : World) (hk : mkB T nn bd pl mi am = true) (h0' : 0 ≤ T') (h1' : T' ≤ 1000000) (V : Value) (hV : V = .agg #[.int .i64 (T + T'), .bool (nn || nn'), .bool (bd || bd'), .bool (pl || pl'), .bool (mi || mi'), .bool (amW T am T' am')]) :
    Calls Tryz.prog 136 #[.agg #[.int .i64 T, .bool nn, .bool bd, .bool pl, .bool mi, .bool am], .agg #[.int .i64 T', .bool nn', .bool bd', .bool pl', .bool mi', .bool am']] w fun e w' => e = .returned V ∧ Below w.heap.size w w' := by
  have HV := hid hV
  clear hV
  obtain ⟨ham, hbn, hT0⟩ := mk_am hk
  obtain ⟨h0, h1⟩ := mkB_T hk
  clear hk
  by_cases ht : T = 0
  · subst ht
    obtain ⟨rfl, rfl, rfl, rfl, rfl⟩ := hT0 rfl
    clear ham hbn hT0
    go_enter Tryz.func136, Tryz.ntmps136
    go_wp2
    refine bodyPost_ret (v := V) (by rw [HV.out]; simp [results, Tryz.results136, go_sem, amW]) rfl ⟨rfl, ?_⟩
    exact (by (repeat with_reducible first | refine Below.setCell ?_ ?_ _ | exact bz0 _ _ | refine bz1 ?_ | refine bz2 ?_ _ | refine bz3 ?_ _ | refine Below.alloc ?_ ?_ _) <;> first | omega | (simp; done) | (simp; omega))
  clear hT0
  have hb : (T == 0) = false := by simpa using ht
  cases am with
  | true =>
    obtain ⟨rfl, rfl, rfl, rfl⟩ := ham rfl
    clear ham hbn
    cases am' with
    | true =>
      go_enter Tryz.func136, Tryz.ntmps136
      go_wp2
      refine bodyPost_ret (v := V) (by rw [HV.out]; simp [results, Tryz.results136, go_sem, amW, ht]) rfl ⟨rfl, ?_⟩
      exact (by (repeat with_reducible first | refine Below.setCell ?_ ?_ _ | exact bz0 _ _ | refine bz1 ?_ | refine bz2 ?_ _ | refine bz3 ?_ _ | refine Below.alloc ?_ ?_ _) <;> first | omega | (simp; done) | (simp; omega))
    | false =>
      by_cases ht' : T' = 0
      · subst ht'
        go_enter Tryz.func136, Tryz.ntmps136
        go_wp2
        refine bodyPost_ret (v := V) (by rw [HV.out]; simp [results, Tryz.results136, go_sem, amW, ht]) rfl ⟨rfl, ?_⟩
        exact (by (repeat with_reducible first | refine Below.setCell ?_ ?_ _ | exact bz0 _ _ | refine bz1 ?_ | refine bz2 ?_ _ | refine bz3 ?_ _ | refine Below.alloc ?_ ?_ _) <;> first | omega | (simp; done) | (simp; omega))
      · have hb' : (T' == 0) = false := by simpa using ht'
        go_enter Tryz.func136, Tryz.ntmps136
        go_wp2
        refine bodyPost_ret (v := V) (by rw [HV.out]; simp [results, Tryz.results136, go_sem, amW, ht', ht]) rfl ⟨rfl, ?_⟩
        exact (by (repeat with_reducible first | refine Below.setCell ?_ ?_ _ | exact bz0 _ _ | refine bz1 ?_ | refine bz2 ?_ _ | refine bz3 ?_ _ | refine Below.alloc ?_ ?_ _) <;> first | omega | (simp; done) | (simp; omega))
  | false =>
    clear ham
    cases nn with
    | true =>
      clear hbn
      cases bd <;> cases pl <;> cases mi <;>
      · go_enter Tryz.func136, Tryz.ntmps136
        go_wp2
        refine bodyPost_ret (v := V) (by rw [HV.out]; simp [results, Tryz.results136, go_sem, amW, ht]) rfl ⟨rfl, ?_⟩
        exact (by (repeat with_reducible first | refine Below.setCell ?_ ?_ _ | exact bz0 _ _ | refine bz1 ?_ | refine bz2 ?_ _ | refine bz3 ?_ _ | refine Below.alloc ?_ ?_ _) <;> first | omega | (simp; done) | (simp; omega))
    | false =>
      have hbd : bd = false := by cases bd; rfl; exact absurd (hbn rfl) (by decide)
      subst hbd
      clear hbn
      cases pl <;> cases mi <;>
      · go_enter Tryz.func136, Tryz.ntmps136
        go_wp2
        refine bodyPost_ret (v := V) (by rw [HV.out]; simp [results, Tryz.results136, go_sem, amW, ht]) rfl ⟨rfl, ?_⟩
        exact (by (repeat with_reducible first | refine Below.setCell ?_ ?_ _ | exact bz0 _ _ | refine bz1 ?_ | refine bz2 ?_ _ | refine bz3 ?_ _ | refine Below.alloc ?_ ?_ _) <;> first | omega | (simp; done) | (simp; omega))
theorem tacc (fm : Int) (ng : Bool) (T : Int) (nn bd pl mi am : Bool) (v : Value) (w : World) (hv : ∃ a n c, v = .slice a n c) :
    Calls Tryz.prog 69 #[.agg #[.int .i64 T, .bool nn, .bool bd, .bool pl, .bool mi, .bool am, .int .i64 fm, .bool ng, v]] w fun e w' => e = .returned (.agg #[.int .i64 fm, .bool ng, v, .int .i64 T, .bool nn, .bool bd, .bool pl, .bool mi, .bool am]) ∧ Below w.heap.size w w' := by
  obtain ⟨a, n, c, rfl⟩ := hv
  go_enter Tryz.func69, Tryz.ntmps69
  go_wp2
  refine bodyPost_ret (v := .agg #[.int .i64 fm, .bool ng, .slice a n c, .int .i64 T, .bool nn, .bool bd, .bool pl, .bool mi, .bool am]) (by simp [results, Tryz.results69, go_sem]) rfl ⟨rfl, ?_⟩
  exact (by (repeat with_reducible first | refine Below.setCell ?_ ?_ _ | exact bz0 _ _ | refine bz1 ?_ | refine bz2 ?_ _ | refine bz3 ?_ _ | refine Below.alloc ?_ ?_ _) <;> first | omega | (simp; done) | (simp; omega))
theorem acc_parts' {fm : Int} {ng : Bool} {zs : List Int} {T : Int} {nn bd pl mi am : Bool} (h : accB fm ng zs T nn bd pl mi am = true) : fmtB fm = true ∧ mkB T nn bd pl mi am = true ∧ okB ng zs = true ∧ cmpL zs (Nm.lim (far fm T)) ≤ 0 := by
  unfold accB at h
  simp only [Bool.and_eq_true, decide_eq_true_eq] at h
  exact ⟨h.1.1.1.1, h.1.1.1.2, h.1.1.2, h.1.2⟩
theorem Q9.set2 {w : World} {b : Nat} {v0 v1 v2 v3 v4 v5 v6 v7 v8 : Value} (h : Q9 w b v0 v1 v2 v3 v4 v5 v6 v7 v8) (u : Value) : Q9 (w.setCell ⟨b, 2, none⟩ u) b v0 v1 u v3 v4 v5 v6 v7 v8 := by
  obtain ⟨c0, c1, c2, c3, c4, c5, c6, c7, c8, f0, f1, f2, f3, f4, f5, f6, f7, f8⟩ := h
  exact ⟨by simp [go_sem, c0, c2], by simp [go_sem, c1, c2], by simp [go_sem, c2, c2], by simp [go_sem, c3, c2], by simp [go_sem, c4, c2], by simp [go_sem, c5, c2], by simp [go_sem, c6, c2], by simp [go_sem, c7, c2], by simp [go_sem, c8, c2], by simp [go_sem, f0], by simp [go_sem, f1], by simp [go_sem, f2], by simp [go_sem, f3], by simp [go_sem, f4], by simp [go_sem, f5], by simp [go_sem, f6], by simp [go_sem, f7], by simp [go_sem, f8]⟩
end Go.Proofs.YtnliofakkkjpoaaGreatDoor
