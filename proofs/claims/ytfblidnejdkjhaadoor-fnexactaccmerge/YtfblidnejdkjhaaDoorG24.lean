/-
  Several texts in one: LNeg, WideN, AccF, LAccNeg, AccH.
-/
import Derived.Test.YtfblidnejdkjhaaDoorG07
import Derived.Deep.RegionHeld3
import Derived.Test.YtfblidnejdkjhaaDoorG22
/-
  The walk of laws.FnExactWideNegated, out of contracts.
-/
namespace Go.Proofs.YtfblidnejdkjhaaDoor
set_option linter.unusedVariables false
set_option linter.unusedSimpArgs false
open Go.RowKit Go.Deep
namespace LWideNegated
theorem keep4 {w w' : World} {b b' : Nat} {v0 v1 u0 u1 : Value} (h0 : w.cell? ⟨b, 0, none⟩ = some v0) (h1 : w.cell? ⟨b, 1, none⟩ = some v1) (k0 : w.cell? ⟨b', 0, none⟩ = some u0) (k1 : w.cell? ⟨b', 1, none⟩ = some u1) (hb : Below w.heap.size w w') :
    w'.cell? ⟨b, 0, none⟩ = some v0 ∧ w'.cell? ⟨b, 1, none⟩ = some v1 ∧ w'.cell? ⟨b', 0, none⟩ = some u0 ∧ w'.cell? ⟨b', 1, none⟩ = some u1 :=
  ⟨(Box.below ⟨h0, h1⟩ hb).1, (Box.below ⟨h0, h1⟩ hb).2, (Box.below ⟨k0, k1⟩ hb).1, (Box.below ⟨k0, k1⟩ hb).2⟩
end LWideNegated
end Go.Proofs.YtfblidnejdkjhaaDoor
/-
  0 less a wide, by the specification; the law.
-/
namespace Go.Proofs.YtfblidnejdkjhaaDoor
set_option linter.unusedVariables false
set_option linter.unusedSimpArgs false
open Go.RowKit Go.Deep
set_option maxHeartbeats 1000000 in
theorem l1neg_any (ng : Bool) (a : Option Addr) (cap : Nat) (zs : List Int) (w : World) (hs : Sl .u32 w (.slice a zs.length cap) zs) (hz : Nm.Dg zs) (hl : zs.length ≤ 1048576) (x : Int) (hx : x = Nm.wv (!ng) zs) :
    Calls Tryd.prog 43 #[.agg #[.bool ng, .slice a zs.length cap]] w fun e w' => ∃ a' c', e = .returned (.agg #[.bool (Nm.wn x), .slice a' (Nm.wl x).length c']) ∧ Own w' w.heap.size a' c' (Nm.wl x) ∧ Below w.heap.size w w' := by
  have HX := hid hx
  clear hx
  go_enter Tryd.func43, Tryd.ntmps43
  go_wp2_with fail
  refine (made_v (!ng) a cap zs _ ((hs.alloc _).alloc _) hz hl x HX.out).mono ?_
  rintro e w1 ⟨a', c', rfl, ho, hb⟩
  obtain ⟨r0, r1, f0, f1⟩ := (R2.new2 w (.cells #[.bool ng, .slice a zs.length cap] 29) (.bool false) (.slice none 0 0) 29).below hb
  have ho : Own w1 (w.heap.size + 1 + 1) a' c' (Nm.wl x) := by simpa using ho
  go_wp2
  refine bodyPost_ret (v := .agg #[.bool (Nm.wn x), .slice a' (Nm.wl x).length c']) (by simp [results, Tryd.results43, go_sem, r0, r1]) rfl ⟨a', c', rfl, ?_, (by repeat (first | exact Below.refl _ _ | refine Below.drew ?_ | refine bel_dn ?_ _ | refine bel_al ?_ _ | refine bel_go ?_ hb | refine Below.setCell ?_ (by first | omega | (simp; done) | (simp; omega)) _ | refine Below.alloc ?_ (by first | omega | (simp; done) | (simp; omega)) _ | refine Below.trans ?_ (Below.mono hb (by first | omega | (simp; done) | (simp; omega)))))⟩
  exact Own.base ((ho.setBelow (by simp) _).setBelow (by simp) _) (by omega)
theorem neg_200 (ng : Bool) {zs : List Int} (hd : Nm.Dg zs) : (negL ng zs).length ≤ 200 ∧ Nm.Dg (negL ng zs) := by
  unfold negL
  split
  · rename_i h
    have := ok_fits hd h (!ng)
    exact ⟨by simpa [Nm.fits] using this, Nm.wl_dg _⟩
  · exact ⟨by simp, Nm.Dg.nil⟩
end Go.Proofs.YtfblidnejdkjhaaDoor
/-
  An accumulator with its sign turned: by the program and by the specification.
-/
namespace Go.Proofs.YtfblidnejdkjhaaDoor
set_option linter.unusedVariables false
set_option linter.unusedSimpArgs false
open Go.RowKit Go.Deep
theorem acc_ok' {fm : Int} {ng : Bool} {zs : List Int} {T : Int} {nn bd pl mi am : Bool} (h : accB fm ng zs T nn bd pl mi am = true) : okB ng zs = true := by
  cases ho : okB ng zs
  · rw [acc_no ho] at h; exact h
  · rfl
theorem okis {ng : Bool} {zs : List Int} (hd : Nm.Dg zs) (h : okB ng zs = true) : Nm.wn (Nm.wv ng zs) = ng ∧ Nm.wl (Nm.wv ng zs) = zs := by
  obtain ⟨h1, h2⟩ := okB_nz h
  rw [Nm.wn_wv ng hd, Nm.wl_wv ng hd, Nm.trim_eq hd h1]
  refine ⟨?_, rfl⟩
  by_cases h0 : zs.length = 0
  · unfold okB at h
    rw [if_pos h0] at h
    rw [decide_eq_true h0]
    cases ng <;> simp at h ⊢
  · rw [decide_eq_false h0]; simp
/-- The accumulator's zero value. -/
def A0 : Value := .agg #[.int .i64 0, .bool false, .slice none 0 0, .int .i64 0, .bool false, .bool false, .bool false, .bool false, .bool false]
theorem Q9.new2 (w : World) (o : Obj) (v0 v1 v2 v3 v4 v5 v6 v7 v8 : Value) (t : TypeId) : Q9 ((w.alloc o).alloc (.cells #[v0, v1, v2, v3, v4, v5, v6, v7, v8] t)) (w.heap.size + 1) v0 v1 v2 v3 v4 v5 v6 v7 v8 := by simpa using Q9.new (w.alloc o) v0 v1 v2 v3 v4 v5 v6 v7 v8 t
set_option maxHeartbeats 4000000 in
set_option maxRecDepth 100000 in
theorem neg_spec_no (fm : Int) (ng : Bool) (T : Int) (nn bd pl mi am : Bool) (p : Option Addr) (cap : Nat) (zs : List Int) (w : World) (hs : Sl .u32 w (.slice p zs.length cap) zs) (hl : zs.length ≤ 1048576) (hk : accB fm ng zs T nn bd pl mi am = false) :
    Calls Tryd.prog 17 #[.agg #[.int .i64 fm, .bool ng, .slice p zs.length cap, .int .i64 T, .bool nn, .bool bd, .bool pl, .bool mi, .bool am]] w fun e w' => e = .returned A0 ∧ Below w.heap.size w w' := by
  have C := hid (accok_spec fm ng T nn bd pl mi am p cap zs ((w.alloc (.cells #[.int .i64 fm, .bool ng, .slice p zs.length cap, .int .i64 T, .bool nn, .bool bd, .bool pl, .bool mi, .bool am] 31)).alloc (.cells #[.int .i64 0, .bool false, .slice none 0 0, .int .i64 0, .bool false, .bool false, .bool false, .bool false, .bool false] 31)) ((hs.alloc _).alloc _) hl)
  rw [hk] at C
  clear hk
  go_enter Tryd.func17, Tryd.ntmps17
  go_wp2_with fail
  refine C.out.mono ?_
  rintro e w1 ⟨rfl, hb1⟩
  obtain ⟨r0, r1, r2, r3, r4, r5, r6, r7, r8, f0, f1, f2, f3, f4, f5, f6, f7, f8⟩ := (Q9.new2 w (.cells #[.int .i64 fm, .bool ng, .slice p zs.length cap, .int .i64 T, .bool nn, .bool bd, .bool pl, .bool mi, .bool am] 31) (.int .i64 0) (.bool false) (.slice none 0 0) (.int .i64 0) (.bool false) (.bool false) (.bool false) (.bool false) (.bool false) 31).below hb1
  go_wp2
  refine bodyPost_ret (v := A0) (by simp [results, Tryd.results17, go_sem, r0, r1, r2, r3, r4, r5, r6, r7, r8, A0]) rfl ⟨rfl, ?_⟩
  exact (by repeat (first | (with_reducible refine Below.setCell ?_ ?_ _; rotate_left; focus (first | omega | (simp; done) | (simp; omega))) | (with_reducible exact Below.refl _ _) | (with_reducible refine Below.drew ?_) | (with_reducible refine bel_dn ?_ _) | (with_reducible refine bel_al ?_ _) | (with_reducible refine bel_go ?_ hb1) | (with_reducible refine Below.alloc ?_ ?_ _; rotate_left; focus (first | omega | (simp; done) | (simp; omega))) | (with_reducible refine Below.trans ?_ (Below.mono hb1 ?_); rotate_left; focus (first | omega | (simp; done) | (simp; omega)))))
set_option maxHeartbeats 4000000 in
set_option maxRecDepth 100000 in
theorem neg_impl_no (fm : Int) (ng : Bool) (T : Int) (nn bd pl mi am : Bool) (p : Option Addr) (cap : Nat) (zs : List Int) (w : World) (hT : Tab w) (hs : Sl .u32 w (.slice p zs.length cap) zs) (hl : zs.length ≤ 1048576) (hk : accB fm ng zs T nn bd pl mi am = false) :
    Calls Tryd.prog 18 #[.agg #[.int .i64 fm, .bool ng, .slice p zs.length cap, .int .i64 T, .bool nn, .bool bd, .bool pl, .bool mi, .bool am]] w fun e w' => e = .returned A0 ∧ Below w.heap.size w w' := by
  have C := hid (accok_impl fm ng T nn bd pl mi am p cap zs ((w.alloc (.cells #[.int .i64 fm, .bool ng, .slice p zs.length cap, .int .i64 T, .bool nn, .bool bd, .bool pl, .bool mi, .bool am] 31)).alloc (.cells #[.int .i64 0, .bool false, .slice none 0 0, .int .i64 0, .bool false, .bool false, .bool false, .bool false, .bool false] 31)) ((tab_al (tab_al hT _) _)) ((hs.alloc _).alloc _) hl)
  rw [hk] at C
  clear hk
  go_enter Tryd.func18, Tryd.ntmps18
  go_wp2_with fail
  refine C.out.mono ?_
  rintro e w1 ⟨rfl, hb1⟩
  obtain ⟨r0, r1, r2, r3, r4, r5, r6, r7, r8, f0, f1, f2, f3, f4, f5, f6, f7, f8⟩ := (Q9.new2 w (.cells #[.int .i64 fm, .bool ng, .slice p zs.length cap, .int .i64 T, .bool nn, .bool bd, .bool pl, .bool mi, .bool am] 31) (.int .i64 0) (.bool false) (.slice none 0 0) (.int .i64 0) (.bool false) (.bool false) (.bool false) (.bool false) (.bool false) 31).below hb1
  go_wp2
  refine bodyPost_ret (v := A0) (by simp [results, Tryd.results18, go_sem, r0, r1, r2, r3, r4, r5, r6, r7, r8, A0]) rfl ⟨rfl, ?_⟩
  exact (by repeat (first | (with_reducible refine Below.setCell ?_ ?_ _; rotate_left; focus (first | omega | (simp; done) | (simp; omega))) | (with_reducible exact Below.refl _ _) | (with_reducible refine Below.drew ?_) | (with_reducible refine bel_dn ?_ _) | (with_reducible refine bel_al ?_ _) | (with_reducible refine bel_go ?_ hb1) | (with_reducible refine Below.alloc ?_ ?_ _; rotate_left; focus (first | omega | (simp; done) | (simp; omega))) | (with_reducible refine Below.trans ?_ (Below.mono hb1 ?_); rotate_left; focus (first | omega | (simp; done) | (simp; omega)))))
set_option maxHeartbeats 4000000 in
set_option maxRecDepth 100000 in
theorem neg_impl_yes (fm : Int) (ng : Bool) (T : Int) (nn bd pl mi am : Bool) (p : Option Addr) (cap : Nat) (zs : List Int) (w : World) (hT : Tab w) (hs : Sl .u32 w (.slice p zs.length cap) zs) (hz : Nm.Dg zs) (hl : zs.length ≤ 1048576) (hk : accB fm ng zs T nn bd pl mi am = true) :
    Calls Tryd.prog 18 #[.agg #[.int .i64 fm, .bool ng, .slice p zs.length cap, .int .i64 T, .bool nn, .bool bd, .bool pl, .bool mi, .bool am]] w fun e w' => ∃ a' c', e = .returned (.agg #[.int .i64 fm, .bool (negN ng zs), .slice a' (negL ng zs).length c', .int .i64 T, .bool nn, .bool bd, .bool mi, .bool pl, .bool false]) ∧ Own w' w.heap.size a' c' (negL ng zs) ∧ Below w.heap.size w w' := by
  have C := hid (accok_impl fm ng T nn bd pl mi am p cap zs ((w.alloc (.cells #[.int .i64 fm, .bool ng, .slice p zs.length cap, .int .i64 T, .bool nn, .bool bd, .bool pl, .bool mi, .bool am] 31)).alloc (.cells #[.int .i64 0, .bool false, .slice none 0 0, .int .i64 0, .bool false, .bool false, .bool false, .bool false, .bool false] 31)) (tab_al (tab_al hT _) _) ((hs.alloc _).alloc _) hl)
  rw [hk] at C
  clear hk
  have CN := hid (fun w' h => wneg_impl ng p cap zs w' h hz hl)
  obtain ⟨G, hG⟩ : ∃ G, G = negN ng zs := ⟨_, rfl⟩
  obtain ⟨L, hL⟩ : ∃ L, L = negL ng zs := ⟨_, rfl⟩
  rw [← hG, ← hL] at CN ⊢
  clear hG hL
  go_enter Tryd.func18, Tryd.ntmps18
  go_wp2_with fail
  refine C.out.mono ?_
  rintro e w1 ⟨rfl, hb1⟩
  have rr := (Q9.new2 w (.cells #[.int .i64 fm, .bool ng, .slice p zs.length cap, .int .i64 T, .bool nn, .bool bd, .bool pl, .bool mi, .bool am] 31) (.int .i64 0) (.bool false) (.slice none 0 0) (.int .i64 0) (.bool false) (.bool false) (.bool false) (.bool false) (.bool false) 31).below hb1
  have qq := ((Q9.new w (.int .i64 fm) (.bool ng) (.slice p zs.length cap) (.int .i64 T) (.bool nn) (.bool bd) (.bool pl) (.bool mi) (.bool am) 31).alloc _).below hb1
  have s1 := ((hs.alloc _).alloc _).below hb1
  have bel1 : Below w.heap.size w w1 := (by repeat (first | exact Below.refl _ _ | refine Below.drew ?_ | refine bel_dn ?_ _ | refine bel_al ?_ _ | refine bel_go ?_ hb1 | refine Below.setCell ?_ (by first | omega | (simp; done) | (simp; omega)) _ | refine Below.alloc ?_ (by first | omega | (simp; done) | (simp; omega)) _ | refine Below.trans ?_ (Below.mono hb1 (by first | omega | (simp; done) | (simp; omega)))))
  clear hb1 C
  have qq' := qq
  obtain ⟨c0, c1, c2, c3, c4, c5, c6, c7, c8⟩ := qq'.cs
  go_wp2_with fail
  refine (CN.out _ s1).mono ?_
  rintro e w2 ⟨a2, c2', rfl, ho2, hb2⟩
  clear c0 c1 c2 c3 c4 c5 c6 c7 c8
  have lr := rr.lt
  obtain ⟨r0, r1, r2, r3, r4, r5, r6, r7, r8, f0, f1, f2, f3, f4, f5, f6, f7, f8⟩ := rr.below hb2
  obtain ⟨c0, c1, c2, c3, c4, c5, c6, c7, c8, g0, g1, g2, g3, g4, g5, g6, g7, g8⟩ := qq.below hb2
  clear rr qq s1 CN
  have bel2 := bel_go bel1 hb2
  have z2 := hb2.size
  clear hb2
  go_wp2
  refine bodyPost_ret (v := .agg #[.int .i64 fm, .bool G, .slice a2 L.length c2', .int .i64 T, .bool nn, .bool bd, .bool mi, .bool pl, .bool false]) (by simp [results, Tryd.results18, go_sem, r0, r1, r2, r3, r4, r5, r6, r7, r8]) rfl ⟨a2, c2', rfl, ?_, ?_⟩
  · refine Own.base (B := w1.heap.size) ?_ (by omega)
    repeat (first | with_reducible exact ho2 | (with_reducible refine Own.setBelow ?_ ?_ _; rotate_left; (simp; try omega)))
  · exact (by repeat (first | (with_reducible refine Below.setCell ?_ ?_ _; rotate_left; focus (first | omega | (simp; done) | (simp; omega))) | (with_reducible exact Below.refl _ _) | (with_reducible refine Below.drew ?_) | (with_reducible refine bel_dn ?_ _) | (with_reducible refine bel_al ?_ _) | (with_reducible refine bel_go ?_ bel2) | (with_reducible refine Below.alloc ?_ ?_ _; rotate_left; focus (first | omega | (simp; done) | (simp; omega))) | (with_reducible refine Below.trans ?_ (Below.mono bel2 ?_); rotate_left; focus (first | omega | (simp; done) | (simp; omega)))))
set_option maxHeartbeats 4000000 in
set_option maxRecDepth 100000 in
theorem copy_any (fm : Int) (ng : Bool) (T : Int) (nn bd pl mi am : Bool) (p : Option Addr) (cap : Nat) (zs : List Int) (w : World) (hs : Sl .u32 w (.slice p zs.length cap) zs) (hz : Nm.Dg zs) (hl : zs.length ≤ 1048576) (hk : okB ng zs = true) :
    Calls Tryd.prog 42 #[.agg #[.int .i64 fm, .bool ng, .slice p zs.length cap, .int .i64 T, .bool nn, .bool bd, .bool pl, .bool mi, .bool am]] w fun e w' => ∃ a' c', e = .returned (.agg #[.int .i64 fm, .bool ng, .slice a' zs.length c', .int .i64 T, .bool nn, .bool bd, .bool pl, .bool mi, .bool am]) ∧ Own w' w.heap.size a' c' zs ∧ Below w.heap.size w w' := by
  have CM := hid (fun w' h => made_v ng p cap zs w' h hz hl _ rfl)
  obtain ⟨e1, e2⟩ := okis hz hk
  rw [e1, e2] at CM
  clear e1 e2 hk
  go_enter Tryd.func42, Tryd.ntmps42
  go_wp2_with fail
  refine (CM.out _ ((hs.alloc _).alloc _)).mono ?_
  rintro e w1 ⟨a2, c2', rfl, ho2, hb1⟩
  have rr := (Q9.new2 w (.cells #[.int .i64 fm, .bool ng, .slice p zs.length cap, .int .i64 T, .bool nn, .bool bd, .bool pl, .bool mi, .bool am] 31) (.int .i64 0) (.bool false) (.slice none 0 0) (.int .i64 0) (.bool false) (.bool false) (.bool false) (.bool false) (.bool false) 31).below hb1
  have qq := ((Q9.new w (.int .i64 fm) (.bool ng) (.slice p zs.length cap) (.int .i64 T) (.bool nn) (.bool bd) (.bool pl) (.bool mi) (.bool am) 31).alloc _).below hb1
  have bel1 : Below w.heap.size w w1 := (by repeat (first | exact Below.refl _ _ | refine Below.drew ?_ | refine bel_dn ?_ _ | refine bel_al ?_ _ | refine bel_go ?_ hb1 | refine Below.setCell ?_ (by first | omega | (simp; done) | (simp; omega)) _ | refine Below.alloc ?_ (by first | omega | (simp; done) | (simp; omega)) _ | refine Below.trans ?_ (Below.mono hb1 (by first | omega | (simp; done) | (simp; omega)))))
  have lr := rr.lt
  obtain ⟨r0, r1, r2, r3, r4, r5, r6, r7, r8, f0, f1, f2, f3, f4, f5, f6, f7, f8⟩ := rr
  obtain ⟨c0, c1, c2, c3, c4, c5, c6, c7, c8, g0, g1, g2, g3, g4, g5, g6, g7, g8⟩ := qq
  have ho2 : Own w1 (w.heap.size + 1 + 1) a2 c2' zs := by simpa using ho2
  clear hb1 CM
  go_wp2
  refine bodyPost_ret (v := .agg #[.int .i64 fm, .bool ng, .slice a2 zs.length c2', .int .i64 T, .bool nn, .bool bd, .bool pl, .bool mi, .bool am]) (by simp [results, Tryd.results42, go_sem, r0, r1, r2, r3, r4, r5, r6, r7, r8]) rfl ⟨a2, c2', rfl, ?_, ?_⟩
  · refine Own.base (B := w.heap.size + 1 + 1) ?_ (by omega)
    repeat (first | with_reducible exact ho2 | (with_reducible refine Own.setBelow ?_ ?_ _; rotate_left; (simp; try omega)))
  · exact (by repeat (first | (with_reducible refine Below.setCell ?_ ?_ _; rotate_left; focus (first | omega | (simp; done) | (simp; omega))) | (with_reducible exact Below.refl _ _) | (with_reducible refine Below.drew ?_) | (with_reducible refine bel_dn ?_ _) | (with_reducible refine bel_al ?_ _) | (with_reducible refine bel_go ?_ bel1) | (with_reducible refine Below.alloc ?_ ?_ _; rotate_left; focus (first | omega | (simp; done) | (simp; omega))) | (with_reducible refine Below.trans ?_ (Below.mono bel1 ?_); rotate_left; focus (first | omega | (simp; done) | (simp; omega)))))
set_option maxHeartbeats 4000000 in
set_option maxRecDepth 100000 in
theorem neg_spec_yes (fm : Int) (ng : Bool) (T : Int) (nn bd pl mi am : Bool) (p : Option Addr) (cap : Nat) (zs : List Int) (w : World) (hs : Sl .u32 w (.slice p zs.length cap) zs) (hz : Nm.Dg zs) (hl : zs.length ≤ 1048576) (hk : accB fm ng zs T nn bd pl mi am = true) :
    Calls Tryd.prog 17 #[.agg #[.int .i64 fm, .bool ng, .slice p zs.length cap, .int .i64 T, .bool nn, .bool bd, .bool pl, .bool mi, .bool am]] w fun e w' => ∃ a' c', e = .returned (.agg #[.int .i64 fm, .bool (negN ng zs), .slice a' (negL ng zs).length c', .int .i64 T, .bool nn, .bool bd, .bool mi, .bool pl, .bool false]) ∧ Own w' w.heap.size a' c' (negL ng zs) ∧ Below w.heap.size w w' := by
  have C := hid (accok_spec fm ng T nn bd pl mi am p cap zs ((w.alloc (.cells #[.int .i64 fm, .bool ng, .slice p zs.length cap, .int .i64 T, .bool nn, .bool bd, .bool pl, .bool mi, .bool am] 31)).alloc (.cells #[.int .i64 0, .bool false, .slice none 0 0, .int .i64 0, .bool false, .bool false, .bool false, .bool false, .bool false] 31)) ((hs.alloc _).alloc _) hl)
  rw [hk] at C
  have ho := acc_ok' hk
  have CC := hid (fun w' h => copy_any fm ng T nn bd pl mi am p cap zs w' h hz hl ho)
  have CN := hid (fun a c w' h => l1neg_any ng a c zs w' h hz hl _ rfl)
  obtain ⟨G, hG⟩ : ∃ G, G = negN ng zs := ⟨_, rfl⟩
  obtain ⟨L, hL⟩ : ∃ L, L = negL ng zs := ⟨_, rfl⟩
  have eG : Nm.wn (Nm.wv (!ng) zs) = G := by rw [hG]; unfold negN; rw [ho]; rfl
  have eL : Nm.wl (Nm.wv (!ng) zs) = L := by rw [hL]; unfold negL; rw [ho]; rfl
  rw [eG, eL] at CN
  rw [← hG, ← hL]
  clear hG hL eG eL hk ho
  go_enter Tryd.func17, Tryd.ntmps17
  go_wp2_with fail
  refine C.out.mono ?_
  rintro e w1 ⟨rfl, hb1⟩
  have rr := (Q9.new2 w (.cells #[.int .i64 fm, .bool ng, .slice p zs.length cap, .int .i64 T, .bool nn, .bool bd, .bool pl, .bool mi, .bool am] 31) (.int .i64 0) (.bool false) (.slice none 0 0) (.int .i64 0) (.bool false) (.bool false) (.bool false) (.bool false) (.bool false) 31).below hb1
  have qq := ((Q9.new w (.int .i64 fm) (.bool ng) (.slice p zs.length cap) (.int .i64 T) (.bool nn) (.bool bd) (.bool pl) (.bool mi) (.bool am) 31).alloc _).below hb1
  have s1 := ((hs.alloc _).alloc _).below hb1
  have bel1 : Below w.heap.size w w1 := (by repeat (first | exact Below.refl _ _ | refine Below.drew ?_ | refine bel_dn ?_ _ | refine bel_al ?_ _ | refine bel_go ?_ hb1 | refine Below.setCell ?_ (by first | omega | (simp; done) | (simp; omega)) _ | refine Below.alloc ?_ (by first | omega | (simp; done) | (simp; omega)) _ | refine Below.trans ?_ (Below.mono hb1 (by first | omega | (simp; done) | (simp; omega)))))
  clear hb1 C
  have lr := rr.lt
  have qq' := qq
  obtain ⟨c0, c1, c2, c3, c4, c5, c6, c7, c8⟩ := qq'.cs
  go_wp2_with fail
  refine (CC.out _ s1).mono ?_
  rintro e w2 ⟨a2, c2', rfl, ho2, hb2⟩
  clear c0 c1 c2 c3 c4 c5 c6 c7 c8
  have rr2 := (rr.below hb2).alloc (.cells #[.int .i64 fm, .bool ng, .slice a2 zs.length c2', .int .i64 T, .bool nn, .bool bd, .bool pl, .bool mi, .bool am] 31)
  have qq2 := (qq.below hb2).alloc (.cells #[.int .i64 fm, .bool ng, .slice a2 zs.length c2', .int .i64 T, .bool nn, .bool bd, .bool pl, .bool mi, .bool am] 31)
  have oo2 := Q9.new w2 (.int .i64 fm) (.bool ng) (.slice a2 zs.length c2') (.int .i64 T) (.bool nn) (.bool bd) (.bool pl) (.bool mi) (.bool am) 31
  have so2 := ho2.sl.alloc (.cells #[.int .i64 fm, .bool ng, .slice a2 zs.length c2', .int .i64 T, .bool nn, .bool bd, .bool pl, .bool mi, .bool am] 31)
  have bel2 : Below w.heap.size w (w2.alloc (.cells #[.int .i64 fm, .bool ng, .slice a2 zs.length c2', .int .i64 T, .bool nn, .bool bd, .bool pl, .bool mi, .bool am] 31)) := bel_al (bel_go bel1 hb2) _
  have z2 := hb2.size
  have lw2 := bel1.size
  clear rr qq s1 CC hb2 ho2 bel1
  have oo2' := oo2
  obtain ⟨c0, c1, c2, c3, c4, c5, c6, c7, c8⟩ := oo2'.cs
  go_wp2_with fail
  refine (CN.out a2 c2' _ so2).mono ?_
  rintro e w3 ⟨a3, c3', rfl, ho3, hb3⟩
  clear c0 c1 c2 c3 c4 c5 c6 c7 c8
  obtain ⟨r0, r1, r2, r3, r4, r5, r6, r7, r8, f0, f1, f2, f3, f4, f5, f6, f7, f8⟩ := rr2.below hb3
  obtain ⟨c0, c1, c2, c3, c4, c5, c6, c7, c8⟩ := (qq2.below hb3).cs
  obtain ⟨o0, o1, o2, o3, o4, o5, o6, o7, o8, g0, g1, g2, g3, g4, g5, g6, g7, g8⟩ := oo2.below hb3
  have bel3 := bel_go bel2 hb3
  have z3 := hb3.size
  have ho3 : Own w3 (w2.heap.size + 1) a3 c3' L := by simpa using ho3
  clear rr2 qq2 oo2 so2 bel2 CN hb3
  have hne1 : w.heap.size ≠ w2.heap.size := by omega
  have hne2 : w.heap.size + 1 ≠ w2.heap.size := by omega
  go_wp2
  refine bodyPost_ret (v := .agg #[.int .i64 fm, .bool G, .slice a3 L.length c3', .int .i64 T, .bool nn, .bool bd, .bool mi, .bool pl, .bool false]) (by simp [results, Tryd.results17, go_sem, r0, r1, r2, r3, r4, r5, r6, r7, r8]) rfl ⟨a3, c3', rfl, ?_, ?_⟩
  · refine Own.base (B := w2.heap.size + 1) ?_ (by omega)
    repeat (first | with_reducible exact ho3 | (with_reducible refine Own.setBelow ?_ ?_ _; rotate_left; (simp; try omega)))
  · exact (by repeat (first | (with_reducible refine Below.setCell ?_ ?_ _; rotate_left; focus (first | omega | (simp; done) | (simp; omega))) | (with_reducible exact Below.refl _ _) | (with_reducible refine Below.drew ?_) | (with_reducible refine bel_dn ?_ _) | (with_reducible refine bel_al ?_ _) | (with_reducible refine bel_go ?_ bel3) | (with_reducible refine Below.alloc ?_ ?_ _; rotate_left; focus (first | omega | (simp; done) | (simp; omega))) | (with_reducible refine Below.trans ?_ (Below.mono bel3 ?_); rotate_left; focus (first | omega | (simp; done) | (simp; omega)))))
end Go.Proofs.YtfblidnejdkjhaaDoor
/-
  The walk of laws.FnExactAccNegated, out of contracts.
-/
namespace Go.Proofs.YtfblidnejdkjhaaDoor
set_option linter.unusedVariables false
set_option linter.unusedSimpArgs false
open Go.RowKit Go.Deep
namespace LAccNegated
attribute [local go_sem ↓] Go.wp_at_zero Go.wp_at_succ
set_option maxHeartbeats 8000000 in
set_option maxRecDepth 100000 in
theorem law (fm : Int) (ng : Bool) (T : Int) (nn bd pl mi am : Bool) (a : Option Addr) (cap : Nat) (zs : List Int) (w : World) (hT : Tab w) (hs : Sl .u32 w (.slice a zs.length cap) zs) (fmr : Int) (ngr : Bool) (Tr : Int) (nnr bdr plr mir amr : Bool) (L : List Int) (O : Int) (hl200 : L.length ≤ 200) (hdg : Nm.Dg L)
    (hsp : zs.length ≤ 1048576 → ∀ (w : World) (a : Option Addr) (cap : Nat), Sl .u32 w (.slice a zs.length cap) zs → Calls Tryd.prog 17 #[.agg #[.int .i64 fm, .bool ng, .slice a zs.length cap, .int .i64 T, .bool nn, .bool bd, .bool pl, .bool mi, .bool am]] w fun e w' => ∃ a' c', e = .returned (.agg #[.int .i64 fmr, .bool ngr, .slice a' L.length c', .int .i64 Tr, .bool nnr, .bool bdr, .bool plr, .bool mir, .bool amr]) ∧ Own w' w.heap.size a' c' L ∧ Below w.heap.size w w')
    (him : zs.length ≤ 1048576 → ∀ (w : World) (a : Option Addr) (cap : Nat), Tab w → Sl .u32 w (.slice a zs.length cap) zs → Calls Tryd.prog 18 #[.agg #[.int .i64 fm, .bool ng, .slice a zs.length cap, .int .i64 T, .bool nn, .bool bd, .bool pl, .bool mi, .bool am]] w fun e w' => ∃ a' c', e = .returned (.agg #[.int .i64 fmr, .bool ngr, .slice a' L.length c', .int .i64 Tr, .bool nnr, .bool bdr, .bool plr, .bool mir, .bool amr]) ∧ Own w' w.heap.size a' c' L ∧ Below w.heap.size w w') :
    Calls Tryd.prog 5 #[.agg #[.int .i64 fm, .bool ng, .slice a zs.length cap, .int .i64 T, .bool nn, .bool bd, .bool pl, .bool mi, .bool am]] w fun e w' => e = .returned (.bool true) ∧ Below w.heap.size w w' := by
  have hlm : zs.length ≤ 9223372036854775807 := by obtain ⟨_, h1, h2, _⟩ := hs.cells; unfold maxLen at h2; omega
  by_cases hn : zs.length ≤ 1048576
  rotate_left
  · have hr' : szR 1048576 zs.length < 0 := by unfold szR; rw [if_pos (by omega)]; decide
    clear hsp him
    go_enter Tryd.func5, Tryd.ntmps5
    go_wp2_with fail
    refine (szA_any fm ng T nn bd pl mi am a zs.length cap 1048576 _ hlm (by decide) (by decide)).mono ?_
    rintro e w1 ⟨rfl, hb1⟩
    go_wp2
    go_ret
    exact ⟨rfl, (by repeat (first | exact Below.refl _ _ | refine Below.drew ?_ | refine bel_dn ?_ _ | refine bel_al ?_ _ | refine bel_go ?_ hb1 | refine Below.setCell ?_ (by first | omega | (simp; done) | (simp; omega)) _ | refine Below.alloc ?_ (by first | omega | (simp; done) | (simp; omega)) _ | refine Below.trans ?_ (Below.mono hb1 (by first | omega | (simp; done) | (simp; omega)))))⟩
  have hl : zs.length ≤ 140737488355328 := by omega
  have hr' : ¬ szR 1048576 zs.length < 0 := by unfold szR; rw [if_neg (by omega)]; omega
  have hoo : (O != O) = false := by simp
  have HSP := hid (hsp hn)
  have HIM := hid (him hn)
  have HDG := hid hdg
  have HR := hid (heldR_iot L.length : heldR 1 (iot 1 L.length) = 1 + L.length)
  clear hsp him hdg
  go_enter Tryd.func5, Tryd.ntmps5
  go_wp2_with fail
  refine (szA_any fm ng T nn bd pl mi am a zs.length cap 1048576 _ hlm (by decide) (by decide)).mono ?_
  rintro e w1 ⟨rfl, hb1⟩
  have P := (Q9.new w (.int .i64 fm) (.bool ng) (.slice a zs.length cap) (.int .i64 T) (.bool nn) (.bool bd) (.bool pl) (.bool mi) (.bool am) 26).below hb1
  have hs1 := (hs.alloc _).below hb1
  have bel1 : Below w.heap.size w w1 := (by repeat (first | exact Below.refl _ _ | refine Below.drew ?_ | refine bel_dn ?_ _ | refine bel_al ?_ _ | refine bel_go ?_ hb1 | refine Below.setCell ?_ (by first | omega | (simp; done) | (simp; omega)) _ | refine Below.alloc ?_ (by first | omega | (simp; done) | (simp; omega)) _ | refine Below.trans ?_ (Below.mono hb1 (by first | omega | (simp; done) | (simp; omega)))))
  have lw1 : w.heap.size < w1.heap.size := P.lt
  clear hb1
  obtain ⟨c0, c1, c2, c3, c4, c5, c6, c7, c8⟩ := P.cs
  go_wp2_with fail
  refine (toA_any fm ng T nn bd pl mi am _ zs _ hs1 hn).mono ?_
  rintro e w2 ⟨a2, k2, rfl, ho2, hb2⟩
  clear c0 c1 c2 c3 c4 c5 c6 c7 c8
  replace P := P.below hb2
  have hs2 := hs1.below hb2
  have bel2 := bel_go bel1 hb2
  have lw2 := hb2.size
  clear hs1 hb2
  go_wp2_with fail
  refine (HSP.out _ a2 k2 ho2.sl).mono ?_
  rintro e w3 ⟨a3, k3, rfl, ho3, hb3⟩
  replace P := (P.below hb3).alloc (.cells #[.int .i64 fmr, .bool ngr, .slice a3 L.length k3, .int .i64 Tr, .bool nnr, .bool bdr, .bool plr, .bool mir, .bool amr] 31)
  have S := Q9.new w3 (.int .i64 fmr) (.bool ngr) (.slice a3 L.length k3) (.int .i64 Tr) (.bool nnr) (.bool bdr) (.bool plr) (.bool mir) (.bool amr) 31
  have hs3 := (hs2.below hb3).alloc (.cells #[.int .i64 fmr, .bool ngr, .slice a3 L.length k3, .int .i64 Tr, .bool nnr, .bool bdr, .bool plr, .bool mir, .bool amr] 31)
  have ho3' := ho3.alloc (.cells #[.int .i64 fmr, .bool ngr, .slice a3 L.length k3, .int .i64 Tr, .bool nnr, .bool bdr, .bool plr, .bool mir, .bool amr] 31)
  have bel3 := bel_al (bel_go bel2 hb3) (.cells #[.int .i64 fmr, .bool ngr, .slice a3 L.length k3, .int .i64 Tr, .bool nnr, .bool bdr, .bool plr, .bool mir, .bool amr] 31)
  have lw3 := hb3.size
  have ho3b := ho3.block
  clear hs2 hb3 ho2 ho3 HSP bel1 bel2
  obtain ⟨c0, c1, c2, c3, c4, c5, c6, c7, c8⟩ := P.cs
  go_wp2_with fail
  refine (toA_any fm ng T nn bd pl mi am _ zs _ hs3 hn).mono ?_
  rintro e w4 ⟨a4, k4, rfl, ho4, hb4⟩
  clear c0 c1 c2 c3 c4 c5 c6 c7 c8
  replace P := (P.below hb4).alloc (.cells #[.int .i64 fm, .bool ng, .slice a4 zs.length k4, .int .i64 T, .bool nn, .bool bd, .bool pl, .bool mi, .bool am] 31)
  replace S := (S.below hb4).alloc (.cells #[.int .i64 fm, .bool ng, .slice a4 zs.length k4, .int .i64 T, .bool nn, .bool bd, .bool pl, .bool mi, .bool am] 31)
  have X := Q9.new w4 (.int .i64 fm) (.bool ng) (.slice a4 zs.length k4) (.int .i64 T) (.bool nn) (.bool bd) (.bool pl) (.bool mi) (.bool am) 31
  have hs4 := (hs3.below hb4).alloc (.cells #[.int .i64 fm, .bool ng, .slice a4 zs.length k4, .int .i64 T, .bool nn, .bool bd, .bool pl, .bool mi, .bool am] 31)
  have ho34 := (ho3'.below hb4).alloc (.cells #[.int .i64 fm, .bool ng, .slice a4 zs.length k4, .int .i64 T, .bool nn, .bool bd, .bool pl, .bool mi, .bool am] 31)
  have ho44 := ho4.alloc (.cells #[.int .i64 fm, .bool ng, .slice a4 zs.length k4, .int .i64 T, .bool nn, .bool bd, .bool pl, .bool mi, .bool am] 31)
  have bel4 := bel_al (bel_go bel3 hb4) (.cells #[.int .i64 fm, .bool ng, .slice a4 zs.length k4, .int .i64 T, .bool nn, .bool bd, .bool pl, .bool mi, .bool am] 31)
  have lw4 : w3.heap.size < w4.heap.size := by have := hb4.size; simp at this; omega
  have la : ∀ g, (Value.slice a4 zs.length k4).ownBlock = some g → w3.heap.size < g ∧ g < w4.heap.size := fun g hg => by
    have h1 := (ho4.at zs.length k4 g hg)
    simp at h1; omega
  clear hs3 hb4 ho4 ho3' bel3
  obtain ⟨c0, c1, c2, c3, c4, c5, c6, c7, c8⟩ := X.cs
  go_wp2_with fail
  refine (HIM.out _ a4 k4 (hT.below bel4) ho44.sl).mono ?_
  rintro e w5 ⟨a5, k5, rfl, ho5, hb5⟩
  clear c0 c1 c2 c3 c4 c5 c6 c7 c8
  replace P := (P.below hb5).alloc (.cells #[.int .i64 fmr, .bool ngr, .slice a5 L.length k5, .int .i64 Tr, .bool nnr, .bool bdr, .bool plr, .bool mir, .bool amr] 31)
  replace S := (S.below hb5).alloc (.cells #[.int .i64 fmr, .bool ngr, .slice a5 L.length k5, .int .i64 Tr, .bool nnr, .bool bdr, .bool plr, .bool mir, .bool amr] 31)
  replace X := (X.below hb5).alloc (.cells #[.int .i64 fmr, .bool ngr, .slice a5 L.length k5, .int .i64 Tr, .bool nnr, .bool bdr, .bool plr, .bool mir, .bool amr] 31)
  have G := Q9.new w5 (.int .i64 fmr) (.bool ngr) (.slice a5 L.length k5) (.int .i64 Tr) (.bool nnr) (.bool bdr) (.bool plr) (.bool mir) (.bool amr) 31
  have hs5 := (hs4.below hb5).alloc (.cells #[.int .i64 fmr, .bool ngr, .slice a5 L.length k5, .int .i64 Tr, .bool nnr, .bool bdr, .bool plr, .bool mir, .bool amr] 31)
  have ho35 := (ho34.below hb5).alloc (.cells #[.int .i64 fmr, .bool ngr, .slice a5 L.length k5, .int .i64 Tr, .bool nnr, .bool bdr, .bool plr, .bool mir, .bool amr] 31)
  have ho45 := (ho44.below hb5).alloc (.cells #[.int .i64 fmr, .bool ngr, .slice a5 L.length k5, .int .i64 Tr, .bool nnr, .bool bdr, .bool plr, .bool mir, .bool amr] 31)
  have ho55 := ho5.alloc (.cells #[.int .i64 fmr, .bool ngr, .slice a5 L.length k5, .int .i64 Tr, .bool nnr, .bool bdr, .bool plr, .bool mir, .bool amr] 31)
  have bel5 := bel_al (bel_go bel4 hb5) (.cells #[.int .i64 fmr, .bool ngr, .slice a5 L.length k5, .int .i64 Tr, .bool nnr, .bool bdr, .bool plr, .bool mir, .bool amr] 31)
  have lw5 : w4.heap.size < w5.heap.size := by have := hb5.size; simp at this; omega
  have lb : ∀ g, (Value.slice a5 L.length k5).ownBlock = some g → w4.heap.size < g ∧ g < w5.heap.size := fun g hg => by
    have h1 := (ho5.at L.length k5 g hg)
    simp at h1; omega
  have ho5b := ho5.block
  clear hs4 hb5 ho5 ho34 ho44 bel4
  obtain ⟨c0, c1, c2, c3, c4, c5, c6, c7, c8⟩ := G.cs
  obtain ⟨d0, d1, d2, d3, d4, d5, d6, d7, d8⟩ := S.cs
  go_wp2_with fail
  refine (eqA_same fmr ngr Tr nnr bdr plr mir amr a5 a3 k5 k3 L _ ho55.sl ho35.sl (by omega)).mono ?_
  rintro e w6 ⟨rfl, hb6⟩
  clear c0 c1 c2 c3 c4 c5 c6 c7 c8 d0 d1 d2 d3 d4 d5 d6 d7 d8
  replace P := P.below hb6; replace S := S.below hb6; replace X := X.below hb6; replace G := G.below hb6
  have hs6 := hs5.below hb6; have ho36 := ho35.below hb6; have ho46 := ho45.below hb6; have ho56 := ho55.below hb6
  have bel6 := bel_go bel5 hb6
  have lw6 := G.lt
  clear hs5 ho35 ho45 ho55 hb6 bel5
  have cx := P.cs
  have cy := X.cs
  go_wp2_with fail
  go_region_held3 (fun w' => (w'.cell? ⟨w.heap.size, 0, none⟩ = some (.int .i64 fm) ∧ w'.cell? ⟨w.heap.size, 1, none⟩ = some (.bool ng) ∧ w'.cell? ⟨w.heap.size, 2, none⟩ = some (.slice a zs.length cap) ∧ w'.cell? ⟨w.heap.size, 3, none⟩ = some (.int .i64 T) ∧ w'.cell? ⟨w.heap.size, 4, none⟩ = some (.bool nn) ∧ w'.cell? ⟨w.heap.size, 5, none⟩ = some (.bool bd) ∧ w'.cell? ⟨w.heap.size, 6, none⟩ = some (.bool pl) ∧ w'.cell? ⟨w.heap.size, 7, none⟩ = some (.bool mi) ∧ w'.cell? ⟨w.heap.size, 8, none⟩ = some (.bool am)) ∧ (w'.cell? ⟨w4.heap.size, 0, none⟩ = some (.int .i64 fm) ∧ w'.cell? ⟨w4.heap.size, 1, none⟩ = some (.bool ng) ∧ w'.cell? ⟨w4.heap.size, 2, none⟩ = some (.slice a4 zs.length k4) ∧ w'.cell? ⟨w4.heap.size, 3, none⟩ = some (.int .i64 T) ∧ w'.cell? ⟨w4.heap.size, 4, none⟩ = some (.bool nn) ∧ w'.cell? ⟨w4.heap.size, 5, none⟩ = some (.bool bd) ∧ w'.cell? ⟨w4.heap.size, 6, none⟩ = some (.bool pl) ∧ w'.cell? ⟨w4.heap.size, 7, none⟩ = some (.bool mi) ∧ w'.cell? ⟨w4.heap.size, 8, none⟩ = some (.bool am))) (first | assumption | exact ⟨cx, cy⟩)
    (first
      | (go_at_call 10; refine (toA_any fm ng T nn bd pl mi am (.slice a zs.length cap) zs _ hs6.drew hn).mono ?_; rintro e w7 ⟨a7, k7, rfl, ho7, hb7⟩; have four := And.intro (P.drew.below hb7).cs (X.drew.below hb7).cs; have ho47 := ho46.drew.below hb7)
      | (go_at_call 12; refine (eqA_same fm ng T nn bd pl mi am a4 a7 k4 k7 zs _ ho47.sl ho7.sl hl).mono ?_; rintro e w8 ⟨rfl, hb8⟩; have f8 := And.intro ((P.drew.below hb7).below hb8).cs ((X.drew.below hb7).below hb8).cs))
  replace P := (P.drew.below hb7).below hb8; replace S := (S.drew.below hb7).below hb8; replace X := (X.drew.below hb7).below hb8; replace G := (G.drew.below hb7).below hb8
  have hs8 := (hs6.drew.below hb7).below hb8; have ho38 := (ho36.drew.below hb7).below hb8; have ho48 := ho47.below hb8; have ho58 := (ho56.drew.below hb7).below hb8
  have bel8 : Below w.heap.size w w8 := (by repeat (first | exact Below.refl _ _ | refine Below.drew ?_ | refine bel_dn ?_ _ | refine bel_al ?_ _ | refine bel_go ?_ hb8 | refine bel_go ?_ hb7 | refine bel_go ?_ bel6 | refine Below.setCell ?_ (by first | omega | (simp; done) | (simp; omega)) _ | refine Below.alloc ?_ (by first | omega | (simp; done) | (simp; omega)) _ | refine Below.trans ?_ (Below.mono hb8 (by first | omega | (simp; done) | (simp; omega))) | refine Below.trans ?_ (Below.mono hb7 (by first | omega | (simp; done) | (simp; omega))) | refine Below.trans ?_ (Below.mono bel6 (by first | omega | (simp; done) | (simp; omega)))))
  clear four f8 cx cy hs6 ho36 ho46 ho56 ho7 ho47 hb7 hb8 bel6
  obtain ⟨c0, c1, c2, c3, c4, c5, c6, c7, c8⟩ := X.cs
  go_wp2_with fail
  refine (markA_any fm ng T nn bd pl mi am a4 k4 zs 1 _ _ ho48 hn (by decide) (by decide)).mono ?_
  rintro e w9 ⟨rfl, hm9, hg9⟩
  clear c0 c1 c2 c3 c4 c5 c6 c7 c8 X
  replace P := P.grown hg9 (fun g hg => by have := la g hg; omega)
  replace S := S.grown hg9 (fun g hg => by have := la g hg; omega)
  replace G := G.grown hg9 (fun g hg => by have := la g hg; omega)
  have ho39 : Own w9 _ a3 k3 L := ho38.kept hg9 (fun g hg hr => by
    have h2 := la g hr
    rcases ho3b with ⟨e, _⟩ | ⟨g', e, _, h3⟩
    · rw [e] at hg; cases hg
    · rw [e] at hg; cases hg; omega)
  have ho59 : Own w9 _ a5 k5 L := ho58.kept hg9 (fun g hg hr => by
    have h2 := la g hr
    rcases ho5b with ⟨e, _⟩ | ⟨g', e, h3, _⟩
    · rw [e] at hg; cases hg
    · rw [e] at hg; cases hg; simp at h3; omega)
  have bel9 : Below w.heap.size w w9 := bel_mark (W := w8) bel8 hg9 (fun g hg => by have := la g hg; omega)
  have hs9 := hs.below bel9
  clear hm9 ho48 ho38 ho58 hs8 hg9 bel8 la
  have hk0 : ¬ ((1 : Int) + zs.length < 0) := by omega
  obtain ⟨c0, c1, c2, c3, c4, c5, c6, c7, c8⟩ := G.cs
  obtain ⟨d0, d1, d2, d3, d4, d5, d6, d7, d8⟩ := S.cs
  go_wp2_with fail
  refine (eqA_same fmr ngr Tr nnr bdr plr mir amr a5 a3 k5 k3 L _ ho59.sl ho39.sl (by omega)).mono ?_
  rintro e wa ⟨rfl, hba⟩
  clear c0 c1 c2 c3 c4 c5 c6 c7 c8 d0 d1 d2 d3 d4 d5 d6 d7 d8
  replace P := P.below hba; replace S := S.below hba; replace G := G.below hba
  have hsa := hs9.below hba; have ho3a := ho39.below hba; have ho5a := ho59.below hba
  have bela := bel_go bel9 hba
  clear hs9 ho39 ho59 hba bel9
  obtain ⟨c0, c1, c2, c3, c4, c5, c6, c7, c8⟩ := G.cs
  go_wp2_with fail
  refine (markA_any fmr ngr Tr nnr bdr plr mir amr a5 k5 L 1 _ _ ho5a (by omega) (by decide) (by decide)).mono ?_
  rintro e wb ⟨rfl, hmb, hgb⟩
  clear c0 c1 c2 c3 c4 c5 c6 c7 c8
  replace P := P.grown hgb (fun g hg => by have := lb g hg; omega)
  replace S := S.grown hgb (fun g hg => by have := lb g hg; omega)
  replace G := G.grown hgb (fun g hg => by have := lb g hg; omega)
  have ho3w : Own wb _ a3 k3 L := ho3a.kept hgb (fun g hg hr => by
    have h2 := lb g hr
    rcases ho3b with ⟨e, _⟩ | ⟨g', e, _, h3⟩
    · rw [e] at hg; cases hg
    · rw [e] at hg; cases hg; omega)
  have belb : Below w.heap.size w wb := bel_mark (W := wa) bela hgb (fun g hg => by have := lb g hg; omega)
  have hsb := hs.below belb
  have HEI := hid (iot_length 1 L.length)
  have hdI := iot_dg L.length (by omega)
  clear ho3a ho5a hsa hgb bela lb
  obtain ⟨c0, c1, c2, c3, c4, c5, c6, c7, c8⟩ := G.cs
  go_wp2_with fail
  have cc := heldA_any fmr ngr Tr nnr bdr plr mir amr a5 k5 (iot 1 L.length) 1 wb hmb.sl hdI (by rw [HEI.out]; omega) (by decide) (by decide)
  rw [HEI.out, HR.out] at cc
  refine cc.mono ?_
  clear cc
  rintro e wc ⟨rfl, hbc⟩
  clear c0 c1 c2 c3 c4 c5 c6 c7 c8
  replace P := P.below hbc; replace S := S.below hbc; replace G := G.below hbc
  have hsc := hsb.below hbc; have ho3c := ho3w.below hbc; have hmc := hmb.below hbc
  have belc := bel_go belb hbc
  clear hsb ho3w hmb hbc belb
  have hne : ((1 : Int) + L.length != 1 + L.length) = false := by simp
  have hq0 : ¬ ((1 : Int) + L.length < 0) := by omega
  obtain ⟨c0, c1, c2, c3, c4, c5, c6, c7, c8⟩ := P.cs
  go_wp2_with fail
  refine (toA_any fm ng T nn bd pl mi am _ zs _ hsc hn).mono ?_
  rintro e wd ⟨ad, kd, rfl, hod, hbd⟩
  clear c0 c1 c2 c3 c4 c5 c6 c7 c8 P
  replace S := S.below hbd; replace G := G.below hbd
  have ho3d := ho3c.below hbd; have hmd := hmc.below hbd
  have beld := bel_go belc hbd
  clear ho3c hmc hbd belc hsc
  go_wp2_with fail
  refine (HIM.out _ ad kd (hT.below beld) hod.sl).mono ?_
  rintro e we ⟨ae, ke, rfl, hoe, hbe⟩
  replace S := (S.below hbe).alloc (.cells #[.int .i64 fmr, .bool ngr, .slice ae L.length ke, .int .i64 Tr, .bool nnr, .bool bdr, .bool plr, .bool mir, .bool amr] 31)
  replace G := (G.below hbe).alloc (.cells #[.int .i64 fmr, .bool ngr, .slice ae L.length ke, .int .i64 Tr, .bool nnr, .bool bdr, .bool plr, .bool mir, .bool amr] 31)
  have H := Q9.new we (.int .i64 fmr) (.bool ngr) (.slice ae L.length ke) (.int .i64 Tr) (.bool nnr) (.bool bdr) (.bool plr) (.bool mir) (.bool amr) 31
  have ho3e := (ho3d.below hbe).alloc (.cells #[.int .i64 fmr, .bool ngr, .slice ae L.length ke, .int .i64 Tr, .bool nnr, .bool bdr, .bool plr, .bool mir, .bool amr] 31)
  have hme := (hmd.below hbe).alloc (.cells #[.int .i64 fmr, .bool ngr, .slice ae L.length ke, .int .i64 Tr, .bool nnr, .bool bdr, .bool plr, .bool mir, .bool amr] 31)
  have hoe' := hoe.alloc (.cells #[.int .i64 fmr, .bool ngr, .slice ae L.length ke, .int .i64 Tr, .bool nnr, .bool bdr, .bool plr, .bool mir, .bool amr] 31)
  have bele := bel_al (bel_go beld hbe) (.cells #[.int .i64 fmr, .bool ngr, .slice ae L.length ke, .int .i64 Tr, .bool nnr, .bool bdr, .bool plr, .bool mir, .bool amr] 31)
  clear ho3d hmd hoe hbe beld hod
  obtain ⟨c0, c1, c2, c3, c4, c5, c6, c7, c8⟩ := H.cs
  obtain ⟨d0, d1, d2, d3, d4, d5, d6, d7, d8⟩ := S.cs
  go_wp2_with fail
  refine (eqA_same fmr ngr Tr nnr bdr plr mir amr ae a3 ke k3 L _ hoe'.sl ho3e.sl (by omega)).mono ?_
  rintro e wf ⟨rfl, hbf⟩
  clear c0 c1 c2 c3 c4 c5 c6 c7 c8 d0 d1 d2 d3 d4 d5 d6 d7 d8 S H
  replace G := G.below hbf
  have hmf := hme.below hbf
  have belf := bel_go bele hbf
  clear hme hbf bele ho3e hoe'
  obtain ⟨c0, c1, c2, c3, c4, c5, c6, c7, c8⟩ := G.cs
  go_wp2_with fail
  have cf := heldA_any fmr ngr Tr nnr bdr plr mir amr a5 k5 (iot 1 L.length) 1 wf hmf.sl hdI (by rw [HEI.out]; omega) (by decide) (by decide)
  rw [HEI.out, HR.out] at cf
  refine cf.mono ?_
  clear cf
  rintro e wg ⟨rfl, hbg⟩
  go_wp2
  go_ret
  exact ⟨rfl, (by repeat (first | exact Below.refl _ _ | refine Below.drew ?_ | refine bel_dn ?_ _ | refine bel_al ?_ _ | refine bel_go ?_ hbg | refine bel_go ?_ belf | refine Below.setCell ?_ (by first | omega | (simp; done) | (simp; omega)) _ | refine Below.alloc ?_ (by first | omega | (simp; done) | (simp; omega)) _ | refine Below.trans ?_ (Below.mono hbg (by first | omega | (simp; done) | (simp; omega))) | refine Below.trans ?_ (Below.mono belf (by first | omega | (simp; done) | (simp; omega)))))⟩
end LAccNegated
end Go.Proofs.YtfblidnejdkjhaaDoor
/-
  The law on accumulators with their sign turned.
-/
namespace Go.Proofs.YtfblidnejdkjhaaDoor
set_option linter.unusedVariables false
set_option linter.unusedSimpArgs false
open Go.RowKit Go.Deep
theorem law_AccNegated (fm : Int) (ng : Bool) (T : Int) (nn bd pl mi am : Bool) (a : Option Addr) (cap : Nat) (zs : List Int) (w : World) (hT : Tab w) (hs : Sl .u32 w (.slice a zs.length cap) zs) (hz : Nm.Dg zs) :
    Calls Tryd.prog 5 #[.agg #[.int .i64 fm, .bool ng, .slice a zs.length cap, .int .i64 T, .bool nn, .bool bd, .bool pl, .bool mi, .bool am]] w fun e w' => e = .returned (.bool true) ∧ Below w.heap.size w w' := by
  cases hk : accB fm ng zs T nn bd pl mi am
  · exact LAccNegated.law fm ng T nn bd pl mi am a cap zs w hT hs 0 false 0 false false false false false [] 0 (by simp) Nm.Dg.nil
      (fun hl w a cap h => (neg_spec_no fm ng T nn bd pl mi am a cap zs w h hl hk).mono fun e w' ⟨he, hb⟩ => ⟨none, 0, he, Own.nil _ _, hb⟩)
      (fun hl w a cap ht h => (neg_impl_no fm ng T nn bd pl mi am a cap zs w ht h hl hk).mono fun e w' ⟨he, hb⟩ => ⟨none, 0, he, Own.nil _ _, hb⟩)
  · exact LAccNegated.law fm ng T nn bd pl mi am a cap zs w hT hs fm (negN ng zs) T nn bd mi pl false (negL ng zs) 0 (neg_200 ng hz).1 (neg_200 ng hz).2
      (fun hl w a cap h => neg_spec_yes fm ng T nn bd pl mi am a cap zs w h hz hl hk)
      (fun hl w a cap ht h => neg_impl_yes fm ng T nn bd pl mi am a cap zs w ht h hz hl hk)
end Go.Proofs.YtfblidnejdkjhaaDoor
