/-
  What is needed of AccE, AccF.
-/
import Derived.Test.YtkfjmcdniohljaaGreatDoorF30
set_option maxHeartbeats 16000000
set_option maxRecDepth 1000000
namespace Go.Proofs.YtkfjmcdniohljaaGreatDoor
set_option linter.unusedVariables false
set_option linter.unusedSimpArgs false
open Go.RowKit Go.Deep
theorem accok_impl (fm : Int) (ng : Bool) (T : Int) (nn bd pl mi am : Bool) (p : Option Addr) (cap : Nat) (zs : List Int) (w : World) (hT : Tab w) (hs : Sl .u32 w (.slice p zs.length cap) zs) (hl : zs.length ≤ 1048576) :
  Calls Tryz.prog 36 #[.agg #[.int .i64 fm, .bool ng, .slice p zs.length cap, .int .i64 T, .bool nn, .bool bd, .bool pl, .bool mi, .bool am]] w fun e w' => e = .returned (.bool (accB fm ng zs T nn bd pl mi am)) ∧ Below w.heap.size w w' := by
 have C := hid (fun w' h h' => right_any fm ng T nn bd pl mi am p cap zs w' h h' hl)
 obtain ⟨r, hr⟩ : ∃ r, r = accB fm ng zs T nn bd pl mi am := ⟨_, rfl⟩
 rw [← hr] at C ⊢
 clear hr
 go_enter Tryz.func36, Tryz.ntmps36
 go_wp2_with fail
 refine (tally_any fm ng T nn bd pl mi am p zs.length cap _).mono ?_
 rintro e w1 ⟨rfl, hb1⟩
 go_wp2_with fail
 refine (C.out _ ((tab_al hT _).below hb1) ((hs.alloc _).below hb1)).mono ?_
 rintro e w2 ⟨rfl, hb2⟩
 go_wp2
 go_ret
 exact ⟨rfl, (by repeat (first | exact bz0 _ _ | refine bz1 ?_ | refine bz2 ?_ _ | refine bz3 ?_ _ | refine bz4 ?_ hb2 | refine bz4 ?_ hb1 | refine bz5 ?_ _ | refine bz6 ?_ _ | refine bz7 ?_ hb2 | refine bz7 ?_ hb1))⟩
theorem acc_ok' {fm : Int} {ng : Bool} {zs : List Int} {T : Int} {nn bd pl mi am : Bool} (h : accB fm ng zs T nn bd pl mi am = true) : okB ng zs = true := by
 cases ho : okB ng zs
 ·rw [acc_no ho] at h; exact h
 ·rfl
theorem okis {ng : Bool} {zs : List Int} (hd : Nm.Dg zs) (h : okB ng zs = true) : Nm.wn (Nm.wv ng zs) = ng ∧ Nm.wl (Nm.wv ng zs) = zs := by
 obtain ⟨h1, h2⟩ := okB_nz h
 rw [Nm.wn_wv ng hd, Nm.wl_wv ng hd, Nm.trim_eq hd h1]
 refine ⟨?_, rfl⟩
 by_cases h0 : zs.length = 0
 ·unfold okB at h
  rw [if_pos h0] at h
  rw [decide_eq_true h0]
  cases ng <;> simp at h ⊢
 ·rw [decide_eq_false h0]; simp
def A0 : Value := .agg #[.int .i64 0, .bool false, .slice none 0 0, .int .i64 0, .bool false, .bool false, .bool false, .bool false, .bool false]
theorem Q9.new2 (w : World) (o : Obj) (v0 v1 v2 v3 v4 v5 v6 v7 v8 : Value) (t : TypeId) : Q9 ((w.alloc o).alloc (.cells #[v0, v1, v2, v3, v4, v5, v6, v7, v8] t)) (w.heap.size + 1) v0 v1 v2 v3 v4 v5 v6 v7 v8 := by simpa using Q9.new (w.alloc o) v0 v1 v2 v3 v4 v5 v6 v7 v8 t
theorem neg_spec_no (fm : Int) (ng : Bool) (T : Int) (nn bd pl mi am : Bool) (p : Option Addr) (cap : Nat) (zs : List Int) (w : World) (hs : Sl .u32 w (.slice p zs.length cap) zs) (hl : zs.length ≤ 1048576) (hk : accB fm ng zs T nn bd pl mi am = false) :
  Calls Tryz.prog 47 #[.agg #[.int .i64 fm, .bool ng, .slice p zs.length cap, .int .i64 T, .bool nn, .bool bd, .bool pl, .bool mi, .bool am]] w fun e w' => e = .returned A0 ∧ Below w.heap.size w w' := by
 have C := hid (accok_spec fm ng T nn bd pl mi am p cap zs ((w.alloc (.cells #[.int .i64 fm, .bool ng, .slice p zs.length cap, .int .i64 T, .bool nn, .bool bd, .bool pl, .bool mi, .bool am] 50)).alloc (.cells #[.int .i64 0, .bool false, .slice none 0 0, .int .i64 0, .bool false, .bool false, .bool false, .bool false, .bool false] 50)) ((hs.alloc _).alloc _) hl)
 rw [hk] at C
 clear hk
 go_enter Tryz.func47, Tryz.ntmps47
 go_wp2_with fail
 refine C.out.mono ?_
 rintro e w1 ⟨rfl, hb1⟩
 obtain ⟨r0, r1, r2, r3, r4, r5, r6, r7, r8, f0, f1, f2, f3, f4, f5, f6, f7, f8⟩ := (Q9.new2 w (.cells #[.int .i64 fm, .bool ng, .slice p zs.length cap, .int .i64 T, .bool nn, .bool bd, .bool pl, .bool mi, .bool am] 50) (.int .i64 0) (.bool false) (.slice none 0 0) (.int .i64 0) (.bool false) (.bool false) (.bool false) (.bool false) (.bool false) 50).below hb1
 go_wp2
 refine bodyPost_ret (v := A0) (by simp [results, Tryz.results47, go_sem, r0, r1, r2, r3, r4, r5, r6, r7, r8, A0]) rfl ⟨rfl, ?_⟩
 exact (by (repeat with_reducible first | refine Below.setCell ?_ ?_ _ | exact bz0 _ _ | refine bz1 ?_ | refine bz2 ?_ _ | refine bz3 ?_ _ | refine bz4 ?_ hb1 | refine Below.alloc ?_ ?_ _ | refine Below.trans ?_ (Below.mono hb1 ?_)) <;> first | omega | (simp; done) | (simp; omega))
theorem neg_impl_no (fm : Int) (ng : Bool) (T : Int) (nn bd pl mi am : Bool) (p : Option Addr) (cap : Nat) (zs : List Int) (w : World) (hT : Tab w) (hs : Sl .u32 w (.slice p zs.length cap) zs) (hl : zs.length ≤ 1048576) (hk : accB fm ng zs T nn bd pl mi am = false) :
  Calls Tryz.prog 46 #[.agg #[.int .i64 fm, .bool ng, .slice p zs.length cap, .int .i64 T, .bool nn, .bool bd, .bool pl, .bool mi, .bool am]] w fun e w' => e = .returned A0 ∧ Below w.heap.size w w' := by
 have C := hid (accok_impl fm ng T nn bd pl mi am p cap zs ((w.alloc (.cells #[.int .i64 fm, .bool ng, .slice p zs.length cap, .int .i64 T, .bool nn, .bool bd, .bool pl, .bool mi, .bool am] 50)).alloc (.cells #[.int .i64 0, .bool false, .slice none 0 0, .int .i64 0, .bool false, .bool false, .bool false, .bool false, .bool false] 50)) ((tab_al (tab_al hT _) _)) ((hs.alloc _).alloc _) hl)
 rw [hk] at C
 clear hk
 go_enter Tryz.func46, Tryz.ntmps46
 go_wp2_with fail
 refine C.out.mono ?_
 rintro e w1 ⟨rfl, hb1⟩
 obtain ⟨r0, r1, r2, r3, r4, r5, r6, r7, r8, f0, f1, f2, f3, f4, f5, f6, f7, f8⟩ := (Q9.new2 w (.cells #[.int .i64 fm, .bool ng, .slice p zs.length cap, .int .i64 T, .bool nn, .bool bd, .bool pl, .bool mi, .bool am] 50) (.int .i64 0) (.bool false) (.slice none 0 0) (.int .i64 0) (.bool false) (.bool false) (.bool false) (.bool false) (.bool false) 50).below hb1
 go_wp2
 refine bodyPost_ret (v := A0) (by simp [results, Tryz.results46, go_sem, r0, r1, r2, r3, r4, r5, r6, r7, r8, A0]) rfl ⟨rfl, ?_⟩
 exact (by (repeat with_reducible first | refine Below.setCell ?_ ?_ _ | exact bz0 _ _ | refine bz1 ?_ | refine bz2 ?_ _ | refine bz3 ?_ _ | refine bz4 ?_ hb1 | refine Below.alloc ?_ ?_ _ | refine Below.trans ?_ (Below.mono hb1 ?_)) <;> first | omega | (simp; done) | (simp; omega))
theorem neg_impl_yes (fm : Int) (ng : Bool) (T : Int) (nn bd pl mi am : Bool) (p : Option Addr) (cap : Nat) (zs : List Int) (w : World) (hT : Tab w) (hs : Sl .u32 w (.slice p zs.length cap) zs) (hz : Nm.Dg zs) (hl : zs.length ≤ 1048576) (hk : accB fm ng zs T nn bd pl mi am = true) :
  Calls Tryz.prog 46 #[.agg #[.int .i64 fm, .bool ng, .slice p zs.length cap, .int .i64 T, .bool nn, .bool bd, .bool pl, .bool mi, .bool am]] w fun e w' => ∃ a' c', e = .returned (.agg #[.int .i64 fm, .bool (negN ng zs), .slice a' (negL ng zs).length c', .int .i64 T, .bool nn, .bool bd, .bool mi, .bool pl, .bool false]) ∧ Own w' w.heap.size a' c' (negL ng zs) ∧ Below w.heap.size w w' := by
 have C := hid (accok_impl fm ng T nn bd pl mi am p cap zs ((w.alloc (.cells #[.int .i64 fm, .bool ng, .slice p zs.length cap, .int .i64 T, .bool nn, .bool bd, .bool pl, .bool mi, .bool am] 50)).alloc (.cells #[.int .i64 0, .bool false, .slice none 0 0, .int .i64 0, .bool false, .bool false, .bool false, .bool false, .bool false] 50)) (tab_al (tab_al hT _) _) ((hs.alloc _).alloc _) hl)
 rw [hk] at C
 clear hk
 have CN := hid (fun w' h => wneg_impl ng p cap zs w' h hz hl)
 obtain ⟨G, hG⟩ : ∃ G, G = negN ng zs := ⟨_, rfl⟩
 obtain ⟨L, hL⟩ : ∃ L, L = negL ng zs := ⟨_, rfl⟩
 rw [← hG, ← hL] at CN ⊢
 clear hG hL
 go_enter Tryz.func46, Tryz.ntmps46
 go_wp2_with fail
 refine C.out.mono ?_
 rintro e w1 ⟨rfl, hb1⟩
 have rr := (Q9.new2 w (.cells #[.int .i64 fm, .bool ng, .slice p zs.length cap, .int .i64 T, .bool nn, .bool bd, .bool pl, .bool mi, .bool am] 50) (.int .i64 0) (.bool false) (.slice none 0 0) (.int .i64 0) (.bool false) (.bool false) (.bool false) (.bool false) (.bool false) 50).below hb1
 have qq := ((Q9.new w (.int .i64 fm) (.bool ng) (.slice p zs.length cap) (.int .i64 T) (.bool nn) (.bool bd) (.bool pl) (.bool mi) (.bool am) 50).alloc _).below hb1
 have s1 := ((hs.alloc _).alloc _).below hb1
 have bel1 : Below w.heap.size w w1 := (by repeat (first | exact bz0 _ _ | refine bz1 ?_ | refine bz2 ?_ _ | refine bz3 ?_ _ | refine bz4 ?_ hb1 | refine bz5 ?_ _ | refine bz6 ?_ _ | refine bz7 ?_ hb1))
 clear hb1 C
 have qq' := qq
 obtain ⟨c0, c1, c2, c3, c4, c5, c6, c7, c8⟩ := qq'.cs
 go_wp2_with fail
 refine (CN.out _ s1).mono ?_
 rintro e w2 ⟨a2, c2', rfl, ho2, hb2⟩
 clear c0 c1 c2 c3 c4 c5 c6 c7 c8
 have lr := rr.lt
 obtain ⟨r0, r1, r2, r3, r4, r5, r6, r7, r8, f0, f1, f2, f3, f4, f5, f6, f7, f8⟩ := rr.below hb2
 obtain ⟨c0, c1, c2, c3, c4, c5, c6, c7, c8, g0, g1, g2, g3, g4, g5, g6, g7, g8⟩ := qq.below hb2
 clear rr qq s1 CN
 have bel2 := bel_go bel1 hb2
 have z2 := hb2.size
 clear hb2
 go_wp2
 refine bodyPost_ret (v := .agg #[.int .i64 fm, .bool G, .slice a2 L.length c2', .int .i64 T, .bool nn, .bool bd, .bool mi, .bool pl, .bool false]) (by simp [results, Tryz.results46, go_sem, r0, r1, r2, r3, r4, r5, r6, r7, r8]) rfl ⟨a2, c2', rfl, ?_, ?_⟩
 ·refine Own.base (B := w1.heap.size) ?_ (by omega)
  repeat (first | with_reducible exact ho2 | (with_reducible refine Own.setBelow ?_ ?_ _; rotate_left; (simp; try omega)))
 ·exact (by (repeat with_reducible first | refine Below.setCell ?_ ?_ _ | exact bz0 _ _ | refine bz1 ?_ | refine bz2 ?_ _ | refine bz3 ?_ _ | refine bz4 ?_ bel2 | refine Below.alloc ?_ ?_ _ | refine Below.trans ?_ (Below.mono bel2 ?_)) <;> first | omega | (simp; done) | (simp; omega))
theorem copy_any (fm : Int) (ng : Bool) (T : Int) (nn bd pl mi am : Bool) (p : Option Addr) (cap : Nat) (zs : List Int) (w : World) (hs : Sl .u32 w (.slice p zs.length cap) zs) (hz : Nm.Dg zs) (hl : zs.length ≤ 1048576) (hk : okB ng zs = true) :
  Calls Tryz.prog 127 #[.agg #[.int .i64 fm, .bool ng, .slice p zs.length cap, .int .i64 T, .bool nn, .bool bd, .bool pl, .bool mi, .bool am]] w fun e w' => ∃ a' c', e = .returned (.agg #[.int .i64 fm, .bool ng, .slice a' zs.length c', .int .i64 T, .bool nn, .bool bd, .bool pl, .bool mi, .bool am]) ∧ Own w' w.heap.size a' c' zs ∧ Below w.heap.size w w' := by
 have CM := hid (fun w' h => made_v ng p cap zs w' h hz hl _ rfl)
 obtain ⟨e1, e2⟩ := okis hz hk
 rw [e1, e2] at CM
 clear e1 e2 hk
 go_enter Tryz.func127, Tryz.ntmps127
 go_wp2_with fail
 refine (CM.out _ ((hs.alloc _).alloc _)).mono ?_
 rintro e w1 ⟨a2, c2', rfl, ho2, hb1⟩
 have rr := (Q9.new2 w (.cells #[.int .i64 fm, .bool ng, .slice p zs.length cap, .int .i64 T, .bool nn, .bool bd, .bool pl, .bool mi, .bool am] 50) (.int .i64 0) (.bool false) (.slice none 0 0) (.int .i64 0) (.bool false) (.bool false) (.bool false) (.bool false) (.bool false) 50).below hb1
 have qq := ((Q9.new w (.int .i64 fm) (.bool ng) (.slice p zs.length cap) (.int .i64 T) (.bool nn) (.bool bd) (.bool pl) (.bool mi) (.bool am) 50).alloc _).below hb1
 have bel1 : Below w.heap.size w w1 := (by repeat (first | exact bz0 _ _ | refine bz1 ?_ | refine bz2 ?_ _ | refine bz3 ?_ _ | refine bz4 ?_ hb1 | refine bz5 ?_ _ | refine bz6 ?_ _ | refine bz7 ?_ hb1))
 have lr := rr.lt
 obtain ⟨r0, r1, r2, r3, r4, r5, r6, r7, r8, f0, f1, f2, f3, f4, f5, f6, f7, f8⟩ := rr
 obtain ⟨c0, c1, c2, c3, c4, c5, c6, c7, c8, g0, g1, g2, g3, g4, g5, g6, g7, g8⟩ := qq
 have ho2 : Own w1 (w.heap.size + 1 + 1) a2 c2' zs := by simpa using ho2
 clear hb1 CM
 go_wp2
 refine bodyPost_ret (v := .agg #[.int .i64 fm, .bool ng, .slice a2 zs.length c2', .int .i64 T, .bool nn, .bool bd, .bool pl, .bool mi, .bool am]) (by simp [results, Tryz.results127, go_sem, r0, r1, r2, r3, r4, r5, r6, r7, r8]) rfl ⟨a2, c2', rfl, ?_, ?_⟩
 ·refine Own.base (B := w.heap.size + 1 + 1) ?_ (by omega)
  repeat (first | with_reducible exact ho2 | (with_reducible refine Own.setBelow ?_ ?_ _; rotate_left; (simp; try omega)))
 ·exact (by (repeat with_reducible first | refine Below.setCell ?_ ?_ _ | exact bz0 _ _ | refine bz1 ?_ | refine bz2 ?_ _ | refine bz3 ?_ _ | refine bz4 ?_ bel1 | refine Below.alloc ?_ ?_ _ | refine Below.trans ?_ (Below.mono bel1 ?_)) <;> first | omega | (simp; done) | (simp; omega))
theorem neg_spec_yes (fm : Int) (ng : Bool) (T : Int) (nn bd pl mi am : Bool) (p : Option Addr) (cap : Nat) (zs : List Int) (w : World) (hs : Sl .u32 w (.slice p zs.length cap) zs) (hz : Nm.Dg zs) (hl : zs.length ≤ 1048576) (hk : accB fm ng zs T nn bd pl mi am = true) :
  Calls Tryz.prog 47 #[.agg #[.int .i64 fm, .bool ng, .slice p zs.length cap, .int .i64 T, .bool nn, .bool bd, .bool pl, .bool mi, .bool am]] w fun e w' => ∃ a' c', e = .returned (.agg #[.int .i64 fm, .bool (negN ng zs), .slice a' (negL ng zs).length c', .int .i64 T, .bool nn, .bool bd, .bool mi, .bool pl, .bool false]) ∧ Own w' w.heap.size a' c' (negL ng zs) ∧ Below w.heap.size w w' := by
 have C := hid (accok_spec fm ng T nn bd pl mi am p cap zs ((w.alloc (.cells #[.int .i64 fm, .bool ng, .slice p zs.length cap, .int .i64 T, .bool nn, .bool bd, .bool pl, .bool mi, .bool am] 50)).alloc (.cells #[.int .i64 0, .bool false, .slice none 0 0, .int .i64 0, .bool false, .bool false, .bool false, .bool false, .bool false] 50)) ((hs.alloc _).alloc _) hl)
 rw [hk] at C
 have ho := acc_ok' hk
 have CC := hid (fun w' h => copy_any fm ng T nn bd pl mi am p cap zs w' h hz hl ho)
 have CN := hid (fun a c w' h => l1neg_any ng a c zs w' h hz hl _ rfl)
 obtain ⟨G, hG⟩ : ∃ G, G = negN ng zs := ⟨_, rfl⟩
 obtain ⟨L, hL⟩ : ∃ L, L = negL ng zs := ⟨_, rfl⟩
 have eG : Nm.wn (Nm.wv (!ng) zs) = G := by rw [hG]; unfold negN; rw [ho]; rfl
 have eL : Nm.wl (Nm.wv (!ng) zs) = L := by rw [hL]; unfold negL; rw [ho]; rfl
 rw [eG, eL] at CN
 rw [← hG, ← hL]
 clear hG hL eG eL hk ho
 go_enter Tryz.func47, Tryz.ntmps47
 go_wp2_with fail
 refine C.out.mono ?_
 rintro e w1 ⟨rfl, hb1⟩
 have rr := (Q9.new2 w (.cells #[.int .i64 fm, .bool ng, .slice p zs.length cap, .int .i64 T, .bool nn, .bool bd, .bool pl, .bool mi, .bool am] 50) (.int .i64 0) (.bool false) (.slice none 0 0) (.int .i64 0) (.bool false) (.bool false) (.bool false) (.bool false) (.bool false) 50).below hb1
 have qq := ((Q9.new w (.int .i64 fm) (.bool ng) (.slice p zs.length cap) (.int .i64 T) (.bool nn) (.bool bd) (.bool pl) (.bool mi) (.bool am) 50).alloc _).below hb1
 have s1 := ((hs.alloc _).alloc _).below hb1
 have bel1 : Below w.heap.size w w1 := (by repeat (first | exact bz0 _ _ | refine bz1 ?_ | refine bz2 ?_ _ | refine bz3 ?_ _ | refine bz4 ?_ hb1 | refine bz5 ?_ _ | refine bz6 ?_ _ | refine bz7 ?_ hb1))
 clear hb1 C
 have lr := rr.lt
 have qq' := qq
 obtain ⟨c0, c1, c2, c3, c4, c5, c6, c7, c8⟩ := qq'.cs
 go_wp2_with fail
 refine (CC.out _ s1).mono ?_
 rintro e w2 ⟨a2, c2', rfl, ho2, hb2⟩
 clear c0 c1 c2 c3 c4 c5 c6 c7 c8
 have rr2 := (rr.below hb2).alloc (.cells #[.int .i64 fm, .bool ng, .slice a2 zs.length c2', .int .i64 T, .bool nn, .bool bd, .bool pl, .bool mi, .bool am] 50)
 have qq2 := (qq.below hb2).alloc (.cells #[.int .i64 fm, .bool ng, .slice a2 zs.length c2', .int .i64 T, .bool nn, .bool bd, .bool pl, .bool mi, .bool am] 50)
 have oo2 := Q9.new w2 (.int .i64 fm) (.bool ng) (.slice a2 zs.length c2') (.int .i64 T) (.bool nn) (.bool bd) (.bool pl) (.bool mi) (.bool am) 50
 have so2 := ho2.sl.alloc (.cells #[.int .i64 fm, .bool ng, .slice a2 zs.length c2', .int .i64 T, .bool nn, .bool bd, .bool pl, .bool mi, .bool am] 50)
 have bel2 : Below w.heap.size w (w2.alloc (.cells #[.int .i64 fm, .bool ng, .slice a2 zs.length c2', .int .i64 T, .bool nn, .bool bd, .bool pl, .bool mi, .bool am] 50)) := bel_al (bel_go bel1 hb2) _
 have z2 := hb2.size
 have lw2 := bel1.size
 clear rr qq s1 CC hb2 ho2 bel1
 have oo2' := oo2
 obtain ⟨c0, c1, c2, c3, c4, c5, c6, c7, c8⟩ := oo2'.cs
 go_wp2_with fail
 refine (CN.out a2 c2' _ so2).mono ?_
 rintro e w3 ⟨a3, c3', rfl, ho3, hb3⟩
 clear c0 c1 c2 c3 c4 c5 c6 c7 c8
 obtain ⟨r0, r1, r2, r3, r4, r5, r6, r7, r8, f0, f1, f2, f3, f4, f5, f6, f7, f8⟩ := rr2.below hb3
 obtain ⟨c0, c1, c2, c3, c4, c5, c6, c7, c8⟩ := (qq2.below hb3).cs
 obtain ⟨o0, o1, o2, o3, o4, o5, o6, o7, o8, g0, g1, g2, g3, g4, g5, g6, g7, g8⟩ := oo2.below hb3
 have bel3 := bel_go bel2 hb3
 have z3 := hb3.size
 have ho3 : Own w3 (w2.heap.size + 1) a3 c3' L := by simpa using ho3
 clear rr2 qq2 oo2 so2 bel2 CN hb3
 have hne1 : w.heap.size ≠ w2.heap.size := by omega
 have hne2 : w.heap.size + 1 ≠ w2.heap.size := by omega
 go_wp2
 refine bodyPost_ret (v := .agg #[.int .i64 fm, .bool G, .slice a3 L.length c3', .int .i64 T, .bool nn, .bool bd, .bool mi, .bool pl, .bool false]) (by simp [results, Tryz.results47, go_sem, r0, r1, r2, r3, r4, r5, r6, r7, r8]) rfl ⟨a3, c3', rfl, ?_, ?_⟩
 ·refine Own.base (B := w2.heap.size + 1) ?_ (by omega)
  repeat (first | with_reducible exact ho3 | (with_reducible refine Own.setBelow ?_ ?_ _; rotate_left; (simp; try omega)))
 ·exact (by (repeat with_reducible first | refine Below.setCell ?_ ?_ _ | exact bz0 _ _ | refine bz1 ?_ | refine bz2 ?_ _ | refine bz3 ?_ _ | refine bz4 ?_ bel3 | refine Below.alloc ?_ ?_ _ | refine Below.trans ?_ (Below.mono bel3 ?_)) <;> first | omega | (simp; done) | (simp; omega))
end Go.Proofs.YtkfjmcdniohljaaGreatDoor
