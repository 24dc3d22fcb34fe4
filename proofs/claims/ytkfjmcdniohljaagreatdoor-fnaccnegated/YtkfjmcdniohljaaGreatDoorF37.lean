/-
  What is needed of AccL, AccM, ND.
-/
import Derived.Test.YtkfjmcdniohljaaGreatDoorF32
import Derived.Test.YtkfjmcdniohljaaGreatDoorF35
set_option maxHeartbeats 16000000
set_option maxRecDepth 1000000
namespace Go.Proofs.YtkfjmcdniohljaaGreatDoor
set_option linter.unusedVariables false
set_option linter.unusedSimpArgs false
open Go.RowKit Go.Deep
def amW (T : Int) (am : Bool) (T' : Int) (am' : Bool) : Bool := am && (am' || decide (T' = 0)) || decide (T = 0) && am'
theorem mk_am {T : Int} {nn bd pl mi am : Bool} (h : mkB T nn bd pl mi am = true) : (am = true → nn = false ∧ bd = false ∧ pl = false ∧ mi = false) ∧ (bd = true → nn = true) ∧ (T = 0 → nn = false ∧ bd = false ∧ pl = false ∧ mi = false ∧ am = false) := by
 unfold mkB at h
 by_cases h0 : T = 0
 ·rw [decide_eq_true h0] at h
  revert h
  cases nn <;> cases bd <;> cases pl <;> cases mi <;> cases am <;> simp
 ·rw [decide_eq_false h0] at h
  revert h
  cases nn <;> cases bd <;> cases pl <;> cases mi <;> cases am <;> simp [h0]
theorem mwith (T : Int) (nn bd pl mi am : Bool) (T' : Int) (nn' bd' pl' mi' am' : Bool) (w : World) (hk : mkB T nn bd pl mi am = true) (h0' : 0 ≤ T') (h1' : T' ≤ 1000000) (V : Value) (hV : V = .agg #[.int .i64 (T + T'), .bool (nn || nn'), .bool (bd || bd'), .bool (pl || pl'), .bool (mi || mi'), .bool (amW T am T' am')]) :
  Calls Tryz.prog 202 #[.agg #[.int .i64 T, .bool nn, .bool bd, .bool pl, .bool mi, .bool am], .agg #[.int .i64 T', .bool nn', .bool bd', .bool pl', .bool mi', .bool am']] w fun e w' => e = .returned V ∧ Below w.heap.size w w' := by
 have HV := hid hV
 clear hV
 obtain ⟨ham, hbn, hT0⟩ := mk_am hk
 obtain ⟨h0, h1⟩ := mkB_T hk
 clear hk
 by_cases ht : T = 0
 ·subst ht
  obtain ⟨rfl, rfl, rfl, rfl, rfl⟩ := hT0 rfl
  clear ham hbn hT0
  go_enter Tryz.func202, Tryz.ntmps202
  go_wp2
  refine bodyPost_ret (v := V) (by rw [HV.out]; simp [results, Tryz.results202, go_sem, amW]) rfl ⟨rfl, ?_⟩
  exact (by (repeat with_reducible first | refine Below.setCell ?_ ?_ _ | exact bz0 _ _ | refine bz1 ?_ | refine bz2 ?_ _ | refine bz3 ?_ _ | refine Below.alloc ?_ ?_ _) <;> first | omega | (simp; done) | (simp; omega))
 clear hT0
 have hb : (T == 0) = false := by simpa using ht
 cases am with
 | true =>
  obtain ⟨rfl, rfl, rfl, rfl⟩ := ham rfl
  clear ham hbn
  cases am' with
  | true =>
   go_enter Tryz.func202, Tryz.ntmps202
   go_wp2
   refine bodyPost_ret (v := V) (by rw [HV.out]; simp [results, Tryz.results202, go_sem, amW, ht]) rfl ⟨rfl, ?_⟩
   exact (by (repeat with_reducible first | refine Below.setCell ?_ ?_ _ | exact bz0 _ _ | refine bz1 ?_ | refine bz2 ?_ _ | refine bz3 ?_ _ | refine Below.alloc ?_ ?_ _) <;> first | omega | (simp; done) | (simp; omega))
  | false =>
   by_cases ht' : T' = 0
   ·subst ht'
    go_enter Tryz.func202, Tryz.ntmps202
    go_wp2
    refine bodyPost_ret (v := V) (by rw [HV.out]; simp [results, Tryz.results202, go_sem, amW, ht]) rfl ⟨rfl, ?_⟩
    exact (by (repeat with_reducible first | refine Below.setCell ?_ ?_ _ | exact bz0 _ _ | refine bz1 ?_ | refine bz2 ?_ _ | refine bz3 ?_ _ | refine Below.alloc ?_ ?_ _) <;> first | omega | (simp; done) | (simp; omega))
   ·have hb' : (T' == 0) = false := by simpa using ht'
    go_enter Tryz.func202, Tryz.ntmps202
    go_wp2
    refine bodyPost_ret (v := V) (by rw [HV.out]; simp [results, Tryz.results202, go_sem, amW, ht', ht]) rfl ⟨rfl, ?_⟩
    exact (by (repeat with_reducible first | refine Below.setCell ?_ ?_ _ | exact bz0 _ _ | refine bz1 ?_ | refine bz2 ?_ _ | refine bz3 ?_ _ | refine Below.alloc ?_ ?_ _) <;> first | omega | (simp; done) | (simp; omega))
 | false =>
  clear ham
  cases nn with
  | true =>
   clear hbn
   cases bd <;> cases pl <;> cases mi <;>
   ·go_enter Tryz.func202, Tryz.ntmps202
    go_wp2
    refine bodyPost_ret (v := V) (by rw [HV.out]; simp [results, Tryz.results202, go_sem, amW, ht]) rfl ⟨rfl, ?_⟩
    exact (by (repeat with_reducible first | refine Below.setCell ?_ ?_ _ | exact bz0 _ _ | refine bz1 ?_ | refine bz2 ?_ _ | refine bz3 ?_ _ | refine Below.alloc ?_ ?_ _) <;> first | omega | (simp; done) | (simp; omega))
  | false =>
   have hbd : bd = false := by cases bd; rfl; exact absurd (hbn rfl) (by decide)
   subst hbd
   clear hbn
   cases pl <;> cases mi <;>
   ·go_enter Tryz.func202, Tryz.ntmps202
    go_wp2
    refine bodyPost_ret (v := V) (by rw [HV.out]; simp [results, Tryz.results202, go_sem, amW, ht]) rfl ⟨rfl, ?_⟩
    exact (by (repeat with_reducible first | refine Below.setCell ?_ ?_ _ | exact bz0 _ _ | refine bz1 ?_ | refine bz2 ?_ _ | refine bz3 ?_ _ | refine Below.alloc ?_ ?_ _) <;> first | omega | (simp; done) | (simp; omega))
theorem tacc (fm : Int) (ng : Bool) (T : Int) (nn bd pl mi am : Bool) (v : Value) (w : World) (hv : ∃ a n c, v = .slice a n c) :
  Calls Tryz.prog 125 #[.agg #[.int .i64 T, .bool nn, .bool bd, .bool pl, .bool mi, .bool am, .int .i64 fm, .bool ng, v]] w fun e w' => e = .returned (.agg #[.int .i64 fm, .bool ng, v, .int .i64 T, .bool nn, .bool bd, .bool pl, .bool mi, .bool am]) ∧ Below w.heap.size w w' := by
 obtain ⟨a, n, c, rfl⟩ := hv
 go_enter Tryz.func125, Tryz.ntmps125
 go_wp2
 refine bodyPost_ret (v := .agg #[.int .i64 fm, .bool ng, .slice a n c, .int .i64 T, .bool nn, .bool bd, .bool pl, .bool mi, .bool am]) (by simp [results, Tryz.results125, go_sem]) rfl ⟨rfl, ?_⟩
 exact (by (repeat with_reducible first | refine Below.setCell ?_ ?_ _ | exact bz0 _ _ | refine bz1 ?_ | refine bz2 ?_ _ | refine bz3 ?_ _ | refine Below.alloc ?_ ?_ _) <;> first | omega | (simp; done) | (simp; omega))
theorem acc_parts {fm : Int} {ng : Bool} {zs : List Int} {T : Int} {nn bd pl mi am : Bool} (h : accB fm ng zs T nn bd pl mi am = true) : fmtB fm = true ∧ mkB T nn bd pl mi am = true ∧ okB ng zs = true ∧ cmpL zs (Nm.lim (far fm T)) ≤ 0 := by
 unfold accB at h
 simp only [Bool.and_eq_true, decide_eq_true_eq] at h
 exact ⟨h.1.1.1.1, h.1.1.1.2, h.1.1.2, h.1.2⟩
theorem acc_val {fm : Int} {ng : Bool} {zs : List Int} {T : Int} {nn bd pl mi am : Bool} (hd : Nm.Dg zs) (h : accB fm ng zs T nn bd pl mi am = true) : (Nm.val zs).toNat ≤ far fm T := by
 obtain ⟨-, -, ho, hc⟩ := acc_parts h
 have h1 := (cmpL_val hd (Nm.lim_dg (far fm T)) (okB_nz ho).1 (Nm.lim_nz _)).2
 have h2 : ¬ Nm.val (Nm.lim (far fm T)) < Nm.val zs := fun h => by have := h1.2 h; omega
 rw [Nm.lim_val] at h2
 omega
theorem fits_bl {x : Int} (h : bitLen x.natAbs ≤ 6400) : Nm.fits x = true := by
 unfold Nm.fits Nm.wl; exact decide_eq_true (lim_len (k := 200) (by omega))
theorem wv_abs (ng : Bool) {zs : List Int} (hd : Nm.Dg zs) : (Nm.wv ng zs).natAbs = (Nm.val zs).toNat := Nm.natAbs_wv ng hd
theorem sum_bk {u v k : Nat} (hu : bitLen u ≤ k) (hv : bitLen v ≤ k) : bitLen (u + v) ≤ k + 1 := by
 have h1 := (Nm.bl_le_iff u k).1 hu
 have h2 := (Nm.bl_le_iff v k).1 hv
 refine (Nm.bl_le_iff (u + v) (k + 1)).2 ?_
 rw [Nat.pow_succ]; omega
theorem sum_bl {u v : Nat} (hu : bitLen u ≤ 4216) (hv : bitLen v ≤ 4216) : bitLen (u + v) ≤ 4217 := sum_bk hu hv
theorem merge_fits {fm : Int} {ng ngq : Bool} {zs ys : List Int} {T Tq : Int} {nn bd pl mi am nnq bdq plq miq amq : Bool} (dz : Nm.Dg zs) (dy : Nm.Dg ys) (h : accB fm ng zs T nn bd pl mi am = true) (h' : accB fm ngq ys Tq nnq bdq plq miq amq = true) : Nm.fits (Nm.wv ng zs + Nm.wv ngq ys) = true := by
 refine fits_bl ?_
 have h1 := acc_val dz h
 have h2 := acc_val dy h'
 have e1 := wv_abs ng dz
 have e2 := wv_abs ngq dy
 have t1 := (mkB_T (acc_parts h).2.1).2
 have t2 := (mkB_T (acc_parts h').2.1).2
 have b := sum_bl (far_bl fm t1) (far_bl fm t2)
 have hm := Nm.bl_mono (show (Nm.wv ng zs + Nm.wv ngq ys).natAbs ≤ far fm T + far fm Tq by omega)
 omega
theorem add_ok {na nb : Bool} {xs ys : List Int} (a b : Option Addr) (cap cap' : Nat) (w : World) (hx : Sl .u32 w (.slice a xs.length cap) xs) (hy : Sl .u32 w (.slice b ys.length cap') ys) (dx : Nm.Dg xs) (dy : Nm.Dg ys) (ho : okB na xs = true) (ho' : okB nb ys = true) (x : Int) (hxv : x = Nm.wv na xs + Nm.wv nb ys) (hf : Nm.fits x = true) :
  Calls Tryz.prog 61 #[.agg #[.bool na, .slice a xs.length cap], .agg #[.bool nb, .slice b ys.length cap']] w fun e w' => ∃ a' c', e = .returned (.tuple #[.agg #[.bool (Nm.wn x), .slice a' (Nm.wl x).length c'], .bool true]) ∧ Own w' w.heap.size a' c' (Nm.wl x) ∧ Below w.heap.size w w' := by
 have h1 := (okB_nz ho).2
 have h2 := (okB_nz ho').2
 have h := wadd_impl na nb a b cap cap' xs ys w hx hy dx dy (by omega) (by omega) x hxv
 have e4 := out_fits hf
 rw [ho, ho', Bool.and_self, (op_yes _).1, (op_yes _).2.1, (op_yes _).2.2, hf, e4.1, e4.2] at h
 exact h
theorem Q9.new3 (w : World) (o o' : Obj) (v0 v1 v2 v3 v4 v5 v6 v7 v8 : Value) (t : TypeId) : Q9 (((w.alloc o).alloc o').alloc (.cells #[v0, v1, v2, v3, v4, v5, v6, v7, v8] t)) (w.heap.size + 1 + 1) v0 v1 v2 v3 v4 v5 v6 v7 v8 := by simpa using Q9.new ((w.alloc o).alloc o') v0 v1 v2 v3 v4 v5 v6 v7 v8 t
theorem Q9.nw2 (w : World) (o : Obj) (v0 v1 v2 v3 v4 v5 v6 v7 v8 : Value) (t : TypeId) : Q9 ((w.alloc o).alloc (.cells #[v0, v1, v2, v3, v4, v5, v6, v7, v8] t)) (w.heap.size + 1) v0 v1 v2 v3 v4 v5 v6 v7 v8 := by simpa using Q9.new (w.alloc o) v0 v1 v2 v3 v4 v5 v6 v7 v8 t
theorem heap9 (w : World) (B b : Nat) (h : b ≠ B) (u0 u1 u2 u3 u4 u5 u6 u7 u8 : Value) :
  (((((((((w.setCell ⟨B, 0, none⟩ u0).setCell ⟨B, 1, none⟩ u1).setCell ⟨B, 2, none⟩ u2).setCell ⟨B, 3, none⟩ u3).setCell ⟨B, 4, none⟩ u4).setCell ⟨B, 5, none⟩ u5).setCell ⟨B, 6, none⟩ u6).setCell ⟨B, 7, none⟩ u7).setCell ⟨B, 8, none⟩ u8).heap[b]? = w.heap[b]? := by
 rw [Below.heap_setCell _ _ _ _ h, Below.heap_setCell _ _ _ _ h, Below.heap_setCell _ _ _ _ h, Below.heap_setCell _ _ _ _ h, Below.heap_setCell _ _ _ _ h, Below.heap_setCell _ _ _ _ h, Below.heap_setCell _ _ _ _ h, Below.heap_setCell _ _ _ _ h, Below.heap_setCell _ _ _ _ h]
theorem Box.of_block {w w' : World} {b : Nat} {v0 v1 : Value} (h : Box w b v0 v1) (e : w'.heap[b]? = w.heap[b]?) : Box w' b v0 v1 :=
 ⟨(World.cell?_of_block (a := ⟨b, 0, none⟩) e).trans h.1, (World.cell?_of_block (a := ⟨b, 1, none⟩) e).trans h.2⟩
theorem keep9 {w : World} {B b b' b'' : Nat} {v0 v1 v2 v3 v4 v5 v6 v7 v8 y0 y1 y2 y3 y4 y5 y6 y7 y8 z0 z1 : Value} (h : Q9 w b v0 v1 v2 v3 v4 v5 v6 v7 v8) (h' : Q9 w b' y0 y1 y2 y3 y4 y5 y6 y7 y8) (h'' : Box w b'' z0 z1) (n : b ≠ B) (n' : b' ≠ B) (n'' : b'' ≠ B) (u0 u1 u2 u3 u4 u5 u6 u7 u8 : Value) (W : World)
  (hW : W = (((((((((w.setCell ⟨B, 0, none⟩ u0).setCell ⟨B, 1, none⟩ u1).setCell ⟨B, 2, none⟩ u2).setCell ⟨B, 3, none⟩ u3).setCell ⟨B, 4, none⟩ u4).setCell ⟨B, 5, none⟩ u5).setCell ⟨B, 6, none⟩ u6).setCell ⟨B, 7, none⟩ u7).setCell ⟨B, 8, none⟩ u8)) :
  (W.cell? ⟨b, 0, none⟩ = some v0 ∧ W.cell? ⟨b, 1, none⟩ = some v1 ∧ W.cell? ⟨b, 2, none⟩ = some v2 ∧ W.cell? ⟨b, 3, none⟩ = some v3 ∧ W.cell? ⟨b, 4, none⟩ = some v4 ∧ W.cell? ⟨b, 5, none⟩ = some v5 ∧ W.cell? ⟨b, 6, none⟩ = some v6 ∧ W.cell? ⟨b, 7, none⟩ = some v7 ∧ W.cell? ⟨b, 8, none⟩ = some v8) ∧ (W.cell? ⟨b', 0, none⟩ = some y0 ∧ W.cell? ⟨b', 1, none⟩ = some y1 ∧ W.cell? ⟨b', 2, none⟩ = some y2 ∧ W.cell? ⟨b', 3, none⟩ = some y3 ∧ W.cell? ⟨b', 4, none⟩ = some y4 ∧ W.cell? ⟨b', 5, none⟩ = some y5 ∧ W.cell? ⟨b', 6, none⟩ = some y6 ∧ W.cell? ⟨b', 7, none⟩ = some y7 ∧ W.cell? ⟨b', 8, none⟩ = some y8) ∧ W.cell? ⟨b'', 0, none⟩ = some z0 ∧ W.cell? ⟨b'', 1, none⟩ = some z1 := by
 subst hW
 exact ⟨(h.of_block (heap9 w B b n u0 u1 u2 u3 u4 u5 u6 u7 u8)).cs, (h'.of_block (heap9 w B b' n' u0 u1 u2 u3 u4 u5 u6 u7 u8)).cs, h''.of_block (heap9 w B b'' n'' u0 u1 u2 u3 u4 u5 u6 u7 u8)⟩
theorem twith (fm : Int) (ng : Bool) (T : Int) (nn bd pl mi am : Bool) (fmq : Int) (ngq : Bool) (Tq : Int) (nnq bdq plq miq amq : Bool) (p pq : Option Addr) (cap capq : Nat) (zs ys : List Int) (w : World) (hs : Sl .u32 w (.slice p zs.length cap) zs) (hy : Sl .u32 w (.slice pq ys.length capq) ys) (dz : Nm.Dg zs) (dy : Nm.Dg ys) (hk : mkB T nn bd pl mi am = true) (h0' : 0 ≤ Tq) (h1' : Tq ≤ 1000000) (ho : okB ng zs = true) (ho' : okB ngq ys = true) (x : Int) (hx : x = Nm.wv ng zs + Nm.wv ngq ys) (hf : Nm.fits x = true) :
  Calls Tryz.prog 123 #[.agg #[.int .i64 T, .bool nn, .bool bd, .bool pl, .bool mi, .bool am, .int .i64 fm, .bool ng, .slice p zs.length cap], .agg #[.int .i64 Tq, .bool nnq, .bool bdq, .bool plq, .bool miq, .bool amq, .int .i64 fmq, .bool ngq, .slice pq ys.length capq]] w fun e w' => ∃ a' c', e = .returned (.agg #[.int .i64 (T + Tq), .bool (nn || nnq), .bool (bd || bdq), .bool (pl || plq), .bool (mi || miq), .bool (amW T am Tq amq), .int .i64 fm, .bool (Nm.wn x), .slice a' (Nm.wl x).length c']) ∧ Own w' w.heap.size a' c' (Nm.wl x) ∧ Below w.heap.size w w' := by
 have CA := hid (fun w' h h' => add_ok (na := ng) (nb := ngq) p pq cap capq w' h h' dz dy ho ho' x hx hf)
 have CM := hid (fun w' => mwith T nn bd pl mi am Tq nnq bdq plq miq amq w' hk h0' h1' _ rfl)
 obtain ⟨T2, hT2⟩ : ∃ T2, T2 = T + Tq := ⟨_, rfl⟩
 obtain ⟨n2, hn2⟩ : ∃ n2, n2 = (nn || nnq) := ⟨_, rfl⟩
 obtain ⟨b2, hb2⟩ : ∃ b2, b2 = (bd || bdq) := ⟨_, rfl⟩
 obtain ⟨p2, hp2⟩ : ∃ p2, p2 = (pl || plq) := ⟨_, rfl⟩
 obtain ⟨m2, hm2⟩ : ∃ m2, m2 = (mi || miq) := ⟨_, rfl⟩
 obtain ⟨a2, ha2⟩ : ∃ a2, a2 = amW T am Tq amq := ⟨_, rfl⟩
 obtain ⟨G, hG⟩ : ∃ G, G = Nm.wn x := ⟨_, rfl⟩
 obtain ⟨L, hL⟩ : ∃ L, L = Nm.wl x := ⟨_, rfl⟩
 rw [← hT2, ← hn2, ← hb2, ← hp2, ← hm2, ← ha2] at CM
 rw [← hG, ← hL] at CA
 rw [← hT2, ← hn2, ← hb2, ← hp2, ← hm2, ← ha2, ← hG, ← hL]
 clear hT2 hn2 hb2 hp2 hm2 ha2 hG hL hk ho ho' hx hf dz dy
 go_enter Tryz.func123, Tryz.ntmps123
 go_wp2_with fail
 refine (CA.out _ (((hs.alloc _).alloc _).alloc _) (((hy.alloc _).alloc _).alloc _)).mono ?_
 rintro e w1 ⟨a1, k1, rfl, ho1, hb1⟩
 have qt := (((Q9.new w (.int .i64 T) (.bool nn) (.bool bd) (.bool pl) (.bool mi) (.bool am) (.int .i64 fm) (.bool ng) (.slice p zs.length cap) 145).alloc _).alloc _).below hb1
 have qo := ((Q9.nw2 w (.cells #[.int .i64 T, .bool nn, .bool bd, .bool pl, .bool mi, .bool am, .int .i64 fm, .bool ng, .slice p zs.length cap] 145) (.int .i64 Tq) (.bool nnq) (.bool bdq) (.bool plq) (.bool miq) (.bool amq) (.int .i64 fmq) (.bool ngq) (.slice pq ys.length capq) 145).alloc _).below hb1
 have qr := (Q9.new3 w (.cells #[.int .i64 T, .bool nn, .bool bd, .bool pl, .bool mi, .bool am, .int .i64 fm, .bool ng, .slice p zs.length cap] 145) (.cells #[.int .i64 Tq, .bool nnq, .bool bdq, .bool plq, .bool miq, .bool amq, .int .i64 fmq, .bool ngq, .slice pq ys.length capq] 145) (.int .i64 0) (.bool false) (.bool false) (.bool false) (.bool false) (.bool false) (.int .i64 0) (.bool false) (.slice none 0 0) 145).below hb1
 have bel1 : Below w.heap.size w w1 := (by repeat (first | exact bz0 _ _ | refine bz1 ?_ | refine bz2 ?_ _ | refine bz3 ?_ _ | refine bz4 ?_ hb1 | refine bz5 ?_ _ | refine bz6 ?_ _ | refine bz7 ?_ hb1))
 have lr := qr.lt
 have ho1 : Own w1 (w.heap.size + 1 + 1 + 1) a1 k1 L := by simpa using ho1
 clear hb1 CA
 replace qt := qt.alloc (.cells #[.bool G, .slice a1 L.length k1] 32)
 replace qo := qo.alloc (.cells #[.bool G, .slice a1 L.length k1] 32)
 replace qr := qr.alloc (.cells #[.bool G, .slice a1 L.length k1] 32)
 have bx := Box.new w1 (.bool G) (.slice a1 L.length k1) 32
 have bel2 := bel_al bel1 (.cells #[.bool G, .slice a1 L.length k1] 32)
 have ho2 := ho1.alloc (.cells #[.bool G, .slice a1 L.length k1] 32)
 clear ho1
 have ctd := qt.drew.cs
 have cod := qo.drew.cs
 have bxd : Box (w1.alloc (.cells #[.bool G, .slice a1 L.length k1] 32)).drew w1.heap.size (.bool G) (.slice a1 L.length k1) := bx
 have bxd' := bxd
 obtain ⟨bxd0, bxd1⟩ := bxd'
 go_wp2_with fail
 go_region_held3 (fun w' => (w'.cell? ⟨w.heap.size, 0, none⟩ = some (.int .i64 T) ∧ w'.cell? ⟨w.heap.size, 1, none⟩ = some (.bool nn) ∧ w'.cell? ⟨w.heap.size, 2, none⟩ = some (.bool bd) ∧ w'.cell? ⟨w.heap.size, 3, none⟩ = some (.bool pl) ∧ w'.cell? ⟨w.heap.size, 4, none⟩ = some (.bool mi) ∧ w'.cell? ⟨w.heap.size, 5, none⟩ = some (.bool am) ∧ w'.cell? ⟨w.heap.size, 6, none⟩ = some (.int .i64 fm) ∧ w'.cell? ⟨w.heap.size, 7, none⟩ = some (.bool ng) ∧ w'.cell? ⟨w.heap.size, 8, none⟩ = some (.slice p zs.length cap)) ∧ (w'.cell? ⟨w.heap.size + 1, 0, none⟩ = some (.int .i64 Tq) ∧ w'.cell? ⟨w.heap.size + 1, 1, none⟩ = some (.bool nnq) ∧ w'.cell? ⟨w.heap.size + 1, 2, none⟩ = some (.bool bdq) ∧ w'.cell? ⟨w.heap.size + 1, 3, none⟩ = some (.bool plq) ∧ w'.cell? ⟨w.heap.size + 1, 4, none⟩ = some (.bool miq) ∧ w'.cell? ⟨w.heap.size + 1, 5, none⟩ = some (.bool amq) ∧ w'.cell? ⟨w.heap.size + 1, 6, none⟩ = some (.int .i64 fmq) ∧ w'.cell? ⟨w.heap.size + 1, 7, none⟩ = some (.bool ngq) ∧ w'.cell? ⟨w.heap.size + 1, 8, none⟩ = some (.slice pq ys.length capq)) ∧ w'.cell? ⟨w1.heap.size, 0, none⟩ = some (.bool G) ∧ w'.cell? ⟨w1.heap.size, 1, none⟩ = some (.slice a1 L.length k1))
  (first | with_reducible assumption | with_reducible exact ⟨ctd, cod, bxd0, bxd1⟩ | with_reducible exact keep9 tq oq bq (by omega) (by omega) (by omega) _ _ _ _ _ _ _ _ _ _ rfl | fail)
  (first
   | (go_at_call 202; refine (CM.out _).mono ?_; rintro e q1 ⟨rfl, hq1⟩; have tq := qt.drew.below hq1; have oq := qo.drew.below hq1; have bq := Box.below bxd hq1; have f1 := And.intro tq.cs (And.intro oq.cs (And.intro bq.1 bq.2)); obtain ⟨r0, r1, r2, r3, r4, r5, r6, r7, r8, g0, g1, g2, g3, g4, g5, g6, g7, g8⟩ := qr.drew.below hq1))
 go_wp2
 refine bodyPost_ret (v := .agg #[.int .i64 T2, .bool n2, .bool b2, .bool p2, .bool m2, .bool a2, .int .i64 fm, .bool G, .slice a1 L.length k1]) (by simp [results, Tryz.results123, go_sem, r0, r1, r2, r3, r4, r5, r6, r7, r8]) rfl ⟨a1, k1, rfl, ?_, ?_⟩
 ·have ho3 := ho2.drew.below hq1
  refine Own.base (B := w.heap.size + 1 + 1 + 1) ?_ (by omega)
  repeat (first | with_reducible exact ho3 | (with_reducible refine Own.setBelow ?_ ?_ _; rotate_left; (simp; try omega)))
 ·exact (by (repeat with_reducible first | refine Below.setCell ?_ ?_ _ | exact bz0 _ _ | refine bz1 ?_ | refine bz2 ?_ _ | refine bz3 ?_ _ | refine bz4 ?_ hq1 | refine bz4 ?_ bel1 | refine Below.alloc ?_ ?_ _ | refine Below.trans ?_ (Below.mono hq1 ?_) | refine Below.trans ?_ (Below.mono bel1 ?_)) <;> first | omega | (simp; done) | (simp; omega))
def tcC (ok all : Bool) (T : Int) : Int := if ok then (if all then (if T = 1000000 then 3 else 0) else 2) else 1
end Go.Proofs.YtkfjmcdniohljaaGreatDoor
