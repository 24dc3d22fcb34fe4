/-
  Several texts in one: AccL, AccM, VecA, ND.
-/
import Derived.Test.YtapjclcjojadaaaGreatDoorG17
import Derived.Test.YtapjclcjojadaaaGreatDoorG21
import Derived.Deep.RegionHeld3
import Derived.Test.YtapjclcjojadaaaGreatDoorG01
import Derived.Test.YtapjclcjojadaaaGreatDoorG07
import Derived.Test.YtapjclcjojadaaaGreatDoorG15
import Derived.LoopN
/-
  Marks joined, tallies joined, a tally as an accumulator: by the program.
-/
namespace Go.Proofs.YtapjclcjojadaaaGreatDoor
set_option linter.unusedVariables false
set_option linter.unusedSimpArgs false
open Go.RowKit Go.Deep
/-- Whether all of the terms of both are zeros below 0. -/
def amW (T : Int) (am : Bool) (T' : Int) (am' : Bool) : Bool := am && (am' || decide (T' = 0)) || decide (T = 0) && am'
theorem mk_am {T : Int} {nn bd pl mi am : Bool} (h : mkB T nn bd pl mi am = true) : (am = true → nn = false ∧ bd = false ∧ pl = false ∧ mi = false) ∧ (bd = true → nn = true) ∧ (T = 0 → nn = false ∧ bd = false ∧ pl = false ∧ mi = false ∧ am = false) := by
  unfold mkB at h
  by_cases h0 : T = 0
  · rw [decide_eq_true h0] at h
    revert h
    cases nn <;> cases bd <;> cases pl <;> cases mi <;> cases am <;> simp
  · rw [decide_eq_false h0] at h
    revert h
    cases nn <;> cases bd <;> cases pl <;> cases mi <;> cases am <;> simp [h0]
set_option maxHeartbeats 8000000 in
set_option maxRecDepth 100000 in
theorem mwith (T : Int) (nn bd pl mi am : Bool) (T' : Int) (nn' bd' pl' mi' am' : Bool) (w : World) (hk : mkB T nn bd pl mi am = true) (h0' : 0 ≤ T') (h1' : T' ≤ 1000000) (V : Value) (hV : V = .agg #[.int .i64 (T + T'), .bool (nn || nn'), .bool (bd || bd'), .bool (pl || pl'), .bool (mi || mi'), .bool (amW T am T' am')]) :
    Calls Tryz.prog 136 #[.agg #[.int .i64 T, .bool nn, .bool bd, .bool pl, .bool mi, .bool am], .agg #[.int .i64 T', .bool nn', .bool bd', .bool pl', .bool mi', .bool am']] w fun e w' => e = .returned V ∧ Below w.heap.size w w' := by
  have HV := hid hV
  clear hV
  obtain ⟨ham, hbn, hT0⟩ := mk_am hk
  obtain ⟨h0, h1⟩ := mkB_T hk
  clear hk
  by_cases ht : T = 0
  · subst ht
    obtain ⟨rfl, rfl, rfl, rfl, rfl⟩ := hT0 rfl
    clear ham hbn hT0
    go_enter Tryz.func136, Tryz.ntmps136
    go_wp2
    refine bodyPost_ret (v := V) (by rw [HV.out]; simp [results, Tryz.results136, go_sem, amW]) rfl ⟨rfl, ?_⟩
    exact (by repeat (first | (with_reducible refine Below.setCell ?_ ?_ _; rotate_left; focus (first | omega | (simp; done) | (simp; omega))) | (with_reducible exact Below.refl _ _) | (with_reducible refine Below.drew ?_) | (with_reducible refine bel_dn ?_ _) | (with_reducible refine bel_al ?_ _) | (with_reducible refine Below.alloc ?_ ?_ _; rotate_left; focus (first | omega | (simp; done) | (simp; omega)))))
  clear hT0
  have hb : (T == 0) = false := by simpa using ht
  cases am with
  | true =>
    obtain ⟨rfl, rfl, rfl, rfl⟩ := ham rfl
    clear ham hbn
    cases am' with
    | true =>
      go_enter Tryz.func136, Tryz.ntmps136
      go_wp2
      refine bodyPost_ret (v := V) (by rw [HV.out]; simp [results, Tryz.results136, go_sem, amW, ht]) rfl ⟨rfl, ?_⟩
      exact (by repeat (first | (with_reducible refine Below.setCell ?_ ?_ _; rotate_left; focus (first | omega | (simp; done) | (simp; omega))) | (with_reducible exact Below.refl _ _) | (with_reducible refine Below.drew ?_) | (with_reducible refine bel_dn ?_ _) | (with_reducible refine bel_al ?_ _) | (with_reducible refine Below.alloc ?_ ?_ _; rotate_left; focus (first | omega | (simp; done) | (simp; omega)))))
    | false =>
      by_cases ht' : T' = 0
      · subst ht'
        go_enter Tryz.func136, Tryz.ntmps136
        go_wp2
        refine bodyPost_ret (v := V) (by rw [HV.out]; simp [results, Tryz.results136, go_sem, amW, ht]) rfl ⟨rfl, ?_⟩
        exact (by repeat (first | (with_reducible refine Below.setCell ?_ ?_ _; rotate_left; focus (first | omega | (simp; done) | (simp; omega))) | (with_reducible exact Below.refl _ _) | (with_reducible refine Below.drew ?_) | (with_reducible refine bel_dn ?_ _) | (with_reducible refine bel_al ?_ _) | (with_reducible refine Below.alloc ?_ ?_ _; rotate_left; focus (first | omega | (simp; done) | (simp; omega)))))
      · have hb' : (T' == 0) = false := by simpa using ht'
        go_enter Tryz.func136, Tryz.ntmps136
        go_wp2
        refine bodyPost_ret (v := V) (by rw [HV.out]; simp [results, Tryz.results136, go_sem, amW, ht', ht]) rfl ⟨rfl, ?_⟩
        exact (by repeat (first | (with_reducible refine Below.setCell ?_ ?_ _; rotate_left; focus (first | omega | (simp; done) | (simp; omega))) | (with_reducible exact Below.refl _ _) | (with_reducible refine Below.drew ?_) | (with_reducible refine bel_dn ?_ _) | (with_reducible refine bel_al ?_ _) | (with_reducible refine Below.alloc ?_ ?_ _; rotate_left; focus (first | omega | (simp; done) | (simp; omega)))))
  | false =>
    clear ham
    cases nn with
    | true =>
      clear hbn
      cases bd <;> cases pl <;> cases mi <;>
      · go_enter Tryz.func136, Tryz.ntmps136
        go_wp2
        refine bodyPost_ret (v := V) (by rw [HV.out]; simp [results, Tryz.results136, go_sem, amW, ht]) rfl ⟨rfl, ?_⟩
        exact (by repeat (first | (with_reducible refine Below.setCell ?_ ?_ _; rotate_left; focus (first | omega | (simp; done) | (simp; omega))) | (with_reducible exact Below.refl _ _) | (with_reducible refine Below.drew ?_) | (with_reducible refine bel_dn ?_ _) | (with_reducible refine bel_al ?_ _) | (with_reducible refine Below.alloc ?_ ?_ _; rotate_left; focus (first | omega | (simp; done) | (simp; omega)))))
    | false =>
      have hbd : bd = false := by cases bd; rfl; exact absurd (hbn rfl) (by decide)
      subst hbd
      clear hbn
      cases pl <;> cases mi <;>
      · go_enter Tryz.func136, Tryz.ntmps136
        go_wp2
        refine bodyPost_ret (v := V) (by rw [HV.out]; simp [results, Tryz.results136, go_sem, amW, ht]) rfl ⟨rfl, ?_⟩
        exact (by repeat (first | (with_reducible refine Below.setCell ?_ ?_ _; rotate_left; focus (first | omega | (simp; done) | (simp; omega))) | (with_reducible exact Below.refl _ _) | (with_reducible refine Below.drew ?_) | (with_reducible refine bel_dn ?_ _) | (with_reducible refine bel_al ?_ _) | (with_reducible refine Below.alloc ?_ ?_ _; rotate_left; focus (first | omega | (simp; done) | (simp; omega)))))
set_option maxHeartbeats 4000000 in
set_option maxRecDepth 100000 in
theorem tacc (fm : Int) (ng : Bool) (T : Int) (nn bd pl mi am : Bool) (v : Value) (w : World) (hv : ∃ a n c, v = .slice a n c) :
    Calls Tryz.prog 69 #[.agg #[.int .i64 T, .bool nn, .bool bd, .bool pl, .bool mi, .bool am, .int .i64 fm, .bool ng, v]] w fun e w' => e = .returned (.agg #[.int .i64 fm, .bool ng, v, .int .i64 T, .bool nn, .bool bd, .bool pl, .bool mi, .bool am]) ∧ Below w.heap.size w w' := by
  obtain ⟨a, n, c, rfl⟩ := hv
  go_enter Tryz.func69, Tryz.ntmps69
  go_wp2
  refine bodyPost_ret (v := .agg #[.int .i64 fm, .bool ng, .slice a n c, .int .i64 T, .bool nn, .bool bd, .bool pl, .bool mi, .bool am]) (by simp [results, Tryz.results69, go_sem]) rfl ⟨rfl, ?_⟩
  exact (by repeat (first | (with_reducible refine Below.setCell ?_ ?_ _; rotate_left; focus (first | omega | (simp; done) | (simp; omega))) | (with_reducible exact Below.refl _ _) | (with_reducible refine Below.drew ?_) | (with_reducible refine bel_dn ?_ _) | (with_reducible refine bel_al ?_ _) | (with_reducible refine Below.alloc ?_ ?_ _; rotate_left; focus (first | omega | (simp; done) | (simp; omega)))))
end Go.Proofs.YtapjclcjojadaaaGreatDoor
/-
  Tallies joined, by the program; what is known of sums of right accumulators.
-/
namespace Go.Proofs.YtapjclcjojadaaaGreatDoor
set_option linter.unusedVariables false
set_option linter.unusedSimpArgs false
open Go.RowKit Go.Deep
theorem acc_parts {fm : Int} {ng : Bool} {zs : List Int} {T : Int} {nn bd pl mi am : Bool} (h : accB fm ng zs T nn bd pl mi am = true) : fmtB fm = true ∧ mkB T nn bd pl mi am = true ∧ okB ng zs = true ∧ cmpL zs (Nm.lim (far fm T)) ≤ 0 := by
  unfold accB at h
  simp only [Bool.and_eq_true, decide_eq_true_eq] at h
  exact ⟨h.1.1.1.1, h.1.1.1.2, h.1.1.2, h.1.2⟩
theorem acc_val {fm : Int} {ng : Bool} {zs : List Int} {T : Int} {nn bd pl mi am : Bool} (hd : Nm.Dg zs) (h : accB fm ng zs T nn bd pl mi am = true) : (Nm.val zs).toNat ≤ far fm T := by
  obtain ⟨-, -, ho, hc⟩ := acc_parts h
  have h1 := (cmpL_val hd (Nm.lim_dg (far fm T)) (okB_nz ho).1 (Nm.lim_nz _)).2
  have h2 : ¬ Nm.val (Nm.lim (far fm T)) < Nm.val zs := fun h => by have := h1.2 h; omega
  rw [Nm.lim_val] at h2
  omega
theorem fits_bl {x : Int} (h : bitLen x.natAbs ≤ 6400) : Nm.fits x = true := by
  unfold Nm.fits Nm.wl; exact decide_eq_true (lim_len (k := 200) (by omega))
theorem wv_abs (ng : Bool) {zs : List Int} (hd : Nm.Dg zs) : (Nm.wv ng zs).natAbs = (Nm.val zs).toNat := Nm.natAbs_wv ng hd
theorem sum_bk {u v k : Nat} (hu : bitLen u ≤ k) (hv : bitLen v ≤ k) : bitLen (u + v) ≤ k + 1 := by
  have h1 := (Nm.bl_le_iff u k).1 hu
  have h2 := (Nm.bl_le_iff v k).1 hv
  refine (Nm.bl_le_iff (u + v) (k + 1)).2 ?_
  rw [Nat.pow_succ]; omega
theorem sum_bl {u v : Nat} (hu : bitLen u ≤ 4216) (hv : bitLen v ≤ 4216) : bitLen (u + v) ≤ 4217 := sum_bk hu hv
theorem merge_fits {fm : Int} {ng ngq : Bool} {zs ys : List Int} {T Tq : Int} {nn bd pl mi am nnq bdq plq miq amq : Bool} (dz : Nm.Dg zs) (dy : Nm.Dg ys) (h : accB fm ng zs T nn bd pl mi am = true) (h' : accB fm ngq ys Tq nnq bdq plq miq amq = true) : Nm.fits (Nm.wv ng zs + Nm.wv ngq ys) = true := by
  refine fits_bl ?_
  have h1 := acc_val dz h
  have h2 := acc_val dy h'
  have e1 := wv_abs ng dz
  have e2 := wv_abs ngq dy
  have t1 := (mkB_T (acc_parts h).2.1).2
  have t2 := (mkB_T (acc_parts h').2.1).2
  have b := sum_bl (far_bl fm t1) (far_bl fm t2)
  have hm := Nm.bl_mono (show (Nm.wv ng zs + Nm.wv ngq ys).natAbs ≤ far fm T + far fm Tq by omega)
  omega
theorem add_ok {na nb : Bool} {xs ys : List Int} (a b : Option Addr) (cap cap' : Nat) (w : World) (hx : Sl .u32 w (.slice a xs.length cap) xs) (hy : Sl .u32 w (.slice b ys.length cap') ys) (dx : Nm.Dg xs) (dy : Nm.Dg ys) (ho : okB na xs = true) (ho' : okB nb ys = true) (x : Int) (hxv : x = Nm.wv na xs + Nm.wv nb ys) (hf : Nm.fits x = true) :
    Calls Tryz.prog 135 #[.agg #[.bool na, .slice a xs.length cap], .agg #[.bool nb, .slice b ys.length cap']] w fun e w' => ∃ a' c', e = .returned (.tuple #[.agg #[.bool (Nm.wn x), .slice a' (Nm.wl x).length c'], .bool true]) ∧ Own w' w.heap.size a' c' (Nm.wl x) ∧ Below w.heap.size w w' := by
  have h1 := (okB_nz ho).2
  have h2 := (okB_nz ho').2
  have h := wadd_impl na nb a b cap cap' xs ys w hx hy dx dy (by omega) (by omega) x hxv
  have e4 := out_fits hf
  rw [ho, ho', Bool.and_self, (op_yes _).1, (op_yes _).2.1, (op_yes _).2.2, hf, e4.1, e4.2] at h
  exact h
theorem Q9.new3 (w : World) (o o' : Obj) (v0 v1 v2 v3 v4 v5 v6 v7 v8 : Value) (t : TypeId) : Q9 (((w.alloc o).alloc o').alloc (.cells #[v0, v1, v2, v3, v4, v5, v6, v7, v8] t)) (w.heap.size + 1 + 1) v0 v1 v2 v3 v4 v5 v6 v7 v8 := by simpa using Q9.new ((w.alloc o).alloc o') v0 v1 v2 v3 v4 v5 v6 v7 v8 t
theorem Q9.nw2 (w : World) (o : Obj) (v0 v1 v2 v3 v4 v5 v6 v7 v8 : Value) (t : TypeId) : Q9 ((w.alloc o).alloc (.cells #[v0, v1, v2, v3, v4, v5, v6, v7, v8] t)) (w.heap.size + 1) v0 v1 v2 v3 v4 v5 v6 v7 v8 := by simpa using Q9.new (w.alloc o) v0 v1 v2 v3 v4 v5 v6 v7 v8 t
theorem heap9 (w : World) (B b : Nat) (h : b ≠ B) (u0 u1 u2 u3 u4 u5 u6 u7 u8 : Value) :
    (((((((((w.setCell ⟨B, 0, none⟩ u0).setCell ⟨B, 1, none⟩ u1).setCell ⟨B, 2, none⟩ u2).setCell ⟨B, 3, none⟩ u3).setCell ⟨B, 4, none⟩ u4).setCell ⟨B, 5, none⟩ u5).setCell ⟨B, 6, none⟩ u6).setCell ⟨B, 7, none⟩ u7).setCell ⟨B, 8, none⟩ u8).heap[b]? = w.heap[b]? := by
  rw [Below.heap_setCell _ _ _ _ h, Below.heap_setCell _ _ _ _ h, Below.heap_setCell _ _ _ _ h, Below.heap_setCell _ _ _ _ h, Below.heap_setCell _ _ _ _ h, Below.heap_setCell _ _ _ _ h, Below.heap_setCell _ _ _ _ h, Below.heap_setCell _ _ _ _ h, Below.heap_setCell _ _ _ _ h]
theorem Box.of_block {w w' : World} {b : Nat} {v0 v1 : Value} (h : Box w b v0 v1) (e : w'.heap[b]? = w.heap[b]?) : Box w' b v0 v1 :=
  ⟨(World.cell?_of_block (a := ⟨b, 0, none⟩) e).trans h.1, (World.cell?_of_block (a := ⟨b, 1, none⟩) e).trans h.2⟩
/-- Nine stores into one block leave what lies in two boxes of nine and in one of two. -/
theorem keep9 {w : World} {B b b' b'' : Nat} {v0 v1 v2 v3 v4 v5 v6 v7 v8 y0 y1 y2 y3 y4 y5 y6 y7 y8 z0 z1 : Value} (h : Q9 w b v0 v1 v2 v3 v4 v5 v6 v7 v8) (h' : Q9 w b' y0 y1 y2 y3 y4 y5 y6 y7 y8) (h'' : Box w b'' z0 z1) (n : b ≠ B) (n' : b' ≠ B) (n'' : b'' ≠ B) (u0 u1 u2 u3 u4 u5 u6 u7 u8 : Value) (W : World)
    (hW : W = (((((((((w.setCell ⟨B, 0, none⟩ u0).setCell ⟨B, 1, none⟩ u1).setCell ⟨B, 2, none⟩ u2).setCell ⟨B, 3, none⟩ u3).setCell ⟨B, 4, none⟩ u4).setCell ⟨B, 5, none⟩ u5).setCell ⟨B, 6, none⟩ u6).setCell ⟨B, 7, none⟩ u7).setCell ⟨B, 8, none⟩ u8)) :
    (W.cell? ⟨b, 0, none⟩ = some v0 ∧ W.cell? ⟨b, 1, none⟩ = some v1 ∧ W.cell? ⟨b, 2, none⟩ = some v2 ∧ W.cell? ⟨b, 3, none⟩ = some v3 ∧ W.cell? ⟨b, 4, none⟩ = some v4 ∧ W.cell? ⟨b, 5, none⟩ = some v5 ∧ W.cell? ⟨b, 6, none⟩ = some v6 ∧ W.cell? ⟨b, 7, none⟩ = some v7 ∧ W.cell? ⟨b, 8, none⟩ = some v8) ∧ (W.cell? ⟨b', 0, none⟩ = some y0 ∧ W.cell? ⟨b', 1, none⟩ = some y1 ∧ W.cell? ⟨b', 2, none⟩ = some y2 ∧ W.cell? ⟨b', 3, none⟩ = some y3 ∧ W.cell? ⟨b', 4, none⟩ = some y4 ∧ W.cell? ⟨b', 5, none⟩ = some y5 ∧ W.cell? ⟨b', 6, none⟩ = some y6 ∧ W.cell? ⟨b', 7, none⟩ = some y7 ∧ W.cell? ⟨b', 8, none⟩ = some y8) ∧ W.cell? ⟨b'', 0, none⟩ = some z0 ∧ W.cell? ⟨b'', 1, none⟩ = some z1 := by
  subst hW
  exact ⟨(h.of_block (heap9 w B b n u0 u1 u2 u3 u4 u5 u6 u7 u8)).cs, (h'.of_block (heap9 w B b' n' u0 u1 u2 u3 u4 u5 u6 u7 u8)).cs, h''.of_block (heap9 w B b'' n'' u0 u1 u2 u3 u4 u5 u6 u7 u8)⟩
set_option maxHeartbeats 8000000 in
set_option maxRecDepth 100000 in
theorem twith (fm : Int) (ng : Bool) (T : Int) (nn bd pl mi am : Bool) (fmq : Int) (ngq : Bool) (Tq : Int) (nnq bdq plq miq amq : Bool) (p pq : Option Addr) (cap capq : Nat) (zs ys : List Int) (w : World) (hs : Sl .u32 w (.slice p zs.length cap) zs) (hy : Sl .u32 w (.slice pq ys.length capq) ys) (dz : Nm.Dg zs) (dy : Nm.Dg ys) (hk : mkB T nn bd pl mi am = true) (h0' : 0 ≤ Tq) (h1' : Tq ≤ 1000000) (ho : okB ng zs = true) (ho' : okB ngq ys = true) (x : Int) (hx : x = Nm.wv ng zs + Nm.wv ngq ys) (hf : Nm.fits x = true) :
    Calls Tryz.prog 67 #[.agg #[.int .i64 T, .bool nn, .bool bd, .bool pl, .bool mi, .bool am, .int .i64 fm, .bool ng, .slice p zs.length cap], .agg #[.int .i64 Tq, .bool nnq, .bool bdq, .bool plq, .bool miq, .bool amq, .int .i64 fmq, .bool ngq, .slice pq ys.length capq]] w fun e w' => ∃ a' c', e = .returned (.agg #[.int .i64 (T + Tq), .bool (nn || nnq), .bool (bd || bdq), .bool (pl || plq), .bool (mi || miq), .bool (amW T am Tq amq), .int .i64 fm, .bool (Nm.wn x), .slice a' (Nm.wl x).length c']) ∧ Own w' w.heap.size a' c' (Nm.wl x) ∧ Below w.heap.size w w' := by
  have CA := hid (fun w' h h' => add_ok (na := ng) (nb := ngq) p pq cap capq w' h h' dz dy ho ho' x hx hf)
  have CM := hid (fun w' => mwith T nn bd pl mi am Tq nnq bdq plq miq amq w' hk h0' h1' _ rfl)
  obtain ⟨T2, hT2⟩ : ∃ T2, T2 = T + Tq := ⟨_, rfl⟩
  obtain ⟨n2, hn2⟩ : ∃ n2, n2 = (nn || nnq) := ⟨_, rfl⟩
  obtain ⟨b2, hb2⟩ : ∃ b2, b2 = (bd || bdq) := ⟨_, rfl⟩
  obtain ⟨p2, hp2⟩ : ∃ p2, p2 = (pl || plq) := ⟨_, rfl⟩
  obtain ⟨m2, hm2⟩ : ∃ m2, m2 = (mi || miq) := ⟨_, rfl⟩
  obtain ⟨a2, ha2⟩ : ∃ a2, a2 = amW T am Tq amq := ⟨_, rfl⟩
  obtain ⟨G, hG⟩ : ∃ G, G = Nm.wn x := ⟨_, rfl⟩
  obtain ⟨L, hL⟩ : ∃ L, L = Nm.wl x := ⟨_, rfl⟩
  rw [← hT2, ← hn2, ← hb2, ← hp2, ← hm2, ← ha2] at CM
  rw [← hG, ← hL] at CA
  rw [← hT2, ← hn2, ← hb2, ← hp2, ← hm2, ← ha2, ← hG, ← hL]
  clear hT2 hn2 hb2 hp2 hm2 ha2 hG hL hk ho ho' hx hf dz dy
  go_enter Tryz.func67, Tryz.ntmps67
  go_wp2_with fail
  refine (CA.out _ (((hs.alloc _).alloc _).alloc _) (((hy.alloc _).alloc _).alloc _)).mono ?_
  rintro e w1 ⟨a1, k1, rfl, ho1, hb1⟩
  have qt := (((Q9.new w (.int .i64 T) (.bool nn) (.bool bd) (.bool pl) (.bool mi) (.bool am) (.int .i64 fm) (.bool ng) (.slice p zs.length cap) 86).alloc _).alloc _).below hb1
  have qo := ((Q9.nw2 w (.cells #[.int .i64 T, .bool nn, .bool bd, .bool pl, .bool mi, .bool am, .int .i64 fm, .bool ng, .slice p zs.length cap] 86) (.int .i64 Tq) (.bool nnq) (.bool bdq) (.bool plq) (.bool miq) (.bool amq) (.int .i64 fmq) (.bool ngq) (.slice pq ys.length capq) 86).alloc _).below hb1
  have qr := (Q9.new3 w (.cells #[.int .i64 T, .bool nn, .bool bd, .bool pl, .bool mi, .bool am, .int .i64 fm, .bool ng, .slice p zs.length cap] 86) (.cells #[.int .i64 Tq, .bool nnq, .bool bdq, .bool plq, .bool miq, .bool amq, .int .i64 fmq, .bool ngq, .slice pq ys.length capq] 86) (.int .i64 0) (.bool false) (.bool false) (.bool false) (.bool false) (.bool false) (.int .i64 0) (.bool false) (.slice none 0 0) 86).below hb1
  have bel1 : Below w.heap.size w w1 := (by repeat (first | exact Below.refl _ _ | refine Below.drew ?_ | refine bel_dn ?_ _ | refine bel_al ?_ _ | refine bel_go ?_ hb1 | refine Below.setCell ?_ (by first | omega | (simp; done) | (simp; omega)) _ | refine Below.alloc ?_ (by first | omega | (simp; done) | (simp; omega)) _ | refine Below.trans ?_ (Below.mono hb1 (by first | omega | (simp; done) | (simp; omega)))))
  have lr := qr.lt
  have ho1 : Own w1 (w.heap.size + 1 + 1 + 1) a1 k1 L := by simpa using ho1
  clear hb1 CA
  replace qt := qt.alloc (.cells #[.bool G, .slice a1 L.length k1] 29)
  replace qo := qo.alloc (.cells #[.bool G, .slice a1 L.length k1] 29)
  replace qr := qr.alloc (.cells #[.bool G, .slice a1 L.length k1] 29)
  have bx := Box.new w1 (.bool G) (.slice a1 L.length k1) 29
  have bel2 := bel_al bel1 (.cells #[.bool G, .slice a1 L.length k1] 29)
  have ho2 := ho1.alloc (.cells #[.bool G, .slice a1 L.length k1] 29)
  clear ho1
  have ctd := qt.drew.cs
  have cod := qo.drew.cs
  have bxd : Box (w1.alloc (.cells #[.bool G, .slice a1 L.length k1] 29)).drew w1.heap.size (.bool G) (.slice a1 L.length k1) := bx
  have bxd' := bxd
  obtain ⟨bxd0, bxd1⟩ := bxd'
  go_wp2_with fail
  go_region_held3 (fun w' => (w'.cell? ⟨w.heap.size, 0, none⟩ = some (.int .i64 T) ∧ w'.cell? ⟨w.heap.size, 1, none⟩ = some (.bool nn) ∧ w'.cell? ⟨w.heap.size, 2, none⟩ = some (.bool bd) ∧ w'.cell? ⟨w.heap.size, 3, none⟩ = some (.bool pl) ∧ w'.cell? ⟨w.heap.size, 4, none⟩ = some (.bool mi) ∧ w'.cell? ⟨w.heap.size, 5, none⟩ = some (.bool am) ∧ w'.cell? ⟨w.heap.size, 6, none⟩ = some (.int .i64 fm) ∧ w'.cell? ⟨w.heap.size, 7, none⟩ = some (.bool ng) ∧ w'.cell? ⟨w.heap.size, 8, none⟩ = some (.slice p zs.length cap)) ∧ (w'.cell? ⟨w.heap.size + 1, 0, none⟩ = some (.int .i64 Tq) ∧ w'.cell? ⟨w.heap.size + 1, 1, none⟩ = some (.bool nnq) ∧ w'.cell? ⟨w.heap.size + 1, 2, none⟩ = some (.bool bdq) ∧ w'.cell? ⟨w.heap.size + 1, 3, none⟩ = some (.bool plq) ∧ w'.cell? ⟨w.heap.size + 1, 4, none⟩ = some (.bool miq) ∧ w'.cell? ⟨w.heap.size + 1, 5, none⟩ = some (.bool amq) ∧ w'.cell? ⟨w.heap.size + 1, 6, none⟩ = some (.int .i64 fmq) ∧ w'.cell? ⟨w.heap.size + 1, 7, none⟩ = some (.bool ngq) ∧ w'.cell? ⟨w.heap.size + 1, 8, none⟩ = some (.slice pq ys.length capq)) ∧ w'.cell? ⟨w1.heap.size, 0, none⟩ = some (.bool G) ∧ w'.cell? ⟨w1.heap.size, 1, none⟩ = some (.slice a1 L.length k1))
    (first | with_reducible assumption | with_reducible exact ⟨ctd, cod, bxd0, bxd1⟩ | with_reducible exact keep9 tq oq bq (by omega) (by omega) (by omega) _ _ _ _ _ _ _ _ _ _ rfl | fail)
    (first
      | (go_at_call 136; refine (CM.out _).mono ?_; rintro e q1 ⟨rfl, hq1⟩; have tq := qt.drew.below hq1; have oq := qo.drew.below hq1; have bq := Box.below bxd hq1; have f1 := And.intro tq.cs (And.intro oq.cs (And.intro bq.1 bq.2)); obtain ⟨r0, r1, r2, r3, r4, r5, r6, r7, r8, g0, g1, g2, g3, g4, g5, g6, g7, g8⟩ := qr.drew.below hq1))
  go_wp2
  refine bodyPost_ret (v := .agg #[.int .i64 T2, .bool n2, .bool b2, .bool p2, .bool m2, .bool a2, .int .i64 fm, .bool G, .slice a1 L.length k1]) (by simp [results, Tryz.results67, go_sem, r0, r1, r2, r3, r4, r5, r6, r7, r8]) rfl ⟨a1, k1, rfl, ?_, ?_⟩
  · have ho3 := ho2.drew.below hq1
    refine Own.base (B := w.heap.size + 1 + 1 + 1) ?_ (by omega)
    repeat (first | with_reducible exact ho3 | (with_reducible refine Own.setBelow ?_ ?_ _; rotate_left; (simp; try omega)))
  · exact (by repeat (first | (with_reducible refine Below.setCell ?_ ?_ _; rotate_left; focus (first | omega | (simp; done) | (simp; omega))) | (with_reducible exact Below.refl _ _) | (with_reducible refine Below.drew ?_) | (with_reducible refine bel_dn ?_ _) | (with_reducible refine bel_al ?_ _) | (with_reducible refine bel_go ?_ hq1) | (with_reducible refine bel_go ?_ bel1) | (with_reducible refine Below.alloc ?_ ?_ _; rotate_left; focus (first | omega | (simp; done) | (simp; omega))) | (with_reducible refine Below.trans ?_ (Below.mono hq1 ?_); rotate_left; focus (first | omega | (simp; done) | (simp; omega))) | (with_reducible refine Below.trans ?_ (Below.mono bel1 ?_); rotate_left; focus (first | omega | (simp; done) | (simp; omega)))))
end Go.Proofs.YtapjclcjojadaaaGreatDoor
/-
  Vectors in memory; the laws' own helpers over them; whether all are floats of a format.
-/
namespace Go.Proofs.YtapjclcjojadaaaGreatDoor
set_option linter.unusedVariables false
set_option linter.unusedSimpArgs false
open Go.RowKit Go.Deep
/-- Numbers of 64 bits. -/
def D64 (xs : List Int) : Prop := ∀ x ∈ xs, 0 ≤ x ∧ x < 18446744073709551616
theorem D64.getD {xs : List Int} (h : D64 xs) (k : Nat) : 0 ≤ xs.getD k 0 ∧ xs.getD k 0 < 18446744073709551616 := by
  rw [List.getD_eq_getElem?_getD]
  by_cases hk : k < xs.length
  · rw [List.getElem?_eq_getElem hk]; exact h _ (List.getElem_mem hk)
  · rw [List.getElem?_eq_none (by omega)]; decide
theorem info64 : (Tryz.prog.info? 27).map (fun i => (i.zero, i.size, i.bytes)) = some (some (.int .u64 0), 1, 8) := by kernel_rfl
/-- k numbers are copied. -/
def copV (zs : List Int) (k : Nat) : Nat → Value := fun i => if i < k then .int .u64 (zs.getD i 0) else .int .u64 0
theorem copV_step {w : World} {b : Nat} {t : TypeId} {zs : List Int} {k : Nat} {u : Int} (h : w.rowIs b t zs.length (copV zs k)) (hu : u = zs.getD k 0) : (w.setCell ⟨b, k, none⟩ (.int .u64 u)).rowIs b t zs.length (copV zs (k + 1)) :=
  (h.set k _).congr fun i _ => by
    subst hu
    unfold copV
    by_cases e : i = k
    · subst e; simp
    · rw [if_neg e]
      by_cases hlt : i < k
      · rw [if_pos hlt, if_pos (by omega)]
      · rw [if_neg hlt, if_neg (by omega)]
theorem Sl.of_row64 {w : World} {b : Nat} {t : TypeId} {zs : List Int} {f : Nat → Value} (h : w.rowIs b t zs.length f) (hf : ∀ i, i < zs.length → f i = .int .u64 (zs.getD i 0)) (hm : zs.length ≤ maxLen) : Sl .u64 w (.slice (some ⟨b, 0, none⟩) zs.length zs.length) zs :=
  ⟨some ⟨b, 0, none⟩, zs.length, rfl, Nat.le_refl _, hm, .inr ⟨b, 0, rfl, fun i hi => by rw [Nat.zero_add, h.cell hi, hf i hi]⟩⟩
set_option maxHeartbeats 1000000 in
theorem toV_any (v : Value) (zs : List Int) (w : World) (hs : Sl .u64 w v zs) (hl : zs.length ≤ 1048576) :
    Calls Tryz.prog 23 #[v] w fun e w' => ∃ a' c', e = .returned (.slice a' zs.length c') ∧ Sl .u64 w' (.slice a' zs.length c') zs ∧ Below w.heap.size w w' := by
  obtain ⟨a, cap, rfl, hc1, hc2, hz⟩ := hs
  have hmk := run_make_row' (P := Tryz.prog) 38 27 (.int .u64 0) 8 Tryz.underlying38 info64 rfl .i64 .i64 zs.length (by omega) (by omega)
  go_enter Tryz.func23, Tryz.ntmps23
  go_wp2
  go_loopw [4] (fun i wr => ∃ k : Nat, k ≤ zs.length ∧ i = .int .i64 k ∧ wr.rowIs w.heap.size 27 zs.length (copV zs k) ∧ Below w.heap.size w wr) (fun i _ => zs.length - (intOf i).toNat)
  case atStart => exact ⟨0, Nat.zero_le _, rfl, (World.rowIs_made w _ zs.length 27).congr (fun j _ => by simp [copV]), (Below.refl _ _).alloc (Nat.le_refl _) _⟩
  case round =>
    obtain ⟨k, hk, rfl, hrow, hb⟩ := hrel
    by_cases hlt : k < zs.length
    · obtain ⟨b, off, rfl, hcell⟩ : ∃ b off, a = some ⟨b, off, none⟩ ∧ ∀ i, i < zs.length → w.cell? ⟨b, off + i, none⟩ = some (.int .u64 (zs.getD i 0)) := by
        rcases hz with rfl | hz
        · simp at hlt
        · exact hz
      have hc0 := hcell k hlt
      have hc : wr.cell? ⟨b, off + k, none⟩ = some (.int .u64 (zs.getD k 0)) := (hb.cell (p := ⟨b, off + k, none⟩) (World.block_lt_of_cell? w _ hc0)).trans hc0
      have hold := hrow.cell hlt
      have hfr := hrow.frozen k
      clear hz hcell hc0
      go_wp2
      go_roundw
      case rel => exact ⟨k + 1, by omega, by go_num, copV_step hrow (by simp [hlt]), hb.setCell (Nat.le_refl _) _⟩
      case measure => simp [intOf]; omega
    · obtain rfl : k = zs.length := by omega
      clear hz
      go_wp2
      go_ret
      exact ⟨_, _, rfl, Sl.of_row64 hrow (fun i hi => by simp [copV, hi]) (by unfold maxLen; omega), hb⟩
set_option maxHeartbeats 1000000 in
theorem eqV_same (a a' : Option Addr) (cap cap' : Nat) (xs : List Int) (w : World) (hx : Sl .u64 w (.slice a xs.length cap) xs) (hy : Sl .u64 w (.slice a' xs.length cap') xs) (hl : xs.length ≤ 140737488355328) :
    Calls Tryz.prog 26 #[.slice a xs.length cap, .slice a' xs.length cap'] w fun e w' => e = .returned (.bool true) ∧ Below w.heap.size w w' := by
  obtain ⟨-, hx1, hx2, hx3⟩ := hx.cells
  obtain ⟨-, hy1, hy2, hy3⟩ := hy.cells
  have hne : ((xs.length : Int) != (xs.length : Int)) = false := by simp
  go_enter Tryz.func26, Tryz.ntmps26
  go_wp2
  go_loopw [5] (fun i wr => ∃ k : Nat, k ≤ xs.length ∧ i = .int .i64 k ∧ Below w.heap.size w wr) (fun i _ => xs.length - (intOf i).toNat)
  case atStart => exact ⟨0, Nat.zero_le _, rfl, Below.refl _ _⟩
  case round =>
    obtain ⟨k, hk, rfl, hb⟩ := hrel
    by_cases hlt : k < xs.length
    · obtain ⟨b, off, rfl, hcx⟩ := hx3 (by omega)
      obtain ⟨b', off', rfl, hcy⟩ := hy3 (by omega)
      have h1 := hcx k hlt
      have h2 := hcy k hlt
      have h1 : wr.cell? ⟨b, off + k, none⟩ = some (.int .u64 (xs.getD k 0)) := (hb.cell (p := ⟨b, off + k, none⟩) (World.block_lt_of_cell? w _ h1)).trans h1
      have h2 : wr.cell? ⟨b', off' + k, none⟩ = some (.int .u64 (xs.getD k 0)) := (hb.cell (p := ⟨b', off' + k, none⟩) (World.block_lt_of_cell? w _ h2)).trans h2
      clear hx3 hy3 hcx hcy
      obtain ⟨x, hxk⟩ : ∃ x, x = xs.getD k 0 := ⟨_, rfl⟩
      rw [← hxk] at h1 h2
      clear hxk
      have hbe : (x != x) = false := by simp
      go_wp2
      go_region
      all_goals go_wp2
      all_goals go_roundw
      case rel => exact ⟨k + 1, by omega, by go_num, (by repeat (first | exact Below.refl _ _ | refine Below.drew ?_ | refine bel_dn ?_ _ | refine bel_al ?_ _ | refine bel_go ?_ hb | refine Below.setCell ?_ (by first | omega | (simp; done) | (simp; omega)) _ | refine Below.alloc ?_ (by first | omega | (simp; done) | (simp; omega)) _ | refine Below.trans ?_ (Below.mono hb (by first | omega | (simp; done) | (simp; omega)))))⟩
      case measure => simp [intOf]; omega
    · obtain rfl : k = xs.length := by omega
      clear hx3 hy3
      go_wp2
      go_ret
      exact ⟨rfl, hb⟩
/-- Whether all are floats of the format. -/
def allB (fm : Int) (xs : List Int) : Bool := xs.all (fun x => okF fm x)
theorem allB_yes {fm : Int} {xs : List Int} (h : ∀ j, j < xs.length → okF fm (xs.getD j 0) = true) : allB fm xs = true := by
  unfold allB
  rw [List.all_eq_true]
  intro x hx
  obtain ⟨j, hj, rfl⟩ := List.getElem_of_mem hx
  have := h j hj
  rwa [List.getD_eq_getElem?_getD, List.getElem?_eq_getElem hj] at this
theorem allB_no {fm : Int} {xs : List Int} {j : Nat} (hj : j < xs.length) (h : okF fm (xs.getD j 0) = false) : allB fm xs = false := by
  cases h' : allB fm xs
  · rfl
  · unfold allB at h'
    rw [List.all_eq_true] at h'
    have := h' _ (List.getElem_mem hj)
    rw [List.getD_eq_getElem?_getD, List.getElem?_eq_getElem hj] at h
    simp at h this
    rw [h] at this; exact absurd this (by decide)
set_option maxHeartbeats 2000000 in
theorem allf_impl (fm : Int) (a : Option Addr) (cap : Nat) (xs : List Int) (w : World) (hT : Tab w) (hx : Sl .u64 w (.slice a xs.length cap) xs) (dx : D64 xs) (hl : xs.length ≤ 1048576) :
    Calls Tryz.prog 132 #[.int .i64 fm, .slice a xs.length cap] w fun e w' => e = .returned (.bool (allB fm xs)) ∧ Below w.heap.size w w' := by
  obtain ⟨-, hx1, hx2, hx3⟩ := hx.cells
  have CO := hid (fun k w' h => impl_ok fm (xs.getD k 0) w' h (dx.getD k).1 (dx.getD k).2)
  have DX := hid dx
  clear dx
  go_enter Tryz.func132, Tryz.ntmps132
  go_wp2
  go_loopw [9] (fun i wr => ∃ k : Nat, k ≤ xs.length ∧ i = .int .i64 k ∧ (∀ j, j < k → okF fm (xs.getD j 0) = true) ∧ Below w.heap.size w wr) (fun i _ => xs.length - (intOf i).toNat)
  case atStart => exact ⟨0, Nat.zero_le _, rfl, fun j hj => absurd hj (Nat.not_lt_zero _), Below.refl _ _⟩
  case round =>
    obtain ⟨k, hk, rfl, hpre, hb⟩ := hrel
    have PRE := hid hpre
    clear hpre
    by_cases hlt : k < xs.length
    · obtain ⟨b, off, rfl, hcx⟩ := hx3 (by omega)
      have h1 := hcx k hlt
      have h1 : wr.cell? ⟨b, off + k, none⟩ = some (.int .u64 (xs.getD k 0)) := (hb.cell (p := ⟨b, off + k, none⟩) (World.block_lt_of_cell? w _ h1)).trans h1
      clear hx3 hcx
      have C := hid (fun w' h => CO.out k w' h)
      have HNO := hid (allB_no (fm := fm) hlt)
      have PRE2 : Hid (okF fm (xs.getD k 0) = true → ∀ j, j < k + 1 → okF fm (xs.getD j 0) = true) := hid (fun h j hj => by
        by_cases e : j = k
        · subst e; exact h
        · exact PRE.out j (by omega))
      obtain ⟨x, hxk⟩ : ∃ x, x = xs.getD k 0 := ⟨_, rfl⟩
      obtain ⟨o, hok⟩ : ∃ o, o = okF fm x := ⟨_, rfl⟩
      rw [← hxk] at h1 C HNO
      rw [← hok] at C HNO
      have PRE2 : Hid (o = true → ∀ j, j < k + 1 → okF fm (xs.getD j 0) = true) := hid (fun h => PRE2.out (by rw [← hxk, ← hok]; exact h))
      clear hxk hok CO PRE
      cases o with
      | true =>
        have PRE3 := hid (PRE2.out rfl)
        clear PRE2 HNO
        go_wp2_with fail
        refine (C.out _ (hT.below hb)).mono ?_
        rintro e w1 ⟨rfl, hb1⟩
        go_wp2
        go_roundw
        case rel => exact ⟨k + 1, by omega, by go_num, PRE3.out, bel_go hb hb1⟩
        case measure => simp [intOf]; omega
      | false =>
        have HN2 := hid (HNO.out rfl)
        clear PRE2 HNO
        go_wp2_with fail
        refine (C.out _ (hT.below hb)).mono ?_
        rintro e w1 ⟨rfl, hb1⟩
        go_wp2
        go_ret
        exact ⟨ret_bool HN2.out.symm, bel_go hb hb1⟩
    · obtain rfl : k = xs.length := by omega
      have HY := hid (allB_yes PRE.out)
      clear hx3 CO PRE
      go_wp2
      go_ret
      exact ⟨ret_bool HY.out.symm, hb⟩
/-- What is wrong with a vector. -/
def vecC (fm mode : Int) (xs : List Int) : Int := if fmtB fm && modeB mode then (if xs.length ≤ 300 then (if allB fm xs then 0 else 4) else 2) else 1
theorem form_impl (fm : Int) (w : World) :
    Calls Tryz.prog 145 #[.int .i64 fm] w fun e w' => e = .returned (.int .i64 (if fm = 32 then 1 else if fm = 64 then 2 else 0)) ∧ w' = w := by
  by_cases h1 : fm = 32
  · subst h1
    go_enter Tryz.func145, Tryz.ntmps145
    go_wp2
    go_ret
    exact ⟨rfl, rfl⟩
  · by_cases h2 : fm = 64
    · subst h2
      go_enter Tryz.func145, Tryz.ntmps145
      go_wp2
      go_ret
      exact ⟨rfl, rfl⟩
    · have e1 : (fm == 32) = false := by simpa using h1
      have e2 : (fm == 64) = false := by simpa using h2
      rw [if_neg h1, if_neg h2]
      clear h1 h2
      go_enter Tryz.func145, Tryz.ntmps145
      go_wp2
      go_ret
      exact ⟨rfl, rfl⟩
theorem form_B (fm : Int) (w : World) :
    Calls Tryz.prog 145 #[.int .i64 fm] w fun e w' => ∃ n : Int, e = .returned (.int .i64 n) ∧ (n == 0) = !fmtB fm ∧ Below w.heap.size w w' := (form_impl fm w).mono fun e w' ⟨h, h'⟩ => by
  subst h'
  refine ⟨_, h, ?_, Below.refl _ _⟩
  unfold fmtB
  by_cases h1 : fm = 32
  · subst h1; decide
  · by_cases h2 : fm = 64
    · subst h2; decide
    · rw [if_neg h1, if_neg h2, decide_eq_false h1, decide_eq_false h2]; rfl
end Go.Proofs.YtapjclcjojadaaaGreatDoor
/-
  One term more, a float: why none is taken; the float's number; by the program.
-/
namespace Go.Proofs.YtapjclcjojadaaaGreatDoor
set_option linter.unusedVariables false
set_option linter.unusedSimpArgs false
open Go.RowKit Go.Deep
/-- Why an accumulator takes no term of these floats: all: whether they are floats of its format. -/
def tcC (ok all : Bool) (T : Int) : Int := if ok then (if all then (if T = 1000000 then 3 else 0) else 2) else 1
set_option maxHeartbeats 4000000 in
set_option maxRecDepth 100000 in
theorem tcode (fm : Int) (ng : Bool) (T : Int) (nn bd pl mi am : Bool) (p : Option Addr) (cap : Nat) (zs : List Int) (q : Option Addr) (qc : Nat) (xs : List Int) (w : World) (hT : Tab w) (hs : Sl .u32 w (.slice p zs.length cap) zs) (hl : zs.length ≤ 1048576) (hx : Sl .u64 w (.slice q xs.length qc) xs) (dx : D64 xs) (hlx : xs.length ≤ 1048576) (c : Int) (hc : c = tcC (accB fm ng zs T nn bd pl mi am) (allB fm xs) T) :
    Calls Tryz.prog 64 #[.agg #[.int .i64 fm, .bool ng, .slice p zs.length cap, .int .i64 T, .bool nn, .bool bd, .bool pl, .bool mi, .bool am], .slice q xs.length qc] w fun e w' => e = .returned (.int .i64 c) ∧ Below w.heap.size w w' := by
  have C1 := hid (fun w' h h' => accok_impl fm ng T nn bd pl mi am p cap zs w' h h' hl)
  have C2 := hid (fun w' h h' => allf_impl fm q qc xs w' h h' dx hlx)
  have Q := Q9.new w (.int .i64 fm) (.bool ng) (.slice p zs.length cap) (.int .i64 T) (.bool nn) (.bool bd) (.bool pl) (.bool mi) (.bool am) 31
  have bel0 : Below w.heap.size w (w.alloc (.cells #[.int .i64 fm, .bool ng, .slice p zs.length cap, .int .i64 T, .bool nn, .bool bd, .bool pl, .bool mi, .bool am] 31)) := (by repeat (first | exact Below.refl _ _ | refine Below.drew ?_ | refine bel_dn ?_ _ | refine bel_al ?_ _ | refine Below.setCell ?_ (by first | omega | (simp; done) | (simp; omega)) _ | refine Below.alloc ?_ (by first | omega | (simp; done) | (simp; omega)) _))
  unfold tcC at hc
  cases h1 : accB fm ng zs T nn bd pl mi am
  · rw [h1] at C1 hc
    have hc' : c = 1 := hc
    subst hc'
    clear hc h1 dx
    go_enter Tryz.func64, Tryz.ntmps64
    go_wp2_with fail
    refine (C1.out _ (hT.below bel0) (hs.below bel0)).mono ?_
    rintro e w1 ⟨rfl, hb1⟩
    go_wp2
    go_ret
    exact ⟨rfl, bel_go bel0 hb1⟩
  rw [h1] at C1 hc
  cases h2 : allB fm xs
  · rw [h2] at C2 hc
    have hc' : c = 2 := hc
    subst hc'
    clear hc h1 h2 dx
    go_enter Tryz.func64, Tryz.ntmps64
    go_wp2_with fail
    refine (C1.out _ (hT.below bel0) (hs.below bel0)).mono ?_
    rintro e w1 ⟨rfl, hb1⟩
    have bel1 := bel_go bel0 hb1
    have c0 := (Q.below hb1).c0
    go_wp2_with fail
    refine (C2.out _ (hT.below bel1) (hx.below bel1)).mono ?_
    rintro e w2 ⟨rfl, hb2⟩
    go_wp2
    go_ret
    exact ⟨rfl, bel_go bel1 hb2⟩
  rw [h2] at C2 hc
  by_cases h3 : T = 1000000
  · have hc' : c = 3 := by rw [hc, if_pos rfl, if_pos rfl, if_pos h3]
    subst hc' h3
    clear hc h1 h2 dx
    go_enter Tryz.func64, Tryz.ntmps64
    go_wp2_with fail
    refine (C1.out _ (hT.below bel0) (hs.below bel0)).mono ?_
    rintro e w1 ⟨rfl, hb1⟩
    have bel1 := bel_go bel0 hb1
    have c0 := (Q.below hb1).c0
    go_wp2_with fail
    refine (C2.out _ (hT.below bel1) (hx.below bel1)).mono ?_
    rintro e w2 ⟨rfl, hb2⟩
    have c3 := ((Q.below hb1).below hb2).c3
    go_wp2
    go_ret
    exact ⟨rfl, bel_go bel1 hb2⟩
  · have hc' : c = 0 := by rw [hc, if_pos rfl, if_pos rfl, if_neg h3]
    subst hc'
    have h3' : (T == 1000000) = false := by simpa using h3
    clear hc h1 h2 h3 dx
    go_enter Tryz.func64, Tryz.ntmps64
    go_wp2_with fail
    refine (C1.out _ (hT.below bel0) (hs.below bel0)).mono ?_
    rintro e w1 ⟨rfl, hb1⟩
    have bel1 := bel_go bel0 hb1
    have c0 := (Q.below hb1).c0
    go_wp2_with fail
    refine (C2.out _ (hT.below bel1) (hx.below bel1)).mono ?_
    rintro e w2 ⟨rfl, hb2⟩
    have c3 := ((Q.below hb1).below hb2).c3
    go_wp2
    go_ret
    exact ⟨rfl, bel_go bel1 hb2⟩
theorem cell_top (W : World) (v : Value) (t : TypeId) (n : Nat) (hn : n = W.heap.size) : (W.alloc (.cells #[v] t)).cell? ⟨n, 0, none⟩ = some v := by subst hn; simp
theorem keep95 {w : World} {B b b' : Nat} {v0 v1 v2 v3 v4 v5 v6 v7 v8 y0 y1 y2 y3 y4 : Value} (h : Q9 w b v0 v1 v2 v3 v4 v5 v6 v7 v8) (h' : Q5 w b' y0 y1 y2 y3 y4) (n : b ≠ B) (n' : b' ≠ B) (u0 u1 u2 u3 u4 u5 u6 u7 u8 : Value) (W : World) (hW : W = (((((((((w.setCell ⟨B, 0, none⟩ u0).setCell ⟨B, 1, none⟩ u1).setCell ⟨B, 2, none⟩ u2).setCell ⟨B, 3, none⟩ u3).setCell ⟨B, 4, none⟩ u4).setCell ⟨B, 5, none⟩ u5).setCell ⟨B, 6, none⟩ u6).setCell ⟨B, 7, none⟩ u7).setCell ⟨B, 8, none⟩ u8)) :
    (W.cell? ⟨b, 0, none⟩ = some v0 ∧ W.cell? ⟨b, 1, none⟩ = some v1 ∧ W.cell? ⟨b, 2, none⟩ = some v2 ∧ W.cell? ⟨b, 3, none⟩ = some v3 ∧ W.cell? ⟨b, 4, none⟩ = some v4 ∧ W.cell? ⟨b, 5, none⟩ = some v5 ∧ W.cell? ⟨b, 6, none⟩ = some v6 ∧ W.cell? ⟨b, 7, none⟩ = some v7 ∧ W.cell? ⟨b, 8, none⟩ = some v8) ∧ (W.cell? ⟨b', 0, none⟩ = some y0 ∧ W.cell? ⟨b', 1, none⟩ = some y1 ∧ W.cell? ⟨b', 2, none⟩ = some y2 ∧ W.cell? ⟨b', 3, none⟩ = some y3 ∧ W.cell? ⟨b', 4, none⟩ = some y4) := by
  subst hW
  exact ⟨(h.of_block (heap9n w B b n u0 u1 u2 u3 u4 u5 u6 u7 u8)).cs, (h'.of_block (heap9n w B b' n' u0 u1 u2 u3 u4 u5 u6 u7 u8)).cs⟩
set_option maxHeartbeats 8000000 in
set_option maxRecDepth 100000 in
/-- What an accumulator with one term more is, by the program: out of what the float is as a number, and as a tally. -/
theorem add_core (fm : Int) (ng : Bool) (T : Int) (nn bd pl mi am : Bool) (p : Option Addr) (cap : Nat) (zs : List Int) (x : Int) (u : Value) (w : World) (hT : Tab w) (hg : EA.ErrT w) (hq : ErrQ w u) (hs : Sl .u32 w (.slice p zs.length cap) zs) (hz : Nm.Dg zs) (hk : accB fm ng zs T nn bd pl mi am = true) (hx : okF fm x = true) (x0 : 0 ≤ x) (x1 : x < 18446744073709551616) (hTm : T ≠ 1000000)
    (neg inf G : Bool) (L : List Int) (e : Int) (ev : Value) (m1 m2 m3 m4 m5 G2 : Bool) (L2 : List Int) (d2 : Nm.Dg L2) (ho2 : okB G2 L2 = true) (y : Int) (hy : y = Nm.wv ng zs + Nm.wv G2 L2) (hf : Nm.fits y = true)
    (hn : ∀ w' : World, Tab w' → ErrQ w' u → Calls Tryz.prog 96 #[.int .i64 fm, .int .u64 x] w' fun r w'' => ∃ a' c', r = .returned (.tuple #[.agg #[.bool neg, .bool inf, .bool G, .slice a' L.length c', .int .i64 e], ev]) ∧ Sl .u32 w'' (.slice a' L.length c') L ∧ Below w'.heap.size w' w'')
    (ht : ∀ (a' : Option Addr) (c' : Nat) (w' : World), Tab w' → EA.ErrT w' → Sl .u32 w' (.slice a' L.length c') L → Calls Tryz.prog 68 #[.int .i64 fm, .agg #[.bool neg, .bool inf, .bool G, .slice a' L.length c', .int .i64 e], ev] w' fun r w'' => ∃ a'' c'', r = .returned (.agg #[.int .i64 1, .bool m1, .bool m2, .bool m3, .bool m4, .bool m5, .int .i64 fm, .bool G2, .slice a'' L2.length c'']) ∧ Own w'' w'.heap.size a'' c'' L2 ∧ Below w'.heap.size w' w'') :
    Calls Tryz.prog 79 #[.agg #[.int .i64 fm, .bool ng, .slice p zs.length cap, .int .i64 T, .bool nn, .bool bd, .bool pl, .bool mi, .bool am], .int .u64 x] w fun r w' => ∃ a' c', r = .returned (.tuple #[.agg #[.int .i64 fm, .bool (Nm.wn y), .slice a' (Nm.wl y).length c', .int .i64 (T + 1), .bool (nn || m1), .bool (bd || m2), .bool (pl || m3), .bool (mi || m4), .bool (amW T am 1 m5)], .int .i64 0]) ∧ Own w' w.heap.size a' c' (Nm.wl y) ∧ Below w.heap.size w w' := by
  obtain ⟨-, hk1, ho1, -⟩ := acc_parts hk
  have hl := (okB_nz ho1).2
  have dx : D64 [x] := fun z hz => by rw [List.mem_singleton.1 hz]; exact ⟨x0, x1⟩
  have hall : allB fm [x] = true := by unfold allB; rw [List.all_cons, hx]; rfl
  have CC := hid (fun q qc w' h h' h'' => tcode fm ng T nn bd pl mi am p cap zs q qc [x] w' h h' (by omega) h'' dx (by simp) 0 (by unfold tcC; rw [hk, hall, if_pos rfl, if_pos rfl, if_neg hTm]))
  have CN := hid hn
  have CO := hid ht
  have CW := hid (fun a' c' w' h h' => twith fm ng T nn bd pl mi am fm G2 1 m1 m2 m3 m4 m5 p a' cap c' zs L2 w' h h' hz d2 hk1 (by decide) (by decide) ho1 ho2 y hy hf)
  have CT := hid (fun w' => tally_any fm ng T nn bd pl mi am p zs.length cap w')
  obtain ⟨T2, hT2⟩ : ∃ T2, T2 = T + 1 := ⟨_, rfl⟩
  obtain ⟨n2, hn2⟩ : ∃ n2, n2 = (nn || m1) := ⟨_, rfl⟩
  obtain ⟨b2, hb2'⟩ : ∃ b2, b2 = (bd || m2) := ⟨_, rfl⟩
  obtain ⟨p2, hp2⟩ : ∃ p2, p2 = (pl || m3) := ⟨_, rfl⟩
  obtain ⟨i2, hm2⟩ : ∃ i2, i2 = (mi || m4) := ⟨_, rfl⟩
  obtain ⟨a2, ha2⟩ : ∃ a2, a2 = amW T am 1 m5 := ⟨_, rfl⟩
  obtain ⟨GG, hG⟩ : ∃ GG, GG = Nm.wn y := ⟨_, rfl⟩
  obtain ⟨LL, hL⟩ : ∃ LL, LL = Nm.wl y := ⟨_, rfl⟩
  rw [← hT2, ← hn2, ← hb2', ← hp2, ← hm2, ← ha2, ← hG, ← hL] at CW
  rw [← hT2, ← hn2, ← hb2', ← hp2, ← hm2, ← ha2, ← hG, ← hL]
  have CA := hid (fun a c w' => tacc fm GG T2 n2 b2 p2 i2 a2 (.slice a LL.length c) w' ⟨_, _, _, rfl⟩)
  clear hT2 hn2 hb2' hp2 hm2 ha2 hG hL hk1 ho1 hy hf hz hk hn ht hx hall dx hTm
  have Q := (Q9.new w (.int .i64 fm) (.bool ng) (.slice p zs.length cap) (.int .i64 T) (.bool nn) (.bool bd) (.bool pl) (.bool mi) (.bool am) 31).alloc (.cells #[.int .i64 0, .bool false, .slice none 0 0, .int .i64 0, .bool false, .bool false, .bool false, .bool false, .bool false] 31)
  have R := Q9.nwn w (.cells #[.int .i64 fm, .bool ng, .slice p zs.length cap, .int .i64 T, .bool nn, .bool bd, .bool pl, .bool mi, .bool am] 31) (.int .i64 0) (.bool false) (.slice none 0 0) (.int .i64 0) (.bool false) (.bool false) (.bool false) (.bool false) (.bool false) 31
  have bel0 : Below w.heap.size w ((w.alloc (.cells #[.int .i64 fm, .bool ng, .slice p zs.length cap, .int .i64 T, .bool nn, .bool bd, .bool pl, .bool mi, .bool am] 31)).alloc (.cells #[.int .i64 0, .bool false, .slice none 0 0, .int .i64 0, .bool false, .bool false, .bool false, .bool false, .bool false] 31)) := (by repeat (first | exact Below.refl _ _ | refine Below.drew ?_ | refine bel_dn ?_ _ | refine bel_al ?_ _ | refine Below.setCell ?_ (by first | omega | (simp; done) | (simp; omega)) _ | refine Below.alloc ?_ (by first | omega | (simp; done) | (simp; omega)) _))
  obtain ⟨c0, c1, c2, c3, c4, c5, c6, c7, c8⟩ := Q.cs
  go_enter Tryz.func79, Tryz.ntmps79
  go_wp2_with fail
  have hA : Below w.heap.size w (((w.alloc (.cells #[.int .i64 fm, .bool ng, .slice p zs.length cap, .int .i64 T, .bool nn, .bool bd, .bool pl, .bool mi, .bool am] 31)).alloc (.cells #[.int .i64 0, .bool false, .slice none 0 0, .int .i64 0, .bool false, .bool false, .bool false, .bool false, .bool false] 31)).alloc (.cells #[.int .u64 x] 27)) := bel_al bel0 _
  have hxx : Sl .u64 (((w.alloc (.cells #[.int .i64 fm, .bool ng, .slice p zs.length cap, .int .i64 T, .bool nn, .bool bd, .bool pl, .bool mi, .bool am] 31)).alloc (.cells #[.int .i64 0, .bool false, .slice none 0 0, .int .i64 0, .bool false, .bool false, .bool false, .bool false, .bool false] 31)).alloc (.cells #[.int .u64 x] 27)) (.slice (some ⟨w.heap.size + 1 + 1, 0, none⟩) [x].length 1) [x] := ⟨some ⟨w.heap.size + 1 + 1, 0, none⟩, 1, rfl, Nat.le_refl _, by unfold maxLen; omega, .inr ⟨w.heap.size + 1 + 1, 0, rfl, fun i hi => by
    have : i = 0 := by simpa using hi
    subst this; exact cell_top _ _ _ _ (by simp)⟩⟩
  refine (CC.out (some ⟨w.heap.size + 1 + 1, 0, none⟩) 1 _ (hT.below hA) (hs.below hA) hxx).mono ?_
  rintro r w1 ⟨rfl, hb1⟩
  clear c0 c1 c2 c3 c4 c5 c6 c7 c8 hxx
  replace Q := (Q.alloc (.cells #[.int .u64 x] 27)).below hb1
  replace R := (R.alloc (.cells #[.int .u64 x] 27)).below hb1
  have bel1 := bel_go hA hb1
  have hq1 : ErrQ w1 u := (bel1.cell (p := ⟨0, 0, none⟩) (World.block_lt_of_cell? w _ hq)).trans hq
  have lr := R.lt
  clear hA hb1 bel0
  have c0 := Q.c0
  go_wp2_with fail
  refine (CN.out _ (hT.below bel1) hq1).mono ?_
  rintro r w2 ⟨a3, k3, rfl, s3, hb2⟩
  clear c0
  have lw2 := hb2.size
  replace Q := (Q.below hb2).alloc (.cells #[.bool neg, .bool inf, .bool G, .slice a3 L.length k3, .int .i64 e] 78)
  replace R := (R.below hb2).alloc (.cells #[.bool neg, .bool inf, .bool G, .slice a3 L.length k3, .int .i64 e] 78)
  have X := Q5.new w2 (.bool neg) (.bool inf) (.bool G) (.slice a3 L.length k3) (.int .i64 e) 78
  have bel2 := bel_go bel1 hb2
  have s4 := s3.alloc (.cells #[.bool neg, .bool inf, .bool G, .slice a3 L.length k3, .int .i64 e] 78)
  have bel3 : Below w.heap.size w (w2.alloc (.cells #[.bool neg, .bool inf, .bool G, .slice a3 L.length k3, .int .i64 e] 78)).drew := Below.drew (bel_al bel2 _)
  have sz := hs.below bel3
  have s5 := s4.drew
  have ctd := Q.drew.cs
  have cod := X.drew.cs
  have Tab3 := hT.below bel3
  have Err3 : EA.ErrT (w2.alloc (.cells #[.bool neg, .bool inf, .bool G, .slice a3 L.length k3, .int .i64 e] 78)).drew := EA.five hg bel3
  clear bel1 hb2 hq1 s3 s4
  go_wp2_with fail
  go_region_held3 (fun w' => (w'.cell? ⟨w.heap.size, 0, none⟩ = some (.int .i64 fm) ∧ w'.cell? ⟨w.heap.size, 1, none⟩ = some (.bool ng) ∧ w'.cell? ⟨w.heap.size, 2, none⟩ = some (.slice p zs.length cap) ∧ w'.cell? ⟨w.heap.size, 3, none⟩ = some (.int .i64 T) ∧ w'.cell? ⟨w.heap.size, 4, none⟩ = some (.bool nn) ∧ w'.cell? ⟨w.heap.size, 5, none⟩ = some (.bool bd) ∧ w'.cell? ⟨w.heap.size, 6, none⟩ = some (.bool pl) ∧ w'.cell? ⟨w.heap.size, 7, none⟩ = some (.bool mi) ∧ w'.cell? ⟨w.heap.size, 8, none⟩ = some (.bool am)) ∧ (w'.cell? ⟨w2.heap.size, 0, none⟩ = some (.bool neg) ∧ w'.cell? ⟨w2.heap.size, 1, none⟩ = some (.bool inf) ∧ w'.cell? ⟨w2.heap.size, 2, none⟩ = some (.bool G) ∧ w'.cell? ⟨w2.heap.size, 3, none⟩ = some (.slice a3 L.length k3) ∧ w'.cell? ⟨w2.heap.size, 4, none⟩ = some (.int .i64 e)))
    (first | with_reducible assumption | with_reducible exact ⟨ctd, cod⟩ | with_reducible exact keep95 Q4 X4 (by omega) (by omega) _ _ _ _ _ _ _ _ _ _ rfl | fail)
    (first
      | (go_at_call 66; refine (CT.out _).mono ?_; rintro r q1 ⟨rfl, hq1⟩; have Q1 := Q.drew.below hq1; have X1 := X.drew.below hq1; have R1 := R.drew.below hq1; have u1 := And.intro Q1.cs X1.cs; have s6 := s5.below hq1; have sz1 := sz.below hq1; have T4 := Tab3.below hq1; have E4 := EA.five Err3 hq1)
      | (go_at_call 68; refine (CO.out a3 k3 _ T4 E4 s6).mono ?_; rintro r q2 ⟨a5, k5, rfl, hp2, hq2⟩; have Q2 := Q1.below hq2; have X2 := X1.below hq2; have R2' := R1.below hq2; have u2 := And.intro Q2.cs X2.cs; have sz2 := sz1.below hq2)
      | (go_at_call 67; refine (CW.out a5 k5 _ sz2 hp2.sl).mono ?_; rintro r q3 ⟨a6, k6, rfl, hp3, hq3⟩; have Q3 := Q2.below hq3; have X3 := X2.below hq3; have R3' := R2'.below hq3; have u3 := And.intro Q3.cs X3.cs)
      | (go_at_call 69; refine (CA.out a6 k6 _).mono ?_; rintro r q4 ⟨rfl, hq4⟩; have Q4 := Q3.below hq4; have X4 := X3.below hq4; have u4 := And.intro Q4.cs X4.cs; have hp4 := hp3.below hq4; obtain ⟨r0, r1, r2, r3, r4, r5, r6, r7, r8, g0, g1, g2, g3, g4, g5, g6, g7, g8⟩ := R3'.below hq4))
  have z1 := hq1.size
  have z2 := hq2.size
  have z3 : w2.heap.size + 1 ≤ q1.heap.size := by simpa using z1
  have bel4 : Below w.heap.size w q2 := bel_go (bel_go bel3 hq1) hq2
  go_wp2
  refine bodyPost_ret (v := .tuple #[.agg #[.int .i64 fm, .bool GG, .slice a6 LL.length k6, .int .i64 T2, .bool n2, .bool b2, .bool p2, .bool i2, .bool a2], .int .i64 0]) (by simp [results, Tryz.results79, go_sem, r0, r1, r2, r3, r4, r5, r6, r7, r8]) rfl ⟨a6, k6, rfl, ?_, ?_⟩
  · refine Own.base (B := q2.heap.size) ?_ (by have := bel4.size; omega)
    repeat (first | with_reducible exact hp4 | (with_reducible refine Own.setBelow ?_ ?_ _; rotate_left; (simp; try omega)))
  · exact (by repeat (first | (with_reducible refine Below.setCell ?_ ?_ _; rotate_left; focus (first | omega | (simp; done) | (simp; omega))) | (with_reducible exact Below.refl _ _) | (with_reducible refine Below.drew ?_) | (with_reducible refine bel_dn ?_ _) | (with_reducible refine bel_al ?_ _) | (with_reducible refine bel_go ?_ hq4) | (with_reducible refine bel_go ?_ hq3) | (with_reducible refine bel_go ?_ bel4) | (with_reducible refine Below.alloc ?_ ?_ _; rotate_left; focus (first | omega | (simp; done) | (simp; omega))) | (with_reducible refine Below.trans ?_ (Below.mono hq4 ?_); rotate_left; focus (first | omega | (simp; done) | (simp; omega))) | (with_reducible refine Below.trans ?_ (Below.mono hq3 ?_); rotate_left; focus (first | omega | (simp; done) | (simp; omega))) | (with_reducible refine Below.trans ?_ (Below.mono bel4 ?_); rotate_left; focus (first | omega | (simp; done) | (simp; omega)))))
end Go.Proofs.YtapjclcjojadaaaGreatDoor
