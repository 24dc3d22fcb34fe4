/-
  What is needed of AccM, ND, AF, AG, AH.
-/
import Derived.Test.YtnliofakkkjpoaaGreatDoorA31
import Derived.Test.YtnliofakkkjpoaaGreatDoorA33
set_option maxHeartbeats 16000000
set_option maxRecDepth 1000000
namespace Go.Proofs.YtnliofakkkjpoaaGreatDoor
set_option linter.unusedVariables false
set_option linter.unusedSimpArgs false
open Go.RowKit Go.Deep
theorem fits_bl {x : Int} (h : bitLen x.natAbs ≤ 6400) : Nm.fits x = true := by
  unfold Nm.fits Nm.wl; exact decide_eq_true (lim_len (k := 200) (by omega))
theorem wv_abs (ng : Bool) {zs : List Int} (hd : Nm.Dg zs) : (Nm.wv ng zs).natAbs = (Nm.val zs).toNat := Nm.natAbs_wv ng hd
theorem sum_bk {u v k : Nat} (hu : bitLen u ≤ k) (hv : bitLen v ≤ k) : bitLen (u + v) ≤ k + 1 := by
  have h1 := (Nm.bl_le_iff u k).1 hu
  have h2 := (Nm.bl_le_iff v k).1 hv
  refine (Nm.bl_le_iff (u + v) (k + 1)).2 ?_
  rw [Nat.pow_succ]; omega
theorem sum_bl {u v : Nat} (hu : bitLen u ≤ 4216) (hv : bitLen v ≤ 4216) : bitLen (u + v) ≤ 4217 := sum_bk hu hv
theorem Q9.new3 (w : World) (o o' : Obj) (v0 v1 v2 v3 v4 v5 v6 v7 v8 : Value) (t : TypeId) : Q9 (((w.alloc o).alloc o').alloc (.cells #[v0, v1, v2, v3, v4, v5, v6, v7, v8] t)) (w.heap.size + 1 + 1) v0 v1 v2 v3 v4 v5 v6 v7 v8 := by simpa using Q9.new ((w.alloc o).alloc o') v0 v1 v2 v3 v4 v5 v6 v7 v8 t
theorem heap9 (w : World) (B b : Nat) (h : b ≠ B) (u0 u1 u2 u3 u4 u5 u6 u7 u8 : Value) :
    (((((((((w.setCell ⟨B, 0, none⟩ u0).setCell ⟨B, 1, none⟩ u1).setCell ⟨B, 2, none⟩ u2).setCell ⟨B, 3, none⟩ u3).setCell ⟨B, 4, none⟩ u4).setCell ⟨B, 5, none⟩ u5).setCell ⟨B, 6, none⟩ u6).setCell ⟨B, 7, none⟩ u7).setCell ⟨B, 8, none⟩ u8).heap[b]? = w.heap[b]? := by
  rw [Below.heap_setCell _ _ _ _ h, Below.heap_setCell _ _ _ _ h, Below.heap_setCell _ _ _ _ h, Below.heap_setCell _ _ _ _ h, Below.heap_setCell _ _ _ _ h, Below.heap_setCell _ _ _ _ h, Below.heap_setCell _ _ _ _ h, Below.heap_setCell _ _ _ _ h, Below.heap_setCell _ _ _ _ h]
/-- Nine stores into one block leave what lies in two boxes of nine and in one of two. -/
theorem keep9 {w : World} {B b b' b'' : Nat} {v0 v1 v2 v3 v4 v5 v6 v7 v8 y0 y1 y2 y3 y4 y5 y6 y7 y8 z0 z1 : Value} (h : Q9 w b v0 v1 v2 v3 v4 v5 v6 v7 v8) (h' : Q9 w b' y0 y1 y2 y3 y4 y5 y6 y7 y8) (h'' : Box w b'' z0 z1) (n : b ≠ B) (n' : b' ≠ B) (n'' : b'' ≠ B) (u0 u1 u2 u3 u4 u5 u6 u7 u8 : Value) (W : World)
    (hW : W = (((((((((w.setCell ⟨B, 0, none⟩ u0).setCell ⟨B, 1, none⟩ u1).setCell ⟨B, 2, none⟩ u2).setCell ⟨B, 3, none⟩ u3).setCell ⟨B, 4, none⟩ u4).setCell ⟨B, 5, none⟩ u5).setCell ⟨B, 6, none⟩ u6).setCell ⟨B, 7, none⟩ u7).setCell ⟨B, 8, none⟩ u8)) :
    (W.cell? ⟨b, 0, none⟩ = some v0 ∧ W.cell? ⟨b, 1, none⟩ = some v1 ∧ W.cell? ⟨b, 2, none⟩ = some v2 ∧ W.cell? ⟨b, 3, none⟩ = some v3 ∧ W.cell? ⟨b, 4, none⟩ = some v4 ∧ W.cell? ⟨b, 5, none⟩ = some v5 ∧ W.cell? ⟨b, 6, none⟩ = some v6 ∧ W.cell? ⟨b, 7, none⟩ = some v7 ∧ W.cell? ⟨b, 8, none⟩ = some v8) ∧ (W.cell? ⟨b', 0, none⟩ = some y0 ∧ W.cell? ⟨b', 1, none⟩ = some y1 ∧ W.cell? ⟨b', 2, none⟩ = some y2 ∧ W.cell? ⟨b', 3, none⟩ = some y3 ∧ W.cell? ⟨b', 4, none⟩ = some y4 ∧ W.cell? ⟨b', 5, none⟩ = some y5 ∧ W.cell? ⟨b', 6, none⟩ = some y6 ∧ W.cell? ⟨b', 7, none⟩ = some y7 ∧ W.cell? ⟨b', 8, none⟩ = some y8) ∧ W.cell? ⟨b'', 0, none⟩ = some z0 ∧ W.cell? ⟨b'', 1, none⟩ = some z1 := by
  subst hW
  exact ⟨(h.of_block (heap9 w B b n u0 u1 u2 u3 u4 u5 u6 u7 u8)).cs, (h'.of_block (heap9 w B b' n' u0 u1 u2 u3 u4 u5 u6 u7 u8)).cs, h''.of_block (heap9 w B b'' n'' u0 u1 u2 u3 u4 u5 u6 u7 u8)⟩
theorem twith (fm : Int) (ng : Bool) (T : Int) (nn bd pl mi am : Bool) (fmq : Int) (ngq : Bool) (Tq : Int) (nnq bdq plq miq amq : Bool) (p pq : Option Addr) (cap capq : Nat) (zs ys : List Int) (w : World) (hs : Sl .u32 w (.slice p zs.length cap) zs) (hy : Sl .u32 w (.slice pq ys.length capq) ys) (dz : Nm.Dg zs) (dy : Nm.Dg ys) (hk : mkB T nn bd pl mi am = true) (h0' : 0 ≤ Tq) (h1' : Tq ≤ 1000000) (ho : okB ng zs = true) (ho' : okB ngq ys = true) (x : Int) (hx : x = Nm.wv ng zs + Nm.wv ngq ys) (hf : Nm.fits x = true) :
    Calls Tryz.prog 67 #[.agg #[.int .i64 T, .bool nn, .bool bd, .bool pl, .bool mi, .bool am, .int .i64 fm, .bool ng, .slice p zs.length cap], .agg #[.int .i64 Tq, .bool nnq, .bool bdq, .bool plq, .bool miq, .bool amq, .int .i64 fmq, .bool ngq, .slice pq ys.length capq]] w fun e w' => ∃ a' c', e = .returned (.agg #[.int .i64 (T + Tq), .bool (nn || nnq), .bool (bd || bdq), .bool (pl || plq), .bool (mi || miq), .bool (amW T am Tq amq), .int .i64 fm, .bool (Nm.wn x), .slice a' (Nm.wl x).length c']) ∧ Own w' w.heap.size a' c' (Nm.wl x) ∧ Below w.heap.size w w' := by
  have CA := hid (fun w' h h' => add_ok (na := ng) (nb := ngq) p pq cap capq w' h h' dz dy ho ho' x hx hf)
  have CM := hid (fun w' => mwith T nn bd pl mi am Tq nnq bdq plq miq amq w' hk h0' h1' _ rfl)
  obtain ⟨T2, hT2⟩ : ∃ T2, T2 = T + Tq := ⟨_, rfl⟩
  obtain ⟨n2, hn2⟩ : ∃ n2, n2 = (nn || nnq) := ⟨_, rfl⟩
  obtain ⟨b2, hb2⟩ : ∃ b2, b2 = (bd || bdq) := ⟨_, rfl⟩
  obtain ⟨p2, hp2⟩ : ∃ p2, p2 = (pl || plq) := ⟨_, rfl⟩
  obtain ⟨m2, hm2⟩ : ∃ m2, m2 = (mi || miq) := ⟨_, rfl⟩
  obtain ⟨a2, ha2⟩ : ∃ a2, a2 = amW T am Tq amq := ⟨_, rfl⟩
  obtain ⟨G, hG⟩ : ∃ G, G = Nm.wn x := ⟨_, rfl⟩
  obtain ⟨L, hL⟩ : ∃ L, L = Nm.wl x := ⟨_, rfl⟩
  rw [← hT2, ← hn2, ← hb2, ← hp2, ← hm2, ← ha2] at CM
  rw [← hG, ← hL] at CA
  rw [← hT2, ← hn2, ← hb2, ← hp2, ← hm2, ← ha2, ← hG, ← hL]
  clear hT2 hn2 hb2 hp2 hm2 ha2 hG hL hk ho ho' hx hf dz dy
  go_enter Tryz.func67, Tryz.ntmps67
  go_wp2_with fail
  refine (CA.out _ (((hs.alloc _).alloc _).alloc _) (((hy.alloc _).alloc _).alloc _)).mono ?_
  rintro e w1 ⟨a1, k1, rfl, ho1, hb1⟩
  have qt := (((Q9.new w (.int .i64 T) (.bool nn) (.bool bd) (.bool pl) (.bool mi) (.bool am) (.int .i64 fm) (.bool ng) (.slice p zs.length cap) 86).alloc _).alloc _).below hb1
  have qo := ((Q9.nw2 w (.cells #[.int .i64 T, .bool nn, .bool bd, .bool pl, .bool mi, .bool am, .int .i64 fm, .bool ng, .slice p zs.length cap] 86) (.int .i64 Tq) (.bool nnq) (.bool bdq) (.bool plq) (.bool miq) (.bool amq) (.int .i64 fmq) (.bool ngq) (.slice pq ys.length capq) 86).alloc _).below hb1
  have qr := (Q9.new3 w (.cells #[.int .i64 T, .bool nn, .bool bd, .bool pl, .bool mi, .bool am, .int .i64 fm, .bool ng, .slice p zs.length cap] 86) (.cells #[.int .i64 Tq, .bool nnq, .bool bdq, .bool plq, .bool miq, .bool amq, .int .i64 fmq, .bool ngq, .slice pq ys.length capq] 86) (.int .i64 0) (.bool false) (.bool false) (.bool false) (.bool false) (.bool false) (.int .i64 0) (.bool false) (.slice none 0 0) 86).below hb1
  have bel1 : Below w.heap.size w w1 := (by repeat (first | exact bz0 _ _ | refine bz1 ?_ | refine bz2 ?_ _ | refine bz3 ?_ _ | refine bz4 ?_ hb1 | refine bz5 ?_ _ | refine bz6 ?_ _ | refine bz7 ?_ hb1))
  have lr := qr.lt
  have ho1 : Own w1 (w.heap.size + 1 + 1 + 1) a1 k1 L := by simpa using ho1
  clear hb1 CA
  replace qt := qt.alloc (.cells #[.bool G, .slice a1 L.length k1] 29)
  replace qo := qo.alloc (.cells #[.bool G, .slice a1 L.length k1] 29)
  replace qr := qr.alloc (.cells #[.bool G, .slice a1 L.length k1] 29)
  have bx := Box.new w1 (.bool G) (.slice a1 L.length k1) 29
  have bel2 := bel_al bel1 (.cells #[.bool G, .slice a1 L.length k1] 29)
  have ho2 := ho1.alloc (.cells #[.bool G, .slice a1 L.length k1] 29)
  clear ho1
  have ctd := qt.drew.cs
  have cod := qo.drew.cs
  have bxd : Box (w1.alloc (.cells #[.bool G, .slice a1 L.length k1] 29)).drew w1.heap.size (.bool G) (.slice a1 L.length k1) := bx
  have bxd' := bxd
  obtain ⟨bxd0, bxd1⟩ := bxd'
  go_wp2_with fail
  go_region_held3 (fun w' => (w'.cell? ⟨w.heap.size, 0, none⟩ = some (.int .i64 T) ∧ w'.cell? ⟨w.heap.size, 1, none⟩ = some (.bool nn) ∧ w'.cell? ⟨w.heap.size, 2, none⟩ = some (.bool bd) ∧ w'.cell? ⟨w.heap.size, 3, none⟩ = some (.bool pl) ∧ w'.cell? ⟨w.heap.size, 4, none⟩ = some (.bool mi) ∧ w'.cell? ⟨w.heap.size, 5, none⟩ = some (.bool am) ∧ w'.cell? ⟨w.heap.size, 6, none⟩ = some (.int .i64 fm) ∧ w'.cell? ⟨w.heap.size, 7, none⟩ = some (.bool ng) ∧ w'.cell? ⟨w.heap.size, 8, none⟩ = some (.slice p zs.length cap)) ∧ (w'.cell? ⟨w.heap.size + 1, 0, none⟩ = some (.int .i64 Tq) ∧ w'.cell? ⟨w.heap.size + 1, 1, none⟩ = some (.bool nnq) ∧ w'.cell? ⟨w.heap.size + 1, 2, none⟩ = some (.bool bdq) ∧ w'.cell? ⟨w.heap.size + 1, 3, none⟩ = some (.bool plq) ∧ w'.cell? ⟨w.heap.size + 1, 4, none⟩ = some (.bool miq) ∧ w'.cell? ⟨w.heap.size + 1, 5, none⟩ = some (.bool amq) ∧ w'.cell? ⟨w.heap.size + 1, 6, none⟩ = some (.int .i64 fmq) ∧ w'.cell? ⟨w.heap.size + 1, 7, none⟩ = some (.bool ngq) ∧ w'.cell? ⟨w.heap.size + 1, 8, none⟩ = some (.slice pq ys.length capq)) ∧ w'.cell? ⟨w1.heap.size, 0, none⟩ = some (.bool G) ∧ w'.cell? ⟨w1.heap.size, 1, none⟩ = some (.slice a1 L.length k1))
    (first | with_reducible assumption | with_reducible exact ⟨ctd, cod, bxd0, bxd1⟩ | with_reducible exact keep9 tq oq bq (by omega) (by omega) (by omega) _ _ _ _ _ _ _ _ _ _ rfl | fail)
    (first
      | (go_at_call 136; refine (CM.out _).mono ?_; rintro e q1 ⟨rfl, hq1⟩; have tq := qt.drew.below hq1; have oq := qo.drew.below hq1; have bq := Box.below bxd hq1; have f1 := And.intro tq.cs (And.intro oq.cs (And.intro bq.1 bq.2)); obtain ⟨r0, r1, r2, r3, r4, r5, r6, r7, r8, g0, g1, g2, g3, g4, g5, g6, g7, g8⟩ := qr.drew.below hq1))
  go_wp2
  refine bodyPost_ret (v := .agg #[.int .i64 T2, .bool n2, .bool b2, .bool p2, .bool m2, .bool a2, .int .i64 fm, .bool G, .slice a1 L.length k1]) (by simp [results, Tryz.results67, go_sem, r0, r1, r2, r3, r4, r5, r6, r7, r8]) rfl ⟨a1, k1, rfl, ?_, ?_⟩
  · have ho3 := ho2.drew.below hq1
    refine Own.base (B := w.heap.size + 1 + 1 + 1) ?_ (by omega)
    repeat (first | with_reducible exact ho3 | (with_reducible refine Own.setBelow ?_ ?_ _; rotate_left; (simp; try omega)))
  · exact (by (repeat with_reducible first | refine Below.setCell ?_ ?_ _ | exact bz0 _ _ | refine bz1 ?_ | refine bz2 ?_ _ | refine bz3 ?_ _ | refine bz4 ?_ hq1 | refine bz4 ?_ bel1 | refine Below.alloc ?_ ?_ _ | refine Below.trans ?_ (Below.mono hq1 ?_) | refine Below.trans ?_ (Below.mono bel1 ?_)) <;> first | omega | (simp; done) | (simp; omega))
/-- Why an accumulator takes no term of these floats: all: whether they are floats of its format. -/
def tcC (ok all : Bool) (T : Int) : Int := if ok then (if all then (if T = 1000000 then 3 else 0) else 2) else 1
theorem tcode (fm : Int) (ng : Bool) (T : Int) (nn bd pl mi am : Bool) (p : Option Addr) (cap : Nat) (zs : List Int) (q : Option Addr) (qc : Nat) (xs : List Int) (w : World) (hT : Tab w) (hs : Sl .u32 w (.slice p zs.length cap) zs) (hl : zs.length ≤ 1048576) (hx : Sl .u64 w (.slice q xs.length qc) xs) (dx : D64 xs) (hlx : xs.length ≤ 1048576) (c : Int) (hc : c = tcC (accB fm ng zs T nn bd pl mi am) (allB fm xs) T) :
    Calls Tryz.prog 64 #[.agg #[.int .i64 fm, .bool ng, .slice p zs.length cap, .int .i64 T, .bool nn, .bool bd, .bool pl, .bool mi, .bool am], .slice q xs.length qc] w fun e w' => e = .returned (.int .i64 c) ∧ Below w.heap.size w w' := by
  have C1 := hid (fun w' h h' => accok_impl fm ng T nn bd pl mi am p cap zs w' h h' hl)
  have C2 := hid (fun w' h h' => allf_impl fm q qc xs w' h h' dx hlx)
  have Q := Q9.new w (.int .i64 fm) (.bool ng) (.slice p zs.length cap) (.int .i64 T) (.bool nn) (.bool bd) (.bool pl) (.bool mi) (.bool am) 31
  have bel0 : Below w.heap.size w (w.alloc (.cells #[.int .i64 fm, .bool ng, .slice p zs.length cap, .int .i64 T, .bool nn, .bool bd, .bool pl, .bool mi, .bool am] 31)) := (by repeat (first | exact bz0 _ _ | refine bz1 ?_ | refine bz2 ?_ _ | refine bz3 ?_ _ | refine bz5 ?_ _ | refine bz6 ?_ _))
  unfold tcC at hc
  cases h1 : accB fm ng zs T nn bd pl mi am
  · rw [h1] at C1 hc
    have hc' : c = 1 := hc
    subst hc'
    clear hc h1 dx
    go_enter Tryz.func64, Tryz.ntmps64
    go_wp2_with fail
    refine (C1.out _ (hT.below bel0) (hs.below bel0)).mono ?_
    rintro e w1 ⟨rfl, hb1⟩
    go_wp2
    go_ret
    exact ⟨rfl, bel_go bel0 hb1⟩
  rw [h1] at C1 hc
  cases h2 : allB fm xs
  · rw [h2] at C2 hc
    have hc' : c = 2 := hc
    subst hc'
    clear hc h1 h2 dx
    go_enter Tryz.func64, Tryz.ntmps64
    go_wp2_with fail
    refine (C1.out _ (hT.below bel0) (hs.below bel0)).mono ?_
    rintro e w1 ⟨rfl, hb1⟩
    have bel1 := bel_go bel0 hb1
    have c0 := (Q.below hb1).c0
    go_wp2_with fail
    refine (C2.out _ (hT.below bel1) (hx.below bel1)).mono ?_
    rintro e w2 ⟨rfl, hb2⟩
    go_wp2
    go_ret
    exact ⟨rfl, bel_go bel1 hb2⟩
  rw [h2] at C2 hc
  by_cases h3 : T = 1000000
  · have hc' : c = 3 := by rw [hc, if_pos rfl, if_pos rfl, if_pos h3]
    subst hc' h3
    clear hc h1 h2 dx
    go_enter Tryz.func64, Tryz.ntmps64
    go_wp2_with fail
    refine (C1.out _ (hT.below bel0) (hs.below bel0)).mono ?_
    rintro e w1 ⟨rfl, hb1⟩
    have bel1 := bel_go bel0 hb1
    have c0 := (Q.below hb1).c0
    go_wp2_with fail
    refine (C2.out _ (hT.below bel1) (hx.below bel1)).mono ?_
    rintro e w2 ⟨rfl, hb2⟩
    have c3 := ((Q.below hb1).below hb2).c3
    go_wp2
    go_ret
    exact ⟨rfl, bel_go bel1 hb2⟩
  · have hc' : c = 0 := by rw [hc, if_pos rfl, if_pos rfl, if_neg h3]
    subst hc'
    have h3' : (T == 1000000) = false := by simpa using h3
    clear hc h1 h2 h3 dx
    go_enter Tryz.func64, Tryz.ntmps64
    go_wp2_with fail
    refine (C1.out _ (hT.below bel0) (hs.below bel0)).mono ?_
    rintro e w1 ⟨rfl, hb1⟩
    have bel1 := bel_go bel0 hb1
    have c0 := (Q.below hb1).c0
    go_wp2_with fail
    refine (C2.out _ (hT.below bel1) (hx.below bel1)).mono ?_
    rintro e w2 ⟨rfl, hb2⟩
    have c3 := ((Q.below hb1).below hb2).c3
    go_wp2
    go_ret
    exact ⟨rfl, bel_go bel1 hb2⟩
theorem keep95 {w : World} {B b b' : Nat} {v0 v1 v2 v3 v4 v5 v6 v7 v8 y0 y1 y2 y3 y4 : Value} (h : Q9 w b v0 v1 v2 v3 v4 v5 v6 v7 v8) (h' : Q5 w b' y0 y1 y2 y3 y4) (n : b ≠ B) (n' : b' ≠ B) (u0 u1 u2 u3 u4 u5 u6 u7 u8 : Value) (W : World) (hW : W = (((((((((w.setCell ⟨B, 0, none⟩ u0).setCell ⟨B, 1, none⟩ u1).setCell ⟨B, 2, none⟩ u2).setCell ⟨B, 3, none⟩ u3).setCell ⟨B, 4, none⟩ u4).setCell ⟨B, 5, none⟩ u5).setCell ⟨B, 6, none⟩ u6).setCell ⟨B, 7, none⟩ u7).setCell ⟨B, 8, none⟩ u8)) :
    (W.cell? ⟨b, 0, none⟩ = some v0 ∧ W.cell? ⟨b, 1, none⟩ = some v1 ∧ W.cell? ⟨b, 2, none⟩ = some v2 ∧ W.cell? ⟨b, 3, none⟩ = some v3 ∧ W.cell? ⟨b, 4, none⟩ = some v4 ∧ W.cell? ⟨b, 5, none⟩ = some v5 ∧ W.cell? ⟨b, 6, none⟩ = some v6 ∧ W.cell? ⟨b, 7, none⟩ = some v7 ∧ W.cell? ⟨b, 8, none⟩ = some v8) ∧ (W.cell? ⟨b', 0, none⟩ = some y0 ∧ W.cell? ⟨b', 1, none⟩ = some y1 ∧ W.cell? ⟨b', 2, none⟩ = some y2 ∧ W.cell? ⟨b', 3, none⟩ = some y3 ∧ W.cell? ⟨b', 4, none⟩ = some y4) := by
  subst hW
  exact ⟨(h.of_block (heap9n w B b n u0 u1 u2 u3 u4 u5 u6 u7 u8)).cs, (h'.of_block (heap9n w B b' n' u0 u1 u2 u3 u4 u5 u6 u7 u8)).cs⟩
theorem add_fits {fm : Int} {ng : Bool} {zs : List Int} {T : Int} {nn bd pl mi am : Bool} (dz : Nm.Dg zs) (h : accB fm ng zs T nn bd pl mi am = true) {V : Int} (hV : bitLen V.natAbs ≤ 4216) : Nm.fits (Nm.wv ng zs + V) = true := by
  refine fits_bl ?_
  have h1 := acc_val dz h
  have e1 := wv_abs ng dz
  have t1 := (mkB_T (acc_parts h).2.1).2
  have b := sum_bl (far_bl fm t1) hV
  have hm := Nm.bl_mono (show (Nm.wv ng zs + V).natAbs ≤ far fm T + V.natAbs by omega)
  omega
theorem wsh_at (G : Bool) (p : Option Addr) (c : Nat) (L : List Int) (n : Int) (w : World) (hs : Sl .u32 w (.slice p L.length c) L) (d : Nm.Dg L) (ho : okB G L = true) (h0 : -10000 ≤ n) (h1 : n ≤ 10000) (V : Int) (hV : V = Nm.shV G (Nm.val L) n) (hf : (Nm.wl V).length ≤ 200) :
    Calls Tryz.prog 138 #[.agg #[.bool G, .slice p L.length c], .int .i64 n] w fun r w' => ∃ a' c', r = .returned (.tuple #[.agg #[.bool (Nm.wn V), .slice a' (Nm.wl V).length c'], .bool true]) ∧ Own w' w.heap.size a' c' (Nm.wl V) ∧ Below w.heap.size w w' := by
  have h := wsh_impl G p c L n w hs d (by have := (okB_nz ho).2; omega)
  have e1 : (okB G L && inZ n (-10000) 10000) = true := by rw [ho]; unfold inZ; rw [decide_eq_true h0, decide_eq_true h1]; rfl
  have e3 : Nm.fits V = true := by unfold Nm.fits; exact decide_eq_true hf
  have e4 := out_fits e3
  rw [e1, ← hV, (op_yes _).1, (op_yes _).2.1, (op_yes _).2.2, e3, e4.1, e4.2] at h
  exact h
theorem wsh_nil (n : Int) (w : World) (h0 : -10000 ≤ n) (h1 : n ≤ 10000) (p : Option Addr) (c : Nat) (hs : Sl .u32 w (.slice p ([] : List Int).length c) []) :
    Calls Tryz.prog 138 #[.agg #[.bool false, .slice p ([] : List Int).length c], .int .i64 n] w fun r w' => ∃ a' c', r = .returned (.tuple #[.agg #[.bool false, .slice a' ([] : List Int).length c'], .bool true]) ∧ Own w' w.heap.size a' c' [] ∧ Below w.heap.size w w' := by
  have e : Nm.shV false (Nm.val []) n = 0 := by
    have : Nm.val [] = ((0 : Nat) : Int) := rfl
    rw [this, Nm.shV_sh]; unfold Nm.sh; split <;> simp
  have hw : Nm.wl 0 = [] := Nm.lim_zero
  have hn : Nm.wn 0 = false := by decide
  have h := wsh_at false p c [] n w hs Nm.Dg.nil rfl h0 h1 0 e.symm (by rw [hw]; simp)
  rw [hw, hn] at h
  exact h
theorem one_odd_32 (neg inf : Bool) (ev : Value) (m1 m2 m3 m4 m5 : Bool) (w : World) (hT : Tab w) (hg : EA.ErrT w) (p : Option Addr) (c : Nat) (hs : Sl .u32 w (.slice p ([] : List Int).length c) [])
    (hm : ∀ w' : World, EA.ErrT w' → Calls Tryz.prog 139 #[.agg #[.bool neg, .bool inf, .bool false, .slice p ([] : List Int).length c, .int .i64 0], ev] w' fun r w'' => r = .returned (.agg #[.int .i64 1, .bool m1, .bool m2, .bool m3, .bool m4, .bool m5]) ∧ Below w'.heap.size w' w'') :
    Calls Tryz.prog 68 #[.int .i64 32, .agg #[.bool neg, .bool inf, .bool false, .slice p ([] : List Int).length c, .int .i64 0], ev] w fun r w' => ∃ a' c', r = .returned (.agg #[.int .i64 1, .bool m1, .bool m2, .bool m3, .bool m4, .bool m5, .int .i64 32, .bool false, .slice a' ([] : List Int).length c']) ∧ Own w' w.heap.size a' c' [] ∧ Below w.heap.size w w' :=
  one_32 neg inf false p c [] 0 ev m1 m2 m3 m4 m5 false [] w hT hg hs (by decide) (by decide) hm (fun w' h => wsh_nil (0 + 298) w' (by decide) (by decide) p c h)
theorem one_odd_64 (neg inf : Bool) (ev : Value) (m1 m2 m3 m4 m5 : Bool) (w : World) (hT : Tab w) (hg : EA.ErrT w) (p : Option Addr) (c : Nat) (hs : Sl .u32 w (.slice p ([] : List Int).length c) [])
    (hm : ∀ w' : World, EA.ErrT w' → Calls Tryz.prog 139 #[.agg #[.bool neg, .bool inf, .bool false, .slice p ([] : List Int).length c, .int .i64 0], ev] w' fun r w'' => r = .returned (.agg #[.int .i64 1, .bool m1, .bool m2, .bool m3, .bool m4, .bool m5]) ∧ Below w'.heap.size w' w'') :
    Calls Tryz.prog 68 #[.int .i64 64, .agg #[.bool neg, .bool inf, .bool false, .slice p ([] : List Int).length c, .int .i64 0], ev] w fun r w' => ∃ a' c', r = .returned (.agg #[.int .i64 1, .bool m1, .bool m2, .bool m3, .bool m4, .bool m5, .int .i64 64, .bool false, .slice a' ([] : List Int).length c']) ∧ Own w' w.heap.size a' c' [] ∧ Below w.heap.size w w' :=
  one_64 neg inf false p c [] 0 ev m1 m2 m3 m4 m5 false [] w hT hg hs (by decide) (by decide) hm (fun w' h => wsh_nil (0 + 2148) w' (by decide) (by decide) p c h)
theorem one_odd (fm : Int) (hfm : fmtB fm = true) (neg inf : Bool) (ev : Value) (m1 m2 m3 m4 m5 : Bool) (w : World) (hT : Tab w) (hg : EA.ErrT w) (p : Option Addr) (c : Nat) (hs : Sl .u32 w (.slice p ([] : List Int).length c) [])
    (hm : ∀ w' : World, EA.ErrT w' → Calls Tryz.prog 139 #[.agg #[.bool neg, .bool inf, .bool false, .slice p ([] : List Int).length c, .int .i64 0], ev] w' fun r w'' => r = .returned (.agg #[.int .i64 1, .bool m1, .bool m2, .bool m3, .bool m4, .bool m5]) ∧ Below w'.heap.size w' w'') :
    Calls Tryz.prog 68 #[.int .i64 fm, .agg #[.bool neg, .bool inf, .bool false, .slice p ([] : List Int).length c, .int .i64 0], ev] w fun r w' => ∃ a' c', r = .returned (.agg #[.int .i64 1, .bool m1, .bool m2, .bool m3, .bool m4, .bool m5, .int .i64 fm, .bool false, .slice a' ([] : List Int).length c']) ∧ Own w' w.heap.size a' c' [] ∧ Below w.heap.size w w' := by
  rcases fmt_cases hfm with rfl | rfl
  · exact one_odd_32 neg inf ev m1 m2 m3 m4 m5 w hT hg p c hs hm
  · exact one_odd_64 neg inf ev m1 m2 m3 m4 m5 w hT hg p c hs hm
theorem amW_no (T : Int) (am : Bool) : amW T am 1 false = false := by unfold amW; simp
theorem un_blf {fm x : Int} (hf : finB fm x = true) : bitLen (Nm.sh (pM fm x).toNat (pE fm x - unQ fm)) ≤ (if fm = 32 then 277 else 2098) := by
  have hx : okF fm x = true := by
    cases ho : okF fm x
    · rw [fin_no ho] at hf; cases hf
    · rfl
  have hlt := fin_lt hx
  rw [hf] at hlt
  have hlt' := of_decide_eq_true hlt.symm
  have h1 := Nm.bl_sh (pM fm x).toNat (pE fm x - unQ fm)
  rcases okF_cases hx with ⟨rfl, hx'⟩ | rfl
  · rw [if_pos rfl]
    rw [abs32 hx'] at hlt'
    unfold infOf at hlt'; rw [if_pos rfl] at hlt'
    have hM : pM 32 x < 16777216 := by
      unfold pM; rw [hf, if_pos rfl, if_pos rfl]; unfold parM; split <;> omega
    have hE : pE 32 x - unQ 32 ≤ 253 := by
      unfold pE unQ; rw [hf, if_pos rfl, if_pos rfl, if_pos rfl]; unfold parE; split <;> omega
    have h0 := (pM_bd 32 x).1
    have h2 := (Nm.bl_le_iff (pM 32 x).toNat 24).2 (by omega)
    omega
  · rw [if_neg (by decide)]
    rw [abs64] at hlt'
    unfold infOf at hlt'; rw [if_neg (by decide)] at hlt'
    have hE : pE 64 x - unQ 64 ≤ 2045 := by
      unfold pE unQ; rw [hf, if_pos rfl, if_neg (by decide), if_neg (by decide)]; unfold parE; split <;> omega
    have h0 := pM_bd 64 x
    have h2 := (Nm.bl_le_iff (pM 64 x).toNat 53).2 (by omega)
    omega
end Go.Proofs.YtnliofakkkjpoaaGreatDoor
