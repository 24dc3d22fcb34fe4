/-
  What is needed of ITs, WideS, WideT.
-/
import Derived.Test.YtkfjmcdniohljaaGreatDoorF07
import Derived.Test.YtkfjmcdniohljaaGreatDoorF08
import Derived.Test.YtkfjmcdniohljaaGreatDoorF09
import Derived.Test.YtkfjmcdniohljaaGreatDoorF10
set_option maxHeartbeats 16000000
set_option maxRecDepth 1000000
namespace Go.Proofs.YtkfjmcdniohljaaGreatDoor
set_option linter.unusedVariables false
set_option linter.unusedSimpArgs false
open Go.RowKit Go.Deep
structure Ts (w : World) : Prop where
 f : Tab w
 t64 : Tb w 4 Lib.deBruijn64tab
theorem Ts.below {w w' : World} (h : Ts w) (hb : Below w.heap.size w w') : Ts w' := ⟨h.f.below hb, h.t64.below (by decide) hb⟩
theorem Ts.al {w : World} (h : Ts w) (o : Obj) : Ts (w.alloc o) := h.below ((Below.refl _ _).alloc (Nat.le_refl _) _)
theorem Ts.dr {w : World} (h : Ts w) : Ts w.drew := ⟨⟨h.f.c0, h.f.c1, h.f.c2, h.f.c3, h.f.c4, h.f.c5, h.f.c6, h.f.c7, h.f.c8⟩, h.t64⟩
theorem cmpFrom_F (xs ys : List Int) (n : Nat) : cmpFrom xs ys n = Nm.cmpF xs ys n := by
 induction n with
 | zero => rfl
 | succ n ih => simp only [cmpFrom, Nm.cmpF, ih]
theorem cmpL_val {xs ys : List Int} (dx : Nm.Dg xs) (dy : Nm.Dg ys) (nx : Nm.Nz xs) (ny : Nm.Nz ys) : (cmpL xs ys < 0 ↔ Nm.val xs < Nm.val ys) ∧ (0 < cmpL xs ys ↔ Nm.val ys < Nm.val xs) := by
 have e : cmpL xs ys = Nm.cmpB xs ys := by unfold cmpL Nm.cmpB; rw [cmpFrom_F]
 rw [e]; exact Nm.cmpB_val dx dy nx ny
theorem keep3 {w w' : World} {b b' : Nat} {v0 v1 u1 : Value} (h0 : w.cell? ⟨b, 0, none⟩ = some v0) (h1 : w.cell? ⟨b, 1, none⟩ = some v1) (k1 : w.cell? ⟨b', 1, none⟩ = some u1) (hb : Below w.heap.size w w') :
  w'.cell? ⟨b, 0, none⟩ = some v0 ∧ w'.cell? ⟨b, 1, none⟩ = some v1 ∧ w'.cell? ⟨b', 1, none⟩ = some u1 :=
 ⟨(hb.cell (World.block_lt_of_cell? w _ h0)).trans h0, (hb.cell (World.block_lt_of_cell? w _ h1)).trans h1, (hb.cell (World.block_lt_of_cell? w _ k1)).trans k1⟩
theorem keep3_set {w : World} {b b' z : Nat} {v0 v1 u1 : Value} (h0 : w.cell? ⟨b, 0, none⟩ = some v0) (h1 : w.cell? ⟨b, 1, none⟩ = some v1) (k1 : w.cell? ⟨b', 1, none⟩ = some u1) (n1 : b ≠ z) (n2 : b' ≠ z) (p q : Value) :
  ((w.setCell ⟨z, 0, none⟩ p).setCell ⟨z, 1, none⟩ q).cell? ⟨b, 0, none⟩ = some v0 ∧ ((w.setCell ⟨z, 0, none⟩ p).setCell ⟨z, 1, none⟩ q).cell? ⟨b, 1, none⟩ = some v1 ∧ ((w.setCell ⟨z, 0, none⟩ p).setCell ⟨z, 1, none⟩ q).cell? ⟨b', 1, none⟩ = some u1 := by
 have e1 := Below.heap_setCell w ⟨z, 0, none⟩ p b n1
 have e2 := Below.heap_setCell (w.setCell ⟨z, 0, none⟩ p) ⟨z, 1, none⟩ q b n1
 have f1 := Below.heap_setCell w ⟨z, 0, none⟩ p b' n2
 have f2 := Below.heap_setCell (w.setCell ⟨z, 0, none⟩ p) ⟨z, 1, none⟩ q b' n2
 exact ⟨(World.cell?_of_block (a := ⟨b, 0, none⟩) (e2.trans e1)).trans h0, (World.cell?_of_block (a := ⟨b, 1, none⟩) (e2.trans e1)).trans h1, (World.cell?_of_block (a := ⟨b', 1, none⟩) (f2.trans f1)).trans k1⟩
theorem l1add_same (na nb : Bool) (a b : Option Addr) (cap cap' : Nat) (xs ys : List Int) (w : World) (hx : Sl .u32 w (.slice a xs.length cap) xs) (hy : Sl .u32 w (.slice b ys.length cap') ys) (dx : Nm.Dg xs) (dy : Nm.Dg ys) (nx : Nm.Nz xs) (ny : Nm.Nz ys) (hl : xs.length ≤ 500000) (hl' : ys.length ≤ 500000) (x : Int) (hx0 : x = Nm.wv na xs + Nm.wv nb ys) (hc : (na == nb) = true) :
  Calls Tryz.prog 81 #[.agg #[.bool na, .slice a xs.length cap], .agg #[.bool nb, .slice b ys.length cap']] w fun e w' => ∃ a' c', e = .returned (.agg #[.bool (Nm.wn x), .slice a' (Nm.wl x).length c']) ∧ Own w' w.heap.size a' c' (Nm.wl x) ∧ Below w.heap.size w w' := by
 have HX : Hid (∀ os, Nm.val os = Nm.val xs + Nm.val ys → x = Nm.wv na os) := hid (fun os h => by
  have hc' : na = nb := by simpa using hc
  rw [hx0, ← hc']; exact Nm.wv_same h)
 clear hx0
 go_enter Tryz.func81, Tryz.ntmps81
 have Bx := ((Box.new w (.bool na) (.slice a xs.length cap) 32).alloc (.cells #[.bool nb, .slice b ys.length cap'] 32)).alloc (.cells #[.bool false, .slice none 0 0] 32)
 have By := (Box.new2 w (.cells #[.bool na, .slice a xs.length cap] 32) (.bool nb) (.slice b ys.length cap') 32).alloc (.cells #[.bool false, .slice none 0 0] 32)
 have Rz : R2 (((w.alloc (.cells #[.bool na, .slice a xs.length cap] 32)).alloc (.cells #[.bool nb, .slice b ys.length cap'] 32)).alloc (.cells #[.bool false, .slice none 0 0] 32)) (w.heap.size + 1 + 1) (.bool false) (.slice none 0 0) := by simpa using R2.new2 (w.alloc (.cells #[.bool na, .slice a xs.length cap] 32)) (.cells #[.bool nb, .slice b ys.length cap'] 32) (.bool false) (.slice none 0 0) 32
 have sx := ((hx.alloc (.cells #[.bool na, .slice a xs.length cap] 32)).alloc (.cells #[.bool nb, .slice b ys.length cap'] 32)).alloc (.cells #[.bool false, .slice none 0 0] 32)
 have sy := ((hy.alloc (.cells #[.bool na, .slice a xs.length cap] 32)).alloc (.cells #[.bool nb, .slice b ys.length cap'] 32)).alloc (.cells #[.bool false, .slice none 0 0] 32)
 have hbW : Below w.heap.size w (((w.alloc (.cells #[.bool na, .slice a xs.length cap] 32)).alloc (.cells #[.bool nb, .slice b ys.length cap'] 32)).alloc (.cells #[.bool false, .slice none 0 0] 32)) := (by repeat (first | exact bz0 _ _ | refine bz1 ?_ | refine bz2 ?_ _ | refine bz3 ?_ _ | refine bz5 ?_ _ | refine bz6 ?_ _))
 go_wp2_with fail
 generalize ((w.alloc (.cells #[.bool na, .slice a xs.length cap] 32)).alloc (.cells #[.bool nb, .slice b ys.length cap'] 32)).alloc (.cells #[.bool false, .slice none 0 0] 32) = W at Bx By Rz sx sy hbW ⊢
 have lW : w.heap.size + 1 + 1 < W.heap.size := World.block_lt_of_cell? W _ Rz.c0
 go_region_held3 (fun w' => w'.cell? ⟨w.heap.size, 0, none⟩ = some (.bool na) ∧ w'.cell? ⟨w.heap.size, 1, none⟩ = some (.slice a xs.length cap) ∧ w'.cell? ⟨w.heap.size + 1, 1, none⟩ = some (.slice b ys.length cap')) (first | assumption | (refine keep3_set k3.1 k3.2.1 k3.2.2 ?_ ?_ _ _ <;> omega) | exact ⟨Bx.1, Bx.2, By.2⟩)
  (first
   | (go_at_call 177; refine (plus_any a b cap cap' xs ys _ (by exact sx.drew) (by exact sy.drew) dx dy hl hl' ).mono ?_; rintro e w2 ⟨a2, c2, os, rfl, ho2, dos, hv, hlo, hb2⟩; have k2 := keep3 (w := W.drew) Bx.1 Bx.2 By.2 hb2; have Rz2 := Rz.drew.below hb2)
   | (go_at_call 175; refine (made_v na a2 c2 os _ (by exact ho2.sl) dos hlo x (HX.out os hv)).mono ?_; rintro e w3 ⟨a3, c3, rfl, ho3, hb3⟩; have k3 := keep3 k2.1 k2.2.1 k2.2.2 hb3; have Rz3 := Rz2.below hb3; obtain ⟨z0, z1, zf0, zf1⟩ := Rz3))
 have l2 : W.heap.size ≤ w2.heap.size := hb2.size
 have l3 : w2.heap.size ≤ w3.heap.size := hb3.size
 go_wp2
 refine bodyPost_ret (v := .agg #[.bool (Nm.wn x), .slice a3 (Nm.wl x).length c3]) (by simp [results, Tryz.results81, go_sem, z0, z1]) rfl ⟨a3, c3, rfl, ?_, ?_⟩
 ·exact Own.base ((ho3.setBelow (by simp; omega) _).setBelow (by simp; omega) _) (by omega)
 ·exact ((bel_go (bel_go (Below.drew hbW) hb2) hb3).setCell (by simp; omega) _).setCell (by simp; omega) _
theorem l1add_low (na nb : Bool) (a b : Option Addr) (cap cap' : Nat) (xs ys : List Int) (w : World) (hx : Sl .u32 w (.slice a xs.length cap) xs) (hy : Sl .u32 w (.slice b ys.length cap') ys) (dx : Nm.Dg xs) (dy : Nm.Dg ys) (nx : Nm.Nz xs) (ny : Nm.Nz ys) (hl : xs.length ≤ 500000) (hl' : ys.length ≤ 500000) (x : Int) (hx0 : x = Nm.wv na xs + Nm.wv nb ys) (hc : (na == nb) = false) (hm : cmpL xs ys < 0) :
  Calls Tryz.prog 81 #[.agg #[.bool na, .slice a xs.length cap], .agg #[.bool nb, .slice b ys.length cap']] w fun e w' => ∃ a' c', e = .returned (.agg #[.bool (Nm.wn x), .slice a' (Nm.wl x).length c']) ∧ Own w' w.heap.size a' c' (Nm.wl x) ∧ Below w.heap.size w w' := by
 have HX : Hid (∀ os, Nm.val os = Nm.val ys - Nm.val xs → x = Nm.wv nb os) := hid (fun os h => by rw [hx0]; exact Nm.wv_less' hc h)
 have hge : Nm.val xs ≤ Nm.val ys := by have := (cmpL_val dx dy nx ny).1; omega
 have hln : xs.length ≤ ys.length := Nm.len_le_of_val dy dx nx hge
 have HGE := hid (And.intro hge hln)
 clear hx0 hge hln
 go_enter Tryz.func81, Tryz.ntmps81
 have Bx := ((Box.new w (.bool na) (.slice a xs.length cap) 32).alloc (.cells #[.bool nb, .slice b ys.length cap'] 32)).alloc (.cells #[.bool false, .slice none 0 0] 32)
 have By := (Box.new2 w (.cells #[.bool na, .slice a xs.length cap] 32) (.bool nb) (.slice b ys.length cap') 32).alloc (.cells #[.bool false, .slice none 0 0] 32)
 have Rz : R2 (((w.alloc (.cells #[.bool na, .slice a xs.length cap] 32)).alloc (.cells #[.bool nb, .slice b ys.length cap'] 32)).alloc (.cells #[.bool false, .slice none 0 0] 32)) (w.heap.size + 1 + 1) (.bool false) (.slice none 0 0) := by simpa using R2.new2 (w.alloc (.cells #[.bool na, .slice a xs.length cap] 32)) (.cells #[.bool nb, .slice b ys.length cap'] 32) (.bool false) (.slice none 0 0) 32
 have sx := ((hx.alloc (.cells #[.bool na, .slice a xs.length cap] 32)).alloc (.cells #[.bool nb, .slice b ys.length cap'] 32)).alloc (.cells #[.bool false, .slice none 0 0] 32)
 have sy := ((hy.alloc (.cells #[.bool na, .slice a xs.length cap] 32)).alloc (.cells #[.bool nb, .slice b ys.length cap'] 32)).alloc (.cells #[.bool false, .slice none 0 0] 32)
 have hbW : Below w.heap.size w (((w.alloc (.cells #[.bool na, .slice a xs.length cap] 32)).alloc (.cells #[.bool nb, .slice b ys.length cap'] 32)).alloc (.cells #[.bool false, .slice none 0 0] 32)) := (by repeat (first | exact bz0 _ _ | refine bz1 ?_ | refine bz2 ?_ _ | refine bz3 ?_ _ | refine bz5 ?_ _ | refine bz6 ?_ _))
 go_wp2_with fail
 refine (mag_any a b cap cap' xs ys _ sx sy (by omega) (by omega)).mono ?_
 rintro e W ⟨rfl, hb1⟩
 replace Bx := Bx.below hb1
 replace By := By.below hb1
 replace Rz := Rz.below hb1
 replace sx := sx.below hb1
 replace sy := sy.below hb1
 replace hbW := bel_go hbW hb1
 have lW : w.heap.size + 1 + 1 < W.heap.size := World.block_lt_of_cell? W _ Rz.c0
 clear hb1
 go_wp2_with fail
 go_region_held3 (fun w' => w'.cell? ⟨w.heap.size + 1, 0, none⟩ = some (.bool nb) ∧ w'.cell? ⟨w.heap.size + 1, 1, none⟩ = some (.slice b ys.length cap') ∧ w'.cell? ⟨w.heap.size, 1, none⟩ = some (.slice a xs.length cap)) (first | assumption | (refine keep3_set k3.1 k3.2.1 k3.2.2 ?_ ?_ _ _ <;> omega) | exact ⟨By.1, By.2, Bx.2⟩)
  (first
   | (go_at_call 178; refine (less_any b a cap' cap ys xs _ (by exact sy.drew) (by exact sx.drew) dy dx hl' HGE.out.2 HGE.out.1).mono ?_; rintro e w2 ⟨a2, c2, os, rfl, ho2, dos, hv, hlo, hb2⟩; have k2 := keep3 (w := W.drew) By.1 By.2 Bx.2 hb2; have Rz2 := Rz.drew.below hb2)
   | (go_at_call 175; refine (made_v nb a2 c2 os _ (by exact ho2.sl) dos hlo x (HX.out os hv)).mono ?_; rintro e w3 ⟨a3, c3, rfl, ho3, hb3⟩; have k3 := keep3 k2.1 k2.2.1 k2.2.2 hb3; have Rz3 := Rz2.below hb3; obtain ⟨z0, z1, zf0, zf1⟩ := Rz3))
 have l2 : W.heap.size ≤ w2.heap.size := hb2.size
 have l3 : w2.heap.size ≤ w3.heap.size := hb3.size
 go_wp2
 refine bodyPost_ret (v := .agg #[.bool (Nm.wn x), .slice a3 (Nm.wl x).length c3]) (by simp [results, Tryz.results81, go_sem, z0, z1]) rfl ⟨a3, c3, rfl, ?_, ?_⟩
 ·exact Own.base ((ho3.setBelow (by simp; omega) _).setBelow (by simp; omega) _) (by omega)
 ·exact ((bel_go (bel_go (Below.drew hbW) hb2) hb3).setCell (by simp; omega) _).setCell (by simp; omega) _
theorem l1add_high (na nb : Bool) (a b : Option Addr) (cap cap' : Nat) (xs ys : List Int) (w : World) (hx : Sl .u32 w (.slice a xs.length cap) xs) (hy : Sl .u32 w (.slice b ys.length cap') ys) (dx : Nm.Dg xs) (dy : Nm.Dg ys) (nx : Nm.Nz xs) (ny : Nm.Nz ys) (hl : xs.length ≤ 500000) (hl' : ys.length ≤ 500000) (x : Int) (hx0 : x = Nm.wv na xs + Nm.wv nb ys) (hc : (na == nb) = false) (hm : ¬ cmpL xs ys < 0) :
  Calls Tryz.prog 81 #[.agg #[.bool na, .slice a xs.length cap], .agg #[.bool nb, .slice b ys.length cap']] w fun e w' => ∃ a' c', e = .returned (.agg #[.bool (Nm.wn x), .slice a' (Nm.wl x).length c']) ∧ Own w' w.heap.size a' c' (Nm.wl x) ∧ Below w.heap.size w w' := by
 have HX : Hid (∀ os, Nm.val os = Nm.val xs - Nm.val ys → x = Nm.wv na os) := hid (fun os h => by rw [hx0]; exact Nm.wv_less hc h)
 have hge : Nm.val ys ≤ Nm.val xs := by have := (cmpL_val dx dy nx ny).1; omega
 have hln : ys.length ≤ xs.length := Nm.len_le_of_val dx dy ny hge
 have HGE := hid (And.intro hge hln)
 clear hx0 hge hln
 go_enter Tryz.func81, Tryz.ntmps81
 have Bx := ((Box.new w (.bool na) (.slice a xs.length cap) 32).alloc (.cells #[.bool nb, .slice b ys.length cap'] 32)).alloc (.cells #[.bool false, .slice none 0 0] 32)
 have By := (Box.new2 w (.cells #[.bool na, .slice a xs.length cap] 32) (.bool nb) (.slice b ys.length cap') 32).alloc (.cells #[.bool false, .slice none 0 0] 32)
 have Rz : R2 (((w.alloc (.cells #[.bool na, .slice a xs.length cap] 32)).alloc (.cells #[.bool nb, .slice b ys.length cap'] 32)).alloc (.cells #[.bool false, .slice none 0 0] 32)) (w.heap.size + 1 + 1) (.bool false) (.slice none 0 0) := by simpa using R2.new2 (w.alloc (.cells #[.bool na, .slice a xs.length cap] 32)) (.cells #[.bool nb, .slice b ys.length cap'] 32) (.bool false) (.slice none 0 0) 32
 have sx := ((hx.alloc (.cells #[.bool na, .slice a xs.length cap] 32)).alloc (.cells #[.bool nb, .slice b ys.length cap'] 32)).alloc (.cells #[.bool false, .slice none 0 0] 32)
 have sy := ((hy.alloc (.cells #[.bool na, .slice a xs.length cap] 32)).alloc (.cells #[.bool nb, .slice b ys.length cap'] 32)).alloc (.cells #[.bool false, .slice none 0 0] 32)
 have hbW : Below w.heap.size w (((w.alloc (.cells #[.bool na, .slice a xs.length cap] 32)).alloc (.cells #[.bool nb, .slice b ys.length cap'] 32)).alloc (.cells #[.bool false, .slice none 0 0] 32)) := (by repeat (first | exact bz0 _ _ | refine bz1 ?_ | refine bz2 ?_ _ | refine bz3 ?_ _ | refine bz5 ?_ _ | refine bz6 ?_ _))
 go_wp2_with fail
 refine (mag_any a b cap cap' xs ys _ sx sy (by omega) (by omega)).mono ?_
 rintro e W ⟨rfl, hb1⟩
 replace Bx := Bx.below hb1
 replace By := By.below hb1
 replace Rz := Rz.below hb1
 replace sx := sx.below hb1
 replace sy := sy.below hb1
 replace hbW := bel_go hbW hb1
 have lW : w.heap.size + 1 + 1 < W.heap.size := World.block_lt_of_cell? W _ Rz.c0
 clear hb1
 go_wp2_with fail
 go_region_held3 (fun w' => w'.cell? ⟨w.heap.size, 0, none⟩ = some (.bool na) ∧ w'.cell? ⟨w.heap.size, 1, none⟩ = some (.slice a xs.length cap) ∧ w'.cell? ⟨w.heap.size + 1, 1, none⟩ = some (.slice b ys.length cap')) (first | assumption | (refine keep3_set k3.1 k3.2.1 k3.2.2 ?_ ?_ _ _ <;> omega) | exact ⟨Bx.1, Bx.2, By.2⟩)
  (first
   | (go_at_call 178; refine (less_any a b cap cap' xs ys _ (by exact sx.drew) (by exact sy.drew) dx dy hl HGE.out.2 HGE.out.1).mono ?_; rintro e w2 ⟨a2, c2, os, rfl, ho2, dos, hv, hlo, hb2⟩; have k2 := keep3 (w := W.drew) Bx.1 Bx.2 By.2 hb2; have Rz2 := Rz.drew.below hb2)
   | (go_at_call 175; refine (made_v na a2 c2 os _ (by exact ho2.sl) dos hlo x (HX.out os hv)).mono ?_; rintro e w3 ⟨a3, c3, rfl, ho3, hb3⟩; have k3 := keep3 k2.1 k2.2.1 k2.2.2 hb3; have Rz3 := Rz2.below hb3; obtain ⟨z0, z1, zf0, zf1⟩ := Rz3))
 have l2 : W.heap.size ≤ w2.heap.size := hb2.size
 have l3 : w2.heap.size ≤ w3.heap.size := hb3.size
 go_wp2
 refine bodyPost_ret (v := .agg #[.bool (Nm.wn x), .slice a3 (Nm.wl x).length c3]) (by simp [results, Tryz.results81, go_sem, z0, z1]) rfl ⟨a3, c3, rfl, ?_, ?_⟩
 ·exact Own.base ((ho3.setBelow (by simp; omega) _).setBelow (by simp; omega) _) (by omega)
 ·exact ((bel_go (bel_go (Below.drew hbW) hb2) hb3).setCell (by simp; omega) _).setCell (by simp; omega) _
theorem l1add_any (na nb : Bool) (a b : Option Addr) (cap cap' : Nat) (xs ys : List Int) (w : World) (hx : Sl .u32 w (.slice a xs.length cap) xs) (hy : Sl .u32 w (.slice b ys.length cap') ys) (dx : Nm.Dg xs) (dy : Nm.Dg ys) (nx : Nm.Nz xs) (ny : Nm.Nz ys) (hl : xs.length ≤ 500000) (hl' : ys.length ≤ 500000) (x : Int) (hx0 : x = Nm.wv na xs + Nm.wv nb ys) :
  Calls Tryz.prog 81 #[.agg #[.bool na, .slice a xs.length cap], .agg #[.bool nb, .slice b ys.length cap']] w fun e w' => ∃ a' c', e = .returned (.agg #[.bool (Nm.wn x), .slice a' (Nm.wl x).length c']) ∧ Own w' w.heap.size a' c' (Nm.wl x) ∧ Below w.heap.size w w' := by
 cases hc : (na == nb)
 ·by_cases hm : cmpL xs ys < 0
  ·exact l1add_low na nb a b cap cap' xs ys w hx hy dx dy nx ny hl hl' x hx0 hc hm
  ·exact l1add_high na nb a b cap cap' xs ys w hx hy dx dy nx ny hl hl' x hx0 hc hm
 ·exact l1add_same na nb a b cap cap' xs ys w hx hy dx dy nx ny hl hl' x hx0 hc
def opL (ok : Bool) (x : Int) : List Int := if ok then Nm.outL x else []
def opN (ok : Bool) (x : Int) : Bool := ok && Nm.outN x
def opO (ok : Bool) (x : Int) : Bool := ok && Nm.fits x
theorem op_no (x : Int) : opL false x = [] ∧ opN false x = false ∧ opO false x = false := ⟨rfl, rfl, rfl⟩
theorem op_yes (x : Int) : opL true x = Nm.outL x ∧ opN true x = Nm.outN x ∧ opO true x = Nm.fits x := ⟨rfl, rfl, rfl⟩
end Go.Proofs.YtkfjmcdniohljaaGreatDoor
