/-
  What is needed of WideY.
-/
import Derived.Test.YtmcflggionkhlaaGreatDoorF16
set_option maxHeartbeats 16000000
set_option maxRecDepth 1000000
namespace Go.Proofs.YtmcflggionkhlaaGreatDoor
set_option linter.unusedVariables false
set_option linter.unusedSimpArgs false
open Go.RowKit Go.Deep
theorem keep4w {w w' : World} {b b' : Nat} {v0 v1 u0 u1 : Value} (h0 : w.cell? ⟨b, 0, none⟩ = some v0) (h1 : w.cell? ⟨b, 1, none⟩ = some v1) (k0 : w.cell? ⟨b', 0, none⟩ = some u0) (k1 : w.cell? ⟨b', 1, none⟩ = some u1) (hb : Below w.heap.size w w') :
    w'.cell? ⟨b, 0, none⟩ = some v0 ∧ w'.cell? ⟨b, 1, none⟩ = some v1 ∧ w'.cell? ⟨b', 0, none⟩ = some u0 ∧ w'.cell? ⟨b', 1, none⟩ = some u1 :=
  ⟨(Box.below ⟨h0, h1⟩ hb).1, (Box.below ⟨h0, h1⟩ hb).2, (Box.below ⟨k0, k1⟩ hb).1, (Box.below ⟨k0, k1⟩ hb).2⟩
theorem keep4_set {w : World} {b b' z : Nat} {v0 v1 u0 u1 : Value} (h0 : w.cell? ⟨b, 0, none⟩ = some v0) (h1 : w.cell? ⟨b, 1, none⟩ = some v1) (k0 : w.cell? ⟨b', 0, none⟩ = some u0) (k1 : w.cell? ⟨b', 1, none⟩ = some u1) (n1 : b ≠ z) (n2 : b' ≠ z) (p q : Value) :
    ((w.setCell ⟨z, 0, none⟩ p).setCell ⟨z, 1, none⟩ q).cell? ⟨b, 0, none⟩ = some v0 ∧ ((w.setCell ⟨z, 0, none⟩ p).setCell ⟨z, 1, none⟩ q).cell? ⟨b, 1, none⟩ = some v1 ∧ ((w.setCell ⟨z, 0, none⟩ p).setCell ⟨z, 1, none⟩ q).cell? ⟨b', 0, none⟩ = some u0 ∧ ((w.setCell ⟨z, 0, none⟩ p).setCell ⟨z, 1, none⟩ q).cell? ⟨b', 1, none⟩ = some u1 :=
  ⟨(keep3_set h0 h1 k1 n1 n2 p q).1, (keep3_set h0 h1 k1 n1 n2 p q).2.1, (keep3_set k0 k1 h1 n2 n1 p q).1, (keep3_set h0 h1 k1 n1 n2 p q).2.2⟩
theorem wmul_impl_no0 (na nb : Bool) (a b : Option Addr) (cap cap' : Nat) (xs ys : List Int) (w : World) (hx : Sl .u32 w (.slice a xs.length cap) xs) (hy : Sl .u32 w (.slice b ys.length cap') ys) (dx : Nm.Dg xs) (dy : Nm.Dg ys) (hl : xs.length ≤ 1048576) (hl' : ys.length ≤ 1048576) (x : Int) (h1 : okB na xs = false) :
    Calls Tryz.prog 127 #[.agg #[.bool na, .slice a xs.length cap], .agg #[.bool nb, .slice b ys.length cap']] w fun e w' => ∃ a' c', e = .returned (.tuple #[.agg #[.bool (opN (okB na xs && okB nb ys) x), .slice a' (opL (okB na xs && okB nb ys) x).length c'], .bool (opO (okB na xs && okB nb ys) x)]) ∧ Own w' w.heap.size a' c' (opL (okB na xs && okB nb ys) x) ∧ Below w.heap.size w w' := by
  have HK : Hid ((okB na xs && okB nb ys) = false) := hid (by rw [h1]; rfl)
  go_enter Tryz.func127, Tryz.ntmps127
  have Bx := ((Box.new w (.bool na) (.slice a xs.length cap) 31).alloc (.cells #[.bool nb, .slice b ys.length cap'] 31)).alloc (.cells #[.bool false, .slice none 0 0] 31)
  have By := (Box.new2 w (.cells #[.bool na, .slice a xs.length cap] 31) (.bool nb) (.slice b ys.length cap') 31).alloc (.cells #[.bool false, .slice none 0 0] 31)
  have Fx := ((R2.new w (.bool na) (.slice a xs.length cap) 31).alloc (.cells #[.bool nb, .slice b ys.length cap'] 31)).alloc (.cells #[.bool false, .slice none 0 0] 31)
  have Fy := (R2.new2 w (.cells #[.bool na, .slice a xs.length cap] 31) (.bool nb) (.slice b ys.length cap') 31).alloc (.cells #[.bool false, .slice none 0 0] 31)
  have Rz : R2 (((w.alloc (.cells #[.bool na, .slice a xs.length cap] 31)).alloc (.cells #[.bool nb, .slice b ys.length cap'] 31)).alloc (.cells #[.bool false, .slice none 0 0] 31)) (w.heap.size + 1 + 1) (.bool false) (.slice none 0 0) := by simpa using R2.new2 (w.alloc (.cells #[.bool na, .slice a xs.length cap] 31)) (.cells #[.bool nb, .slice b ys.length cap'] 31) (.bool false) (.slice none 0 0) 31
  have sx := ((hx.alloc (.cells #[.bool na, .slice a xs.length cap] 31)).alloc (.cells #[.bool nb, .slice b ys.length cap'] 31)).alloc (.cells #[.bool false, .slice none 0 0] 31)
  have sy := ((hy.alloc (.cells #[.bool na, .slice a xs.length cap] 31)).alloc (.cells #[.bool nb, .slice b ys.length cap'] 31)).alloc (.cells #[.bool false, .slice none 0 0] 31)
  have hbW : Below w.heap.size w (((w.alloc (.cells #[.bool na, .slice a xs.length cap] 31)).alloc (.cells #[.bool nb, .slice b ys.length cap'] 31)).alloc (.cells #[.bool false, .slice none 0 0] 31)) := (by repeat (first | exact bz0 _ _ | refine bz1 ?_ | refine bz2 ?_ _ | refine bz3 ?_ _ | refine bz5 ?_ _ | refine bz6 ?_ _))
  go_wp2_with fail
  refine (ok_impl na a cap xs _ sx (by omega)).mono ?_
  rintro e W ⟨rfl, hb1⟩
  replace Bx := Bx.below hb1
  replace By := By.below hb1
  replace Fx := Fx.below hb1
  replace Fy := Fy.below hb1
  replace Rz := Rz.below hb1
  replace sx := sx.below hb1
  replace sy := sy.below hb1
  replace hbW := bel_go hbW hb1
  obtain ⟨z0, z1, zf0, zf1⟩ := Rz
  go_wp2
  refine bodyPost_ret (v := .tuple #[.agg #[.bool false, .slice none 0 0], .bool false]) (by simp [results, Tryz.results127, go_sem, z0, z1]) rfl ⟨none, 0, ?_, ?_, ?_⟩
  · rw [HK.out, (op_no x).1, (op_no x).2.1, (op_no x).2.2]; rfl
  · rw [HK.out, (op_no x).1]; exact Own.nil _ _
  · exact (hbW.setCell (by simp; omega) _).setCell (by simp; omega) _
theorem wmul_impl_no1 (na nb : Bool) (a b : Option Addr) (cap cap' : Nat) (xs ys : List Int) (w : World) (hx : Sl .u32 w (.slice a xs.length cap) xs) (hy : Sl .u32 w (.slice b ys.length cap') ys) (dx : Nm.Dg xs) (dy : Nm.Dg ys) (hl : xs.length ≤ 1048576) (hl' : ys.length ≤ 1048576) (x : Int) (h1 : okB na xs = true) (h2 : okB nb ys = false) :
    Calls Tryz.prog 127 #[.agg #[.bool na, .slice a xs.length cap], .agg #[.bool nb, .slice b ys.length cap']] w fun e w' => ∃ a' c', e = .returned (.tuple #[.agg #[.bool (opN (okB na xs && okB nb ys) x), .slice a' (opL (okB na xs && okB nb ys) x).length c'], .bool (opO (okB na xs && okB nb ys) x)]) ∧ Own w' w.heap.size a' c' (opL (okB na xs && okB nb ys) x) ∧ Below w.heap.size w w' := by
  have HK : Hid ((okB na xs && okB nb ys) = false) := hid (by rw [h1, h2]; rfl)
  go_enter Tryz.func127, Tryz.ntmps127
  have Bx := ((Box.new w (.bool na) (.slice a xs.length cap) 31).alloc (.cells #[.bool nb, .slice b ys.length cap'] 31)).alloc (.cells #[.bool false, .slice none 0 0] 31)
  have By := (Box.new2 w (.cells #[.bool na, .slice a xs.length cap] 31) (.bool nb) (.slice b ys.length cap') 31).alloc (.cells #[.bool false, .slice none 0 0] 31)
  have Fx := ((R2.new w (.bool na) (.slice a xs.length cap) 31).alloc (.cells #[.bool nb, .slice b ys.length cap'] 31)).alloc (.cells #[.bool false, .slice none 0 0] 31)
  have Fy := (R2.new2 w (.cells #[.bool na, .slice a xs.length cap] 31) (.bool nb) (.slice b ys.length cap') 31).alloc (.cells #[.bool false, .slice none 0 0] 31)
  have Rz : R2 (((w.alloc (.cells #[.bool na, .slice a xs.length cap] 31)).alloc (.cells #[.bool nb, .slice b ys.length cap'] 31)).alloc (.cells #[.bool false, .slice none 0 0] 31)) (w.heap.size + 1 + 1) (.bool false) (.slice none 0 0) := by simpa using R2.new2 (w.alloc (.cells #[.bool na, .slice a xs.length cap] 31)) (.cells #[.bool nb, .slice b ys.length cap'] 31) (.bool false) (.slice none 0 0) 31
  have sx := ((hx.alloc (.cells #[.bool na, .slice a xs.length cap] 31)).alloc (.cells #[.bool nb, .slice b ys.length cap'] 31)).alloc (.cells #[.bool false, .slice none 0 0] 31)
  have sy := ((hy.alloc (.cells #[.bool na, .slice a xs.length cap] 31)).alloc (.cells #[.bool nb, .slice b ys.length cap'] 31)).alloc (.cells #[.bool false, .slice none 0 0] 31)
  have hbW : Below w.heap.size w (((w.alloc (.cells #[.bool na, .slice a xs.length cap] 31)).alloc (.cells #[.bool nb, .slice b ys.length cap'] 31)).alloc (.cells #[.bool false, .slice none 0 0] 31)) := (by repeat (first | exact bz0 _ _ | refine bz1 ?_ | refine bz2 ?_ _ | refine bz3 ?_ _ | refine bz5 ?_ _ | refine bz6 ?_ _))
  go_wp2_with fail
  refine (ok_impl na a cap xs _ sx (by omega)).mono ?_
  rintro e W ⟨rfl, hb1⟩
  replace Bx := Bx.below hb1
  replace By := By.below hb1
  replace Fx := Fx.below hb1
  replace Fy := Fy.below hb1
  replace Rz := Rz.below hb1
  replace sx := sx.below hb1
  replace sy := sy.below hb1
  replace hbW := bel_go hbW hb1
  obtain ⟨y0, y1⟩ := By
  go_wp2_with fail
  refine (ok_impl nb b cap' ys _ sy (by omega)).mono ?_
  rintro e W2 ⟨rfl, hb2⟩
  replace Rz := Rz.below hb2
  replace hbW := bel_go hbW hb2
  obtain ⟨z0, z1, zf0, zf1⟩ := Rz
  go_wp2
  refine bodyPost_ret (v := .tuple #[.agg #[.bool false, .slice none 0 0], .bool false]) (by simp [results, Tryz.results127, go_sem, z0, z1]) rfl ⟨none, 0, ?_, ?_, ?_⟩
  · rw [HK.out, (op_no x).1, (op_no x).2.1, (op_no x).2.2]; rfl
  · rw [HK.out, (op_no x).1]; exact Own.nil _ _
  · exact (hbW.setCell (by simp; omega) _).setCell (by simp; omega) _
theorem wmul_impl_ok (na nb : Bool) (a b : Option Addr) (cap cap' : Nat) (xs ys : List Int) (w : World) (hx : Sl .u32 w (.slice a xs.length cap) xs) (hy : Sl .u32 w (.slice b ys.length cap') ys) (dx : Nm.Dg xs) (dy : Nm.Dg ys) (hl : xs.length ≤ 1048576) (hl' : ys.length ≤ 1048576) (x : Int) (hxv : x = Nm.wv na xs * Nm.wv nb ys) (h1 : okB na xs = true) (h2 : okB nb ys = true) :
    Calls Tryz.prog 127 #[.agg #[.bool na, .slice a xs.length cap], .agg #[.bool nb, .slice b ys.length cap']] w fun e w' => ∃ a' c', e = .returned (.tuple #[.agg #[.bool (opN (okB na xs && okB nb ys) x), .slice a' (opL (okB na xs && okB nb ys) x).length c'], .bool (opO (okB na xs && okB nb ys) x)]) ∧ Own w' w.heap.size a' c' (opL (okB na xs && okB nb ys) x) ∧ Below w.heap.size w w' := by
  have HX : Hid (∀ os, Nm.val os = Nm.val xs * Nm.val ys → x = Nm.wv (na != nb) os) := hid (fun os h => by rw [hxv]; exact Nm.wv_mul h)
  clear hxv
  have HK : Hid ((okB na xs && okB nb ys) = true) := hid (by rw [h1, h2]; rfl)
  obtain ⟨nx, lx⟩ := okB_nz h1
  obtain ⟨ny, ly⟩ := okB_nz h2
  go_enter Tryz.func127, Tryz.ntmps127
  have Bx := ((Box.new w (.bool na) (.slice a xs.length cap) 31).alloc (.cells #[.bool nb, .slice b ys.length cap'] 31)).alloc (.cells #[.bool false, .slice none 0 0] 31)
  have By := (Box.new2 w (.cells #[.bool na, .slice a xs.length cap] 31) (.bool nb) (.slice b ys.length cap') 31).alloc (.cells #[.bool false, .slice none 0 0] 31)
  have Fx := ((R2.new w (.bool na) (.slice a xs.length cap) 31).alloc (.cells #[.bool nb, .slice b ys.length cap'] 31)).alloc (.cells #[.bool false, .slice none 0 0] 31)
  have Fy := (R2.new2 w (.cells #[.bool na, .slice a xs.length cap] 31) (.bool nb) (.slice b ys.length cap') 31).alloc (.cells #[.bool false, .slice none 0 0] 31)
  have Rz : R2 (((w.alloc (.cells #[.bool na, .slice a xs.length cap] 31)).alloc (.cells #[.bool nb, .slice b ys.length cap'] 31)).alloc (.cells #[.bool false, .slice none 0 0] 31)) (w.heap.size + 1 + 1) (.bool false) (.slice none 0 0) := by simpa using R2.new2 (w.alloc (.cells #[.bool na, .slice a xs.length cap] 31)) (.cells #[.bool nb, .slice b ys.length cap'] 31) (.bool false) (.slice none 0 0) 31
  have sx := ((hx.alloc (.cells #[.bool na, .slice a xs.length cap] 31)).alloc (.cells #[.bool nb, .slice b ys.length cap'] 31)).alloc (.cells #[.bool false, .slice none 0 0] 31)
  have sy := ((hy.alloc (.cells #[.bool na, .slice a xs.length cap] 31)).alloc (.cells #[.bool nb, .slice b ys.length cap'] 31)).alloc (.cells #[.bool false, .slice none 0 0] 31)
  have hbW : Below w.heap.size w (((w.alloc (.cells #[.bool na, .slice a xs.length cap] 31)).alloc (.cells #[.bool nb, .slice b ys.length cap'] 31)).alloc (.cells #[.bool false, .slice none 0 0] 31)) := (by repeat (first | exact bz0 _ _ | refine bz1 ?_ | refine bz2 ?_ _ | refine bz3 ?_ _ | refine bz5 ?_ _ | refine bz6 ?_ _))
  go_wp2_with fail
  refine (ok_impl na a cap xs _ sx (by omega)).mono ?_
  rintro e W1 ⟨rfl, hb1⟩
  replace Bx := Bx.below hb1
  replace By := By.below hb1
  replace Fx := Fx.below hb1
  replace Fy := Fy.below hb1
  replace Rz := Rz.below hb1
  replace sx := sx.below hb1
  replace sy := sy.below hb1
  replace hbW := bel_go hbW hb1
  obtain ⟨y0, y1⟩ := By
  go_wp2_with fail
  refine (ok_impl nb b cap' ys _ sy (by omega)).mono ?_
  rintro e W ⟨rfl, hb2⟩
  have By : Box W1 (w.heap.size + 1) (.bool nb) (.slice b ys.length cap') := ⟨y0, y1⟩
  replace Bx := Bx.below hb2
  replace By := By.below hb2
  replace Fx := Fx.below hb2
  replace Fy := Fy.below hb2
  replace Rz := Rz.below hb2
  replace sx := sx.below hb2
  replace sy := sy.below hb2
  replace hbW := bel_go hbW hb2
  have lW : w.heap.size + 1 + 1 < W.heap.size := World.block_lt_of_cell? W _ Rz.c0
  clear y0 y1 hb1 hb2
  go_wp2_with fail
  go_region_held3 (fun w' => w'.cell? ⟨w.heap.size, 0, none⟩ = some (.bool na) ∧ w'.cell? ⟨w.heap.size, 1, none⟩ = some (.slice a xs.length cap) ∧ w'.cell? ⟨w.heap.size + 1, 0, none⟩ = some (.bool nb) ∧ w'.cell? ⟨w.heap.size + 1, 1, none⟩ = some (.slice b ys.length cap')) (first | assumption | (refine keep4_set k3.1 k3.2.1 k3.2.2.1 k3.2.2.2 ?_ ?_ _ _ <;> omega) | exact ⟨Bx.1, Bx.2, By.1, By.2⟩)
    (first
      | (go_at_call 189; refine (mulLimbs_any a b cap cap' xs ys _ (by exact sx.drew) (by exact sy.drew) dx dy (by omega) (by omega)).mono ?_; rintro e w2 ⟨a2, c2, os, rfl, ho2, dos, hv, hlo, hb2⟩; have k2 := keep4w (w := W.drew) Bx.1 Bx.2 By.1 By.2 hb2; have Rz2 := Rz.drew.below hb2)
      | (go_at_call 68; refine (fitted_v (na != nb) a2 c2 os W.heap.size _ (by exact ho2) dos hlo x (HX.out os hv)).mono ?_; rintro e w3 ⟨a3, c3, rfl, ho3, hb3⟩; have k3 := keep4w k2.1 k2.2.1 k2.2.2.1 k2.2.2.2 hb3; have Rz3 := Rz2.below hb3; obtain ⟨z0, z1, zf0, zf1⟩ := Rz3))
  have l2 : W.heap.size ≤ w2.heap.size := hb2.size
  have l3 : w2.heap.size ≤ w3.heap.size := hb3.size
  go_wp2
  obtain ⟨e1, e2, e3⟩ := op_yes x
  refine bodyPost_ret (v := .tuple #[.agg #[.bool (Nm.outN x), .slice a3 (Nm.outL x).length c3], .bool (Nm.fits x)]) (by simp [results, Tryz.results127, go_sem, z0, z1]) rfl ⟨a3, c3, ?_, ?_, ?_⟩
  · rw [HK.out, e1, e2, e3]
  · rw [HK.out, e1]
    exact Own.base ((ho3.setBelow (by simp; omega) _).setBelow (by simp; omega) _) (by omega)
  · exact ((bel_go (bel_go (Below.drew hbW) hb2) hb3).setCell (by simp; omega) _).setCell (by simp; omega) _
theorem wmul_impl (na nb : Bool) (a b : Option Addr) (cap cap' : Nat) (xs ys : List Int) (w : World) (hx : Sl .u32 w (.slice a xs.length cap) xs) (hy : Sl .u32 w (.slice b ys.length cap') ys) (dx : Nm.Dg xs) (dy : Nm.Dg ys) (hl : xs.length ≤ 1048576) (hl' : ys.length ≤ 1048576) (x : Int) (hxv : x = Nm.wv na xs * Nm.wv nb ys) :
    Calls Tryz.prog 127 #[.agg #[.bool na, .slice a xs.length cap], .agg #[.bool nb, .slice b ys.length cap']] w fun e w' => ∃ a' c', e = .returned (.tuple #[.agg #[.bool (opN (okB na xs && okB nb ys) x), .slice a' (opL (okB na xs && okB nb ys) x).length c'], .bool (opO (okB na xs && okB nb ys) x)]) ∧ Own w' w.heap.size a' c' (opL (okB na xs && okB nb ys) x) ∧ Below w.heap.size w w' := by
  cases h1 : okB na xs
  · have := wmul_impl_no0 na nb a b cap cap' xs ys w hx hy dx dy hl hl' x h1
    rwa [h1] at this
  · cases h2 : okB nb ys
    · have := wmul_impl_no1 na nb a b cap cap' xs ys w hx hy dx dy hl hl' x h1 h2
      rwa [h1, h2] at this
    · have := wmul_impl_ok na nb a b cap cap' xs ys w hx hy dx dy hl hl' x hxv h1 h2
      rwa [h1, h2] at this
end Go.Proofs.YtmcflggionkhlaaGreatDoor
