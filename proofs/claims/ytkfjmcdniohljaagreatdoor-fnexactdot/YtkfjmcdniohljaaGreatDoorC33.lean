/-
  What is needed of WideY, EF.
-/
import Derived.Test.YtkfjmcdniohljaaGreatDoorC30
set_option maxHeartbeats 16000000
set_option maxRecDepth 1000000
namespace Go.Proofs.YtkfjmcdniohljaaGreatDoor
set_option linter.unusedVariables false
set_option linter.unusedSimpArgs false
open Go.RowKit Go.Deep
theorem keep4w {w w' : World} {b b' : Nat} {v0 v1 u0 u1 : Value} (h0 : w.cell? ⟨b, 0, none⟩ = some v0) (h1 : w.cell? ⟨b, 1, none⟩ = some v1) (k0 : w.cell? ⟨b', 0, none⟩ = some u0) (k1 : w.cell? ⟨b', 1, none⟩ = some u1) (hb : Below w.heap.size w w') :
    w'.cell? ⟨b, 0, none⟩ = some v0 ∧ w'.cell? ⟨b, 1, none⟩ = some v1 ∧ w'.cell? ⟨b', 0, none⟩ = some u0 ∧ w'.cell? ⟨b', 1, none⟩ = some u1 :=
  ⟨(Box.below ⟨h0, h1⟩ hb).1, (Box.below ⟨h0, h1⟩ hb).2, (Box.below ⟨k0, k1⟩ hb).1, (Box.below ⟨k0, k1⟩ hb).2⟩
theorem keep4_set {w : World} {b b' z : Nat} {v0 v1 u0 u1 : Value} (h0 : w.cell? ⟨b, 0, none⟩ = some v0) (h1 : w.cell? ⟨b, 1, none⟩ = some v1) (k0 : w.cell? ⟨b', 0, none⟩ = some u0) (k1 : w.cell? ⟨b', 1, none⟩ = some u1) (n1 : b ≠ z) (n2 : b' ≠ z) (p q : Value) :
    ((w.setCell ⟨z, 0, none⟩ p).setCell ⟨z, 1, none⟩ q).cell? ⟨b, 0, none⟩ = some v0 ∧ ((w.setCell ⟨z, 0, none⟩ p).setCell ⟨z, 1, none⟩ q).cell? ⟨b, 1, none⟩ = some v1 ∧ ((w.setCell ⟨z, 0, none⟩ p).setCell ⟨z, 1, none⟩ q).cell? ⟨b', 0, none⟩ = some u0 ∧ ((w.setCell ⟨z, 0, none⟩ p).setCell ⟨z, 1, none⟩ q).cell? ⟨b', 1, none⟩ = some u1 :=
  ⟨(keep3_set h0 h1 k1 n1 n2 p q).1, (keep3_set h0 h1 k1 n1 n2 p q).2.1, (keep3_set k0 k1 h1 n2 n1 p q).1, (keep3_set h0 h1 k1 n1 n2 p q).2.2⟩
theorem wmul_impl_no0 (na nb : Bool) (a b : Option Addr) (cap cap' : Nat) (xs ys : List Int) (w : World) (hx : Sl .u32 w (.slice a xs.length cap) xs) (hy : Sl .u32 w (.slice b ys.length cap') ys) (dx : Nm.Dg xs) (dy : Nm.Dg ys) (hl : xs.length ≤ 1048576) (hl' : ys.length ≤ 1048576) (x : Int) (h1 : okB na xs = false) :
    Calls Tryz.prog 226 #[.agg #[.bool na, .slice a xs.length cap], .agg #[.bool nb, .slice b ys.length cap']] w fun e w' => ∃ a' c', e = .returned (.tuple #[.agg #[.bool (opN (okB na xs && okB nb ys) x), .slice a' (opL (okB na xs && okB nb ys) x).length c'], .bool (opO (okB na xs && okB nb ys) x)]) ∧ Own w' w.heap.size a' c' (opL (okB na xs && okB nb ys) x) ∧ Below w.heap.size w w' := by
  have HK : Hid ((okB na xs && okB nb ys) = false) := hid (by rw [h1]; rfl)
  go_enter Tryz.func226, Tryz.ntmps226
  have Bx := ((Box.new w (.bool na) (.slice a xs.length cap) 32).alloc (.cells #[.bool nb, .slice b ys.length cap'] 32)).alloc (.cells #[.bool false, .slice none 0 0] 32)
  have By := (Box.new2 w (.cells #[.bool na, .slice a xs.length cap] 32) (.bool nb) (.slice b ys.length cap') 32).alloc (.cells #[.bool false, .slice none 0 0] 32)
  have Fx := ((R2.new w (.bool na) (.slice a xs.length cap) 32).alloc (.cells #[.bool nb, .slice b ys.length cap'] 32)).alloc (.cells #[.bool false, .slice none 0 0] 32)
  have Fy := (R2.new2 w (.cells #[.bool na, .slice a xs.length cap] 32) (.bool nb) (.slice b ys.length cap') 32).alloc (.cells #[.bool false, .slice none 0 0] 32)
  have Rz : R2 (((w.alloc (.cells #[.bool na, .slice a xs.length cap] 32)).alloc (.cells #[.bool nb, .slice b ys.length cap'] 32)).alloc (.cells #[.bool false, .slice none 0 0] 32)) (w.heap.size + 1 + 1) (.bool false) (.slice none 0 0) := by simpa using R2.new2 (w.alloc (.cells #[.bool na, .slice a xs.length cap] 32)) (.cells #[.bool nb, .slice b ys.length cap'] 32) (.bool false) (.slice none 0 0) 32
  have sx := ((hx.alloc (.cells #[.bool na, .slice a xs.length cap] 32)).alloc (.cells #[.bool nb, .slice b ys.length cap'] 32)).alloc (.cells #[.bool false, .slice none 0 0] 32)
  have sy := ((hy.alloc (.cells #[.bool na, .slice a xs.length cap] 32)).alloc (.cells #[.bool nb, .slice b ys.length cap'] 32)).alloc (.cells #[.bool false, .slice none 0 0] 32)
  have hbW : Below w.heap.size w (((w.alloc (.cells #[.bool na, .slice a xs.length cap] 32)).alloc (.cells #[.bool nb, .slice b ys.length cap'] 32)).alloc (.cells #[.bool false, .slice none 0 0] 32)) := (by repeat (first | exact bz0 _ _ | refine bz1 ?_ | refine bz2 ?_ _ | refine bz3 ?_ _ | refine bz5 ?_ _ | refine bz6 ?_ _))
  go_wp2_with fail
  refine (ok_impl na a cap xs _ sx (by omega)).mono ?_
  rintro e W ⟨rfl, hb1⟩
  replace Bx := Bx.below hb1
  replace By := By.below hb1
  replace Fx := Fx.below hb1
  replace Fy := Fy.below hb1
  replace Rz := Rz.below hb1
  replace sx := sx.below hb1
  replace sy := sy.below hb1
  replace hbW := bel_go hbW hb1
  obtain ⟨z0, z1, zf0, zf1⟩ := Rz
  go_wp2
  refine bodyPost_ret (v := .tuple #[.agg #[.bool false, .slice none 0 0], .bool false]) (by simp [results, Tryz.results226, go_sem, z0, z1]) rfl ⟨none, 0, ?_, ?_, ?_⟩
  · rw [HK.out, (op_no x).1, (op_no x).2.1, (op_no x).2.2]; rfl
  · rw [HK.out, (op_no x).1]; exact Own.nil _ _
  · exact (hbW.setCell (by simp; omega) _).setCell (by simp; omega) _
theorem wmul_impl_no1 (na nb : Bool) (a b : Option Addr) (cap cap' : Nat) (xs ys : List Int) (w : World) (hx : Sl .u32 w (.slice a xs.length cap) xs) (hy : Sl .u32 w (.slice b ys.length cap') ys) (dx : Nm.Dg xs) (dy : Nm.Dg ys) (hl : xs.length ≤ 1048576) (hl' : ys.length ≤ 1048576) (x : Int) (h1 : okB na xs = true) (h2 : okB nb ys = false) :
    Calls Tryz.prog 226 #[.agg #[.bool na, .slice a xs.length cap], .agg #[.bool nb, .slice b ys.length cap']] w fun e w' => ∃ a' c', e = .returned (.tuple #[.agg #[.bool (opN (okB na xs && okB nb ys) x), .slice a' (opL (okB na xs && okB nb ys) x).length c'], .bool (opO (okB na xs && okB nb ys) x)]) ∧ Own w' w.heap.size a' c' (opL (okB na xs && okB nb ys) x) ∧ Below w.heap.size w w' := by
  have HK : Hid ((okB na xs && okB nb ys) = false) := hid (by rw [h1, h2]; rfl)
  go_enter Tryz.func226, Tryz.ntmps226
  have Bx := ((Box.new w (.bool na) (.slice a xs.length cap) 32).alloc (.cells #[.bool nb, .slice b ys.length cap'] 32)).alloc (.cells #[.bool false, .slice none 0 0] 32)
  have By := (Box.new2 w (.cells #[.bool na, .slice a xs.length cap] 32) (.bool nb) (.slice b ys.length cap') 32).alloc (.cells #[.bool false, .slice none 0 0] 32)
  have Fx := ((R2.new w (.bool na) (.slice a xs.length cap) 32).alloc (.cells #[.bool nb, .slice b ys.length cap'] 32)).alloc (.cells #[.bool false, .slice none 0 0] 32)
  have Fy := (R2.new2 w (.cells #[.bool na, .slice a xs.length cap] 32) (.bool nb) (.slice b ys.length cap') 32).alloc (.cells #[.bool false, .slice none 0 0] 32)
  have Rz : R2 (((w.alloc (.cells #[.bool na, .slice a xs.length cap] 32)).alloc (.cells #[.bool nb, .slice b ys.length cap'] 32)).alloc (.cells #[.bool false, .slice none 0 0] 32)) (w.heap.size + 1 + 1) (.bool false) (.slice none 0 0) := by simpa using R2.new2 (w.alloc (.cells #[.bool na, .slice a xs.length cap] 32)) (.cells #[.bool nb, .slice b ys.length cap'] 32) (.bool false) (.slice none 0 0) 32
  have sx := ((hx.alloc (.cells #[.bool na, .slice a xs.length cap] 32)).alloc (.cells #[.bool nb, .slice b ys.length cap'] 32)).alloc (.cells #[.bool false, .slice none 0 0] 32)
  have sy := ((hy.alloc (.cells #[.bool na, .slice a xs.length cap] 32)).alloc (.cells #[.bool nb, .slice b ys.length cap'] 32)).alloc (.cells #[.bool false, .slice none 0 0] 32)
  have hbW : Below w.heap.size w (((w.alloc (.cells #[.bool na, .slice a xs.length cap] 32)).alloc (.cells #[.bool nb, .slice b ys.length cap'] 32)).alloc (.cells #[.bool false, .slice none 0 0] 32)) := (by repeat (first | exact bz0 _ _ | refine bz1 ?_ | refine bz2 ?_ _ | refine bz3 ?_ _ | refine bz5 ?_ _ | refine bz6 ?_ _))
  go_wp2_with fail
  refine (ok_impl na a cap xs _ sx (by omega)).mono ?_
  rintro e W ⟨rfl, hb1⟩
  replace Bx := Bx.below hb1
  replace By := By.below hb1
  replace Fx := Fx.below hb1
  replace Fy := Fy.below hb1
  replace Rz := Rz.below hb1
  replace sx := sx.below hb1
  replace sy := sy.below hb1
  replace hbW := bel_go hbW hb1
  obtain ⟨y0, y1⟩ := By
  go_wp2_with fail
  refine (ok_impl nb b cap' ys _ sy (by omega)).mono ?_
  rintro e W2 ⟨rfl, hb2⟩
  replace Rz := Rz.below hb2
  replace hbW := bel_go hbW hb2
  obtain ⟨z0, z1, zf0, zf1⟩ := Rz
  go_wp2
  refine bodyPost_ret (v := .tuple #[.agg #[.bool false, .slice none 0 0], .bool false]) (by simp [results, Tryz.results226, go_sem, z0, z1]) rfl ⟨none, 0, ?_, ?_, ?_⟩
  · rw [HK.out, (op_no x).1, (op_no x).2.1, (op_no x).2.2]; rfl
  · rw [HK.out, (op_no x).1]; exact Own.nil _ _
  · exact (hbW.setCell (by simp; omega) _).setCell (by simp; omega) _
theorem wmul_impl_ok (na nb : Bool) (a b : Option Addr) (cap cap' : Nat) (xs ys : List Int) (w : World) (hx : Sl .u32 w (.slice a xs.length cap) xs) (hy : Sl .u32 w (.slice b ys.length cap') ys) (dx : Nm.Dg xs) (dy : Nm.Dg ys) (hl : xs.length ≤ 1048576) (hl' : ys.length ≤ 1048576) (x : Int) (hxv : x = Nm.wv na xs * Nm.wv nb ys) (h1 : okB na xs = true) (h2 : okB nb ys = true) :
    Calls Tryz.prog 226 #[.agg #[.bool na, .slice a xs.length cap], .agg #[.bool nb, .slice b ys.length cap']] w fun e w' => ∃ a' c', e = .returned (.tuple #[.agg #[.bool (opN (okB na xs && okB nb ys) x), .slice a' (opL (okB na xs && okB nb ys) x).length c'], .bool (opO (okB na xs && okB nb ys) x)]) ∧ Own w' w.heap.size a' c' (opL (okB na xs && okB nb ys) x) ∧ Below w.heap.size w w' := by
  have HX : Hid (∀ os, Nm.val os = Nm.val xs * Nm.val ys → x = Nm.wv (na != nb) os) := hid (fun os h => by rw [hxv]; exact Nm.wv_mul h)
  clear hxv
  have HK : Hid ((okB na xs && okB nb ys) = true) := hid (by rw [h1, h2]; rfl)
  obtain ⟨nx, lx⟩ := okB_nz h1
  obtain ⟨ny, ly⟩ := okB_nz h2
  go_enter Tryz.func226, Tryz.ntmps226
  have Bx := ((Box.new w (.bool na) (.slice a xs.length cap) 32).alloc (.cells #[.bool nb, .slice b ys.length cap'] 32)).alloc (.cells #[.bool false, .slice none 0 0] 32)
  have By := (Box.new2 w (.cells #[.bool na, .slice a xs.length cap] 32) (.bool nb) (.slice b ys.length cap') 32).alloc (.cells #[.bool false, .slice none 0 0] 32)
  have Fx := ((R2.new w (.bool na) (.slice a xs.length cap) 32).alloc (.cells #[.bool nb, .slice b ys.length cap'] 32)).alloc (.cells #[.bool false, .slice none 0 0] 32)
  have Fy := (R2.new2 w (.cells #[.bool na, .slice a xs.length cap] 32) (.bool nb) (.slice b ys.length cap') 32).alloc (.cells #[.bool false, .slice none 0 0] 32)
  have Rz : R2 (((w.alloc (.cells #[.bool na, .slice a xs.length cap] 32)).alloc (.cells #[.bool nb, .slice b ys.length cap'] 32)).alloc (.cells #[.bool false, .slice none 0 0] 32)) (w.heap.size + 1 + 1) (.bool false) (.slice none 0 0) := by simpa using R2.new2 (w.alloc (.cells #[.bool na, .slice a xs.length cap] 32)) (.cells #[.bool nb, .slice b ys.length cap'] 32) (.bool false) (.slice none 0 0) 32
  have sx := ((hx.alloc (.cells #[.bool na, .slice a xs.length cap] 32)).alloc (.cells #[.bool nb, .slice b ys.length cap'] 32)).alloc (.cells #[.bool false, .slice none 0 0] 32)
  have sy := ((hy.alloc (.cells #[.bool na, .slice a xs.length cap] 32)).alloc (.cells #[.bool nb, .slice b ys.length cap'] 32)).alloc (.cells #[.bool false, .slice none 0 0] 32)
  have hbW : Below w.heap.size w (((w.alloc (.cells #[.bool na, .slice a xs.length cap] 32)).alloc (.cells #[.bool nb, .slice b ys.length cap'] 32)).alloc (.cells #[.bool false, .slice none 0 0] 32)) := (by repeat (first | exact bz0 _ _ | refine bz1 ?_ | refine bz2 ?_ _ | refine bz3 ?_ _ | refine bz5 ?_ _ | refine bz6 ?_ _))
  go_wp2_with fail
  refine (ok_impl na a cap xs _ sx (by omega)).mono ?_
  rintro e W1 ⟨rfl, hb1⟩
  replace Bx := Bx.below hb1
  replace By := By.below hb1
  replace Fx := Fx.below hb1
  replace Fy := Fy.below hb1
  replace Rz := Rz.below hb1
  replace sx := sx.below hb1
  replace sy := sy.below hb1
  replace hbW := bel_go hbW hb1
  obtain ⟨y0, y1⟩ := By
  go_wp2_with fail
  refine (ok_impl nb b cap' ys _ sy (by omega)).mono ?_
  rintro e W ⟨rfl, hb2⟩
  have By : Box W1 (w.heap.size + 1) (.bool nb) (.slice b ys.length cap') := ⟨y0, y1⟩
  replace Bx := Bx.below hb2
  replace By := By.below hb2
  replace Fx := Fx.below hb2
  replace Fy := Fy.below hb2
  replace Rz := Rz.below hb2
  replace sx := sx.below hb2
  replace sy := sy.below hb2
  replace hbW := bel_go hbW hb2
  have lW : w.heap.size + 1 + 1 < W.heap.size := World.block_lt_of_cell? W _ Rz.c0
  clear y0 y1 hb1 hb2
  go_wp2_with fail
  go_region_held3 (fun w' => w'.cell? ⟨w.heap.size, 0, none⟩ = some (.bool na) ∧ w'.cell? ⟨w.heap.size, 1, none⟩ = some (.slice a xs.length cap) ∧ w'.cell? ⟨w.heap.size + 1, 0, none⟩ = some (.bool nb) ∧ w'.cell? ⟨w.heap.size + 1, 1, none⟩ = some (.slice b ys.length cap')) (first | assumption | (refine keep4_set k3.1 k3.2.1 k3.2.2.1 k3.2.2.2 ?_ ?_ _ _ <;> omega) | exact ⟨Bx.1, Bx.2, By.1, By.2⟩)
    (first
      | (go_at_call 237; refine (mulLimbs_any a b cap cap' xs ys _ (by exact sx.drew) (by exact sy.drew) dx dy (by omega) (by omega)).mono ?_; rintro e w2 ⟨a2, c2, os, rfl, ho2, dos, hv, hlo, hb2⟩; have k2 := keep4w (w := W.drew) Bx.1 Bx.2 By.1 By.2 hb2; have Rz2 := Rz.drew.below hb2)
      | (go_at_call 105; refine (fitted_v (na != nb) a2 c2 os W.heap.size _ (by exact ho2) dos hlo x (HX.out os hv)).mono ?_; rintro e w3 ⟨a3, c3, rfl, ho3, hb3⟩; have k3 := keep4w k2.1 k2.2.1 k2.2.2.1 k2.2.2.2 hb3; have Rz3 := Rz2.below hb3; obtain ⟨z0, z1, zf0, zf1⟩ := Rz3))
  have l2 : W.heap.size ≤ w2.heap.size := hb2.size
  have l3 : w2.heap.size ≤ w3.heap.size := hb3.size
  go_wp2
  obtain ⟨e1, e2, e3⟩ := op_yes x
  refine bodyPost_ret (v := .tuple #[.agg #[.bool (Nm.outN x), .slice a3 (Nm.outL x).length c3], .bool (Nm.fits x)]) (by simp [results, Tryz.results226, go_sem, z0, z1]) rfl ⟨a3, c3, ?_, ?_, ?_⟩
  · rw [HK.out, e1, e2, e3]
  · rw [HK.out, e1]
    exact Own.base ((ho3.setBelow (by simp; omega) _).setBelow (by simp; omega) _) (by omega)
  · exact ((bel_go (bel_go (Below.drew hbW) hb2) hb3).setCell (by simp; omega) _).setCell (by simp; omega) _
theorem wmul_impl (na nb : Bool) (a b : Option Addr) (cap cap' : Nat) (xs ys : List Int) (w : World) (hx : Sl .u32 w (.slice a xs.length cap) xs) (hy : Sl .u32 w (.slice b ys.length cap') ys) (dx : Nm.Dg xs) (dy : Nm.Dg ys) (hl : xs.length ≤ 1048576) (hl' : ys.length ≤ 1048576) (x : Int) (hxv : x = Nm.wv na xs * Nm.wv nb ys) :
    Calls Tryz.prog 226 #[.agg #[.bool na, .slice a xs.length cap], .agg #[.bool nb, .slice b ys.length cap']] w fun e w' => ∃ a' c', e = .returned (.tuple #[.agg #[.bool (opN (okB na xs && okB nb ys) x), .slice a' (opL (okB na xs && okB nb ys) x).length c'], .bool (opO (okB na xs && okB nb ys) x)]) ∧ Own w' w.heap.size a' c' (opL (okB na xs && okB nb ys) x) ∧ Below w.heap.size w w' := by
  cases h1 : okB na xs
  · have := wmul_impl_no0 na nb a b cap cap' xs ys w hx hy dx dy hl hl' x h1
    rwa [h1] at this
  · cases h2 : okB nb ys
    · have := wmul_impl_no1 na nb a b cap cap' xs ys w hx hy dx dy hl hl' x h1 h2
      rwa [h1, h2] at this
    · have := wmul_impl_ok na nb a b cap cap' xs ys w hx hy dx dy hl hl' x hxv h1 h2
      rwa [h1, h2] at this
/-- What the program's variables hold. -/
structure EE (u : Value) (w : World) : Prop where
  t : Tab w
  g : EA.ErrT w
  q : ErrQ w u
def EX (w : World) : Prop := ∃ u, EE u w
theorem EE.below {u : Value} {w w' : World} (h : EE u w) (hb : Below w.heap.size w w') : EE u w' := ⟨h.t.below hb, EA.five h.g hb, (hb.cell (p := ⟨0, 0, none⟩) (World.block_lt_of_cell? w _ h.q)).trans h.q⟩
theorem EX.below {w w' : World} (h : EX w) (hb : Below w.heap.size w w') : EX w' := by obtain ⟨u, h⟩ := h; exact ⟨u, h.below hb⟩
/-- An error of the program: whether it is one, and whether it tells what is invalid. -/
inductive EK (u : Value) : Value → Bool → Bool → Prop
  | no : EK u .nilIface false false
  | quiet : EK u (.iface 179 (.agg #[.iface 246 u])) true false
  | bad (s : ByteArray) : EK u (.iface 179 (.agg #[.iface 181 (.agg #[.string s])])) true true
theorem inv_any {u ev : Value} {n b : Bool} (h : EK u ev n b) (w : World) (hg : EA.ErrT w) :
    Calls Tryz.prog 190 #[ev] w fun r w' => r = .returned (.bool b) ∧ Below w.heap.size w w' := by
  cases h with
  | no => exact EA.inv_nil w hg
  | quiet => exact EA.inv_quiet u w hg
  | bad s => exact EA.inv_bad s w hg
theorem worse_any {u a b : Value} {n1 b1 n2 b2 : Bool} (ha : EK u a n1 b1) (hb : EK u b n2 b2) (w : World) (hg : EA.ErrT w) :
    Calls Tryz.prog 225 #[a, b] w fun r w' => ∃ ev, r = .returned ev ∧ EK u ev (n1 || n2) (b1 || b2) ∧ Below w.heap.size w w' := by
  have CI := hid (fun w' h => inv_any hb w' h)
  have HB := hid hb
  clear hb
  cases ha with
  | no =>
    go_enter Tryz.func225, Tryz.ntmps225
    go_wp2
    go_ret
    exact ⟨b, rfl, by simpa using HB.out, (by repeat (first | exact bz0 _ _ | refine bz1 ?_ | refine bz2 ?_ _ | refine bz3 ?_ _ | refine bz5 ?_ _ | refine bz6 ?_ _))⟩
  | quiet =>
    cases b2
    · have HE : Hid (EK u (.iface 179 (.agg #[.iface 246 u])) (true || n2) (false || false)) := hid EK.quiet
      go_enter Tryz.func225, Tryz.ntmps225
      go_wp2_with fail
      refine (CI.out _ hg).mono ?_
      rintro r w1 ⟨rfl, hb1⟩
      go_wp2
      go_ret
      exact ⟨_, rfl, HE.out, (by repeat (first | exact bz0 _ _ | refine bz1 ?_ | refine bz2 ?_ _ | refine bz3 ?_ _ | refine bz4 ?_ hb1 | refine bz5 ?_ _ | refine bz6 ?_ _ | refine bz7 ?_ hb1))⟩
    · have hn : n2 = true := by have h := HB.out; cases h; rfl
      subst hn
      go_enter Tryz.func225, Tryz.ntmps225
      go_wp2_with fail
      refine (CI.out _ hg).mono ?_
      rintro r w1 ⟨rfl, hb1⟩
      go_wp2
      go_ret
      exact ⟨b, rfl, HB.out, (by repeat (first | exact bz0 _ _ | refine bz1 ?_ | refine bz2 ?_ _ | refine bz3 ?_ _ | refine bz4 ?_ hb1 | refine bz5 ?_ _ | refine bz6 ?_ _ | refine bz7 ?_ hb1))⟩
  | bad s =>
    cases b2
    · have HE : Hid (EK u (.iface 179 (.agg #[.iface 181 (.agg #[.string s])])) (true || n2) (true || false)) := hid (EK.bad s)
      go_enter Tryz.func225, Tryz.ntmps225
      go_wp2_with fail
      refine (CI.out _ hg).mono ?_
      rintro r w1 ⟨rfl, hb1⟩
      go_wp2
      go_ret
      exact ⟨_, rfl, HE.out, (by repeat (first | exact bz0 _ _ | refine bz1 ?_ | refine bz2 ?_ _ | refine bz3 ?_ _ | refine bz4 ?_ hb1 | refine bz5 ?_ _ | refine bz6 ?_ _ | refine bz7 ?_ hb1))⟩
    · have hn : n2 = true := by have h := HB.out; cases h; rfl
      subst hn
      go_enter Tryz.func225, Tryz.ntmps225
      go_wp2_with fail
      refine (CI.out _ hg).mono ?_
      rintro r w1 ⟨rfl, hb1⟩
      go_wp2
      go_ret
      exact ⟨b, rfl, HB.out, (by repeat (first | exact bz0 _ _ | refine bz1 ?_ | refine bz2 ?_ _ | refine bz3 ?_ _ | refine bz4 ?_ hb1 | refine bz5 ?_ _ | refine bz6 ?_ _ | refine bz7 ?_ hb1))⟩
theorem cls_sixE {fm x : Int} (h : okF fm x = true) : finB fm x = true ∨ cls fm x = 3 ∨ cls fm x = 4 ∨ cls fm x = 5 := by
  have h1 := cls_rng fm x
  by_cases hf : 0 ≤ cls fm x ∧ cls fm x ≤ 2
  · exact .inl (by unfold finB; exact decide_eq_true hf)
  · have : cls fm x ≠ -1 := by
      intro e
      cases hn : nanB fm x
      · have := cls_num h hn; omega
      · have := cls_nan h hn; omega
    omega
theorem nan_ofE {fm x : Int} (h : okF fm x = true) : nanB fm x = (decide (cls fm x = 4) || decide (cls fm x = 5)) := by
  cases hn : nanB fm x
  · have := cls_num h hn
    rw [decide_eq_false (by omega), decide_eq_false (by omega)]; rfl
  · rcases cls_nan h hn with e | e
    · rw [decide_eq_true e]; rfl
    · rw [decide_eq_true e]; simp
/-- A float as a number: its sign; whether it is infinity; M with its sign; E. -/
def nS (fm x : Int) : Bool := !nanB fm x && sigB fm x
def nI (fm x : Int) : Bool := cls fm x == 3
def nZ (fm x : Int) : Int := if finB fm x then (if pS fm x then -pM fm x else pM fm x) else 0
def nE (fm x : Int) : Int := if finB fm x then pE fm x else 0
def nB (fm x : Int) : Bool := cls fm x == 5
theorem fin_facts {fm x : Int} (hx : okF fm x = true) (hf : finB fm x = true) : nS fm x = pS fm x ∧ nI fm x = false ∧ nZ fm x = (if pS fm x then -pM fm x else pM fm x) ∧ nE fm x = pE fm x ∧ nanB fm x = false ∧ nB fm x = false := by
  have hc : 0 ≤ cls fm x ∧ cls fm x ≤ 2 := by simpa [finB] using hf
  have hps : pS fm x = sigB fm x := by unfold pS; rw [hf]; rfl
  have hn : nanB fm x = false := by rw [nan_ofE hx, decide_eq_false (by omega), decide_eq_false (by omega)]; rfl
  refine ⟨by unfold nS; rw [hn, hps]; rfl, ?_, by unfold nZ; rw [hf, if_pos rfl], by unfold nE; rw [hf, if_pos rfl], hn, ?_⟩
  · unfold nI; rw [beq_eq_false_iff_ne]; omega
  · unfold nB; rw [beq_eq_false_iff_ne]; omega
theorem odd_facts {fm x : Int} (hx : okF fm x = true) (hf : finB fm x = false) : nZ fm x = 0 ∧ nE fm x = 0 := by
  unfold nZ nE; rw [hf]; exact ⟨rfl, rfl⟩
/-- A float as a number, with why it is none. -/
theorem num_all (fm x : Int) (u : Value) (w : World) (hE : EE u w) (hx : okF fm x = true) (x0 : 0 ≤ x) (x1 : x < 18446744073709551616) (sg inf G : Bool) (L : List Int) (E : Int) (n b : Bool) (h1 : sg = nS fm x) (h2 : inf = nI fm x) (h3 : G = Nm.wn (nZ fm x)) (h4 : L = Nm.wl (nZ fm x)) (h5 : E = nE fm x) (h6 : n = nanB fm x) (h7 : b = nB fm x) :
    Calls Tryz.prog 90 #[.int .i64 fm, .int .u64 x] w fun r w' => ∃ a' c' ev, r = .returned (.tuple #[.agg #[.bool sg, .bool inf, .bool G, .slice a' L.length c', .int .i64 E], ev]) ∧ EK u ev n b ∧ Own w' w.heap.size a' c' L ∧ Below w.heap.size w w' := by
  subst h1 h2 h3 h4 h5 h6 h7
  have hl0 : Nm.wl 0 = [] := Nm.lim_zero
  have hn0 : Nm.wn 0 = false := by decide
  have hnan := nan_ofE hx
  rcases cls_sixE hx with hf | h3 | h4 | h5
  · obtain ⟨e1, e2, e3, e4, e5, e6⟩ := fin_facts hx hf
    rw [e1, e2, e3, e4, e5, e6]
    exact (num_fin fm x w hE.t x0 x1 hf _ _ _ rfl rfl rfl).mono fun r w' ⟨a, c, hr, ho, hb⟩ => ⟨a, c, _, hr, EK.no, ho, hb⟩
  · have hf : finB fm x = false := by unfold finB; rw [h3]; decide
    have hnb : nanB fm x = false := by rw [hnan, h3]; decide
    obtain ⟨z1, z2⟩ := odd_facts hx hf
    have e1 : nS fm x = sigB fm x := by unfold nS; rw [hnb]; rfl
    have e2 : nI fm x = true := by unfold nI; rw [h3]; rfl
    have e3 : nB fm x = false := by unfold nB; rw [h3]; rfl
    rw [z1, z2, hl0, hn0, hnb, e1, e2, e3]
    exact (num_inf fm x w hE.t x0 x1 h3).mono fun r w' ⟨hr, hb⟩ => ⟨none, 0, _, hr, EK.no, Own.nil _ _, hb⟩
  · have hf : finB fm x = false := by unfold finB; rw [h4]; decide
    have hnb : nanB fm x = true := by rw [hnan, h4]; decide
    obtain ⟨z1, z2⟩ := odd_facts hx hf
    have e1 : nS fm x = false := by unfold nS; rw [hnb]; rfl
    have e2 : nI fm x = false := by unfold nI; rw [h4]; rfl
    have e3 : nB fm x = false := by unfold nB; rw [h4]; rfl
    rw [z1, z2, hl0, hn0, hnb, e1, e2, e3]
    exact (num_quiet fm x u w hE.t hE.q x0 x1 h4).mono fun r w' ⟨hr, hb⟩ => ⟨none, 0, _, hr, EK.quiet, Own.nil _ _, hb⟩
  · have hf : finB fm x = false := by unfold finB; rw [h5]; decide
    have hnb : nanB fm x = true := by rw [hnan, h5]; decide
    obtain ⟨z1, z2⟩ := odd_facts hx hf
    have e1 : nS fm x = false := by unfold nS; rw [hnb]; rfl
    have e2 : nI fm x = false := by unfold nI; rw [h5]; rfl
    have e3 : nB fm x = true := by unfold nB; rw [h5]; rfl
    rw [z1, z2, hl0, hn0, hnb, e1, e2, e3]
    exact (num_signal fm x w hE.t x0 x1 h5).mono fun r w' ⟨s, hr, hb⟩ => ⟨none, 0, _, hr, EK.bad s, Own.nil _ _, hb⟩
end Go.Proofs.YtkfjmcdniohljaaGreatDoor
