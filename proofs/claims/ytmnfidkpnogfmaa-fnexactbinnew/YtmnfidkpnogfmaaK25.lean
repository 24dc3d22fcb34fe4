/-
  What is needed of WideY, PMulB, PAddB.
-/
import Derived.Test.YtmnfidkpnogfmaaK22
import Derived.Test.YtmnfidkpnogfmaaK24
set_option maxHeartbeats 16000000
set_option maxRecDepth 1000000
namespace Go.Proofs.Ytmnfidkpnogfmaa
set_option linter.unusedVariables false
set_option linter.unusedSimpArgs false
open Go.RowKit Go.Deep
theorem pw_400 : Nm.pw 400 = Nm.pw 200 * Nm.pw 200 := Nm.pw_add 200 200
theorem mul_short {na nb : Bool} {xs ys : List Int} {x : Int} (hx : x = Nm.wv na xs * Nm.wv nb ys) (dx : Nm.Dg xs) (dy : Nm.Dg ys) (lx : xs.length ≤ 200) (ly : ys.length ≤ 200) : (Nm.wl x).length ≤ 1048576 := by
  have h1 := val_200 dx lx
  have h2 := val_200 dy ly
  have h0 : 0 ≤ Nm.val xs * Nm.val ys := Int.mul_nonneg h1.1 h2.1
  have h3 : Nm.val xs * Nm.val ys ≤ (Nm.pw 200 - 1) * (Nm.pw 200 - 1) := Int.mul_le_mul (by omega) (by omega) h2.1 (by omega)
  have hp := Nm.pw_pos 200
  have h4 : (Nm.pw 200 - 1) * (Nm.pw 200 - 1) < Nm.pw 200 * Nm.pw 200 := by
    rw [Int.sub_mul, Int.mul_sub, Int.mul_sub]; omega
  have : (Nm.wl x).length ≤ 400 := by
    unfold Nm.wl
    rw [Nm.lim_length, hx, pw_400]
    generalize Nm.pw 200 * Nm.pw 200 = q at h4
    generalize (Nm.pw 200 - 1) * (Nm.pw 200 - 1) = r at h3 h4
    unfold Nm.wv
    cases na <;> cases nb <;> simp [Int.neg_mul, Int.mul_neg] <;> omega
  omega
theorem keep4w {w w' : World} {b b' : Nat} {v0 v1 u0 u1 : Value} (h0 : w.cell? ⟨b, 0, none⟩ = some v0) (h1 : w.cell? ⟨b, 1, none⟩ = some v1) (k0 : w.cell? ⟨b', 0, none⟩ = some u0) (k1 : w.cell? ⟨b', 1, none⟩ = some u1) (hb : Below w.heap.size w w') :
    w'.cell? ⟨b, 0, none⟩ = some v0 ∧ w'.cell? ⟨b, 1, none⟩ = some v1 ∧ w'.cell? ⟨b', 0, none⟩ = some u0 ∧ w'.cell? ⟨b', 1, none⟩ = some u1 :=
  ⟨(Box.below ⟨h0, h1⟩ hb).1, (Box.below ⟨h0, h1⟩ hb).2, (Box.below ⟨k0, k1⟩ hb).1, (Box.below ⟨k0, k1⟩ hb).2⟩
theorem keep4_set {w : World} {b b' z : Nat} {v0 v1 u0 u1 : Value} (h0 : w.cell? ⟨b, 0, none⟩ = some v0) (h1 : w.cell? ⟨b, 1, none⟩ = some v1) (k0 : w.cell? ⟨b', 0, none⟩ = some u0) (k1 : w.cell? ⟨b', 1, none⟩ = some u1) (n1 : b ≠ z) (n2 : b' ≠ z) (p q : Value) :
    ((w.setCell ⟨z, 0, none⟩ p).setCell ⟨z, 1, none⟩ q).cell? ⟨b, 0, none⟩ = some v0 ∧ ((w.setCell ⟨z, 0, none⟩ p).setCell ⟨z, 1, none⟩ q).cell? ⟨b, 1, none⟩ = some v1 ∧ ((w.setCell ⟨z, 0, none⟩ p).setCell ⟨z, 1, none⟩ q).cell? ⟨b', 0, none⟩ = some u0 ∧ ((w.setCell ⟨z, 0, none⟩ p).setCell ⟨z, 1, none⟩ q).cell? ⟨b', 1, none⟩ = some u1 :=
  ⟨(keep3_set h0 h1 k1 n1 n2 p q).1, (keep3_set h0 h1 k1 n1 n2 p q).2.1, (keep3_set k0 k1 h1 n2 n1 p q).1, (keep3_set h0 h1 k1 n1 n2 p q).2.2⟩
theorem wmul_impl_no0 (na nb : Bool) (a b : Option Addr) (cap cap' : Nat) (xs ys : List Int) (w : World) (hx : Sl .u32 w (.slice a xs.length cap) xs) (hy : Sl .u32 w (.slice b ys.length cap') ys) (dx : Nm.Dg xs) (dy : Nm.Dg ys) (hl : xs.length ≤ 1048576) (hl' : ys.length ≤ 1048576) (x : Int) (h1 : okB na xs = false) :
    Calls Try.prog 58 #[.agg #[.bool na, .slice a xs.length cap], .agg #[.bool nb, .slice b ys.length cap']] w fun e w' => ∃ a' c', e = .returned (.tuple #[.agg #[.bool (opN (okB na xs && okB nb ys) x), .slice a' (opL (okB na xs && okB nb ys) x).length c'], .bool (opO (okB na xs && okB nb ys) x)]) ∧ Own w' w.heap.size a' c' (opL (okB na xs && okB nb ys) x) ∧ Below w.heap.size w w' := by
  have HK : Hid ((okB na xs && okB nb ys) = false) := hid (by rw [h1]; rfl)
  go_enter Try.func58, Try.ntmps58
  have Bx := ((Box.new w (.bool na) (.slice a xs.length cap) 65).alloc (.cells #[.bool nb, .slice b ys.length cap'] 65)).alloc (.cells #[.bool false, .slice none 0 0] 65)
  have By := (Box.new2 w (.cells #[.bool na, .slice a xs.length cap] 65) (.bool nb) (.slice b ys.length cap') 65).alloc (.cells #[.bool false, .slice none 0 0] 65)
  have Fx := ((R2.new w (.bool na) (.slice a xs.length cap) 65).alloc (.cells #[.bool nb, .slice b ys.length cap'] 65)).alloc (.cells #[.bool false, .slice none 0 0] 65)
  have Fy := (R2.new2 w (.cells #[.bool na, .slice a xs.length cap] 65) (.bool nb) (.slice b ys.length cap') 65).alloc (.cells #[.bool false, .slice none 0 0] 65)
  have Rz : R2 (((w.alloc (.cells #[.bool na, .slice a xs.length cap] 65)).alloc (.cells #[.bool nb, .slice b ys.length cap'] 65)).alloc (.cells #[.bool false, .slice none 0 0] 65)) (w.heap.size + 1 + 1) (.bool false) (.slice none 0 0) := by simpa using R2.new2 (w.alloc (.cells #[.bool na, .slice a xs.length cap] 65)) (.cells #[.bool nb, .slice b ys.length cap'] 65) (.bool false) (.slice none 0 0) 65
  have sx := ((hx.alloc (.cells #[.bool na, .slice a xs.length cap] 65)).alloc (.cells #[.bool nb, .slice b ys.length cap'] 65)).alloc (.cells #[.bool false, .slice none 0 0] 65)
  have sy := ((hy.alloc (.cells #[.bool na, .slice a xs.length cap] 65)).alloc (.cells #[.bool nb, .slice b ys.length cap'] 65)).alloc (.cells #[.bool false, .slice none 0 0] 65)
  have hbW : Below w.heap.size w (((w.alloc (.cells #[.bool na, .slice a xs.length cap] 65)).alloc (.cells #[.bool nb, .slice b ys.length cap'] 65)).alloc (.cells #[.bool false, .slice none 0 0] 65)) := (by repeat (first | exact bz0 _ _ | refine bz1 ?_ | refine bz2 ?_ _ | refine bz3 ?_ _ | refine bz5 ?_ _ | refine bz6 ?_ _))
  go_wp2_with fail
  refine (ok_impl na a cap xs _ sx (by omega)).mono ?_
  rintro e W ⟨rfl, hb1⟩
  replace Bx := Bx.below hb1
  replace By := By.below hb1
  replace Fx := Fx.below hb1
  replace Fy := Fy.below hb1
  replace Rz := Rz.below hb1
  replace sx := sx.below hb1
  replace sy := sy.below hb1
  replace hbW := bel_go hbW hb1
  obtain ⟨z0, z1, zf0, zf1⟩ := Rz
  go_wp2
  refine bodyPost_ret (v := .tuple #[.agg #[.bool false, .slice none 0 0], .bool false]) (by simp [results, Try.results58, go_sem, z0, z1]) rfl ⟨none, 0, ?_, ?_, ?_⟩
  · rw [HK.out, (op_no x).1, (op_no x).2.1, (op_no x).2.2]; rfl
  · rw [HK.out, (op_no x).1]; exact Own.nil _ _
  · exact (hbW.setCell (by simp; omega) _).setCell (by simp; omega) _
theorem wmul_impl_no1 (na nb : Bool) (a b : Option Addr) (cap cap' : Nat) (xs ys : List Int) (w : World) (hx : Sl .u32 w (.slice a xs.length cap) xs) (hy : Sl .u32 w (.slice b ys.length cap') ys) (dx : Nm.Dg xs) (dy : Nm.Dg ys) (hl : xs.length ≤ 1048576) (hl' : ys.length ≤ 1048576) (x : Int) (h1 : okB na xs = true) (h2 : okB nb ys = false) :
    Calls Try.prog 58 #[.agg #[.bool na, .slice a xs.length cap], .agg #[.bool nb, .slice b ys.length cap']] w fun e w' => ∃ a' c', e = .returned (.tuple #[.agg #[.bool (opN (okB na xs && okB nb ys) x), .slice a' (opL (okB na xs && okB nb ys) x).length c'], .bool (opO (okB na xs && okB nb ys) x)]) ∧ Own w' w.heap.size a' c' (opL (okB na xs && okB nb ys) x) ∧ Below w.heap.size w w' := by
  have HK : Hid ((okB na xs && okB nb ys) = false) := hid (by rw [h1, h2]; rfl)
  go_enter Try.func58, Try.ntmps58
  have Bx := ((Box.new w (.bool na) (.slice a xs.length cap) 65).alloc (.cells #[.bool nb, .slice b ys.length cap'] 65)).alloc (.cells #[.bool false, .slice none 0 0] 65)
  have By := (Box.new2 w (.cells #[.bool na, .slice a xs.length cap] 65) (.bool nb) (.slice b ys.length cap') 65).alloc (.cells #[.bool false, .slice none 0 0] 65)
  have Fx := ((R2.new w (.bool na) (.slice a xs.length cap) 65).alloc (.cells #[.bool nb, .slice b ys.length cap'] 65)).alloc (.cells #[.bool false, .slice none 0 0] 65)
  have Fy := (R2.new2 w (.cells #[.bool na, .slice a xs.length cap] 65) (.bool nb) (.slice b ys.length cap') 65).alloc (.cells #[.bool false, .slice none 0 0] 65)
  have Rz : R2 (((w.alloc (.cells #[.bool na, .slice a xs.length cap] 65)).alloc (.cells #[.bool nb, .slice b ys.length cap'] 65)).alloc (.cells #[.bool false, .slice none 0 0] 65)) (w.heap.size + 1 + 1) (.bool false) (.slice none 0 0) := by simpa using R2.new2 (w.alloc (.cells #[.bool na, .slice a xs.length cap] 65)) (.cells #[.bool nb, .slice b ys.length cap'] 65) (.bool false) (.slice none 0 0) 65
  have sx := ((hx.alloc (.cells #[.bool na, .slice a xs.length cap] 65)).alloc (.cells #[.bool nb, .slice b ys.length cap'] 65)).alloc (.cells #[.bool false, .slice none 0 0] 65)
  have sy := ((hy.alloc (.cells #[.bool na, .slice a xs.length cap] 65)).alloc (.cells #[.bool nb, .slice b ys.length cap'] 65)).alloc (.cells #[.bool false, .slice none 0 0] 65)
  have hbW : Below w.heap.size w (((w.alloc (.cells #[.bool na, .slice a xs.length cap] 65)).alloc (.cells #[.bool nb, .slice b ys.length cap'] 65)).alloc (.cells #[.bool false, .slice none 0 0] 65)) := (by repeat (first | exact bz0 _ _ | refine bz1 ?_ | refine bz2 ?_ _ | refine bz3 ?_ _ | refine bz5 ?_ _ | refine bz6 ?_ _))
  go_wp2_with fail
  refine (ok_impl na a cap xs _ sx (by omega)).mono ?_
  rintro e W ⟨rfl, hb1⟩
  replace Bx := Bx.below hb1
  replace By := By.below hb1
  replace Fx := Fx.below hb1
  replace Fy := Fy.below hb1
  replace Rz := Rz.below hb1
  replace sx := sx.below hb1
  replace sy := sy.below hb1
  replace hbW := bel_go hbW hb1
  obtain ⟨y0, y1⟩ := By
  go_wp2_with fail
  refine (ok_impl nb b cap' ys _ sy (by omega)).mono ?_
  rintro e W2 ⟨rfl, hb2⟩
  replace Rz := Rz.below hb2
  replace hbW := bel_go hbW hb2
  obtain ⟨z0, z1, zf0, zf1⟩ := Rz
  go_wp2
  refine bodyPost_ret (v := .tuple #[.agg #[.bool false, .slice none 0 0], .bool false]) (by simp [results, Try.results58, go_sem, z0, z1]) rfl ⟨none, 0, ?_, ?_, ?_⟩
  · rw [HK.out, (op_no x).1, (op_no x).2.1, (op_no x).2.2]; rfl
  · rw [HK.out, (op_no x).1]; exact Own.nil _ _
  · exact (hbW.setCell (by simp; omega) _).setCell (by simp; omega) _
theorem wmul_impl_ok (na nb : Bool) (a b : Option Addr) (cap cap' : Nat) (xs ys : List Int) (w : World) (hx : Sl .u32 w (.slice a xs.length cap) xs) (hy : Sl .u32 w (.slice b ys.length cap') ys) (dx : Nm.Dg xs) (dy : Nm.Dg ys) (hl : xs.length ≤ 1048576) (hl' : ys.length ≤ 1048576) (x : Int) (hxv : x = Nm.wv na xs * Nm.wv nb ys) (h1 : okB na xs = true) (h2 : okB nb ys = true) :
    Calls Try.prog 58 #[.agg #[.bool na, .slice a xs.length cap], .agg #[.bool nb, .slice b ys.length cap']] w fun e w' => ∃ a' c', e = .returned (.tuple #[.agg #[.bool (opN (okB na xs && okB nb ys) x), .slice a' (opL (okB na xs && okB nb ys) x).length c'], .bool (opO (okB na xs && okB nb ys) x)]) ∧ Own w' w.heap.size a' c' (opL (okB na xs && okB nb ys) x) ∧ Below w.heap.size w w' := by
  have HX : Hid (∀ os, Nm.val os = Nm.val xs * Nm.val ys → x = Nm.wv (na != nb) os) := hid (fun os h => by rw [hxv]; exact Nm.wv_mul h)
  clear hxv
  have HK : Hid ((okB na xs && okB nb ys) = true) := hid (by rw [h1, h2]; rfl)
  obtain ⟨nx, lx⟩ := okB_nz h1
  obtain ⟨ny, ly⟩ := okB_nz h2
  go_enter Try.func58, Try.ntmps58
  have Bx := ((Box.new w (.bool na) (.slice a xs.length cap) 65).alloc (.cells #[.bool nb, .slice b ys.length cap'] 65)).alloc (.cells #[.bool false, .slice none 0 0] 65)
  have By := (Box.new2 w (.cells #[.bool na, .slice a xs.length cap] 65) (.bool nb) (.slice b ys.length cap') 65).alloc (.cells #[.bool false, .slice none 0 0] 65)
  have Fx := ((R2.new w (.bool na) (.slice a xs.length cap) 65).alloc (.cells #[.bool nb, .slice b ys.length cap'] 65)).alloc (.cells #[.bool false, .slice none 0 0] 65)
  have Fy := (R2.new2 w (.cells #[.bool na, .slice a xs.length cap] 65) (.bool nb) (.slice b ys.length cap') 65).alloc (.cells #[.bool false, .slice none 0 0] 65)
  have Rz : R2 (((w.alloc (.cells #[.bool na, .slice a xs.length cap] 65)).alloc (.cells #[.bool nb, .slice b ys.length cap'] 65)).alloc (.cells #[.bool false, .slice none 0 0] 65)) (w.heap.size + 1 + 1) (.bool false) (.slice none 0 0) := by simpa using R2.new2 (w.alloc (.cells #[.bool na, .slice a xs.length cap] 65)) (.cells #[.bool nb, .slice b ys.length cap'] 65) (.bool false) (.slice none 0 0) 65
  have sx := ((hx.alloc (.cells #[.bool na, .slice a xs.length cap] 65)).alloc (.cells #[.bool nb, .slice b ys.length cap'] 65)).alloc (.cells #[.bool false, .slice none 0 0] 65)
  have sy := ((hy.alloc (.cells #[.bool na, .slice a xs.length cap] 65)).alloc (.cells #[.bool nb, .slice b ys.length cap'] 65)).alloc (.cells #[.bool false, .slice none 0 0] 65)
  have hbW : Below w.heap.size w (((w.alloc (.cells #[.bool na, .slice a xs.length cap] 65)).alloc (.cells #[.bool nb, .slice b ys.length cap'] 65)).alloc (.cells #[.bool false, .slice none 0 0] 65)) := (by repeat (first | exact bz0 _ _ | refine bz1 ?_ | refine bz2 ?_ _ | refine bz3 ?_ _ | refine bz5 ?_ _ | refine bz6 ?_ _))
  go_wp2_with fail
  refine (ok_impl na a cap xs _ sx (by omega)).mono ?_
  rintro e W1 ⟨rfl, hb1⟩
  replace Bx := Bx.below hb1
  replace By := By.below hb1
  replace Fx := Fx.below hb1
  replace Fy := Fy.below hb1
  replace Rz := Rz.below hb1
  replace sx := sx.below hb1
  replace sy := sy.below hb1
  replace hbW := bel_go hbW hb1
  obtain ⟨y0, y1⟩ := By
  go_wp2_with fail
  refine (ok_impl nb b cap' ys _ sy (by omega)).mono ?_
  rintro e W ⟨rfl, hb2⟩
  have By : Box W1 (w.heap.size + 1) (.bool nb) (.slice b ys.length cap') := ⟨y0, y1⟩
  replace Bx := Bx.below hb2
  replace By := By.below hb2
  replace Fx := Fx.below hb2
  replace Fy := Fy.below hb2
  replace Rz := Rz.below hb2
  replace sx := sx.below hb2
  replace sy := sy.below hb2
  replace hbW := bel_go hbW hb2
  have lW : w.heap.size + 1 + 1 < W.heap.size := World.block_lt_of_cell? W _ Rz.c0
  clear y0 y1 hb1 hb2
  go_wp2_with fail
  go_region_held3 (fun w' => w'.cell? ⟨w.heap.size, 0, none⟩ = some (.bool na) ∧ w'.cell? ⟨w.heap.size, 1, none⟩ = some (.slice a xs.length cap) ∧ w'.cell? ⟨w.heap.size + 1, 0, none⟩ = some (.bool nb) ∧ w'.cell? ⟨w.heap.size + 1, 1, none⟩ = some (.slice b ys.length cap')) (first | assumption | (refine keep4_set k3.1 k3.2.1 k3.2.2.1 k3.2.2.2 ?_ ?_ _ _ <;> omega) | exact ⟨Bx.1, Bx.2, By.1, By.2⟩)
    (first
      | (go_at_call 115; refine (mulLimbs_any a b cap cap' xs ys _ (by exact sx.drew) (by exact sy.drew) dx dy (by omega) (by omega)).mono ?_; rintro e w2 ⟨a2, c2, os, rfl, ho2, dos, hv, hlo, hb2⟩; have k2 := keep4w (w := W.drew) Bx.1 Bx.2 By.1 By.2 hb2; have Rz2 := Rz.drew.below hb2)
      | (go_at_call 101; refine (fitted_v (na != nb) a2 c2 os W.heap.size _ (by exact ho2) dos hlo x (HX.out os hv)).mono ?_; rintro e w3 ⟨a3, c3, rfl, ho3, hb3⟩; have k3 := keep4w k2.1 k2.2.1 k2.2.2.1 k2.2.2.2 hb3; have Rz3 := Rz2.below hb3; obtain ⟨z0, z1, zf0, zf1⟩ := Rz3))
  have l2 : W.heap.size ≤ w2.heap.size := hb2.size
  have l3 : w2.heap.size ≤ w3.heap.size := hb3.size
  go_wp2
  obtain ⟨e1, e2, e3⟩ := op_yes x
  refine bodyPost_ret (v := .tuple #[.agg #[.bool (Nm.outN x), .slice a3 (Nm.outL x).length c3], .bool (Nm.fits x)]) (by simp [results, Try.results58, go_sem, z0, z1]) rfl ⟨a3, c3, ?_, ?_, ?_⟩
  · rw [HK.out, e1, e2, e3]
  · rw [HK.out, e1]
    exact Own.base ((ho3.setBelow (by simp; omega) _).setBelow (by simp; omega) _) (by omega)
  · exact ((bel_go (bel_go (Below.drew hbW) hb2) hb3).setCell (by simp; omega) _).setCell (by simp; omega) _
theorem wmul_impl (na nb : Bool) (a b : Option Addr) (cap cap' : Nat) (xs ys : List Int) (w : World) (hx : Sl .u32 w (.slice a xs.length cap) xs) (hy : Sl .u32 w (.slice b ys.length cap') ys) (dx : Nm.Dg xs) (dy : Nm.Dg ys) (hl : xs.length ≤ 1048576) (hl' : ys.length ≤ 1048576) (x : Int) (hxv : x = Nm.wv na xs * Nm.wv nb ys) :
    Calls Try.prog 58 #[.agg #[.bool na, .slice a xs.length cap], .agg #[.bool nb, .slice b ys.length cap']] w fun e w' => ∃ a' c', e = .returned (.tuple #[.agg #[.bool (opN (okB na xs && okB nb ys) x), .slice a' (opL (okB na xs && okB nb ys) x).length c'], .bool (opO (okB na xs && okB nb ys) x)]) ∧ Own w' w.heap.size a' c' (opL (okB na xs && okB nb ys) x) ∧ Below w.heap.size w w' := by
  cases h1 : okB na xs
  · have := wmul_impl_no0 na nb a b cap cap' xs ys w hx hy dx dy hl hl' x h1
    rwa [h1] at this
  · cases h2 : okB nb ys
    · have := wmul_impl_no1 na nb a b cap cap' xs ys w hx hy dx dy hl hl' x h1 h2
      rwa [h1, h2] at this
    · have := wmul_impl_ok na nb a b cap cap' xs ys w hx hy dx dy hl hl' x hxv h1 h2
      rwa [h1, h2] at this
theorem opO_yes {ok : Bool} {x : Int} (h : opO ok x = true) : ok = true ∧ opL ok x = Nm.wl x ∧ opN ok x = Nm.wn x := by
  unfold opO at h
  cases ok
  · simp at h
  · have hf : Nm.fits x = true := by simpa using h
    obtain ⟨h1, h2⟩ := out_fits hf
    exact ⟨rfl, h1, h2⟩
theorem opO_wv {ok : Bool} {x : Int} (h : opO ok x = true) : Nm.wv (opN ok x) (opL ok x) = x := by
  obtain ⟨_, h1, h2⟩ := opO_yes h
  rw [h1, h2, Nm.wv_out]
theorem short_2000 {L : List Int} (h : L.length ≤ 2000) : L.length ≤ 1048576 := by omega
theorem law_all (na nb : Bool) (xs ys : List Int) (lx : xs.length ≤ 2000) (ly : ys.length ≤ 2000) (dx : Nm.Dg xs) (dy : Nm.Dg ys) :
    opO (okB na xs && okB nb ys) (Nm.wv na xs * Nm.wv nb ys) = true →
    opO (okB nb ys && okB (Nm.wn 1) (Nm.wl 1)) (Nm.wv nb ys + Nm.wv (Nm.wn 1) (Nm.wl 1)) = true →
    ∀ (Gc : Bool) (Lc : List Int), Gc = opN (okB nb ys && okB (Nm.wn 1) (Nm.wl 1)) (Nm.wv nb ys + Nm.wv (Nm.wn 1) (Nm.wl 1)) → Lc = opL (okB nb ys && okB (Nm.wn 1) (Nm.wl 1)) (Nm.wv nb ys + Nm.wv (Nm.wn 1) (Nm.wl 1)) →
    ∀ (G : Bool) (L : List Int), G = opN (okB na xs && okB nb ys) (Nm.wv na xs * Nm.wv nb ys) → L = opL (okB na xs && okB nb ys) (Nm.wv na xs * Nm.wv nb ys) →
    opO (okB na xs && okB Gc Lc) (Nm.wv na xs * Nm.wv Gc Lc) = true →
    opO (okB G L && okB na xs) (Nm.wv G L + Nm.wv na xs) = true →
    opN (okB na xs && okB Gc Lc) (Nm.wv na xs * Nm.wv Gc Lc) = opN (okB G L && okB na xs) (Nm.wv G L + Nm.wv na xs) ∧ opL (okB na xs && okB Gc Lc) (Nm.wv na xs * Nm.wv Gc Lc) = opL (okB G L && okB na xs) (Nm.wv G L + Nm.wv na xs) := by
  intro h1 h2 Gc Lc hGc hLc G L hG hL h3 h4
  obtain ⟨_, r1, r2⟩ := opO_yes h3
  obtain ⟨_, s1, s2⟩ := opO_yes h4
  have e1 : Nm.wv Gc Lc = Nm.wv nb ys + 1 := by rw [hGc, hLc, opO_wv h2, Nm.wv_out]
  have e2 : Nm.wv G L = Nm.wv na xs * Nm.wv nb ys := by rw [hG, hL, opO_wv h1]
  rw [r1, r2, s1, s2, e1, e2]
  have e3 : Nm.wv na xs * (Nm.wv nb ys + 1) = Nm.wv na xs * Nm.wv nb ys + Nm.wv na xs := by rw [Int.mul_add, Int.mul_one]
  rw [e3]
  exact ⟨rfl, rfl⟩
namespace PAdd
theorem opO_yes {ok : Bool} {x : Int} (h : opO ok x = true) : ok = true ∧ Nm.fits x = true ∧ opL ok x = Nm.wl x ∧ opN ok x = Nm.wn x := by
  unfold opO at h
  cases ok
  · simp at h
  · have hf : Nm.fits x = true := by simpa using h
    obtain ⟨h1, h2⟩ := out_fits hf
    exact ⟨rfl, hf, h1, h2⟩
/-- A right wide is the wide of its value. -/
theorem ok_is {ng : Bool} {zs : List Int} (hd : Nm.Dg zs) (h : okB ng zs = true) : Nm.wn (Nm.wv ng zs) = ng ∧ Nm.wl (Nm.wv ng zs) = zs := by
  obtain ⟨h1, h2⟩ := okB_nz h
  rw [Nm.wn_wv ng hd, Nm.wl_wv ng hd, Nm.trim_eq hd h1]
  refine ⟨?_, rfl⟩
  by_cases h0 : zs.length = 0
  · unfold okB at h
    rw [if_pos h0] at h
    rw [decide_eq_true h0]
    cases ng <;> simp at h ⊢
  · rw [decide_eq_false h0]; simp
/-- What fits is a right wide. -/
theorem ok_out {x : Int} (h : Nm.fits x = true) : okB (Nm.wn x) (Nm.wl x) = true := by
  have hl : (Nm.wl x).length ≤ 200 := by simpa [Nm.fits] using h
  unfold okB
  split
  · rename_i h0
    have hx : x.natAbs = 0 := (Nm.lim_length_zero _).1 h0
    have : x = 0 := by omega
    subst this; decide
  · rename_i h0
    have hz := Nm.wl_nz x
    simp only [decide_eq_true hl, Bool.true_and, Bool.not_eq_true', decide_eq_false_iff_not]
    intro e
    have hlt : (Nm.wl x).length - 1 < (Nm.wl x).length := by omega
    refine hz ((Nm.wl x).getD ((Nm.wl x).length - 1) 0) ?_ e
    rw [List.getLast?_eq_getElem?, List.getD_eq_getElem?_getD, List.getElem?_eq_getElem hlt]; rfl
theorem wv_not (ng : Bool) (zs : List Int) : Nm.wv (!ng) zs = - Nm.wv ng zs := by unfold Nm.wv; cases ng <;> simp
/-- 0 less a right wide. -/
theorem neg_is {ng : Bool} {zs : List Int} (hd : Nm.Dg zs) (h : okB ng zs = true) : negN ng zs = Nm.wn (- Nm.wv ng zs) ∧ negL ng zs = Nm.wl (- Nm.wv ng zs) ∧ Nm.fits (- Nm.wv ng zs) = true := by
  have hf := ok_fits hd h (!ng)
  rw [wv_not] at hf
  unfold negN negL
  rw [h, wv_not]
  exact ⟨rfl, rfl, hf⟩
theorem fin (na nb : Bool) (xs ys : List Int) (dx : Nm.Dg xs) (dy : Nm.Dg ys) (hO : opO (okB na xs && okB nb ys) (Nm.wv na xs + Nm.wv nb ys) = true) :
    ∀ (G : Bool) (L : List Int), G = opN (okB na xs && okB nb ys) (Nm.wv na xs + Nm.wv nb ys) → L = opL (okB na xs && okB nb ys) (Nm.wv na xs + Nm.wv nb ys) →
    opO (okB G L && okB (negN nb ys) (negL nb ys)) (Nm.wv G L + Nm.wv (negN nb ys) (negL nb ys)) = true ∧ opN (okB G L && okB (negN nb ys) (negL nb ys)) (Nm.wv G L + Nm.wv (negN nb ys) (negL nb ys)) = na ∧ opL (okB G L && okB (negN nb ys) (negL nb ys)) (Nm.wv G L + Nm.wv (negN nb ys) (negL nb ys)) = xs ∧ okB G L = true ∧ negN (negN na xs) (negL na xs) = na ∧ negL (negN na xs) (negL na xs) = xs := by
  intro G L hG hL
  obtain ⟨hk, hf, h1, h2⟩ := opO_yes hO
  have ka : okB na xs = true := by cases h : okB na xs <;> simp_all
  have kb : okB nb ys = true := by rw [ka] at hk; simpa using hk
  rw [h2] at hG
  rw [h1] at hL
  subst hG hL
  have hok := ok_out hf
  obtain ⟨n1, n2, n3⟩ := neg_is dy kb
  obtain ⟨m1, m2, m3⟩ := neg_is dx ka
  obtain ⟨i1, i2⟩ := ok_is dx ka
  have hokn := ok_out n3
  have fx := ok_fits dx ka na
  rw [n1, n2, Nm.wv_out, Nm.wv_out, hok, hokn, show Nm.wv na xs + Nm.wv nb ys + -Nm.wv nb ys = Nm.wv na xs by omega]
  have ho : (true && true) = true := rfl
  obtain ⟨o1, o2⟩ := out_fits fx
  refine ⟨by unfold opO; rw [fx]; rfl, ?_, ?_, rfl, ?_, ?_⟩
  · show Nm.outN _ = _; rw [o2, i1]
  · show Nm.outL _ = _; rw [o1, i2]
  · rw [m1, m2]
    obtain ⟨q1, q2, _⟩ := neg_is (ng := Nm.wn (-Nm.wv na xs)) (zs := Nm.wl (-Nm.wv na xs)) (Nm.wl_dg _) (ok_out m3)
    rw [q1, Nm.wv_out, Int.neg_neg, i1]
  · rw [m1, m2]
    obtain ⟨q1, q2, _⟩ := neg_is (ng := Nm.wn (-Nm.wv na xs)) (zs := Nm.wl (-Nm.wv na xs)) (Nm.wl_dg _) (ok_out m3)
    rw [q2, Nm.wv_out, Int.neg_neg, i2]
theorem short_2000 {L : List Int} (h : L.length ≤ 2000) : L.length ≤ 1048576 := by omega
end PAdd
end Go.Proofs.Ytmnfidkpnogfmaa
