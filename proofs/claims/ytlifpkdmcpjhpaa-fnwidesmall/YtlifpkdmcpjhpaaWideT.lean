/-
  Sums of wides: the specification's whole function.
-/
import Derived.Test.YtlifpkdmcpjhpaaWideS
import Derived.Test.YtlifpkdmcpjhpaaWideK
namespace Go.Proofs.Ytlifpkdmcpjhpaa
set_option linter.unusedVariables false
set_option linter.unusedSimpArgs false
open Go.RowKit Go.Deep
/-- What is answered where the arguments may not be right: x, or nothing. -/
def opL (ok : Bool) (x : Int) : List Int := if ok then Nm.outL x else []
def opN (ok : Bool) (x : Int) : Bool := ok && Nm.outN x
def opO (ok : Bool) (x : Int) : Bool := ok && Nm.fits x
theorem op_200 (ok : Bool) (x : Int) : (opL ok x).length ≤ 200 ∧ Nm.Dg (opL ok x) := by
  unfold opL; split
  · exact ⟨Nm.outL_length x, Nm.outL_dg x⟩
  · exact ⟨by simp, Nm.Dg.nil⟩
theorem op_no (x : Int) : opL false x = [] ∧ opN false x = false ∧ opO false x = false := ⟨rfl, rfl, rfl⟩
theorem op_yes (x : Int) : opL true x = Nm.outL x ∧ opN true x = Nm.outN x ∧ opO true x = Nm.fits x := ⟨rfl, rfl, rfl⟩
theorem val_200 {zs : List Int} (d : Nm.Dg zs) (h : zs.length ≤ 200) : 0 ≤ Nm.val zs ∧ Nm.val zs < Nm.pw 200 := by
  have h1 := Nm.val_lt d
  have h2 := Nm.pw_mono h
  have h3 := Nm.val_nonneg d
  exact ⟨h3, by omega⟩
theorem sum_short {na nb : Bool} {xs ys : List Int} {x : Int} (hx : x = Nm.wv na xs + Nm.wv nb ys) (dx : Nm.Dg xs) (dy : Nm.Dg ys) (lx : xs.length ≤ 200) (ly : ys.length ≤ 200) : (Nm.wl x).length ≤ 1048576 := by
  have h1 := val_200 dx lx
  have h2 := val_200 dy ly
  have h3 : Nm.pw 201 = 4294967296 * Nm.pw 200 := rfl
  have : (Nm.wl x).length ≤ 201 := by
    unfold Nm.wl
    rw [Nm.lim_length, hx]
    unfold Nm.wv
    cases na <;> cases nb <;> simp <;> omega
  omega
set_option maxHeartbeats 1000000 in
theorem wadd_spec_no0 (na nb : Bool) (a b : Option Addr) (cap cap' : Nat) (xs ys : List Int) (w : World) (hx : Sl .u32 w (.slice a xs.length cap) xs) (hy : Sl .u32 w (.slice b ys.length cap') ys) (dx : Nm.Dg xs) (dy : Nm.Dg ys) (hl : xs.length ≤ 1048576) (hl' : ys.length ≤ 1048576) (x : Int) (h1 : okB na xs = false) :
    Calls Try.prog 23 #[.agg #[.bool na, .slice a xs.length cap], .agg #[.bool nb, .slice b ys.length cap']] w fun e w' => ∃ a' c', e = .returned (.tuple #[.agg #[.bool (opN (okB na xs && okB nb ys) x), .slice a' (opL (okB na xs && okB nb ys) x).length c'], .bool (opO (okB na xs && okB nb ys) x)]) ∧ Own w' w.heap.size a' c' (opL (okB na xs && okB nb ys) x) ∧ Below w.heap.size w w' := by
  have HK : Hid ((okB na xs && okB nb ys) = false) := hid (by rw [h1]; rfl)
  go_enter Try.func23, Try.ntmps23
  have Bx := ((Box.new w (.bool na) (.slice a xs.length cap) 26).alloc (.cells #[.bool nb, .slice b ys.length cap'] 26)).alloc (.cells #[.bool false, .slice none 0 0] 26)
  have By := (Box.new2 w (.cells #[.bool na, .slice a xs.length cap] 26) (.bool nb) (.slice b ys.length cap') 26).alloc (.cells #[.bool false, .slice none 0 0] 26)
  have Rz : R2 (((w.alloc (.cells #[.bool na, .slice a xs.length cap] 26)).alloc (.cells #[.bool nb, .slice b ys.length cap'] 26)).alloc (.cells #[.bool false, .slice none 0 0] 26)) (w.heap.size + 1 + 1) (.bool false) (.slice none 0 0) := by simpa using R2.new2 (w.alloc (.cells #[.bool na, .slice a xs.length cap] 26)) (.cells #[.bool nb, .slice b ys.length cap'] 26) (.bool false) (.slice none 0 0) 26
  have sx := ((hx.alloc (.cells #[.bool na, .slice a xs.length cap] 26)).alloc (.cells #[.bool nb, .slice b ys.length cap'] 26)).alloc (.cells #[.bool false, .slice none 0 0] 26)
  have sy := ((hy.alloc (.cells #[.bool na, .slice a xs.length cap] 26)).alloc (.cells #[.bool nb, .slice b ys.length cap'] 26)).alloc (.cells #[.bool false, .slice none 0 0] 26)
  have hbW : Below w.heap.size w (((w.alloc (.cells #[.bool na, .slice a xs.length cap] 26)).alloc (.cells #[.bool nb, .slice b ys.length cap'] 26)).alloc (.cells #[.bool false, .slice none 0 0] 26)) := (by repeat (first | exact Below.refl _ _ | refine Below.drew ?_ | refine bel_dn ?_ _ | refine bel_al ?_ _ | refine Below.setCell ?_ (by first | omega | (simp; done) | (simp; omega)) _ | refine Below.alloc ?_ (by first | omega | (simp; done) | (simp; omega)) _))
  go_wp2_with fail
  refine (ok_spec na a cap xs _ sx (by omega)).mono ?_
  rintro e W ⟨rfl, hb1⟩
  replace Bx := Bx.below hb1
  replace By := By.below hb1
  replace Rz := Rz.below hb1
  replace sx := sx.below hb1
  replace sy := sy.below hb1
  replace hbW := bel_go hbW hb1
  obtain ⟨z0, z1, zf0, zf1⟩ := Rz
  go_wp2
  refine bodyPost_ret (v := .tuple #[.agg #[.bool false, .slice none 0 0], .bool false]) (by simp [results, Try.results23, go_sem, z0, z1]) rfl ⟨none, 0, ?_, ?_, ?_⟩
  · rw [HK.out, (op_no x).1, (op_no x).2.1, (op_no x).2.2]; rfl
  · rw [HK.out, (op_no x).1]; exact Own.nil _ _
  · exact (hbW.setCell (by simp; omega) _).setCell (by simp; omega) _
set_option maxHeartbeats 1000000 in
theorem wadd_spec_no1 (na nb : Bool) (a b : Option Addr) (cap cap' : Nat) (xs ys : List Int) (w : World) (hx : Sl .u32 w (.slice a xs.length cap) xs) (hy : Sl .u32 w (.slice b ys.length cap') ys) (dx : Nm.Dg xs) (dy : Nm.Dg ys) (hl : xs.length ≤ 1048576) (hl' : ys.length ≤ 1048576) (x : Int) (h1 : okB na xs = true) (h2 : okB nb ys = false) :
    Calls Try.prog 23 #[.agg #[.bool na, .slice a xs.length cap], .agg #[.bool nb, .slice b ys.length cap']] w fun e w' => ∃ a' c', e = .returned (.tuple #[.agg #[.bool (opN (okB na xs && okB nb ys) x), .slice a' (opL (okB na xs && okB nb ys) x).length c'], .bool (opO (okB na xs && okB nb ys) x)]) ∧ Own w' w.heap.size a' c' (opL (okB na xs && okB nb ys) x) ∧ Below w.heap.size w w' := by
  have HK : Hid ((okB na xs && okB nb ys) = false) := hid (by rw [h1, h2]; rfl)
  go_enter Try.func23, Try.ntmps23
  have Bx := ((Box.new w (.bool na) (.slice a xs.length cap) 26).alloc (.cells #[.bool nb, .slice b ys.length cap'] 26)).alloc (.cells #[.bool false, .slice none 0 0] 26)
  have By := (Box.new2 w (.cells #[.bool na, .slice a xs.length cap] 26) (.bool nb) (.slice b ys.length cap') 26).alloc (.cells #[.bool false, .slice none 0 0] 26)
  have Rz : R2 (((w.alloc (.cells #[.bool na, .slice a xs.length cap] 26)).alloc (.cells #[.bool nb, .slice b ys.length cap'] 26)).alloc (.cells #[.bool false, .slice none 0 0] 26)) (w.heap.size + 1 + 1) (.bool false) (.slice none 0 0) := by simpa using R2.new2 (w.alloc (.cells #[.bool na, .slice a xs.length cap] 26)) (.cells #[.bool nb, .slice b ys.length cap'] 26) (.bool false) (.slice none 0 0) 26
  have sx := ((hx.alloc (.cells #[.bool na, .slice a xs.length cap] 26)).alloc (.cells #[.bool nb, .slice b ys.length cap'] 26)).alloc (.cells #[.bool false, .slice none 0 0] 26)
  have sy := ((hy.alloc (.cells #[.bool na, .slice a xs.length cap] 26)).alloc (.cells #[.bool nb, .slice b ys.length cap'] 26)).alloc (.cells #[.bool false, .slice none 0 0] 26)
  have hbW : Below w.heap.size w (((w.alloc (.cells #[.bool na, .slice a xs.length cap] 26)).alloc (.cells #[.bool nb, .slice b ys.length cap'] 26)).alloc (.cells #[.bool false, .slice none 0 0] 26)) := (by repeat (first | exact Below.refl _ _ | refine Below.drew ?_ | refine bel_dn ?_ _ | refine bel_al ?_ _ | refine Below.setCell ?_ (by first | omega | (simp; done) | (simp; omega)) _ | refine Below.alloc ?_ (by first | omega | (simp; done) | (simp; omega)) _))
  go_wp2_with fail
  refine (ok_spec na a cap xs _ sx (by omega)).mono ?_
  rintro e W ⟨rfl, hb1⟩
  replace Bx := Bx.below hb1
  replace By := By.below hb1
  replace Rz := Rz.below hb1
  replace sx := sx.below hb1
  replace sy := sy.below hb1
  replace hbW := bel_go hbW hb1
  obtain ⟨y0, y1⟩ := By
  go_wp2_with fail
  refine (ok_spec nb b cap' ys _ sy (by omega)).mono ?_
  rintro e W2 ⟨rfl, hb2⟩
  replace Rz := Rz.below hb2
  replace hbW := bel_go hbW hb2
  obtain ⟨z0, z1, zf0, zf1⟩ := Rz
  go_wp2
  refine bodyPost_ret (v := .tuple #[.agg #[.bool false, .slice none 0 0], .bool false]) (by simp [results, Try.results23, go_sem, z0, z1]) rfl ⟨none, 0, ?_, ?_, ?_⟩
  · rw [HK.out, (op_no x).1, (op_no x).2.1, (op_no x).2.2]; rfl
  · rw [HK.out, (op_no x).1]; exact Own.nil _ _
  · exact (hbW.setCell (by simp; omega) _).setCell (by simp; omega) _
set_option maxHeartbeats 1000000 in
theorem wadd_spec_ok (na nb : Bool) (a b : Option Addr) (cap cap' : Nat) (xs ys : List Int) (w : World) (hx : Sl .u32 w (.slice a xs.length cap) xs) (hy : Sl .u32 w (.slice b ys.length cap') ys) (dx : Nm.Dg xs) (dy : Nm.Dg ys) (hl : xs.length ≤ 1048576) (hl' : ys.length ≤ 1048576) (x : Int) (hxv : x = Nm.wv na xs + Nm.wv nb ys) (h1 : okB na xs = true) (h2 : okB nb ys = true) :
    Calls Try.prog 23 #[.agg #[.bool na, .slice a xs.length cap], .agg #[.bool nb, .slice b ys.length cap']] w fun e w' => ∃ a' c', e = .returned (.tuple #[.agg #[.bool (opN (okB na xs && okB nb ys) x), .slice a' (opL (okB na xs && okB nb ys) x).length c'], .bool (opO (okB na xs && okB nb ys) x)]) ∧ Own w' w.heap.size a' c' (opL (okB na xs && okB nb ys) x) ∧ Below w.heap.size w w' := by
  have HXV := hid hxv
  clear hxv
  have HK : Hid ((okB na xs && okB nb ys) = true) := hid (by rw [h1, h2]; rfl)
  obtain ⟨nx, lx⟩ := okB_nz h1
  obtain ⟨ny, ly⟩ := okB_nz h2
  go_enter Try.func23, Try.ntmps23
  have Bx := ((Box.new w (.bool na) (.slice a xs.length cap) 26).alloc (.cells #[.bool nb, .slice b ys.length cap'] 26)).alloc (.cells #[.bool false, .slice none 0 0] 26)
  have By := (Box.new2 w (.cells #[.bool na, .slice a xs.length cap] 26) (.bool nb) (.slice b ys.length cap') 26).alloc (.cells #[.bool false, .slice none 0 0] 26)
  have Rz : R2 (((w.alloc (.cells #[.bool na, .slice a xs.length cap] 26)).alloc (.cells #[.bool nb, .slice b ys.length cap'] 26)).alloc (.cells #[.bool false, .slice none 0 0] 26)) (w.heap.size + 1 + 1) (.bool false) (.slice none 0 0) := by simpa using R2.new2 (w.alloc (.cells #[.bool na, .slice a xs.length cap] 26)) (.cells #[.bool nb, .slice b ys.length cap'] 26) (.bool false) (.slice none 0 0) 26
  have sx := ((hx.alloc (.cells #[.bool na, .slice a xs.length cap] 26)).alloc (.cells #[.bool nb, .slice b ys.length cap'] 26)).alloc (.cells #[.bool false, .slice none 0 0] 26)
  have sy := ((hy.alloc (.cells #[.bool na, .slice a xs.length cap] 26)).alloc (.cells #[.bool nb, .slice b ys.length cap'] 26)).alloc (.cells #[.bool false, .slice none 0 0] 26)
  have hbW : Below w.heap.size w (((w.alloc (.cells #[.bool na, .slice a xs.length cap] 26)).alloc (.cells #[.bool nb, .slice b ys.length cap'] 26)).alloc (.cells #[.bool false, .slice none 0 0] 26)) := (by repeat (first | exact Below.refl _ _ | refine Below.drew ?_ | refine bel_dn ?_ _ | refine bel_al ?_ _ | refine Below.setCell ?_ (by first | omega | (simp; done) | (simp; omega)) _ | refine Below.alloc ?_ (by first | omega | (simp; done) | (simp; omega)) _))
  go_wp2_with fail
  refine (ok_spec na a cap xs _ sx (by omega)).mono ?_
  rintro e W1 ⟨rfl, hb1⟩
  replace Bx := Bx.below hb1
  replace By := By.below hb1
  replace Rz := Rz.below hb1
  replace sx := sx.below hb1
  replace sy := sy.below hb1
  replace hbW := bel_go hbW hb1
  obtain ⟨y0, y1⟩ := By
  go_wp2_with fail
  refine (ok_spec nb b cap' ys _ sy (by omega)).mono ?_
  rintro e W ⟨rfl, hb2⟩
  have By : Box W1 (w.heap.size + 1) (.bool nb) (.slice b ys.length cap') := ⟨y0, y1⟩
  replace Bx := Bx.below hb2
  replace By := By.below hb2
  replace Rz := Rz.below hb2
  replace sx := sx.below hb2
  replace sy := sy.below hb2
  replace hbW := bel_go hbW hb2
  have lW : w.heap.size + 1 + 1 < W.heap.size := World.block_lt_of_cell? W _ Rz.c0
  clear y0 y1 hb1 hb2
  obtain ⟨x0, x1⟩ := Bx
  obtain ⟨y0, y1⟩ := By
  go_wp2_with fail
  refine (l1add_any na nb a b cap cap' xs ys _ sx sy dx dy nx ny (by omega) (by omega) x HXV.out).mono ?_
  rintro e w3 ⟨a3, c3, rfl, ho3, hb3⟩
  have Rz3 := Rz.below hb3
  have l3 : W.heap.size ≤ w3.heap.size := hb3.size
  go_wp2_with fail
  refine (fits_any x _ rfl a3 c3 _ rfl W.heap.size _ ho3 (sum_short (xs := xs) (ys := ys) HXV.out dx dy lx ly)).mono ?_
  rintro e w4 ⟨a4, c4, rfl, ho4, hb4⟩
  obtain ⟨z0, z1, zf0, zf1⟩ := Rz3.below hb4
  have l4 : w3.heap.size ≤ w4.heap.size := hb4.size
  go_wp2
  obtain ⟨e1, e2, e3⟩ := op_yes x
  refine bodyPost_ret (v := .tuple #[.agg #[.bool (Nm.outN x), .slice a4 (Nm.outL x).length c4], .bool (Nm.fits x)]) (by simp [results, Try.results23, go_sem, z0, z1]) rfl ⟨a4, c4, ?_, ?_, ?_⟩
  · rw [HK.out, e1, e2, e3]
  · rw [HK.out, e1]
    exact Own.base ((ho4.setBelow (by simp; omega) _).setBelow (by simp; omega) _) (by omega)
  · exact ((bel_go (bel_go hbW hb3) hb4).setCell (by simp; omega) _).setCell (by simp; omega) _
theorem wadd_spec (na nb : Bool) (a b : Option Addr) (cap cap' : Nat) (xs ys : List Int) (w : World) (hx : Sl .u32 w (.slice a xs.length cap) xs) (hy : Sl .u32 w (.slice b ys.length cap') ys) (dx : Nm.Dg xs) (dy : Nm.Dg ys) (hl : xs.length ≤ 1048576) (hl' : ys.length ≤ 1048576) (x : Int) (hxv : x = Nm.wv na xs + Nm.wv nb ys) :
    Calls Try.prog 23 #[.agg #[.bool na, .slice a xs.length cap], .agg #[.bool nb, .slice b ys.length cap']] w fun e w' => ∃ a' c', e = .returned (.tuple #[.agg #[.bool (opN (okB na xs && okB nb ys) x), .slice a' (opL (okB na xs && okB nb ys) x).length c'], .bool (opO (okB na xs && okB nb ys) x)]) ∧ Own w' w.heap.size a' c' (opL (okB na xs && okB nb ys) x) ∧ Below w.heap.size w w' := by
  cases h1 : okB na xs
  · have := wadd_spec_no0 na nb a b cap cap' xs ys w hx hy dx dy hl hl' x h1
    rwa [h1] at this
  · cases h2 : okB nb ys
    · have := wadd_spec_no1 na nb a b cap cap' xs ys w hx hy dx dy hl hl' x h1 h2
      rwa [h1, h2] at this
    · have := wadd_spec_ok na nb a b cap cap' xs ys w hx hy dx dy hl hl' x hxv h1 h2
      rwa [h1, h2] at this
end Go.Proofs.Ytlifpkdmcpjhpaa
