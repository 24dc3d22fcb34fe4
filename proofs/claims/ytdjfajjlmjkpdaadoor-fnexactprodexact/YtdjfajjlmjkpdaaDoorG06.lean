/-
  Several texts in one: NumsE, WideS, LawsC, AppendZ.
-/
import Derived.Test.YtdjfajjlmjkpdaaDoorG03
import Derived.Test.YtdjfajjlmjkpdaaDoorG04
import Derived.Test.YtdjfajjlmjkpdaaDoorG05
import Derived.Deep.RegionHeld3
import Derived.Test.YtdjfajjlmjkpdaaDoorG02
import Derived.Deep.AppendLies
import Derived.WalkKit
/-
  Plain mathematics, no Go: limbs compared from the top down are numbers compared; sums of wides.
-/
namespace Go.Proofs.YtdjfajjlmjkpdaaDoor
set_option linter.unusedVariables false
namespace Nm
/-- Compared from the top down. -/
def cmpF (xs ys : List Int) : Nat → Int
  | 0 => 0
  | n + 1 => if xs.getD n 0 < ys.getD n 0 then -1 else if ys.getD n 0 < xs.getD n 0 then 1 else cmpF xs ys n
def cmpB (xs ys : List Int) : Int := if xs.length < ys.length then -1 else if ys.length < xs.length then 1 else cmpF xs ys xs.length
theorem val_take_lt {xs : List Int} (d : Dg xs) (n : Nat) : 0 ≤ val (xs.take n) ∧ val (xs.take n) < pw n := by
  refine ⟨val_nonneg (d.take n), ?_⟩
  have h1 := val_lt (d.take n)
  have h2 := pw_mono (show (xs.take n).length ≤ n by simp; omega)
  omega
theorem mul_step {p u v : Int} (hp : 1 ≤ p) (h : u < v) : p * u + p ≤ p * v := by
  have : p * (u + 1) ≤ p * v := Int.mul_le_mul_of_nonneg_left (by omega) (by omega)
  rw [Int.mul_add] at this; omega
theorem cmpF_val {xs ys : List Int} (dx : Dg xs) (dy : Dg ys) (n : Nat) : (cmpF xs ys n < 0 ↔ val (xs.take n) < val (ys.take n)) ∧ (0 < cmpF xs ys n ↔ val (ys.take n) < val (xs.take n)) := by
  induction n with
  | zero => simp [cmpF]
  | succ n ih =>
    rw [val_take_succ, val_take_succ]
    have h1 := val_take_lt dx n
    have h2 := val_take_lt dy n
    have hp := pw_pos n
    simp only [cmpF]
    by_cases c1 : xs.getD n 0 < ys.getD n 0
    · have := mul_step hp c1
      rw [if_pos c1]; constructor <;> constructor <;> intro _ <;> omega
    · rw [if_neg c1]
      by_cases c2 : ys.getD n 0 < xs.getD n 0
      · have := mul_step hp c2
        rw [if_pos c2]; constructor <;> constructor <;> intro _ <;> omega
      · rw [if_neg c2, show xs.getD n 0 = ys.getD n 0 by omega]
        constructor
        · rw [ih.1]; omega
        · rw [ih.2]; omega
theorem val_len_lt {xs ys : List Int} (dx : Dg xs) (dy : Dg ys) (ny : Nz ys) (h : xs.length < ys.length) : val xs < val ys := by
  have h1 := val_lt dx
  have h2 : ¬ val ys < pw xs.length := fun h' => by have := (length_le_iff dy ny xs.length).2 h'; omega
  omega
theorem cmpB_val {xs ys : List Int} (dx : Dg xs) (dy : Dg ys) (nx : Nz xs) (ny : Nz ys) : (cmpB xs ys < 0 ↔ val xs < val ys) ∧ (0 < cmpB xs ys ↔ val ys < val xs) := by
  unfold cmpB
  by_cases c1 : xs.length < ys.length
  · have := val_len_lt dx dy ny c1
    rw [if_pos c1]; constructor <;> constructor <;> intro _ <;> omega
  · rw [if_neg c1]
    by_cases c2 : ys.length < xs.length
    · have := val_len_lt dy dx nx c2
      rw [if_pos c2]; constructor <;> constructor <;> intro _ <;> omega
    · rw [if_neg c2]
      have h := cmpF_val dx dy xs.length
      rwa [List.take_of_length_le (Nat.le_refl _), List.take_of_length_le (l := ys) (by omega)] at h
theorem len_le_of_val {xs ys : List Int} (dx : Dg xs) (dy : Dg ys) (ny : Nz ys) (h : val ys ≤ val xs) : ys.length ≤ xs.length := by
  have := val_lt dx
  exact (length_le_iff dy ny xs.length).2 (by omega)
/-- The sum of two wides, with one sign or with two. -/
theorem wv_same {n : Bool} {xs ys os : List Int} (h : val os = val xs + val ys) : wv n xs + wv n ys = wv n os := by
  unfold wv; cases n <;> simp <;> omega
theorem wv_less {n m : Bool} {xs ys os : List Int} (hn : (n == m) = false) (h : val os = val xs - val ys) : wv n xs + wv m ys = wv n os := by
  unfold wv; cases n <;> cases m <;> simp at hn ⊢ <;> omega
theorem wv_less' {n m : Bool} {xs ys os : List Int} (hn : (n == m) = false) (h : val os = val ys - val xs) : wv n xs + wv m ys = wv m os := by
  unfold wv; cases n <;> cases m <;> simp at hn ⊢ <;> omega
theorem wv_mul {n m : Bool} {xs ys os : List Int} (h : val os = val xs * val ys) : wv n xs * wv m ys = wv (n != m) os := by
  unfold wv; cases n <;> cases m <;> simp [h, Int.neg_mul, Int.mul_neg]
end Nm
end Go.Proofs.YtdjfajjlmjkpdaaDoor
/-
  Sums of wides, by the specification.
-/
namespace Go.Proofs.YtdjfajjlmjkpdaaDoor
set_option linter.unusedVariables false
set_option linter.unusedSimpArgs false
open Go.RowKit Go.Deep
theorem cmpFrom_F (xs ys : List Int) (n : Nat) : cmpFrom xs ys n = Nm.cmpF xs ys n := by
  induction n with
  | zero => rfl
  | succ n ih => simp only [cmpFrom, Nm.cmpF, ih]
theorem cmpL_val {xs ys : List Int} (dx : Nm.Dg xs) (dy : Nm.Dg ys) (nx : Nm.Nz xs) (ny : Nm.Nz ys) : (cmpL xs ys < 0 ↔ Nm.val xs < Nm.val ys) ∧ (0 < cmpL xs ys ↔ Nm.val ys < Nm.val xs) := by
  have e : cmpL xs ys = Nm.cmpB xs ys := by unfold cmpL Nm.cmpB; rw [cmpFrom_F]
  rw [e]; exact Nm.cmpB_val dx dy nx ny
theorem keep3 {w w' : World} {b b' : Nat} {v0 v1 u1 : Value} (h0 : w.cell? ⟨b, 0, none⟩ = some v0) (h1 : w.cell? ⟨b, 1, none⟩ = some v1) (k1 : w.cell? ⟨b', 1, none⟩ = some u1) (hb : Below w.heap.size w w') :
    w'.cell? ⟨b, 0, none⟩ = some v0 ∧ w'.cell? ⟨b, 1, none⟩ = some v1 ∧ w'.cell? ⟨b', 1, none⟩ = some u1 :=
  ⟨(hb.cell (World.block_lt_of_cell? w _ h0)).trans h0, (hb.cell (World.block_lt_of_cell? w _ h1)).trans h1, (hb.cell (World.block_lt_of_cell? w _ k1)).trans k1⟩
theorem keep3_set {w : World} {b b' z : Nat} {v0 v1 u1 : Value} (h0 : w.cell? ⟨b, 0, none⟩ = some v0) (h1 : w.cell? ⟨b, 1, none⟩ = some v1) (k1 : w.cell? ⟨b', 1, none⟩ = some u1) (n1 : b ≠ z) (n2 : b' ≠ z) (p q : Value) :
    ((w.setCell ⟨z, 0, none⟩ p).setCell ⟨z, 1, none⟩ q).cell? ⟨b, 0, none⟩ = some v0 ∧ ((w.setCell ⟨z, 0, none⟩ p).setCell ⟨z, 1, none⟩ q).cell? ⟨b, 1, none⟩ = some v1 ∧ ((w.setCell ⟨z, 0, none⟩ p).setCell ⟨z, 1, none⟩ q).cell? ⟨b', 1, none⟩ = some u1 := by
  have e1 := Below.heap_setCell w ⟨z, 0, none⟩ p b n1
  have e2 := Below.heap_setCell (w.setCell ⟨z, 0, none⟩ p) ⟨z, 1, none⟩ q b n1
  have f1 := Below.heap_setCell w ⟨z, 0, none⟩ p b' n2
  have f2 := Below.heap_setCell (w.setCell ⟨z, 0, none⟩ p) ⟨z, 1, none⟩ q b' n2
  exact ⟨(World.cell?_of_block (a := ⟨b, 0, none⟩) (e2.trans e1)).trans h0, (World.cell?_of_block (a := ⟨b, 1, none⟩) (e2.trans e1)).trans h1, (World.cell?_of_block (a := ⟨b', 1, none⟩) (f2.trans f1)).trans k1⟩
set_option maxHeartbeats 1000000 in
theorem l1add_same (na nb : Bool) (a b : Option Addr) (cap cap' : Nat) (xs ys : List Int) (w : World) (hx : Sl .u32 w (.slice a xs.length cap) xs) (hy : Sl .u32 w (.slice b ys.length cap') ys) (dx : Nm.Dg xs) (dy : Nm.Dg ys) (nx : Nm.Nz xs) (ny : Nm.Nz ys) (hl : xs.length ≤ 500000) (hl' : ys.length ≤ 500000) (x : Int) (hx0 : x = Nm.wv na xs + Nm.wv nb ys) (hc : (na == nb) = true) :
    Calls Tryd.prog 85 #[.agg #[.bool na, .slice a xs.length cap], .agg #[.bool nb, .slice b ys.length cap']] w fun e w' => ∃ a' c', e = .returned (.agg #[.bool (Nm.wn x), .slice a' (Nm.wl x).length c']) ∧ Own w' w.heap.size a' c' (Nm.wl x) ∧ Below w.heap.size w w' := by
  have HX : Hid (∀ os, Nm.val os = Nm.val xs + Nm.val ys → x = Nm.wv na os) := hid (fun os h => by
    have hc' : na = nb := by simpa using hc
    rw [hx0, ← hc']; exact Nm.wv_same h)
  clear hx0
  go_enter Tryd.func85, Tryd.ntmps85
  have Bx := ((Box.new w (.bool na) (.slice a xs.length cap) 29).alloc (.cells #[.bool nb, .slice b ys.length cap'] 29)).alloc (.cells #[.bool false, .slice none 0 0] 29)
  have By := (Box.new2 w (.cells #[.bool na, .slice a xs.length cap] 29) (.bool nb) (.slice b ys.length cap') 29).alloc (.cells #[.bool false, .slice none 0 0] 29)
  have Rz : R2 (((w.alloc (.cells #[.bool na, .slice a xs.length cap] 29)).alloc (.cells #[.bool nb, .slice b ys.length cap'] 29)).alloc (.cells #[.bool false, .slice none 0 0] 29)) (w.heap.size + 1 + 1) (.bool false) (.slice none 0 0) := by simpa using R2.new2 (w.alloc (.cells #[.bool na, .slice a xs.length cap] 29)) (.cells #[.bool nb, .slice b ys.length cap'] 29) (.bool false) (.slice none 0 0) 29
  have sx := ((hx.alloc (.cells #[.bool na, .slice a xs.length cap] 29)).alloc (.cells #[.bool nb, .slice b ys.length cap'] 29)).alloc (.cells #[.bool false, .slice none 0 0] 29)
  have sy := ((hy.alloc (.cells #[.bool na, .slice a xs.length cap] 29)).alloc (.cells #[.bool nb, .slice b ys.length cap'] 29)).alloc (.cells #[.bool false, .slice none 0 0] 29)
  have hbW : Below w.heap.size w (((w.alloc (.cells #[.bool na, .slice a xs.length cap] 29)).alloc (.cells #[.bool nb, .slice b ys.length cap'] 29)).alloc (.cells #[.bool false, .slice none 0 0] 29)) := (by repeat (first | exact Below.refl _ _ | refine Below.drew ?_ | refine bel_dn ?_ _ | refine bel_al ?_ _ | refine Below.setCell ?_ (by first | omega | (simp; done) | (simp; omega)) _ | refine Below.alloc ?_ (by first | omega | (simp; done) | (simp; omega)) _))
  go_wp2_with fail
  generalize ((w.alloc (.cells #[.bool na, .slice a xs.length cap] 29)).alloc (.cells #[.bool nb, .slice b ys.length cap'] 29)).alloc (.cells #[.bool false, .slice none 0 0] 29) = W at Bx By Rz sx sy hbW ⊢
  have lW : w.heap.size + 1 + 1 < W.heap.size := World.block_lt_of_cell? W _ Rz.c0
  go_region_held3 (fun w' => w'.cell? ⟨w.heap.size, 0, none⟩ = some (.bool na) ∧ w'.cell? ⟨w.heap.size, 1, none⟩ = some (.slice a xs.length cap) ∧ w'.cell? ⟨w.heap.size + 1, 1, none⟩ = some (.slice b ys.length cap')) (first | assumption | (refine keep3_set k3.1 k3.2.1 k3.2.2 ?_ ?_ _ _ <;> omega) | exact ⟨Bx.1, Bx.2, By.2⟩)
    (first
      | (go_at_call 109; refine (plus_any a b cap cap' xs ys _ (by exact sx.drew) (by exact sy.drew) dx dy hl hl' ).mono ?_; rintro e w2 ⟨a2, c2, os, rfl, ho2, dos, hv, hlo, hb2⟩; have k2 := keep3 (w := W.drew) Bx.1 Bx.2 By.2 hb2; have Rz2 := Rz.drew.below hb2)
      | (go_at_call 66; refine (made_v na a2 c2 os _ (by exact ho2.sl) dos hlo x (HX.out os hv)).mono ?_; rintro e w3 ⟨a3, c3, rfl, ho3, hb3⟩; have k3 := keep3 k2.1 k2.2.1 k2.2.2 hb3; have Rz3 := Rz2.below hb3; obtain ⟨z0, z1, zf0, zf1⟩ := Rz3))
  have l2 : W.heap.size ≤ w2.heap.size := hb2.size
  have l3 : w2.heap.size ≤ w3.heap.size := hb3.size
  go_wp2
  refine bodyPost_ret (v := .agg #[.bool (Nm.wn x), .slice a3 (Nm.wl x).length c3]) (by simp [results, Tryd.results85, go_sem, z0, z1]) rfl ⟨a3, c3, rfl, ?_, ?_⟩
  · exact Own.base ((ho3.setBelow (by simp; omega) _).setBelow (by simp; omega) _) (by omega)
  · exact ((bel_go (bel_go (Below.drew hbW) hb2) hb3).setCell (by simp; omega) _).setCell (by simp; omega) _
set_option maxHeartbeats 1000000 in
theorem l1add_low (na nb : Bool) (a b : Option Addr) (cap cap' : Nat) (xs ys : List Int) (w : World) (hx : Sl .u32 w (.slice a xs.length cap) xs) (hy : Sl .u32 w (.slice b ys.length cap') ys) (dx : Nm.Dg xs) (dy : Nm.Dg ys) (nx : Nm.Nz xs) (ny : Nm.Nz ys) (hl : xs.length ≤ 500000) (hl' : ys.length ≤ 500000) (x : Int) (hx0 : x = Nm.wv na xs + Nm.wv nb ys) (hc : (na == nb) = false) (hm : cmpL xs ys < 0) :
    Calls Tryd.prog 85 #[.agg #[.bool na, .slice a xs.length cap], .agg #[.bool nb, .slice b ys.length cap']] w fun e w' => ∃ a' c', e = .returned (.agg #[.bool (Nm.wn x), .slice a' (Nm.wl x).length c']) ∧ Own w' w.heap.size a' c' (Nm.wl x) ∧ Below w.heap.size w w' := by
  have HX : Hid (∀ os, Nm.val os = Nm.val ys - Nm.val xs → x = Nm.wv nb os) := hid (fun os h => by rw [hx0]; exact Nm.wv_less' hc h)
  have hge : Nm.val xs ≤ Nm.val ys := by have := (cmpL_val dx dy nx ny).1; omega
  have hln : xs.length ≤ ys.length := Nm.len_le_of_val dy dx nx hge
  have HGE := hid (And.intro hge hln)
  clear hx0 hge hln
  go_enter Tryd.func85, Tryd.ntmps85
  have Bx := ((Box.new w (.bool na) (.slice a xs.length cap) 29).alloc (.cells #[.bool nb, .slice b ys.length cap'] 29)).alloc (.cells #[.bool false, .slice none 0 0] 29)
  have By := (Box.new2 w (.cells #[.bool na, .slice a xs.length cap] 29) (.bool nb) (.slice b ys.length cap') 29).alloc (.cells #[.bool false, .slice none 0 0] 29)
  have Rz : R2 (((w.alloc (.cells #[.bool na, .slice a xs.length cap] 29)).alloc (.cells #[.bool nb, .slice b ys.length cap'] 29)).alloc (.cells #[.bool false, .slice none 0 0] 29)) (w.heap.size + 1 + 1) (.bool false) (.slice none 0 0) := by simpa using R2.new2 (w.alloc (.cells #[.bool na, .slice a xs.length cap] 29)) (.cells #[.bool nb, .slice b ys.length cap'] 29) (.bool false) (.slice none 0 0) 29
  have sx := ((hx.alloc (.cells #[.bool na, .slice a xs.length cap] 29)).alloc (.cells #[.bool nb, .slice b ys.length cap'] 29)).alloc (.cells #[.bool false, .slice none 0 0] 29)
  have sy := ((hy.alloc (.cells #[.bool na, .slice a xs.length cap] 29)).alloc (.cells #[.bool nb, .slice b ys.length cap'] 29)).alloc (.cells #[.bool false, .slice none 0 0] 29)
  have hbW : Below w.heap.size w (((w.alloc (.cells #[.bool na, .slice a xs.length cap] 29)).alloc (.cells #[.bool nb, .slice b ys.length cap'] 29)).alloc (.cells #[.bool false, .slice none 0 0] 29)) := (by repeat (first | exact Below.refl _ _ | refine Below.drew ?_ | refine bel_dn ?_ _ | refine bel_al ?_ _ | refine Below.setCell ?_ (by first | omega | (simp; done) | (simp; omega)) _ | refine Below.alloc ?_ (by first | omega | (simp; done) | (simp; omega)) _))
  go_wp2_with fail
  refine (mag_any a b cap cap' xs ys _ sx sy (by omega) (by omega)).mono ?_
  rintro e W ⟨rfl, hb1⟩
  replace Bx := Bx.below hb1
  replace By := By.below hb1
  replace Rz := Rz.below hb1
  replace sx := sx.below hb1
  replace sy := sy.below hb1
  replace hbW := bel_go hbW hb1
  have lW : w.heap.size + 1 + 1 < W.heap.size := World.block_lt_of_cell? W _ Rz.c0
  clear hb1
  go_wp2_with fail
  go_region_held3 (fun w' => w'.cell? ⟨w.heap.size + 1, 0, none⟩ = some (.bool nb) ∧ w'.cell? ⟨w.heap.size + 1, 1, none⟩ = some (.slice b ys.length cap') ∧ w'.cell? ⟨w.heap.size, 1, none⟩ = some (.slice a xs.length cap)) (first | assumption | (refine keep3_set k3.1 k3.2.1 k3.2.2 ?_ ?_ _ _ <;> omega) | exact ⟨By.1, By.2, Bx.2⟩)
    (first
      | (go_at_call 110; refine (less_any b a cap' cap ys xs _ (by exact sy.drew) (by exact sx.drew) dy dx hl' HGE.out.2 HGE.out.1).mono ?_; rintro e w2 ⟨a2, c2, os, rfl, ho2, dos, hv, hlo, hb2⟩; have k2 := keep3 (w := W.drew) By.1 By.2 Bx.2 hb2; have Rz2 := Rz.drew.below hb2)
      | (go_at_call 66; refine (made_v nb a2 c2 os _ (by exact ho2.sl) dos hlo x (HX.out os hv)).mono ?_; rintro e w3 ⟨a3, c3, rfl, ho3, hb3⟩; have k3 := keep3 k2.1 k2.2.1 k2.2.2 hb3; have Rz3 := Rz2.below hb3; obtain ⟨z0, z1, zf0, zf1⟩ := Rz3))
  have l2 : W.heap.size ≤ w2.heap.size := hb2.size
  have l3 : w2.heap.size ≤ w3.heap.size := hb3.size
  go_wp2
  refine bodyPost_ret (v := .agg #[.bool (Nm.wn x), .slice a3 (Nm.wl x).length c3]) (by simp [results, Tryd.results85, go_sem, z0, z1]) rfl ⟨a3, c3, rfl, ?_, ?_⟩
  · exact Own.base ((ho3.setBelow (by simp; omega) _).setBelow (by simp; omega) _) (by omega)
  · exact ((bel_go (bel_go (Below.drew hbW) hb2) hb3).setCell (by simp; omega) _).setCell (by simp; omega) _
set_option maxHeartbeats 1000000 in
theorem l1add_high (na nb : Bool) (a b : Option Addr) (cap cap' : Nat) (xs ys : List Int) (w : World) (hx : Sl .u32 w (.slice a xs.length cap) xs) (hy : Sl .u32 w (.slice b ys.length cap') ys) (dx : Nm.Dg xs) (dy : Nm.Dg ys) (nx : Nm.Nz xs) (ny : Nm.Nz ys) (hl : xs.length ≤ 500000) (hl' : ys.length ≤ 500000) (x : Int) (hx0 : x = Nm.wv na xs + Nm.wv nb ys) (hc : (na == nb) = false) (hm : ¬ cmpL xs ys < 0) :
    Calls Tryd.prog 85 #[.agg #[.bool na, .slice a xs.length cap], .agg #[.bool nb, .slice b ys.length cap']] w fun e w' => ∃ a' c', e = .returned (.agg #[.bool (Nm.wn x), .slice a' (Nm.wl x).length c']) ∧ Own w' w.heap.size a' c' (Nm.wl x) ∧ Below w.heap.size w w' := by
  have HX : Hid (∀ os, Nm.val os = Nm.val xs - Nm.val ys → x = Nm.wv na os) := hid (fun os h => by rw [hx0]; exact Nm.wv_less hc h)
  have hge : Nm.val ys ≤ Nm.val xs := by have := (cmpL_val dx dy nx ny).1; omega
  have hln : ys.length ≤ xs.length := Nm.len_le_of_val dx dy ny hge
  have HGE := hid (And.intro hge hln)
  clear hx0 hge hln
  go_enter Tryd.func85, Tryd.ntmps85
  have Bx := ((Box.new w (.bool na) (.slice a xs.length cap) 29).alloc (.cells #[.bool nb, .slice b ys.length cap'] 29)).alloc (.cells #[.bool false, .slice none 0 0] 29)
  have By := (Box.new2 w (.cells #[.bool na, .slice a xs.length cap] 29) (.bool nb) (.slice b ys.length cap') 29).alloc (.cells #[.bool false, .slice none 0 0] 29)
  have Rz : R2 (((w.alloc (.cells #[.bool na, .slice a xs.length cap] 29)).alloc (.cells #[.bool nb, .slice b ys.length cap'] 29)).alloc (.cells #[.bool false, .slice none 0 0] 29)) (w.heap.size + 1 + 1) (.bool false) (.slice none 0 0) := by simpa using R2.new2 (w.alloc (.cells #[.bool na, .slice a xs.length cap] 29)) (.cells #[.bool nb, .slice b ys.length cap'] 29) (.bool false) (.slice none 0 0) 29
  have sx := ((hx.alloc (.cells #[.bool na, .slice a xs.length cap] 29)).alloc (.cells #[.bool nb, .slice b ys.length cap'] 29)).alloc (.cells #[.bool false, .slice none 0 0] 29)
  have sy := ((hy.alloc (.cells #[.bool na, .slice a xs.length cap] 29)).alloc (.cells #[.bool nb, .slice b ys.length cap'] 29)).alloc (.cells #[.bool false, .slice none 0 0] 29)
  have hbW : Below w.heap.size w (((w.alloc (.cells #[.bool na, .slice a xs.length cap] 29)).alloc (.cells #[.bool nb, .slice b ys.length cap'] 29)).alloc (.cells #[.bool false, .slice none 0 0] 29)) := (by repeat (first | exact Below.refl _ _ | refine Below.drew ?_ | refine bel_dn ?_ _ | refine bel_al ?_ _ | refine Below.setCell ?_ (by first | omega | (simp; done) | (simp; omega)) _ | refine Below.alloc ?_ (by first | omega | (simp; done) | (simp; omega)) _))
  go_wp2_with fail
  refine (mag_any a b cap cap' xs ys _ sx sy (by omega) (by omega)).mono ?_
  rintro e W ⟨rfl, hb1⟩
  replace Bx := Bx.below hb1
  replace By := By.below hb1
  replace Rz := Rz.below hb1
  replace sx := sx.below hb1
  replace sy := sy.below hb1
  replace hbW := bel_go hbW hb1
  have lW : w.heap.size + 1 + 1 < W.heap.size := World.block_lt_of_cell? W _ Rz.c0
  clear hb1
  go_wp2_with fail
  go_region_held3 (fun w' => w'.cell? ⟨w.heap.size, 0, none⟩ = some (.bool na) ∧ w'.cell? ⟨w.heap.size, 1, none⟩ = some (.slice a xs.length cap) ∧ w'.cell? ⟨w.heap.size + 1, 1, none⟩ = some (.slice b ys.length cap')) (first | assumption | (refine keep3_set k3.1 k3.2.1 k3.2.2 ?_ ?_ _ _ <;> omega) | exact ⟨Bx.1, Bx.2, By.2⟩)
    (first
      | (go_at_call 110; refine (less_any a b cap cap' xs ys _ (by exact sx.drew) (by exact sy.drew) dx dy hl HGE.out.2 HGE.out.1).mono ?_; rintro e w2 ⟨a2, c2, os, rfl, ho2, dos, hv, hlo, hb2⟩; have k2 := keep3 (w := W.drew) Bx.1 Bx.2 By.2 hb2; have Rz2 := Rz.drew.below hb2)
      | (go_at_call 66; refine (made_v na a2 c2 os _ (by exact ho2.sl) dos hlo x (HX.out os hv)).mono ?_; rintro e w3 ⟨a3, c3, rfl, ho3, hb3⟩; have k3 := keep3 k2.1 k2.2.1 k2.2.2 hb3; have Rz3 := Rz2.below hb3; obtain ⟨z0, z1, zf0, zf1⟩ := Rz3))
  have l2 : W.heap.size ≤ w2.heap.size := hb2.size
  have l3 : w2.heap.size ≤ w3.heap.size := hb3.size
  go_wp2
  refine bodyPost_ret (v := .agg #[.bool (Nm.wn x), .slice a3 (Nm.wl x).length c3]) (by simp [results, Tryd.results85, go_sem, z0, z1]) rfl ⟨a3, c3, rfl, ?_, ?_⟩
  · exact Own.base ((ho3.setBelow (by simp; omega) _).setBelow (by simp; omega) _) (by omega)
  · exact ((bel_go (bel_go (Below.drew hbW) hb2) hb3).setCell (by simp; omega) _).setCell (by simp; omega) _
theorem l1add_any (na nb : Bool) (a b : Option Addr) (cap cap' : Nat) (xs ys : List Int) (w : World) (hx : Sl .u32 w (.slice a xs.length cap) xs) (hy : Sl .u32 w (.slice b ys.length cap') ys) (dx : Nm.Dg xs) (dy : Nm.Dg ys) (nx : Nm.Nz xs) (ny : Nm.Nz ys) (hl : xs.length ≤ 500000) (hl' : ys.length ≤ 500000) (x : Int) (hx0 : x = Nm.wv na xs + Nm.wv nb ys) :
    Calls Tryd.prog 85 #[.agg #[.bool na, .slice a xs.length cap], .agg #[.bool nb, .slice b ys.length cap']] w fun e w' => ∃ a' c', e = .returned (.agg #[.bool (Nm.wn x), .slice a' (Nm.wl x).length c']) ∧ Own w' w.heap.size a' c' (Nm.wl x) ∧ Below w.heap.size w w' := by
  cases hc : (na == nb)
  · by_cases hm : cmpL xs ys < 0
    · exact l1add_low na nb a b cap cap' xs ys w hx hy dx dy nx ny hl hl' x hx0 hc hm
    · exact l1add_high na nb a b cap cap' xs ys w hx hy dx dy nx ny hl hl' x hx0 hc hm
  · exact l1add_same na nb a b cap cap' xs ys w hx hy dx dy nx ny hl hl' x hx0 hc
end Go.Proofs.YtdjfajjlmjkpdaaDoor
/-
  What the laws' marks leave alone.
-/
namespace Go.Proofs.YtdjfajjlmjkpdaaDoor
set_option linter.unusedVariables false
set_option linter.unusedSimpArgs false
open Go.RowKit Go.Deep
/-- Where a slice's row lies, if there is one: told by its first cell's block. -/
theorem Own.at {w : World} {B : Nat} {a : Option Addr} {cap : Nat} {zs : List Int} (h : Own w B a cap zs) (n c : Nat) : ∀ g, (Value.slice a n c).ownBlock = some g → B ≤ g ∧ g < w.heap.size := by
  intro g hg
  rcases h.block with ⟨rfl, _, _⟩ | ⟨g', rfl, h1, h2⟩
  · simp [Value.ownBlock] at hg
  · simp [Value.ownBlock] at hg; subst hg; exact ⟨h1, h2⟩
theorem Box.grown {w w' : World} {b : Nat} {v0 v1 : Value} {row : Option Nat} (h : Box w b v0 v1) (hg : w.grownBy w' row) (hne : ∀ g, row = some g → b ≠ g) : Box w' b v0 v1 := by
  have hlt := World.block_lt_of_cell? w _ h.1
  have e := hg.block b hlt (by
    cases row with
    | none => simp
    | some g => simpa using hne g rfl)
  exact ⟨(World.cell?_of_block (a := ⟨b, 0, none⟩) e).trans h.1, (World.cell?_of_block (a := ⟨b, 1, none⟩) e).trans h.2⟩
/-- What is owned below what is marked. -/
theorem Own.under {w w' : World} {B : Nat} {a : Option Addr} {cap : Nat} {zs : List Int} {row : Option Nat} (h : Own w B a cap zs) (hg : w.grownBy w' row) (hlt : ∀ g g', a = some ⟨g, 0, none⟩ → row = some g' → g ≠ g') : Own w' B a cap zs :=
  h.kept hg (fun g hg' hr => hlt g g hg' hr rfl)
theorem Sl.grown {k : IntKind} {w w' : World} {v : Value} {zs : List Int} {row : Option Nat} (h : Sl k w v zs) (hg : w.grownBy w' row) (hne : ∀ g, row = some g → w.heap.size ≤ g ∨ ∀ b off n cap, v = .slice (some ⟨b, off, none⟩) n cap → b ≠ g) : Sl k w' v zs := by
  obtain ⟨a, cap, rfl, h1, h2, h3⟩ := h
  refine ⟨a, cap, rfl, h1, h2, ?_⟩
  rcases h3 with h3 | ⟨b, off, rfl, hc⟩
  · exact .inl h3
  · refine .inr ⟨b, off, rfl, fun i hi => ?_⟩
    have hci := hc i hi
    have hlt := World.block_lt_of_cell? w _ hci
    have e := hg.block b hlt (by
      cases row with
      | none => simp
      | some g =>
        rcases hne g rfl with h | h
        · simp at hlt ⊢; omega
        · simpa using h b off _ _ rfl)
    exact (World.cell?_of_block (a := ⟨b, off + i, none⟩) e).trans hci
/-- Nothing old has turned, where only a new block is marked. -/
theorem bel_mark {w W w' : World} {row : Option Nat} (h : Below w.heap.size w W) (hg : W.grownBy w' row) (hge : ∀ g, row = some g → w.heap.size ≤ g) : Below w.heap.size w w' :=
  h.grown hg h.size hge
theorem iot_dg (n : Nat) (hn : n ≤ 1048576) : Nm.Dg (iot 1 n) := by
  intro z hz
  simp only [iot, List.mem_map, List.mem_range] at hz
  obtain ⟨i, hi, rfl⟩ := hz
  omega
theorem heldR_iot (n : Nat) : heldR 1 (iot 1 n) = 1 + n := by unfold heldR; rw [iot_length, if_pos rfl]
theorem eqW_refl (n : Bool) (zs : List Int) : eqW n n zs zs = true := by simp [eqW, eqL]
end Go.Proofs.YtdjfajjlmjkpdaaDoor
/-
  Nothing is appended: at a step of a region that draws its order.
-/
namespace Go.Proofs.YtdjfajjlmjkpdaaDoor
set_option linter.unusedVariables false
set_option linter.unusedSimpArgs false
open Go.RowKit
theorem run_append_zero {P : Program} (w : World) (t ty e : TypeId) (i : TypeInfo) (ht : P.underlying t = some (.slice e)) (hi : P.info? e = some i) (g a : Option Addr) (cap : Nat) :
    (Builtin.append_ #[t, t] ty #[.slice g 0 0, .slice a 0 cap]).run P w = .ok (.slice g 0 0) w := by
  cases a <;> cases g <;> simp [Builtin.append_, run_underlying ht, sizeOf, typeInfo, hi, Builtin.lenOf, Builtin.firstCells, storeCells, go_sem, loadCellsFrom]
theorem step_append_zero {P : Program} {ops : Array Oper} {o : Oper} {a : Act} {w : World} {K : Act → World → Prop} {Q : Exit → Act → World → Prop} {E : Prop} (hgd : o.guard = none) (s x : Operand) (t : TypeId)
    (ho : o.op = .call { callee := .builtin .append, args := #[s, x], argTypes := #[t, t] })
    (e : TypeId) (i : TypeInfo) (ht : P.underlying t = some (.slice e)) (hi : P.info? e = some i) (g b : Option Addr) (cap : Nat) (hs : a.eval s = .slice g 0 0) (hx : a.eval x = .slice b 0 cap)
    (h : K (a.put o.dst (.slice g 0 0)) w) :
    if Region.wanted o (yielded ops a.tmps) = true then Oper.wp P o a w K Q else E := by
  have hw : Region.wanted o (yielded ops a.tmps) = true := by simp [Region.wanted, hgd]
  rw [if_pos hw]
  have hr := run_append_zero (P := P) w t o.type e i ht hi g b cap
  unfold Oper.wp execOp
  simp only [ho, resolve, invoke, builtin, Sem.run_bind, Sem.run_pure, Result.andThen_ok, List.map_toArray, List.map_cons, List.map_nil, hs, hx, hr]
  exact h
end Go.Proofs.YtdjfajjlmjkpdaaDoor
