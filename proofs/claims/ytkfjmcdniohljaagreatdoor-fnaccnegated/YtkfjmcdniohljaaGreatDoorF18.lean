/-
  What is needed of WideX, WideU.
-/
import Derived.Test.YtkfjmcdniohljaaGreatDoorF16
import Derived.Test.YtkfjmcdniohljaaGreatDoorF17
set_option maxHeartbeats 16000000
set_option maxRecDepth 1000000
namespace Go.Proofs.YtkfjmcdniohljaaGreatDoor
set_option linter.unusedVariables false
set_option linter.unusedSimpArgs false
open Go.RowKit Go.Deep
theorem mk2 (N M : Nat) (h : N ≤ 400000) (h' : M ≤ 400000) : ∀ w : World, (Instr.makeSlice 30 (.int .i64 ((N : Int) + (M : Int) + 1)) (.int .i64 ((N : Int) + (M : Int) + 1))).run Tryz.prog w = .ok (.slice (some ⟨w.heap.size, 0, none⟩) (N + M + 1) (N + M + 1)) (w.alloc (.cells (madeCells #[.int .u32 0] (N + M + 1)) 128)) :=
 run_make_row' (P := Tryz.prog) 30 128 (.int .u32 0) 4 Tryz.underlying30 info32 rfl .i64 .i64 (N + M + 1) (by omega) (by omega)
theorem i64_in (n : Int) (h0 : -9223372036854775808 ≤ n) (h1 : n ≤ 9223372036854775807) : IntKind.i64.wrap n = n := by rw [IntKind.wrap_i64]; omega
theorem l1mul_any (na nb : Bool) (a b : Option Addr) (cap cap' : Nat) (xs ys : List Int) (w : World) (hx : Sl .u32 w (.slice a xs.length cap) xs) (hy : Sl .u32 w (.slice b ys.length cap') ys) (dx : Nm.Dg xs) (dy : Nm.Dg ys) (nx : Nm.Nz xs) (ny : Nm.Nz ys) (hl : xs.length ≤ 400000) (hl' : ys.length ≤ 400000) (x : Int) (hx0 : x = Nm.wv na xs * Nm.wv nb ys) :
  Calls Tryz.prog 208 #[.agg #[.bool na, .slice a xs.length cap], .agg #[.bool nb, .slice b ys.length cap']] w fun e w' => ∃ a' c', e = .returned (.agg #[.bool (Nm.wn x), .slice a' (Nm.wl x).length c']) ∧ Own w' w.heap.size a' c' (Nm.wl x) ∧ Below w.heap.size w w' := by
 have HX : Hid (∀ os, Nm.val os = Nm.val xs * Nm.val ys → x = Nm.wv (na != nb) os) := hid (fun os h => by rw [hx0]; exact Nm.wv_mul h)
 clear hx0
 obtain ⟨v, hv⟩ : ∃ v, v = x := ⟨_, rfl⟩
 rw [← hv] at HX ⊢
 clear hv x
 have hmk := mk2 xs.length ys.length hl hl'
 obtain ⟨-, hx1, hx2, hx3⟩ := hx.cells
 have HX3 := hid hx3
 clear hx3
 go_enter Tryz.func208, Tryz.ntmps208
 have Bx := ((Box.new w (.bool na) (.slice a xs.length cap) 32).alloc (.cells #[.bool nb, .slice b ys.length cap'] 32)).alloc (.cells #[.bool false, .slice none 0 0] 32)
 have By := (Box.new2 w (.cells #[.bool na, .slice a xs.length cap] 32) (.bool nb) (.slice b ys.length cap') 32).alloc (.cells #[.bool false, .slice none 0 0] 32)
 have Rz : R2 (((w.alloc (.cells #[.bool na, .slice a xs.length cap] 32)).alloc (.cells #[.bool nb, .slice b ys.length cap'] 32)).alloc (.cells #[.bool false, .slice none 0 0] 32)) (w.heap.size + 1 + 1) (.bool false) (.slice none 0 0) := by simpa using R2.new2 (w.alloc (.cells #[.bool na, .slice a xs.length cap] 32)) (.cells #[.bool nb, .slice b ys.length cap'] 32) (.bool false) (.slice none 0 0) 32
 have hbW : Below w.heap.size w (((w.alloc (.cells #[.bool na, .slice a xs.length cap] 32)).alloc (.cells #[.bool nb, .slice b ys.length cap'] 32)).alloc (.cells #[.bool false, .slice none 0 0] 32)) := (by repeat (first | exact bz0 _ _ | refine bz1 ?_ | refine bz2 ?_ _ | refine bz3 ?_ _ | refine bz5 ?_ _ | refine bz6 ?_ _))
 have hsW : (((w.alloc (.cells #[.bool na, .slice a xs.length cap] 32)).alloc (.cells #[.bool nb, .slice b ys.length cap'] 32)).alloc (.cells #[.bool false, .slice none 0 0] 32)).heap.size = w.heap.size + 1 + 1 + 1 := by simp
 go_wp2_with fail
 clear hmk
 generalize hW : ((w.alloc (.cells #[.bool na, .slice a xs.length cap] 32)).alloc (.cells #[.bool nb, .slice b ys.length cap'] 32)).alloc (.cells #[.bool false, .slice none 0 0] 32) = W at Bx By Rz hbW hsW ⊢
 clear hW
 have HSW := hid hsW
 clear hsW
 go_loopw [6] (fun iv wr => ∃ i : Nat, ∃ os : List Int, i ≤ xs.length ∧ iv = .int .i64 i ∧ os.length = xs.length + ys.length + 1 ∧ Rw wr (w.heap.size + 1 + 1 + 1) os ∧ Nm.Dg os ∧ Nm.MulAt xs ys os i 0 0 ∧ (∀ m, i + ys.length ≤ m → os.getD m 0 = 0) ∧ Below W.heap.size W wr) (fun iv _ => xs.length - (intOf iv).toNat)
 case atStart => exact ⟨0, List.replicate (xs.length + ys.length + 1) 0, Nat.zero_le _, rfl, by simp, by have := Rw.made W (xs.length + ys.length + 1); rwa [HSW.out] at this, Nm.Dg.replicate _, Nm.MulAt.zero _ _ _ (Nm.val_replicate _), fun m _ => Nm.getD_replicate _ m, (by repeat (first | exact bz0 _ _ | refine bz1 ?_ | refine bz2 ?_ _ | refine bz3 ?_ _ | refine bz5 ?_ _ | refine bz6 ?_ _))⟩
 case round =>
  obtain ⟨i, os, hi, rfl, hol, hrw, hdo, hmul, hzero, hb⟩ := hrel
  have H0 := hid (And.intro hol (And.intro hdo (And.intro hmul hzero)))
  clear hol hdo hmul hzero
  obtain ⟨c00, c01⟩ := Bx.below hb
  obtain ⟨c10, c11⟩ := By.below hb
  by_cases hlt : i < xs.length
  ·obtain ⟨ba, off, rfl, hcx⟩ := HX3.out (by omega)
   have hca0 := hcx i hlt
   have hbl := World.block_lt_of_cell? w _ hca0
   simp at hbl
   have hcW : W.cell? ⟨ba, off + i, none⟩ = some (.int .u32 (xs.getD i 0)) := (hbW.cell (p := ⟨ba, off + i, none⟩) hbl).trans hca0
   obtain ⟨ex0, ex1⟩ := dx.getD i
   obtain ⟨x, hxk⟩ : ∃ x, x = xs.getD i 0 := ⟨_, rfl⟩
   rw [← hxk] at hcW ex0 ex1
   have HXK := hid hxk
   have HCW := hid hcW
   have hwW : w.heap.size ≤ W.heap.size := hbW.size
   clear hxk hca0 hcx hcW
   go_wp2_with fail
   clear c00 c01 c10 c11
   go_loopw [7, 8] (fun cy jv wr => ∃ j : Nat, ∃ os : List Int, ∃ c : Int, j ≤ ys.length + 1 ∧ jv = .int .i64 j ∧ cy = .int .u64 c ∧ 0 ≤ c ∧ c < 4294967296 ∧ os.length = xs.length + ys.length + 1 ∧ Rw wr (w.heap.size + 1 + 1 + 1) os ∧ Nm.Dg os ∧ Nm.MulAt xs ys os i j c ∧ (∀ m, i + ys.length + 1 ≤ m → os.getD m 0 = 0) ∧ (j ≤ ys.length → os.getD (i + ys.length) 0 = 0) ∧ (ys.length < j → c = 0) ∧ Below W.heap.size W wr) (fun _ jv _ => ys.length + 1 - (intOf jv).toNat)
   case atStart => exact ⟨0, os, 0, Nat.zero_le _, rfl, rfl, by omega, by omega, H0.out.1, hrw, H0.out.2.1, H0.out.2.2.1, fun m hm => H0.out.2.2.2 m (by omega), fun _ => H0.out.2.2.2 _ (Nat.le_refl _), fun h => by omega, hb⟩
   case round =>
    clear hrw hb H0
    obtain ⟨j, os, c, hj, rfl, rfl, hc0, hc1, hol, hrw, hdo, hmul, hzero, hmid, hlast, hb⟩ := hrel
    have H0 := hid (And.intro hol (And.intro hdo (And.intro hmul hzero)))
    have H1 := hid (And.intro hmid hlast)
    have hol1 : xs.length + ys.length + 1 ≤ os.length := by omega
    clear hol hdo hmul hzero hmid hlast
    obtain ⟨c00, c01⟩ := Bx.below hb
    obtain ⟨c10, c11⟩ := By.below hb
    by_cases hlj : j ≤ ys.length
    ·have hca : wr.cell? ⟨ba, off + i, none⟩ = some (.int .u32 x) := (hb.cell (p := ⟨ba, off + i, none⟩) (World.block_lt_of_cell? W _ HCW.out)).trans HCW.out
     have sy := (hy.below hbW).below hb
     have hcell := hrw.cell (k := i + j) (by omega)
     have hfr := hrw.frozen (i + j)
     have c2 := fun w' (h : Sl .u32 w' (.slice b ys.length cap') ys) => limb_any b cap' ys j w' h dy (by omega) (by omega)
     obtain ⟨ey0, ey1⟩ := dy.getD j
     obtain ⟨eo0, eo1⟩ := H0.out.2.1.getD (i + j)
     have hst := fun d c' => Nm.MulAt.step (d := d) (c' := c') H0.out.2.2.1 (show i + j < os.length by omega)
     have hyz : ys.length ≤ j → ys.getD j 0 = 0 := fun h => Nm.getD_out h
     have hoz : ys.length ≤ j → os.getD (i + j) 0 = 0 := fun h => by
      have e : j = ys.length := by omega
      subst e; exact H1.out.1 (Nat.le_refl _)
     obtain ⟨y, hyk⟩ : ∃ y, y = ys.getD j 0 := ⟨_, rfl⟩
     obtain ⟨o, hok⟩ : ∃ o, o = os.getD (i + j) 0 := ⟨_, rfl⟩
     simp only [← hyk] at c2
     rw [← hyk] at ey0 ey1 hyz
     rw [← hok] at hcell eo0 eo1 hoz
     rw [← HXK.out, ← hyk, ← hok] at hst
     have HST := hid hst
     have C2 := hid c2
     have HYZ := hid (And.intro hyz hoz)
     obtain ⟨q0, q1, q2, q3, q4⟩ := Nm.prod_bound (x := x) (y := y) (o := o) (c := c) ⟨ex0, ex1⟩ ⟨ey0, ey1⟩ ⟨eo0, eo1⟩ ⟨hc0, hc1⟩
     have hco : c + o + x * y = x * y + o + c := by omega
     have HCO := hid hco
     have q2' : c + o + x * y < 18446744073709551616 := by omega
     clear hst hyk hok c2 hyz hoz hco q2 
     have k0 : (0 : Int) ≤ (i : Int) := by omega
     have k1 : (i : Int) < (xs.length : Int) := by omega
     have k2 : (0 : Int) ≤ (i : Int) + (j : Int) := by omega
     have k3 : (i : Int) + (j : Int) ≤ (xs.length : Int) + (ys.length : Int) := by omega
     have k3a : (i : Int) + (j : Int) < (xs.length : Int) + (ys.length : Int) + 1 := by omega
     have k3b : ¬ ((i : Int) + (j : Int) < 0) := by omega
     have k3c : ¬ ((xs.length : Int) + (ys.length : Int) + 1 ≤ (i : Int) + (j : Int)) := by omega
     have k3d : ((i : Int) + (j : Int)).toNat = i + j := by omega
     have k3e : i + j < xs.length + ys.length + 1 := by omega
     have k3f : i + j ≤ xs.length + ys.length := by omega
     have k4 : IntKind.i64.wrap ((i : Int) + (j : Int)) = (i : Int) + (j : Int) := i64_in _ (by omega) (by omega)
     have k5 : IntKind.u64.wrap (c + o) = c + o := by rw [IntKind.wrap_u64]; omega
     have k6 : IntKind.u64.wrap (x * y) = x * y := by rw [IntKind.wrap_u64]; omega
     have k7 : IntKind.u64.wrap (c + o + x * y) = c + o + x * y := by rw [IntKind.wrap_u64]; omega
     go_wp2_with fail
     go_region_held3 (fun w' => w'.cell? ⟨w.heap.size + 1 + 1 + 1, i + j, none⟩ = some (.int .u32 o) ∧ w'.cell? ⟨w.heap.size, 1, none⟩ = some (.slice (some ⟨ba, off, none⟩) xs.length cap) ∧ w'.cell? ⟨ba, off + i, none⟩ = some (.int .u32 x) ∧ w'.cell? ⟨w.heap.size + 1, 1, none⟩ = some (.slice b ys.length cap')) (first | assumption | exact ⟨hcell, c01, hca, c11⟩)
      (first | (go_at_call 176; refine (C2.out _ (by exact Sl.drew sy)).mono ?_; rintro e w' ⟨rfl, rfl⟩))
     go_wp2_with fail
     go_roundw
     case rel =>
      refine ⟨j + 1, os.set (i + j) ((c + o + x * y) % 4294967296), (c + o + x * y) / 4294967296, by omega, by go_num, rfl, by rw [HCO.out]; exact q4, by rw [HCO.out]; exact q3, by rw [List.length_set]; exact H0.out.1, hrw.set (by omega) _, H0.out.2.1.set _ (by omega), HST.out _ _ (by have := HCO.out; omega), fun m hm => by rw [Nm.getD_set _ _ _ _ (by omega), if_neg (by omega)]; exact H0.out.2.2.2 m hm, fun hm => by rw [Nm.getD_set _ _ _ _ (by omega), if_neg (by omega)]; exact H1.out.1 (by omega), fun hm => ?_, (hb.drew).setCell (by have := HSW.out; simp; omega) _⟩
      have h1 := HYZ.out.1 (by omega)
      have h2 := HYZ.out.2 (by omega)
      rw [h1, h2]; simp; omega
     case measure => simp [intOf]; omega
    ·have hzc := H1.out.2 (by omega)
     have hnx := (hzc ▸ H0.out.2.2.1).next (j := j) (by omega)
     have HN := hid hnx
     clear hnx hzc
     go_wp2_with fail
     go_roundw
     case rel => exact ⟨i + 1, os, by omega, by go_num, H0.out.1, hrw, H0.out.2.1, HN.out, fun m hm => H0.out.2.2.2 m (by omega), hb⟩
     case measure => simp [intOf]; omega
  ·obtain rfl : i = xs.length := by omega
   have hlen := H0.out.1
   have hown := hrw.own (base := w.heap.size) (by omega) (by unfold maxLen; omega)
   rw [hlen] at hown
   have hfull := H0.out.2.2.1.full (Nat.le_refl _)
   have cm := made_v (na != nb) (some ⟨w.heap.size + 1 + 1 + 1, 0, none⟩) (xs.length + ys.length + 1) os wr (by have := hown.sl; exact this) H0.out.2.1 (by omega) v (HX.out os hfull)
   rw [hlen] at cm
   have CM := hid cm
   clear hown hfull hlen cm
   go_wp2_with fail
   refine CM.out.mono ?_
   rintro e w2 ⟨a2, c2, rfl, ho2, hb2⟩
   obtain ⟨z0, z1, zf0, zf1⟩ := (Rz.below hb).below hb2
   have l2 : w.heap.size + 1 + 1 < wr.heap.size := by have := hb.size; have := HSW.out; omega
   go_wp2
   refine bodyPost_ret (v := .agg #[.bool (Nm.wn v), .slice a2 (Nm.wl v).length c2]) (by simp [results, Tryz.results208, go_sem, z0, z1]) rfl ⟨a2, c2, rfl, ?_, ?_⟩
   ·exact Own.base ((ho2.setBelow (by simp; omega) _).setBelow (by simp; omega) _) (by omega)
   ·exact ((bel_go (bel_go hbW hb) hb2).setCell (by simp; omega) _).setCell (by simp; omega) _
theorem swapped {w : World} {b b' z : Nat} {u0 u1 v0 v1 r0 r1 : Value} (hx : R2 w b u0 u1) (hy : R2 w b' v0 v1) (hz : R2 w z r0 r1) (n1 : b ≠ b') (n2 : z ≠ b) (n3 : z ≠ b') :
  Box ((((w.setCell ⟨b, 0, none⟩ v0).setCell ⟨b, 1, none⟩ v1).setCell ⟨b', 0, none⟩ u0).setCell ⟨b', 1, none⟩ u1) b v0 v1 ∧
  Box ((((w.setCell ⟨b, 0, none⟩ v0).setCell ⟨b, 1, none⟩ v1).setCell ⟨b', 0, none⟩ u0).setCell ⟨b', 1, none⟩ u1) b' u0 u1 ∧
  R2 ((((w.setCell ⟨b, 0, none⟩ v0).setCell ⟨b, 1, none⟩ v1).setCell ⟨b', 0, none⟩ u0).setCell ⟨b', 1, none⟩ u1) z r0 r1 := by
 have h1 := ((R2.set hx v0 v1).other (p := ⟨b', 0, none⟩) n1 u0).other (p := ⟨b', 1, none⟩) n1 u1
 have h2 := R2.set ((hy.other (p := ⟨b, 0, none⟩) (Ne.symm n1) v0).other (p := ⟨b, 1, none⟩) (Ne.symm n1) v1) u0 u1
 have h3 := (((hz.other (p := ⟨b, 0, none⟩) n2 v0).other (p := ⟨b, 1, none⟩) n2 v1).other (p := ⟨b', 0, none⟩) n3 u0).other (p := ⟨b', 1, none⟩) n3 u1
 exact ⟨⟨h1.c0, h1.c1⟩, ⟨h2.c0, h2.c1⟩, h3⟩
theorem wadd_impl_no0 (na nb : Bool) (a b : Option Addr) (cap cap' : Nat) (xs ys : List Int) (w : World) (hx : Sl .u32 w (.slice a xs.length cap) xs) (hy : Sl .u32 w (.slice b ys.length cap') ys) (dx : Nm.Dg xs) (dy : Nm.Dg ys) (hl : xs.length ≤ 1048576) (hl' : ys.length ≤ 1048576) (x : Int) (h1 : okB na xs = false) :
  Calls Tryz.prog 61 #[.agg #[.bool na, .slice a xs.length cap], .agg #[.bool nb, .slice b ys.length cap']] w fun e w' => ∃ a' c', e = .returned (.tuple #[.agg #[.bool (opN (okB na xs && okB nb ys) x), .slice a' (opL (okB na xs && okB nb ys) x).length c'], .bool (opO (okB na xs && okB nb ys) x)]) ∧ Own w' w.heap.size a' c' (opL (okB na xs && okB nb ys) x) ∧ Below w.heap.size w w' := by
 have HK : Hid ((okB na xs && okB nb ys) = false) := hid (by rw [h1]; rfl)
 go_enter Tryz.func61, Tryz.ntmps61
 have Bx := ((Box.new w (.bool na) (.slice a xs.length cap) 32).alloc (.cells #[.bool nb, .slice b ys.length cap'] 32)).alloc (.cells #[.bool false, .slice none 0 0] 32)
 have By := (Box.new2 w (.cells #[.bool na, .slice a xs.length cap] 32) (.bool nb) (.slice b ys.length cap') 32).alloc (.cells #[.bool false, .slice none 0 0] 32)
 have Fx := ((R2.new w (.bool na) (.slice a xs.length cap) 32).alloc (.cells #[.bool nb, .slice b ys.length cap'] 32)).alloc (.cells #[.bool false, .slice none 0 0] 32)
 have Fy := (R2.new2 w (.cells #[.bool na, .slice a xs.length cap] 32) (.bool nb) (.slice b ys.length cap') 32).alloc (.cells #[.bool false, .slice none 0 0] 32)
 have Rz : R2 (((w.alloc (.cells #[.bool na, .slice a xs.length cap] 32)).alloc (.cells #[.bool nb, .slice b ys.length cap'] 32)).alloc (.cells #[.bool false, .slice none 0 0] 32)) (w.heap.size + 1 + 1) (.bool false) (.slice none 0 0) := by simpa using R2.new2 (w.alloc (.cells #[.bool na, .slice a xs.length cap] 32)) (.cells #[.bool nb, .slice b ys.length cap'] 32) (.bool false) (.slice none 0 0) 32
 have sx := ((hx.alloc (.cells #[.bool na, .slice a xs.length cap] 32)).alloc (.cells #[.bool nb, .slice b ys.length cap'] 32)).alloc (.cells #[.bool false, .slice none 0 0] 32)
 have sy := ((hy.alloc (.cells #[.bool na, .slice a xs.length cap] 32)).alloc (.cells #[.bool nb, .slice b ys.length cap'] 32)).alloc (.cells #[.bool false, .slice none 0 0] 32)
 have hbW : Below w.heap.size w (((w.alloc (.cells #[.bool na, .slice a xs.length cap] 32)).alloc (.cells #[.bool nb, .slice b ys.length cap'] 32)).alloc (.cells #[.bool false, .slice none 0 0] 32)) := (by repeat (first | exact bz0 _ _ | refine bz1 ?_ | refine bz2 ?_ _ | refine bz3 ?_ _ | refine bz5 ?_ _ | refine bz6 ?_ _))
 go_wp2_with fail
 refine (ok_impl na a cap xs _ sx (by omega)).mono ?_
 rintro e W ⟨rfl, hb1⟩
 replace Bx := Bx.below hb1
 replace By := By.below hb1
 replace Fx := Fx.below hb1
 replace Fy := Fy.below hb1
 replace Rz := Rz.below hb1
 replace sx := sx.below hb1
 replace sy := sy.below hb1
 replace hbW := bel_go hbW hb1
 obtain ⟨z0, z1, zf0, zf1⟩ := Rz
 go_wp2
 refine bodyPost_ret (v := .tuple #[.agg #[.bool false, .slice none 0 0], .bool false]) (by simp [results, Tryz.results61, go_sem, z0, z1]) rfl ⟨none, 0, ?_, ?_, ?_⟩
 ·rw [HK.out, (op_no x).1, (op_no x).2.1, (op_no x).2.2]; rfl
 ·rw [HK.out, (op_no x).1]; exact Own.nil _ _
 ·exact (hbW.setCell (by simp; omega) _).setCell (by simp; omega) _
theorem wadd_impl_no1 (na nb : Bool) (a b : Option Addr) (cap cap' : Nat) (xs ys : List Int) (w : World) (hx : Sl .u32 w (.slice a xs.length cap) xs) (hy : Sl .u32 w (.slice b ys.length cap') ys) (dx : Nm.Dg xs) (dy : Nm.Dg ys) (hl : xs.length ≤ 1048576) (hl' : ys.length ≤ 1048576) (x : Int) (h1 : okB na xs = true) (h2 : okB nb ys = false) :
  Calls Tryz.prog 61 #[.agg #[.bool na, .slice a xs.length cap], .agg #[.bool nb, .slice b ys.length cap']] w fun e w' => ∃ a' c', e = .returned (.tuple #[.agg #[.bool (opN (okB na xs && okB nb ys) x), .slice a' (opL (okB na xs && okB nb ys) x).length c'], .bool (opO (okB na xs && okB nb ys) x)]) ∧ Own w' w.heap.size a' c' (opL (okB na xs && okB nb ys) x) ∧ Below w.heap.size w w' := by
 have HK : Hid ((okB na xs && okB nb ys) = false) := hid (by rw [h1, h2]; rfl)
 go_enter Tryz.func61, Tryz.ntmps61
 have Bx := ((Box.new w (.bool na) (.slice a xs.length cap) 32).alloc (.cells #[.bool nb, .slice b ys.length cap'] 32)).alloc (.cells #[.bool false, .slice none 0 0] 32)
 have By := (Box.new2 w (.cells #[.bool na, .slice a xs.length cap] 32) (.bool nb) (.slice b ys.length cap') 32).alloc (.cells #[.bool false, .slice none 0 0] 32)
 have Fx := ((R2.new w (.bool na) (.slice a xs.length cap) 32).alloc (.cells #[.bool nb, .slice b ys.length cap'] 32)).alloc (.cells #[.bool false, .slice none 0 0] 32)
 have Fy := (R2.new2 w (.cells #[.bool na, .slice a xs.length cap] 32) (.bool nb) (.slice b ys.length cap') 32).alloc (.cells #[.bool false, .slice none 0 0] 32)
 have Rz : R2 (((w.alloc (.cells #[.bool na, .slice a xs.length cap] 32)).alloc (.cells #[.bool nb, .slice b ys.length cap'] 32)).alloc (.cells #[.bool false, .slice none 0 0] 32)) (w.heap.size + 1 + 1) (.bool false) (.slice none 0 0) := by simpa using R2.new2 (w.alloc (.cells #[.bool na, .slice a xs.length cap] 32)) (.cells #[.bool nb, .slice b ys.length cap'] 32) (.bool false) (.slice none 0 0) 32
 have sx := ((hx.alloc (.cells #[.bool na, .slice a xs.length cap] 32)).alloc (.cells #[.bool nb, .slice b ys.length cap'] 32)).alloc (.cells #[.bool false, .slice none 0 0] 32)
 have sy := ((hy.alloc (.cells #[.bool na, .slice a xs.length cap] 32)).alloc (.cells #[.bool nb, .slice b ys.length cap'] 32)).alloc (.cells #[.bool false, .slice none 0 0] 32)
 have hbW : Below w.heap.size w (((w.alloc (.cells #[.bool na, .slice a xs.length cap] 32)).alloc (.cells #[.bool nb, .slice b ys.length cap'] 32)).alloc (.cells #[.bool false, .slice none 0 0] 32)) := (by repeat (first | exact bz0 _ _ | refine bz1 ?_ | refine bz2 ?_ _ | refine bz3 ?_ _ | refine bz5 ?_ _ | refine bz6 ?_ _))
 go_wp2_with fail
 refine (ok_impl na a cap xs _ sx (by omega)).mono ?_
 rintro e W ⟨rfl, hb1⟩
 replace Bx := Bx.below hb1
 replace By := By.below hb1
 replace Fx := Fx.below hb1
 replace Fy := Fy.below hb1
 replace Rz := Rz.below hb1
 replace sx := sx.below hb1
 replace sy := sy.below hb1
 replace hbW := bel_go hbW hb1
 obtain ⟨y0, y1⟩ := By
 go_wp2_with fail
 refine (ok_impl nb b cap' ys _ sy (by omega)).mono ?_
 rintro e W2 ⟨rfl, hb2⟩
 replace Rz := Rz.below hb2
 replace hbW := bel_go hbW hb2
 obtain ⟨z0, z1, zf0, zf1⟩ := Rz
 go_wp2
 refine bodyPost_ret (v := .tuple #[.agg #[.bool false, .slice none 0 0], .bool false]) (by simp [results, Tryz.results61, go_sem, z0, z1]) rfl ⟨none, 0, ?_, ?_, ?_⟩
 ·rw [HK.out, (op_no x).1, (op_no x).2.1, (op_no x).2.2]; rfl
 ·rw [HK.out, (op_no x).1]; exact Own.nil _ _
 ·exact (hbW.setCell (by simp; omega) _).setCell (by simp; omega) _
theorem wadd_same (na nb : Bool) (a b : Option Addr) (cap cap' : Nat) (xs ys : List Int) (w : World) (hx : Sl .u32 w (.slice a xs.length cap) xs) (hy : Sl .u32 w (.slice b ys.length cap') ys) (dx : Nm.Dg xs) (dy : Nm.Dg ys) (hl : xs.length ≤ 1048576) (hl' : ys.length ≤ 1048576) (x : Int) (hxv : x = Nm.wv na xs + Nm.wv nb ys) (h1 : okB na xs = true) (h2 : okB nb ys = true) (hc : (na == nb) = true) :
  Calls Tryz.prog 61 #[.agg #[.bool na, .slice a xs.length cap], .agg #[.bool nb, .slice b ys.length cap']] w fun e w' => ∃ a' c', e = .returned (.tuple #[.agg #[.bool (opN (okB na xs && okB nb ys) x), .slice a' (opL (okB na xs && okB nb ys) x).length c'], .bool (opO (okB na xs && okB nb ys) x)]) ∧ Own w' w.heap.size a' c' (opL (okB na xs && okB nb ys) x) ∧ Below w.heap.size w w' := by
 have HX : Hid (∀ os, Nm.val os = Nm.val xs + Nm.val ys → x = Nm.wv na os) := hid (fun os h => by
  have hc' : na = nb := by simpa using hc
  rw [hxv, ← hc']; exact Nm.wv_same h)
 clear hxv
 have HK : Hid ((okB na xs && okB nb ys) = true) := hid (by rw [h1, h2]; rfl)
 obtain ⟨nx, lx⟩ := okB_nz h1
 obtain ⟨ny, ly⟩ := okB_nz h2
 go_enter Tryz.func61, Tryz.ntmps61
 have Bx := ((Box.new w (.bool na) (.slice a xs.length cap) 32).alloc (.cells #[.bool nb, .slice b ys.length cap'] 32)).alloc (.cells #[.bool false, .slice none 0 0] 32)
 have By := (Box.new2 w (.cells #[.bool na, .slice a xs.length cap] 32) (.bool nb) (.slice b ys.length cap') 32).alloc (.cells #[.bool false, .slice none 0 0] 32)
 have Fx := ((R2.new w (.bool na) (.slice a xs.length cap) 32).alloc (.cells #[.bool nb, .slice b ys.length cap'] 32)).alloc (.cells #[.bool false, .slice none 0 0] 32)
 have Fy := (R2.new2 w (.cells #[.bool na, .slice a xs.length cap] 32) (.bool nb) (.slice b ys.length cap') 32).alloc (.cells #[.bool false, .slice none 0 0] 32)
 have Rz : R2 (((w.alloc (.cells #[.bool na, .slice a xs.length cap] 32)).alloc (.cells #[.bool nb, .slice b ys.length cap'] 32)).alloc (.cells #[.bool false, .slice none 0 0] 32)) (w.heap.size + 1 + 1) (.bool false) (.slice none 0 0) := by simpa using R2.new2 (w.alloc (.cells #[.bool na, .slice a xs.length cap] 32)) (.cells #[.bool nb, .slice b ys.length cap'] 32) (.bool false) (.slice none 0 0) 32
 have sx := ((hx.alloc (.cells #[.bool na, .slice a xs.length cap] 32)).alloc (.cells #[.bool nb, .slice b ys.length cap'] 32)).alloc (.cells #[.bool false, .slice none 0 0] 32)
 have sy := ((hy.alloc (.cells #[.bool na, .slice a xs.length cap] 32)).alloc (.cells #[.bool nb, .slice b ys.length cap'] 32)).alloc (.cells #[.bool false, .slice none 0 0] 32)
 have hbW : Below w.heap.size w (((w.alloc (.cells #[.bool na, .slice a xs.length cap] 32)).alloc (.cells #[.bool nb, .slice b ys.length cap'] 32)).alloc (.cells #[.bool false, .slice none 0 0] 32)) := (by repeat (first | exact bz0 _ _ | refine bz1 ?_ | refine bz2 ?_ _ | refine bz3 ?_ _ | refine bz5 ?_ _ | refine bz6 ?_ _))
 go_wp2_with fail
 refine (ok_impl na a cap xs _ sx (by omega)).mono ?_
 rintro e W1 ⟨rfl, hb1⟩
 replace Bx := Bx.below hb1
 replace By := By.below hb1
 replace Fx := Fx.below hb1
 replace Fy := Fy.below hb1
 replace Rz := Rz.below hb1
 replace sx := sx.below hb1
 replace sy := sy.below hb1
 replace hbW := bel_go hbW hb1
 obtain ⟨y0, y1⟩ := By
 go_wp2_with fail
 refine (ok_impl nb b cap' ys _ sy (by omega)).mono ?_
 rintro e W ⟨rfl, hb2⟩
 have By : Box W1 (w.heap.size + 1) (.bool nb) (.slice b ys.length cap') := ⟨y0, y1⟩
 replace Bx := Bx.below hb2
 replace By := By.below hb2
 replace Fx := Fx.below hb2
 replace Fy := Fy.below hb2
 replace Rz := Rz.below hb2
 replace sx := sx.below hb2
 replace sy := sy.below hb2
 replace hbW := bel_go hbW hb2
 have lW : w.heap.size + 1 + 1 < W.heap.size := World.block_lt_of_cell? W _ Rz.c0
 clear y0 y1 hb1 hb2
 have x0 := Bx.1
 have y0 := By.1
 go_wp2_with fail
 go_region_held3 (fun w' => w'.cell? ⟨w.heap.size, 0, none⟩ = some (.bool na) ∧ w'.cell? ⟨w.heap.size, 1, none⟩ = some (.slice a xs.length cap) ∧ w'.cell? ⟨w.heap.size + 1, 1, none⟩ = some (.slice b ys.length cap')) (first | assumption | (refine keep3_set k3.1 k3.2.1 k3.2.2 ?_ ?_ _ _ <;> omega) | exact ⟨Bx.1, Bx.2, By.2⟩)
  (first
   | (go_at_call 161; refine (addLimbs_any a b cap cap' xs ys _ (by exact sx.drew) (by exact sy.drew) dx dy (by omega) (by omega) ).mono ?_; rintro e w2 ⟨a2, c2, os, rfl, ho2, dos, hv, hlo, hb2⟩; have k2 := keep3 (w := W.drew) Bx.1 Bx.2 By.2 hb2; have Rz2 := Rz.drew.below hb2)
   | (go_at_call 105; refine (fitted_v na a2 c2 os W.heap.size _ (by exact ho2) dos hlo x (HX.out os hv)).mono ?_; rintro e w3 ⟨a3, c3, rfl, ho3, hb3⟩; have k3 := keep3 k2.1 k2.2.1 k2.2.2 hb3; have Rz3 := Rz2.below hb3; obtain ⟨z0, z1, zf0, zf1⟩ := Rz3))
 have l2 : W.heap.size ≤ w2.heap.size := hb2.size
 have l3 : w2.heap.size ≤ w3.heap.size := hb3.size
 go_wp2
 obtain ⟨e1, e2, e3⟩ := op_yes x
 refine bodyPost_ret (v := .tuple #[.agg #[.bool (Nm.outN x), .slice a3 (Nm.outL x).length c3], .bool (Nm.fits x)]) (by simp [results, Tryz.results61, go_sem, z0, z1]) rfl ⟨a3, c3, ?_, ?_, ?_⟩
 ·rw [HK.out, e1, e2, e3]
 ·rw [HK.out, e1]
  exact Own.base ((ho3.setBelow (by simp; omega) _).setBelow (by simp; omega) _) (by omega)
 ·exact ((bel_go (bel_go (Below.drew hbW) hb2) hb3).setCell (by simp; omega) _).setCell (by simp; omega) _
theorem wadd_high (na nb : Bool) (a b : Option Addr) (cap cap' : Nat) (xs ys : List Int) (w : World) (hx : Sl .u32 w (.slice a xs.length cap) xs) (hy : Sl .u32 w (.slice b ys.length cap') ys) (dx : Nm.Dg xs) (dy : Nm.Dg ys) (hl : xs.length ≤ 1048576) (hl' : ys.length ≤ 1048576) (x : Int) (hxv : x = Nm.wv na xs + Nm.wv nb ys) (h1 : okB na xs = true) (h2 : okB nb ys = true) (hc : (na == nb) = false) (hm : ¬ cmpL xs ys < 0) :
  Calls Tryz.prog 61 #[.agg #[.bool na, .slice a xs.length cap], .agg #[.bool nb, .slice b ys.length cap']] w fun e w' => ∃ a' c', e = .returned (.tuple #[.agg #[.bool (opN (okB na xs && okB nb ys) x), .slice a' (opL (okB na xs && okB nb ys) x).length c'], .bool (opO (okB na xs && okB nb ys) x)]) ∧ Own w' w.heap.size a' c' (opL (okB na xs && okB nb ys) x) ∧ Below w.heap.size w w' := by
 have HX : Hid (∀ os, Nm.val os = Nm.val xs - Nm.val ys → x = Nm.wv na os) := hid (fun os h => by rw [hxv]; exact Nm.wv_less hc h)
 have nx0 := (okB_nz h1).1
 have ny0 := (okB_nz h2).1
 have hge : Nm.val ys ≤ Nm.val xs := by have := (cmpL_val dx dy nx0 ny0).1; omega
 have hln : ys.length ≤ xs.length := Nm.len_le_of_val dx dy ny0 hge
 have HGE := hid (And.intro hge hln)
 clear hxv hge hln nx0 ny0
 have HK : Hid ((okB na xs && okB nb ys) = true) := hid (by rw [h1, h2]; rfl)
 obtain ⟨nx, lx⟩ := okB_nz h1
 obtain ⟨ny, ly⟩ := okB_nz h2
 go_enter Tryz.func61, Tryz.ntmps61
 have Bx := ((Box.new w (.bool na) (.slice a xs.length cap) 32).alloc (.cells #[.bool nb, .slice b ys.length cap'] 32)).alloc (.cells #[.bool false, .slice none 0 0] 32)
 have By := (Box.new2 w (.cells #[.bool na, .slice a xs.length cap] 32) (.bool nb) (.slice b ys.length cap') 32).alloc (.cells #[.bool false, .slice none 0 0] 32)
 have Fx := ((R2.new w (.bool na) (.slice a xs.length cap) 32).alloc (.cells #[.bool nb, .slice b ys.length cap'] 32)).alloc (.cells #[.bool false, .slice none 0 0] 32)
 have Fy := (R2.new2 w (.cells #[.bool na, .slice a xs.length cap] 32) (.bool nb) (.slice b ys.length cap') 32).alloc (.cells #[.bool false, .slice none 0 0] 32)
 have Rz : R2 (((w.alloc (.cells #[.bool na, .slice a xs.length cap] 32)).alloc (.cells #[.bool nb, .slice b ys.length cap'] 32)).alloc (.cells #[.bool false, .slice none 0 0] 32)) (w.heap.size + 1 + 1) (.bool false) (.slice none 0 0) := by simpa using R2.new2 (w.alloc (.cells #[.bool na, .slice a xs.length cap] 32)) (.cells #[.bool nb, .slice b ys.length cap'] 32) (.bool false) (.slice none 0 0) 32
 have sx := ((hx.alloc (.cells #[.bool na, .slice a xs.length cap] 32)).alloc (.cells #[.bool nb, .slice b ys.length cap'] 32)).alloc (.cells #[.bool false, .slice none 0 0] 32)
 have sy := ((hy.alloc (.cells #[.bool na, .slice a xs.length cap] 32)).alloc (.cells #[.bool nb, .slice b ys.length cap'] 32)).alloc (.cells #[.bool false, .slice none 0 0] 32)
 have hbW : Below w.heap.size w (((w.alloc (.cells #[.bool na, .slice a xs.length cap] 32)).alloc (.cells #[.bool nb, .slice b ys.length cap'] 32)).alloc (.cells #[.bool false, .slice none 0 0] 32)) := (by repeat (first | exact bz0 _ _ | refine bz1 ?_ | refine bz2 ?_ _ | refine bz3 ?_ _ | refine bz5 ?_ _ | refine bz6 ?_ _))
 go_wp2_with fail
 refine (ok_impl na a cap xs _ sx (by omega)).mono ?_
 rintro e W1 ⟨rfl, hb1⟩
 replace Bx := Bx.below hb1
 replace By := By.below hb1
 replace Fx := Fx.below hb1
 replace Fy := Fy.below hb1
 replace Rz := Rz.below hb1
 replace sx := sx.below hb1
 replace sy := sy.below hb1
 replace hbW := bel_go hbW hb1
 obtain ⟨y0, y1⟩ := By
 go_wp2_with fail
 refine (ok_impl nb b cap' ys _ sy (by omega)).mono ?_
 rintro e W ⟨rfl, hb2⟩
 have By : Box W1 (w.heap.size + 1) (.bool nb) (.slice b ys.length cap') := ⟨y0, y1⟩
 replace Bx := Bx.below hb2
 replace By := By.below hb2
 replace Fx := Fx.below hb2
 replace Fy := Fy.below hb2
 replace Rz := Rz.below hb2
 replace sx := sx.below hb2
 replace sy := sy.below hb2
 replace hbW := bel_go hbW hb2
 have lW : w.heap.size + 1 + 1 < W.heap.size := World.block_lt_of_cell? W _ Rz.c0
 clear y0 y1 hb1 hb2
 obtain ⟨x0, x1⟩ := Bx
 obtain ⟨y0, y1⟩ := By
 go_wp2_with fail
 refine (cmpLimbs_any a b cap cap' xs ys _ sx sy (by omega) (by omega)).mono ?_
 rintro e W3 ⟨rfl, hb3⟩
 have Bx : Box W (w.heap.size) (.bool na) (.slice a xs.length cap) := ⟨x0, x1⟩
 have By : Box W (w.heap.size + 1) (.bool nb) (.slice b ys.length cap') := ⟨y0, y1⟩
 have l0 : W.heap.size ≤ W3.heap.size := hb3.size
 replace Bx := Bx.below hb3
 replace By := By.below hb3
 replace Fx := Fx.below hb3
 replace Fy := Fy.below hb3
 replace Rz := Rz.below hb3
 replace sx := sx.below hb3
 replace sy := sy.below hb3
 replace hbW := bel_go hbW hb3
 clear x0 x1 y0 y1 hb3
 have lW : w.heap.size + 1 + 1 < W3.heap.size := World.block_lt_of_cell? W3 _ Rz.c0
 go_wp2_with fail
 go_region_held3 (fun w' => w'.cell? ⟨w.heap.size, 0, none⟩ = some (.bool na) ∧ w'.cell? ⟨w.heap.size, 1, none⟩ = some (.slice a xs.length cap) ∧ w'.cell? ⟨w.heap.size + 1, 1, none⟩ = some (.slice b ys.length cap')) (first | assumption | (refine keep3_set k3.1 k3.2.1 k3.2.2 ?_ ?_ _ _ <;> omega) | exact ⟨Bx.1, Bx.2, By.2⟩)
  (first
   | (go_at_call 162; refine (subLimbs_any a b cap cap' xs ys _ (by exact sx.drew) (by exact sy.drew) dx dy (by omega) HGE.out.2 HGE.out.1).mono ?_; rintro e w2 ⟨a2, c2, os, rfl, ho2, dos, hv, hlo, hb2⟩; have k2 := keep3 (w := W3.drew) Bx.1 Bx.2 By.2 hb2; have Rz2 := Rz.drew.below hb2)
   | (go_at_call 105; refine (fitted_v na a2 c2 os W3.heap.size _ (by exact ho2) dos hlo x (HX.out os hv)).mono ?_; rintro e w3 ⟨a3, c3, rfl, ho3, hb3⟩; have k3 := keep3 k2.1 k2.2.1 k2.2.2 hb3; have Rz3 := Rz2.below hb3; obtain ⟨z0, z1, zf0, zf1⟩ := Rz3))
 have l2 : W3.heap.size ≤ w2.heap.size := hb2.size
 have l3 : w2.heap.size ≤ w3.heap.size := hb3.size
 go_wp2
 obtain ⟨e1, e2, e3⟩ := op_yes x
 refine bodyPost_ret (v := .tuple #[.agg #[.bool (Nm.outN x), .slice a3 (Nm.outL x).length c3], .bool (Nm.fits x)]) (by simp [results, Tryz.results61, go_sem, z0, z1]) rfl ⟨a3, c3, ?_, ?_, ?_⟩
 ·rw [HK.out, e1, e2, e3]
 ·rw [HK.out, e1]
  exact Own.base ((ho3.setBelow (by simp; omega) _).setBelow (by simp; omega) _) (by omega)
 ·exact ((bel_go (bel_go (Below.drew hbW) hb2) hb3).setCell (by simp; omega) _).setCell (by simp; omega) _
theorem wadd_low (na nb : Bool) (a b : Option Addr) (cap cap' : Nat) (xs ys : List Int) (w : World) (hx : Sl .u32 w (.slice a xs.length cap) xs) (hy : Sl .u32 w (.slice b ys.length cap') ys) (dx : Nm.Dg xs) (dy : Nm.Dg ys) (hl : xs.length ≤ 1048576) (hl' : ys.length ≤ 1048576) (x : Int) (hxv : x = Nm.wv na xs + Nm.wv nb ys) (h1 : okB na xs = true) (h2 : okB nb ys = true) (hc : (na == nb) = false) (hm : cmpL xs ys < 0) :
  Calls Tryz.prog 61 #[.agg #[.bool na, .slice a xs.length cap], .agg #[.bool nb, .slice b ys.length cap']] w fun e w' => ∃ a' c', e = .returned (.tuple #[.agg #[.bool (opN (okB na xs && okB nb ys) x), .slice a' (opL (okB na xs && okB nb ys) x).length c'], .bool (opO (okB na xs && okB nb ys) x)]) ∧ Own w' w.heap.size a' c' (opL (okB na xs && okB nb ys) x) ∧ Below w.heap.size w w' := by
 have HX : Hid (∀ os, Nm.val os = Nm.val ys - Nm.val xs → x = Nm.wv nb os) := hid (fun os h => by rw [hxv]; exact Nm.wv_less' hc h)
 have nx0 := (okB_nz h1).1
 have ny0 := (okB_nz h2).1
 have hge : Nm.val xs ≤ Nm.val ys := by have := (cmpL_val dx dy nx0 ny0).1; omega
 have hln : xs.length ≤ ys.length := Nm.len_le_of_val dy dx nx0 hge
 have HGE := hid (And.intro hge hln)
 clear hxv hge hln nx0 ny0
 have HK : Hid ((okB na xs && okB nb ys) = true) := hid (by rw [h1, h2]; rfl)
 obtain ⟨nx, lx⟩ := okB_nz h1
 obtain ⟨ny, ly⟩ := okB_nz h2
 go_enter Tryz.func61, Tryz.ntmps61
 have Bx := ((Box.new w (.bool na) (.slice a xs.length cap) 32).alloc (.cells #[.bool nb, .slice b ys.length cap'] 32)).alloc (.cells #[.bool false, .slice none 0 0] 32)
 have By := (Box.new2 w (.cells #[.bool na, .slice a xs.length cap] 32) (.bool nb) (.slice b ys.length cap') 32).alloc (.cells #[.bool false, .slice none 0 0] 32)
 have Fx := ((R2.new w (.bool na) (.slice a xs.length cap) 32).alloc (.cells #[.bool nb, .slice b ys.length cap'] 32)).alloc (.cells #[.bool false, .slice none 0 0] 32)
 have Fy := (R2.new2 w (.cells #[.bool na, .slice a xs.length cap] 32) (.bool nb) (.slice b ys.length cap') 32).alloc (.cells #[.bool false, .slice none 0 0] 32)
 have Rz : R2 (((w.alloc (.cells #[.bool na, .slice a xs.length cap] 32)).alloc (.cells #[.bool nb, .slice b ys.length cap'] 32)).alloc (.cells #[.bool false, .slice none 0 0] 32)) (w.heap.size + 1 + 1) (.bool false) (.slice none 0 0) := by simpa using R2.new2 (w.alloc (.cells #[.bool na, .slice a xs.length cap] 32)) (.cells #[.bool nb, .slice b ys.length cap'] 32) (.bool false) (.slice none 0 0) 32
 have sx := ((hx.alloc (.cells #[.bool na, .slice a xs.length cap] 32)).alloc (.cells #[.bool nb, .slice b ys.length cap'] 32)).alloc (.cells #[.bool false, .slice none 0 0] 32)
 have sy := ((hy.alloc (.cells #[.bool na, .slice a xs.length cap] 32)).alloc (.cells #[.bool nb, .slice b ys.length cap'] 32)).alloc (.cells #[.bool false, .slice none 0 0] 32)
 have hbW : Below w.heap.size w (((w.alloc (.cells #[.bool na, .slice a xs.length cap] 32)).alloc (.cells #[.bool nb, .slice b ys.length cap'] 32)).alloc (.cells #[.bool false, .slice none 0 0] 32)) := (by repeat (first | exact bz0 _ _ | refine bz1 ?_ | refine bz2 ?_ _ | refine bz3 ?_ _ | refine bz5 ?_ _ | refine bz6 ?_ _))
 go_wp2_with fail
 refine (ok_impl na a cap xs _ sx (by omega)).mono ?_
 rintro e W1 ⟨rfl, hb1⟩
 replace Bx := Bx.below hb1
 replace By := By.below hb1
 replace Fx := Fx.below hb1
 replace Fy := Fy.below hb1
 replace Rz := Rz.below hb1
 replace sx := sx.below hb1
 replace sy := sy.below hb1
 replace hbW := bel_go hbW hb1
 obtain ⟨y0, y1⟩ := By
 go_wp2_with fail
 refine (ok_impl nb b cap' ys _ sy (by omega)).mono ?_
 rintro e W ⟨rfl, hb2⟩
 have By : Box W1 (w.heap.size + 1) (.bool nb) (.slice b ys.length cap') := ⟨y0, y1⟩
 replace Bx := Bx.below hb2
 replace By := By.below hb2
 replace Fx := Fx.below hb2
 replace Fy := Fy.below hb2
 replace Rz := Rz.below hb2
 replace sx := sx.below hb2
 replace sy := sy.below hb2
 replace hbW := bel_go hbW hb2
 have lW : w.heap.size + 1 + 1 < W.heap.size := World.block_lt_of_cell? W _ Rz.c0
 clear y0 y1 hb1 hb2
 obtain ⟨x0, x1⟩ := Bx
 obtain ⟨y0, y1⟩ := By
 go_wp2_with fail
 refine (cmpLimbs_any a b cap cap' xs ys _ sx sy (by omega) (by omega)).mono ?_
 rintro e W3 ⟨rfl, hb3⟩
 have Bx : Box W (w.heap.size) (.bool na) (.slice a xs.length cap) := ⟨x0, x1⟩
 have By : Box W (w.heap.size + 1) (.bool nb) (.slice b ys.length cap') := ⟨y0, y1⟩
 have l0 : W.heap.size ≤ W3.heap.size := hb3.size
 replace Bx := Bx.below hb3
 replace By := By.below hb3
 replace Fx := Fx.below hb3
 replace Fy := Fy.below hb3
 replace Rz := Rz.below hb3
 replace sx := sx.below hb3
 replace sy := sy.below hb3
 replace hbW := bel_go hbW hb3
 clear x0 x1 y0 y1 hb3
 have lW3 : w.heap.size + 1 + 1 < W3.heap.size := World.block_lt_of_cell? W3 _ Rz.c0
 obtain ⟨x0, x1, xf0, xf1⟩ := Fx
 obtain ⟨y0, y1, yf0, yf1⟩ := Fy
 have hfin := swapped (w := W3) ⟨x0, x1, xf0, xf1⟩ ⟨y0, y1, yf0, yf1⟩ Rz (by omega) (by omega) (by omega)
 have hbs : Below w.heap.size w ((((W3.setCell ⟨w.heap.size, 0, none⟩ (.bool nb)).setCell ⟨w.heap.size, 1, none⟩ (.slice b ys.length cap')).setCell ⟨w.heap.size + 1, 0, none⟩ (.bool na)).setCell ⟨w.heap.size + 1, 1, none⟩ (.slice a xs.length cap)) := (((hbW.setCell (by simp) _).setCell (by simp) _).setCell (by simp) _).setCell (by simp) _
 have hss := And.intro (hx.below hbs) (hy.below hbs)
 go_wp2_with fail
 generalize (((W3.setCell ⟨w.heap.size, 0, none⟩ (.bool nb)).setCell ⟨w.heap.size, 1, none⟩ (.slice b ys.length cap')).setCell ⟨w.heap.size + 1, 0, none⟩ (.bool na)).setCell ⟨w.heap.size + 1, 1, none⟩ (.slice a xs.length cap) = W4 at hfin hbs hss ⊢
 clear x0 x1 xf0 xf1 y0 y1 yf0 yf1 Bx By sx sy hbW Rz
 obtain ⟨By, Bx, Rz⟩ := hfin
 obtain ⟨sx, sy⟩ := hss
 have hbW := hbs
 have lW : w.heap.size + 1 + 1 < W4.heap.size := World.block_lt_of_cell? W4 _ Rz.c0
 go_region_held3 (fun w' => w'.cell? ⟨w.heap.size, 0, none⟩ = some (.bool nb) ∧ w'.cell? ⟨w.heap.size, 1, none⟩ = some (.slice b ys.length cap') ∧ w'.cell? ⟨w.heap.size + 1, 1, none⟩ = some (.slice a xs.length cap)) (first | assumption | (refine keep3_set k3.1 k3.2.1 k3.2.2 ?_ ?_ _ _ <;> omega) | exact ⟨By.1, By.2, Bx.2⟩)
  (first
   | (go_at_call 162; refine (subLimbs_any b a cap' cap ys xs _ (by exact sy.drew) (by exact sx.drew) dy dx (by omega) HGE.out.2 HGE.out.1).mono ?_; rintro e w2 ⟨a2, c2, os, rfl, ho2, dos, hv, hlo, hb2⟩; have k2 := keep3 (w := W4.drew) By.1 By.2 Bx.2 hb2; have Rz2 := Rz.drew.below hb2)
   | (go_at_call 105; refine (fitted_v nb a2 c2 os W4.heap.size _ (by exact ho2) dos hlo x (HX.out os hv)).mono ?_; rintro e w3 ⟨a3, c3, rfl, ho3, hb3⟩; have k3 := keep3 k2.1 k2.2.1 k2.2.2 hb3; have Rz3 := Rz2.below hb3; obtain ⟨z0, z1, zf0, zf1⟩ := Rz3))
 have l2 : W4.heap.size ≤ w2.heap.size := hb2.size
 have l3 : w2.heap.size ≤ w3.heap.size := hb3.size
 go_wp2
 obtain ⟨e1, e2, e3⟩ := op_yes x
 refine bodyPost_ret (v := .tuple #[.agg #[.bool (Nm.outN x), .slice a3 (Nm.outL x).length c3], .bool (Nm.fits x)]) (by simp [results, Tryz.results61, go_sem, z0, z1]) rfl ⟨a3, c3, ?_, ?_, ?_⟩
 ·rw [HK.out, e1, e2, e3]
 ·rw [HK.out, e1]
  exact Own.base ((ho3.setBelow (by simp; omega) _).setBelow (by simp; omega) _) (by omega)
 ·exact ((bel_go (bel_go (Below.drew hbW) hb2) hb3).setCell (by simp; omega) _).setCell (by simp; omega) _
theorem wadd_impl (na nb : Bool) (a b : Option Addr) (cap cap' : Nat) (xs ys : List Int) (w : World) (hx : Sl .u32 w (.slice a xs.length cap) xs) (hy : Sl .u32 w (.slice b ys.length cap') ys) (dx : Nm.Dg xs) (dy : Nm.Dg ys) (hl : xs.length ≤ 1048576) (hl' : ys.length ≤ 1048576) (x : Int) (hxv : x = Nm.wv na xs + Nm.wv nb ys) :
  Calls Tryz.prog 61 #[.agg #[.bool na, .slice a xs.length cap], .agg #[.bool nb, .slice b ys.length cap']] w fun e w' => ∃ a' c', e = .returned (.tuple #[.agg #[.bool (opN (okB na xs && okB nb ys) x), .slice a' (opL (okB na xs && okB nb ys) x).length c'], .bool (opO (okB na xs && okB nb ys) x)]) ∧ Own w' w.heap.size a' c' (opL (okB na xs && okB nb ys) x) ∧ Below w.heap.size w w' := by
 cases h1 : okB na xs
 ·have := wadd_impl_no0 na nb a b cap cap' xs ys w hx hy dx dy hl hl' x h1
  rwa [h1] at this
 ·cases h2 : okB nb ys
  ·have := wadd_impl_no1 na nb a b cap cap' xs ys w hx hy dx dy hl hl' x h1 h2
   rwa [h1, h2] at this
  ·cases hc : (na == nb)
   ·by_cases hm : cmpL xs ys < 0
    ·have := wadd_low na nb a b cap cap' xs ys w hx hy dx dy hl hl' x hxv h1 h2 hc hm
     rwa [h1, h2] at this
    ·have := wadd_high na nb a b cap cap' xs ys w hx hy dx dy hl hl' x hxv h1 h2 hc hm
     rwa [h1, h2] at this
   ·have := wadd_same na nb a b cap cap' xs ys w hx hy dx dy hl hl' x hxv h1 h2 hc
    rwa [h1, h2] at this
end Go.Proofs.YtkfjmcdniohljaaGreatDoor
