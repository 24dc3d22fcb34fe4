/-
  Several texts in one: WideX, WideY, RJ, Laid, LaidB.
-/
import Derived.Test.YtapjclcjojadaaaGreatDoorG24
import Derived.Test.YtapjclcjojadaaaGreatDoorG04
import Derived.Test.YtapjclcjojadaaaGreatDoorG17
import Derived.Deep.RegionHeld3
import Derived.Test.YtapjclcjojadaaaGreatDoorCards
import Derived.Test.YtapjclcjojadaaaGreatDoorTie
import Derived.Test.YtapjclcjojadaaaGreatDoorG05
import Derived.ProofKit
import Derived.OpenShut
import Derived.WalkSmall
import Derived.Deep.DeepHandedRow
import Derived.Deep.Strs
import Derived.Lib.LaidTab
import Derived.Test.YtapjclcjojadaaaGreatDoorG14
import Derived.LaidSub
import Derived.MakeChecks
/-
  Products of wides, by the specification.
-/
namespace Go.Proofs.YtapjclcjojadaaaGreatDoor
set_option linter.unusedVariables false
set_option linter.unusedSimpArgs false
open Go.RowKit Go.Deep
theorem mk2 (N M : Nat) (h : N ≤ 400000) (h' : M ≤ 400000) : ∀ w : World, (Instr.makeSlice 22 (.int .i64 ((N : Int) + (M : Int) + 1)) (.int .i64 ((N : Int) + (M : Int) + 1))).run Tryz.prog w = .ok (.slice (some ⟨w.heap.size, 0, none⟩) (N + M + 1) (N + M + 1)) (w.alloc (.cells (madeCells #[.int .u32 0] (N + M + 1)) 147)) :=
  run_make_row' (P := Tryz.prog) 22 147 (.int .u32 0) 4 Tryz.underlying22 info32 rfl .i64 .i64 (N + M + 1) (by omega) (by omega)
theorem i64_in (n : Int) (h0 : -9223372036854775808 ≤ n) (h1 : n ≤ 9223372036854775807) : IntKind.i64.wrap n = n := by rw [IntKind.wrap_i64]; omega
theorem keep_mul {w w' : World} {p q r s : Addr} {u v x y : Value} (h0 : w.cell? p = some u) (h1 : w.cell? q = some v) (h2 : w.cell? r = some x) (h3 : w.cell? s = some y) (hb : w' = w) : w'.cell? p = some u ∧ w'.cell? q = some v ∧ w'.cell? r = some x ∧ w'.cell? s = some y := by
  subst hb; exact ⟨h0, h1, h2, h3⟩
set_option maxRecDepth 10000 in
set_option maxHeartbeats 3200000 in
theorem l1mul_any (na nb : Bool) (a b : Option Addr) (cap cap' : Nat) (xs ys : List Int) (w : World) (hx : Sl .u32 w (.slice a xs.length cap) xs) (hy : Sl .u32 w (.slice b ys.length cap') ys) (dx : Nm.Dg xs) (dy : Nm.Dg ys) (nx : Nm.Nz xs) (ny : Nm.Nz ys) (hl : xs.length ≤ 400000) (hl' : ys.length ≤ 400000) (x : Int) (hx0 : x = Nm.wv na xs * Nm.wv nb ys) :
    Calls Tryz.prog 126 #[.agg #[.bool na, .slice a xs.length cap], .agg #[.bool nb, .slice b ys.length cap']] w fun e w' => ∃ a' c', e = .returned (.agg #[.bool (Nm.wn x), .slice a' (Nm.wl x).length c']) ∧ Own w' w.heap.size a' c' (Nm.wl x) ∧ Below w.heap.size w w' := by
  have HX : Hid (∀ os, Nm.val os = Nm.val xs * Nm.val ys → x = Nm.wv (na != nb) os) := hid (fun os h => by rw [hx0]; exact Nm.wv_mul h)
  clear hx0
  obtain ⟨v, hv⟩ : ∃ v, v = x := ⟨_, rfl⟩
  rw [← hv] at HX ⊢
  clear hv x
  have hmk := mk2 xs.length ys.length hl hl'
  obtain ⟨-, hx1, hx2, hx3⟩ := hx.cells
  have HX3 := hid hx3
  clear hx3
  go_enter Tryz.func126, Tryz.ntmps126
  have Bx := ((Box.new w (.bool na) (.slice a xs.length cap) 29).alloc (.cells #[.bool nb, .slice b ys.length cap'] 29)).alloc (.cells #[.bool false, .slice none 0 0] 29)
  have By := (Box.new2 w (.cells #[.bool na, .slice a xs.length cap] 29) (.bool nb) (.slice b ys.length cap') 29).alloc (.cells #[.bool false, .slice none 0 0] 29)
  have Rz : R2 (((w.alloc (.cells #[.bool na, .slice a xs.length cap] 29)).alloc (.cells #[.bool nb, .slice b ys.length cap'] 29)).alloc (.cells #[.bool false, .slice none 0 0] 29)) (w.heap.size + 1 + 1) (.bool false) (.slice none 0 0) := by simpa using R2.new2 (w.alloc (.cells #[.bool na, .slice a xs.length cap] 29)) (.cells #[.bool nb, .slice b ys.length cap'] 29) (.bool false) (.slice none 0 0) 29
  have hbW : Below w.heap.size w (((w.alloc (.cells #[.bool na, .slice a xs.length cap] 29)).alloc (.cells #[.bool nb, .slice b ys.length cap'] 29)).alloc (.cells #[.bool false, .slice none 0 0] 29)) := (by repeat (first | exact Below.refl _ _ | refine Below.drew ?_ | refine bel_dn ?_ _ | refine bel_al ?_ _ | refine Below.setCell ?_ (by first | omega | (simp; done) | (simp; omega)) _ | refine Below.alloc ?_ (by first | omega | (simp; done) | (simp; omega)) _))
  have hsW : (((w.alloc (.cells #[.bool na, .slice a xs.length cap] 29)).alloc (.cells #[.bool nb, .slice b ys.length cap'] 29)).alloc (.cells #[.bool false, .slice none 0 0] 29)).heap.size = w.heap.size + 1 + 1 + 1 := by simp
  go_wp2_with fail
  clear hmk
  generalize hW : ((w.alloc (.cells #[.bool na, .slice a xs.length cap] 29)).alloc (.cells #[.bool nb, .slice b ys.length cap'] 29)).alloc (.cells #[.bool false, .slice none 0 0] 29) = W at Bx By Rz hbW hsW ⊢
  clear hW
  have HSW := hid hsW
  clear hsW
  go_loopw [6] (fun iv wr => ∃ i : Nat, ∃ os : List Int, i ≤ xs.length ∧ iv = .int .i64 i ∧ os.length = xs.length + ys.length + 1 ∧ Rw wr (w.heap.size + 1 + 1 + 1) os ∧ Nm.Dg os ∧ Nm.MulAt xs ys os i 0 0 ∧ (∀ m, i + ys.length ≤ m → os.getD m 0 = 0) ∧ Below W.heap.size W wr) (fun iv _ => xs.length - (intOf iv).toNat)
  case atStart => exact ⟨0, List.replicate (xs.length + ys.length + 1) 0, Nat.zero_le _, rfl, by simp, by have := Rw.made W (xs.length + ys.length + 1); rwa [HSW.out] at this, Nm.Dg.replicate _, Nm.MulAt.zero _ _ _ (Nm.val_replicate _), fun m _ => Nm.getD_replicate _ m, (by repeat (first | exact Below.refl _ _ | refine Below.drew ?_ | refine bel_dn ?_ _ | refine bel_al ?_ _ | refine Below.setCell ?_ (by first | omega | (simp; done) | (simp; omega)) _ | refine Below.alloc ?_ (by first | omega | (simp; done) | (simp; omega)) _))⟩
  case round =>
    obtain ⟨i, os, hi, rfl, hol, hrw, hdo, hmul, hzero, hb⟩ := hrel
    have H0 := hid (And.intro hol (And.intro hdo (And.intro hmul hzero)))
    clear hol hdo hmul hzero
    obtain ⟨c00, c01⟩ := Bx.below hb
    obtain ⟨c10, c11⟩ := By.below hb
    by_cases hlt : i < xs.length
    · obtain ⟨ba, off, rfl, hcx⟩ := HX3.out (by omega)
      have hca0 := hcx i hlt
      have hbl := World.block_lt_of_cell? w _ hca0
      simp at hbl
      have hcW : W.cell? ⟨ba, off + i, none⟩ = some (.int .u32 (xs.getD i 0)) := (hbW.cell (p := ⟨ba, off + i, none⟩) hbl).trans hca0
      obtain ⟨ex0, ex1⟩ := dx.getD i
      obtain ⟨x, hxk⟩ : ∃ x, x = xs.getD i 0 := ⟨_, rfl⟩
      rw [← hxk] at hcW ex0 ex1
      have HXK := hid hxk
      have HCW := hid hcW
      have hwW : w.heap.size ≤ W.heap.size := hbW.size
      clear hxk hca0 hcx hcW
      go_wp2_with fail
      clear c00 c01 c10 c11
      go_loopw [7, 8] (fun cy jv wr => ∃ j : Nat, ∃ os : List Int, ∃ c : Int, j ≤ ys.length + 1 ∧ jv = .int .i64 j ∧ cy = .int .u64 c ∧ 0 ≤ c ∧ c < 4294967296 ∧ os.length = xs.length + ys.length + 1 ∧ Rw wr (w.heap.size + 1 + 1 + 1) os ∧ Nm.Dg os ∧ Nm.MulAt xs ys os i j c ∧ (∀ m, i + ys.length + 1 ≤ m → os.getD m 0 = 0) ∧ (j ≤ ys.length → os.getD (i + ys.length) 0 = 0) ∧ (ys.length < j → c = 0) ∧ Below W.heap.size W wr) (fun _ jv _ => ys.length + 1 - (intOf jv).toNat)
      case atStart => exact ⟨0, os, 0, Nat.zero_le _, rfl, rfl, by omega, by omega, H0.out.1, hrw, H0.out.2.1, H0.out.2.2.1, fun m hm => H0.out.2.2.2 m (by omega), fun _ => H0.out.2.2.2 _ (Nat.le_refl _), fun h => by omega, hb⟩
      case round =>
        clear hrw hb H0
        obtain ⟨j, os, c, hj, rfl, rfl, hc0, hc1, hol, hrw, hdo, hmul, hzero, hmid, hlast, hb⟩ := hrel
        have H0 := hid (And.intro hol (And.intro hdo (And.intro hmul hzero)))
        have H1 := hid (And.intro hmid hlast)
        have hol1 : xs.length + ys.length + 1 ≤ os.length := by omega
        clear hol hdo hmul hzero hmid hlast
        obtain ⟨c00, c01⟩ := Bx.below hb
        obtain ⟨c10, c11⟩ := By.below hb
        by_cases hlj : j ≤ ys.length
        · have hca : wr.cell? ⟨ba, off + i, none⟩ = some (.int .u32 x) := (hb.cell (p := ⟨ba, off + i, none⟩) (World.block_lt_of_cell? W _ HCW.out)).trans HCW.out
          have sy := (hy.below hbW).below hb
          have hcell := hrw.cell (k := i + j) (by omega)
          have hfr := hrw.frozen (i + j)
          have c2 := fun w' (h : Sl .u32 w' (.slice b ys.length cap') ys) => limb_any b cap' ys j w' h dy (by omega) (by omega)
          obtain ⟨ey0, ey1⟩ := dy.getD j
          obtain ⟨eo0, eo1⟩ := H0.out.2.1.getD (i + j)
          have hst := fun d c' => Nm.MulAt.step (d := d) (c' := c') H0.out.2.2.1 (show i + j < os.length by omega)
          have hyz : ys.length ≤ j → ys.getD j 0 = 0 := fun h => Nm.getD_out h
          have hoz : ys.length ≤ j → os.getD (i + j) 0 = 0 := fun h => by
            have e : j = ys.length := by omega
            subst e; exact H1.out.1 (Nat.le_refl _)
          obtain ⟨y, hyk⟩ : ∃ y, y = ys.getD j 0 := ⟨_, rfl⟩
          obtain ⟨o, hok⟩ : ∃ o, o = os.getD (i + j) 0 := ⟨_, rfl⟩
          simp only [← hyk] at c2
          rw [← hyk] at ey0 ey1 hyz
          rw [← hok] at hcell eo0 eo1 hoz
          rw [← HXK.out, ← hyk, ← hok] at hst
          have HST := hid hst
          have C2 := hid c2
          have HYZ := hid (And.intro hyz hoz)
          obtain ⟨q0, q1, q2, q3, q4⟩ := Nm.prod_bound (x := x) (y := y) (o := o) (c := c) ⟨ex0, ex1⟩ ⟨ey0, ey1⟩ ⟨eo0, eo1⟩ ⟨hc0, hc1⟩
          have hco : c + o + x * y = x * y + o + c := by omega
          have HCO := hid hco
          have q2' : c + o + x * y < 18446744073709551616 := by omega
          clear hst hyk hok c2 hyz hoz hco q2 
          have k0 : (0 : Int) ≤ (i : Int) := by omega
          have k1 : (i : Int) < (xs.length : Int) := by omega
          have k2 : (0 : Int) ≤ (i : Int) + (j : Int) := by omega
          have k3 : (i : Int) + (j : Int) ≤ (xs.length : Int) + (ys.length : Int) := by omega
          have k3a : (i : Int) + (j : Int) < (xs.length : Int) + (ys.length : Int) + 1 := by omega
          have k3b : ¬ ((i : Int) + (j : Int) < 0) := by omega
          have k3c : ¬ ((xs.length : Int) + (ys.length : Int) + 1 ≤ (i : Int) + (j : Int)) := by omega
          have k3d : ((i : Int) + (j : Int)).toNat = i + j := by omega
          have k3e : i + j < xs.length + ys.length + 1 := by omega
          have k3f : i + j ≤ xs.length + ys.length := by omega
          have k4 : IntKind.i64.wrap ((i : Int) + (j : Int)) = (i : Int) + (j : Int) := i64_in _ (by omega) (by omega)
          have k5 : IntKind.u64.wrap (c + o) = c + o := by rw [IntKind.wrap_u64]; omega
          have k6 : IntKind.u64.wrap (x * y) = x * y := by rw [IntKind.wrap_u64]; omega
          have k7 : IntKind.u64.wrap (c + o + x * y) = c + o + x * y := by rw [IntKind.wrap_u64]; omega
          go_wp2_with fail
          go_region_held3 (fun w' => w'.cell? ⟨w.heap.size + 1 + 1 + 1, i + j, none⟩ = some (.int .u32 o) ∧ w'.cell? ⟨w.heap.size, 1, none⟩ = some (.slice (some ⟨ba, off, none⟩) xs.length cap) ∧ w'.cell? ⟨ba, off + i, none⟩ = some (.int .u32 x) ∧ w'.cell? ⟨w.heap.size + 1, 1, none⟩ = some (.slice b ys.length cap')) (first | assumption | exact ⟨hcell, c01, hca, c11⟩)
            (first | (go_at_call 129; refine (C2.out _ (by exact Sl.drew sy)).mono ?_; rintro e w' ⟨rfl, rfl⟩))
          go_wp2_with fail
          go_roundw
          case rel =>
            refine ⟨j + 1, os.set (i + j) ((c + o + x * y) % 4294967296), (c + o + x * y) / 4294967296, by omega, by go_num, rfl, by rw [HCO.out]; exact q4, by rw [HCO.out]; exact q3, by rw [List.length_set]; exact H0.out.1, hrw.set (by omega) _, H0.out.2.1.set _ (by omega), HST.out _ _ (by have := HCO.out; omega), fun m hm => by rw [Nm.getD_set _ _ _ _ (by omega), if_neg (by omega)]; exact H0.out.2.2.2 m hm, fun hm => by rw [Nm.getD_set _ _ _ _ (by omega), if_neg (by omega)]; exact H1.out.1 (by omega), fun hm => ?_, (hb.drew).setCell (by have := HSW.out; simp; omega) _⟩
            have h1 := HYZ.out.1 (by omega)
            have h2 := HYZ.out.2 (by omega)
            rw [h1, h2]; simp; omega
          case measure => simp [intOf]; omega
        · have hzc := H1.out.2 (by omega)
          have hnx := (hzc ▸ H0.out.2.2.1).next (j := j) (by omega)
          have HN := hid hnx
          clear hnx hzc
          go_wp2_with fail
          go_roundw
          case rel => exact ⟨i + 1, os, by omega, by go_num, H0.out.1, hrw, H0.out.2.1, HN.out, fun m hm => H0.out.2.2.2 m (by omega), hb⟩
          case measure => simp [intOf]; omega
    · obtain rfl : i = xs.length := by omega
      have hlen := H0.out.1
      have hown := hrw.own (base := w.heap.size) (by omega) (by unfold maxLen; omega)
      rw [hlen] at hown
      have hfull := H0.out.2.2.1.full (Nat.le_refl _)
      have cm := made_v (na != nb) (some ⟨w.heap.size + 1 + 1 + 1, 0, none⟩) (xs.length + ys.length + 1) os wr (by have := hown.sl; exact this) H0.out.2.1 (by omega) v (HX.out os hfull)
      rw [hlen] at cm
      have CM := hid cm
      clear hown hfull hlen cm
      go_wp2_with fail
      refine CM.out.mono ?_
      rintro e w2 ⟨a2, c2, rfl, ho2, hb2⟩
      obtain ⟨z0, z1, zf0, zf1⟩ := (Rz.below hb).below hb2
      have l2 : w.heap.size + 1 + 1 < wr.heap.size := by have := hb.size; have := HSW.out; omega
      go_wp2
      refine bodyPost_ret (v := .agg #[.bool (Nm.wn v), .slice a2 (Nm.wl v).length c2]) (by simp [results, Tryz.results126, go_sem, z0, z1]) rfl ⟨a2, c2, rfl, ?_, ?_⟩
      · exact Own.base ((ho2.setBelow (by simp; omega) _).setBelow (by simp; omega) _) (by omega)
      · exact ((bel_go (bel_go hbW hb) hb2).setCell (by simp; omega) _).setCell (by simp; omega) _
end Go.Proofs.YtapjclcjojadaaaGreatDoor
/-
  Products of wides: the specification's whole function, and the program's.
-/
namespace Go.Proofs.YtapjclcjojadaaaGreatDoor
set_option linter.unusedVariables false
set_option linter.unusedSimpArgs false
open Go.RowKit Go.Deep
theorem pw_400 : Nm.pw 400 = Nm.pw 200 * Nm.pw 200 := Nm.pw_add 200 200
theorem mul_short {na nb : Bool} {xs ys : List Int} {x : Int} (hx : x = Nm.wv na xs * Nm.wv nb ys) (dx : Nm.Dg xs) (dy : Nm.Dg ys) (lx : xs.length ≤ 200) (ly : ys.length ≤ 200) : (Nm.wl x).length ≤ 1048576 := by
  have h1 := val_200 dx lx
  have h2 := val_200 dy ly
  have h0 : 0 ≤ Nm.val xs * Nm.val ys := Int.mul_nonneg h1.1 h2.1
  have h3 : Nm.val xs * Nm.val ys ≤ (Nm.pw 200 - 1) * (Nm.pw 200 - 1) := Int.mul_le_mul (by omega) (by omega) h2.1 (by omega)
  have hp := Nm.pw_pos 200
  have h4 : (Nm.pw 200 - 1) * (Nm.pw 200 - 1) < Nm.pw 200 * Nm.pw 200 := by
    rw [Int.sub_mul, Int.mul_sub, Int.mul_sub]; omega
  have : (Nm.wl x).length ≤ 400 := by
    unfold Nm.wl
    rw [Nm.lim_length, hx, pw_400]
    generalize Nm.pw 200 * Nm.pw 200 = q at h4
    generalize (Nm.pw 200 - 1) * (Nm.pw 200 - 1) = r at h3 h4
    unfold Nm.wv
    cases na <;> cases nb <;> simp [Int.neg_mul, Int.mul_neg] <;> omega
  omega
theorem keep4w {w w' : World} {b b' : Nat} {v0 v1 u0 u1 : Value} (h0 : w.cell? ⟨b, 0, none⟩ = some v0) (h1 : w.cell? ⟨b, 1, none⟩ = some v1) (k0 : w.cell? ⟨b', 0, none⟩ = some u0) (k1 : w.cell? ⟨b', 1, none⟩ = some u1) (hb : Below w.heap.size w w') :
    w'.cell? ⟨b, 0, none⟩ = some v0 ∧ w'.cell? ⟨b, 1, none⟩ = some v1 ∧ w'.cell? ⟨b', 0, none⟩ = some u0 ∧ w'.cell? ⟨b', 1, none⟩ = some u1 :=
  ⟨(Box.below ⟨h0, h1⟩ hb).1, (Box.below ⟨h0, h1⟩ hb).2, (Box.below ⟨k0, k1⟩ hb).1, (Box.below ⟨k0, k1⟩ hb).2⟩
theorem keep4_set {w : World} {b b' z : Nat} {v0 v1 u0 u1 : Value} (h0 : w.cell? ⟨b, 0, none⟩ = some v0) (h1 : w.cell? ⟨b, 1, none⟩ = some v1) (k0 : w.cell? ⟨b', 0, none⟩ = some u0) (k1 : w.cell? ⟨b', 1, none⟩ = some u1) (n1 : b ≠ z) (n2 : b' ≠ z) (p q : Value) :
    ((w.setCell ⟨z, 0, none⟩ p).setCell ⟨z, 1, none⟩ q).cell? ⟨b, 0, none⟩ = some v0 ∧ ((w.setCell ⟨z, 0, none⟩ p).setCell ⟨z, 1, none⟩ q).cell? ⟨b, 1, none⟩ = some v1 ∧ ((w.setCell ⟨z, 0, none⟩ p).setCell ⟨z, 1, none⟩ q).cell? ⟨b', 0, none⟩ = some u0 ∧ ((w.setCell ⟨z, 0, none⟩ p).setCell ⟨z, 1, none⟩ q).cell? ⟨b', 1, none⟩ = some u1 :=
  ⟨(keep3_set h0 h1 k1 n1 n2 p q).1, (keep3_set h0 h1 k1 n1 n2 p q).2.1, (keep3_set k0 k1 h1 n2 n1 p q).1, (keep3_set h0 h1 k1 n1 n2 p q).2.2⟩
set_option maxHeartbeats 1000000 in
theorem wmul_impl_no0 (na nb : Bool) (a b : Option Addr) (cap cap' : Nat) (xs ys : List Int) (w : World) (hx : Sl .u32 w (.slice a xs.length cap) xs) (hy : Sl .u32 w (.slice b ys.length cap') ys) (dx : Nm.Dg xs) (dy : Nm.Dg ys) (hl : xs.length ≤ 1048576) (hl' : ys.length ≤ 1048576) (x : Int) (h1 : okB na xs = false) :
    Calls Tryz.prog 177 #[.agg #[.bool na, .slice a xs.length cap], .agg #[.bool nb, .slice b ys.length cap']] w fun e w' => ∃ a' c', e = .returned (.tuple #[.agg #[.bool (opN (okB na xs && okB nb ys) x), .slice a' (opL (okB na xs && okB nb ys) x).length c'], .bool (opO (okB na xs && okB nb ys) x)]) ∧ Own w' w.heap.size a' c' (opL (okB na xs && okB nb ys) x) ∧ Below w.heap.size w w' := by
  have HK : Hid ((okB na xs && okB nb ys) = false) := hid (by rw [h1]; rfl)
  go_enter Tryz.func177, Tryz.ntmps177
  have Bx := ((Box.new w (.bool na) (.slice a xs.length cap) 29).alloc (.cells #[.bool nb, .slice b ys.length cap'] 29)).alloc (.cells #[.bool false, .slice none 0 0] 29)
  have By := (Box.new2 w (.cells #[.bool na, .slice a xs.length cap] 29) (.bool nb) (.slice b ys.length cap') 29).alloc (.cells #[.bool false, .slice none 0 0] 29)
  have Fx := ((R2.new w (.bool na) (.slice a xs.length cap) 29).alloc (.cells #[.bool nb, .slice b ys.length cap'] 29)).alloc (.cells #[.bool false, .slice none 0 0] 29)
  have Fy := (R2.new2 w (.cells #[.bool na, .slice a xs.length cap] 29) (.bool nb) (.slice b ys.length cap') 29).alloc (.cells #[.bool false, .slice none 0 0] 29)
  have Rz : R2 (((w.alloc (.cells #[.bool na, .slice a xs.length cap] 29)).alloc (.cells #[.bool nb, .slice b ys.length cap'] 29)).alloc (.cells #[.bool false, .slice none 0 0] 29)) (w.heap.size + 1 + 1) (.bool false) (.slice none 0 0) := by simpa using R2.new2 (w.alloc (.cells #[.bool na, .slice a xs.length cap] 29)) (.cells #[.bool nb, .slice b ys.length cap'] 29) (.bool false) (.slice none 0 0) 29
  have sx := ((hx.alloc (.cells #[.bool na, .slice a xs.length cap] 29)).alloc (.cells #[.bool nb, .slice b ys.length cap'] 29)).alloc (.cells #[.bool false, .slice none 0 0] 29)
  have sy := ((hy.alloc (.cells #[.bool na, .slice a xs.length cap] 29)).alloc (.cells #[.bool nb, .slice b ys.length cap'] 29)).alloc (.cells #[.bool false, .slice none 0 0] 29)
  have hbW : Below w.heap.size w (((w.alloc (.cells #[.bool na, .slice a xs.length cap] 29)).alloc (.cells #[.bool nb, .slice b ys.length cap'] 29)).alloc (.cells #[.bool false, .slice none 0 0] 29)) := (by repeat (first | exact Below.refl _ _ | refine Below.drew ?_ | refine bel_dn ?_ _ | refine bel_al ?_ _ | refine Below.setCell ?_ (by first | omega | (simp; done) | (simp; omega)) _ | refine Below.alloc ?_ (by first | omega | (simp; done) | (simp; omega)) _))
  go_wp2_with fail
  refine (ok_impl na a cap xs _ sx (by omega)).mono ?_
  rintro e W ⟨rfl, hb1⟩
  replace Bx := Bx.below hb1
  replace By := By.below hb1
  replace Fx := Fx.below hb1
  replace Fy := Fy.below hb1
  replace Rz := Rz.below hb1
  replace sx := sx.below hb1
  replace sy := sy.below hb1
  replace hbW := bel_go hbW hb1
  obtain ⟨z0, z1, zf0, zf1⟩ := Rz
  go_wp2
  refine bodyPost_ret (v := .tuple #[.agg #[.bool false, .slice none 0 0], .bool false]) (by simp [results, Tryz.results177, go_sem, z0, z1]) rfl ⟨none, 0, ?_, ?_, ?_⟩
  · rw [HK.out, (op_no x).1, (op_no x).2.1, (op_no x).2.2]; rfl
  · rw [HK.out, (op_no x).1]; exact Own.nil _ _
  · exact (hbW.setCell (by simp; omega) _).setCell (by simp; omega) _
set_option maxHeartbeats 1000000 in
theorem wmul_impl_no1 (na nb : Bool) (a b : Option Addr) (cap cap' : Nat) (xs ys : List Int) (w : World) (hx : Sl .u32 w (.slice a xs.length cap) xs) (hy : Sl .u32 w (.slice b ys.length cap') ys) (dx : Nm.Dg xs) (dy : Nm.Dg ys) (hl : xs.length ≤ 1048576) (hl' : ys.length ≤ 1048576) (x : Int) (h1 : okB na xs = true) (h2 : okB nb ys = false) :
    Calls Tryz.prog 177 #[.agg #[.bool na, .slice a xs.length cap], .agg #[.bool nb, .slice b ys.length cap']] w fun e w' => ∃ a' c', e = .returned (.tuple #[.agg #[.bool (opN (okB na xs && okB nb ys) x), .slice a' (opL (okB na xs && okB nb ys) x).length c'], .bool (opO (okB na xs && okB nb ys) x)]) ∧ Own w' w.heap.size a' c' (opL (okB na xs && okB nb ys) x) ∧ Below w.heap.size w w' := by
  have HK : Hid ((okB na xs && okB nb ys) = false) := hid (by rw [h1, h2]; rfl)
  go_enter Tryz.func177, Tryz.ntmps177
  have Bx := ((Box.new w (.bool na) (.slice a xs.length cap) 29).alloc (.cells #[.bool nb, .slice b ys.length cap'] 29)).alloc (.cells #[.bool false, .slice none 0 0] 29)
  have By := (Box.new2 w (.cells #[.bool na, .slice a xs.length cap] 29) (.bool nb) (.slice b ys.length cap') 29).alloc (.cells #[.bool false, .slice none 0 0] 29)
  have Fx := ((R2.new w (.bool na) (.slice a xs.length cap) 29).alloc (.cells #[.bool nb, .slice b ys.length cap'] 29)).alloc (.cells #[.bool false, .slice none 0 0] 29)
  have Fy := (R2.new2 w (.cells #[.bool na, .slice a xs.length cap] 29) (.bool nb) (.slice b ys.length cap') 29).alloc (.cells #[.bool false, .slice none 0 0] 29)
  have Rz : R2 (((w.alloc (.cells #[.bool na, .slice a xs.length cap] 29)).alloc (.cells #[.bool nb, .slice b ys.length cap'] 29)).alloc (.cells #[.bool false, .slice none 0 0] 29)) (w.heap.size + 1 + 1) (.bool false) (.slice none 0 0) := by simpa using R2.new2 (w.alloc (.cells #[.bool na, .slice a xs.length cap] 29)) (.cells #[.bool nb, .slice b ys.length cap'] 29) (.bool false) (.slice none 0 0) 29
  have sx := ((hx.alloc (.cells #[.bool na, .slice a xs.length cap] 29)).alloc (.cells #[.bool nb, .slice b ys.length cap'] 29)).alloc (.cells #[.bool false, .slice none 0 0] 29)
  have sy := ((hy.alloc (.cells #[.bool na, .slice a xs.length cap] 29)).alloc (.cells #[.bool nb, .slice b ys.length cap'] 29)).alloc (.cells #[.bool false, .slice none 0 0] 29)
  have hbW : Below w.heap.size w (((w.alloc (.cells #[.bool na, .slice a xs.length cap] 29)).alloc (.cells #[.bool nb, .slice b ys.length cap'] 29)).alloc (.cells #[.bool false, .slice none 0 0] 29)) := (by repeat (first | exact Below.refl _ _ | refine Below.drew ?_ | refine bel_dn ?_ _ | refine bel_al ?_ _ | refine Below.setCell ?_ (by first | omega | (simp; done) | (simp; omega)) _ | refine Below.alloc ?_ (by first | omega | (simp; done) | (simp; omega)) _))
  go_wp2_with fail
  refine (ok_impl na a cap xs _ sx (by omega)).mono ?_
  rintro e W ⟨rfl, hb1⟩
  replace Bx := Bx.below hb1
  replace By := By.below hb1
  replace Fx := Fx.below hb1
  replace Fy := Fy.below hb1
  replace Rz := Rz.below hb1
  replace sx := sx.below hb1
  replace sy := sy.below hb1
  replace hbW := bel_go hbW hb1
  obtain ⟨y0, y1⟩ := By
  go_wp2_with fail
  refine (ok_impl nb b cap' ys _ sy (by omega)).mono ?_
  rintro e W2 ⟨rfl, hb2⟩
  replace Rz := Rz.below hb2
  replace hbW := bel_go hbW hb2
  obtain ⟨z0, z1, zf0, zf1⟩ := Rz
  go_wp2
  refine bodyPost_ret (v := .tuple #[.agg #[.bool false, .slice none 0 0], .bool false]) (by simp [results, Tryz.results177, go_sem, z0, z1]) rfl ⟨none, 0, ?_, ?_, ?_⟩
  · rw [HK.out, (op_no x).1, (op_no x).2.1, (op_no x).2.2]; rfl
  · rw [HK.out, (op_no x).1]; exact Own.nil _ _
  · exact (hbW.setCell (by simp; omega) _).setCell (by simp; omega) _
set_option maxHeartbeats 1000000 in
theorem wmul_impl_ok (na nb : Bool) (a b : Option Addr) (cap cap' : Nat) (xs ys : List Int) (w : World) (hx : Sl .u32 w (.slice a xs.length cap) xs) (hy : Sl .u32 w (.slice b ys.length cap') ys) (dx : Nm.Dg xs) (dy : Nm.Dg ys) (hl : xs.length ≤ 1048576) (hl' : ys.length ≤ 1048576) (x : Int) (hxv : x = Nm.wv na xs * Nm.wv nb ys) (h1 : okB na xs = true) (h2 : okB nb ys = true) :
    Calls Tryz.prog 177 #[.agg #[.bool na, .slice a xs.length cap], .agg #[.bool nb, .slice b ys.length cap']] w fun e w' => ∃ a' c', e = .returned (.tuple #[.agg #[.bool (opN (okB na xs && okB nb ys) x), .slice a' (opL (okB na xs && okB nb ys) x).length c'], .bool (opO (okB na xs && okB nb ys) x)]) ∧ Own w' w.heap.size a' c' (opL (okB na xs && okB nb ys) x) ∧ Below w.heap.size w w' := by
  have HX : Hid (∀ os, Nm.val os = Nm.val xs * Nm.val ys → x = Nm.wv (na != nb) os) := hid (fun os h => by rw [hxv]; exact Nm.wv_mul h)
  clear hxv
  have HK : Hid ((okB na xs && okB nb ys) = true) := hid (by rw [h1, h2]; rfl)
  obtain ⟨nx, lx⟩ := okB_nz h1
  obtain ⟨ny, ly⟩ := okB_nz h2
  go_enter Tryz.func177, Tryz.ntmps177
  have Bx := ((Box.new w (.bool na) (.slice a xs.length cap) 29).alloc (.cells #[.bool nb, .slice b ys.length cap'] 29)).alloc (.cells #[.bool false, .slice none 0 0] 29)
  have By := (Box.new2 w (.cells #[.bool na, .slice a xs.length cap] 29) (.bool nb) (.slice b ys.length cap') 29).alloc (.cells #[.bool false, .slice none 0 0] 29)
  have Fx := ((R2.new w (.bool na) (.slice a xs.length cap) 29).alloc (.cells #[.bool nb, .slice b ys.length cap'] 29)).alloc (.cells #[.bool false, .slice none 0 0] 29)
  have Fy := (R2.new2 w (.cells #[.bool na, .slice a xs.length cap] 29) (.bool nb) (.slice b ys.length cap') 29).alloc (.cells #[.bool false, .slice none 0 0] 29)
  have Rz : R2 (((w.alloc (.cells #[.bool na, .slice a xs.length cap] 29)).alloc (.cells #[.bool nb, .slice b ys.length cap'] 29)).alloc (.cells #[.bool false, .slice none 0 0] 29)) (w.heap.size + 1 + 1) (.bool false) (.slice none 0 0) := by simpa using R2.new2 (w.alloc (.cells #[.bool na, .slice a xs.length cap] 29)) (.cells #[.bool nb, .slice b ys.length cap'] 29) (.bool false) (.slice none 0 0) 29
  have sx := ((hx.alloc (.cells #[.bool na, .slice a xs.length cap] 29)).alloc (.cells #[.bool nb, .slice b ys.length cap'] 29)).alloc (.cells #[.bool false, .slice none 0 0] 29)
  have sy := ((hy.alloc (.cells #[.bool na, .slice a xs.length cap] 29)).alloc (.cells #[.bool nb, .slice b ys.length cap'] 29)).alloc (.cells #[.bool false, .slice none 0 0] 29)
  have hbW : Below w.heap.size w (((w.alloc (.cells #[.bool na, .slice a xs.length cap] 29)).alloc (.cells #[.bool nb, .slice b ys.length cap'] 29)).alloc (.cells #[.bool false, .slice none 0 0] 29)) := (by repeat (first | exact Below.refl _ _ | refine Below.drew ?_ | refine bel_dn ?_ _ | refine bel_al ?_ _ | refine Below.setCell ?_ (by first | omega | (simp; done) | (simp; omega)) _ | refine Below.alloc ?_ (by first | omega | (simp; done) | (simp; omega)) _))
  go_wp2_with fail
  refine (ok_impl na a cap xs _ sx (by omega)).mono ?_
  rintro e W1 ⟨rfl, hb1⟩
  replace Bx := Bx.below hb1
  replace By := By.below hb1
  replace Fx := Fx.below hb1
  replace Fy := Fy.below hb1
  replace Rz := Rz.below hb1
  replace sx := sx.below hb1
  replace sy := sy.below hb1
  replace hbW := bel_go hbW hb1
  obtain ⟨y0, y1⟩ := By
  go_wp2_with fail
  refine (ok_impl nb b cap' ys _ sy (by omega)).mono ?_
  rintro e W ⟨rfl, hb2⟩
  have By : Box W1 (w.heap.size + 1) (.bool nb) (.slice b ys.length cap') := ⟨y0, y1⟩
  replace Bx := Bx.below hb2
  replace By := By.below hb2
  replace Fx := Fx.below hb2
  replace Fy := Fy.below hb2
  replace Rz := Rz.below hb2
  replace sx := sx.below hb2
  replace sy := sy.below hb2
  replace hbW := bel_go hbW hb2
  have lW : w.heap.size + 1 + 1 < W.heap.size := World.block_lt_of_cell? W _ Rz.c0
  clear y0 y1 hb1 hb2
  go_wp2_with fail
  go_region_held3 (fun w' => w'.cell? ⟨w.heap.size, 0, none⟩ = some (.bool na) ∧ w'.cell? ⟨w.heap.size, 1, none⟩ = some (.slice a xs.length cap) ∧ w'.cell? ⟨w.heap.size + 1, 0, none⟩ = some (.bool nb) ∧ w'.cell? ⟨w.heap.size + 1, 1, none⟩ = some (.slice b ys.length cap')) (first | assumption | (refine keep4_set k3.1 k3.2.1 k3.2.2.1 k3.2.2.2 ?_ ?_ _ _ <;> omega) | exact ⟨Bx.1, Bx.2, By.1, By.2⟩)
    (first
      | (go_at_call 205; refine (mulLimbs_any a b cap cap' xs ys _ (by exact sx.drew) (by exact sy.drew) dx dy (by omega) (by omega)).mono ?_; rintro e w2 ⟨a2, c2, os, rfl, ho2, dos, hv, hlo, hb2⟩; have k2 := keep4w (w := W.drew) Bx.1 Bx.2 By.1 By.2 hb2; have Rz2 := Rz.drew.below hb2)
      | (go_at_call 179; refine (fitted_v (na != nb) a2 c2 os W.heap.size _ (by exact ho2) dos hlo x (HX.out os hv)).mono ?_; rintro e w3 ⟨a3, c3, rfl, ho3, hb3⟩; have k3 := keep4w k2.1 k2.2.1 k2.2.2.1 k2.2.2.2 hb3; have Rz3 := Rz2.below hb3; obtain ⟨z0, z1, zf0, zf1⟩ := Rz3))
  have l2 : W.heap.size ≤ w2.heap.size := hb2.size
  have l3 : w2.heap.size ≤ w3.heap.size := hb3.size
  go_wp2
  obtain ⟨e1, e2, e3⟩ := op_yes x
  refine bodyPost_ret (v := .tuple #[.agg #[.bool (Nm.outN x), .slice a3 (Nm.outL x).length c3], .bool (Nm.fits x)]) (by simp [results, Tryz.results177, go_sem, z0, z1]) rfl ⟨a3, c3, ?_, ?_, ?_⟩
  · rw [HK.out, e1, e2, e3]
  · rw [HK.out, e1]
    exact Own.base ((ho3.setBelow (by simp; omega) _).setBelow (by simp; omega) _) (by omega)
  · exact ((bel_go (bel_go (Below.drew hbW) hb2) hb3).setCell (by simp; omega) _).setCell (by simp; omega) _
theorem wmul_impl (na nb : Bool) (a b : Option Addr) (cap cap' : Nat) (xs ys : List Int) (w : World) (hx : Sl .u32 w (.slice a xs.length cap) xs) (hy : Sl .u32 w (.slice b ys.length cap') ys) (dx : Nm.Dg xs) (dy : Nm.Dg ys) (hl : xs.length ≤ 1048576) (hl' : ys.length ≤ 1048576) (x : Int) (hxv : x = Nm.wv na xs * Nm.wv nb ys) :
    Calls Tryz.prog 177 #[.agg #[.bool na, .slice a xs.length cap], .agg #[.bool nb, .slice b ys.length cap']] w fun e w' => ∃ a' c', e = .returned (.tuple #[.agg #[.bool (opN (okB na xs && okB nb ys) x), .slice a' (opL (okB na xs && okB nb ys) x).length c'], .bool (opO (okB na xs && okB nb ys) x)]) ∧ Own w' w.heap.size a' c' (opL (okB na xs && okB nb ys) x) ∧ Below w.heap.size w w' := by
  cases h1 : okB na xs
  · have := wmul_impl_no0 na nb a b cap cap' xs ys w hx hy dx dy hl hl' x h1
    rwa [h1] at this
  · cases h2 : okB nb ys
    · have := wmul_impl_no1 na nb a b cap cap' xs ys w hx hy dx dy hl hl' x h1 h2
      rwa [h1, h2] at this
    · have := wmul_impl_ok na nb a b cap cap' xs ys w hx hy dx dy hl hl' x hxv h1 h2
      rwa [h1, h2] at this
end Go.Proofs.YtapjclcjojadaaaGreatDoor
/-
  A float of one format as one of another, by both; the law.
-/
namespace Go.Proofs.YtapjclcjojadaaaGreatDoor
set_option linter.unusedVariables false
set_option linter.unusedSimpArgs false
open Go.RowKit Go.Deep
def CvO (fr tt mode x : Int) : Bool := fmtB tt && modeB mode && okF fr x
def CvB (fr tt mode x : Int) : Int := if CvO fr tt mode x then (if cls fr x = 0 then sgn (sgOf tt) 0 (sigB fr x) else if cls fr x = 3 then sgn (sgOf tt) (infOf tt) (sigB fr x) else if cls fr x = 4 then nanOf tt else if cls fr x = 5 then nanOf tt else if tt = 32 then rdB 24 (-149) 2139095040 2147483648 mode (sigB fr x) (pM fr x).toNat (pE fr x) else rdB 53 (-1074) 9218868437227405312 9223372036854775808 mode (sigB fr x) (pM fr x).toNat (pE fr x)) else 0
def CvF (fr tt mode x : Int) : Int := if CvO fr tt mode x then (if cls fr x = 0 then 0 else if cls fr x = 3 then 0 else if cls fr x = 4 then 0 else if cls fr x = 5 then 8 else if tt = 32 then rdF 24 (-149) 2139095040 mode (sigB fr x) (pM fr x).toNat (pE fr x) else rdF 53 (-1074) 9218868437227405312 mode (sigB fr x) (pM fr x).toNat (pE fr x)) else 0
theorem Cv_no {fr tt mode x : Int} (h : CvO fr tt mode x = false) : CvB fr tt mode x = 0 ∧ CvF fr tt mode x = 0 := by unfold CvB CvF; rw [h]; exact ⟨rfl, rfl⟩
theorem cls_cases {fm x : Int} (h : okF fm x = true) : cls fm x = 0 ∨ cls fm x = 3 ∨ cls fm x = 4 ∨ cls fm x = 5 ∨ (cls fm x = 1 ∨ cls fm x = 2) := by
  have hr := cls_rng fm x
  have : cls fm x ≠ -1 := by
    intro h1
    rcases okF_cases h with ⟨rfl, hx⟩ | rfl
    · rw [cls32 hx] at h1; have := clsY_rng 8388608 2139095040 4194304 (x % 2147483648); omega
    · rw [cls64] at h1; have := clsY_rng 4503599627370496 9218868437227405312 2251799813685248 (x % 9223372036854775808); omega
  omega
end Go.Proofs.YtapjclcjojadaaaGreatDoor
/-
  The package's table of formats, as the row's list tells it: its cells.
-/
namespace Go.Proofs.YtapjclcjojadaaaGreatDoor
set_option linter.unusedVariables false
set_option linter.unusedSimpArgs false
namespace Ld
open Go.RowKit Go.Deep
theorem own : ownKnob Tryz.prog.godebug = none := by kernel_rfl
theorem laidOut : laidOutB Tryz.prog = true := by kernel_rfl
theorem gTab : Tryz.prog.globalNamed "loop.example/g00672/impl.formSizes" = some 1 := by kernel_rfl
theorem gTabType : (Tryz.prog.globals[1]?).map (·.type) = some 189 := by kernel_rfl
theorem cellsS : Tryz.prog.cellsOf 157 = 3 := by kernel_rfl
theorem cellsU : Tryz.prog.cellsOf 27 = 1 := by kernel_rfl
theorem cellsI : Tryz.prog.cellsOf 2 = 1 := by kernel_rfl

theorem bu64 {a : Int} (h : (Lit.int .u64 a).wf = true) : 0 ≤ a ∧ a < 18446744073709551616 := by have := bounds_u64 h; omega
theorem bi64 {a : Int} (h : (Lit.int .i64 a).wf = true) : -9223372036854775808 ≤ a ∧ a ≤ 9223372036854775807 := by have := bounds_i64 h; omega
theorem lt_of_var {P : Program} {w : World} {n : String} {g : Nat} {cs : Array Value} (hg : P.globalNamed n = some g) (h : w.var? P n = some cs) : g < w.heap.size := by
  simp only [World.var?, hg, Option.bind_some] at h
  by_cases hlt : g < w.heap.size
  · exact hlt
  · rw [Array.getElem?_eq_none (by omega)] at h; simp at h

/-- One row of the table: its three cells. -/
theorem three {H : Type} {enc : TypeId × Value → H} {w : World} {base : Nat} {sp : Nat → Bool} {held : Bool} {m : Nat} {cs : List Value} {a b c : Int} {q : List MemPlace}
    (h : DataW.trod enc Tryz.prog w base sp held m 157 cs = some (.agg [.lit (.int .u64 a), .lit (.int .u64 b), .lit (.int .i64 c)], q)) :
    cs[0]? = some (.int .u64 a) ∧ cs[1]? = some (.int .u64 b) ∧ cs[2]? = some (.int .i64 c) := by
  obtain ⟨y0, y1, y2, n, hx, hl, h0, h1, h2⟩ := trod_struct3 Tryz.underlying157 h
  obtain ⟨n0, e0, rfl, _⟩ := DataW.trod_int Tryz.underlying27 h0
  obtain ⟨n1, e1, rfl, _⟩ := DataW.trod_int Tryz.underlying27 h1
  obtain ⟨n2, e2, rfl, _⟩ := DataW.trod_int Tryz.underlying2 h2
  simp only [Prod.mk.injEq, DataW.agg.injEq, List.cons.injEq, DataW.lit.injEq, Lit.int.injEq, true_and, and_true] at hx
  obtain ⟨⟨rfl, rfl, rfl⟩, _⟩ := hx
  simp only [cellsU, cellsI] at e0 e1 e2
  refine ⟨?_, ?_, ?_⟩
  · have := congrArg (·[0]?) e0; simpa [List.getElem?_take, List.getElem?_drop] using this
  · have := congrArg (·[0]?) e1; simpa [List.getElem?_take, List.getElem?_drop] using this
  · have := congrArg (·[0]?) e2; simpa [List.getElem?_take, List.getElem?_drop] using this

theorem table {W : World} (h : laidMet Tryz.prog [("loop.example/g00672/impl.formSizes", Rows.laid_loop_example_g00672_impl_formSizes)] W) : Tab W := by
  obtain ⟨ps, ⟨g', t', cs, fuel, p, q, hg', ht', hvar, hd, _, _⟩, _⟩ := h
  obtain rfl := Option.some.inj (gTab.symm.trans hg')
  obtain rfl := Option.some.inj (gTabType.symm.trans ht')
  obtain ⟨xs, m, rfl, hx, hlen, hxl, hel⟩ := DataW.trod_array Tryz.underlying189 hd
  match xs, hxl with
  | [x0, x1, x2], _ =>
    simp only [Rows.laid_loop_example_g00672_impl_formSizes, Prod.mk.injEq, DataW.agg.injEq, List.map_cons, List.map_nil, List.cons.injEq, and_true] at hx
    obtain ⟨⟨hx0, hx1, hx2⟩, _⟩ := hx
    have t0 := hel 0 (by decide); have t1 := hel 1 (by decide); have t2 := hel 2 (by decide)
    simp only [cellsS, List.getElem?_cons_zero, List.getElem?_cons_succ] at t0 t1 t2
    obtain ⟨x0a, x0b⟩ := x0; obtain ⟨x1a, x1b⟩ := x1; obtain ⟨x2a, x2b⟩ := x2
    simp only at hx0 hx1 hx2
    subst hx0; subst hx1; subst hx2
    have r0 := three t0; have r1 := three t1; have r2 := three t2
    have cell : ∀ i v, cs.toList[i]? = some v → W.cell? ⟨1, i, none⟩ = some v := fun i v hv => by
      rw [World.var?_cell gTab hvar i]; simpa using hv
    simp [List.getElem?_take, List.getElem?_drop] at r0 r1 r2
    exact ⟨cell 0 _ (by simpa using r0.1), cell 1 _ (by simpa using r0.2.1), cell 2 _ (by simpa using r0.2.2), cell 3 _ (by simpa using r1.1), cell 4 _ (by simpa using r1.2.1), cell 5 _ (by simpa using r1.2.2), cell 6 _ (by simpa using r2.1), cell 7 _ (by simpa using r2.2.1), cell 8 _ (by simpa using r2.2.2)⟩
end Ld
end Go.Proofs.YtapjclcjojadaaaGreatDoor
/-
  The package's tables, as the row's list tells them: the formats' sizes, and Go's own tables of halvings.
-/
namespace Go.Proofs.YtapjclcjojadaaaGreatDoor
set_option linter.unusedVariables false
set_option linter.unusedSimpArgs false
namespace Ld
open Go.RowKit Go.Deep
def zs32 : List Int := Lib.deBruijn32tab.map Int.ofNat
theorem tb32 {W : World} (h : laidMet Tryz.prog [("math/bits.deBruijn32tab", Rows.laid_math_bits_deBruijn32tab)] W) : Tb W 3 Lib.deBruijn32tab := by
  have h' : laidMet Tryz.prog (("math/bits.deBruijn32tab", Lib.tabData .u8 zs32) :: []) W := h
  have hg : Tryz.prog.globalNamed "math/bits.deBruijn32tab" = some 3 := by kernel_rfl
  have ht := Lib.tabIs_of_head (g := 3) (t := 242) (e := 5) (n := 32) hg (by kernel_rfl) Tryz.underlying242 Tryz.underlying5 (by kernel_rfl) (by kernel_rfl) h'
  intro i hi
  have := ht.cell hg i (by simpa [zs32] using hi)
  rw [this]
  congr 2
  unfold zs32
  rw [List.getD_eq_getElem?_getD, List.getElem?_map, List.getD_eq_getElem?_getD, List.getElem?_eq_getElem hi]; rfl
def zs64 : List Int := Lib.deBruijn64tab.map Int.ofNat
theorem tb64 {W : World} (h : laidMet Tryz.prog [("math/bits.deBruijn64tab", Rows.laid_math_bits_deBruijn64tab)] W) : Tb W 4 Lib.deBruijn64tab := by
  have h' : laidMet Tryz.prog (("math/bits.deBruijn64tab", Lib.tabData .u8 zs64) :: []) W := h
  have hg : Tryz.prog.globalNamed "math/bits.deBruijn64tab" = some 4 := by kernel_rfl
  have ht := Lib.tabIs_of_head (g := 4) (t := 243) (e := 5) (n := 64) hg (by kernel_rfl) Tryz.underlying243 Tryz.underlying5 (by kernel_rfl) (by kernel_rfl) h'
  intro i hi
  have := ht.cell hg i (by simpa [zs64] using hi)
  rw [this]
  congr 2
  unfold zs64
  rw [List.getD_eq_getElem?_getD, List.getElem?_map, List.getD_eq_getElem?_getD, List.getElem?_eq_getElem hi]; rfl
theorem three_tabs {W : World} (h : laidMetH Tryz.prog [("math/bits.deBruijn32tab", Rows.laid_math_bits_deBruijn32tab), ("math/bits.deBruijn64tab", Rows.laid_math_bits_deBruijn64tab), ("loop.example/g00672/impl.formSizes", Rows.laid_loop_example_g00672_impl_formSizes)] W) : T3 W := by
  have h : laidMet Tryz.prog _ W := (laidMetH_iff.1 h).1
  have h1 := h.filter (fun x => x.1 == "loop.example/g00672/impl.formSizes")
  have h2 := h.filter (fun x => x.1 == "math/bits.deBruijn64tab")
  have h3 := h.filter (fun x => x.1 == "math/bits.deBruijn32tab")
  exact ⟨⟨table h1, tb64 h2⟩, tb32 h3⟩
theorem two_tabs {W : World} (h : laidMetH Tryz.prog [("math/bits.deBruijn64tab", Rows.laid_math_bits_deBruijn64tab), ("loop.example/g00672/impl.formSizes", Rows.laid_loop_example_g00672_impl_formSizes)] W) : Ts W := by
  have h : laidMet Tryz.prog _ W := (laidMetH_iff.1 h).1
  have h1 := h.filter (fun x => x.1 == "loop.example/g00672/impl.formSizes")
  have h2 := h.filter (fun x => x.1 == "math/bits.deBruijn64tab")
  exact ⟨table h1, tb64 h2⟩
end Ld
end Go.Proofs.YtapjclcjojadaaaGreatDoor
