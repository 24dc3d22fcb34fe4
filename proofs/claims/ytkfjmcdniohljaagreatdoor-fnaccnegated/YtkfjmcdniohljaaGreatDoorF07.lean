/-
  What is needed of Rows2, WideP, WideQ.
-/
import Derived.Deep.RegionHeld3
import Derived.Test.YtkfjmcdniohljaaGreatDoorF05
set_option maxHeartbeats 16000000
set_option maxRecDepth 1000000
namespace Go.Proofs.YtkfjmcdniohljaaGreatDoor
set_option linter.unusedVariables false
set_option linter.unusedSimpArgs false
open Go.RowKit Go.Deep
def Rw (w : World) (b : Nat) (os : List Int) : Prop := w.rowIs b 128 os.length (fun i => .int .u32 (os.getD i 0))
theorem Rw.set {w : World} {b : Nat} {os : List Int} (h : Rw w b os) {k : Nat} (hk : k < os.length) (v : Int) : Rw (w.setCell ⟨b, k, none⟩ (.int .u32 v)) b (os.set k v) := by
 unfold Rw at *
 rw [List.length_set]
 refine (World.rowIs.set h k _).congr fun i _ => ?_
 rw [Nm.getD_set _ _ _ _ hk]
 by_cases e : i = k <;> simp [e]
theorem Rw.own {w : World} {b base : Nat} {os : List Int} (h : Rw w b os) (hb : base ≤ b) (hm : os.length ≤ maxLen) : Own w base (some ⟨b, 0, none⟩) os.length os := Own.of_row h (fun _ _ => rfl) hb hm
theorem Rw.cell {w : World} {b : Nat} {os : List Int} (h : Rw w b os) {k : Nat} (hk : k < os.length) : w.cell? ⟨b, k, none⟩ = some (.int .u32 (os.getD k 0)) := World.rowIs.cell h hk
theorem Rw.frozen {w : World} {b : Nat} {os : List Int} (h : Rw w b os) (k : Nat) : w.frozen? ⟨b, k, none⟩ = false := World.rowIs.frozen h k
theorem Rw.made (w : World) (n : Nat) : Rw (w.alloc (.cells (madeCells #[.int .u32 0] n) 128)) w.heap.size (List.replicate n 0) := by
 unfold Rw
 rw [List.length_replicate]
 refine (World.rowIs_made w (.int .u32 0) n 128).congr fun i _ => ?_
 rw [Nm.getD_replicate]
theorem Rw.below {w w' : World} {b : Nat} {os : List Int} (h : Rw w b os) (hb : Below w.heap.size w w') (hlt : b < w.heap.size) : Rw w' b os := by
 obtain ⟨c, h1, h2, h3⟩ := h
 exact ⟨c, by rw [hb.block b hlt]; exact h1, h2, h3⟩

theorem limbAt_any (a : Option Addr) (cap : Nat) (zs : List Int) (i : Nat) (w : World) (hs : Sl .u32 w (.slice a zs.length cap) zs) (hl : zs.length ≤ 140737488355328) (hi : i ≤ 140737488355328) :
  Calls Tryz.prog 194 #[.slice a zs.length cap, .int .i64 i] w fun e w' => e = .returned (.int .u32 (zs.getD i 0)) ∧ w' = w := by
 obtain ⟨-, hx1, hx2, hx3⟩ := hs.cells
 by_cases hlt : i < zs.length
 ·obtain ⟨b, off, rfl, hcx⟩ := hx3 (by omega)
  have hc := hcx i hlt
  clear hcx hx3
  obtain ⟨x, hx⟩ : ∃ x, x = zs.getD i 0 := ⟨_, rfl⟩
  rw [← hx] at hc ⊢
  clear hx
  go_enter Tryz.func194, Tryz.ntmps194
  go_wp2
  go_ret
  exact ⟨rfl, rfl⟩
 ·have HR : Hid (zs.getD i 0 = 0) := hid (Nm.getD_out (by omega))
  clear hx3
  go_enter Tryz.func194, Tryz.ntmps194
  go_wp2
  go_ret
  exact ⟨ret_int HR.out.symm, rfl⟩
theorem limb_any (a : Option Addr) (cap : Nat) (zs : List Int) (i : Nat) (w : World) (hs : Sl .u32 w (.slice a zs.length cap) zs) (hz : Nm.Dg zs) (hl : zs.length ≤ 140737488355328) (hi : i ≤ 140737488355328) :
  Calls Tryz.prog 176 #[.slice a zs.length cap, .int .i64 i] w fun e w' => e = .returned (.int .u64 (zs.getD i 0)) ∧ w' = w := by
 obtain ⟨-, hx1, hx2, hx3⟩ := hs.cells
 by_cases hlt : i < zs.length
 ·obtain ⟨b, off, rfl, hcx⟩ := hx3 (by omega)
  have hc := hcx i hlt
  have hd := hz.getD i
  clear hcx hx3
  obtain ⟨x, hx⟩ : ∃ x, x = zs.getD i 0 := ⟨_, rfl⟩
  rw [← hx] at hc hd ⊢
  clear hx
  obtain ⟨hd0, hd1⟩ := hd
  go_enter Tryz.func176, Tryz.ntmps176
  go_wp2
  go_ret
  exact ⟨rfl, rfl⟩
 ·have HR : Hid (zs.getD i 0 = 0) := hid (Nm.getD_out (by omega))
  clear hx3
  go_enter Tryz.func176, Tryz.ntmps176
  go_wp2
  go_ret
  exact ⟨ret_int HR.out.symm, rfl⟩
theorem add32_any (x y c : Int) (w : World) (hx : 0 ≤ x) (hx1 : x < 4294967296) (hy : 0 ≤ y) (hy1 : y < 4294967296) (hc : 0 ≤ c) (hc1 : c ≤ 1) :
  Calls Tryz.prog 217 #[.int .u32 x, .int .u32 y, .int .u32 c] w fun e w' => e = .returned (.tuple #[.int .u32 ((x + y + c) % 4294967296), .int .u32 ((x + y + c) / 4294967296)]) ∧ w' = w := by
 go_enter Tryz.func217, Tryz.ntmps217
 go_wp2
 go_ret2
 exact ⟨rfl, rfl⟩
theorem mk1 (N : Nat) (h : N ≤ 1000000) : ∀ w : World, (Instr.makeSlice 30 (.int .i64 ((N : Int) + 1)) (.int .i64 ((N : Int) + 1))).run Tryz.prog w = .ok (.slice (some ⟨w.heap.size, 0, none⟩) (N + 1) (N + 1)) (w.alloc (.cells (madeCells #[.int .u32 0] (N + 1)) 128)) :=
 run_make_row' (P := Tryz.prog) 30 128 (.int .u32 0) 4 Tryz.underlying30 info32 rfl .i64 .i64 (N + 1) (by omega) (by omega)
theorem addLimbs_lt (a a' : Option Addr) (cap cap' : Nat) (xs ys : List Int) (w : World) (hx : Sl .u32 w (.slice a xs.length cap) xs) (hy : Sl .u32 w (.slice a' ys.length cap') ys) (dx : Nm.Dg xs) (dy : Nm.Dg ys) (hl : xs.length ≤ 1000000) (hl' : ys.length ≤ 1000000) (hc : xs.length < ys.length) :
  Calls Tryz.prog 161 #[.slice a xs.length cap, .slice a' ys.length cap'] w fun e w' => ∃ a1 c1 os, e = .returned (.slice a1 os.length c1) ∧ Own w' w.heap.size a1 c1 os ∧ Nm.Dg os ∧ Nm.val os = Nm.val xs + Nm.val ys ∧ os.length ≤ 1048576 ∧ Below w.heap.size w w' := by
 have hmk := mk1 ys.length (by omega)
 go_enter Tryz.func161, Tryz.ntmps161
 go_wp2_with fail
 clear hmk
 go_loopw [7, 18] (fun cy i wr => ∃ k : Nat, ∃ os : List Int, ∃ c : Int, k ≤ ys.length ∧ i = .int .i64 k ∧ cy = .int .u32 c ∧ 0 ≤ c ∧ c ≤ 1 ∧ os.length = ys.length + 1 ∧ Rw wr w.heap.size os ∧ Nm.Dg os ∧ Nm.AddAt xs ys os k c ∧ Below w.heap.size w wr) (fun _ i _ => ys.length - (intOf i).toNat)
 case atStart => exact ⟨0, List.replicate (ys.length + 1) 0, 0, Nat.zero_le _, rfl, rfl, by omega, by omega, by simp, Rw.made w (ys.length + 1), Nm.Dg.replicate _, Nm.AddAt.zero _ _ _, (by repeat (first | exact bz0 _ _ | refine bz1 ?_ | refine bz2 ?_ _ | refine bz3 ?_ _ | refine bz5 ?_ _ | refine bz6 ?_ _))⟩
 case round =>
  obtain ⟨k, os, c, hk, rfl, rfl, hc0, hc1, hol, hrw, hdo, hadd, hb⟩ := hrel
  have HOL := hid hol
  have hol1 : ys.length + 1 ≤ os.length := by omega
  have HADD := hid hadd
  have HDO := hid hdo
  clear hol hadd hdo
  have sx := hx.below hb
  have sy := hy.below hb
  by_cases hlt : k < ys.length
  ·have hcell := hrw.cell (k := k) (by omega)
   have hfr := hrw.frozen k
   have c1 := limbAt_any a cap xs k wr sx (by omega) (by omega)
   have c2 := limbAt_any a' cap' ys k wr sy (by omega) (by omega)
   have hst := fun d c' => Nm.AddAt.step (d := d) (c' := c') HADD.out (show k < os.length by omega)
   obtain ⟨ex0, ex1⟩ := dx.getD k
   obtain ⟨ey0, ey1⟩ := dy.getD k
   obtain ⟨x, hxk⟩ : ∃ x, x = xs.getD k 0 := ⟨_, rfl⟩
   obtain ⟨y, hyk⟩ : ∃ y, y = ys.getD k 0 := ⟨_, rfl⟩
   rw [← hxk] at c1 ex0 ex1
   rw [← hyk] at c2 ey0 ey1
   rw [← hxk, ← hyk] at hst
   have C1 := hid c1
   have C2 := hid c2
   have HST := hid hst
   clear c1 c2 hst hxk hyk
   go_wp2_with fail
   refine C1.out.mono ?_
   rintro e w1 ⟨rfl, rfl⟩
   go_wp2_with fail
   refine C2.out.mono ?_
   rintro e w1 ⟨rfl, rfl⟩
   go_wp2_with fail
   refine (add32_any x y c _ ex0 ex1 ey0 ey1 hc0 hc1).mono ?_
   rintro e w1 ⟨rfl, rfl⟩
   go_wp2
   go_roundw
   case rel =>
    refine ⟨k + 1, os.set k ((x + y + c) % 4294967296), (x + y + c) / 4294967296, by omega, by go_num, rfl, by omega, by omega, by rw [List.length_set]; exact HOL.out, hrw.set (by omega) _, HDO.out.set _ (by omega), HST.out _ _ (by omega), hb.setCell (Nat.le_refl _) _⟩
   case measure => simp [intOf]; omega
  ·obtain rfl : k = ys.length := by omega
   have hcell := hrw.cell (k := ys.length) (by omega)
   have hfr := hrw.frozen ys.length
   go_wp2
   go_ret
   have hfull : Nm.val (os.set ys.length c) = Nm.val xs + Nm.val ys := by
    have h1 := HADD.out
    have h2 := Nm.val_take_succ (os.set ys.length c) ys.length
    have h3 : (os.set ys.length c).take (ys.length + 1) = os.set ys.length c := List.take_of_length_le (by rw [List.length_set]; exact Nat.le_of_eq HOL.out)
    rw [h3, List.take_set_of_le (Nat.le_refl _), Nm.getD_set _ _ _ _ (by omega), if_pos rfl] at h2
    unfold Nm.AddAt at h1
    rw [List.take_of_length_le (l := xs) (by omega), List.take_of_length_le (l := ys) (by omega)] at h1
    omega
   have hlen : (os.set ys.length c).length = ys.length + 1 := by rw [List.length_set]; exact HOL.out
   have hown : Own (wr.setCell ⟨w.heap.size, ys.length, none⟩ (.int .u32 c)) w.heap.size (some ⟨w.heap.size, 0, none⟩) (ys.length + 1) (os.set ys.length c) := by
    have := (hrw.set (k := ys.length) (by omega) c).own (base := w.heap.size) (Nat.le_refl _) (by unfold maxLen; omega)
    rwa [hlen] at this
   refine ⟨some ⟨w.heap.size, 0, none⟩, ys.length + 1, os.set ys.length c, by rw [hlen]; rfl, hown, HDO.out.set _ (by omega), hfull, by omega, hb.setCell (Nat.le_refl _) _⟩
theorem addLimbs_ge (a a' : Option Addr) (cap cap' : Nat) (xs ys : List Int) (w : World) (hx : Sl .u32 w (.slice a xs.length cap) xs) (hy : Sl .u32 w (.slice a' ys.length cap') ys) (dx : Nm.Dg xs) (dy : Nm.Dg ys) (hl : xs.length ≤ 1000000) (hl' : ys.length ≤ 1000000) (hc : ¬ xs.length < ys.length) :
  Calls Tryz.prog 161 #[.slice a xs.length cap, .slice a' ys.length cap'] w fun e w' => ∃ a1 c1 os, e = .returned (.slice a1 os.length c1) ∧ Own w' w.heap.size a1 c1 os ∧ Nm.Dg os ∧ Nm.val os = Nm.val xs + Nm.val ys ∧ os.length ≤ 1048576 ∧ Below w.heap.size w w' := by
 have hmk := mk1 xs.length (by omega)
 go_enter Tryz.func161, Tryz.ntmps161
 go_wp2_with fail
 clear hmk
 go_loopw [7, 18] (fun cy i wr => ∃ k : Nat, ∃ os : List Int, ∃ c : Int, k ≤ xs.length ∧ i = .int .i64 k ∧ cy = .int .u32 c ∧ 0 ≤ c ∧ c ≤ 1 ∧ os.length = xs.length + 1 ∧ Rw wr w.heap.size os ∧ Nm.Dg os ∧ Nm.AddAt xs ys os k c ∧ Below w.heap.size w wr) (fun _ i _ => xs.length - (intOf i).toNat)
 case atStart => exact ⟨0, List.replicate (xs.length + 1) 0, 0, Nat.zero_le _, rfl, rfl, by omega, by omega, by simp, Rw.made w (xs.length + 1), Nm.Dg.replicate _, Nm.AddAt.zero _ _ _, (by repeat (first | exact bz0 _ _ | refine bz1 ?_ | refine bz2 ?_ _ | refine bz3 ?_ _ | refine bz5 ?_ _ | refine bz6 ?_ _))⟩
 case round =>
  obtain ⟨k, os, c, hk, rfl, rfl, hc0, hc1, hol, hrw, hdo, hadd, hb⟩ := hrel
  have HOL := hid hol
  have hol1 : xs.length + 1 ≤ os.length := by omega
  have HADD := hid hadd
  have HDO := hid hdo
  clear hol hadd hdo
  have sx := hx.below hb
  have sy := hy.below hb
  by_cases hlt : k < xs.length
  ·have hcell := hrw.cell (k := k) (by omega)
   have hfr := hrw.frozen k
   have c1 := limbAt_any a cap xs k wr sx (by omega) (by omega)
   have c2 := limbAt_any a' cap' ys k wr sy (by omega) (by omega)
   have hst := fun d c' => Nm.AddAt.step (d := d) (c' := c') HADD.out (show k < os.length by omega)
   obtain ⟨ex0, ex1⟩ := dx.getD k
   obtain ⟨ey0, ey1⟩ := dy.getD k
   obtain ⟨x, hxk⟩ : ∃ x, x = xs.getD k 0 := ⟨_, rfl⟩
   obtain ⟨y, hyk⟩ : ∃ y, y = ys.getD k 0 := ⟨_, rfl⟩
   rw [← hxk] at c1 ex0 ex1
   rw [← hyk] at c2 ey0 ey1
   rw [← hxk, ← hyk] at hst
   have C1 := hid c1
   have C2 := hid c2
   have HST := hid hst
   clear c1 c2 hst hxk hyk
   go_wp2_with fail
   refine C1.out.mono ?_
   rintro e w1 ⟨rfl, rfl⟩
   go_wp2_with fail
   refine C2.out.mono ?_
   rintro e w1 ⟨rfl, rfl⟩
   go_wp2_with fail
   refine (add32_any x y c _ ex0 ex1 ey0 ey1 hc0 hc1).mono ?_
   rintro e w1 ⟨rfl, rfl⟩
   go_wp2
   go_roundw
   case rel =>
    refine ⟨k + 1, os.set k ((x + y + c) % 4294967296), (x + y + c) / 4294967296, by omega, by go_num, rfl, by omega, by omega, by rw [List.length_set]; exact HOL.out, hrw.set (by omega) _, HDO.out.set _ (by omega), HST.out _ _ (by omega), hb.setCell (Nat.le_refl _) _⟩
   case measure => simp [intOf]; omega
  ·obtain rfl : k = xs.length := by omega
   have hcell := hrw.cell (k := xs.length) (by omega)
   have hfr := hrw.frozen xs.length
   go_wp2
   go_ret
   have hfull : Nm.val (os.set xs.length c) = Nm.val xs + Nm.val ys := by
    have h1 := HADD.out
    have h2 := Nm.val_take_succ (os.set xs.length c) xs.length
    have h3 : (os.set xs.length c).take (xs.length + 1) = os.set xs.length c := List.take_of_length_le (by rw [List.length_set]; exact Nat.le_of_eq HOL.out)
    rw [h3, List.take_set_of_le (Nat.le_refl _), Nm.getD_set _ _ _ _ (by omega), if_pos rfl] at h2
    unfold Nm.AddAt at h1
    rw [List.take_of_length_le (l := xs) (by omega), List.take_of_length_le (l := ys) (by omega)] at h1
    omega
   have hlen : (os.set xs.length c).length = xs.length + 1 := by rw [List.length_set]; exact HOL.out
   have hown : Own (wr.setCell ⟨w.heap.size, xs.length, none⟩ (.int .u32 c)) w.heap.size (some ⟨w.heap.size, 0, none⟩) (xs.length + 1) (os.set xs.length c) := by
    have := (hrw.set (k := xs.length) (by omega) c).own (base := w.heap.size) (Nat.le_refl _) (by unfold maxLen; omega)
    rwa [hlen] at this
   refine ⟨some ⟨w.heap.size, 0, none⟩, xs.length + 1, os.set xs.length c, by rw [hlen]; rfl, hown, HDO.out.set _ (by omega), hfull, by omega, hb.setCell (Nat.le_refl _) _⟩
theorem addLimbs_any (a a' : Option Addr) (cap cap' : Nat) (xs ys : List Int) (w : World) (hx : Sl .u32 w (.slice a xs.length cap) xs) (hy : Sl .u32 w (.slice a' ys.length cap') ys) (dx : Nm.Dg xs) (dy : Nm.Dg ys) (hl : xs.length ≤ 1000000) (hl' : ys.length ≤ 1000000) :
  Calls Tryz.prog 161 #[.slice a xs.length cap, .slice a' ys.length cap'] w fun e w' => ∃ a1 c1 os, e = .returned (.slice a1 os.length c1) ∧ Own w' w.heap.size a1 c1 os ∧ Nm.Dg os ∧ Nm.val os = Nm.val xs + Nm.val ys ∧ os.length ≤ 1048576 ∧ Below w.heap.size w w' := by
 by_cases h : xs.length < ys.length
 ·exact addLimbs_lt a a' cap cap' xs ys w hx hy dx dy hl hl' h
 ·exact addLimbs_ge a a' cap cap' xs ys w hx hy dx dy hl hl' h
theorem news_one (w : World) (d : Int) : ∀ j u, ([Value.int .u32 d] : List Value)[j]? = some u → (w.alloc (.cells #[.int .u32 d] 128)).cell? ((⟨w.heap.size, 0, none⟩ : Addr).add j) = some u := by
 intro j u hj
 cases j with
 | zero => simp at hj; subst hj; simp [Addr.add]
 | succ j => simp at hj
theorem one_one (d : Int) : ∀ u ∈ ([Value.int .u32 d] : List Value), u.oneCell' = true := by
 intro u hu; simp at hu; subst hu; rfl
theorem own_more {w : World} {B g cap : Nat} {os : List Int} {d : Int} (h : w.ownsRow B 128 1 (.slice (some ⟨g, 0, none⟩) (os.length + 1) cap) (os.length + 1) (os.map (Value.int .u32) ++ [.int .u32 d])) : Own w B (some ⟨g, 0, none⟩) cap (os ++ [d]) := by
 unfold Own; simpa using h
theorem own_buf {w : World} : Own (w.alloc (.cells #[] 128)) w.heap.size (some ⟨w.heap.size, 0, none⟩) 0 [] := by
 have := World.ownsRow_made (base := w.heap.size) (e := 128) (size := 1) w #[] 0 (by simp) (by decide) rfl
 simpa [Own] using this
theorem own_ge {w : World} {B g cap : Nat} {os : List Int} (h : Own w B (some ⟨g, 0, none⟩) cap os) : B ≤ g ∧ g < w.heap.size := by
 rcases h.block with ⟨e, _⟩ | ⟨g', e, h1, h2⟩
 ·cases e
 ·cases e; exact ⟨h1, h2⟩
theorem bel_app {w W w' : World} {g : Nat} {n cap : Nat} (h : Below w.heap.size w W) (hg : W.grownBy w' (Value.slice (some ⟨g, 0, none⟩) n cap).ownBlock) (hge : w.heap.size ≤ g) : Below w.heap.size w w' :=
 h.grown hg h.size (fun k hk => by have h' : g = k := Option.some.inj hk; omega)
theorem plus_any (a a' : Option Addr) (cap cap' : Nat) (xs ys : List Int) (w : World) (hx : Sl .u32 w (.slice a xs.length cap) xs) (hy : Sl .u32 w (.slice a' ys.length cap') ys) (dx : Nm.Dg xs) (dy : Nm.Dg ys) (hl : xs.length ≤ 500000) (hl' : ys.length ≤ 500000) :
  Calls Tryz.prog 177 #[.slice a xs.length cap, .slice a' ys.length cap'] w fun e w' => ∃ a1 c1 os, e = .returned (.slice a1 os.length c1) ∧ Own w' w.heap.size a1 c1 os ∧ Nm.Dg os ∧ Nm.val os = Nm.val xs + Nm.val ys ∧ os.length ≤ 1048576 ∧ Below w.heap.size w w' := by
 obtain ⟨i0, hi, hz0, hz1, hz2⟩ := info_parts info32
 have HI := hid (And.intro hi (And.intro hz0 (And.intro hz1 hz2)))
 clear hi hz0 hz1 hz2
 go_enter Tryz.func177, Tryz.ntmps177
 go_wp2_with fail
 go_loopw [5, 6, 7] (fun sl cy i wr => ∃ os : List Int, ∃ c : Int, ∃ g cp : Nat, os.length ≤ xs.length + ys.length + 1 ∧ i = .int .i64 os.length ∧ cy = .int .u64 c ∧ sl = .slice (some ⟨g, 0, none⟩) os.length cp ∧ 0 ≤ c ∧ c ≤ 1 ∧ (xs.length ≤ os.length → ys.length ≤ os.length → 0 < c → os.length ≤ xs.length + ys.length) ∧ Own wr w.heap.size (some ⟨g, 0, none⟩) cp os ∧ Nm.Dg os ∧ Nm.AddAt xs ys os os.length c ∧ Below w.heap.size w wr) (fun _ _ i _ => xs.length + ys.length + 1 - (intOf i).toNat)
 case atStart => exact ⟨[], 0, w.heap.size, 0, by simp, rfl, rfl, rfl, by omega, by omega, by simp, own_buf, Nm.Dg.nil, Nm.AddAt.zero _ _ _, (by repeat (first | exact bz0 _ _ | refine bz1 ?_ | refine bz2 ?_ _ | refine bz3 ?_ _ | refine bz5 ?_ _ | refine bz6 ?_ _))⟩
 case round =>
  obtain ⟨os, c, g, cp, hk, rfl, rfl, rfl, hc0, hc1, hlast, hown, hdo, hadd, hb⟩ := hrel
  have HADD := hid hadd
  have HDO := hid hdo
  have HLAST := hid hlast
  have hbs : w.heap.size ≤ wr.heap.size := hb.size
  have sx := hx.below hb
  have sy := hy.below hb
  by_cases hgo : os.length < xs.length ∨ os.length < ys.length ∨ 0 < c
  ·have hroom : os.length ≤ xs.length + ys.length := by
    rcases hgo with h | h | h
    ·omega
    ·omega
    ·by_cases h1 : xs.length ≤ os.length
     ·by_cases h2 : ys.length ≤ os.length
      ·exact hlast h1 h2 h
      ·omega
     ·omega
   have hc1' := limb_any a cap xs os.length wr sx dx (by omega) (by omega)
   have hc2' := limb_any a' cap' ys os.length wr sy dy (by omega) (by omega)
   have hst := fun d c' => Nm.AddAt.stepSnoc (d := d) (c' := c') HADD.out
   have hzx : xs.length ≤ os.length → xs.getD os.length 0 = 0 := fun h => Nm.getD_out h
   have hzy : ys.length ≤ os.length → ys.getD os.length 0 = 0 := fun h => Nm.getD_out h
   obtain ⟨ex0, ex1⟩ := dx.getD os.length
   obtain ⟨ey0, ey1⟩ := dy.getD os.length
   obtain ⟨x, hxk⟩ : ∃ x, x = xs.getD os.length 0 := ⟨_, rfl⟩
   obtain ⟨y, hyk⟩ : ∃ y, y = ys.getD os.length 0 := ⟨_, rfl⟩
   rw [← hxk] at hc1' ex0 ex1 hzx
   rw [← hyk] at hc2' ey0 ey1 hzy
   rw [← hxk, ← hyk] at hst
   have C1 := hid hc1'
   have C2 := hid hc2'
   have HST := hid hst
   have HZ := hid (And.intro hzx hzy)
   clear hc1' hc2' hst hxk hyk hzx hzy hlast hadd hdo
   have hmore : Hid (xs.length ≤ (os ++ [(c + x + y) % 4294967296]).length → ys.length ≤ (os ++ [(c + x + y) % 4294967296]).length → 0 < (c + x + y) / 4294967296 → (os ++ [(c + x + y) % 4294967296]).length ≤ xs.length + ys.length) := hid (by
    intro h1 h2 h3
    simp at h1 h2 ⊢
    by_cases g1 : xs.length ≤ os.length
    ·by_cases g2 : ys.length ≤ os.length
     ·have := HZ.out.1 g1; have := HZ.out.2 g2; omega
     ·omega
    ·omega)
   rcases (show (os.length < xs.length ∨ (¬ os.length < xs.length ∧ os.length < ys.length) ∨ (¬ os.length < xs.length ∧ ¬ os.length < ys.length ∧ 0 < c)) by omega) with h | ⟨h, h'⟩ | ⟨h, h', h''⟩
   all_goals
    clear hgo
    go_wp2_with fail
    refine C1.out.mono ?_
    rintro e w1 ⟨rfl, rfl⟩
    go_wp2_with fail
    refine C2.out.mono ?_
    rintro e w1 ⟨rfl, rfl⟩
    go_wp2_with (at_builtin; refine wpList_append_lies _ rfl _ _ 30 rfl w.heap.size 128 i0 (.int .u32 0) 1 4 Tryz.underlying30 HI.out.1 HI.out.2.1 HI.out.2.2.1 HI.out.2.2.2 rfl (by decide) (.slice (some ⟨g, 0, none⟩) os.length cp) os.length (os.map (Value.int .u32)) rfl (hown.alloc _) ⟨w1.heap.size, 0, none⟩ 1 1 [.int .u32 ((c + x + y) % 4294967296)] rfl rfl (news_one w1 _) (one_one _) (by decide) (by unfold maxLen; omega) (by omega) (by simp; omega) (w1.heap.size + 1) (by simp) ?_; intro g1 cp1 w2 hown2 hgrow hat hlt2)
    have ho2 := own_more hown2
    have hg0 := (own_ge hown).1
    have hb2 : Below w.heap.size w w2 := bel_app (bel_al hb _) hgrow hg0
    clear hown2 hat
    go_roundw
    case rel => exact ⟨os ++ [(c + x + y) % 4294967296], (c + x + y) / 4294967296, g1, cp1, by simp; omega, by simp, rfl, by simp, by omega, by omega, hmore.out, ho2, HDO.out.append (Nm.Dg.cons (by omega) Nm.Dg.nil), HST.out _ _ (by omega), hb2⟩
    case measure => simp [intOf]; omega
  ·have h : ¬ os.length < xs.length := by omega
   have h' : ¬ os.length < ys.length := by omega
   have h'' : ¬ 0 < c := by omega
   obtain rfl : c = 0 := by omega
   clear hgo hlast hadd hdo
   go_wp2
   go_ret
   refine ⟨some ⟨g, 0, none⟩, cp, os, rfl, hown, HDO.out, ?_, by omega, hb⟩
   have := HADD.out.full (by omega) (by omega) rfl
   simpa using this
theorem less_any (a a' : Option Addr) (cap cap' : Nat) (xs ys : List Int) (w : World) (hx : Sl .u32 w (.slice a xs.length cap) xs) (hy : Sl .u32 w (.slice a' ys.length cap') ys) (dx : Nm.Dg xs) (dy : Nm.Dg ys) (hl : xs.length ≤ 500000) (hl' : ys.length ≤ xs.length) (hge : Nm.val ys ≤ Nm.val xs) :
  Calls Tryz.prog 178 #[.slice a xs.length cap, .slice a' ys.length cap'] w fun e w' => ∃ a1 c1 os, e = .returned (.slice a1 os.length c1) ∧ Own w' w.heap.size a1 c1 os ∧ Nm.Dg os ∧ Nm.val os = Nm.val xs - Nm.val ys ∧ os.length ≤ 1048576 ∧ Below w.heap.size w w' := by
 obtain ⟨i0, hi, hz0, hz1, hz2⟩ := info_parts info32
 have HI := hid (And.intro hi (And.intro hz0 (And.intro hz1 hz2)))
 clear hi hz0 hz1 hz2
 obtain ⟨-, hx1, hx2, hx3⟩ := hx.cells
 have HX3 := hid hx3
 have HGE := hid hge
 clear hx3 hge
 go_enter Tryz.func178, Tryz.ntmps178
 go_wp2_with fail
 go_loopw [5, 6, 7] (fun sl cy i wr => ∃ os : List Int, ∃ c : Int, ∃ g cp : Nat, os.length ≤ xs.length ∧ i = .int .i64 os.length ∧ cy = .int .i64 c ∧ sl = .slice (some ⟨g, 0, none⟩) os.length cp ∧ -1 ≤ c ∧ c ≤ 0 ∧ Own wr w.heap.size (some ⟨g, 0, none⟩) cp os ∧ Nm.Dg os ∧ Nm.SubAt xs ys os os.length (-c) ∧ Below w.heap.size w wr) (fun _ _ i _ => xs.length - (intOf i).toNat)
 case atStart => exact ⟨[], 0, w.heap.size, 0, by simp, rfl, rfl, rfl, by omega, by omega, own_buf, Nm.Dg.nil, Nm.SubAt.zero _ _ _, (by repeat (first | exact bz0 _ _ | refine bz1 ?_ | refine bz2 ?_ _ | refine bz3 ?_ _ | refine bz5 ?_ _ | refine bz6 ?_ _))⟩
 case round =>
  obtain ⟨os, c, g, cp, hk, rfl, rfl, rfl, hc0, hc1, hown, hdo, hadd, hb⟩ := hrel
  have HADD := hid hadd
  have HDO := hid hdo
  have hbs : w.heap.size ≤ wr.heap.size := hb.size
  have sy := hy.below hb
  by_cases hgo : os.length < xs.length
  ·obtain ⟨b, off, rfl, hcx⟩ := HX3.out (by omega)
   have hcell := hcx os.length hgo
   have hcell : wr.cell? ⟨b, off + os.length, none⟩ = some (.int .u32 (xs.getD os.length 0)) := (hb.cell (p := ⟨b, off + os.length, none⟩) (World.block_lt_of_cell? w _ hcell)).trans hcell
   have hc2' := fun w' (h : Sl .u32 w' (.slice a' ys.length cap') ys) => limb_any a' cap' ys os.length w' h dy (by omega) (by omega)
   have hst := fun d c' => Nm.SubAt.stepSnoc (d := d) (c' := c') HADD.out
   obtain ⟨ex0, ex1⟩ := dx.getD os.length
   obtain ⟨ey0, ey1⟩ := dy.getD os.length
   obtain ⟨x, hxk⟩ : ∃ x, x = xs.getD os.length 0 := ⟨_, rfl⟩
   obtain ⟨y, hyk⟩ : ∃ y, y = ys.getD os.length 0 := ⟨_, rfl⟩
   rw [← hxk] at hcell ex0 ex1
   simp only [← hyk] at hc2'
   rw [← hyk] at ey0 ey1
   rw [← hxk, ← hyk] at hst
   have C2 := hid hc2'
   have HST := hid hst
   clear hcx hc2' hst hxk hyk hadd hdo
   have k0 : (0 : Int) ≤ (os.length : Int) := by omega
   have k1 : (os.length : Int) < (xs.length : Int) := by omega
   go_wp2_with fail
   go_region_held3 (fun w' => w'.cell? ⟨b, off + os.length, none⟩ = some (.int .u32 x)) (first | assumption | go_keep)
    (first | (go_at_call 176; refine (C2.out _ (by exact Sl.drew sy)).mono ?_; rintro e w' ⟨rfl, rfl⟩))
   go_wp2_with (at_builtin; refine wpList_append_lies _ rfl _ _ 30 rfl w.heap.size 128 i0 (.int .u32 0) 1 4 Tryz.underlying30 HI.out.1 HI.out.2.1 HI.out.2.2.1 HI.out.2.2.2 rfl (by decide) (.slice (some ⟨g, 0, none⟩) os.length cp) os.length (os.map (Value.int .u32)) rfl (by exact hown.drew.alloc _) ⟨wr.heap.size, 0, none⟩ 1 1 [.int .u32 ((c + x - y) % 4294967296)] rfl rfl (by exact news_one wr.drew _) (one_one _) (by decide) (by unfold maxLen; omega) (by omega) (by simp; omega) (wr.heap.size + 1) (by simp) ?_; intro g1 cp1 w2 hown2 hgrow hat hlt2)
   have ho2 := own_more hown2
   have hg0 := (own_ge hown).1
   have hb2 : Below w.heap.size w w2 := bel_app (bel_al (Below.drew hb) _) hgrow hg0
   clear hown2 hat
   go_roundw
   case rel => exact ⟨os ++ [(c + x - y) % 4294967296], (c + x - y) / 4294967296, g1, cp1, by simp; omega, by simp, rfl, by simp, by omega, by omega, ho2, HDO.out.append (Nm.Dg.cons (by omega) Nm.Dg.nil), HST.out _ _ (by omega), hb2⟩
   case measure => simp [intOf]; omega
  ·have hlen : os.length = xs.length := by omega
   have HL := hid hlen
   clear hlen hadd hdo
   go_wp2
   go_ret
   exact ⟨some ⟨g, 0, none⟩, cp, os, rfl, hown, HDO.out, HADD.out.full HL.out.symm (by have := HL.out; omega) dx dy HDO.out (by omega) HGE.out, by omega, hb⟩
end Go.Proofs.YtkfjmcdniohljaaGreatDoor
