/-
  What is needed of WideP.
-/
import Derived.Test.YtmnfidkpnogfmaaK09
set_option maxHeartbeats 16000000
set_option maxRecDepth 1000000
namespace Go.Proofs.Ytmnfidkpnogfmaa
set_option linter.unusedVariables false
set_option linter.unusedSimpArgs false
open Go.RowKit Go.Deep
theorem mk1 (N : Nat) (h : N ≤ 1000000) : ∀ w : World, (Instr.makeSlice 60 (.int .i64 ((N : Int) + 1)) (.int .i64 ((N : Int) + 1))).run Try.prog w = .ok (.slice (some ⟨w.heap.size, 0, none⟩) (N + 1) (N + 1)) (w.alloc (.cells (madeCells #[.int .u32 0] (N + 1)) 121)) :=
  run_make_row' (P := Try.prog) 60 121 (.int .u32 0) 4 Try.underlying60 info32 rfl .i64 .i64 (N + 1) (by omega) (by omega)
theorem addLimbs_lt (a a' : Option Addr) (cap cap' : Nat) (xs ys : List Int) (w : World) (hx : Sl .u32 w (.slice a xs.length cap) xs) (hy : Sl .u32 w (.slice a' ys.length cap') ys) (dx : Nm.Dg xs) (dy : Nm.Dg ys) (hl : xs.length ≤ 1000000) (hl' : ys.length ≤ 1000000) (hc : xs.length < ys.length) :
    Calls Try.prog 120 #[.slice a xs.length cap, .slice a' ys.length cap'] w fun e w' => ∃ a1 c1 os, e = .returned (.slice a1 os.length c1) ∧ Own w' w.heap.size a1 c1 os ∧ Nm.Dg os ∧ Nm.val os = Nm.val xs + Nm.val ys ∧ os.length ≤ 1048576 ∧ Below w.heap.size w w' := by
  have hmk := mk1 ys.length (by omega)
  go_enter Try.func120, Try.ntmps120
  go_wp2_with fail
  clear hmk
  go_loopw [7, 18] (fun cy i wr => ∃ k : Nat, ∃ os : List Int, ∃ c : Int, k ≤ ys.length ∧ i = .int .i64 k ∧ cy = .int .u32 c ∧ 0 ≤ c ∧ c ≤ 1 ∧ os.length = ys.length + 1 ∧ Rw wr w.heap.size os ∧ Nm.Dg os ∧ Nm.AddAt xs ys os k c ∧ Below w.heap.size w wr) (fun _ i _ => ys.length - (intOf i).toNat)
  case atStart => exact ⟨0, List.replicate (ys.length + 1) 0, 0, Nat.zero_le _, rfl, rfl, by omega, by omega, by simp, Rw.made w (ys.length + 1), Nm.Dg.replicate _, Nm.AddAt.zero _ _ _, (by repeat (first | exact bz0 _ _ | refine bz1 ?_ | refine bz2 ?_ _ | refine bz3 ?_ _ | refine bz5 ?_ _ | refine bz6 ?_ _))⟩
  case round =>
    obtain ⟨k, os, c, hk, rfl, rfl, hc0, hc1, hol, hrw, hdo, hadd, hb⟩ := hrel
    have HOL := hid hol
    have hol1 : ys.length + 1 ≤ os.length := by omega
    have HADD := hid hadd
    have HDO := hid hdo
    clear hol hadd hdo
    have sx := hx.below hb
    have sy := hy.below hb
    by_cases hlt : k < ys.length
    · have hcell := hrw.cell (k := k) (by omega)
      have hfr := hrw.frozen k
      have c1 := limbAt_any a cap xs k wr sx (by omega) (by omega)
      have c2 := limbAt_any a' cap' ys k wr sy (by omega) (by omega)
      have hst := fun d c' => Nm.AddAt.step (d := d) (c' := c') HADD.out (show k < os.length by omega)
      obtain ⟨ex0, ex1⟩ := dx.getD k
      obtain ⟨ey0, ey1⟩ := dy.getD k
      obtain ⟨x, hxk⟩ : ∃ x, x = xs.getD k 0 := ⟨_, rfl⟩
      obtain ⟨y, hyk⟩ : ∃ y, y = ys.getD k 0 := ⟨_, rfl⟩
      rw [← hxk] at c1 ex0 ex1
      rw [← hyk] at c2 ey0 ey1
      rw [← hxk, ← hyk] at hst
      have C1 := hid c1
      have C2 := hid c2
      have HST := hid hst
      clear c1 c2 hst hxk hyk
      go_wp2_with fail
      refine C1.out.mono ?_
      rintro e w1 ⟨rfl, rfl⟩
      go_wp2_with fail
      refine C2.out.mono ?_
      rintro e w1 ⟨rfl, rfl⟩
      go_wp2_with fail
      refine (add32_any x y c _ ex0 ex1 ey0 ey1 hc0 hc1).mono ?_
      rintro e w1 ⟨rfl, rfl⟩
      go_wp2
      go_roundw
      case rel =>
        refine ⟨k + 1, os.set k ((x + y + c) % 4294967296), (x + y + c) / 4294967296, by omega, by go_num, rfl, by omega, by omega, by rw [List.length_set]; exact HOL.out, hrw.set (by omega) _, HDO.out.set _ (by omega), HST.out _ _ (by omega), hb.setCell (Nat.le_refl _) _⟩
      case measure => simp [intOf]; omega
    · obtain rfl : k = ys.length := by omega
      have hcell := hrw.cell (k := ys.length) (by omega)
      have hfr := hrw.frozen ys.length
      go_wp2
      go_ret
      have hfull : Nm.val (os.set ys.length c) = Nm.val xs + Nm.val ys := by
        have h1 := HADD.out
        have h2 := Nm.val_take_succ (os.set ys.length c) ys.length
        have h3 : (os.set ys.length c).take (ys.length + 1) = os.set ys.length c := List.take_of_length_le (by rw [List.length_set]; exact Nat.le_of_eq HOL.out)
        rw [h3, List.take_set_of_le (Nat.le_refl _), Nm.getD_set _ _ _ _ (by omega), if_pos rfl] at h2
        unfold Nm.AddAt at h1
        rw [List.take_of_length_le (l := xs) (by omega), List.take_of_length_le (l := ys) (by omega)] at h1
        omega
      have hlen : (os.set ys.length c).length = ys.length + 1 := by rw [List.length_set]; exact HOL.out
      have hown : Own (wr.setCell ⟨w.heap.size, ys.length, none⟩ (.int .u32 c)) w.heap.size (some ⟨w.heap.size, 0, none⟩) (ys.length + 1) (os.set ys.length c) := by
        have := (hrw.set (k := ys.length) (by omega) c).own (base := w.heap.size) (Nat.le_refl _) (by unfold maxLen; omega)
        rwa [hlen] at this
      refine ⟨some ⟨w.heap.size, 0, none⟩, ys.length + 1, os.set ys.length c, by rw [hlen]; rfl, hown, HDO.out.set _ (by omega), hfull, by omega, hb.setCell (Nat.le_refl _) _⟩
theorem addLimbs_ge (a a' : Option Addr) (cap cap' : Nat) (xs ys : List Int) (w : World) (hx : Sl .u32 w (.slice a xs.length cap) xs) (hy : Sl .u32 w (.slice a' ys.length cap') ys) (dx : Nm.Dg xs) (dy : Nm.Dg ys) (hl : xs.length ≤ 1000000) (hl' : ys.length ≤ 1000000) (hc : ¬ xs.length < ys.length) :
    Calls Try.prog 120 #[.slice a xs.length cap, .slice a' ys.length cap'] w fun e w' => ∃ a1 c1 os, e = .returned (.slice a1 os.length c1) ∧ Own w' w.heap.size a1 c1 os ∧ Nm.Dg os ∧ Nm.val os = Nm.val xs + Nm.val ys ∧ os.length ≤ 1048576 ∧ Below w.heap.size w w' := by
  have hmk := mk1 xs.length (by omega)
  go_enter Try.func120, Try.ntmps120
  go_wp2_with fail
  clear hmk
  go_loopw [7, 18] (fun cy i wr => ∃ k : Nat, ∃ os : List Int, ∃ c : Int, k ≤ xs.length ∧ i = .int .i64 k ∧ cy = .int .u32 c ∧ 0 ≤ c ∧ c ≤ 1 ∧ os.length = xs.length + 1 ∧ Rw wr w.heap.size os ∧ Nm.Dg os ∧ Nm.AddAt xs ys os k c ∧ Below w.heap.size w wr) (fun _ i _ => xs.length - (intOf i).toNat)
  case atStart => exact ⟨0, List.replicate (xs.length + 1) 0, 0, Nat.zero_le _, rfl, rfl, by omega, by omega, by simp, Rw.made w (xs.length + 1), Nm.Dg.replicate _, Nm.AddAt.zero _ _ _, (by repeat (first | exact bz0 _ _ | refine bz1 ?_ | refine bz2 ?_ _ | refine bz3 ?_ _ | refine bz5 ?_ _ | refine bz6 ?_ _))⟩
  case round =>
    obtain ⟨k, os, c, hk, rfl, rfl, hc0, hc1, hol, hrw, hdo, hadd, hb⟩ := hrel
    have HOL := hid hol
    have hol1 : xs.length + 1 ≤ os.length := by omega
    have HADD := hid hadd
    have HDO := hid hdo
    clear hol hadd hdo
    have sx := hx.below hb
    have sy := hy.below hb
    by_cases hlt : k < xs.length
    · have hcell := hrw.cell (k := k) (by omega)
      have hfr := hrw.frozen k
      have c1 := limbAt_any a cap xs k wr sx (by omega) (by omega)
      have c2 := limbAt_any a' cap' ys k wr sy (by omega) (by omega)
      have hst := fun d c' => Nm.AddAt.step (d := d) (c' := c') HADD.out (show k < os.length by omega)
      obtain ⟨ex0, ex1⟩ := dx.getD k
      obtain ⟨ey0, ey1⟩ := dy.getD k
      obtain ⟨x, hxk⟩ : ∃ x, x = xs.getD k 0 := ⟨_, rfl⟩
      obtain ⟨y, hyk⟩ : ∃ y, y = ys.getD k 0 := ⟨_, rfl⟩
      rw [← hxk] at c1 ex0 ex1
      rw [← hyk] at c2 ey0 ey1
      rw [← hxk, ← hyk] at hst
      have C1 := hid c1
      have C2 := hid c2
      have HST := hid hst
      clear c1 c2 hst hxk hyk
      go_wp2_with fail
      refine C1.out.mono ?_
      rintro e w1 ⟨rfl, rfl⟩
      go_wp2_with fail
      refine C2.out.mono ?_
      rintro e w1 ⟨rfl, rfl⟩
      go_wp2_with fail
      refine (add32_any x y c _ ex0 ex1 ey0 ey1 hc0 hc1).mono ?_
      rintro e w1 ⟨rfl, rfl⟩
      go_wp2
      go_roundw
      case rel =>
        refine ⟨k + 1, os.set k ((x + y + c) % 4294967296), (x + y + c) / 4294967296, by omega, by go_num, rfl, by omega, by omega, by rw [List.length_set]; exact HOL.out, hrw.set (by omega) _, HDO.out.set _ (by omega), HST.out _ _ (by omega), hb.setCell (Nat.le_refl _) _⟩
      case measure => simp [intOf]; omega
    · obtain rfl : k = xs.length := by omega
      have hcell := hrw.cell (k := xs.length) (by omega)
      have hfr := hrw.frozen xs.length
      go_wp2
      go_ret
      have hfull : Nm.val (os.set xs.length c) = Nm.val xs + Nm.val ys := by
        have h1 := HADD.out
        have h2 := Nm.val_take_succ (os.set xs.length c) xs.length
        have h3 : (os.set xs.length c).take (xs.length + 1) = os.set xs.length c := List.take_of_length_le (by rw [List.length_set]; exact Nat.le_of_eq HOL.out)
        rw [h3, List.take_set_of_le (Nat.le_refl _), Nm.getD_set _ _ _ _ (by omega), if_pos rfl] at h2
        unfold Nm.AddAt at h1
        rw [List.take_of_length_le (l := xs) (by omega), List.take_of_length_le (l := ys) (by omega)] at h1
        omega
      have hlen : (os.set xs.length c).length = xs.length + 1 := by rw [List.length_set]; exact HOL.out
      have hown : Own (wr.setCell ⟨w.heap.size, xs.length, none⟩ (.int .u32 c)) w.heap.size (some ⟨w.heap.size, 0, none⟩) (xs.length + 1) (os.set xs.length c) := by
        have := (hrw.set (k := xs.length) (by omega) c).own (base := w.heap.size) (Nat.le_refl _) (by unfold maxLen; omega)
        rwa [hlen] at this
      refine ⟨some ⟨w.heap.size, 0, none⟩, xs.length + 1, os.set xs.length c, by rw [hlen]; rfl, hown, HDO.out.set _ (by omega), hfull, by omega, hb.setCell (Nat.le_refl _) _⟩
theorem addLimbs_any (a a' : Option Addr) (cap cap' : Nat) (xs ys : List Int) (w : World) (hx : Sl .u32 w (.slice a xs.length cap) xs) (hy : Sl .u32 w (.slice a' ys.length cap') ys) (dx : Nm.Dg xs) (dy : Nm.Dg ys) (hl : xs.length ≤ 1000000) (hl' : ys.length ≤ 1000000) :
    Calls Try.prog 120 #[.slice a xs.length cap, .slice a' ys.length cap'] w fun e w' => ∃ a1 c1 os, e = .returned (.slice a1 os.length c1) ∧ Own w' w.heap.size a1 c1 os ∧ Nm.Dg os ∧ Nm.val os = Nm.val xs + Nm.val ys ∧ os.length ≤ 1048576 ∧ Below w.heap.size w w' := by
  by_cases h : xs.length < ys.length
  · exact addLimbs_lt a a' cap cap' xs ys w hx hy dx dy hl hl' h
  · exact addLimbs_ge a a' cap cap' xs ys w hx hy dx dy hl hl' h
end Go.Proofs.Ytmnfidkpnogfmaa
