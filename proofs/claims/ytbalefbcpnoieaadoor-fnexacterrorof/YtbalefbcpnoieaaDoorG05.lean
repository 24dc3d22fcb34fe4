/-
  Several texts in one: Rows2, WideP, ShiftA.
-/
import Derived.Test.YtbalefbcpnoieaaDoorG03
import Derived.Test.YtbalefbcpnoieaaDoorG04
/-
  Rows of limbs that a call makes and writes; single limbs; sums of three limbs.
-/
namespace Go.Proofs.YtbalefbcpnoieaaDoor
set_option linter.unusedVariables false
set_option linter.unusedSimpArgs false
open Go.RowKit Go.Deep
/-- The block b holds the limbs os, whole, and may be written. -/
def Rw (w : World) (b : Nat) (os : List Int) : Prop := w.rowIs b 58 os.length (fun i => .int .u32 (os.getD i 0))
theorem Rw.set {w : World} {b : Nat} {os : List Int} (h : Rw w b os) {k : Nat} (hk : k < os.length) (v : Int) : Rw (w.setCell ⟨b, k, none⟩ (.int .u32 v)) b (os.set k v) := by
  unfold Rw at *
  rw [List.length_set]
  refine (World.rowIs.set h k _).congr fun i _ => ?_
  rw [Nm.getD_set _ _ _ _ hk]
  by_cases e : i = k <;> simp [e]
theorem Rw.own {w : World} {b base : Nat} {os : List Int} (h : Rw w b os) (hb : base ≤ b) (hm : os.length ≤ maxLen) : Own w base (some ⟨b, 0, none⟩) os.length os := Own.of_row h (fun _ _ => rfl) hb hm
theorem Rw.cell {w : World} {b : Nat} {os : List Int} (h : Rw w b os) {k : Nat} (hk : k < os.length) : w.cell? ⟨b, k, none⟩ = some (.int .u32 (os.getD k 0)) := World.rowIs.cell h hk
theorem Rw.frozen {w : World} {b : Nat} {os : List Int} (h : Rw w b os) (k : Nat) : w.frozen? ⟨b, k, none⟩ = false := World.rowIs.frozen h k
theorem Rw.made (w : World) (n : Nat) : Rw (w.alloc (.cells (madeCells #[.int .u32 0] n) 58)) w.heap.size (List.replicate n 0) := by
  unfold Rw
  rw [List.length_replicate]
  refine (World.rowIs_made w (.int .u32 0) n 58).congr fun i _ => ?_
  rw [Nm.getD_replicate]
theorem Rw.below {w w' : World} {b : Nat} {os : List Int} (h : Rw w b os) (hb : Below w.heap.size w w') (hlt : b < w.heap.size) : Rw w' b os := by
  obtain ⟨c, h1, h2, h3⟩ := h
  exact ⟨c, by rw [hb.block b hlt]; exact h1, h2, h3⟩

set_option maxHeartbeats 1000000 in
theorem limbAt_any (a : Option Addr) (cap : Nat) (zs : List Int) (i : Nat) (w : World) (hs : Sl .u32 w (.slice a zs.length cap) zs) (hl : zs.length ≤ 140737488355328) (hi : i ≤ 140737488355328) :
    Calls Tryd.prog 39 #[.slice a zs.length cap, .int .i64 i] w fun e w' => e = .returned (.int .u32 (zs.getD i 0)) ∧ w' = w := by
  obtain ⟨-, hx1, hx2, hx3⟩ := hs.cells
  by_cases hlt : i < zs.length
  · obtain ⟨b, off, rfl, hcx⟩ := hx3 (by omega)
    have hc := hcx i hlt
    clear hcx hx3
    obtain ⟨x, hx⟩ : ∃ x, x = zs.getD i 0 := ⟨_, rfl⟩
    rw [← hx] at hc ⊢
    clear hx
    go_enter Tryd.func39, Tryd.ntmps39
    go_wp2
    go_ret
    exact ⟨rfl, rfl⟩
  · have HR : Hid (zs.getD i 0 = 0) := hid (Nm.getD_out (by omega))
    clear hx3
    go_enter Tryd.func39, Tryd.ntmps39
    go_wp2
    go_ret
    exact ⟨ret_int HR.out.symm, rfl⟩
set_option maxHeartbeats 1000000 in
theorem limb_any (a : Option Addr) (cap : Nat) (zs : List Int) (i : Nat) (w : World) (hs : Sl .u32 w (.slice a zs.length cap) zs) (hz : Nm.Dg zs) (hl : zs.length ≤ 140737488355328) (hi : i ≤ 140737488355328) :
    Calls Tryd.prog 75 #[.slice a zs.length cap, .int .i64 i] w fun e w' => e = .returned (.int .u64 (zs.getD i 0)) ∧ w' = w := by
  obtain ⟨-, hx1, hx2, hx3⟩ := hs.cells
  by_cases hlt : i < zs.length
  · obtain ⟨b, off, rfl, hcx⟩ := hx3 (by omega)
    have hc := hcx i hlt
    have hd := hz.getD i
    clear hcx hx3
    obtain ⟨x, hx⟩ : ∃ x, x = zs.getD i 0 := ⟨_, rfl⟩
    rw [← hx] at hc hd ⊢
    clear hx
    obtain ⟨hd0, hd1⟩ := hd
    go_enter Tryd.func75, Tryd.ntmps75
    go_wp2
    go_ret
    exact ⟨rfl, rfl⟩
  · have HR : Hid (zs.getD i 0 = 0) := hid (Nm.getD_out (by omega))
    clear hx3
    go_enter Tryd.func75, Tryd.ntmps75
    go_wp2
    go_ret
    exact ⟨ret_int HR.out.symm, rfl⟩
set_option maxHeartbeats 1000000 in
theorem add32_any (x y c : Int) (w : World) (hx : 0 ≤ x) (hx1 : x < 4294967296) (hy : 0 ≤ y) (hy1 : y < 4294967296) (hc : 0 ≤ c) (hc1 : c ≤ 1) :
    Calls Tryd.prog 104 #[.int .u32 x, .int .u32 y, .int .u32 c] w fun e w' => e = .returned (.tuple #[.int .u32 ((x + y + c) % 4294967296), .int .u32 ((x + y + c) / 4294967296)]) ∧ w' = w := by
  go_enter Tryd.func104, Tryd.ntmps104
  go_wp2
  go_ret2
  exact ⟨rfl, rfl⟩
end Go.Proofs.YtbalefbcpnoieaaDoor
/-
  Sums of limbs, by the program and by the specification.
-/
namespace Go.Proofs.YtbalefbcpnoieaaDoor
set_option linter.unusedVariables false
set_option linter.unusedSimpArgs false
open Go.RowKit Go.Deep
theorem mk1 (N : Nat) (h : N ≤ 1000000) : ∀ w : World, (Instr.makeSlice 28 (.int .i64 ((N : Int) + 1)) (.int .i64 ((N : Int) + 1))).run Tryd.prog w = .ok (.slice (some ⟨w.heap.size, 0, none⟩) (N + 1) (N + 1)) (w.alloc (.cells (madeCells #[.int .u32 0] (N + 1)) 58)) :=
  run_make_row' (P := Tryd.prog) 28 58 (.int .u32 0) 4 Tryd.underlying28 info32 rfl .i64 .i64 (N + 1) (by omega) (by omega)
set_option maxRecDepth 10000 in
set_option maxHeartbeats 800000 in
theorem addLimbs_lt (a a' : Option Addr) (cap cap' : Nat) (xs ys : List Int) (w : World) (hx : Sl .u32 w (.slice a xs.length cap) xs) (hy : Sl .u32 w (.slice a' ys.length cap') ys) (dx : Nm.Dg xs) (dy : Nm.Dg ys) (hl : xs.length ≤ 1000000) (hl' : ys.length ≤ 1000000) (hc : xs.length < ys.length) :
    Calls Tryd.prog 86 #[.slice a xs.length cap, .slice a' ys.length cap'] w fun e w' => ∃ a1 c1 os, e = .returned (.slice a1 os.length c1) ∧ Own w' w.heap.size a1 c1 os ∧ Nm.Dg os ∧ Nm.val os = Nm.val xs + Nm.val ys ∧ os.length ≤ 1048576 ∧ Below w.heap.size w w' := by
  have hmk := mk1 ys.length (by omega)
  go_enter Tryd.func86, Tryd.ntmps86
  go_wp2_with fail
  clear hmk
  go_loopw [7, 18] (fun cy i wr => ∃ k : Nat, ∃ os : List Int, ∃ c : Int, k ≤ ys.length ∧ i = .int .i64 k ∧ cy = .int .u32 c ∧ 0 ≤ c ∧ c ≤ 1 ∧ os.length = ys.length + 1 ∧ Rw wr w.heap.size os ∧ Nm.Dg os ∧ Nm.AddAt xs ys os k c ∧ Below w.heap.size w wr) (fun _ i _ => ys.length - (intOf i).toNat)
  case atStart => exact ⟨0, List.replicate (ys.length + 1) 0, 0, Nat.zero_le _, rfl, rfl, by omega, by omega, by simp, Rw.made w (ys.length + 1), Nm.Dg.replicate _, Nm.AddAt.zero _ _ _, (by repeat (first | exact Below.refl _ _ | refine Below.drew ?_ | refine bel_dn ?_ _ | refine bel_al ?_ _ | refine Below.setCell ?_ (by first | omega | (simp; done) | (simp; omega)) _ | refine Below.alloc ?_ (by first | omega | (simp; done) | (simp; omega)) _))⟩
  case round =>
    obtain ⟨k, os, c, hk, rfl, rfl, hc0, hc1, hol, hrw, hdo, hadd, hb⟩ := hrel
    have HOL := hid hol
    have hol1 : ys.length + 1 ≤ os.length := by omega
    have HADD := hid hadd
    have HDO := hid hdo
    clear hol hadd hdo
    have sx := hx.below hb
    have sy := hy.below hb
    by_cases hlt : k < ys.length
    · have hcell := hrw.cell (k := k) (by omega)
      have hfr := hrw.frozen k
      have c1 := limbAt_any a cap xs k wr sx (by omega) (by omega)
      have c2 := limbAt_any a' cap' ys k wr sy (by omega) (by omega)
      have hst := fun d c' => Nm.AddAt.step (d := d) (c' := c') HADD.out (show k < os.length by omega)
      obtain ⟨ex0, ex1⟩ := dx.getD k
      obtain ⟨ey0, ey1⟩ := dy.getD k
      obtain ⟨x, hxk⟩ : ∃ x, x = xs.getD k 0 := ⟨_, rfl⟩
      obtain ⟨y, hyk⟩ : ∃ y, y = ys.getD k 0 := ⟨_, rfl⟩
      rw [← hxk] at c1 ex0 ex1
      rw [← hyk] at c2 ey0 ey1
      rw [← hxk, ← hyk] at hst
      have C1 := hid c1
      have C2 := hid c2
      have HST := hid hst
      clear c1 c2 hst hxk hyk
      go_wp2_with fail
      refine C1.out.mono ?_
      rintro e w1 ⟨rfl, rfl⟩
      go_wp2_with fail
      refine C2.out.mono ?_
      rintro e w1 ⟨rfl, rfl⟩
      go_wp2_with fail
      refine (add32_any x y c _ ex0 ex1 ey0 ey1 hc0 hc1).mono ?_
      rintro e w1 ⟨rfl, rfl⟩
      go_wp2
      go_roundw
      case rel =>
        refine ⟨k + 1, os.set k ((x + y + c) % 4294967296), (x + y + c) / 4294967296, by omega, by go_num, rfl, by omega, by omega, by rw [List.length_set]; exact HOL.out, hrw.set (by omega) _, HDO.out.set _ (by omega), HST.out _ _ (by omega), hb.setCell (Nat.le_refl _) _⟩
      case measure => simp [intOf]; omega
    · obtain rfl : k = ys.length := by omega
      have hcell := hrw.cell (k := ys.length) (by omega)
      have hfr := hrw.frozen ys.length
      go_wp2
      go_ret
      have hfull : Nm.val (os.set ys.length c) = Nm.val xs + Nm.val ys := by
        have h1 := HADD.out
        have h2 := Nm.val_take_succ (os.set ys.length c) ys.length
        have h3 : (os.set ys.length c).take (ys.length + 1) = os.set ys.length c := List.take_of_length_le (by rw [List.length_set]; exact Nat.le_of_eq HOL.out)
        rw [h3, List.take_set_of_le (Nat.le_refl _), Nm.getD_set _ _ _ _ (by omega), if_pos rfl] at h2
        unfold Nm.AddAt at h1
        rw [List.take_of_length_le (l := xs) (by omega), List.take_of_length_le (l := ys) (by omega)] at h1
        omega
      have hlen : (os.set ys.length c).length = ys.length + 1 := by rw [List.length_set]; exact HOL.out
      have hown : Own (wr.setCell ⟨w.heap.size, ys.length, none⟩ (.int .u32 c)) w.heap.size (some ⟨w.heap.size, 0, none⟩) (ys.length + 1) (os.set ys.length c) := by
        have := (hrw.set (k := ys.length) (by omega) c).own (base := w.heap.size) (Nat.le_refl _) (by unfold maxLen; omega)
        rwa [hlen] at this
      refine ⟨some ⟨w.heap.size, 0, none⟩, ys.length + 1, os.set ys.length c, by rw [hlen]; rfl, hown, HDO.out.set _ (by omega), hfull, by omega, hb.setCell (Nat.le_refl _) _⟩
set_option maxRecDepth 10000 in
set_option maxHeartbeats 800000 in
theorem addLimbs_ge (a a' : Option Addr) (cap cap' : Nat) (xs ys : List Int) (w : World) (hx : Sl .u32 w (.slice a xs.length cap) xs) (hy : Sl .u32 w (.slice a' ys.length cap') ys) (dx : Nm.Dg xs) (dy : Nm.Dg ys) (hl : xs.length ≤ 1000000) (hl' : ys.length ≤ 1000000) (hc : ¬ xs.length < ys.length) :
    Calls Tryd.prog 86 #[.slice a xs.length cap, .slice a' ys.length cap'] w fun e w' => ∃ a1 c1 os, e = .returned (.slice a1 os.length c1) ∧ Own w' w.heap.size a1 c1 os ∧ Nm.Dg os ∧ Nm.val os = Nm.val xs + Nm.val ys ∧ os.length ≤ 1048576 ∧ Below w.heap.size w w' := by
  have hmk := mk1 xs.length (by omega)
  go_enter Tryd.func86, Tryd.ntmps86
  go_wp2_with fail
  clear hmk
  go_loopw [7, 18] (fun cy i wr => ∃ k : Nat, ∃ os : List Int, ∃ c : Int, k ≤ xs.length ∧ i = .int .i64 k ∧ cy = .int .u32 c ∧ 0 ≤ c ∧ c ≤ 1 ∧ os.length = xs.length + 1 ∧ Rw wr w.heap.size os ∧ Nm.Dg os ∧ Nm.AddAt xs ys os k c ∧ Below w.heap.size w wr) (fun _ i _ => xs.length - (intOf i).toNat)
  case atStart => exact ⟨0, List.replicate (xs.length + 1) 0, 0, Nat.zero_le _, rfl, rfl, by omega, by omega, by simp, Rw.made w (xs.length + 1), Nm.Dg.replicate _, Nm.AddAt.zero _ _ _, (by repeat (first | exact Below.refl _ _ | refine Below.drew ?_ | refine bel_dn ?_ _ | refine bel_al ?_ _ | refine Below.setCell ?_ (by first | omega | (simp; done) | (simp; omega)) _ | refine Below.alloc ?_ (by first | omega | (simp; done) | (simp; omega)) _))⟩
  case round =>
    obtain ⟨k, os, c, hk, rfl, rfl, hc0, hc1, hol, hrw, hdo, hadd, hb⟩ := hrel
    have HOL := hid hol
    have hol1 : xs.length + 1 ≤ os.length := by omega
    have HADD := hid hadd
    have HDO := hid hdo
    clear hol hadd hdo
    have sx := hx.below hb
    have sy := hy.below hb
    by_cases hlt : k < xs.length
    · have hcell := hrw.cell (k := k) (by omega)
      have hfr := hrw.frozen k
      have c1 := limbAt_any a cap xs k wr sx (by omega) (by omega)
      have c2 := limbAt_any a' cap' ys k wr sy (by omega) (by omega)
      have hst := fun d c' => Nm.AddAt.step (d := d) (c' := c') HADD.out (show k < os.length by omega)
      obtain ⟨ex0, ex1⟩ := dx.getD k
      obtain ⟨ey0, ey1⟩ := dy.getD k
      obtain ⟨x, hxk⟩ : ∃ x, x = xs.getD k 0 := ⟨_, rfl⟩
      obtain ⟨y, hyk⟩ : ∃ y, y = ys.getD k 0 := ⟨_, rfl⟩
      rw [← hxk] at c1 ex0 ex1
      rw [← hyk] at c2 ey0 ey1
      rw [← hxk, ← hyk] at hst
      have C1 := hid c1
      have C2 := hid c2
      have HST := hid hst
      clear c1 c2 hst hxk hyk
      go_wp2_with fail
      refine C1.out.mono ?_
      rintro e w1 ⟨rfl, rfl⟩
      go_wp2_with fail
      refine C2.out.mono ?_
      rintro e w1 ⟨rfl, rfl⟩
      go_wp2_with fail
      refine (add32_any x y c _ ex0 ex1 ey0 ey1 hc0 hc1).mono ?_
      rintro e w1 ⟨rfl, rfl⟩
      go_wp2
      go_roundw
      case rel =>
        refine ⟨k + 1, os.set k ((x + y + c) % 4294967296), (x + y + c) / 4294967296, by omega, by go_num, rfl, by omega, by omega, by rw [List.length_set]; exact HOL.out, hrw.set (by omega) _, HDO.out.set _ (by omega), HST.out _ _ (by omega), hb.setCell (Nat.le_refl _) _⟩
      case measure => simp [intOf]; omega
    · obtain rfl : k = xs.length := by omega
      have hcell := hrw.cell (k := xs.length) (by omega)
      have hfr := hrw.frozen xs.length
      go_wp2
      go_ret
      have hfull : Nm.val (os.set xs.length c) = Nm.val xs + Nm.val ys := by
        have h1 := HADD.out
        have h2 := Nm.val_take_succ (os.set xs.length c) xs.length
        have h3 : (os.set xs.length c).take (xs.length + 1) = os.set xs.length c := List.take_of_length_le (by rw [List.length_set]; exact Nat.le_of_eq HOL.out)
        rw [h3, List.take_set_of_le (Nat.le_refl _), Nm.getD_set _ _ _ _ (by omega), if_pos rfl] at h2
        unfold Nm.AddAt at h1
        rw [List.take_of_length_le (l := xs) (by omega), List.take_of_length_le (l := ys) (by omega)] at h1
        omega
      have hlen : (os.set xs.length c).length = xs.length + 1 := by rw [List.length_set]; exact HOL.out
      have hown : Own (wr.setCell ⟨w.heap.size, xs.length, none⟩ (.int .u32 c)) w.heap.size (some ⟨w.heap.size, 0, none⟩) (xs.length + 1) (os.set xs.length c) := by
        have := (hrw.set (k := xs.length) (by omega) c).own (base := w.heap.size) (Nat.le_refl _) (by unfold maxLen; omega)
        rwa [hlen] at this
      refine ⟨some ⟨w.heap.size, 0, none⟩, xs.length + 1, os.set xs.length c, by rw [hlen]; rfl, hown, HDO.out.set _ (by omega), hfull, by omega, hb.setCell (Nat.le_refl _) _⟩
theorem addLimbs_any (a a' : Option Addr) (cap cap' : Nat) (xs ys : List Int) (w : World) (hx : Sl .u32 w (.slice a xs.length cap) xs) (hy : Sl .u32 w (.slice a' ys.length cap') ys) (dx : Nm.Dg xs) (dy : Nm.Dg ys) (hl : xs.length ≤ 1000000) (hl' : ys.length ≤ 1000000) :
    Calls Tryd.prog 86 #[.slice a xs.length cap, .slice a' ys.length cap'] w fun e w' => ∃ a1 c1 os, e = .returned (.slice a1 os.length c1) ∧ Own w' w.heap.size a1 c1 os ∧ Nm.Dg os ∧ Nm.val os = Nm.val xs + Nm.val ys ∧ os.length ≤ 1048576 ∧ Below w.heap.size w w' := by
  by_cases h : xs.length < ys.length
  · exact addLimbs_lt a a' cap cap' xs ys w hx hy dx dy hl hl' h
  · exact addLimbs_ge a a' cap cap' xs ys w hx hy dx dy hl hl' h
end Go.Proofs.YtbalefbcpnoieaaDoor
/-
  Limbs shifted up, by the program.
-/
namespace Go.Proofs.YtbalefbcpnoieaaDoor
set_option linter.unusedVariables false
set_option linter.unusedSimpArgs false
open Go.RowKit Go.Deep
theorem mk3 (N M : Nat) (h : N ≤ 400000) (h' : M ≤ 400000) : ∀ w : World, (Instr.makeSlice 28 (.int .i64 ((N : Int) + (M : Int) + 1)) (.int .i64 ((N : Int) + (M : Int) + 1))).run Tryd.prog w = .ok (.slice (some ⟨w.heap.size, 0, none⟩) (N + M + 1) (N + M + 1)) (w.alloc (.cells (madeCells #[.int .u32 0] (N + M + 1)) 58)) :=
  run_make_row' (P := Tryd.prog) 28 58 (.int .u32 0) 4 Tryd.underlying28 info32 rfl .i64 .i64 (N + M + 1) (by omega) (by omega)
theorem pq (r : Nat) (hr : r < 32) : ∃ q : Int, 1 ≤ q ∧ (2 : Int) ^ r * q = 4294967296 ∧ 1 ≤ (2 : Int) ^ r := by
  refine ⟨(2 : Int) ^ (32 - r), ?_, ?_, ?_⟩
  · exact Int.pow_pos (by decide)
  · rw [← Int.pow_add, show r + (32 - r) = 32 by omega]; decide
  · exact Int.pow_pos (by decide)
theorem wrapu (t : Int) (h0 : 0 ≤ t) (h1 : t < 18446744073709551616) : IntKind.u64.wrap t = t := by rw [IntKind.wrap_u64]; omega
/-- What a limb is, and what is put to it above. -/
theorem or_up (o x : Int) (r : Nat) (hr : r < 32) (ho : 0 ≤ o) (ho1 : o < (2 : Int) ^ r) (hx : 0 ≤ x) (hx1 : x < 4294967296) : bits .or .u32 o (x * (2 : Int) ^ r % 4294967296) = o + x * (2 : Int) ^ r % 4294967296 := by
  obtain ⟨q, hq, e, hp⟩ := pq r hr
  obtain ⟨u0, u1, u2, u3, u4, u5⟩ := Nm.up_parts (x := x) (p := (2 : Int) ^ r) (q := q) ⟨hx, hx1⟩ hp hq e
  have em : x * (2 : Int) ^ r % 4294967296 = (2 : Int) ^ r * (x % q) := by rw [← e, Int.mul_comm x, Int.mul_emod_mul_of_pos x q (by omega)]
  have hq0 := Int.emod_nonneg x (show q ≠ 0 by omega)
  obtain ⟨O, rfl⟩ := Int.eq_ofNat_of_zero_le ho
  obtain ⟨Q, hQ⟩ := Int.eq_ofNat_of_zero_le hq0
  obtain ⟨A, hA⟩ := Int.eq_ofNat_of_zero_le u2
  have hAQ : A = 2 ^ r * Q := by
    have h : (A : Int) = (2 : Int) ^ r * (Q : Int) := by rw [← hA, ← hQ]; exact em
    have h2 : ((2 ^ r * Q : Nat) : Int) = (2 : Int) ^ r * (Q : Int) := by simp
    omega
  have hO : O < 2 ^ r := by
    have h2 : ((2 ^ r : Nat) : Int) = (2 : Int) ^ r := by simp
    omega
  rw [hA, u32_or_nat O A (by omega) (by omega), Nat.or_comm, nat_join r A O (by rw [hAQ]; exact Nat.mul_mod_right _ _) hO]
  omega
set_option maxRecDepth 10000 in
set_option maxHeartbeats 1600000 in
theorem up_any (a : Option Addr) (cap : Nat) (xs : List Int) (n : Int) (wh r : Nat) (w : World) (hx : Sl .u32 w (.slice a xs.length cap) xs) (dx : Nm.Dg xs) (hl : xs.length ≤ 400000) (hw : wh ≤ 400000) (hr : r < 32) (h0 : 0 ≤ n) (h1 : n ≤ 1000000) (hq : n / 32 = (wh : Int)) (hm : n % 32 = (r : Int)) :
    Calls Tryd.prog 80 #[.slice a xs.length cap, .int .i64 n] w fun e w' => ∃ a1 c1 os, e = .returned (.slice a1 os.length c1) ∧ Own w' w.heap.size a1 c1 os ∧ Nm.Dg os ∧ Nm.val os = Nm.pw wh * ((2 : Int) ^ r * Nm.val xs) ∧ os.length ≤ 1048576 ∧ Below w.heap.size w w' := by
  have hmk := mk3 wh xs.length hw hl
  obtain ⟨q, hp⟩ := pq r hr
  have HP := hid hp
  clear hp
  obtain ⟨-, hx1, hx2, hx3⟩ := hx.cells
  have HX3 := hid hx3
  clear hx3
  go_enter Tryd.func80, Tryd.ntmps80
  go_wp2_with fail
  clear hmk
  go_loopw [23] (fun iv wr => ∃ i : Nat, ∃ os : List Int, i ≤ xs.length ∧ iv = .int .i64 i ∧ os.length = wh + xs.length + 1 ∧ Rw wr w.heap.size os ∧ Nm.UpAt xs os wh ((2 : Int) ^ r) i ∧ Below w.heap.size w wr) (fun iv _ => xs.length - (intOf iv).toNat)
  case atStart => exact ⟨0, List.replicate (wh + xs.length + 1) 0, Nat.zero_le _, rfl, by simp, Rw.made w _, Nm.UpAt.zero _ _ _ _ HP.out.2.2, (by repeat (first | exact Below.refl _ _ | refine Below.drew ?_ | refine bel_dn ?_ _ | refine bel_al ?_ _ | refine Below.setCell ?_ (by first | omega | (simp; done) | (simp; omega)) _ | refine Below.alloc ?_ (by first | omega | (simp; done) | (simp; omega)) _))⟩
  case round =>
    obtain ⟨i, os, hi, rfl, hol, hrw, hup, hb⟩ := hrel
    have H0 := hid (And.intro hol hup)
    have hol1 : wh + xs.length + 1 ≤ os.length := by omega
    clear hol hup
    by_cases hlt : i < xs.length
    · obtain ⟨b, off, rfl, hcx⟩ := HX3.out (by omega)
      have hca0 := hcx i hlt
      have hbl := World.block_lt_of_cell? w _ hca0
      have hca : wr.cell? ⟨b, off + i, none⟩ = some (.int .u32 (xs.getD i 0)) := (hb.cell (p := ⟨b, off + i, none⟩) hbl).trans hca0
      obtain ⟨ex0, ex1⟩ := dx.getD i
      obtain ⟨x, hxk⟩ : ∃ x, x = xs.getD i 0 := ⟨_, rfl⟩
      rw [← hxk] at hca ex0 ex1
      have HXK := hid hxk
      have hcell := hrw.cell (k := wh + i) (by omega)
      have hfr := hrw.frozen (wh + i)
      have hcell' := hrw.cell (k := wh + i + 1) (by omega)
      have hfr' := hrw.frozen (wh + i + 1)
      obtain ⟨o, hok⟩ : ∃ o, o = os.getD (wh + i) 0 := ⟨_, rfl⟩
      rw [← hok] at hcell
      have hlo := H0.out.2.lo
      have hog := H0.out.2.d.getD (wh + i)
      have hst := H0.out.2.step HP.out.2.2 HP.out.1 HP.out.2.1 dx (show wh + i + 1 < os.length by omega)
      rw [← hok] at hlo hog hst
      rw [← HXK.out] at hst
      obtain ⟨p0, p1, p2, p3, p4, p5⟩ := Nm.up_parts (x := x) (p := (2 : Int) ^ r) (q := q) ⟨ex0, ex1⟩ HP.out.2.2 HP.out.1 HP.out.2.1
      have hpb : (2 : Int) ^ r ≤ 4294967296 := by omega
      have k1 := wrapu _ p0 p1
      have k2 := or_up o x r hr hog.1 hlo ex0 ex1
      have k3 : x * (2 : Int) ^ r / 4294967296 % 4294967296 = x * (2 : Int) ^ r / 4294967296 := by omega
      have HK := hid (And.intro k1 (And.intro k2 k3))
      have HST := hid hst
      clear hxk hca0 hcx hok hst k1 k2 k3 hlo hog p0 p1 p2 p3 p4 p5 hpb
      go_wp2_with fail
      rw [HK.out.1, HK.out.2.1, HK.out.2.2]
      go_roundw
      case rel => exact ⟨i + 1, (os.set (wh + i) (o + x * (2 : Int) ^ r % 4294967296)).set (wh + i + 1) (x * (2 : Int) ^ r / 4294967296), by omega, by go_num, by rw [List.length_set, List.length_set]; exact H0.out.1, (hrw.set (by omega) _).set (by rw [List.length_set]; omega) _, HST.out, (hb.setCell (Nat.le_refl _) _).setCell (Nat.le_refl _) _⟩
      case measure => simp [intOf]; omega
    · obtain rfl : i = xs.length := by omega
      have hlen := H0.out.1
      have hown := hrw.own (base := w.heap.size) (Nat.le_refl _) (by unfold maxLen; omega)
      have hfull := H0.out.2.full
      have HF := hid (And.intro hown (And.intro hfull hlen))
      clear hown hfull hlen
      go_wp2
      go_ret
      exact ⟨some ⟨w.heap.size, 0, none⟩, os.length, os, by rw [HF.out.2.2]; rfl, HF.out.1, H0.out.2.d, HF.out.2.1, by have := HF.out.2.2; omega, hb⟩
end Go.Proofs.YtbalefbcpnoieaaDoor
