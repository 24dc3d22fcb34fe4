/-
  What is needed of Mini, WideW, ITs, WideX, IB.
-/
import Derived.Lib.SmallJoins
import Derived.Test.YtkfjmcdniohljaaGreatDoorC17
import Derived.Test.YtkfjmcdniohljaaGreatDoorC18
import Derived.Test.YtkfjmcdniohljaaGreatDoorC21
set_option maxHeartbeats 16000000
set_option maxRecDepth 1000000
namespace Go.Proofs.YtkfjmcdniohljaaGreatDoor
set_option linter.unusedVariables false
set_option linter.unusedSimpArgs false
open Go.RowKit Go.Deep
theorem Ls {α : Type} : (∀ (xs : List α) (i : Nat) (v : α), xs.toArray.setIfInBounds i v = (xs.set i v).toArray) ∧ (∀ (a b : α) (xs : List α), (a :: xs).set 0 b = b :: xs) ∧ (∀ (a b : α) (i : Nat) (xs : List α), (a :: xs).set (i + 1) b = a :: xs.set i b) ∧ (∀ (xs : List α) (i : Nat) (h : i < xs.toArray.size), xs.toArray[i]'h = xs[i]'(by simpa using h)) ∧ (∀ (a : α) (xs : List α) (h : 0 < (a :: xs).length), (a :: xs)[0]'h = a) ∧ (∀ (a : α) (xs : List α) (i : Nat) (h : i + 1 < (a :: xs).length), (a :: xs)[i + 1]'h = xs[i]'(Nat.lt_of_succ_lt_succ h)) :=
  ⟨fun _ _ _ => by simp, fun _ _ _ => rfl, fun _ _ _ _ => rfl, fun _ _ _ => rfl, fun _ _ _ => rfl, fun _ _ _ _ => rfl⟩
theorem tk {P : Program} {ops : Array Oper} {Q : Exit → Act → World → Prop} {md : Region.Mode} {S : World → Prop} (i : Nat) {oi : Oper} (v : Value) {fuel : Nat} {listed : Array Bool} {a : Act} {w : World} (h1 : ops[i]? = some oi) (h4 : YieldsIf P ops S oi v a) (h6 : wpAnyH P md ops Q S fuel (listed.setIfInBounds i true) (a.put oi.dst v) w) (h2 : (Region.noSelect ops && Region.free md ops listed i && (Region.ready md ops listed).contains i) = true := by kernel_rfl) (h3 : ∀ (c : List PanicEntry) (a : Act) (w : World), Q (Exit.panic c) (a.put oi.dst v) w → Q (Exit.panic c) a w := by exact fun _ _ _ h => h) (h5 : S w := by assumption) : wpAnyH P md ops Q S (fuel + 1) listed a w := by
  simp only [Bool.and_eq_true] at h2
  exact wpAnyH_take h1 h2.1.1 h2.1.2 h2.2 h3 h4 h5 h6
theorem rdy {P : Program} {ops : Array Oper} {Q : Exit → Act → World → Prop} {md : Region.Mode} {S : World → Prop} (i : Nat) {o : Oper} {fuel : Nat} {listed : Array Bool} {a : Act} {w : World} (h2 : ops[i]? = some o) (h3 : ∀ (K' : Act → World → Prop), Shut (∀ (a : Act) (w : World), S w → (S w → wpAnyH P md ops Q S fuel (listed.setIfInBounds i true) a w) → K' a w) → if Region.wanted o (yielded ops a.tmps) = true then Oper.wp P o a w K' Q else K' (a.put o.dst undef) w) (h1 : Region.ready md ops listed = [i] := by kernel_rfl) : wpAnyH P md ops Q S (fuel + 1) listed a w :=
  wpAnyH_ready h1 (by simp) (AllReadyH.cons h2 h3 AllReadyH.nil)
theorem mk0 (N M : Nat) (h : N ≤ 400000) (h' : M ≤ 400000) : ∀ w : World, (Instr.makeSlice 30 (.int .i64 ((N : Int) + (M : Int))) (.int .i64 ((N : Int) + (M : Int)))).run Tryz.prog w = .ok (.slice (some ⟨w.heap.size, 0, none⟩) (N + M) (N + M)) (w.alloc (.cells (madeCells #[.int .u32 0] (N + M)) 128)) :=
  run_make_row' (P := Tryz.prog) 30 128 (.int .u32 0) 4 Tryz.underlying30 info32 rfl .i64 .i64 (N + M) (by omega) (by omega)
theorem mulLimbs_any (a a' : Option Addr) (cap cap' : Nat) (xs ys : List Int) (w : World) (hx : Sl .u32 w (.slice a xs.length cap) xs) (hy : Sl .u32 w (.slice a' ys.length cap') ys) (dx : Nm.Dg xs) (dy : Nm.Dg ys) (hl : xs.length ≤ 400000) (hl' : ys.length ≤ 400000) :
    Calls Tryz.prog 237 #[.slice a xs.length cap, .slice a' ys.length cap'] w fun e w' => ∃ a1 c1 os, e = .returned (.slice a1 os.length c1) ∧ Own w' w.heap.size a1 c1 os ∧ Nm.Dg os ∧ Nm.val os = Nm.val xs * Nm.val ys ∧ os.length ≤ 1048576 ∧ Below w.heap.size w w' := by
  have hmk := mk0 xs.length ys.length hl hl'
  obtain ⟨-, hx1, hx2, hx3⟩ := hx.cells
  obtain ⟨-, hy1, hy2, hy3⟩ := hy.cells
  have HX3 := hid hx3
  have HY3 := hid hy3
  clear hx3 hy3
  go_enter Tryz.func237, Tryz.ntmps237
  go_wp2_with fail
  clear hmk
  go_loopw [20] (fun iv wr => ∃ i : Nat, ∃ os : List Int, i ≤ xs.length ∧ iv = .int .i64 i ∧ os.length = xs.length + ys.length ∧ Rw wr w.heap.size os ∧ Nm.Dg os ∧ Nm.MulAt xs ys os i 0 0 ∧ (∀ m, i + ys.length ≤ m → os.getD m 0 = 0) ∧ Below w.heap.size w wr) (fun iv _ => xs.length - (intOf iv).toNat)
  case atStart => exact ⟨0, List.replicate (xs.length + ys.length) 0, Nat.zero_le _, rfl, by simp, Rw.made w _, Nm.Dg.replicate _, Nm.MulAt.zero _ _ _ (Nm.val_replicate _), fun m _ => Nm.getD_replicate _ m, (by repeat (first | exact bz0 _ _ | refine bz1 ?_ | refine bz2 ?_ _ | refine bz3 ?_ _ | refine bz5 ?_ _ | refine bz6 ?_ _))⟩
  case round =>
    obtain ⟨i, os, hi, rfl, hol, hrw, hdo, hmul, hzero, hb⟩ := hrel
    have H0 := hid (And.intro hol (And.intro hdo (And.intro hmul hzero)))
    clear hol hdo hmul hzero
    by_cases hlt : i < xs.length
    · obtain ⟨b, off, rfl, hcx⟩ := HX3.out (by omega)
      have hca0 := hcx i hlt
      have hbl := World.block_lt_of_cell? w _ hca0
      have hca : wr.cell? ⟨b, off + i, none⟩ = some (.int .u32 (xs.getD i 0)) := (hb.cell (p := ⟨b, off + i, none⟩) hbl).trans hca0
      obtain ⟨ex0, ex1⟩ := dx.getD i
      obtain ⟨x, hxk⟩ : ∃ x, x = xs.getD i 0 := ⟨_, rfl⟩
      rw [← hxk] at hca ex0 ex1
      have HXK := hid hxk
      clear hxk hca0 hcx
      go_wp2_with fail
      go_loopw [8, 27] (fun cy jv wr => ∃ j : Nat, ∃ os : List Int, ∃ c : Int, j ≤ ys.length ∧ jv = .int .i64 j ∧ cy = .int .u64 c ∧ 0 ≤ c ∧ c < 4294967296 ∧ os.length = xs.length + ys.length ∧ Rw wr w.heap.size os ∧ Nm.Dg os ∧ Nm.MulAt xs ys os i j c ∧ (∀ m, i + ys.length ≤ m → os.getD m 0 = 0) ∧ Below w.heap.size w wr) (fun _ jv _ => ys.length - (intOf jv).toNat)
      case atStart => exact ⟨0, os, 0, Nat.zero_le _, rfl, rfl, by omega, by omega, H0.out.1, hrw, H0.out.2.1, H0.out.2.2.1, H0.out.2.2.2, hb⟩
      case round =>
        clear hrw hb H0 hca
        obtain ⟨j, os, c, hj, rfl, rfl, hc0, hc1, hol, hrw, hdo, hmul, hzero, hb⟩ := hrel
        have H0 := hid (And.intro hol (And.intro hdo (And.intro hmul hzero)))
        have hol1 : xs.length + ys.length ≤ os.length := by omega
        clear hol hdo hmul hzero
        by_cases hlj : j < ys.length
        · obtain ⟨b', off', rfl, hcy⟩ := HY3.out (by omega)
          have hcb0 := hcy j hlj
          have hcb : wr.cell? ⟨b', off' + j, none⟩ = some (.int .u32 (ys.getD j 0)) := (hb.cell (p := ⟨b', off' + j, none⟩) (World.block_lt_of_cell? w _ hcb0)).trans hcb0
          have hcell := hrw.cell (k := i + j) (by omega)
          have hfr := hrw.frozen (i + j)
          obtain ⟨ey0, ey1⟩ := dy.getD j
          obtain ⟨eo0, eo1⟩ := H0.out.2.1.getD (i + j)
          have hst := fun d c' => Nm.MulAt.step (d := d) (c' := c') H0.out.2.2.1 (show i + j < os.length by omega)
          obtain ⟨y, hyk⟩ : ∃ y, y = ys.getD j 0 := ⟨_, rfl⟩
          obtain ⟨o, hok⟩ : ∃ o, o = os.getD (i + j) 0 := ⟨_, rfl⟩
          rw [← hyk] at hcb ey0 ey1
          rw [← hok] at hcell eo0 eo1
          rw [← HXK.out, ← hyk, ← hok] at hst
          have HST := hid hst
          have hpb := Nm.prod_bound (x := x) (y := y) (o := o) (c := c) ⟨ex0, ex1⟩ ⟨ey0, ey1⟩ ⟨eo0, eo1⟩ ⟨hc0, hc1⟩
          obtain ⟨q0, q1, q2, q3, q4⟩ := hpb
          clear hst hyk hok hcb0 hcy
          go_wp2_with fail
          go_roundw
          case rel => exact ⟨j + 1, os.set (i + j) ((x * y + o + c) % 4294967296), (x * y + o + c) / 4294967296, by omega, by go_num, rfl, q4, q3, by rw [List.length_set]; exact H0.out.1, hrw.set (by omega) _, H0.out.2.1.set _ (by omega), HST.out _ _ (by omega), fun m hm => by rw [Nm.getD_set _ _ _ _ (by omega), if_neg (by omega)]; exact H0.out.2.2.2 m hm, hb.setCell (Nat.le_refl _) _⟩
          case measure => simp [intOf]; omega
        · obtain rfl : j = ys.length := by omega
          have hcell := hrw.cell (k := i + ys.length) (by omega)
          have hfr := hrw.frozen (i + ys.length)
          have hzo := H0.out.2.2.2 (i + ys.length) (Nat.le_refl _)
          have hst := Nm.MulAt.step (d := c) (c' := 0) H0.out.2.2.1 (show i + ys.length < os.length by omega) (by rw [hzo, Nm.getD_out (Nat.le_refl _)]; omega)
          have hnx := hst.next (by omega)
          rw [hzo] at hcell
          have HN := hid hnx
          clear hst hnx hzo
          go_wp2_with fail
          go_roundw
          case rel => exact ⟨i + 1, os.set (i + ys.length) c, by omega, by go_num, by rw [List.length_set]; exact H0.out.1, hrw.set (by omega) _, H0.out.2.1.set _ ⟨hc0, hc1⟩, HN.out, fun m hm => by rw [Nm.getD_set _ _ _ _ (by omega), if_neg (by omega)]; exact H0.out.2.2.2 m (by omega), hb.setCell (Nat.le_refl _) _⟩
          case measure => simp [intOf]; omega
    · obtain rfl : i = xs.length := by omega
      have hlen := H0.out.1
      have hown := hrw.own (base := w.heap.size) (Nat.le_refl _) (by unfold maxLen; omega)
      have hfull := H0.out.2.2.1.full (Nat.le_refl _)
      have HF := hid (And.intro hown (And.intro hfull hlen))
      clear hown hfull hlen
      go_wp2
      go_ret
      exact ⟨some ⟨w.heap.size, 0, none⟩, os.length, os, by rw [HF.out.2.2]; rfl, HF.out.1, H0.out.2.1, HF.out.2.1, by have := HF.out.2.2; omega, hb⟩
/-- The table of formats, and that of 64. -/
structure Ts (w : World) : Prop where
  f : Tab w
  t64 : Tb w 4 Lib.deBruijn64tab
theorem Ts.below {w w' : World} (h : Ts w) (hb : Below w.heap.size w w') : Ts w' := ⟨h.f.below hb, h.t64.below (by decide) hb⟩
theorem Ts.al {w : World} (h : Ts w) (o : Obj) : Ts (w.alloc o) := h.below ((Below.refl _ _).alloc (Nat.le_refl _) _)
theorem Ts.dr {w : World} (h : Ts w) : Ts w.drew := ⟨⟨h.f.c0, h.f.c1, h.f.c2, h.f.c3, h.f.c4, h.f.c5, h.f.c6, h.f.c7, h.f.c8⟩, h.t64⟩
theorem mk2 (N M : Nat) (h : N ≤ 400000) (h' : M ≤ 400000) : ∀ w : World, (Instr.makeSlice 30 (.int .i64 ((N : Int) + (M : Int) + 1)) (.int .i64 ((N : Int) + (M : Int) + 1))).run Tryz.prog w = .ok (.slice (some ⟨w.heap.size, 0, none⟩) (N + M + 1) (N + M + 1)) (w.alloc (.cells (madeCells #[.int .u32 0] (N + M + 1)) 128)) :=
  run_make_row' (P := Tryz.prog) 30 128 (.int .u32 0) 4 Tryz.underlying30 info32 rfl .i64 .i64 (N + M + 1) (by omega) (by omega)
theorem i64_in (n : Int) (h0 : -9223372036854775808 ≤ n) (h1 : n ≤ 9223372036854775807) : IntKind.i64.wrap n = n := by rw [IntKind.wrap_i64]; omega
theorem l1mul_any (na nb : Bool) (a b : Option Addr) (cap cap' : Nat) (xs ys : List Int) (w : World) (hx : Sl .u32 w (.slice a xs.length cap) xs) (hy : Sl .u32 w (.slice b ys.length cap') ys) (dx : Nm.Dg xs) (dy : Nm.Dg ys) (nx : Nm.Nz xs) (ny : Nm.Nz ys) (hl : xs.length ≤ 400000) (hl' : ys.length ≤ 400000) (x : Int) (hx0 : x = Nm.wv na xs * Nm.wv nb ys) :
    Calls Tryz.prog 208 #[.agg #[.bool na, .slice a xs.length cap], .agg #[.bool nb, .slice b ys.length cap']] w fun e w' => ∃ a' c', e = .returned (.agg #[.bool (Nm.wn x), .slice a' (Nm.wl x).length c']) ∧ Own w' w.heap.size a' c' (Nm.wl x) ∧ Below w.heap.size w w' := by
  have HX : Hid (∀ os, Nm.val os = Nm.val xs * Nm.val ys → x = Nm.wv (na != nb) os) := hid (fun os h => by rw [hx0]; exact Nm.wv_mul h)
  clear hx0
  obtain ⟨v, hv⟩ : ∃ v, v = x := ⟨_, rfl⟩
  rw [← hv] at HX ⊢
  clear hv x
  have hmk := mk2 xs.length ys.length hl hl'
  obtain ⟨-, hx1, hx2, hx3⟩ := hx.cells
  have HX3 := hid hx3
  clear hx3
  go_enter Tryz.func208, Tryz.ntmps208
  have Bx := ((Box.new w (.bool na) (.slice a xs.length cap) 32).alloc (.cells #[.bool nb, .slice b ys.length cap'] 32)).alloc (.cells #[.bool false, .slice none 0 0] 32)
  have By := (Box.new2 w (.cells #[.bool na, .slice a xs.length cap] 32) (.bool nb) (.slice b ys.length cap') 32).alloc (.cells #[.bool false, .slice none 0 0] 32)
  have Rz : R2 (((w.alloc (.cells #[.bool na, .slice a xs.length cap] 32)).alloc (.cells #[.bool nb, .slice b ys.length cap'] 32)).alloc (.cells #[.bool false, .slice none 0 0] 32)) (w.heap.size + 1 + 1) (.bool false) (.slice none 0 0) := by simpa using R2.new2 (w.alloc (.cells #[.bool na, .slice a xs.length cap] 32)) (.cells #[.bool nb, .slice b ys.length cap'] 32) (.bool false) (.slice none 0 0) 32
  have hbW : Below w.heap.size w (((w.alloc (.cells #[.bool na, .slice a xs.length cap] 32)).alloc (.cells #[.bool nb, .slice b ys.length cap'] 32)).alloc (.cells #[.bool false, .slice none 0 0] 32)) := (by repeat (first | exact bz0 _ _ | refine bz1 ?_ | refine bz2 ?_ _ | refine bz3 ?_ _ | refine bz5 ?_ _ | refine bz6 ?_ _))
  have hsW : (((w.alloc (.cells #[.bool na, .slice a xs.length cap] 32)).alloc (.cells #[.bool nb, .slice b ys.length cap'] 32)).alloc (.cells #[.bool false, .slice none 0 0] 32)).heap.size = w.heap.size + 1 + 1 + 1 := by simp
  go_wp2_with fail
  clear hmk
  generalize hW : ((w.alloc (.cells #[.bool na, .slice a xs.length cap] 32)).alloc (.cells #[.bool nb, .slice b ys.length cap'] 32)).alloc (.cells #[.bool false, .slice none 0 0] 32) = W at Bx By Rz hbW hsW ⊢
  clear hW
  have HSW := hid hsW
  clear hsW
  go_loopw [6] (fun iv wr => ∃ i : Nat, ∃ os : List Int, i ≤ xs.length ∧ iv = .int .i64 i ∧ os.length = xs.length + ys.length + 1 ∧ Rw wr (w.heap.size + 1 + 1 + 1) os ∧ Nm.Dg os ∧ Nm.MulAt xs ys os i 0 0 ∧ (∀ m, i + ys.length ≤ m → os.getD m 0 = 0) ∧ Below W.heap.size W wr) (fun iv _ => xs.length - (intOf iv).toNat)
  case atStart => exact ⟨0, List.replicate (xs.length + ys.length + 1) 0, Nat.zero_le _, rfl, by simp, by have := Rw.made W (xs.length + ys.length + 1); rwa [HSW.out] at this, Nm.Dg.replicate _, Nm.MulAt.zero _ _ _ (Nm.val_replicate _), fun m _ => Nm.getD_replicate _ m, (by repeat (first | exact bz0 _ _ | refine bz1 ?_ | refine bz2 ?_ _ | refine bz3 ?_ _ | refine bz5 ?_ _ | refine bz6 ?_ _))⟩
  case round =>
    obtain ⟨i, os, hi, rfl, hol, hrw, hdo, hmul, hzero, hb⟩ := hrel
    have H0 := hid (And.intro hol (And.intro hdo (And.intro hmul hzero)))
    clear hol hdo hmul hzero
    obtain ⟨c00, c01⟩ := Bx.below hb
    obtain ⟨c10, c11⟩ := By.below hb
    by_cases hlt : i < xs.length
    · obtain ⟨ba, off, rfl, hcx⟩ := HX3.out (by omega)
      have hca0 := hcx i hlt
      have hbl := World.block_lt_of_cell? w _ hca0
      simp at hbl
      have hcW : W.cell? ⟨ba, off + i, none⟩ = some (.int .u32 (xs.getD i 0)) := (hbW.cell (p := ⟨ba, off + i, none⟩) hbl).trans hca0
      obtain ⟨ex0, ex1⟩ := dx.getD i
      obtain ⟨x, hxk⟩ : ∃ x, x = xs.getD i 0 := ⟨_, rfl⟩
      rw [← hxk] at hcW ex0 ex1
      have HXK := hid hxk
      have HCW := hid hcW
      have hwW : w.heap.size ≤ W.heap.size := hbW.size
      clear hxk hca0 hcx hcW
      go_wp2_with fail
      clear c00 c01 c10 c11
      go_loopw [7, 8] (fun cy jv wr => ∃ j : Nat, ∃ os : List Int, ∃ c : Int, j ≤ ys.length + 1 ∧ jv = .int .i64 j ∧ cy = .int .u64 c ∧ 0 ≤ c ∧ c < 4294967296 ∧ os.length = xs.length + ys.length + 1 ∧ Rw wr (w.heap.size + 1 + 1 + 1) os ∧ Nm.Dg os ∧ Nm.MulAt xs ys os i j c ∧ (∀ m, i + ys.length + 1 ≤ m → os.getD m 0 = 0) ∧ (j ≤ ys.length → os.getD (i + ys.length) 0 = 0) ∧ (ys.length < j → c = 0) ∧ Below W.heap.size W wr) (fun _ jv _ => ys.length + 1 - (intOf jv).toNat)
      case atStart => exact ⟨0, os, 0, Nat.zero_le _, rfl, rfl, by omega, by omega, H0.out.1, hrw, H0.out.2.1, H0.out.2.2.1, fun m hm => H0.out.2.2.2 m (by omega), fun _ => H0.out.2.2.2 _ (Nat.le_refl _), fun h => by omega, hb⟩
      case round =>
        clear hrw hb H0
        obtain ⟨j, os, c, hj, rfl, rfl, hc0, hc1, hol, hrw, hdo, hmul, hzero, hmid, hlast, hb⟩ := hrel
        have H0 := hid (And.intro hol (And.intro hdo (And.intro hmul hzero)))
        have H1 := hid (And.intro hmid hlast)
        have hol1 : xs.length + ys.length + 1 ≤ os.length := by omega
        clear hol hdo hmul hzero hmid hlast
        obtain ⟨c00, c01⟩ := Bx.below hb
        obtain ⟨c10, c11⟩ := By.below hb
        by_cases hlj : j ≤ ys.length
        · have hca : wr.cell? ⟨ba, off + i, none⟩ = some (.int .u32 x) := (hb.cell (p := ⟨ba, off + i, none⟩) (World.block_lt_of_cell? W _ HCW.out)).trans HCW.out
          have sy := (hy.below hbW).below hb
          have hcell := hrw.cell (k := i + j) (by omega)
          have hfr := hrw.frozen (i + j)
          have c2 := fun w' (h : Sl .u32 w' (.slice b ys.length cap') ys) => limb_any b cap' ys j w' h dy (by omega) (by omega)
          obtain ⟨ey0, ey1⟩ := dy.getD j
          obtain ⟨eo0, eo1⟩ := H0.out.2.1.getD (i + j)
          have hst := fun d c' => Nm.MulAt.step (d := d) (c' := c') H0.out.2.2.1 (show i + j < os.length by omega)
          have hyz : ys.length ≤ j → ys.getD j 0 = 0 := fun h => Nm.getD_out h
          have hoz : ys.length ≤ j → os.getD (i + j) 0 = 0 := fun h => by
            have e : j = ys.length := by omega
            subst e; exact H1.out.1 (Nat.le_refl _)
          obtain ⟨y, hyk⟩ : ∃ y, y = ys.getD j 0 := ⟨_, rfl⟩
          obtain ⟨o, hok⟩ : ∃ o, o = os.getD (i + j) 0 := ⟨_, rfl⟩
          simp only [← hyk] at c2
          rw [← hyk] at ey0 ey1 hyz
          rw [← hok] at hcell eo0 eo1 hoz
          rw [← HXK.out, ← hyk, ← hok] at hst
          have HST := hid hst
          have C2 := hid c2
          have HYZ := hid (And.intro hyz hoz)
          obtain ⟨q0, q1, q2, q3, q4⟩ := Nm.prod_bound (x := x) (y := y) (o := o) (c := c) ⟨ex0, ex1⟩ ⟨ey0, ey1⟩ ⟨eo0, eo1⟩ ⟨hc0, hc1⟩
          have hco : c + o + x * y = x * y + o + c := by omega
          have HCO := hid hco
          have q2' : c + o + x * y < 18446744073709551616 := by omega
          clear hst hyk hok c2 hyz hoz hco q2 
          have k0 : (0 : Int) ≤ (i : Int) := by omega
          have k1 : (i : Int) < (xs.length : Int) := by omega
          have k2 : (0 : Int) ≤ (i : Int) + (j : Int) := by omega
          have k3 : (i : Int) + (j : Int) ≤ (xs.length : Int) + (ys.length : Int) := by omega
          have k3a : (i : Int) + (j : Int) < (xs.length : Int) + (ys.length : Int) + 1 := by omega
          have k3b : ¬ ((i : Int) + (j : Int) < 0) := by omega
          have k3c : ¬ ((xs.length : Int) + (ys.length : Int) + 1 ≤ (i : Int) + (j : Int)) := by omega
          have k3d : ((i : Int) + (j : Int)).toNat = i + j := by omega
          have k3e : i + j < xs.length + ys.length + 1 := by omega
          have k3f : i + j ≤ xs.length + ys.length := by omega
          have k4 : IntKind.i64.wrap ((i : Int) + (j : Int)) = (i : Int) + (j : Int) := i64_in _ (by omega) (by omega)
          have k5 : IntKind.u64.wrap (c + o) = c + o := by rw [IntKind.wrap_u64]; omega
          have k6 : IntKind.u64.wrap (x * y) = x * y := by rw [IntKind.wrap_u64]; omega
          have k7 : IntKind.u64.wrap (c + o + x * y) = c + o + x * y := by rw [IntKind.wrap_u64]; omega
          go_wp2_with fail
          go_region_held3 (fun w' => w'.cell? ⟨w.heap.size + 1 + 1 + 1, i + j, none⟩ = some (.int .u32 o) ∧ w'.cell? ⟨w.heap.size, 1, none⟩ = some (.slice (some ⟨ba, off, none⟩) xs.length cap) ∧ w'.cell? ⟨ba, off + i, none⟩ = some (.int .u32 x) ∧ w'.cell? ⟨w.heap.size + 1, 1, none⟩ = some (.slice b ys.length cap')) (first | assumption | exact ⟨hcell, c01, hca, c11⟩)
            (first | (go_at_call 176; refine (C2.out _ (by exact Sl.drew sy)).mono ?_; rintro e w' ⟨rfl, rfl⟩))
          go_wp2_with fail
          go_roundw
          case rel =>
            refine ⟨j + 1, os.set (i + j) ((c + o + x * y) % 4294967296), (c + o + x * y) / 4294967296, by omega, by go_num, rfl, by rw [HCO.out]; exact q4, by rw [HCO.out]; exact q3, by rw [List.length_set]; exact H0.out.1, hrw.set (by omega) _, H0.out.2.1.set _ (by omega), HST.out _ _ (by have := HCO.out; omega), fun m hm => by rw [Nm.getD_set _ _ _ _ (by omega), if_neg (by omega)]; exact H0.out.2.2.2 m hm, fun hm => by rw [Nm.getD_set _ _ _ _ (by omega), if_neg (by omega)]; exact H1.out.1 (by omega), fun hm => ?_, (hb.drew).setCell (by have := HSW.out; simp; omega) _⟩
            have h1 := HYZ.out.1 (by omega)
            have h2 := HYZ.out.2 (by omega)
            rw [h1, h2]; simp; omega
          case measure => simp [intOf]; omega
        · have hzc := H1.out.2 (by omega)
          have hnx := (hzc ▸ H0.out.2.2.1).next (j := j) (by omega)
          have HN := hid hnx
          clear hnx hzc
          go_wp2_with fail
          go_roundw
          case rel => exact ⟨i + 1, os, by omega, by go_num, H0.out.1, hrw, H0.out.2.1, HN.out, fun m hm => H0.out.2.2.2 m (by omega), hb⟩
          case measure => simp [intOf]; omega
    · obtain rfl : i = xs.length := by omega
      have hlen := H0.out.1
      have hown := hrw.own (base := w.heap.size) (by omega) (by unfold maxLen; omega)
      rw [hlen] at hown
      have hfull := H0.out.2.2.1.full (Nat.le_refl _)
      have cm := made_v (na != nb) (some ⟨w.heap.size + 1 + 1 + 1, 0, none⟩) (xs.length + ys.length + 1) os wr (by have := hown.sl; exact this) H0.out.2.1 (by omega) v (HX.out os hfull)
      rw [hlen] at cm
      have CM := hid cm
      clear hown hfull hlen cm
      go_wp2_with fail
      refine CM.out.mono ?_
      rintro e w2 ⟨a2, c2, rfl, ho2, hb2⟩
      obtain ⟨z0, z1, zf0, zf1⟩ := (Rz.below hb).below hb2
      have l2 : w.heap.size + 1 + 1 < wr.heap.size := by have := hb.size; have := HSW.out; omega
      go_wp2
      refine bodyPost_ret (v := .agg #[.bool (Nm.wn v), .slice a2 (Nm.wl v).length c2]) (by simp [results, Tryz.results208, go_sem, z0, z1]) rfl ⟨a2, c2, rfl, ?_, ?_⟩
      · exact Own.base ((ho2.setBelow (by simp; omega) _).setBelow (by simp; omega) _) (by omega)
      · exact ((bel_go (bel_go hbW hb) hb2).setCell (by simp; omega) _).setCell (by simp; omega) _
theorem bitAt_n (ng : Bool) (a : Nat) (i : Int) (p : Option Addr) (c : Nat) (w : World) (hs : Sl .u32 w (.slice p (Nm.lim a).length c) (Nm.lim a)) (hl : bitLen a ≤ 20000) (h0 : 0 ≤ i) (h1 : i ≤ 100000) :
    Calls Tryz.prog 213 #[.agg #[.bool ng, .slice p (Nm.lim a).length c], .int .i64 i] w fun e w' => e = .returned (.bool (decide (a / 2 ^ i.toNat % 2 = 1))) ∧ Below w.heap.size w w' := by
  have hlen := lim_len (x := a) (k := 20000) (by omega)
  obtain ⟨wh, r, hq, hm, hw, hr⟩ := parts32 i h0 (by omega)
  have hd := (Nm.lim_dg a).getD wh
  obtain ⟨x, hx⟩ : ∃ x, x = (Nm.lim a).getD wh 0 := ⟨_, rfl⟩
  rw [← hx] at hd
  have hla := fun w' h => limbAt_any p c (Nm.lim a) wh w' h (by omega) (by omega)
  rw [← hx] at hla
  have HLA := hid hla
  clear hla
  have hbl := bit_limb a wh r hr
  rw [← hx, show 32 * wh + r = i.toNat by omega] at hbl
  have HR : Hid (decide (a / 2 ^ i.toNat % 2 = 1) = (x / (2 : Int) ^ r % 2 == 1)) := hid (by
    have e : ((2 ^ r : Nat) : Int) = (2 : Int) ^ r := by simp
    rw [e] at hbl
    rw [hbl, Bool.eq_iff_iff, decide_eq_true_eq, beq_iff_eq]; omega)
  have hxr : 0 ≤ x / (2 : Int) ^ r ∧ x / (2 : Int) ^ r < 4294967296 := by
    have hp : (0 : Int) < (2 : Int) ^ r := Int.pow_pos (by decide)
    exact ⟨Int.ediv_nonneg hd.1 (by omega), Int.lt_of_le_of_lt (Int.ediv_le_self _ hd.1) hd.2⟩
  have hand : bits .and .u32 (x / (2 : Int) ^ r) 1 = x / (2 : Int) ^ r % 2 := by
    obtain ⟨n, hn⟩ : ∃ n : Nat, x / (2 : Int) ^ r = n := ⟨(x / (2 : Int) ^ r).toNat, by omega⟩
    rw [hn] at hxr ⊢
    have h := u32_and_nat n 1 (by omega) (by decide)
    rw [show ((1 : Nat) : Int) = 1 from rfl] at h
    rw [h, Nat.and_one_is_mod]; simp
  clear hbl hx hxr
  go_enter Tryz.func213, Tryz.ntmps213
  go_wp2_with fail
  refine (HLA.out _ (hs.alloc _)).mono ?_
  rintro e w1 ⟨rfl, rfl⟩
  go_wp2
  go_ret
  exact ⟨ret_bool HR.out.symm, (by repeat (first | exact bz0 _ _ | refine bz1 ?_ | refine bz2 ?_ _ | refine bz3 ?_ _ | refine bz5 ?_ _ | refine bz6 ?_ _))⟩
end Go.Proofs.YtkfjmcdniohljaaGreatDoor
