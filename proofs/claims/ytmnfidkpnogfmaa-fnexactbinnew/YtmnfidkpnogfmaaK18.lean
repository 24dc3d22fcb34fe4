/-
  What is needed of AccA, WideN, WideW.
-/
import Derived.Test.YtmnfidkpnogfmaaK12
import Derived.Test.YtmnfidkpnogfmaaK13
set_option maxHeartbeats 16000000
set_option maxRecDepth 1000000
namespace Go.Proofs.Ytmnfidkpnogfmaa
set_option linter.unusedVariables false
set_option linter.unusedSimpArgs false
open Go.RowKit Go.Deep
/-- A box of nine cells that may be written. -/
structure Q9 (w : World) (b : Nat) (v0 v1 v2 v3 v4 v5 v6 v7 v8 : Value) : Prop where
  c0 : w.cell? ⟨b, 0, none⟩ = some v0
  c1 : w.cell? ⟨b, 1, none⟩ = some v1
  c2 : w.cell? ⟨b, 2, none⟩ = some v2
  c3 : w.cell? ⟨b, 3, none⟩ = some v3
  c4 : w.cell? ⟨b, 4, none⟩ = some v4
  c5 : w.cell? ⟨b, 5, none⟩ = some v5
  c6 : w.cell? ⟨b, 6, none⟩ = some v6
  c7 : w.cell? ⟨b, 7, none⟩ = some v7
  c8 : w.cell? ⟨b, 8, none⟩ = some v8
  f0 : w.frozen? ⟨b, 0, none⟩ = false
  f1 : w.frozen? ⟨b, 1, none⟩ = false
  f2 : w.frozen? ⟨b, 2, none⟩ = false
  f3 : w.frozen? ⟨b, 3, none⟩ = false
  f4 : w.frozen? ⟨b, 4, none⟩ = false
  f5 : w.frozen? ⟨b, 5, none⟩ = false
  f6 : w.frozen? ⟨b, 6, none⟩ = false
  f7 : w.frozen? ⟨b, 7, none⟩ = false
  f8 : w.frozen? ⟨b, 8, none⟩ = false
theorem Q9.lt {w : World} {b : Nat} {v0 v1 v2 v3 v4 v5 v6 v7 v8 : Value} (h : Q9 w b v0 v1 v2 v3 v4 v5 v6 v7 v8) : b < w.heap.size := World.block_lt_of_cell? w _ h.c0
theorem Q9.of_block {w w' : World} {b : Nat} {v0 v1 v2 v3 v4 v5 v6 v7 v8 : Value} (h : Q9 w b v0 v1 v2 v3 v4 v5 v6 v7 v8) (e : w'.heap[b]? = w.heap[b]?) : Q9 w' b v0 v1 v2 v3 v4 v5 v6 v7 v8 :=
  ⟨(World.cell?_of_block (a := ⟨b, 0, none⟩) e).trans h.c0, (World.cell?_of_block (a := ⟨b, 1, none⟩) e).trans h.c1, (World.cell?_of_block (a := ⟨b, 2, none⟩) e).trans h.c2, (World.cell?_of_block (a := ⟨b, 3, none⟩) e).trans h.c3, (World.cell?_of_block (a := ⟨b, 4, none⟩) e).trans h.c4, (World.cell?_of_block (a := ⟨b, 5, none⟩) e).trans h.c5, (World.cell?_of_block (a := ⟨b, 6, none⟩) e).trans h.c6, (World.cell?_of_block (a := ⟨b, 7, none⟩) e).trans h.c7, (World.cell?_of_block (a := ⟨b, 8, none⟩) e).trans h.c8, (World.frozen?_of_block (a := ⟨b, 0, none⟩) e).trans h.f0, (World.frozen?_of_block (a := ⟨b, 1, none⟩) e).trans h.f1, (World.frozen?_of_block (a := ⟨b, 2, none⟩) e).trans h.f2, (World.frozen?_of_block (a := ⟨b, 3, none⟩) e).trans h.f3, (World.frozen?_of_block (a := ⟨b, 4, none⟩) e).trans h.f4, (World.frozen?_of_block (a := ⟨b, 5, none⟩) e).trans h.f5, (World.frozen?_of_block (a := ⟨b, 6, none⟩) e).trans h.f6, (World.frozen?_of_block (a := ⟨b, 7, none⟩) e).trans h.f7, (World.frozen?_of_block (a := ⟨b, 8, none⟩) e).trans h.f8⟩
theorem Q9.below {w w' : World} {b : Nat} {v0 v1 v2 v3 v4 v5 v6 v7 v8 : Value} (h : Q9 w b v0 v1 v2 v3 v4 v5 v6 v7 v8) (hb : Below w.heap.size w w') : Q9 w' b v0 v1 v2 v3 v4 v5 v6 v7 v8 := h.of_block (hb.block b h.lt)
theorem Q9.new (w : World) (v0 v1 v2 v3 v4 v5 v6 v7 v8 : Value) (t : TypeId) : Q9 (w.alloc (.cells #[v0, v1, v2, v3, v4, v5, v6, v7, v8] t)) w.heap.size v0 v1 v2 v3 v4 v5 v6 v7 v8 := ⟨by simp, by simp, by simp, by simp, by simp, by simp, by simp, by simp, by simp, by simp, by simp, by simp, by simp, by simp, by simp, by simp, by simp, by simp⟩
theorem Q9.alloc {w : World} {b : Nat} {v0 v1 v2 v3 v4 v5 v6 v7 v8 : Value} (h : Q9 w b v0 v1 v2 v3 v4 v5 v6 v7 v8) (o : Obj) : Q9 (w.alloc o) b v0 v1 v2 v3 v4 v5 v6 v7 v8 := h.below ((Below.refl _ _).alloc (Nat.le_refl _) _)
theorem Q9.drew {w : World} {b : Nat} {v0 v1 v2 v3 v4 v5 v6 v7 v8 : Value} (h : Q9 w b v0 v1 v2 v3 v4 v5 v6 v7 v8) : Q9 w.drew b v0 v1 v2 v3 v4 v5 v6 v7 v8 := ⟨h.c0, h.c1, h.c2, h.c3, h.c4, h.c5, h.c6, h.c7, h.c8, h.f0, h.f1, h.f2, h.f3, h.f4, h.f5, h.f6, h.f7, h.f8⟩
theorem Q9.grown {w w' : World} {b : Nat} {v0 v1 v2 v3 v4 v5 v6 v7 v8 : Value} {row : Option Nat} (h : Q9 w b v0 v1 v2 v3 v4 v5 v6 v7 v8) (hg : w.grownBy w' row) (hne : ∀ g, row = some g → b ≠ g) : Q9 w' b v0 v1 v2 v3 v4 v5 v6 v7 v8 :=
  h.of_block (hg.block b h.lt (fun e => hne b e.symm rfl))
theorem Q9.other {w : World} {b : Nat} {v0 v1 v2 v3 v4 v5 v6 v7 v8 : Value} (h : Q9 w b v0 v1 v2 v3 v4 v5 v6 v7 v8) {p : Addr} (hp : b ≠ p.block) (u : Value) : Q9 (w.setCell p u) b v0 v1 v2 v3 v4 v5 v6 v7 v8 := h.of_block (Below.heap_setCell w p u b hp)
theorem l1neg_any (ng : Bool) (a : Option Addr) (cap : Nat) (zs : List Int) (w : World) (hs : Sl .u32 w (.slice a zs.length cap) zs) (hz : Nm.Dg zs) (hl : zs.length ≤ 1048576) (x : Int) (hx : x = Nm.wv (!ng) zs) :
    Calls Try.prog 167 #[.agg #[.bool ng, .slice a zs.length cap]] w fun e w' => ∃ a' c', e = .returned (.agg #[.bool (Nm.wn x), .slice a' (Nm.wl x).length c']) ∧ Own w' w.heap.size a' c' (Nm.wl x) ∧ Below w.heap.size w w' := by
  have HX := hid hx
  clear hx
  go_enter Try.func167, Try.ntmps167
  go_wp2_with fail
  refine (made_v (!ng) a cap zs _ ((hs.alloc _).alloc _) hz hl x HX.out).mono ?_
  rintro e w1 ⟨a', c', rfl, ho, hb⟩
  obtain ⟨r0, r1, f0, f1⟩ := (R2.new2 w (.cells #[.bool ng, .slice a zs.length cap] 65) (.bool false) (.slice none 0 0) 65).below hb
  have ho : Own w1 (w.heap.size + 1 + 1) a' c' (Nm.wl x) := by simpa using ho
  go_wp2
  refine bodyPost_ret (v := .agg #[.bool (Nm.wn x), .slice a' (Nm.wl x).length c']) (by simp [results, Try.results167, go_sem, r0, r1]) rfl ⟨a', c', rfl, ?_, (by repeat (first | exact bz0 _ _ | refine bz1 ?_ | refine bz2 ?_ _ | refine bz3 ?_ _ | refine bz4 ?_ hb | refine bz5 ?_ _ | refine bz6 ?_ _ | refine bz7 ?_ hb))⟩
  exact Own.base ((ho.setBelow (by simp) _).setBelow (by simp) _) (by omega)
theorem neg_200 (ng : Bool) {zs : List Int} (hd : Nm.Dg zs) : (negL ng zs).length ≤ 200 ∧ Nm.Dg (negL ng zs) := by
  unfold negL
  split
  · rename_i h
    have := ok_fits hd h (!ng)
    exact ⟨by simpa [Nm.fits] using this, Nm.wl_dg _⟩
  · exact ⟨by simp, Nm.Dg.nil⟩
theorem mk0 (N M : Nat) (h : N ≤ 400000) (h' : M ≤ 400000) : ∀ w : World, (Instr.makeSlice 60 (.int .i64 ((N : Int) + (M : Int))) (.int .i64 ((N : Int) + (M : Int)))).run Try.prog w = .ok (.slice (some ⟨w.heap.size, 0, none⟩) (N + M) (N + M)) (w.alloc (.cells (madeCells #[.int .u32 0] (N + M)) 121)) :=
  run_make_row' (P := Try.prog) 60 121 (.int .u32 0) 4 Try.underlying60 info32 rfl .i64 .i64 (N + M) (by omega) (by omega)
theorem mulLimbs_any (a a' : Option Addr) (cap cap' : Nat) (xs ys : List Int) (w : World) (hx : Sl .u32 w (.slice a xs.length cap) xs) (hy : Sl .u32 w (.slice a' ys.length cap') ys) (dx : Nm.Dg xs) (dy : Nm.Dg ys) (hl : xs.length ≤ 400000) (hl' : ys.length ≤ 400000) :
    Calls Try.prog 115 #[.slice a xs.length cap, .slice a' ys.length cap'] w fun e w' => ∃ a1 c1 os, e = .returned (.slice a1 os.length c1) ∧ Own w' w.heap.size a1 c1 os ∧ Nm.Dg os ∧ Nm.val os = Nm.val xs * Nm.val ys ∧ os.length ≤ 1048576 ∧ Below w.heap.size w w' := by
  have hmk := mk0 xs.length ys.length hl hl'
  obtain ⟨-, hx1, hx2, hx3⟩ := hx.cells
  obtain ⟨-, hy1, hy2, hy3⟩ := hy.cells
  have HX3 := hid hx3
  have HY3 := hid hy3
  clear hx3 hy3
  go_enter Try.func115, Try.ntmps115
  go_wp2_with fail
  clear hmk
  go_loopw [20] (fun iv wr => ∃ i : Nat, ∃ os : List Int, i ≤ xs.length ∧ iv = .int .i64 i ∧ os.length = xs.length + ys.length ∧ Rw wr w.heap.size os ∧ Nm.Dg os ∧ Nm.MulAt xs ys os i 0 0 ∧ (∀ m, i + ys.length ≤ m → os.getD m 0 = 0) ∧ Below w.heap.size w wr) (fun iv _ => xs.length - (intOf iv).toNat)
  case atStart => exact ⟨0, List.replicate (xs.length + ys.length) 0, Nat.zero_le _, rfl, by simp, Rw.made w _, Nm.Dg.replicate _, Nm.MulAt.zero _ _ _ (Nm.val_replicate _), fun m _ => Nm.getD_replicate _ m, (by repeat (first | exact bz0 _ _ | refine bz1 ?_ | refine bz2 ?_ _ | refine bz3 ?_ _ | refine bz5 ?_ _ | refine bz6 ?_ _))⟩
  case round =>
    obtain ⟨i, os, hi, rfl, hol, hrw, hdo, hmul, hzero, hb⟩ := hrel
    have H0 := hid (And.intro hol (And.intro hdo (And.intro hmul hzero)))
    clear hol hdo hmul hzero
    by_cases hlt : i < xs.length
    · obtain ⟨b, off, rfl, hcx⟩ := HX3.out (by omega)
      have hca0 := hcx i hlt
      have hbl := World.block_lt_of_cell? w _ hca0
      have hca : wr.cell? ⟨b, off + i, none⟩ = some (.int .u32 (xs.getD i 0)) := (hb.cell (p := ⟨b, off + i, none⟩) hbl).trans hca0
      obtain ⟨ex0, ex1⟩ := dx.getD i
      obtain ⟨x, hxk⟩ : ∃ x, x = xs.getD i 0 := ⟨_, rfl⟩
      rw [← hxk] at hca ex0 ex1
      have HXK := hid hxk
      clear hxk hca0 hcx
      go_wp2_with fail
      go_loopw [8, 27] (fun cy jv wr => ∃ j : Nat, ∃ os : List Int, ∃ c : Int, j ≤ ys.length ∧ jv = .int .i64 j ∧ cy = .int .u64 c ∧ 0 ≤ c ∧ c < 4294967296 ∧ os.length = xs.length + ys.length ∧ Rw wr w.heap.size os ∧ Nm.Dg os ∧ Nm.MulAt xs ys os i j c ∧ (∀ m, i + ys.length ≤ m → os.getD m 0 = 0) ∧ Below w.heap.size w wr) (fun _ jv _ => ys.length - (intOf jv).toNat)
      case atStart => exact ⟨0, os, 0, Nat.zero_le _, rfl, rfl, by omega, by omega, H0.out.1, hrw, H0.out.2.1, H0.out.2.2.1, H0.out.2.2.2, hb⟩
      case round =>
        clear hrw hb H0 hca
        obtain ⟨j, os, c, hj, rfl, rfl, hc0, hc1, hol, hrw, hdo, hmul, hzero, hb⟩ := hrel
        have H0 := hid (And.intro hol (And.intro hdo (And.intro hmul hzero)))
        have hol1 : xs.length + ys.length ≤ os.length := by omega
        clear hol hdo hmul hzero
        by_cases hlj : j < ys.length
        · obtain ⟨b', off', rfl, hcy⟩ := HY3.out (by omega)
          have hcb0 := hcy j hlj
          have hcb : wr.cell? ⟨b', off' + j, none⟩ = some (.int .u32 (ys.getD j 0)) := (hb.cell (p := ⟨b', off' + j, none⟩) (World.block_lt_of_cell? w _ hcb0)).trans hcb0
          have hcell := hrw.cell (k := i + j) (by omega)
          have hfr := hrw.frozen (i + j)
          obtain ⟨ey0, ey1⟩ := dy.getD j
          obtain ⟨eo0, eo1⟩ := H0.out.2.1.getD (i + j)
          have hst := fun d c' => Nm.MulAt.step (d := d) (c' := c') H0.out.2.2.1 (show i + j < os.length by omega)
          obtain ⟨y, hyk⟩ : ∃ y, y = ys.getD j 0 := ⟨_, rfl⟩
          obtain ⟨o, hok⟩ : ∃ o, o = os.getD (i + j) 0 := ⟨_, rfl⟩
          rw [← hyk] at hcb ey0 ey1
          rw [← hok] at hcell eo0 eo1
          rw [← HXK.out, ← hyk, ← hok] at hst
          have HST := hid hst
          have hpb := Nm.prod_bound (x := x) (y := y) (o := o) (c := c) ⟨ex0, ex1⟩ ⟨ey0, ey1⟩ ⟨eo0, eo1⟩ ⟨hc0, hc1⟩
          obtain ⟨q0, q1, q2, q3, q4⟩ := hpb
          clear hst hyk hok hcb0 hcy
          go_wp2_with fail
          go_roundw
          case rel => exact ⟨j + 1, os.set (i + j) ((x * y + o + c) % 4294967296), (x * y + o + c) / 4294967296, by omega, by go_num, rfl, q4, q3, by rw [List.length_set]; exact H0.out.1, hrw.set (by omega) _, H0.out.2.1.set _ (by omega), HST.out _ _ (by omega), fun m hm => by rw [Nm.getD_set _ _ _ _ (by omega), if_neg (by omega)]; exact H0.out.2.2.2 m hm, hb.setCell (Nat.le_refl _) _⟩
          case measure => simp [intOf]; omega
        · obtain rfl : j = ys.length := by omega
          have hcell := hrw.cell (k := i + ys.length) (by omega)
          have hfr := hrw.frozen (i + ys.length)
          have hzo := H0.out.2.2.2 (i + ys.length) (Nat.le_refl _)
          have hst := Nm.MulAt.step (d := c) (c' := 0) H0.out.2.2.1 (show i + ys.length < os.length by omega) (by rw [hzo, Nm.getD_out (Nat.le_refl _)]; omega)
          have hnx := hst.next (by omega)
          rw [hzo] at hcell
          have HN := hid hnx
          clear hst hnx hzo
          go_wp2_with fail
          go_roundw
          case rel => exact ⟨i + 1, os.set (i + ys.length) c, by omega, by go_num, by rw [List.length_set]; exact H0.out.1, hrw.set (by omega) _, H0.out.2.1.set _ ⟨hc0, hc1⟩, HN.out, fun m hm => by rw [Nm.getD_set _ _ _ _ (by omega), if_neg (by omega)]; exact H0.out.2.2.2 m (by omega), hb.setCell (Nat.le_refl _) _⟩
          case measure => simp [intOf]; omega
    · obtain rfl : i = xs.length := by omega
      have hlen := H0.out.1
      have hown := hrw.own (base := w.heap.size) (Nat.le_refl _) (by unfold maxLen; omega)
      have hfull := H0.out.2.2.1.full (Nat.le_refl _)
      have HF := hid (And.intro hown (And.intro hfull hlen))
      clear hown hfull hlen
      go_wp2
      go_ret
      exact ⟨some ⟨w.heap.size, 0, none⟩, os.length, os, by rw [HF.out.2.2]; rfl, HF.out.1, H0.out.2.1, HF.out.2.1, by have := HF.out.2.2; omega, hb⟩
end Go.Proofs.Ytmnfidkpnogfmaa
