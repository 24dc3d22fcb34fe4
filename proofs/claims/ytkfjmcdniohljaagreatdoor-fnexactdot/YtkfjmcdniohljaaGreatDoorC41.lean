/-
  What is needed of VecA, AccF, AE.
-/
import Derived.LoopN
import Derived.Test.YtkfjmcdniohljaaGreatDoorC30
import Derived.Test.YtkfjmcdniohljaaGreatDoorC35
set_option maxHeartbeats 16000000
set_option maxRecDepth 1000000
namespace Go.Proofs.YtkfjmcdniohljaaGreatDoor
set_option linter.unusedVariables false
set_option linter.unusedSimpArgs false
open Go.RowKit Go.Deep
/-- Numbers of 64 bits. -/
def D64 (xs : List Int) : Prop := ∀ x ∈ xs, 0 ≤ x ∧ x < 18446744073709551616
theorem D64.getD {xs : List Int} (h : D64 xs) (k : Nat) : 0 ≤ xs.getD k 0 ∧ xs.getD k 0 < 18446744073709551616 := by
  rw [List.getD_eq_getElem?_getD]
  by_cases hk : k < xs.length
  · rw [List.getElem?_eq_getElem hk]; exact h _ (List.getElem_mem hk)
  · rw [List.getElem?_eq_none (by omega)]; decide
theorem info64 : (Tryz.prog.info? 22).map (fun i => (i.zero, i.size, i.bytes)) = some (some (.int .u64 0), 1, 8) := by kernel_rfl
/-- k numbers are copied. -/
def copV (zs : List Int) (k : Nat) : Nat → Value := fun i => if i < k then .int .u64 (zs.getD i 0) else .int .u64 0
theorem copV_step {w : World} {b : Nat} {t : TypeId} {zs : List Int} {k : Nat} {u : Int} (h : w.rowIs b t zs.length (copV zs k)) (hu : u = zs.getD k 0) : (w.setCell ⟨b, k, none⟩ (.int .u64 u)).rowIs b t zs.length (copV zs (k + 1)) :=
  (h.set k _).congr fun i _ => by
    subst hu
    unfold copV
    by_cases e : i = k
    · subst e; simp
    · rw [if_neg e]
      by_cases hlt : i < k
      · rw [if_pos hlt, if_pos (by omega)]
      · rw [if_neg hlt, if_neg (by omega)]
theorem Sl.of_row64 {w : World} {b : Nat} {t : TypeId} {zs : List Int} {f : Nat → Value} (h : w.rowIs b t zs.length f) (hf : ∀ i, i < zs.length → f i = .int .u64 (zs.getD i 0)) (hm : zs.length ≤ maxLen) : Sl .u64 w (.slice (some ⟨b, 0, none⟩) zs.length zs.length) zs :=
  ⟨some ⟨b, 0, none⟩, zs.length, rfl, Nat.le_refl _, hm, .inr ⟨b, 0, rfl, fun i hi => by rw [Nat.zero_add, h.cell hi, hf i hi]⟩⟩
theorem toV_any (v : Value) (zs : List Int) (w : World) (hs : Sl .u64 w v zs) (hl : zs.length ≤ 1048576) :
    Calls Tryz.prog 28 #[v] w fun e w' => ∃ a' c', e = .returned (.slice a' zs.length c') ∧ Sl .u64 w' (.slice a' zs.length c') zs ∧ Below w.heap.size w w' := by
  obtain ⟨a, cap, rfl, hc1, hc2, hz⟩ := hs
  have hmk := run_make_row' (P := Tryz.prog) 41 22 (.int .u64 0) 8 Tryz.underlying41 info64 rfl .i64 .i64 zs.length (by omega) (by omega)
  go_enter Tryz.func28, Tryz.ntmps28
  go_wp2
  go_loopw [4] (fun i wr => ∃ k : Nat, k ≤ zs.length ∧ i = .int .i64 k ∧ wr.rowIs w.heap.size 22 zs.length (copV zs k) ∧ Below w.heap.size w wr) (fun i _ => zs.length - (intOf i).toNat)
  case atStart => exact ⟨0, Nat.zero_le _, rfl, (World.rowIs_made w _ zs.length 22).congr (fun j _ => by simp [copV]), (Below.refl _ _).alloc (Nat.le_refl _) _⟩
  case round =>
    obtain ⟨k, hk, rfl, hrow, hb⟩ := hrel
    by_cases hlt : k < zs.length
    · obtain ⟨b, off, rfl, hcell⟩ : ∃ b off, a = some ⟨b, off, none⟩ ∧ ∀ i, i < zs.length → w.cell? ⟨b, off + i, none⟩ = some (.int .u64 (zs.getD i 0)) := by
        rcases hz with rfl | hz
        · simp at hlt
        · exact hz
      have hc0 := hcell k hlt
      have hc : wr.cell? ⟨b, off + k, none⟩ = some (.int .u64 (zs.getD k 0)) := (hb.cell (p := ⟨b, off + k, none⟩) (World.block_lt_of_cell? w _ hc0)).trans hc0
      have hold := hrow.cell hlt
      have hfr := hrow.frozen k
      clear hz hcell hc0
      go_wp2
      go_roundw
      case rel => exact ⟨k + 1, by omega, by go_num, copV_step hrow (by simp [hlt]), hb.setCell (Nat.le_refl _) _⟩
      case measure => simp [intOf]; omega
    · obtain rfl : k = zs.length := by omega
      clear hz
      go_wp2
      go_ret
      exact ⟨_, _, rfl, Sl.of_row64 hrow (fun i hi => by simp [copV, hi]) (by unfold maxLen; omega), hb⟩
theorem eqV_same (a a' : Option Addr) (cap cap' : Nat) (xs : List Int) (w : World) (hx : Sl .u64 w (.slice a xs.length cap) xs) (hy : Sl .u64 w (.slice a' xs.length cap') xs) (hl : xs.length ≤ 140737488355328) :
    Calls Tryz.prog 31 #[.slice a xs.length cap, .slice a' xs.length cap'] w fun e w' => e = .returned (.bool true) ∧ Below w.heap.size w w' := by
  obtain ⟨-, hx1, hx2, hx3⟩ := hx.cells
  obtain ⟨-, hy1, hy2, hy3⟩ := hy.cells
  have hne : ((xs.length : Int) != (xs.length : Int)) = false := by simp
  go_enter Tryz.func31, Tryz.ntmps31
  go_wp2
  go_loopw [5] (fun i wr => ∃ k : Nat, k ≤ xs.length ∧ i = .int .i64 k ∧ Below w.heap.size w wr) (fun i _ => xs.length - (intOf i).toNat)
  case atStart => exact ⟨0, Nat.zero_le _, rfl, Below.refl _ _⟩
  case round =>
    obtain ⟨k, hk, rfl, hb⟩ := hrel
    by_cases hlt : k < xs.length
    · obtain ⟨b, off, rfl, hcx⟩ := hx3 (by omega)
      obtain ⟨b', off', rfl, hcy⟩ := hy3 (by omega)
      have h1 := hcx k hlt
      have h2 := hcy k hlt
      have h1 : wr.cell? ⟨b, off + k, none⟩ = some (.int .u64 (xs.getD k 0)) := (hb.cell (p := ⟨b, off + k, none⟩) (World.block_lt_of_cell? w _ h1)).trans h1
      have h2 : wr.cell? ⟨b', off' + k, none⟩ = some (.int .u64 (xs.getD k 0)) := (hb.cell (p := ⟨b', off' + k, none⟩) (World.block_lt_of_cell? w _ h2)).trans h2
      clear hx3 hy3 hcx hcy
      obtain ⟨x, hxk⟩ : ∃ x, x = xs.getD k 0 := ⟨_, rfl⟩
      rw [← hxk] at h1 h2
      clear hxk
      have hbe : (x != x) = false := by simp
      go_wp2
      go_region
      all_goals go_wp2
      all_goals go_roundw
      case rel => exact ⟨k + 1, by omega, by go_num, (by repeat (first | exact bz0 _ _ | refine bz1 ?_ | refine bz2 ?_ _ | refine bz3 ?_ _ | refine bz4 ?_ hb | refine bz5 ?_ _ | refine bz6 ?_ _ | refine bz7 ?_ hb))⟩
      case measure => simp [intOf]; omega
    · obtain rfl : k = xs.length := by omega
      clear hx3 hy3
      go_wp2
      go_ret
      exact ⟨rfl, hb⟩
/-- Whether all are floats of the format. -/
def allB (fm : Int) (xs : List Int) : Bool := xs.all (fun x => okF fm x)
theorem allB_yes {fm : Int} {xs : List Int} (h : ∀ j, j < xs.length → okF fm (xs.getD j 0) = true) : allB fm xs = true := by
  unfold allB
  rw [List.all_eq_true]
  intro x hx
  obtain ⟨j, hj, rfl⟩ := List.getElem_of_mem hx
  have := h j hj
  rwa [List.getD_eq_getElem?_getD, List.getElem?_eq_getElem hj] at this
theorem allB_no {fm : Int} {xs : List Int} {j : Nat} (hj : j < xs.length) (h : okF fm (xs.getD j 0) = false) : allB fm xs = false := by
  cases h' : allB fm xs
  · rfl
  · unfold allB at h'
    rw [List.all_eq_true] at h'
    have := h' _ (List.getElem_mem hj)
    rw [List.getD_eq_getElem?_getD, List.getElem?_eq_getElem hj] at h
    simp at h this
    rw [h] at this; exact absurd this (by decide)
theorem allf_impl (fm : Int) (a : Option Addr) (cap : Nat) (xs : List Int) (w : World) (hT : Tab w) (hx : Sl .u64 w (.slice a xs.length cap) xs) (dx : D64 xs) (hl : xs.length ≤ 1048576) :
    Calls Tryz.prog 181 #[.int .i64 fm, .slice a xs.length cap] w fun e w' => e = .returned (.bool (allB fm xs)) ∧ Below w.heap.size w w' := by
  obtain ⟨-, hx1, hx2, hx3⟩ := hx.cells
  have CO := hid (fun k w' h => impl_ok fm (xs.getD k 0) w' h (dx.getD k).1 (dx.getD k).2)
  have DX := hid dx
  clear dx
  go_enter Tryz.func181, Tryz.ntmps181
  go_wp2
  go_loopw [9] (fun i wr => ∃ k : Nat, k ≤ xs.length ∧ i = .int .i64 k ∧ (∀ j, j < k → okF fm (xs.getD j 0) = true) ∧ Below w.heap.size w wr) (fun i _ => xs.length - (intOf i).toNat)
  case atStart => exact ⟨0, Nat.zero_le _, rfl, fun j hj => absurd hj (Nat.not_lt_zero _), Below.refl _ _⟩
  case round =>
    obtain ⟨k, hk, rfl, hpre, hb⟩ := hrel
    have PRE := hid hpre
    clear hpre
    by_cases hlt : k < xs.length
    · obtain ⟨b, off, rfl, hcx⟩ := hx3 (by omega)
      have h1 := hcx k hlt
      have h1 : wr.cell? ⟨b, off + k, none⟩ = some (.int .u64 (xs.getD k 0)) := (hb.cell (p := ⟨b, off + k, none⟩) (World.block_lt_of_cell? w _ h1)).trans h1
      clear hx3 hcx
      have C := hid (fun w' h => CO.out k w' h)
      have HNO := hid (allB_no (fm := fm) hlt)
      have PRE2 : Hid (okF fm (xs.getD k 0) = true → ∀ j, j < k + 1 → okF fm (xs.getD j 0) = true) := hid (fun h j hj => by
        by_cases e : j = k
        · subst e; exact h
        · exact PRE.out j (by omega))
      obtain ⟨x, hxk⟩ : ∃ x, x = xs.getD k 0 := ⟨_, rfl⟩
      obtain ⟨o, hok⟩ : ∃ o, o = okF fm x := ⟨_, rfl⟩
      rw [← hxk] at h1 C HNO
      rw [← hok] at C HNO
      have PRE2 : Hid (o = true → ∀ j, j < k + 1 → okF fm (xs.getD j 0) = true) := hid (fun h => PRE2.out (by rw [← hxk, ← hok]; exact h))
      clear hxk hok CO PRE
      cases o with
      | true =>
        have PRE3 := hid (PRE2.out rfl)
        clear PRE2 HNO
        go_wp2_with fail
        refine (C.out _ (hT.below hb)).mono ?_
        rintro e w1 ⟨rfl, hb1⟩
        go_wp2
        go_roundw
        case rel => exact ⟨k + 1, by omega, by go_num, PRE3.out, bel_go hb hb1⟩
        case measure => simp [intOf]; omega
      | false =>
        have HN2 := hid (HNO.out rfl)
        clear PRE2 HNO
        go_wp2_with fail
        refine (C.out _ (hT.below hb)).mono ?_
        rintro e w1 ⟨rfl, hb1⟩
        go_wp2
        go_ret
        exact ⟨ret_bool HN2.out.symm, bel_go hb hb1⟩
    · obtain rfl : k = xs.length := by omega
      have HY := hid (allB_yes PRE.out)
      clear hx3 CO PRE
      go_wp2
      go_ret
      exact ⟨ret_bool HY.out.symm, hb⟩
/-- What is wrong with a vector. -/
def vecC (fm mode : Int) (xs : List Int) : Int := if fmtB fm && modeB mode then (if xs.length ≤ 300 then (if allB fm xs then 0 else 4) else 2) else 1
theorem form_impl (fm : Int) (w : World) :
    Calls Tryz.prog 139 #[.int .i64 fm] w fun e w' => e = .returned (.int .i64 (if fm = 32 then 1 else if fm = 64 then 2 else 0)) ∧ w' = w := by
  by_cases h1 : fm = 32
  · subst h1
    go_enter Tryz.func139, Tryz.ntmps139
    go_wp2
    go_ret
    exact ⟨rfl, rfl⟩
  · by_cases h2 : fm = 64
    · subst h2
      go_enter Tryz.func139, Tryz.ntmps139
      go_wp2
      go_ret
      exact ⟨rfl, rfl⟩
    · have e1 : (fm == 32) = false := by simpa using h1
      have e2 : (fm == 64) = false := by simpa using h2
      rw [if_neg h1, if_neg h2]
      clear h1 h2
      go_enter Tryz.func139, Tryz.ntmps139
      go_wp2
      go_ret
      exact ⟨rfl, rfl⟩
theorem form_B (fm : Int) (w : World) :
    Calls Tryz.prog 139 #[.int .i64 fm] w fun e w' => ∃ n : Int, e = .returned (.int .i64 n) ∧ (n == 0) = !fmtB fm ∧ Below w.heap.size w w' := (form_impl fm w).mono fun e w' ⟨h, h'⟩ => by
  subst h'
  refine ⟨_, h, ?_, Below.refl _ _⟩
  unfold fmtB
  by_cases h1 : fm = 32
  · subst h1; decide
  · by_cases h2 : fm = 64
    · subst h2; decide
    · rw [if_neg h1, if_neg h2, decide_eq_false h1, decide_eq_false h2]; rfl
theorem okis {ng : Bool} {zs : List Int} (hd : Nm.Dg zs) (h : okB ng zs = true) : Nm.wn (Nm.wv ng zs) = ng ∧ Nm.wl (Nm.wv ng zs) = zs := by
  obtain ⟨h1, h2⟩ := okB_nz h
  rw [Nm.wn_wv ng hd, Nm.wl_wv ng hd, Nm.trim_eq hd h1]
  refine ⟨?_, rfl⟩
  by_cases h0 : zs.length = 0
  · unfold okB at h
    rw [if_pos h0] at h
    rw [decide_eq_true h0]
    cases ng <;> simp at h ⊢
  · rw [decide_eq_false h0]; simp
/-- The accumulator's zero value. -/
def A0 : Value := .agg #[.int .i64 0, .bool false, .slice none 0 0, .int .i64 0, .bool false, .bool false, .bool false, .bool false, .bool false]
theorem Q9.new2 (w : World) (o : Obj) (v0 v1 v2 v3 v4 v5 v6 v7 v8 : Value) (t : TypeId) : Q9 ((w.alloc o).alloc (.cells #[v0, v1, v2, v3, v4, v5, v6, v7, v8] t)) (w.heap.size + 1) v0 v1 v2 v3 v4 v5 v6 v7 v8 := by simpa using Q9.new (w.alloc o) v0 v1 v2 v3 v4 v5 v6 v7 v8 t
theorem copy_any (fm : Int) (ng : Bool) (T : Int) (nn bd pl mi am : Bool) (p : Option Addr) (cap : Nat) (zs : List Int) (w : World) (hs : Sl .u32 w (.slice p zs.length cap) zs) (hz : Nm.Dg zs) (hl : zs.length ≤ 1048576) (hk : okB ng zs = true) :
    Calls Tryz.prog 127 #[.agg #[.int .i64 fm, .bool ng, .slice p zs.length cap, .int .i64 T, .bool nn, .bool bd, .bool pl, .bool mi, .bool am]] w fun e w' => ∃ a' c', e = .returned (.agg #[.int .i64 fm, .bool ng, .slice a' zs.length c', .int .i64 T, .bool nn, .bool bd, .bool pl, .bool mi, .bool am]) ∧ Own w' w.heap.size a' c' zs ∧ Below w.heap.size w w' := by
  have CM := hid (fun w' h => made_v ng p cap zs w' h hz hl _ rfl)
  obtain ⟨e1, e2⟩ := okis hz hk
  rw [e1, e2] at CM
  clear e1 e2 hk
  go_enter Tryz.func127, Tryz.ntmps127
  go_wp2_with fail
  refine (CM.out _ ((hs.alloc _).alloc _)).mono ?_
  rintro e w1 ⟨a2, c2', rfl, ho2, hb1⟩
  have rr := (Q9.new2 w (.cells #[.int .i64 fm, .bool ng, .slice p zs.length cap, .int .i64 T, .bool nn, .bool bd, .bool pl, .bool mi, .bool am] 50) (.int .i64 0) (.bool false) (.slice none 0 0) (.int .i64 0) (.bool false) (.bool false) (.bool false) (.bool false) (.bool false) 50).below hb1
  have qq := ((Q9.new w (.int .i64 fm) (.bool ng) (.slice p zs.length cap) (.int .i64 T) (.bool nn) (.bool bd) (.bool pl) (.bool mi) (.bool am) 50).alloc _).below hb1
  have bel1 : Below w.heap.size w w1 := (by repeat (first | exact bz0 _ _ | refine bz1 ?_ | refine bz2 ?_ _ | refine bz3 ?_ _ | refine bz4 ?_ hb1 | refine bz5 ?_ _ | refine bz6 ?_ _ | refine bz7 ?_ hb1))
  have lr := rr.lt
  obtain ⟨r0, r1, r2, r3, r4, r5, r6, r7, r8, f0, f1, f2, f3, f4, f5, f6, f7, f8⟩ := rr
  obtain ⟨c0, c1, c2, c3, c4, c5, c6, c7, c8, g0, g1, g2, g3, g4, g5, g6, g7, g8⟩ := qq
  have ho2 : Own w1 (w.heap.size + 1 + 1) a2 c2' zs := by simpa using ho2
  clear hb1 CM
  go_wp2
  refine bodyPost_ret (v := .agg #[.int .i64 fm, .bool ng, .slice a2 zs.length c2', .int .i64 T, .bool nn, .bool bd, .bool pl, .bool mi, .bool am]) (by simp [results, Tryz.results127, go_sem, r0, r1, r2, r3, r4, r5, r6, r7, r8]) rfl ⟨a2, c2', rfl, ?_, ?_⟩
  · refine Own.base (B := w.heap.size + 1 + 1) ?_ (by omega)
    repeat (first | with_reducible exact ho2 | (with_reducible refine Own.setBelow ?_ ?_ _; rotate_left; (simp; try omega)))
  · exact (by (repeat with_reducible first | refine Below.setCell ?_ ?_ _ | exact bz0 _ _ | refine bz1 ?_ | refine bz2 ?_ _ | refine bz3 ?_ _ | refine bz4 ?_ bel1 | refine Below.alloc ?_ ?_ _ | refine Below.trans ?_ (Below.mono bel1 ?_)) <;> first | omega | (simp; done) | (simp; omega))
theorem acc_parts' {fm : Int} {ng : Bool} {zs : List Int} {T : Int} {nn bd pl mi am : Bool} (h : accB fm ng zs T nn bd pl mi am = true) : fmtB fm = true ∧ mkB T nn bd pl mi am = true ∧ okB ng zs = true ∧ cmpL zs (Nm.lim (far fm T)) ≤ 0 := by
  unfold accB at h
  simp only [Bool.and_eq_true, decide_eq_true_eq] at h
  exact ⟨h.1.1.1.1, h.1.1.1.2, h.1.1.2, h.1.2⟩
theorem Q9.set1 {w : World} {b : Nat} {v0 v1 v2 v3 v4 v5 v6 v7 v8 : Value} (h : Q9 w b v0 v1 v2 v3 v4 v5 v6 v7 v8) (u : Value) : Q9 (w.setCell ⟨b, 1, none⟩ u) b v0 u v2 v3 v4 v5 v6 v7 v8 := by
  obtain ⟨c0, c1, c2, c3, c4, c5, c6, c7, c8, f0, f1, f2, f3, f4, f5, f6, f7, f8⟩ := h
  exact ⟨by simp [go_sem, c0, c1], by simp [go_sem, c1, c1], by simp [go_sem, c2, c1], by simp [go_sem, c3, c1], by simp [go_sem, c4, c1], by simp [go_sem, c5, c1], by simp [go_sem, c6, c1], by simp [go_sem, c7, c1], by simp [go_sem, c8, c1], by simp [go_sem, f0], by simp [go_sem, f1], by simp [go_sem, f2], by simp [go_sem, f3], by simp [go_sem, f4], by simp [go_sem, f5], by simp [go_sem, f6], by simp [go_sem, f7], by simp [go_sem, f8]⟩
theorem Q9.set2 {w : World} {b : Nat} {v0 v1 v2 v3 v4 v5 v6 v7 v8 : Value} (h : Q9 w b v0 v1 v2 v3 v4 v5 v6 v7 v8) (u : Value) : Q9 (w.setCell ⟨b, 2, none⟩ u) b v0 v1 u v3 v4 v5 v6 v7 v8 := by
  obtain ⟨c0, c1, c2, c3, c4, c5, c6, c7, c8, f0, f1, f2, f3, f4, f5, f6, f7, f8⟩ := h
  exact ⟨by simp [go_sem, c0, c2], by simp [go_sem, c1, c2], by simp [go_sem, c2, c2], by simp [go_sem, c3, c2], by simp [go_sem, c4, c2], by simp [go_sem, c5, c2], by simp [go_sem, c6, c2], by simp [go_sem, c7, c2], by simp [go_sem, c8, c2], by simp [go_sem, f0], by simp [go_sem, f1], by simp [go_sem, f2], by simp [go_sem, f3], by simp [go_sem, f4], by simp [go_sem, f5], by simp [go_sem, f6], by simp [go_sem, f7], by simp [go_sem, f8]⟩
theorem sQb (fm : Int) (w : World) (h : fmtB fm = true) : Calls Tryz.prog 133 #[.int .i64 fm] w fun e w' => e = .returned (.int .i64 (unQ fm)) ∧ Below w.heap.size w w' :=
  (sQ_any fm w h).mono fun e w' ⟨a, b⟩ => ⟨a, b ▸ Below.refl _ _⟩
end Go.Proofs.YtkfjmcdniohljaaGreatDoor
