/-
  Slices of int64: copies, marks, what is read back, slices.Clone.
-/
import Derived.Test.YtmnfidkpnogfmaaVL
import Derived.Test.YtmnfidkpnogfmaaVO
import Derived.Test.YtmnfidkpnogfmaaVT
import Derived.Test.YtmnfidkpnogfmaaK28
import Derived.Test.YtmnfidkpnogfmaaK10
namespace Go.Proofs.Ytmnfidkpnogfmaa
set_option linter.unusedVariables false
set_option linter.unusedSimpArgs false
open Go.RowKit Go.Deep
def I64 (xs : List Int) : Prop := ∀ x ∈ xs, -9223372036854775808 ≤ x ∧ x < 9223372036854775808
theorem I64.getD {xs : List Int} (h : I64 xs) (k : Nat) : -9223372036854775808 ≤ xs.getD k 0 ∧ xs.getD k 0 < 9223372036854775808 := by
  rw [List.getD_eq_getElem?_getD]
  by_cases hk : k < xs.length
  · rw [List.getElem?_eq_getElem hk]; exact h _ (List.getElem_mem hk)
  · rw [List.getElem?_eq_none (by omega)]; decide
theorem infoI : (Try.prog.info? 2).map (fun i => (i.zero, i.size, i.bytes)) = some (some (.int .i64 0), 1, 8) := by kernel_rfl
def copI (zs : List Int) (k : Nat) : Nat → Value := fun i => if i < k then .int .i64 (zs.getD i 0) else .int .i64 0
theorem copI_step {w : World} {b : Nat} {t : TypeId} {zs : List Int} {k : Nat} {u : Int} (h : w.rowIs b t zs.length (copI zs k)) (hu : u = zs.getD k 0) : (w.setCell ⟨b, k, none⟩ (.int .i64 u)).rowIs b t zs.length (copI zs (k + 1)) :=
  (h.set k _).congr fun i _ => by
    subst hu
    unfold copI
    by_cases e : i = k
    · subst e; simp
    · rw [if_neg e]
      by_cases hlt : i < k
      · rw [if_pos hlt, if_pos (by omega)]
      · rw [if_neg hlt, if_neg (by omega)]
theorem Sl.of_rowI {w : World} {b : Nat} {t : TypeId} {zs : List Int} {f : Nat → Value} (h : w.rowIs b t zs.length f) (hf : ∀ i, i < zs.length → f i = .int .i64 (zs.getD i 0)) (hm : zs.length ≤ maxLen) : Sl .i64 w (.slice (some ⟨b, 0, none⟩) zs.length zs.length) zs :=
  ⟨some ⟨b, 0, none⟩, zs.length, rfl, Nat.le_refl _, hm, .inr ⟨b, 0, rfl, fun i hi => by rw [Nat.zero_add, h.cell hi, hf i hi]⟩⟩
set_option maxHeartbeats 1000000 in
theorem toI_any (v : Value) (zs : List Int) (w : World) (hs : Sl .i64 w v zs) (hl : zs.length ≤ 1048576) :
    Calls Try.prog 20 #[v] w fun e w' => ∃ a' c', e = .returned (.slice a' zs.length c') ∧ Sl .i64 w' (.slice a' zs.length c') zs ∧ Below w.heap.size w w' := by
  obtain ⟨a, cap, rfl, hc1, hc2, hz⟩ := hs
  have hmk := run_make_row' (P := Try.prog) 27 2 (.int .i64 0) 8 Try.underlying27 infoI rfl .i64 .i64 zs.length (by omega) (by omega)
  go_enter Try.func20, Try.ntmps20
  go_wp2
  go_loopw [4] (fun i wr => ∃ k : Nat, k ≤ zs.length ∧ i = .int .i64 k ∧ wr.rowIs w.heap.size 2 zs.length (copI zs k) ∧ Below w.heap.size w wr) (fun i _ => zs.length - (intOf i).toNat)
  case atStart => exact ⟨0, Nat.zero_le _, rfl, (World.rowIs_made w _ zs.length 2).congr (fun j _ => by simp [copI]), (Below.refl _ _).alloc (Nat.le_refl _) _⟩
  case round =>
    obtain ⟨k, hk, rfl, hrow, hb⟩ := hrel
    by_cases hlt : k < zs.length
    · obtain ⟨b, off, rfl, hcell⟩ : ∃ b off, a = some ⟨b, off, none⟩ ∧ ∀ i, i < zs.length → w.cell? ⟨b, off + i, none⟩ = some (.int .i64 (zs.getD i 0)) := by
        rcases hz with rfl | hz
        · simp at hlt
        · exact hz
      have hc0 := hcell k hlt
      have hc : wr.cell? ⟨b, off + k, none⟩ = some (.int .i64 (zs.getD k 0)) := (hb.cell (p := ⟨b, off + k, none⟩) (World.block_lt_of_cell? w _ hc0)).trans hc0
      have hold := hrow.cell hlt
      have hfr := hrow.frozen k
      clear hz hcell hc0
      go_wp2
      go_roundw
      case rel => exact ⟨k + 1, by omega, by go_num, copI_step hrow (by simp [hlt]), hb.setCell (Nat.le_refl _) _⟩
      case measure => simp [intOf]; omega
    · obtain rfl : k = zs.length := by omega
      clear hz
      go_wp2
      go_ret
      exact ⟨_, _, rfl, Sl.of_rowI hrow (fun i hi => by simp [copI, hi]) (by unfold maxLen; omega), hb⟩
set_option maxHeartbeats 1000000 in
theorem eqI_same (a a' : Option Addr) (cap cap' : Nat) (xs : List Int) (w : World) (hx : Sl .i64 w (.slice a xs.length cap) xs) (hy : Sl .i64 w (.slice a' xs.length cap') xs) (hl : xs.length ≤ 140737488355328) :
    Calls Try.prog 22 #[.slice a xs.length cap, .slice a' xs.length cap'] w fun e w' => e = .returned (.bool true) ∧ Below w.heap.size w w' := by
  obtain ⟨-, hx1, hx2, hx3⟩ := hx.cells
  obtain ⟨-, hy1, hy2, hy3⟩ := hy.cells
  have hne : ((xs.length : Int) != (xs.length : Int)) = false := by simp
  go_enter Try.func22, Try.ntmps22
  go_wp2
  go_loopw [5] (fun i wr => ∃ k : Nat, k ≤ xs.length ∧ i = .int .i64 k ∧ Below w.heap.size w wr) (fun i _ => xs.length - (intOf i).toNat)
  case atStart => exact ⟨0, Nat.zero_le _, rfl, Below.refl _ _⟩
  case round =>
    obtain ⟨k, hk, rfl, hb⟩ := hrel
    by_cases hlt : k < xs.length
    · obtain ⟨b, off, rfl, hcx⟩ := hx3 (by omega)
      obtain ⟨b', off', rfl, hcy⟩ := hy3 (by omega)
      have h1 := hcx k hlt
      have h2 := hcy k hlt
      have h1 : wr.cell? ⟨b, off + k, none⟩ = some (.int .i64 (xs.getD k 0)) := (hb.cell (p := ⟨b, off + k, none⟩) (World.block_lt_of_cell? w _ h1)).trans h1
      have h2 : wr.cell? ⟨b', off' + k, none⟩ = some (.int .i64 (xs.getD k 0)) := (hb.cell (p := ⟨b', off' + k, none⟩) (World.block_lt_of_cell? w _ h2)).trans h2
      clear hx3 hy3 hcx hcy
      obtain ⟨x, hxk⟩ : ∃ x, x = xs.getD k 0 := ⟨_, rfl⟩
      rw [← hxk] at h1 h2
      clear hxk
      have hbe : (x != x) = false := by simp
      go_wp2
      go_region
      all_goals go_wp2
      all_goals go_roundw
      case rel => exact ⟨k + 1, by omega, by go_num, (by repeat (first | exact bz0 _ _ | refine bz1 ?_ | refine bz2 ?_ _ | refine bz3 ?_ _ | refine bz4 ?_ hb | refine bz5 ?_ _ | refine bz6 ?_ _ | refine bz7 ?_ hb))⟩
      case measure => simp [intOf]; omega
    · obtain rfl : k = xs.length := by omega
      clear hx3 hy3
      go_wp2
      go_ret
      exact ⟨rfl, hb⟩
def O9 (w : World) (B : Nat) (a : Option Addr) (cap : Nat) (zs : List Int) : Prop := w.ownsRow B 2 1 (.slice a zs.length cap) zs.length (zs.map (Value.int .i64))
theorem O9.sl {w : World} {B : Nat} {a : Option Addr} {cap : Nat} {zs : List Int} (h : O9 w B a cap zs) : Sl .i64 w (.slice a zs.length cap) zs := Sl.of_own h
theorem O9.block {w : World} {B : Nat} {a : Option Addr} {cap : Nat} {zs : List Int} (h : O9 w B a cap zs) : (a = none ∧ cap = 0 ∧ zs = []) ∨ ∃ g, a = some ⟨g, 0, none⟩ ∧ B ≤ g ∧ g < w.heap.size := by
  rcases h.2 with ⟨h1, h2⟩ | ⟨g, cap', cur, h1, h2, h3, _⟩
  · simp at h1; exact .inl ⟨h1.1, h1.2.2, h1.2.1⟩
  · simp at h1; exact .inr ⟨g, h1.1, h2, (Array.getElem?_eq_some_iff.1 h3).1⟩
theorem O9.below {w w' : World} {B : Nat} {a : Option Addr} {cap : Nat} {zs : List Int} (h : O9 w B a cap zs) (hb : Below w.heap.size w w') : O9 w' B a cap zs := by
  refine ⟨h.1, ?_⟩
  rcases h.2 with h2 | ⟨g, cap', cur, h1, h2, h3, h4⟩
  · exact .inl h2
  · exact .inr ⟨g, cap', cur, h1, h2, by rw [hb.block g (Array.getElem?_eq_some_iff.1 h3).1]; exact h3, h4⟩
theorem O9.kept {w w' : World} {B : Nat} {a : Option Addr} {cap : Nat} {zs : List Int} {row : Option Nat} (h : O9 w B a cap zs) (hg : w.grownBy w' row) (hne : ∀ g, a = some ⟨g, 0, none⟩ → row ≠ some g) : O9 w' B a cap zs := by
  refine World.ownsRow.kept h hg ?_
  rcases h.block with ⟨rfl, _⟩ | ⟨g, rfl, _⟩
  · exact .inl rfl
  · exact .inr (fun e => hne g rfl (by rw [← e]; rfl))

theorem O9.base {w : World} {B B' : Nat} {a : Option Addr} {cap : Nat} {zs : List Int} (h : O9 w B a cap zs) (hB : B' ≤ B) : O9 w B' a cap zs := own_base h hB
theorem O9.alloc {w : World} {B : Nat} {a : Option Addr} {cap : Nat} {zs : List Int} (h : O9 w B a cap zs) (o : Obj) : O9 (w.alloc o) B a cap zs := World.ownsRow.alloc h o
theorem O9.drew {w : World} {B : Nat} {a : Option Addr} {cap : Nat} {zs : List Int} (h : O9 w B a cap zs) : O9 w.drew B a cap zs := h
theorem O9.setBelow {w : World} {B : Nat} {a : Option Addr} {cap : Nat} {zs : List Int} (h : O9 w B a cap zs) {p : Addr} (hp : p.block < B) (u : Value) : O9 (w.setCell p u) B a cap zs := ownsRow_setCell_below h hp u
theorem O9.setOther {w : World} {B : Nat} {a : Option Addr} {cap : Nat} {zs : List Int} (h : O9 w B a cap zs) {p : Addr} (hp : ∀ g, a = some ⟨g, 0, none⟩ → g ≠ p.block) (u : Value) : O9 (w.setCell p u) B a cap zs := by
  refine ⟨h.1, ?_⟩
  rcases h.2 with h2 | ⟨g, cap', cur, h1, h2, h3, h4⟩
  · exact .inl h2
  · refine .inr ⟨g, cap', cur, h1, h2, ?_, h4⟩
    rw [Below.heap_setCell w p u g (hp g (by simpa using (Value.slice.inj h1).1))]; exact h3
theorem O9.of_row {w : World} {base b : Nat} {zs : List Int} {f : Nat → Value} (h : w.rowIs b 2 zs.length f) (hf : ∀ i, i < zs.length → f i = .int .i64 (zs.getD i 0)) (hb : base ≤ b) (hm : zs.length ≤ maxLen) :
    O9 w base (some ⟨b, 0, none⟩) zs.length zs := by
  obtain ⟨c, h1, h2, h3⟩ := h
  refine ⟨by simp, .inr ⟨b, zs.length, c, rfl, hb, h1, Nat.le_refl _, hm, by simpa using h2, ?_⟩⟩
  apply List.ext_getElem?
  intro i
  by_cases hi : i < zs.length
  · have := h3 i hi
    rw [hf i hi] at this
    simp [hi, this, List.getD_eq_getElem?_getD]
  · simp [hi]; omega

set_option maxHeartbeats 1000000 in
theorem mark9_any (a : Option Addr) (cap : Nat) (zs : List Int) (k : Int) (B : Nat) (w : World) (ho : O9 w B a cap zs) (hl : zs.length ≤ 1048576) (h0 : 0 ≤ k) (h1 : k ≤ 1073741824) :
    Calls Try.prog 23 #[.slice a zs.length cap, .int .i64 k] w fun e w' => e = .returned (.int .i64 (k + zs.length)) ∧ O9 w' B a cap (iot k zs.length) ∧ w.grownBy w' (Value.slice a zs.length cap).ownBlock := by
  go_enter Try.func23, Try.ntmps23
  go_wp2
  go_loopw [1, 5] (fun q i wr => ∃ j : Nat, j ≤ zs.length ∧ i = .int .i64 j ∧ q = .int .i64 (k + j) ∧ wr.ownsRow B 2 1 (.slice a zs.length cap) zs.length ((mix k zs j).map (Value.int .i64)) ∧ w.grownBy wr (Value.slice a zs.length cap).ownBlock) (fun _ i _ => zs.length - (intOf i).toNat)
  case atStart => exact ⟨0, Nat.zero_le _, rfl, by simp, by have h := ho; unfold O9 at h; simpa [mix, iot] using h, ⟨rfl, rfl, rfl, Nat.le_refl _, fun _ _ _ => rfl⟩⟩
  case round =>
    obtain ⟨j, hj, rfl, rfl, hown, hg⟩ := hrel
    by_cases hlt : j < zs.length
    · obtain ⟨g, rfl⟩ : ∃ g, a = some ⟨g, 0, none⟩ := by
        rcases ho.block with ⟨-, -, rfl⟩ | ⟨g, e, -⟩
        · simp at hlt
        · exact ⟨g, e⟩
      have hc : ∃ v0, wr.cell? ⟨g, j, none⟩ = some v0 := by
        rw [hown.cellAt j (by omega)]
        have : j < ((mix k zs j).map (Value.int .i64)).length := by rw [List.length_map, mix_length k zs j hj]; exact hlt
        exact ⟨_, List.getElem?_eq_getElem this⟩
      obtain ⟨v0, hc⟩ := hc
      have hf := hown.frozenAt j
      have hst := hown.stored j (.int .i64 (k + j))
      have HST := hid hst
      clear hst
      go_wp2
      go_roundw
      case rel =>
        refine ⟨j + 1, by omega, by go_num, by go_num, ?_, ?_⟩
        · have h := HST.out.1
          rw [← List.map_set, mix_step k zs j hlt] at h
          exact h
        · have h := HST.out.2
          exact ⟨h.os.trans hg.os, h.tape.trans hg.tape, h.output.trans hg.output, Nat.le_trans hg.size h.size, fun i hi hne => (h.block i (Nat.lt_of_lt_of_le hi hg.size) hne).trans (hg.block i hi hne)⟩
      case measure => simp [intOf]; omega
    · obtain rfl : j = zs.length := by omega
      go_wp2
      go_ret
      refine ⟨rfl, ?_, hg⟩
      unfold O9
      rw [iot_length, ← mix_full k zs]
      exact hown
set_option maxHeartbeats 1000000 in
theorem held9_any (a : Option Addr) (cap : Nat) (zs : List Int) (k : Int) (w : World) (hs : Sl .i64 w (.slice a zs.length cap) zs) (hz : I64 zs) (hl : zs.length ≤ 1048576) (h0 : 0 ≤ k) (h1 : k ≤ 1073741824) :
    Calls Try.prog 91 #[.slice a zs.length cap, .int .i64 k] w fun e w' => e = .returned (.int .i64 (heldR k zs)) ∧ Below w.heap.size w w' := by
  obtain ⟨-, hx1, hx2, hx3⟩ := hs.cells
  go_enter Try.func91, Try.ntmps91
  go_wp2
  go_loopw [1, 5] (fun q i wr => ∃ j : Nat, j ≤ zs.length ∧ i = .int .i64 j ∧ q = .int .i64 (k + j) ∧ (∀ i, i < j → zs.getD i 0 = k + i) ∧ Below w.heap.size w wr) (fun _ i _ => zs.length - (intOf i).toNat)
  case atStart => exact ⟨0, Nat.zero_le _, rfl, by simp, fun j hj => absurd hj (Nat.not_lt_zero _), Below.refl _ _⟩
  case round =>
    obtain ⟨j, hj, rfl, rfl, hpre, hb⟩ := hrel
    have PRE := hid hpre
    clear hpre
    by_cases hlt : j < zs.length
    · obtain ⟨b, off, rfl, hcx⟩ := hx3 (by omega)
      have h1' := hcx j hlt
      have h1' : wr.cell? ⟨b, off + j, none⟩ = some (.int .i64 (zs.getD j 0)) := (hb.cell (p := ⟨b, off + j, none⟩) (World.block_lt_of_cell? w _ h1')).trans h1'
      clear hx3 hcx
      have hd := hz.getD j
      obtain ⟨x, hxk⟩ : ∃ x, x = zs.getD j 0 := ⟨_, rfl⟩
      rw [← hxk] at h1' hd
      have HX := hid hxk
      clear hxk
      by_cases hxy : x = k + j
      · have hbe : (x != k + j) = false := by simp [hxy]
        have HXY := hid hxy
        clear hxy
        go_wp2
        go_roundw
        case rel => exact ⟨j + 1, by omega, by go_num, by go_num, fun i hi => by
          by_cases e : i = j
          · subst e; rw [← HX.out]; exact HXY.out
          · exact PRE.out i (by omega), (by repeat (first | exact bz0 _ _ | refine bz1 ?_ | refine bz2 ?_ _ | refine bz3 ?_ _ | refine bz4 ?_ hb | refine bz5 ?_ _ | refine bz6 ?_ _ | refine bz7 ?_ hb))⟩
        case measure => simp [intOf]; omega
      · have hbe : (x != k + j) = true := by simp [hxy]
        have HR : Hid (heldR k zs = -1) := hid (by
          unfold heldR; rw [if_neg]; intro e; apply hxy; rw [HX.out, e, iot_getD k zs.length j hlt])
        clear hxy
        go_wp2
        go_ret
        exact ⟨ret_int HR.out.symm, (by repeat (first | exact bz0 _ _ | refine bz1 ?_ | refine bz2 ?_ _ | refine bz3 ?_ _ | refine bz4 ?_ hb | refine bz5 ?_ _ | refine bz6 ?_ _ | refine bz7 ?_ hb))⟩
    · obtain rfl : j = zs.length := by omega
      have HR : Hid (heldR k zs = k + zs.length) := hid (by
        unfold heldR; rw [if_pos]
        apply List.ext_getElem (by simp [iot_length])
        intro i hi1 hi2
        have h := PRE.out i hi1
        have h' := iot_getD k zs.length i hi1
        rw [List.getD_eq_getElem?_getD, List.getElem?_eq_getElem hi1] at h
        rw [List.getD_eq_getElem?_getD, List.getElem?_eq_getElem hi2] at h'
        simp at h h'
        rw [h, h'])
      clear hx3
      go_wp2
      go_ret
      exact ⟨ret_int HR.out.symm, hb⟩
theorem o9_buf {w : World} : O9 (w.alloc (.cells #[] 2)) w.heap.size (some ⟨w.heap.size, 0, none⟩) 0 [] := by
  have := World.ownsRow_made (base := w.heap.size) (e := 2) (size := 1) w #[] 0 (by simp) (by decide) rfl
  simpa [O9] using this
theorem news_slI {w : World} {b off : Nat} {xs : List Int} (h : ∀ i, i < xs.length → w.cell? ⟨b, off + i, none⟩ = some (.int .i64 (xs.getD i 0))) : ∀ j u, (xs.map (Value.int .i64))[j]? = some u → w.cell? ((⟨b, off, none⟩ : Addr).add j) = some u := by
  intro j u hj
  rw [List.getElem?_map] at hj
  cases hx : xs[j]? with
  | none => rw [hx] at hj; cases hj
  | some x =>
    rw [hx] at hj
    obtain rfl : Value.int .i64 x = u := Option.some.inj hj
    have hlt := (List.getElem?_eq_some_iff.1 hx).1
    have := h j hlt
    rw [List.getD_eq_getElem?_getD, hx, Option.getD_some] at this
    rw [Addr.add_lit]; exact this
theorem one_mapI (xs : List Int) : ∀ u ∈ xs.map (Value.int .i64), u.oneCell' = true := by
  intro u hu; rw [List.mem_map] at hu; obtain ⟨x, -, rfl⟩ := hu; rfl
set_option maxHeartbeats 8000000 in
set_option maxRecDepth 100000 in
theorem cloneI_any (a : Option Addr) (cap : Nat) (xs : List Int) (w : World) (hx : Sl .i64 w (.slice a xs.length cap) xs) (hl : xs.length ≤ 1048576) :
    Calls Try.prog 135 #[.slice a xs.length cap] w fun r w' => ∃ a' c, r = .returned (.slice a' xs.length c) ∧ O9 w' w.heap.size a' c xs ∧ Below w.heap.size w w' := by
  obtain ⟨-, hx1, hx2, hx3⟩ := hx.cells
  have q22 : ∀ (w : World) (a : Option Addr) (n c n' c' : Nat), (binOp .eql 27 (.slice a n c) (.slice none n' c')).run Try.prog w = .ok (.bool a.isNone) w := fun w a n c n' c' => Lib.run_eql_slice_nil w _ _ a n c n' c' Try.underlying27
  obtain ⟨i0, hi⟩ : ∃ i0, Try.prog.info? 2 = some i0 := by
    have h := infoI
    cases e : Try.prog.info? 2 with
    | none => rw [e] at h; cases h
    | some i => exact ⟨i, rfl⟩
  have HI : Hid (Try.prog.info? 2 = some i0 ∧ i0.zero = some (.int .i64 0) ∧ i0.size = 1 ∧ i0.bytes = 8) := hid (by
    have h := infoI
    rw [hi] at h
    have h' : (i0.zero, i0.size, i0.bytes) = (some (.int .i64 0), 1, 8) := Option.some.inj h
    simp only [Prod.mk.injEq] at h'
    exact ⟨hi, h'⟩)
  clear hi
  cases a with
  | none =>
    have e : xs = [] := by
      by_cases hp : 0 < xs.length
      · obtain ⟨b, off, e, -⟩ := hx3 hp; cases e
      · exact List.eq_nil_of_length_eq_zero (by omega)
    subst e
    clear hx3
    go_enter Try.func135, Try.ntmps135
    go_wp2
    go_ret
    exact ⟨none, 0, rfl, by unfold O9; exact World.ownsRow_nil w _ _ _, Below.refl _ _⟩
  | some p =>
    have hO : O9 (w.alloc (.cells #[] 2)) w.heap.size (some ⟨w.heap.size, 0, none⟩) 0 [] := o9_buf
    have hnews : ∀ j u, (xs.map (Value.int .i64))[j]? = some u → (w.alloc (.cells #[] 2)).cell? (p.add j) = some u := by
      by_cases hp : 0 < xs.length
      · obtain ⟨b, off, e, hcx⟩ := hx3 hp
        obtain rfl : p = ⟨b, off, none⟩ := Option.some.inj e
        have hbw : b < w.heap.size := World.block_lt_of_cell? w _ (hcx 0 hp)
        exact news_slI (fun i hi => ((bel_al (Below.refl w.heap.size w) (.cells #[] 2)).cell (p := ⟨b, off + i, none⟩) hbw).trans (hcx i hi))
      · have e : xs = [] := List.eq_nil_of_length_eq_zero (by omega)
        subst e
        intro j u hj; simp at hj
    have HN := hid hnews
    clear hx3 hnews
    go_enter Try.func135, Try.ntmps135
    go_wp2_with (at_builtin; refine wpList_append_own _ rfl _ _ 27 rfl w.heap.size 2 i0 (.int .i64 0) 1 8 Try.underlying27 HI.out.1 HI.out.2.1 HI.out.2.2.1 HI.out.2.2.2 rfl (by decide) (.slice (some ⟨w.heap.size, 0, none⟩) 0 0) 0 [] rfl hO p xs.length cap (xs.map (Value.int .i64)) rfl (by simp) HN.out (one_mapI xs) (by unfold maxLen; omega) (by omega) (by simp) ?_; intro v' w2 hown2 hgrow hnil)
    go_wp2
    go_ret
    have h0 : 0 + xs.length = xs.length := Nat.zero_add _
    rw [h0, List.nil_append] at hown2
    have hb2 : Below w.heap.size w w2 := bel_own (bel_al (Below.refl _ _) _) hgrow (Nat.le_refl _)
    rcases id hown2.2 with ⟨e, -⟩ | ⟨g, cp, cur, e, -⟩
    · exact absurd (hnil.1 (by simpa using e)).1 (by simp)
    · subst e
      exact ⟨some ⟨g, 0, none⟩, cp, rfl, hown2, hb2⟩
set_option maxHeartbeats 1000000 in
theorem toI_row (v : Value) (zs : List Int) (w : World) (hs : Sl .i64 w v zs) (hl : zs.length ≤ 1048576) :
    Calls Try.prog 20 #[v] w fun e w' => ∃ g, e = .returned (.slice (some ⟨g, 0, none⟩) zs.length zs.length) ∧ w.heap.size ≤ g ∧ g < w'.heap.size ∧ w'.rowIs g 2 zs.length (copI zs zs.length) ∧ Below w.heap.size w w' := by
  obtain ⟨a, cap, rfl, hc1, hc2, hz⟩ := hs
  have hmk := run_make_row' (P := Try.prog) 27 2 (.int .i64 0) 8 Try.underlying27 infoI rfl .i64 .i64 zs.length (by omega) (by omega)
  go_enter Try.func20, Try.ntmps20
  go_wp2
  go_loopw [4] (fun i wr => ∃ k : Nat, k ≤ zs.length ∧ i = .int .i64 k ∧ wr.rowIs w.heap.size 2 zs.length (copI zs k) ∧ Below w.heap.size w wr) (fun i _ => zs.length - (intOf i).toNat)
  case atStart => exact ⟨0, Nat.zero_le _, rfl, (World.rowIs_made w _ zs.length 2).congr (fun j _ => by simp [copI]), (Below.refl _ _).alloc (Nat.le_refl _) _⟩
  case round =>
    obtain ⟨k, hk, rfl, hrow, hb⟩ := hrel
    by_cases hlt : k < zs.length
    · obtain ⟨b, off, rfl, hcell⟩ : ∃ b off, a = some ⟨b, off, none⟩ ∧ ∀ i, i < zs.length → w.cell? ⟨b, off + i, none⟩ = some (.int .i64 (zs.getD i 0)) := by
        rcases hz with rfl | hz
        · simp at hlt
        · exact hz
      have hc0 := hcell k hlt
      have hc : wr.cell? ⟨b, off + k, none⟩ = some (.int .i64 (zs.getD k 0)) := (hb.cell (p := ⟨b, off + k, none⟩) (World.block_lt_of_cell? w _ hc0)).trans hc0
      have hold := hrow.cell hlt
      have hfr := hrow.frozen k
      clear hz hcell hc0
      go_wp2
      go_roundw
      case rel => exact ⟨k + 1, by omega, by go_num, copI_step hrow (by simp [hlt]), hb.setCell (Nat.le_refl _) _⟩
      case measure => simp [intOf]; omega
    · obtain rfl : k = zs.length := by omega
      clear hz
      go_wp2
      go_ret
      exact ⟨_, rfl, Nat.le_refl _, row_lt hrow, hrow, hb⟩
theorem toI_own (v : Value) (zs : List Int) (w : World) (hs : Sl .i64 w v zs) (hl : zs.length ≤ 1048576) :
    Calls Try.prog 20 #[v] w fun e w' => ∃ g, e = .returned (.slice (some ⟨g, 0, none⟩) zs.length zs.length) ∧ O9 w' w.heap.size (some ⟨g, 0, none⟩) zs.length zs ∧ Below w.heap.size w w' :=
  (toI_row v zs w hs hl).mono fun e w' ⟨g, he, h1, h2, h3, hb⟩ => ⟨g, he, O9.of_row h3 (fun i hi => by simp [copI, hi]) h1 (by unfold maxLen; omega), hb⟩
theorem iot_i64 (n : Nat) (h : n ≤ 1048576) : I64 (iot 1 n) := by
  intro x hx
  unfold iot at hx
  rw [List.mem_map] at hx
  obtain ⟨i, hi, rfl⟩ := hx
  have := List.mem_range.1 hi
  omega
end Go.Proofs.Ytmnfidkpnogfmaa
