/-
  Slices of uint64 of a call's own: marks, and what is read back.
-/
import Derived.Test.YtmnfidkpnogfmaaK01
import Derived.Test.YtmnfidkpnogfmaaZMem
import Derived.Test.YtmnfidkpnogfmaaK03
import Derived.Test.YtmnfidkpnogfmaaK05
import Derived.Test.YtmnfidkpnogfmaaK28
import Derived.Test.YtmnfidkpnogfmaaK10
namespace Go.Proofs.Ytmnfidkpnogfmaa
set_option linter.unusedVariables false
set_option linter.unusedSimpArgs false
open Go.RowKit Go.Deep
def O8 (w : World) (B : Nat) (a : Option Addr) (cap : Nat) (zs : List Int) : Prop := w.ownsRow B 37 1 (.slice a zs.length cap) zs.length (zs.map (Value.int .u64))
theorem O8.sl {w : World} {B : Nat} {a : Option Addr} {cap : Nat} {zs : List Int} (h : O8 w B a cap zs) : Sl .u64 w (.slice a zs.length cap) zs := Sl.of_own h
theorem O8.block {w : World} {B : Nat} {a : Option Addr} {cap : Nat} {zs : List Int} (h : O8 w B a cap zs) : (a = none ∧ cap = 0 ∧ zs = []) ∨ ∃ g, a = some ⟨g, 0, none⟩ ∧ B ≤ g ∧ g < w.heap.size := by
  rcases h.2 with ⟨h1, h2⟩ | ⟨g, cap', cur, h1, h2, h3, _⟩
  · simp at h1; exact .inl ⟨h1.1, h1.2.2, h1.2.1⟩
  · simp at h1; exact .inr ⟨g, h1.1, h2, (Array.getElem?_eq_some_iff.1 h3).1⟩
theorem O8.below {w w' : World} {B : Nat} {a : Option Addr} {cap : Nat} {zs : List Int} (h : O8 w B a cap zs) (hb : Below w.heap.size w w') : O8 w' B a cap zs := by
  refine ⟨h.1, ?_⟩
  rcases h.2 with h2 | ⟨g, cap', cur, h1, h2, h3, h4⟩
  · exact .inl h2
  · exact .inr ⟨g, cap', cur, h1, h2, by rw [hb.block g (Array.getElem?_eq_some_iff.1 h3).1]; exact h3, h4⟩
theorem O8.kept {w w' : World} {B : Nat} {a : Option Addr} {cap : Nat} {zs : List Int} {row : Option Nat} (h : O8 w B a cap zs) (hg : w.grownBy w' row) (hne : ∀ g, a = some ⟨g, 0, none⟩ → row ≠ some g) : O8 w' B a cap zs := by
  refine World.ownsRow.kept h hg ?_
  rcases h.block with ⟨rfl, _⟩ | ⟨g, rfl, _⟩
  · exact .inl rfl
  · exact .inr (fun e => hne g rfl (by rw [← e]; rfl))

theorem O8.base {w : World} {B B' : Nat} {a : Option Addr} {cap : Nat} {zs : List Int} (h : O8 w B a cap zs) (hB : B' ≤ B) : O8 w B' a cap zs := own_base h hB
theorem O8.alloc {w : World} {B : Nat} {a : Option Addr} {cap : Nat} {zs : List Int} (h : O8 w B a cap zs) (o : Obj) : O8 (w.alloc o) B a cap zs := World.ownsRow.alloc h o
theorem O8.drew {w : World} {B : Nat} {a : Option Addr} {cap : Nat} {zs : List Int} (h : O8 w B a cap zs) : O8 w.drew B a cap zs := h
theorem O8.setBelow {w : World} {B : Nat} {a : Option Addr} {cap : Nat} {zs : List Int} (h : O8 w B a cap zs) {p : Addr} (hp : p.block < B) (u : Value) : O8 (w.setCell p u) B a cap zs := ownsRow_setCell_below h hp u
theorem O8.setOther {w : World} {B : Nat} {a : Option Addr} {cap : Nat} {zs : List Int} (h : O8 w B a cap zs) {p : Addr} (hp : ∀ g, a = some ⟨g, 0, none⟩ → g ≠ p.block) (u : Value) : O8 (w.setCell p u) B a cap zs := by
  refine ⟨h.1, ?_⟩
  rcases h.2 with h2 | ⟨g, cap', cur, h1, h2, h3, h4⟩
  · exact .inl h2
  · refine .inr ⟨g, cap', cur, h1, h2, ?_, h4⟩
    rw [Below.heap_setCell w p u g (hp g (by simpa using (Value.slice.inj h1).1))]; exact h3
theorem O8.of_row {w : World} {base b : Nat} {zs : List Int} {f : Nat → Value} (h : w.rowIs b 37 zs.length f) (hf : ∀ i, i < zs.length → f i = .int .u64 (zs.getD i 0)) (hb : base ≤ b) (hm : zs.length ≤ maxLen) :
    O8 w base (some ⟨b, 0, none⟩) zs.length zs := by
  obtain ⟨c, h1, h2, h3⟩ := h
  refine ⟨by simp, .inr ⟨b, zs.length, c, rfl, hb, h1, Nat.le_refl _, hm, by simpa using h2, ?_⟩⟩
  apply List.ext_getElem?
  intro i
  by_cases hi : i < zs.length
  · have := h3 i hi
    rw [hf i hi] at this
    simp [hi, this, List.getD_eq_getElem?_getD]
  · simp [hi]; omega

set_option maxHeartbeats 1000000 in
theorem mark8_any (a : Option Addr) (cap : Nat) (zs : List Int) (k : Int) (B : Nat) (w : World) (ho : O8 w B a cap zs) (hl : zs.length ≤ 1048576) (h0 : 0 ≤ k) (h1 : k ≤ 1073741824) :
    Calls Try.prog 17 #[.slice a zs.length cap, .int .i64 k] w fun e w' => e = .returned (.int .i64 (k + zs.length)) ∧ O8 w' B a cap (iot k zs.length) ∧ w.grownBy w' (Value.slice a zs.length cap).ownBlock := by
  go_enter Try.func17, Try.ntmps17
  go_wp2
  go_loopw [1, 5] (fun q i wr => ∃ j : Nat, j ≤ zs.length ∧ i = .int .i64 j ∧ q = .int .i64 (k + j) ∧ wr.ownsRow B 37 1 (.slice a zs.length cap) zs.length ((mix k zs j).map (Value.int .u64)) ∧ w.grownBy wr (Value.slice a zs.length cap).ownBlock) (fun _ i _ => zs.length - (intOf i).toNat)
  case atStart => exact ⟨0, Nat.zero_le _, rfl, by simp, by have h := ho; unfold O8 at h; simpa [mix, iot] using h, ⟨rfl, rfl, rfl, Nat.le_refl _, fun _ _ _ => rfl⟩⟩
  case round =>
    obtain ⟨j, hj, rfl, rfl, hown, hg⟩ := hrel
    by_cases hlt : j < zs.length
    · obtain ⟨g, rfl⟩ : ∃ g, a = some ⟨g, 0, none⟩ := by
        rcases ho.block with ⟨-, -, rfl⟩ | ⟨g, e, -⟩
        · simp at hlt
        · exact ⟨g, e⟩
      have hc : ∃ v0, wr.cell? ⟨g, j, none⟩ = some v0 := by
        rw [hown.cellAt j (by omega)]
        have : j < ((mix k zs j).map (Value.int .u64)).length := by rw [List.length_map, mix_length k zs j hj]; exact hlt
        exact ⟨_, List.getElem?_eq_getElem this⟩
      obtain ⟨v0, hc⟩ := hc
      have hf := hown.frozenAt j
      have hst := hown.stored j (.int .u64 (k + j))
      have HST := hid hst
      clear hst
      go_wp2
      go_roundw
      case rel =>
        refine ⟨j + 1, by omega, by go_num, by go_num, ?_, ?_⟩
        · have h := HST.out.1
          rw [← List.map_set, mix_step k zs j hlt] at h
          exact h
        · have h := HST.out.2
          exact ⟨h.os.trans hg.os, h.tape.trans hg.tape, h.output.trans hg.output, Nat.le_trans hg.size h.size, fun i hi hne => (h.block i (Nat.lt_of_lt_of_le hi hg.size) hne).trans (hg.block i hi hne)⟩
      case measure => simp [intOf]; omega
    · obtain rfl : j = zs.length := by omega
      go_wp2
      go_ret
      refine ⟨rfl, ?_, hg⟩
      unfold O8
      rw [iot_length, ← mix_full k zs]
      exact hown
set_option maxHeartbeats 1000000 in
theorem held8_any (a : Option Addr) (cap : Nat) (zs : List Int) (k : Int) (w : World) (hs : Sl .u64 w (.slice a zs.length cap) zs) (hz : D64 zs) (hl : zs.length ≤ 1048576) (h0 : 0 ≤ k) (h1 : k ≤ 1073741824) :
    Calls Try.prog 18 #[.slice a zs.length cap, .int .i64 k] w fun e w' => e = .returned (.int .i64 (heldR k zs)) ∧ Below w.heap.size w w' := by
  obtain ⟨-, hx1, hx2, hx3⟩ := hs.cells
  go_enter Try.func18, Try.ntmps18
  go_wp2
  go_loopw [1, 5] (fun q i wr => ∃ j : Nat, j ≤ zs.length ∧ i = .int .i64 j ∧ q = .int .i64 (k + j) ∧ (∀ i, i < j → zs.getD i 0 = k + i) ∧ Below w.heap.size w wr) (fun _ i _ => zs.length - (intOf i).toNat)
  case atStart => exact ⟨0, Nat.zero_le _, rfl, by simp, fun j hj => absurd hj (Nat.not_lt_zero _), Below.refl _ _⟩
  case round =>
    obtain ⟨j, hj, rfl, rfl, hpre, hb⟩ := hrel
    have PRE := hid hpre
    clear hpre
    by_cases hlt : j < zs.length
    · obtain ⟨b, off, rfl, hcx⟩ := hx3 (by omega)
      have h1' := hcx j hlt
      have h1' : wr.cell? ⟨b, off + j, none⟩ = some (.int .u64 (zs.getD j 0)) := (hb.cell (p := ⟨b, off + j, none⟩) (World.block_lt_of_cell? w _ h1')).trans h1'
      clear hx3 hcx
      have hd := hz.getD j
      obtain ⟨x, hxk⟩ : ∃ x, x = zs.getD j 0 := ⟨_, rfl⟩
      rw [← hxk] at h1' hd
      have HX := hid hxk
      clear hxk
      by_cases hxy : x = k + j
      · have hbe : (x != k + j) = false := by simp [hxy]
        have HXY := hid hxy
        clear hxy
        go_wp2
        go_roundw
        case rel => exact ⟨j + 1, by omega, by go_num, by go_num, fun i hi => by
          by_cases e : i = j
          · subst e; rw [← HX.out]; exact HXY.out
          · exact PRE.out i (by omega), (by repeat (first | exact bz0 _ _ | refine bz1 ?_ | refine bz2 ?_ _ | refine bz3 ?_ _ | refine bz4 ?_ hb | refine bz5 ?_ _ | refine bz6 ?_ _ | refine bz7 ?_ hb))⟩
        case measure => simp [intOf]; omega
      · have hbe : (x != k + j) = true := by simp [hxy]
        have HR : Hid (heldR k zs = -1) := hid (by
          unfold heldR; rw [if_neg]; intro e; apply hxy; rw [HX.out, e, iot_getD k zs.length j hlt])
        clear hxy
        go_wp2
        go_ret
        exact ⟨ret_int HR.out.symm, (by repeat (first | exact bz0 _ _ | refine bz1 ?_ | refine bz2 ?_ _ | refine bz3 ?_ _ | refine bz4 ?_ hb | refine bz5 ?_ _ | refine bz6 ?_ _ | refine bz7 ?_ hb))⟩
    · obtain rfl : j = zs.length := by omega
      have HR : Hid (heldR k zs = k + zs.length) := hid (by
        unfold heldR; rw [if_pos]
        apply List.ext_getElem (by simp [iot_length])
        intro i hi1 hi2
        have h := PRE.out i hi1
        have h' := iot_getD k zs.length i hi1
        rw [List.getD_eq_getElem?_getD, List.getElem?_eq_getElem hi1] at h
        rw [List.getD_eq_getElem?_getD, List.getElem?_eq_getElem hi2] at h'
        simp at h h'
        rw [h, h'])
      clear hx3
      go_wp2
      go_ret
      exact ⟨ret_int HR.out.symm, hb⟩
end Go.Proofs.Ytmnfidkpnogfmaa
