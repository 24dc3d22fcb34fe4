/-
  What is needed of LawsB.
-/
import Derived.Test.YtmnfidkpnogfmaaK03
set_option maxHeartbeats 16000000
set_option maxRecDepth 1000000
namespace Go.Proofs.Ytmnfidkpnogfmaa
set_option linter.unusedVariables false
set_option linter.unusedSimpArgs false
open Go.RowKit Go.Deep
theorem eqU_any (a a' : Option Addr) (cap cap' : Nat) (xs ys : List Int) (w : World) (hx : Sl .u32 w (.slice a xs.length cap) xs) (hy : Sl .u32 w (.slice a' ys.length cap') ys) (hl : xs.length ≤ 140737488355328) :
    Calls Try.prog 96 #[.slice a xs.length cap, .slice a' ys.length cap'] w fun e w' => e = .returned (.bool (eqL xs ys)) ∧ Below w.heap.size w w' := by
  obtain ⟨-, hx1, hx2, hx3⟩ := hx.cells
  obtain ⟨-, hy1, hy2, hy3⟩ := hy.cells
  by_cases hn : xs.length = ys.length
  · have hne : ((xs.length : Int) != (ys.length : Int)) = false := by simp [hn]
    have HN : Hid (xs.length = ys.length) := hid hn
    have hn1 : xs.length ≤ ys.length := by omega
    have hn2 : ys.length ≤ xs.length := by omega
    clear hn
    go_enter Try.func96, Try.ntmps96
    go_wp2
    go_loopw [5] (fun i wr => ∃ k : Nat, k ≤ xs.length ∧ i = .int .i64 k ∧ (∀ j, j < k → xs.getD j 0 = ys.getD j 0) ∧ Below w.heap.size w wr) (fun i _ => xs.length - (intOf i).toNat)
    case atStart => exact ⟨0, Nat.zero_le _, rfl, fun j hj => absurd hj (Nat.not_lt_zero _), Below.refl _ _⟩
    case round =>
      obtain ⟨k, hk, rfl, hpre, hb⟩ := hrel
      by_cases hlt : k < xs.length
      · obtain ⟨b, off, rfl, hcx⟩ := hx3 (by omega)
        obtain ⟨b', off', rfl, hcy⟩ := hy3 (by omega)
        have h1 := hcx k hlt
        have h2 := hcy k (by omega)
        have h1 : wr.cell? ⟨b, off + k, none⟩ = some (.int .u32 (xs.getD k 0)) := (hb.cell (p := ⟨b, off + k, none⟩) (World.block_lt_of_cell? w _ h1)).trans h1
        have h2 : wr.cell? ⟨b', off' + k, none⟩ = some (.int .u32 (ys.getD k 0)) := (hb.cell (p := ⟨b', off' + k, none⟩) (World.block_lt_of_cell? w _ h2)).trans h2
        clear hx3 hy3 hcx hcy
        have PRE : Hid (∀ j, j < k → xs.getD j 0 = ys.getD j 0) := hid hpre
        clear hpre
        obtain ⟨x, hxk⟩ : ∃ x, x = xs.getD k 0 := ⟨_, rfl⟩
        obtain ⟨y, hyk⟩ : ∃ y, y = ys.getD k 0 := ⟨_, rfl⟩
        rw [← hxk] at h1; rw [← hyk] at h2
        have HX := hid hxk; have HY := hid hyk
        clear hxk hyk
        by_cases hxy : x = y
        · have hbe : (x != y) = false := by simp [hxy]
          have HXY := hid hxy
          clear hxy
          go_wp2
          go_region
          all_goals go_wp2
          all_goals go_roundw
          case rel => exact ⟨k + 1, by omega, by go_num, fun j hj => by
            by_cases e : j = k
            · subst e; rw [← HX.out, ← HY.out]; exact HXY.out
            · exact PRE.out j (by omega), (by repeat (first | exact bz0 _ _ | refine bz1 ?_ | refine bz2 ?_ _ | refine bz3 ?_ _ | refine bz4 ?_ hb | refine bz5 ?_ _ | refine bz6 ?_ _ | refine bz7 ?_ hb))⟩
          case measure => simp [intOf]; omega
        · have hbe : (x != y) = true := by simp [hxy]
          have HR : Hid (eqL xs ys = false) := hid (eqL_no (k := k) (by rw [← HX.out, ← HY.out]; exact hxy))
          go_wp2
          go_region
          all_goals go_wp2
          all_goals go_ret
          all_goals exact ⟨ret_bool HR.out.symm, (by repeat (first | exact bz0 _ _ | refine bz1 ?_ | refine bz2 ?_ _ | refine bz3 ?_ _ | refine bz4 ?_ hb | refine bz5 ?_ _ | refine bz6 ?_ _ | refine bz7 ?_ hb))⟩
      · obtain rfl : k = xs.length := by omega
        have HR : Hid (eqL xs ys = true) := hid (eqL_yes HN.out hpre)
        clear hx3 hy3 hpre
        go_wp2
        go_ret
        exact ⟨ret_bool HR.out.symm, hb⟩
  · have hne : ((xs.length : Int) != (ys.length : Int)) = true := by simp; omega
    have HR : Hid (eqL xs ys = false) := hid (eqL_len hn)
    clear hx3 hy3
    go_enter Try.func96, Try.ntmps96
    go_wp2
    go_ret
    exact ⟨ret_bool HR.out.symm, Below.refl _ _⟩

/-- Whether two wides are one. -/
def eqW (n m : Bool) (xs ys : List Int) : Bool := n == m && eqL xs ys

theorem eqW_any (n m : Bool) (a a' : Option Addr) (cap cap' : Nat) (xs ys : List Int) (w : World) (hx : Sl .u32 w (.slice a xs.length cap) xs) (hy : Sl .u32 w (.slice a' ys.length cap') ys) (hl : xs.length ≤ 140737488355328) :
    Calls Try.prog 43 #[.agg #[.bool n, .slice a xs.length cap], .agg #[.bool m, .slice a' ys.length cap']] w fun e w' => e = .returned (.bool (eqW n m xs ys)) ∧ Below w.heap.size w w' := by
  by_cases hn : n = m
  · subst hn
    have hbe : (n != n) = false := by simp
    go_enter Try.func43, Try.ntmps43
    have hx' : ∀ o o', Sl .u32 ((w.alloc o).alloc o') (.slice a xs.length cap) xs := fun o o' => (hx.alloc o).alloc o'
    have hy' : ∀ o o', Sl .u32 ((w.alloc o).alloc o') (.slice a' ys.length cap') ys := fun o o' => (hy.alloc o).alloc o'
    by_cases he : eqL xs ys = true
    · have HR : Hid (eqW n n xs ys = true) := hid (by simp [eqW, he])
      go_wp2_with fail
      refine (eqU_any a a' cap cap' xs ys _ (hx' _ _) (hy' _ _) hl).mono ?_
      rintro e w1 ⟨rfl, hb⟩
      go_wp2
      go_ret
      exact ⟨ret_bool HR.out.symm, (by repeat (first | exact bz0 _ _ | refine bz1 ?_ | refine bz2 ?_ _ | refine bz3 ?_ _ | refine bz4 ?_ hb | refine bz5 ?_ _ | refine bz6 ?_ _ | refine bz7 ?_ hb))⟩
    · have he : eqL xs ys = false := by simpa using he
      have HR : Hid (eqW n n xs ys = false) := hid (by simp [eqW, he])
      go_wp2_with fail
      refine (eqU_any a a' cap cap' xs ys _ (hx' _ _) (hy' _ _) hl).mono ?_
      rintro e w1 ⟨rfl, hb⟩
      go_wp2
      go_ret
      exact ⟨ret_bool HR.out.symm, (by repeat (first | exact bz0 _ _ | refine bz1 ?_ | refine bz2 ?_ _ | refine bz3 ?_ _ | refine bz4 ?_ hb | refine bz5 ?_ _ | refine bz6 ?_ _ | refine bz7 ?_ hb))⟩
  · have hbe : (n == m) = false := by simpa using hn
    have HR : Hid (eqW n m xs ys = false) := hid (by simp [eqW, hn])
    clear hn
    go_enter Try.func43, Try.ntmps43
    go_wp2
    go_ret
    exact ⟨ret_bool HR.out.symm, (by repeat (first | exact bz0 _ _ | refine bz1 ?_ | refine bz2 ?_ _ | refine bz3 ?_ _ | refine bz5 ?_ _ | refine bz6 ?_ _))⟩

/-- k, k + 1 and on. -/
def iot (k : Int) (n : Nat) : List Int := (List.range n).map (fun i => k + (i : Nat))
theorem iot_length (k : Int) (n : Nat) : (iot k n).length = n := by simp [iot]
theorem iot_getD (k : Int) (n i : Nat) (h : i < n) : (iot k n).getD i 0 = k + i := by simp [iot, List.getD_eq_getElem?_getD, h]
def mix (k : Int) (zs : List Int) (j : Nat) : List Int := iot k j ++ zs.drop j
theorem mix_length (k : Int) (zs : List Int) (j : Nat) (h : j ≤ zs.length) : (mix k zs j).length = zs.length := by simp [mix, iot]; omega
theorem mix_step (k : Int) (zs : List Int) (j : Nat) (h : j < zs.length) : (mix k zs j).set j (k + j) = mix k zs (j + 1) := by
  apply List.ext_getElem?
  intro i
  rw [List.getElem?_set]
  simp only [mix, List.getElem?_append, iot_length, List.getElem?_drop]
  by_cases e : j = i
  · subst e
    simp [iot]; omega
  · rw [if_neg e]
    by_cases hlt : i < j
    · simp [iot, hlt, show i < j + 1 by omega]
    · simp [hlt, show ¬ i < j + 1 by omega, show j + (i - j) = j + 1 + (i - (j + 1)) by omega]
theorem mix_full (k : Int) (zs : List Int) : mix k zs zs.length = iot k zs.length := by simp [mix]

theorem markU_any (a : Option Addr) (cap : Nat) (zs : List Int) (k : Int) (B : Nat) (w : World) (ho : Own w B a cap zs) (hl : zs.length ≤ 1048576) (h0 : 0 ≤ k) (h1 : k ≤ 1073741824) :
    Calls Try.prog 102 #[.slice a zs.length cap, .int .i64 k] w fun e w' => e = .returned (.int .i64 (k + zs.length)) ∧ Own w' B a cap (iot k zs.length) ∧ w.grownBy w' (Value.slice a zs.length cap).ownBlock := by
  go_enter Try.func102, Try.ntmps102
  go_wp2
  go_loopw [1, 5] (fun q i wr => ∃ j : Nat, j ≤ zs.length ∧ i = .int .i64 j ∧ q = .int .i64 (k + j) ∧ wr.ownsRow B 121 1 (.slice a zs.length cap) zs.length ((mix k zs j).map (Value.int .u32)) ∧ w.grownBy wr (Value.slice a zs.length cap).ownBlock) (fun _ i _ => zs.length - (intOf i).toNat)
  case atStart => exact ⟨0, Nat.zero_le _, rfl, by simp, by have h := ho; unfold Own at h; simpa [mix, iot] using h, ⟨rfl, rfl, rfl, Nat.le_refl _, fun _ _ _ => rfl⟩⟩
  case round =>
    obtain ⟨j, hj, rfl, rfl, hown, hg⟩ := hrel
    by_cases hlt : j < zs.length
    · obtain ⟨g, rfl⟩ : ∃ g, a = some ⟨g, 0, none⟩ := by
        rcases ho.block with ⟨-, -, rfl⟩ | ⟨g, e, -⟩
        · simp at hlt
        · exact ⟨g, e⟩
      have hc : ∃ v0, wr.cell? ⟨g, j, none⟩ = some v0 := by
        rw [hown.cellAt j (by omega)]
        have : j < ((mix k zs j).map (Value.int .u32)).length := by rw [List.length_map, mix_length k zs j hj]; exact hlt
        exact ⟨_, List.getElem?_eq_getElem this⟩
      obtain ⟨v0, hc⟩ := hc
      have hf := hown.frozenAt j
      have hst := hown.stored j (.int .u32 (k + j))
      have HST := hid hst
      clear hst
      go_wp2
      go_roundw
      case rel =>
        refine ⟨j + 1, by omega, by go_num, by go_num, ?_, ?_⟩
        · have h := HST.out.1
          rw [← List.map_set, mix_step k zs j hlt] at h
          exact h
        · have h := HST.out.2
          exact ⟨h.os.trans hg.os, h.tape.trans hg.tape, h.output.trans hg.output, Nat.le_trans hg.size h.size, fun i hi hne => (h.block i (Nat.lt_of_lt_of_le hi hg.size) hne).trans (hg.block i hi hne)⟩
      case measure => simp [intOf]; omega
    · obtain rfl : j = zs.length := by omega
      go_wp2
      go_ret
      refine ⟨rfl, ?_, hg⟩
      unfold Own
      rw [iot_length, ← mix_full k zs]
      exact hown
theorem markW_any (ng : Bool) (a : Option Addr) (cap : Nat) (zs : List Int) (k : Int) (B : Nat) (w : World) (ho : Own w B a cap zs) (hl : zs.length ≤ 1048576) (h0 : 0 ≤ k) (h1 : k ≤ 1073741824) :
    Calls Try.prog 46 #[.agg #[.bool ng, .slice a zs.length cap], .int .i64 k] w fun e w' => e = .returned (.int .i64 (k + zs.length)) ∧ Own w' B a cap (iot k zs.length) ∧ w.grownBy w' (Value.slice a zs.length cap).ownBlock := by
  go_enter Try.func46, Try.ntmps46
  go_wp2_with fail
  refine (markU_any a cap zs k B _ (ho.below ((Below.refl _ _).alloc (Nat.le_refl _) _)) hl h0 h1).mono ?_
  rintro e w1 ⟨rfl, hown, hg⟩
  go_wp2
  go_ret
  refine ⟨rfl, hown, hg.os, hg.tape, hg.output, ?_, fun i hi hne => ?_⟩
  · have := hg.size; simp at this; omega
  · exact (hg.block i (by simp; omega) hne).trans (Below.heap_alloc _ _ _ hi)

/-- What is read back of k, k + 1 and on. -/
def heldR (k : Int) (zs : List Int) : Int := if zs = iot k zs.length then k + zs.length else -1

theorem heldU_any (a : Option Addr) (cap : Nat) (zs : List Int) (k : Int) (w : World) (hs : Sl .u32 w (.slice a zs.length cap) zs) (hz : Nm.Dg zs) (hl : zs.length ≤ 1048576) (h0 : 0 ≤ k) (h1 : k ≤ 1073741824) :
    Calls Try.prog 103 #[.slice a zs.length cap, .int .i64 k] w fun e w' => e = .returned (.int .i64 (heldR k zs)) ∧ Below w.heap.size w w' := by
  obtain ⟨-, hx1, hx2, hx3⟩ := hs.cells
  go_enter Try.func103, Try.ntmps103
  go_wp2
  go_loopw [1, 5] (fun q i wr => ∃ j : Nat, j ≤ zs.length ∧ i = .int .i64 j ∧ q = .int .i64 (k + j) ∧ (∀ i, i < j → zs.getD i 0 = k + i) ∧ Below w.heap.size w wr) (fun _ i _ => zs.length - (intOf i).toNat)
  case atStart => exact ⟨0, Nat.zero_le _, rfl, by simp, fun j hj => absurd hj (Nat.not_lt_zero _), Below.refl _ _⟩
  case round =>
    obtain ⟨j, hj, rfl, rfl, hpre, hb⟩ := hrel
    have PRE := hid hpre
    clear hpre
    by_cases hlt : j < zs.length
    · obtain ⟨b, off, rfl, hcx⟩ := hx3 (by omega)
      have h1' := hcx j hlt
      have h1' : wr.cell? ⟨b, off + j, none⟩ = some (.int .u32 (zs.getD j 0)) := (hb.cell (p := ⟨b, off + j, none⟩) (World.block_lt_of_cell? w _ h1')).trans h1'
      clear hx3 hcx
      have hd := hz.getD j
      obtain ⟨x, hxk⟩ : ∃ x, x = zs.getD j 0 := ⟨_, rfl⟩
      rw [← hxk] at h1' hd
      have HX := hid hxk
      clear hxk
      by_cases hxy : x = k + j
      · have hbe : (x != k + j) = false := by simp [hxy]
        have HXY := hid hxy
        clear hxy
        go_wp2
        go_roundw
        case rel => exact ⟨j + 1, by omega, by go_num, by go_num, fun i hi => by
          by_cases e : i = j
          · subst e; rw [← HX.out]; exact HXY.out
          · exact PRE.out i (by omega), (by repeat (first | exact bz0 _ _ | refine bz1 ?_ | refine bz2 ?_ _ | refine bz3 ?_ _ | refine bz4 ?_ hb | refine bz5 ?_ _ | refine bz6 ?_ _ | refine bz7 ?_ hb))⟩
        case measure => simp [intOf]; omega
      · have hbe : (x != k + j) = true := by simp [hxy]
        have HR : Hid (heldR k zs = -1) := hid (by
          unfold heldR; rw [if_neg]; intro e; apply hxy; rw [HX.out, e, iot_getD k zs.length j hlt])
        clear hxy
        go_wp2
        go_ret
        exact ⟨ret_int HR.out.symm, (by repeat (first | exact bz0 _ _ | refine bz1 ?_ | refine bz2 ?_ _ | refine bz3 ?_ _ | refine bz4 ?_ hb | refine bz5 ?_ _ | refine bz6 ?_ _ | refine bz7 ?_ hb))⟩
    · obtain rfl : j = zs.length := by omega
      have HR : Hid (heldR k zs = k + zs.length) := hid (by
        unfold heldR; rw [if_pos]
        apply List.ext_getElem (by simp [iot_length])
        intro i hi1 hi2
        have h := PRE.out i hi1
        have h' := iot_getD k zs.length i hi1
        rw [List.getD_eq_getElem?_getD, List.getElem?_eq_getElem hi1] at h
        rw [List.getD_eq_getElem?_getD, List.getElem?_eq_getElem hi2] at h'
        simp at h h'
        rw [h, h'])
      clear hx3
      go_wp2
      go_ret
      exact ⟨ret_int HR.out.symm, hb⟩
theorem heldR_ge (k : Int) (zs : List Int) (h : ¬ heldR k zs < 0) (h0 : 0 ≤ k) : heldR k zs = k + zs.length := by
  unfold heldR at *; split at h
  · rename_i e; rw [if_pos e]
  · omega
theorem heldR_lt (k : Int) (zs : List Int) (h : heldR k zs < 0) (h0 : 0 ≤ k) : heldR k zs = -1 := by
  unfold heldR at *; split at h
  · omega
  · rename_i e; rw [if_neg e]

theorem heldW_any (ng : Bool) (a : Option Addr) (cap : Nat) (zs : List Int) (k : Int) (w : World) (hs : Sl .u32 w (.slice a zs.length cap) zs) (hz : Nm.Dg zs) (hl : zs.length ≤ 1048576) (h0 : 0 ≤ k) (h1 : k ≤ 1073741824) :
    Calls Try.prog 47 #[.agg #[.bool ng, .slice a zs.length cap], .int .i64 k] w fun e w' => e = .returned (.int .i64 (heldR k zs)) ∧ Below w.heap.size w w' := by
  by_cases hn : heldR k zs < 0
  · have HN := hid (heldR_lt k zs hn h0)
    go_enter Try.func47, Try.ntmps47
    go_wp2_with fail
    refine (heldU_any a cap zs k _ (hs.alloc _) hz hl h0 h1).mono ?_
    rintro e w1 ⟨rfl, hb⟩
    go_wp2
    go_ret
    exact ⟨ret_int HN.out.symm, (by repeat (first | exact bz0 _ _ | refine bz1 ?_ | refine bz2 ?_ _ | refine bz3 ?_ _ | refine bz4 ?_ hb | refine bz5 ?_ _ | refine bz6 ?_ _ | refine bz7 ?_ hb))⟩
  · go_enter Try.func47, Try.ntmps47
    go_wp2_with fail
    refine (heldU_any a cap zs k _ (hs.alloc _) hz hl h0 h1).mono ?_
    rintro e w1 ⟨rfl, hb⟩
    go_wp2
    go_ret
    exact ⟨rfl, (by repeat (first | exact bz0 _ _ | refine bz1 ?_ | refine bz2 ?_ _ | refine bz3 ?_ _ | refine bz4 ?_ hb | refine bz5 ?_ _ | refine bz6 ?_ _ | refine bz7 ?_ hb))⟩
end Go.Proofs.Ytmnfidkpnogfmaa
