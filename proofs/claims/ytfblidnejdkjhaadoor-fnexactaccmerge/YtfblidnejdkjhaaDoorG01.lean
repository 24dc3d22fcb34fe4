/-
  Several texts in one: LawsB, WideA, NumsB.
-/
import Derived.Test.YtfblidnejdkjhaaDoorG00
/-
  The laws' own helpers: equal, marked, held.
-/
namespace Go.Proofs.YtfblidnejdkjhaaDoor
set_option linter.unusedVariables false
set_option linter.unusedSimpArgs false
open Go.RowKit Go.Deep

set_option maxHeartbeats 1000000 in
theorem eqU_any (a a' : Option Addr) (cap cap' : Nat) (xs ys : List Int) (w : World) (hx : Sl .u32 w (.slice a xs.length cap) xs) (hy : Sl .u32 w (.slice a' ys.length cap') ys) (hl : xs.length ≤ 140737488355328) :
    Calls Tryd.prog 63 #[.slice a xs.length cap, .slice a' ys.length cap'] w fun e w' => e = .returned (.bool (eqL xs ys)) ∧ Below w.heap.size w w' := by
  obtain ⟨-, hx1, hx2, hx3⟩ := hx.cells
  obtain ⟨-, hy1, hy2, hy3⟩ := hy.cells
  by_cases hn : xs.length = ys.length
  · have hne : ((xs.length : Int) != (ys.length : Int)) = false := by simp [hn]
    have HN : Hid (xs.length = ys.length) := hid hn
    have hn1 : xs.length ≤ ys.length := by omega
    have hn2 : ys.length ≤ xs.length := by omega
    clear hn
    go_enter Tryd.func63, Tryd.ntmps63
    go_wp2
    go_loopw [5] (fun i wr => ∃ k : Nat, k ≤ xs.length ∧ i = .int .i64 k ∧ (∀ j, j < k → xs.getD j 0 = ys.getD j 0) ∧ Below w.heap.size w wr) (fun i _ => xs.length - (intOf i).toNat)
    case atStart => exact ⟨0, Nat.zero_le _, rfl, fun j hj => absurd hj (Nat.not_lt_zero _), Below.refl _ _⟩
    case round =>
      obtain ⟨k, hk, rfl, hpre, hb⟩ := hrel
      by_cases hlt : k < xs.length
      · obtain ⟨b, off, rfl, hcx⟩ := hx3 (by omega)
        obtain ⟨b', off', rfl, hcy⟩ := hy3 (by omega)
        have h1 := hcx k hlt
        have h2 := hcy k (by omega)
        have h1 : wr.cell? ⟨b, off + k, none⟩ = some (.int .u32 (xs.getD k 0)) := (hb.cell (p := ⟨b, off + k, none⟩) (World.block_lt_of_cell? w _ h1)).trans h1
        have h2 : wr.cell? ⟨b', off' + k, none⟩ = some (.int .u32 (ys.getD k 0)) := (hb.cell (p := ⟨b', off' + k, none⟩) (World.block_lt_of_cell? w _ h2)).trans h2
        clear hx3 hy3 hcx hcy
        have PRE : Hid (∀ j, j < k → xs.getD j 0 = ys.getD j 0) := hid hpre
        clear hpre
        obtain ⟨x, hxk⟩ : ∃ x, x = xs.getD k 0 := ⟨_, rfl⟩
        obtain ⟨y, hyk⟩ : ∃ y, y = ys.getD k 0 := ⟨_, rfl⟩
        rw [← hxk] at h1; rw [← hyk] at h2
        have HX := hid hxk; have HY := hid hyk
        clear hxk hyk
        by_cases hxy : x = y
        · have hbe : (x != y) = false := by simp [hxy]
          have HXY := hid hxy
          clear hxy
          go_wp2
          go_region
          all_goals go_wp2
          all_goals go_roundw
          case rel => exact ⟨k + 1, by omega, by go_num, fun j hj => by
            by_cases e : j = k
            · subst e; rw [← HX.out, ← HY.out]; exact HXY.out
            · exact PRE.out j (by omega), (by repeat (first | exact Below.refl _ _ | refine Below.drew ?_ | refine bel_dn ?_ _ | refine bel_al ?_ _ | refine bel_go ?_ hb | refine Below.setCell ?_ (by first | omega | (simp; done) | (simp; omega)) _ | refine Below.alloc ?_ (by first | omega | (simp; done) | (simp; omega)) _ | refine Below.trans ?_ (Below.mono hb (by first | omega | (simp; done) | (simp; omega)))))⟩
          case measure => simp [intOf]; omega
        · have hbe : (x != y) = true := by simp [hxy]
          have HR : Hid (eqL xs ys = false) := hid (eqL_no (k := k) (by rw [← HX.out, ← HY.out]; exact hxy))
          go_wp2
          go_region
          all_goals go_wp2
          all_goals go_ret
          all_goals exact ⟨ret_bool HR.out.symm, (by repeat (first | exact Below.refl _ _ | refine Below.drew ?_ | refine bel_dn ?_ _ | refine bel_al ?_ _ | refine bel_go ?_ hb | refine Below.setCell ?_ (by first | omega | (simp; done) | (simp; omega)) _ | refine Below.alloc ?_ (by first | omega | (simp; done) | (simp; omega)) _ | refine Below.trans ?_ (Below.mono hb (by first | omega | (simp; done) | (simp; omega)))))⟩
      · obtain rfl : k = xs.length := by omega
        have HR : Hid (eqL xs ys = true) := hid (eqL_yes HN.out hpre)
        clear hx3 hy3 hpre
        go_wp2
        go_ret
        exact ⟨ret_bool HR.out.symm, hb⟩
  · have hne : ((xs.length : Int) != (ys.length : Int)) = true := by simp; omega
    have HR : Hid (eqL xs ys = false) := hid (eqL_len hn)
    clear hx3 hy3
    go_enter Tryd.func63, Tryd.ntmps63
    go_wp2
    go_ret
    exact ⟨ret_bool HR.out.symm, Below.refl _ _⟩

/-- Whether two wides are one. -/
def eqW (n m : Bool) (xs ys : List Int) : Bool := n == m && eqL xs ys

set_option maxHeartbeats 1000000 in
theorem eqW_any (n m : Bool) (a a' : Option Addr) (cap cap' : Nat) (xs ys : List Int) (w : World) (hx : Sl .u32 w (.slice a xs.length cap) xs) (hy : Sl .u32 w (.slice a' ys.length cap') ys) (hl : xs.length ≤ 140737488355328) :
    Calls Tryd.prog 36 #[.agg #[.bool n, .slice a xs.length cap], .agg #[.bool m, .slice a' ys.length cap']] w fun e w' => e = .returned (.bool (eqW n m xs ys)) ∧ Below w.heap.size w w' := by
  by_cases hn : n = m
  · subst hn
    have hbe : (n != n) = false := by simp
    go_enter Tryd.func36, Tryd.ntmps36
    have hx' : ∀ o o', Sl .u32 ((w.alloc o).alloc o') (.slice a xs.length cap) xs := fun o o' => (hx.alloc o).alloc o'
    have hy' : ∀ o o', Sl .u32 ((w.alloc o).alloc o') (.slice a' ys.length cap') ys := fun o o' => (hy.alloc o).alloc o'
    by_cases he : eqL xs ys = true
    · have HR : Hid (eqW n n xs ys = true) := hid (by simp [eqW, he])
      go_wp2_with fail
      refine (eqU_any a a' cap cap' xs ys _ (hx' _ _) (hy' _ _) hl).mono ?_
      rintro e w1 ⟨rfl, hb⟩
      go_wp2
      go_ret
      exact ⟨ret_bool HR.out.symm, (by repeat (first | exact Below.refl _ _ | refine Below.drew ?_ | refine bel_dn ?_ _ | refine bel_al ?_ _ | refine bel_go ?_ hb | refine Below.setCell ?_ (by first | omega | (simp; done) | (simp; omega)) _ | refine Below.alloc ?_ (by first | omega | (simp; done) | (simp; omega)) _ | refine Below.trans ?_ (Below.mono hb (by first | omega | (simp; done) | (simp; omega)))))⟩
    · have he : eqL xs ys = false := by simpa using he
      have HR : Hid (eqW n n xs ys = false) := hid (by simp [eqW, he])
      go_wp2_with fail
      refine (eqU_any a a' cap cap' xs ys _ (hx' _ _) (hy' _ _) hl).mono ?_
      rintro e w1 ⟨rfl, hb⟩
      go_wp2
      go_ret
      exact ⟨ret_bool HR.out.symm, (by repeat (first | exact Below.refl _ _ | refine Below.drew ?_ | refine bel_dn ?_ _ | refine bel_al ?_ _ | refine bel_go ?_ hb | refine Below.setCell ?_ (by first | omega | (simp; done) | (simp; omega)) _ | refine Below.alloc ?_ (by first | omega | (simp; done) | (simp; omega)) _ | refine Below.trans ?_ (Below.mono hb (by first | omega | (simp; done) | (simp; omega)))))⟩
  · have hbe : (n == m) = false := by simpa using hn
    have HR : Hid (eqW n m xs ys = false) := hid (by simp [eqW, hn])
    clear hn
    go_enter Tryd.func36, Tryd.ntmps36
    go_wp2
    go_ret
    exact ⟨ret_bool HR.out.symm, (by repeat (first | exact Below.refl _ _ | refine Below.drew ?_ | refine bel_dn ?_ _ | refine bel_al ?_ _ | refine Below.setCell ?_ (by first | omega | (simp; done) | (simp; omega)) _ | refine Below.alloc ?_ (by first | omega | (simp; done) | (simp; omega)) _))⟩

/-- k, k + 1 and on. -/
def iot (k : Int) (n : Nat) : List Int := (List.range n).map (fun i => k + (i : Nat))
theorem iot_length (k : Int) (n : Nat) : (iot k n).length = n := by simp [iot]
theorem iot_getD (k : Int) (n i : Nat) (h : i < n) : (iot k n).getD i 0 = k + i := by simp [iot, List.getD_eq_getElem?_getD, h]
def mix (k : Int) (zs : List Int) (j : Nat) : List Int := iot k j ++ zs.drop j
theorem mix_length (k : Int) (zs : List Int) (j : Nat) (h : j ≤ zs.length) : (mix k zs j).length = zs.length := by simp [mix, iot]; omega
theorem mix_step (k : Int) (zs : List Int) (j : Nat) (h : j < zs.length) : (mix k zs j).set j (k + j) = mix k zs (j + 1) := by
  apply List.ext_getElem?
  intro i
  rw [List.getElem?_set]
  simp only [mix, List.getElem?_append, iot_length, List.getElem?_drop]
  by_cases e : j = i
  · subst e
    simp [iot]; omega
  · rw [if_neg e]
    by_cases hlt : i < j
    · simp [iot, hlt, show i < j + 1 by omega]
    · simp [hlt, show ¬ i < j + 1 by omega, show j + (i - j) = j + 1 + (i - (j + 1)) by omega]
theorem mix_full (k : Int) (zs : List Int) : mix k zs zs.length = iot k zs.length := by simp [mix]

set_option maxHeartbeats 1000000 in
theorem markU_any (a : Option Addr) (cap : Nat) (zs : List Int) (k : Int) (B : Nat) (w : World) (ho : Own w B a cap zs) (hl : zs.length ≤ 1048576) (h0 : 0 ≤ k) (h1 : k ≤ 1073741824) :
    Calls Tryd.prog 68 #[.slice a zs.length cap, .int .i64 k] w fun e w' => e = .returned (.int .i64 (k + zs.length)) ∧ Own w' B a cap (iot k zs.length) ∧ w.grownBy w' (Value.slice a zs.length cap).ownBlock := by
  go_enter Tryd.func68, Tryd.ntmps68
  go_wp2
  go_loopw [1, 5] (fun q i wr => ∃ j : Nat, j ≤ zs.length ∧ i = .int .i64 j ∧ q = .int .i64 (k + j) ∧ wr.ownsRow B 79 1 (.slice a zs.length cap) zs.length ((mix k zs j).map (Value.int .u32)) ∧ w.grownBy wr (Value.slice a zs.length cap).ownBlock) (fun _ i _ => zs.length - (intOf i).toNat)
  case atStart => exact ⟨0, Nat.zero_le _, rfl, by simp, by have h := ho; unfold Own at h; simpa [mix, iot] using h, ⟨rfl, rfl, rfl, Nat.le_refl _, fun _ _ _ => rfl⟩⟩
  case round =>
    obtain ⟨j, hj, rfl, rfl, hown, hg⟩ := hrel
    by_cases hlt : j < zs.length
    · obtain ⟨g, rfl⟩ : ∃ g, a = some ⟨g, 0, none⟩ := by
        rcases ho.block with ⟨-, -, rfl⟩ | ⟨g, e, -⟩
        · simp at hlt
        · exact ⟨g, e⟩
      have hc : ∃ v0, wr.cell? ⟨g, j, none⟩ = some v0 := by
        rw [hown.cellAt j (by omega)]
        have : j < ((mix k zs j).map (Value.int .u32)).length := by rw [List.length_map, mix_length k zs j hj]; exact hlt
        exact ⟨_, List.getElem?_eq_getElem this⟩
      obtain ⟨v0, hc⟩ := hc
      have hf := hown.frozenAt j
      have hst := hown.stored j (.int .u32 (k + j))
      have HST := hid hst
      clear hst
      go_wp2
      go_roundw
      case rel =>
        refine ⟨j + 1, by omega, by go_num, by go_num, ?_, ?_⟩
        · have h := HST.out.1
          rw [← List.map_set, mix_step k zs j hlt] at h
          exact h
        · have h := HST.out.2
          exact ⟨h.os.trans hg.os, h.tape.trans hg.tape, h.output.trans hg.output, Nat.le_trans hg.size h.size, fun i hi hne => (h.block i (Nat.lt_of_lt_of_le hi hg.size) hne).trans (hg.block i hi hne)⟩
      case measure => simp [intOf]; omega
    · obtain rfl : j = zs.length := by omega
      go_wp2
      go_ret
      refine ⟨rfl, ?_, hg⟩
      unfold Own
      rw [iot_length, ← mix_full k zs]
      exact hown
set_option maxHeartbeats 1000000 in
theorem markW_any (ng : Bool) (a : Option Addr) (cap : Nat) (zs : List Int) (k : Int) (B : Nat) (w : World) (ho : Own w B a cap zs) (hl : zs.length ≤ 1048576) (h0 : 0 ≤ k) (h1 : k ≤ 1073741824) :
    Calls Tryd.prog 40 #[.agg #[.bool ng, .slice a zs.length cap], .int .i64 k] w fun e w' => e = .returned (.int .i64 (k + zs.length)) ∧ Own w' B a cap (iot k zs.length) ∧ w.grownBy w' (Value.slice a zs.length cap).ownBlock := by
  go_enter Tryd.func40, Tryd.ntmps40
  go_wp2_with fail
  refine (markU_any a cap zs k B _ (ho.below ((Below.refl _ _).alloc (Nat.le_refl _) _)) hl h0 h1).mono ?_
  rintro e w1 ⟨rfl, hown, hg⟩
  go_wp2
  go_ret
  refine ⟨rfl, hown, hg.os, hg.tape, hg.output, ?_, fun i hi hne => ?_⟩
  · have := hg.size; simp at this; omega
  · exact (hg.block i (by simp; omega) hne).trans (Below.heap_alloc _ _ _ hi)

/-- What is read back of k, k + 1 and on. -/
def heldR (k : Int) (zs : List Int) : Int := if zs = iot k zs.length then k + zs.length else -1

set_option maxHeartbeats 1000000 in
theorem heldU_any (a : Option Addr) (cap : Nat) (zs : List Int) (k : Int) (w : World) (hs : Sl .u32 w (.slice a zs.length cap) zs) (hz : Nm.Dg zs) (hl : zs.length ≤ 1048576) (h0 : 0 ≤ k) (h1 : k ≤ 1073741824) :
    Calls Tryd.prog 69 #[.slice a zs.length cap, .int .i64 k] w fun e w' => e = .returned (.int .i64 (heldR k zs)) ∧ Below w.heap.size w w' := by
  obtain ⟨-, hx1, hx2, hx3⟩ := hs.cells
  go_enter Tryd.func69, Tryd.ntmps69
  go_wp2
  go_loopw [1, 5] (fun q i wr => ∃ j : Nat, j ≤ zs.length ∧ i = .int .i64 j ∧ q = .int .i64 (k + j) ∧ (∀ i, i < j → zs.getD i 0 = k + i) ∧ Below w.heap.size w wr) (fun _ i _ => zs.length - (intOf i).toNat)
  case atStart => exact ⟨0, Nat.zero_le _, rfl, by simp, fun j hj => absurd hj (Nat.not_lt_zero _), Below.refl _ _⟩
  case round =>
    obtain ⟨j, hj, rfl, rfl, hpre, hb⟩ := hrel
    have PRE := hid hpre
    clear hpre
    by_cases hlt : j < zs.length
    · obtain ⟨b, off, rfl, hcx⟩ := hx3 (by omega)
      have h1' := hcx j hlt
      have h1' : wr.cell? ⟨b, off + j, none⟩ = some (.int .u32 (zs.getD j 0)) := (hb.cell (p := ⟨b, off + j, none⟩) (World.block_lt_of_cell? w _ h1')).trans h1'
      clear hx3 hcx
      have hd := hz.getD j
      obtain ⟨x, hxk⟩ : ∃ x, x = zs.getD j 0 := ⟨_, rfl⟩
      rw [← hxk] at h1' hd
      have HX := hid hxk
      clear hxk
      by_cases hxy : x = k + j
      · have hbe : (x != k + j) = false := by simp [hxy]
        have HXY := hid hxy
        clear hxy
        go_wp2
        go_roundw
        case rel => exact ⟨j + 1, by omega, by go_num, by go_num, fun i hi => by
          by_cases e : i = j
          · subst e; rw [← HX.out]; exact HXY.out
          · exact PRE.out i (by omega), (by repeat (first | exact Below.refl _ _ | refine Below.drew ?_ | refine bel_dn ?_ _ | refine bel_al ?_ _ | refine bel_go ?_ hb | refine Below.setCell ?_ (by first | omega | (simp; done) | (simp; omega)) _ | refine Below.alloc ?_ (by first | omega | (simp; done) | (simp; omega)) _ | refine Below.trans ?_ (Below.mono hb (by first | omega | (simp; done) | (simp; omega)))))⟩
        case measure => simp [intOf]; omega
      · have hbe : (x != k + j) = true := by simp [hxy]
        have HR : Hid (heldR k zs = -1) := hid (by
          unfold heldR; rw [if_neg]; intro e; apply hxy; rw [HX.out, e, iot_getD k zs.length j hlt])
        clear hxy
        go_wp2
        go_ret
        exact ⟨ret_int HR.out.symm, (by repeat (first | exact Below.refl _ _ | refine Below.drew ?_ | refine bel_dn ?_ _ | refine bel_al ?_ _ | refine bel_go ?_ hb | refine Below.setCell ?_ (by first | omega | (simp; done) | (simp; omega)) _ | refine Below.alloc ?_ (by first | omega | (simp; done) | (simp; omega)) _ | refine Below.trans ?_ (Below.mono hb (by first | omega | (simp; done) | (simp; omega)))))⟩
    · obtain rfl : j = zs.length := by omega
      have HR : Hid (heldR k zs = k + zs.length) := hid (by
        unfold heldR; rw [if_pos]
        apply List.ext_getElem (by simp [iot_length])
        intro i hi1 hi2
        have h := PRE.out i hi1
        have h' := iot_getD k zs.length i hi1
        rw [List.getD_eq_getElem?_getD, List.getElem?_eq_getElem hi1] at h
        rw [List.getD_eq_getElem?_getD, List.getElem?_eq_getElem hi2] at h'
        simp at h h'
        rw [h, h'])
      clear hx3
      go_wp2
      go_ret
      exact ⟨ret_int HR.out.symm, hb⟩
theorem heldR_ge (k : Int) (zs : List Int) (h : ¬ heldR k zs < 0) (h0 : 0 ≤ k) : heldR k zs = k + zs.length := by
  unfold heldR at *; split at h
  · rename_i e; rw [if_pos e]
  · omega
theorem heldR_lt (k : Int) (zs : List Int) (h : heldR k zs < 0) (h0 : 0 ≤ k) : heldR k zs = -1 := by
  unfold heldR at *; split at h
  · omega
  · rename_i e; rw [if_neg e]

set_option maxHeartbeats 1000000 in
theorem heldW_any (ng : Bool) (a : Option Addr) (cap : Nat) (zs : List Int) (k : Int) (w : World) (hs : Sl .u32 w (.slice a zs.length cap) zs) (hz : Nm.Dg zs) (hl : zs.length ≤ 1048576) (h0 : 0 ≤ k) (h1 : k ≤ 1073741824) :
    Calls Tryd.prog 41 #[.agg #[.bool ng, .slice a zs.length cap], .int .i64 k] w fun e w' => e = .returned (.int .i64 (heldR k zs)) ∧ Below w.heap.size w w' := by
  by_cases hn : heldR k zs < 0
  · have HN := hid (heldR_lt k zs hn h0)
    go_enter Tryd.func41, Tryd.ntmps41
    go_wp2_with fail
    refine (heldU_any a cap zs k _ (hs.alloc _) hz hl h0 h1).mono ?_
    rintro e w1 ⟨rfl, hb⟩
    go_wp2
    go_ret
    exact ⟨ret_int HN.out.symm, (by repeat (first | exact Below.refl _ _ | refine Below.drew ?_ | refine bel_dn ?_ _ | refine bel_al ?_ _ | refine bel_go ?_ hb | refine Below.setCell ?_ (by first | omega | (simp; done) | (simp; omega)) _ | refine Below.alloc ?_ (by first | omega | (simp; done) | (simp; omega)) _ | refine Below.trans ?_ (Below.mono hb (by first | omega | (simp; done) | (simp; omega)))))⟩
  · go_enter Tryd.func41, Tryd.ntmps41
    go_wp2_with fail
    refine (heldU_any a cap zs k _ (hs.alloc _) hz hl h0 h1).mono ?_
    rintro e w1 ⟨rfl, hb⟩
    go_wp2
    go_ret
    exact ⟨rfl, (by repeat (first | exact Below.refl _ _ | refine Below.drew ?_ | refine bel_dn ?_ _ | refine bel_al ?_ _ | refine bel_go ?_ hb | refine Below.setCell ?_ (by first | omega | (simp; done) | (simp; omega)) _ | refine Below.alloc ?_ (by first | omega | (simp; done) | (simp; omega)) _ | refine Below.trans ?_ (Below.mono hb (by first | omega | (simp; done) | (simp; omega)))))⟩
end Go.Proofs.YtfblidnejdkjhaaDoor
/-
  Limbs cut to a wide that fits, by the program.
-/
namespace Go.Proofs.YtfblidnejdkjhaaDoor
set_option linter.unusedVariables false
set_option linter.unusedSimpArgs false
open Go.RowKit Go.Deep

/-- What limbs are as a wide that fits: the limbs, the sign, whether it fits. -/
def fitL (zs : List Int) : List Int := if (Nm.trim zs).length ≤ 200 then Nm.trim zs else []
def fitN (ng : Bool) (zs : List Int) : Bool := if (Nm.trim zs).length ≤ 200 then ng && !decide ((Nm.trim zs).length = 0) else false
def fitO (zs : List Int) : Bool := decide ((Nm.trim zs).length ≤ 200)

theorem Own.nil (w : World) (B : Nat) : Own w B none 0 [] := World.ownsRow_nil w B 79 1
/-- The first n limbs of what is owned. -/
theorem Own.take {w : World} {B : Nat} {a : Option Addr} {cap : Nat} {zs : List Int} (h : Own w B a cap zs) (n : Nat) (hn : n ≤ zs.length) : Own w B a cap (zs.take n) := by
  have hlen : (zs.take n).length = n := by simp; omega
  rcases h.2 with ⟨h1, h2⟩ | ⟨g, cap', cur, h1, h2, h3, h4, h5, h6, h7⟩
  · simp at h1
    obtain ⟨rfl, hz, rfl⟩ := h1
    subst hz
    simp
    exact Own.nil w B
  · simp only [Value.slice.injEq, true_and] at h1
    obtain ⟨rfl, rfl⟩ := h1
    refine ⟨by simp, .inr ⟨g, cap, cur, by rw [hlen], h2, h3, by rw [hlen]; omega, h5, h6, ?_⟩⟩
    rw [hlen, List.map_take, ← h7, List.take_take, Nat.mul_one, Nat.mul_one, Nat.min_eq_left hn]

theorem fit_cases (ng : Bool) (zs : List Int) {n : Nat} (h : Nm.trim zs = zs.take n) (hn : n ≤ zs.length) :
    (n = 0 → fitL zs = [] ∧ fitN ng zs = false ∧ fitO zs = true) ∧ (200 < n → fitL zs = [] ∧ fitN ng zs = false ∧ fitO zs = false) ∧ (0 < n → n ≤ 200 → fitL zs = zs.take n ∧ fitN ng zs = ng ∧ fitO zs = true) := by
  have hlen : (zs.take n).length = n := by simp; omega
  unfold fitL fitN fitO
  rw [h, hlen]
  refine ⟨fun e => ?_, fun e => ?_, fun e1 e2 => ?_⟩
  · subst e; simp
  · rw [if_neg (by omega), if_neg (by omega)]; simp; omega
  · rw [if_pos e2, if_pos e2]; simp [show n ≠ 0 by omega, e2]

set_option maxHeartbeats 1000000 in
theorem fitted_at (ng : Bool) (a : Option Addr) (cap : Nat) (zs : List Int) (B : Nat) (w : World) (ho : Own w B a cap zs) (hz : Nm.Dg zs) (hl : zs.length ≤ 1048576) :
    Calls Tryd.prog 70 #[.bool ng, .slice a zs.length cap] w fun e w' => ∃ a' c', e = .returned (.tuple #[.agg #[.bool (fitN ng zs), .slice a' (fitL zs).length c'], .bool (fitO zs)]) ∧ Own w' B a' c' (fitL zs) ∧ Below w.heap.size w w' ∧ (a' = none ∨ a' = a) := by
  obtain ⟨-, hc1, hc2, hc3⟩ := ho.sl.cells
  go_enter Tryd.func70, Tryd.ntmps70
  go_wp2_with fail
  go_loop [6] (fun i => ∃ n : Nat, n ≤ zs.length ∧ i = .int .i64 n ∧ (∀ i, n ≤ i → i < zs.length → zs.getD i 0 = 0)) (fun i => (intOf i).toNat)
  case atStart => exact ⟨zs.length, Nat.le_refl _, rfl, fun i h1 h2 => absurd h2 (by omega)⟩
  case round =>
    obtain ⟨n, hn, rfl, hpre⟩ := hrel
    have PRE := hid hpre
    clear hpre
    by_cases h0 : n = 0
    · subst h0
      have hT := Nm.trim_take hz (Nat.zero_le _) PRE.out (.inl rfl)
      obtain ⟨e1, e2, e3⟩ := (fit_cases ng zs hT (Nat.zero_le _)).1 rfl
      have HF := hid (And.intro e1 (And.intro e2 e3))
      clear hT e1 e2 e3 hc3
      go_wp2
      refine bodyPost_ret (v := .tuple #[.agg #[.bool false, .slice none 0 0], .bool true]) (by simp [results, Tryd.results70, go_sem]) rfl ⟨none, 0, ?_, ?_, (by repeat (first | exact Below.refl _ _ | refine Below.drew ?_ | refine bel_dn ?_ _ | refine bel_al ?_ _ | refine Below.setCell ?_ (by first | omega | (simp; done) | (simp; omega)) _ | refine Below.alloc ?_ (by first | omega | (simp; done) | (simp; omega)) _)), .inl rfl⟩
      · rw [HF.out.1, HF.out.2.1, HF.out.2.2]; rfl
      · rw [HF.out.1]; exact Own.nil _ _
    · obtain ⟨b, off, rfl, hcell⟩ := hc3 (by omega)
      have hcx := hcell (n - 1) (by omega)
      have hlt := World.block_lt_of_cell? w _ hcx
      obtain ⟨z, hzk⟩ : ∃ z, z = zs.getD (n - 1) 0 := ⟨_, rfl⟩
      rw [← hzk] at hcx
      have HZ := hid hzk
      clear hzk hcell hc3
      have hn1 : 1 ≤ n := by omega
      by_cases hz0 : z = 0
      · have t0 : (z == 0) = true := by simpa using hz0
        have HZ0 := hid hz0
        clear hz0
        go_wp2
        go_round
        case rel => exact ⟨n - 1, by omega, by go_num, fun i h1 h2 => by
          by_cases e : i = n - 1
          · subst e; rw [← HZ.out]; exact HZ0.out
          · exact PRE.out i (by omega) h2⟩
        case measure => simp [intOf]; omega
      · have t0 : (z == 0) = false := by simpa using hz0
        have hT := Nm.trim_take hz hn PRE.out (.inr (by rw [← HZ.out]; exact hz0))
        have hfc := fit_cases ng zs hT hn
        have HF := hid hfc
        have tn : ((n : Int) == 0) = false := by rw [beq_eq_false_iff_ne]; omega
        clear hfc hT hz0
        by_cases h200 : n ≤ 200
        · go_wp2
          refine bodyPost_ret (v := .tuple #[.agg #[.bool ng, .slice (some ⟨b, off, none⟩) n cap], .bool true]) (by simp [results, Tryd.results70, go_sem]) rfl ⟨some ⟨b, off, none⟩, cap, ?_, ?_, (by repeat (first | exact Below.refl _ _ | refine Below.drew ?_ | refine bel_dn ?_ _ | refine bel_al ?_ _ | refine Below.setCell ?_ (by first | omega | (simp; done) | (simp; omega)) _ | refine Below.alloc ?_ (by first | omega | (simp; done) | (simp; omega)) _)), .inr rfl⟩
          · obtain ⟨e1, e2, e3⟩ := HF.out.2.2 hn1 h200
            rw [e1, e2, e3, List.length_take, Nat.min_eq_left hn]
          · obtain ⟨e1, e2, e3⟩ := HF.out.2.2 hn1 h200
            rw [e1]
            exact (ho.take n hn).below (by repeat (first | exact Below.refl _ _ | refine Below.drew ?_ | refine bel_dn ?_ _ | refine bel_al ?_ _ | refine Below.setCell ?_ (by first | omega | (simp; done) | (simp; omega)) _ | refine Below.alloc ?_ (by first | omega | (simp; done) | (simp; omega)) _))
        · go_wp2
          refine bodyPost_ret (v := .tuple #[.agg #[.bool false, .slice none 0 0], .bool false]) (by simp [results, Tryd.results70, go_sem]) rfl ⟨none, 0, ?_, ?_, (by repeat (first | exact Below.refl _ _ | refine Below.drew ?_ | refine bel_dn ?_ _ | refine bel_al ?_ _ | refine Below.setCell ?_ (by first | omega | (simp; done) | (simp; omega)) _ | refine Below.alloc ?_ (by first | omega | (simp; done) | (simp; omega)) _)), .inl rfl⟩
          · obtain ⟨e1, e2, e3⟩ := HF.out.2.1 (by omega)
            rw [e1, e2, e3]; rfl
          · obtain ⟨e1, e2, e3⟩ := HF.out.2.1 (by omega)
            rw [e1]; exact Own.nil _ _
theorem fitted_any (ng : Bool) (a : Option Addr) (cap : Nat) (zs : List Int) (B : Nat) (w : World) (ho : Own w B a cap zs) (hz : Nm.Dg zs) (hl : zs.length ≤ 1048576) :
    Calls Tryd.prog 70 #[.bool ng, .slice a zs.length cap] w fun e w' => ∃ a' c', e = .returned (.tuple #[.agg #[.bool (fitN ng zs), .slice a' (fitL zs).length c'], .bool (fitO zs)]) ∧ Own w' B a' c' (fitL zs) ∧ Below w.heap.size w w' :=
  (fitted_at ng a cap zs B w ho hz hl).mono fun e w' ⟨a', c', h1, h2, h3, _⟩ => ⟨a', c', h1, h2, h3⟩
end Go.Proofs.YtfblidnejdkjhaaDoor
/-
  Plain mathematics, no Go: the limbs of a number; what a list is worth when a limb of it is set; wides as integers.
-/
namespace Go.Proofs.YtfblidnejdkjhaaDoor
set_option linter.unusedVariables false
namespace Nm

/-- The limbs of a number, least first, none on top that is 0. -/
def lim (n : Nat) : List Int := if h : n = 0 then [] else ((n % 4294967296 : Nat) : Int) :: lim (n / 4294967296)
termination_by n
decreasing_by exact Nat.div_lt_self (by omega) (by decide)

theorem lim_zero : lim 0 = [] := by unfold lim; simp
theorem lim_pos {n : Nat} (h : n ≠ 0) : lim n = ((n % 4294967296 : Nat) : Int) :: lim (n / 4294967296) := by rw [lim]; simp [h]

theorem lim_dg (n : Nat) : Dg (lim n) := by
  induction n using Nat.strongRecOn with
  | _ n ih =>
    by_cases h : n = 0
    · subst h; rw [lim_zero]; exact Dg.nil
    · rw [lim_pos h]; exact Dg.cons (by omega) (ih _ (Nat.div_lt_self (by omega) (by decide)))

theorem lim_val (n : Nat) : val (lim n) = n := by
  induction n using Nat.strongRecOn with
  | _ n ih =>
    by_cases h : n = 0
    · subst h; rw [lim_zero]; rfl
    · rw [lim_pos h, val, ih _ (Nat.div_lt_self (by omega) (by decide))]; omega

theorem lim_nil {n : Nat} (h : lim n = []) : n = 0 := by
  by_cases h0 : n = 0
  · exact h0
  · rw [lim_pos h0] at h; cases h

theorem lim_nz (n : Nat) : Nz (lim n) := by
  induction n using Nat.strongRecOn with
  | _ n ih =>
    by_cases h : n = 0
    · subst h; rw [lim_zero]; exact Nz.nil
    · rw [lim_pos h]
      have h1 := ih _ (Nat.div_lt_self (by omega : 0 < n) (by decide : 1 < 4294967296))
      intro z hz
      cases e : lim (n / 4294967296) with
      | nil => rw [e] at hz; have := lim_nil e; simp at hz; omega
      | cons y r => rw [e] at hz; rw [List.getLast?_cons_cons, ← e] at hz; exact h1 z hz

theorem lim_of {l : List Int} (h : Dg l) (k : Nz l) : lim (val l).toNat = l :=
  val_inj (lim_dg _) h (lim_nz _) k (by rw [lim_val]; have := val_nonneg h; omega)
theorem trim_lim {l : List Int} (h : Dg l) : trim l = lim (val l).toNat :=
  val_inj (trim_dg h) (lim_dg _) (trim_nz _) (lim_nz _) (by rw [lim_val, trim_val]; have := val_nonneg h; omega)
theorem lim_length (n k : Nat) : (lim n).length ≤ k ↔ (n : Int) < pw k := by
  rw [length_le_iff (lim_dg n) (lim_nz n) k, lim_val]
theorem lim_length_zero (n : Nat) : (lim n).length = 0 ↔ n = 0 := by
  constructor
  · intro h; exact lim_nil (List.eq_nil_of_length_eq_zero h)
  · rintro rfl; rw [lim_zero]; rfl

/-- A limb is set. -/
theorem val_set (l : List Int) (k : Nat) (v : Int) (h : k < l.length) : val (l.set k v) = val l + pw k * (v - l.getD k 0) := by
  induction l generalizing k with
  | nil => simp at h
  | cons z r ih =>
    cases k with
    | zero => simp [val, pw]; omega
    | succ k =>
      have := ih k (by simpa using h)
      simp only [List.set_cons_succ, val, this, pw, List.getD_cons_succ]
      rw [Int.mul_add, Int.mul_assoc]; omega
theorem Dg.set {l : List Int} (h : Dg l) (k : Nat) {v : Int} (hv : 0 ≤ v ∧ v < 4294967296) : Dg (l.set k v) := fun x hx => by
  rcases List.mem_or_eq_of_mem_set hx with hx | rfl
  · exact h x hx
  · exact hv
theorem getD_set (l : List Int) (k i : Nat) (v : Int) (h : k < l.length) : (l.set k v).getD i 0 = if i = k then v else l.getD i 0 := by
  rw [List.getD_eq_getElem?_getD, List.getElem?_set, List.getD_eq_getElem?_getD]
  by_cases e : k = i
  · subst e; simp [h]
  · rw [if_neg e, if_neg (fun h => e h.symm)]

theorem take_snoc {l : List Int} {k : Nat} (h : k < l.length) : l.take (k + 1) = l.take k ++ [l.getD k 0] := by
  rw [List.take_succ_eq_append_getElem h]; simp [List.getD_eq_getElem?_getD, h]
/-- The first limbs, and one more (or 0, behind the last one). -/
theorem val_take_succ (l : List Int) (k : Nat) : val (l.take (k + 1)) = val (l.take k) + pw k * l.getD k 0 := by
  by_cases h : k < l.length
  · rw [take_snoc h, val_append]
    simp [val, Nat.min_eq_left (Nat.le_of_lt h)]
  · rw [List.take_of_length_le (by omega), List.take_of_length_le (by omega), List.getD_eq_getElem?_getD, List.getElem?_eq_none (by omega)]; simp
theorem val_snoc (l : List Int) (z : Int) : val (l ++ [z]) = val l + pw l.length * z := by rw [val_append]; simp [val]
theorem getD_out {l : List Int} {k : Nat} (h : l.length ≤ k) : l.getD k 0 = 0 := by rw [List.getD_eq_getElem?_getD, List.getElem?_eq_none (by omega)]; rfl
theorem getD_replicate (n k : Nat) : (List.replicate n (0 : Int)).getD k 0 = 0 := by
  rw [List.getD_eq_getElem?_getD]
  by_cases h : k < n
  · simp [h]
  · simp [h]

/-- A wide that is x: the limbs, the sign; what is answered where it may not fit. -/
def wl (x : Int) : List Int := lim x.natAbs
def wn (x : Int) : Bool := decide (x < 0)
def fits (x : Int) : Bool := decide ((wl x).length ≤ 200)
def outL (x : Int) : List Int := if fits x then wl x else []
def outN (x : Int) : Bool := fits x && wn x
/-- What a wide with this sign and limbs is. -/
def wv (ng : Bool) (zs : List Int) : Int := if ng then - val zs else val zs
theorem natAbs_wv {zs : List Int} (ng : Bool) (h : Dg zs) : (wv ng zs).natAbs = (val zs).toNat := by
  have := val_nonneg h
  unfold wv; cases ng <;> simp <;> omega
theorem wl_wv {zs : List Int} (ng : Bool) (h : Dg zs) : wl (wv ng zs) = trim zs := by
  unfold wl; rw [natAbs_wv ng h, trim_lim h]
theorem wn_wv {zs : List Int} (ng : Bool) (h : Dg zs) : wn (wv ng zs) = (ng && !decide ((trim zs).length = 0)) := by
  have h0 := val_nonneg h
  have h1 : (trim zs).length = 0 ↔ val zs = 0 := by rw [trim_lim h, lim_length_zero]; omega
  unfold wn wv
  by_cases e : val zs = 0
  · rw [decide_eq_true (h1.2 e), e]; cases ng <;> simp
  · rw [decide_eq_false (fun h => e (h1.1 h))]; cases ng
    · simp; omega
    · simp; omega
theorem wl_dg (x : Int) : Dg (wl x) := lim_dg _
theorem wl_nz (x : Int) : Nz (wl x) := lim_nz _
theorem val_wl (x : Int) : val (wl x) = x.natAbs := lim_val _
theorem wv_out (x : Int) : wv (wn x) (wl x) = x := by
  unfold wv wn; rw [val_wl]; by_cases h : x < 0 <;> simp [h] <;> omega
theorem outL_dg (x : Int) : Dg (outL x) := by
  unfold outL; split
  · exact wl_dg x
  · exact Dg.nil
theorem outL_length (x : Int) : (outL x).length ≤ 200 := by
  unfold outL; split
  · rename_i h; simpa [fits] using h
  · simp
end Nm
end Go.Proofs.YtfblidnejdkjhaaDoor
