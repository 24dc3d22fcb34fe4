/-
  Several texts in one: LawsA, LawsB.
-/
import Derived.Test.YtdjfajjlmjkpdaaDoorRows
import Derived.Test.YtdjfajjlmjkpdaaDoorG00
import Derived.WalkKit
import Derived.WalkSpells
import Derived.WalkLawsBesides
/-
  The laws' own helpers: sizes, copies, 'right'.
-/
namespace Go.Proofs.YtdjfajjlmjkpdaaDoor
set_option linter.unusedVariables false
set_option linter.unusedSimpArgs false
open Go.RowKit Go.Deep
/-- What is left of 'left' behind so many values; -1 when there are too many. -/
def szR (left : Int) (len : Nat) : Int := if left < len then -1 else left - len

theorem info32 : (Tryd.prog.info? 95).map (fun i => (i.zero, i.size, i.bytes)) = some (some (.int .u32 0), 1, 4) := by kernel_rfl

/-- k limbs are copied. -/
def cop (zs : List Int) (k : Nat) : Nat → Value := fun i => if i < k then .int .u32 (zs.getD i 0) else .int .u32 0

theorem cop_step {w : World} {b : Nat} {t : TypeId} {zs : List Int} {k : Nat} {u : Int} (h : w.rowIs b t zs.length (cop zs k)) (hu : u = zs.getD k 0) : (w.setCell ⟨b, k, none⟩ (.int .u32 u)).rowIs b t zs.length (cop zs (k + 1)) :=
  (h.set k _).congr fun i _ => by
    subst hu
    unfold cop
    by_cases e : i = k
    · subst e; simp
    · rw [if_neg e]
      by_cases hlt : i < k
      · rw [if_pos hlt, if_pos (by omega)]
      · rw [if_neg hlt, if_neg (by omega)]

/-- Whether a wide of these limbs is right. -/
def okB (ng : Bool) (zs : List Int) : Bool := if zs.length = 0 then !ng else decide (zs.length ≤ 200) && !decide (zs.getD (zs.length - 1) 0 = 0)

set_option maxHeartbeats 1000000 in
theorem ok_impl (ng : Bool) (a : Option Addr) (cap : Nat) (zs : List Int) (w : World) (hs : Sl .u32 w (.slice a zs.length cap) zs) (hl : zs.length ≤ 140737488355328) :
    Calls Tryd.prog 80 #[.agg #[.bool ng, .slice a zs.length cap]] w fun e w' => e = .returned (.bool (okB ng zs)) ∧ Below w.heap.size w w' := by
  obtain ⟨a0, cap0, he, hc1, hc2, hz⟩ := hs
  simp at he; obtain ⟨rfl, rfl⟩ := he
  by_cases h0 : zs.length = 0
  · have H : Hid (okB ng zs = !ng) := hid (by unfold okB; rw [if_pos h0])
    have hb0 : ((zs.length : Int) == 0) = true := by rw [beq_iff_eq]; omega
    go_enter Tryd.func80, Tryd.ntmps80
    go_wp2
    go_ret
    exact ⟨ret_bool H.out.symm, (by repeat (first | exact Below.refl _ _ | refine Below.drew ?_ | refine bel_dn ?_ _ | refine bel_al ?_ _ | refine Below.setCell ?_ (by first | omega | (simp; done) | (simp; omega)) _ | refine Below.alloc ?_ (by first | omega | (simp; done) | (simp; omega)) _))⟩
  · obtain ⟨b, off, rfl, hcell⟩ : ∃ b off, a = some ⟨b, off, none⟩ ∧ ∀ i, i < zs.length → w.cell? ⟨b, off + i, none⟩ = some (.int .u32 (zs.getD i 0)) := by
      rcases hz with rfl | hz
      · simp at h0
      · exact hz
    clear hz
    have hb0 : ((zs.length : Int) == 0) = false := by rw [beq_eq_false_iff_ne]; omega
    have hc0 := hcell (zs.length - 1) (by omega)
    have hlt := World.block_lt_of_cell? w _ hc0
    generalize hz : zs.getD (zs.length - 1) 0 = z at hc0
    by_cases h2 : zs.length ≤ 200
    · by_cases h3 : z = 0
      · have H : Hid (okB ng zs = false) := hid (by unfold okB; rw [if_neg h0, hz]; simp [h3])
        clear hcell hz
        have h3' : (z != 0) = false := by simp [h3]
        go_enter Tryd.func80, Tryd.ntmps80
        go_wp2
        go_ret
        exact ⟨ret_bool H.out.symm, (by repeat (first | exact Below.refl _ _ | refine Below.drew ?_ | refine bel_dn ?_ _ | refine bel_al ?_ _ | refine Below.setCell ?_ (by first | omega | (simp; done) | (simp; omega)) _ | refine Below.alloc ?_ (by first | omega | (simp; done) | (simp; omega)) _))⟩
      · have H : Hid (okB ng zs = true) := hid (by unfold okB; rw [if_neg h0, hz]; simp [h3, h2])
        clear hcell hz
        have h3' : (z != 0) = true := by simp [h3]
        go_enter Tryd.func80, Tryd.ntmps80
        go_wp2
        go_ret
        exact ⟨ret_bool H.out.symm, (by repeat (first | exact Below.refl _ _ | refine Below.drew ?_ | refine bel_dn ?_ _ | refine bel_al ?_ _ | refine Below.setCell ?_ (by first | omega | (simp; done) | (simp; omega)) _ | refine Below.alloc ?_ (by first | omega | (simp; done) | (simp; omega)) _))⟩
    · have H : Hid (okB ng zs = false) := hid (by unfold okB; rw [if_neg h0]; simp [h2])
      clear hcell hz
      go_enter Tryd.func80, Tryd.ntmps80
      go_wp2
      go_ret
      exact ⟨ret_bool H.out.symm, (by repeat (first | exact Below.refl _ _ | refine Below.drew ?_ | refine bel_dn ?_ _ | refine bel_al ?_ _ | refine Below.setCell ?_ (by first | omega | (simp; done) | (simp; omega)) _ | refine Below.alloc ?_ (by first | omega | (simp; done) | (simp; omega)) _))⟩
set_option maxHeartbeats 1000000 in
theorem ok_spec (ng : Bool) (a : Option Addr) (cap : Nat) (zs : List Int) (w : World) (hs : Sl .u32 w (.slice a zs.length cap) zs) (hl : zs.length ≤ 140737488355328) :
    Calls Tryd.prog 105 #[.agg #[.bool ng, .slice a zs.length cap]] w fun e w' => e = .returned (.bool (okB ng zs)) ∧ Below w.heap.size w w' := by
  obtain ⟨a0, cap0, he, hc1, hc2, hz⟩ := hs
  simp at he; obtain ⟨rfl, rfl⟩ := he
  by_cases h0 : zs.length = 0
  · have H : Hid (okB ng zs = !ng) := hid (by unfold okB; rw [if_pos h0])
    have hb0 : ((zs.length : Int) == 0) = true := by rw [beq_iff_eq]; omega
    go_enter Tryd.func105, Tryd.ntmps105
    go_wp2
    go_ret
    exact ⟨ret_bool H.out.symm, (by repeat (first | exact Below.refl _ _ | refine Below.drew ?_ | refine bel_dn ?_ _ | refine bel_al ?_ _ | refine Below.setCell ?_ (by first | omega | (simp; done) | (simp; omega)) _ | refine Below.alloc ?_ (by first | omega | (simp; done) | (simp; omega)) _))⟩
  · obtain ⟨b, off, rfl, hcell⟩ : ∃ b off, a = some ⟨b, off, none⟩ ∧ ∀ i, i < zs.length → w.cell? ⟨b, off + i, none⟩ = some (.int .u32 (zs.getD i 0)) := by
      rcases hz with rfl | hz
      · simp at h0
      · exact hz
    clear hz
    have hb0 : ((zs.length : Int) == 0) = false := by rw [beq_eq_false_iff_ne]; omega
    have hc0 := hcell (zs.length - 1) (by omega)
    have hlt := World.block_lt_of_cell? w _ hc0
    generalize hz : zs.getD (zs.length - 1) 0 = z at hc0
    by_cases h2 : zs.length ≤ 200
    · by_cases h3 : z = 0
      · have H : Hid (okB ng zs = false) := hid (by unfold okB; rw [if_neg h0, hz]; simp [h3])
        clear hcell hz
        have h3' : (z != 0) = false := by simp [h3]
        go_enter Tryd.func105, Tryd.ntmps105
        go_wp2
        go_ret
        exact ⟨ret_bool H.out.symm, (by repeat (first | exact Below.refl _ _ | refine Below.drew ?_ | refine bel_dn ?_ _ | refine bel_al ?_ _ | refine Below.setCell ?_ (by first | omega | (simp; done) | (simp; omega)) _ | refine Below.alloc ?_ (by first | omega | (simp; done) | (simp; omega)) _))⟩
      · have H : Hid (okB ng zs = true) := hid (by unfold okB; rw [if_neg h0, hz]; simp [h3, h2])
        clear hcell hz
        have h3' : (z != 0) = true := by simp [h3]
        go_enter Tryd.func105, Tryd.ntmps105
        go_wp2
        go_ret
        exact ⟨ret_bool H.out.symm, (by repeat (first | exact Below.refl _ _ | refine Below.drew ?_ | refine bel_dn ?_ _ | refine bel_al ?_ _ | refine Below.setCell ?_ (by first | omega | (simp; done) | (simp; omega)) _ | refine Below.alloc ?_ (by first | omega | (simp; done) | (simp; omega)) _))⟩
    · have H : Hid (okB ng zs = false) := hid (by unfold okB; rw [if_neg h0]; simp [h2])
      clear hcell hz
      go_enter Tryd.func105, Tryd.ntmps105
      go_wp2
      go_ret
      exact ⟨ret_bool H.out.symm, (by repeat (first | exact Below.refl _ _ | refine Below.drew ?_ | refine bel_dn ?_ _ | refine bel_al ?_ _ | refine Below.setCell ?_ (by first | omega | (simp; done) | (simp; omega)) _ | refine Below.alloc ?_ (by first | omega | (simp; done) | (simp; omega)) _))⟩

/-- Whether two lists are one. -/
def eqL (xs ys : List Int) : Bool := decide (xs = ys)
theorem eqL_no {xs ys : List Int} {k : Nat} (h : xs.getD k 0 ≠ ys.getD k 0) : eqL xs ys = false := by
  unfold eqL; rw [decide_eq_false_iff_not]; rintro rfl; exact h rfl
theorem eqL_len {xs ys : List Int} (h : xs.length ≠ ys.length) : eqL xs ys = false := by
  unfold eqL; rw [decide_eq_false_iff_not]; rintro rfl; exact h rfl
theorem eqL_yes {xs ys : List Int} (h : xs.length = ys.length) (hk : ∀ i, i < xs.length → xs.getD i 0 = ys.getD i 0) : eqL xs ys = true := by
  unfold eqL; rw [decide_eq_true_iff]
  apply List.ext_getElem h
  intro i h1 h2
  have := hk i h1
  simpa [List.getD_eq_getElem?_getD, h1, h2] using this


end Go.Proofs.YtdjfajjlmjkpdaaDoor
/-
  The laws' own helpers: equal, marked, held.
-/
namespace Go.Proofs.YtdjfajjlmjkpdaaDoor
set_option linter.unusedVariables false
set_option linter.unusedSimpArgs false
open Go.RowKit Go.Deep

set_option maxHeartbeats 1000000 in
theorem eqU_any (a a' : Option Addr) (cap cap' : Nat) (xs ys : List Int) (w : World) (hx : Sl .u32 w (.slice a xs.length cap) xs) (hy : Sl .u32 w (.slice a' ys.length cap') ys) (hl : xs.length ≤ 140737488355328) :
    Calls Tryd.prog 42 #[.slice a xs.length cap, .slice a' ys.length cap'] w fun e w' => e = .returned (.bool (eqL xs ys)) ∧ Below w.heap.size w w' := by
  obtain ⟨-, hx1, hx2, hx3⟩ := hx.cells
  obtain ⟨-, hy1, hy2, hy3⟩ := hy.cells
  by_cases hn : xs.length = ys.length
  · have hne : ((xs.length : Int) != (ys.length : Int)) = false := by simp [hn]
    have HN : Hid (xs.length = ys.length) := hid hn
    have hn1 : xs.length ≤ ys.length := by omega
    have hn2 : ys.length ≤ xs.length := by omega
    clear hn
    go_enter Tryd.func42, Tryd.ntmps42
    go_wp2
    go_loopw [5] (fun i wr => ∃ k : Nat, k ≤ xs.length ∧ i = .int .i64 k ∧ (∀ j, j < k → xs.getD j 0 = ys.getD j 0) ∧ Below w.heap.size w wr) (fun i _ => xs.length - (intOf i).toNat)
    case atStart => exact ⟨0, Nat.zero_le _, rfl, fun j hj => absurd hj (Nat.not_lt_zero _), Below.refl _ _⟩
    case round =>
      obtain ⟨k, hk, rfl, hpre, hb⟩ := hrel
      by_cases hlt : k < xs.length
      · obtain ⟨b, off, rfl, hcx⟩ := hx3 (by omega)
        obtain ⟨b', off', rfl, hcy⟩ := hy3 (by omega)
        have h1 := hcx k hlt
        have h2 := hcy k (by omega)
        have h1 : wr.cell? ⟨b, off + k, none⟩ = some (.int .u32 (xs.getD k 0)) := (hb.cell (p := ⟨b, off + k, none⟩) (World.block_lt_of_cell? w _ h1)).trans h1
        have h2 : wr.cell? ⟨b', off' + k, none⟩ = some (.int .u32 (ys.getD k 0)) := (hb.cell (p := ⟨b', off' + k, none⟩) (World.block_lt_of_cell? w _ h2)).trans h2
        clear hx3 hy3 hcx hcy
        have PRE : Hid (∀ j, j < k → xs.getD j 0 = ys.getD j 0) := hid hpre
        clear hpre
        obtain ⟨x, hxk⟩ : ∃ x, x = xs.getD k 0 := ⟨_, rfl⟩
        obtain ⟨y, hyk⟩ : ∃ y, y = ys.getD k 0 := ⟨_, rfl⟩
        rw [← hxk] at h1; rw [← hyk] at h2
        have HX := hid hxk; have HY := hid hyk
        clear hxk hyk
        by_cases hxy : x = y
        · have hbe : (x != y) = false := by simp [hxy]
          have HXY := hid hxy
          clear hxy
          go_wp2
          go_region
          all_goals go_wp2
          all_goals go_roundw
          case rel => exact ⟨k + 1, by omega, by go_num, fun j hj => by
            by_cases e : j = k
            · subst e; rw [← HX.out, ← HY.out]; exact HXY.out
            · exact PRE.out j (by omega), (by repeat (first | exact Below.refl _ _ | refine Below.drew ?_ | refine bel_dn ?_ _ | refine bel_al ?_ _ | refine bel_go ?_ hb | refine Below.setCell ?_ (by first | omega | (simp; done) | (simp; omega)) _ | refine Below.alloc ?_ (by first | omega | (simp; done) | (simp; omega)) _ | refine Below.trans ?_ (Below.mono hb (by first | omega | (simp; done) | (simp; omega)))))⟩
          case measure => simp [intOf]; omega
        · have hbe : (x != y) = true := by simp [hxy]
          have HR : Hid (eqL xs ys = false) := hid (eqL_no (k := k) (by rw [← HX.out, ← HY.out]; exact hxy))
          go_wp2
          go_region
          all_goals go_wp2
          all_goals go_ret
          all_goals exact ⟨ret_bool HR.out.symm, (by repeat (first | exact Below.refl _ _ | refine Below.drew ?_ | refine bel_dn ?_ _ | refine bel_al ?_ _ | refine bel_go ?_ hb | refine Below.setCell ?_ (by first | omega | (simp; done) | (simp; omega)) _ | refine Below.alloc ?_ (by first | omega | (simp; done) | (simp; omega)) _ | refine Below.trans ?_ (Below.mono hb (by first | omega | (simp; done) | (simp; omega)))))⟩
      · obtain rfl : k = xs.length := by omega
        have HR : Hid (eqL xs ys = true) := hid (eqL_yes HN.out hpre)
        clear hx3 hy3 hpre
        go_wp2
        go_ret
        exact ⟨ret_bool HR.out.symm, hb⟩
  · have hne : ((xs.length : Int) != (ys.length : Int)) = true := by simp; omega
    have HR : Hid (eqL xs ys = false) := hid (eqL_len hn)
    clear hx3 hy3
    go_enter Tryd.func42, Tryd.ntmps42
    go_wp2
    go_ret
    exact ⟨ret_bool HR.out.symm, Below.refl _ _⟩

/-- Whether two wides are one. -/
def eqW (n m : Bool) (xs ys : List Int) : Bool := n == m && eqL xs ys

set_option maxHeartbeats 1000000 in
theorem eqW_any (n m : Bool) (a a' : Option Addr) (cap cap' : Nat) (xs ys : List Int) (w : World) (hx : Sl .u32 w (.slice a xs.length cap) xs) (hy : Sl .u32 w (.slice a' ys.length cap') ys) (hl : xs.length ≤ 140737488355328) :
    Calls Tryd.prog 12 #[.agg #[.bool n, .slice a xs.length cap], .agg #[.bool m, .slice a' ys.length cap']] w fun e w' => e = .returned (.bool (eqW n m xs ys)) ∧ Below w.heap.size w w' := by
  by_cases hn : n = m
  · subst hn
    have hbe : (n != n) = false := by simp
    go_enter Tryd.func12, Tryd.ntmps12
    have hx' : ∀ o o', Sl .u32 ((w.alloc o).alloc o') (.slice a xs.length cap) xs := fun o o' => (hx.alloc o).alloc o'
    have hy' : ∀ o o', Sl .u32 ((w.alloc o).alloc o') (.slice a' ys.length cap') ys := fun o o' => (hy.alloc o).alloc o'
    by_cases he : eqL xs ys = true
    · have HR : Hid (eqW n n xs ys = true) := hid (by simp [eqW, he])
      go_wp2_with fail
      refine (eqU_any a a' cap cap' xs ys _ (hx' _ _) (hy' _ _) hl).mono ?_
      rintro e w1 ⟨rfl, hb⟩
      go_wp2
      go_ret
      exact ⟨ret_bool HR.out.symm, (by repeat (first | exact Below.refl _ _ | refine Below.drew ?_ | refine bel_dn ?_ _ | refine bel_al ?_ _ | refine bel_go ?_ hb | refine Below.setCell ?_ (by first | omega | (simp; done) | (simp; omega)) _ | refine Below.alloc ?_ (by first | omega | (simp; done) | (simp; omega)) _ | refine Below.trans ?_ (Below.mono hb (by first | omega | (simp; done) | (simp; omega)))))⟩
    · have he : eqL xs ys = false := by simpa using he
      have HR : Hid (eqW n n xs ys = false) := hid (by simp [eqW, he])
      go_wp2_with fail
      refine (eqU_any a a' cap cap' xs ys _ (hx' _ _) (hy' _ _) hl).mono ?_
      rintro e w1 ⟨rfl, hb⟩
      go_wp2
      go_ret
      exact ⟨ret_bool HR.out.symm, (by repeat (first | exact Below.refl _ _ | refine Below.drew ?_ | refine bel_dn ?_ _ | refine bel_al ?_ _ | refine bel_go ?_ hb | refine Below.setCell ?_ (by first | omega | (simp; done) | (simp; omega)) _ | refine Below.alloc ?_ (by first | omega | (simp; done) | (simp; omega)) _ | refine Below.trans ?_ (Below.mono hb (by first | omega | (simp; done) | (simp; omega)))))⟩
  · have hbe : (n == m) = false := by simpa using hn
    have HR : Hid (eqW n m xs ys = false) := hid (by simp [eqW, hn])
    clear hn
    go_enter Tryd.func12, Tryd.ntmps12
    go_wp2
    go_ret
    exact ⟨ret_bool HR.out.symm, (by repeat (first | exact Below.refl _ _ | refine Below.drew ?_ | refine bel_dn ?_ _ | refine bel_al ?_ _ | refine Below.setCell ?_ (by first | omega | (simp; done) | (simp; omega)) _ | refine Below.alloc ?_ (by first | omega | (simp; done) | (simp; omega)) _))⟩

/-- k, k + 1 and on. -/
def iot (k : Int) (n : Nat) : List Int := (List.range n).map (fun i => k + (i : Nat))
theorem iot_length (k : Int) (n : Nat) : (iot k n).length = n := by simp [iot]
theorem iot_getD (k : Int) (n i : Nat) (h : i < n) : (iot k n).getD i 0 = k + i := by simp [iot, List.getD_eq_getElem?_getD, h]
def mix (k : Int) (zs : List Int) (j : Nat) : List Int := iot k j ++ zs.drop j
theorem mix_length (k : Int) (zs : List Int) (j : Nat) (h : j ≤ zs.length) : (mix k zs j).length = zs.length := by simp [mix, iot]; omega
theorem mix_step (k : Int) (zs : List Int) (j : Nat) (h : j < zs.length) : (mix k zs j).set j (k + j) = mix k zs (j + 1) := by
  apply List.ext_getElem?
  intro i
  rw [List.getElem?_set]
  simp only [mix, List.getElem?_append, iot_length, List.getElem?_drop]
  by_cases e : j = i
  · subst e
    simp [iot]; omega
  · rw [if_neg e]
    by_cases hlt : i < j
    · simp [iot, hlt, show i < j + 1 by omega]
    · simp [hlt, show ¬ i < j + 1 by omega, show j + (i - j) = j + 1 + (i - (j + 1)) by omega]
theorem mix_full (k : Int) (zs : List Int) : mix k zs zs.length = iot k zs.length := by simp [mix]

set_option maxHeartbeats 1000000 in
theorem markU_any (a : Option Addr) (cap : Nat) (zs : List Int) (k : Int) (B : Nat) (w : World) (ho : Own w B a cap zs) (hl : zs.length ≤ 1048576) (h0 : 0 ≤ k) (h1 : k ≤ 1073741824) :
    Calls Tryd.prog 43 #[.slice a zs.length cap, .int .i64 k] w fun e w' => e = .returned (.int .i64 (k + zs.length)) ∧ Own w' B a cap (iot k zs.length) ∧ w.grownBy w' (Value.slice a zs.length cap).ownBlock := by
  go_enter Tryd.func43, Tryd.ntmps43
  go_wp2
  go_loopw [1, 5] (fun q i wr => ∃ j : Nat, j ≤ zs.length ∧ i = .int .i64 j ∧ q = .int .i64 (k + j) ∧ wr.ownsRow B 95 1 (.slice a zs.length cap) zs.length ((mix k zs j).map (Value.int .u32)) ∧ w.grownBy wr (Value.slice a zs.length cap).ownBlock) (fun _ i _ => zs.length - (intOf i).toNat)
  case atStart => exact ⟨0, Nat.zero_le _, rfl, by simp, by have h := ho; unfold Own at h; simpa [mix, iot] using h, ⟨rfl, rfl, rfl, Nat.le_refl _, fun _ _ _ => rfl⟩⟩
  case round =>
    obtain ⟨j, hj, rfl, rfl, hown, hg⟩ := hrel
    by_cases hlt : j < zs.length
    · obtain ⟨g, rfl⟩ : ∃ g, a = some ⟨g, 0, none⟩ := by
        rcases ho.block with ⟨-, -, rfl⟩ | ⟨g, e, -⟩
        · simp at hlt
        · exact ⟨g, e⟩
      have hc : ∃ v0, wr.cell? ⟨g, j, none⟩ = some v0 := by
        rw [hown.cellAt j (by omega)]
        have : j < ((mix k zs j).map (Value.int .u32)).length := by rw [List.length_map, mix_length k zs j hj]; exact hlt
        exact ⟨_, List.getElem?_eq_getElem this⟩
      obtain ⟨v0, hc⟩ := hc
      have hf := hown.frozenAt j
      have hst := hown.stored j (.int .u32 (k + j))
      have HST := hid hst
      clear hst
      go_wp2
      go_roundw
      case rel =>
        refine ⟨j + 1, by omega, by go_num, by go_num, ?_, ?_⟩
        · have h := HST.out.1
          rw [← List.map_set, mix_step k zs j hlt] at h
          exact h
        · have h := HST.out.2
          exact ⟨h.os.trans hg.os, h.tape.trans hg.tape, h.output.trans hg.output, Nat.le_trans hg.size h.size, fun i hi hne => (h.block i (Nat.lt_of_lt_of_le hi hg.size) hne).trans (hg.block i hi hne)⟩
      case measure => simp [intOf]; omega
    · obtain rfl : j = zs.length := by omega
      go_wp2
      go_ret
      refine ⟨rfl, ?_, hg⟩
      unfold Own
      rw [iot_length, ← mix_full k zs]
      exact hown
set_option maxHeartbeats 1000000 in
theorem markW_any (ng : Bool) (a : Option Addr) (cap : Nat) (zs : List Int) (k : Int) (B : Nat) (w : World) (ho : Own w B a cap zs) (hl : zs.length ≤ 1048576) (h0 : 0 ≤ k) (h1 : k ≤ 1073741824) :
    Calls Tryd.prog 15 #[.agg #[.bool ng, .slice a zs.length cap], .int .i64 k] w fun e w' => e = .returned (.int .i64 (k + zs.length)) ∧ Own w' B a cap (iot k zs.length) ∧ w.grownBy w' (Value.slice a zs.length cap).ownBlock := by
  go_enter Tryd.func15, Tryd.ntmps15
  go_wp2_with fail
  refine (markU_any a cap zs k B _ (ho.below ((Below.refl _ _).alloc (Nat.le_refl _) _)) hl h0 h1).mono ?_
  rintro e w1 ⟨rfl, hown, hg⟩
  go_wp2
  go_ret
  refine ⟨rfl, hown, hg.os, hg.tape, hg.output, ?_, fun i hi hne => ?_⟩
  · have := hg.size; simp at this; omega
  · exact (hg.block i (by simp; omega) hne).trans (Below.heap_alloc _ _ _ hi)

/-- What is read back of k, k + 1 and on. -/
def heldR (k : Int) (zs : List Int) : Int := if zs = iot k zs.length then k + zs.length else -1

set_option maxHeartbeats 1000000 in
theorem heldU_any (a : Option Addr) (cap : Nat) (zs : List Int) (k : Int) (w : World) (hs : Sl .u32 w (.slice a zs.length cap) zs) (hz : Nm.Dg zs) (hl : zs.length ≤ 1048576) (h0 : 0 ≤ k) (h1 : k ≤ 1073741824) :
    Calls Tryd.prog 44 #[.slice a zs.length cap, .int .i64 k] w fun e w' => e = .returned (.int .i64 (heldR k zs)) ∧ Below w.heap.size w w' := by
  obtain ⟨-, hx1, hx2, hx3⟩ := hs.cells
  go_enter Tryd.func44, Tryd.ntmps44
  go_wp2
  go_loopw [1, 5] (fun q i wr => ∃ j : Nat, j ≤ zs.length ∧ i = .int .i64 j ∧ q = .int .i64 (k + j) ∧ (∀ i, i < j → zs.getD i 0 = k + i) ∧ Below w.heap.size w wr) (fun _ i _ => zs.length - (intOf i).toNat)
  case atStart => exact ⟨0, Nat.zero_le _, rfl, by simp, fun j hj => absurd hj (Nat.not_lt_zero _), Below.refl _ _⟩
  case round =>
    obtain ⟨j, hj, rfl, rfl, hpre, hb⟩ := hrel
    have PRE := hid hpre
    clear hpre
    by_cases hlt : j < zs.length
    · obtain ⟨b, off, rfl, hcx⟩ := hx3 (by omega)
      have h1' := hcx j hlt
      have h1' : wr.cell? ⟨b, off + j, none⟩ = some (.int .u32 (zs.getD j 0)) := (hb.cell (p := ⟨b, off + j, none⟩) (World.block_lt_of_cell? w _ h1')).trans h1'
      clear hx3 hcx
      have hd := hz.getD j
      obtain ⟨x, hxk⟩ : ∃ x, x = zs.getD j 0 := ⟨_, rfl⟩
      rw [← hxk] at h1' hd
      have HX := hid hxk
      clear hxk
      by_cases hxy : x = k + j
      · have hbe : (x != k + j) = false := by simp [hxy]
        have HXY := hid hxy
        clear hxy
        go_wp2
        go_roundw
        case rel => exact ⟨j + 1, by omega, by go_num, by go_num, fun i hi => by
          by_cases e : i = j
          · subst e; rw [← HX.out]; exact HXY.out
          · exact PRE.out i (by omega), (by repeat (first | exact Below.refl _ _ | refine Below.drew ?_ | refine bel_dn ?_ _ | refine bel_al ?_ _ | refine bel_go ?_ hb | refine Below.setCell ?_ (by first | omega | (simp; done) | (simp; omega)) _ | refine Below.alloc ?_ (by first | omega | (simp; done) | (simp; omega)) _ | refine Below.trans ?_ (Below.mono hb (by first | omega | (simp; done) | (simp; omega)))))⟩
        case measure => simp [intOf]; omega
      · have hbe : (x != k + j) = true := by simp [hxy]
        have HR : Hid (heldR k zs = -1) := hid (by
          unfold heldR; rw [if_neg]; intro e; apply hxy; rw [HX.out, e, iot_getD k zs.length j hlt])
        clear hxy
        go_wp2
        go_ret
        exact ⟨ret_int HR.out.symm, (by repeat (first | exact Below.refl _ _ | refine Below.drew ?_ | refine bel_dn ?_ _ | refine bel_al ?_ _ | refine bel_go ?_ hb | refine Below.setCell ?_ (by first | omega | (simp; done) | (simp; omega)) _ | refine Below.alloc ?_ (by first | omega | (simp; done) | (simp; omega)) _ | refine Below.trans ?_ (Below.mono hb (by first | omega | (simp; done) | (simp; omega)))))⟩
    · obtain rfl : j = zs.length := by omega
      have HR : Hid (heldR k zs = k + zs.length) := hid (by
        unfold heldR; rw [if_pos]
        apply List.ext_getElem (by simp [iot_length])
        intro i hi1 hi2
        have h := PRE.out i hi1
        have h' := iot_getD k zs.length i hi1
        rw [List.getD_eq_getElem?_getD, List.getElem?_eq_getElem hi1] at h
        rw [List.getD_eq_getElem?_getD, List.getElem?_eq_getElem hi2] at h'
        simp at h h'
        rw [h, h'])
      clear hx3
      go_wp2
      go_ret
      exact ⟨ret_int HR.out.symm, hb⟩
theorem heldR_ge (k : Int) (zs : List Int) (h : ¬ heldR k zs < 0) (h0 : 0 ≤ k) : heldR k zs = k + zs.length := by
  unfold heldR at *; split at h
  · rename_i e; rw [if_pos e]
  · omega
theorem heldR_lt (k : Int) (zs : List Int) (h : heldR k zs < 0) (h0 : 0 ≤ k) : heldR k zs = -1 := by
  unfold heldR at *; split at h
  · omega
  · rename_i e; rw [if_neg e]

set_option maxHeartbeats 1000000 in
theorem heldW_any (ng : Bool) (a : Option Addr) (cap : Nat) (zs : List Int) (k : Int) (w : World) (hs : Sl .u32 w (.slice a zs.length cap) zs) (hz : Nm.Dg zs) (hl : zs.length ≤ 1048576) (h0 : 0 ≤ k) (h1 : k ≤ 1073741824) :
    Calls Tryd.prog 16 #[.agg #[.bool ng, .slice a zs.length cap], .int .i64 k] w fun e w' => e = .returned (.int .i64 (heldR k zs)) ∧ Below w.heap.size w w' := by
  by_cases hn : heldR k zs < 0
  · have HN := hid (heldR_lt k zs hn h0)
    go_enter Tryd.func16, Tryd.ntmps16
    go_wp2_with fail
    refine (heldU_any a cap zs k _ (hs.alloc _) hz hl h0 h1).mono ?_
    rintro e w1 ⟨rfl, hb⟩
    go_wp2
    go_ret
    exact ⟨ret_int HN.out.symm, (by repeat (first | exact Below.refl _ _ | refine Below.drew ?_ | refine bel_dn ?_ _ | refine bel_al ?_ _ | refine bel_go ?_ hb | refine Below.setCell ?_ (by first | omega | (simp; done) | (simp; omega)) _ | refine Below.alloc ?_ (by first | omega | (simp; done) | (simp; omega)) _ | refine Below.trans ?_ (Below.mono hb (by first | omega | (simp; done) | (simp; omega)))))⟩
  · go_enter Tryd.func16, Tryd.ntmps16
    go_wp2_with fail
    refine (heldU_any a cap zs k _ (hs.alloc _) hz hl h0 h1).mono ?_
    rintro e w1 ⟨rfl, hb⟩
    go_wp2
    go_ret
    exact ⟨rfl, (by repeat (first | exact Below.refl _ _ | refine Below.drew ?_ | refine bel_dn ?_ _ | refine bel_al ?_ _ | refine bel_go ?_ hb | refine Below.setCell ?_ (by first | omega | (simp; done) | (simp; omega)) _ | refine Below.alloc ?_ (by first | omega | (simp; done) | (simp; omega)) _ | refine Below.trans ?_ (Below.mono hb (by first | omega | (simp; done) | (simp; omega)))))⟩
end Go.Proofs.YtdjfajjlmjkpdaaDoor
