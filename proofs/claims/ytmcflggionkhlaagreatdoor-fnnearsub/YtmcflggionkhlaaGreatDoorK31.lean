/-
  What is needed of FJ, AccC, VecA, AccI.
-/
import Derived.LoopN
import Derived.Test.YtmcflggionkhlaaGreatDoorK27
set_option maxHeartbeats 16000000
set_option maxRecDepth 1000000
namespace Go.Proofs.YtmcflggionkhlaaGreatDoor
set_option linter.unusedVariables false
set_option linter.unusedSimpArgs false
open Go.RowKit Go.Deep
namespace Fd
theorem ab32 {x : Int} (h0 : 0 ≤ x) (h1 : x < 4294967296) : absF 32 x = if x < 2147483648 then x else x - 2147483648 := by
  rw [abs32 h1]; split <;> omega
theorem od32 {x : Int} (h0 : 0 ≤ x) (h1 : x < 4294967296) : ordI 32 x = if x < 2147483648 then x else 2147483648 - 1 - x := by
  have ha := ab32 h0 h1
  unfold ordI
  rw [okF32 h1, if_pos rfl]
  unfold sigB
  rw [ha]
  by_cases h : x < 2147483648
  · rw [if_pos h, if_pos h]; simp
  · rw [if_neg h, if_neg h]
    have : (x != x - 2147483648) = true := by simp; omega
    rw [this, if_pos rfl]; omega
theorem fi32 {x : Int} (h0 : 0 ≤ x) (h1 : x < 4294967296) (hc : cls 32 x = 1 ∨ cls 32 x = 2) : 0 < x % 2147483648 ∧ x % 2147483648 < 2139095040 := by
  rw [cls32 h1] at hc
  unfold clsY at hc
  split at hc
  · omega
  · split at hc
    · omega
    · split at hc
      · omega
      · split at hc
        · omega
        · split at hc <;> omega
theorem cz32 {x : Int} (h0 : 0 ≤ x) (h1 : x < 4294967296) (h : x % 2147483648 ≤ 2139095040) : numB 32 x = true ∧ ((cls 32 x == 0) = decide (x % 2147483648 = 0)) := by
  have hc : cls 32 x = clsY 8388608 2139095040 4194304 (x % 2147483648) := by rw [cls32 h1]
  unfold numB
  rw [hc]
  unfold clsY
  constructor
  · apply decide_eq_true
    split
    · omega
    · split
      · omega
      · split
        · omega
        · split
          · omega
          · omega
  · by_cases h2 : x % 2147483648 = 0
    · rw [if_pos h2, decide_eq_true h2]; rfl
    · rw [if_neg h2, decide_eq_false h2]
      split
      · rfl
      · split
        · rfl
        · split
          · rfl
          · split <;> rfl
theorem up32 {x : Int} (h0 : 0 ≤ x) (h1 : x < 4294967296) (hy : 0 < x % 2147483648 ∧ x % 2147483648 < 2139095040) : upF 32 x = if x < 2147483648 then x + 1 else x - 1 := by
  have ha := ab32 h0 h1
  have hn : nanB 32 x = false := by unfold nanB; apply decide_eq_false; rw [ha]; show ¬ 2139095040 < _; split <;> omega
  have hz : (absF 32 x == 0) = false := by rw [ha]; simp; split <;> omega
  by_cases h : x < 2147483648
  · have hs : sigB 32 x = false := by unfold sigB; rw [ha, if_pos h]; simp
    have hi : (x == infOf 32) = false := by show (x == 2139095040) = false; simp; omega
    rw [up_pos (okF32 h1) hn hz hs hi, if_pos h]
  · have hs : sigB 32 x = true := by unfold sigB; rw [ha, if_neg h]; simp; omega
    rw [up_neg (okF32 h1) hn hz hs, if_neg h]
theorem dn32 {x : Int} (h0 : 0 ≤ x) (h1 : x < 4294967296) (hy : 0 < x % 2147483648 ∧ x % 2147483648 < 2139095040) : downF 32 x = if x < 2147483648 then x - 1 else x + 1 := by
  rw [down_num (cz32 h0 h1 (by omega)).1, neg32 h1]
  by_cases h : x < 2147483648
  · rw [if_pos h, up32 (x := x + 2147483648) (by omega) (by omega) (by omega), if_neg (by omega), neg32 (x := x + 2147483648 - 1) (by omega), if_neg (by omega), if_pos h]; omega
  · rw [if_neg h, up32 (x := x - 2147483648) (by omega) (by omega) (by omega), if_pos (by omega), neg32 (x := x - 2147483648 + 1) (by omega), if_pos (by omega), if_neg h]; omega
/-- All that the law asks of a finite float that is no zero. -/
theorem nx32 {x : Int} (h0 : 0 ≤ x) (h1 : x < 4294967296) (hc : cls 32 x = 1 ∨ cls 32 x = 2) (u d : Int) (hu : u = upF 32 x) (hd : d = downF 32 x) :
    (0 ≤ u ∧ u < 4294967296) ∧ (0 ≤ d ∧ d < 4294967296) ∧ ordI 32 u = ordI 32 x + 1 ∧ ordI 32 d = ordI 32 x - 1 ∧ (-18446744073709551616 < ordI 32 x ∧ -9223372036854775807 < ordI 32 x ∧ ordI 32 x < 9223372036854775807) ∧ cmpF 32 d x = -1 ∧ cmpF 32 x u = -1 ∧ ((cls 32 u == 0) = false → (cls 32 d == 0) = false → upF 32 d = x ∧ downF 32 u = x) := by
  have hy := fi32 h0 h1 hc
  have eu := up32 h0 h1 hy
  have ed := dn32 h0 h1 hy
  rw [← hu] at eu
  rw [← hd] at ed
  have hxz : (cls 32 x == 0) = false := by rcases hc with h | h <;> rw [h] <;> rfl
  have nx := (cz32 h0 h1 (by omega)).1
  have ox := od32 h0 h1
  by_cases h : x < 2147483648
  · rw [if_pos h] at eu ed ox
    have ru : 0 ≤ u ∧ u < 2147483648 := by omega
    have rd : 0 ≤ d ∧ d < 2147483648 := by omega
    have ou := od32 (x := u) (by omega) (by omega)
    have od := od32 (x := d) (by omega) (by omega)
    rw [if_pos (by omega)] at ou od
    have nu := cz32 (x := u) (by omega) (by omega) (by omega)
    have nd := cz32 (x := d) (by omega) (by omega) (by omega)
    refine ⟨by omega, by omega, by omega, by omega, by omega, ?_, ?_, fun q1 q2 => ⟨?_, ?_⟩⟩
    · rw [cmp_else nd.1 nx (by rw [hxz]; simp)]; unfold cmpI; rw [if_pos (by omega)]
    · rw [cmp_else nx nu.1 (by rw [hxz]; simp)]; unfold cmpI; rw [if_pos (by omega)]
    · rw [nd.2] at q2
      have := of_decide_eq_false q2
      rw [up32 (x := d) (by omega) (by omega) (by omega), if_pos (by omega)]; omega
    · by_cases hi : u = 2139095040
      · rw [hi]
        have e : downF 32 2139095040 = 2139095040 - 1 := by decide +kernel
        rw [e]; omega
      · rw [dn32 (x := u) (by omega) (by omega) (by omega), if_pos (by omega)]; omega
  · rw [if_neg h] at eu ed ox
    have ru : 2147483648 ≤ u ∧ u < 4294967296 := by omega
    have rd : 2147483648 ≤ d ∧ d < 4294967296 := by omega
    have ou := od32 (x := u) (by omega) (by omega)
    have od := od32 (x := d) (by omega) (by omega)
    rw [if_neg (by omega)] at ou od
    have nu := cz32 (x := u) (by omega) (by omega) (by omega)
    have nd := cz32 (x := d) (by omega) (by omega) (by omega)
    refine ⟨by omega, by omega, by omega, by omega, by omega, ?_, ?_, fun q1 q2 => ⟨?_, ?_⟩⟩
    · rw [cmp_else nd.1 nx (by rw [hxz]; simp)]; unfold cmpI; rw [if_pos (by omega)]
    · rw [cmp_else nx nu.1 (by rw [hxz]; simp)]; unfold cmpI; rw [if_pos (by omega)]
    · by_cases hi : d = 2147483648 + 2139095040
      · rw [hi]
        have e : upF 32 (2147483648 + 2139095040) = 2147483648 + 2139095040 - 1 := by decide +kernel
        rw [e]; omega
      · rw [up32 (x := d) (by omega) (by omega) (by omega), if_neg (by omega)]; omega
    · rw [nu.2] at q1
      have := of_decide_eq_false q1
      rw [dn32 (x := u) (by omega) (by omega) (by omega), if_neg (by omega)]; omega
theorem ab64 {x : Int} (h0 : 0 ≤ x) (h1 : x < 18446744073709551616) : absF 64 x = if x < 9223372036854775808 then x else x - 9223372036854775808 := by
  rw [abs64]; split <;> omega
theorem od64 {x : Int} (h0 : 0 ≤ x) (h1 : x < 18446744073709551616) : ordI 64 x = if x < 9223372036854775808 then x else 9223372036854775808 - 1 - x := by
  have ha := ab64 h0 h1
  unfold ordI
  rw [okF64, if_pos rfl]
  unfold sigB
  rw [ha]
  by_cases h : x < 9223372036854775808
  · rw [if_pos h, if_pos h]; simp
  · rw [if_neg h, if_neg h]
    have : (x != x - 9223372036854775808) = true := by simp; omega
    rw [this, if_pos rfl]; omega
theorem fi64 {x : Int} (h0 : 0 ≤ x) (h1 : x < 18446744073709551616) (hc : cls 64 x = 1 ∨ cls 64 x = 2) : 0 < x % 9223372036854775808 ∧ x % 9223372036854775808 < 9218868437227405312 := by
  rw [cls64] at hc
  unfold clsY at hc
  split at hc
  · omega
  · split at hc
    · omega
    · split at hc
      · omega
      · split at hc
        · omega
        · split at hc <;> omega
theorem cz64 {x : Int} (h0 : 0 ≤ x) (h1 : x < 18446744073709551616) (h : x % 9223372036854775808 ≤ 9218868437227405312) : numB 64 x = true ∧ ((cls 64 x == 0) = decide (x % 9223372036854775808 = 0)) := by
  have hc : cls 64 x = clsY 4503599627370496 9218868437227405312 2251799813685248 (x % 9223372036854775808) := by rw [cls64]
  unfold numB
  rw [hc]
  unfold clsY
  constructor
  · apply decide_eq_true
    split
    · omega
    · split
      · omega
      · split
        · omega
        · split
          · omega
          · omega
  · by_cases h2 : x % 9223372036854775808 = 0
    · rw [if_pos h2, decide_eq_true h2]; rfl
    · rw [if_neg h2, decide_eq_false h2]
      split
      · rfl
      · split
        · rfl
        · split
          · rfl
          · split <;> rfl
theorem up64 {x : Int} (h0 : 0 ≤ x) (h1 : x < 18446744073709551616) (hy : 0 < x % 9223372036854775808 ∧ x % 9223372036854775808 < 9218868437227405312) : upF 64 x = if x < 9223372036854775808 then x + 1 else x - 1 := by
  have ha := ab64 h0 h1
  have hn : nanB 64 x = false := by unfold nanB; apply decide_eq_false; rw [ha]; show ¬ 9218868437227405312 < _; split <;> omega
  have hz : (absF 64 x == 0) = false := by rw [ha]; simp; split <;> omega
  by_cases h : x < 9223372036854775808
  · have hs : sigB 64 x = false := by unfold sigB; rw [ha, if_pos h]; simp
    have hi : (x == infOf 64) = false := by show (x == 9218868437227405312) = false; simp; omega
    rw [up_pos (okF64) hn hz hs hi, if_pos h]
  · have hs : sigB 64 x = true := by unfold sigB; rw [ha, if_neg h]; simp; omega
    rw [up_neg (okF64) hn hz hs, if_neg h]
theorem dn64 {x : Int} (h0 : 0 ≤ x) (h1 : x < 18446744073709551616) (hy : 0 < x % 9223372036854775808 ∧ x % 9223372036854775808 < 9218868437227405312) : downF 64 x = if x < 9223372036854775808 then x - 1 else x + 1 := by
  rw [down_num (cz64 h0 h1 (by omega)).1, neg64 (x := x)]
  by_cases h : x < 9223372036854775808
  · rw [if_pos h, up64 (x := x + 9223372036854775808) (by omega) (by omega) (by omega), if_neg (by omega), neg64 (x := x + 9223372036854775808 - 1), if_neg (by omega), if_pos h]; omega
  · rw [if_neg h, up64 (x := x - 9223372036854775808) (by omega) (by omega) (by omega), if_pos (by omega), neg64 (x := x - 9223372036854775808 + 1), if_pos (by omega), if_neg h]; omega
/-- All that the law asks of a finite float that is no zero. -/
theorem nx64 {x : Int} (h0 : 0 ≤ x) (h1 : x < 18446744073709551616) (hc : cls 64 x = 1 ∨ cls 64 x = 2) (u d : Int) (hu : u = upF 64 x) (hd : d = downF 64 x) :
    (0 ≤ u ∧ u < 18446744073709551616) ∧ (0 ≤ d ∧ d < 18446744073709551616) ∧ ordI 64 u = ordI 64 x + 1 ∧ ordI 64 d = ordI 64 x - 1 ∧ (-18446744073709551616 < ordI 64 x ∧ -9223372036854775807 < ordI 64 x ∧ ordI 64 x < 9223372036854775807) ∧ cmpF 64 d x = -1 ∧ cmpF 64 x u = -1 ∧ ((cls 64 u == 0) = false → (cls 64 d == 0) = false → upF 64 d = x ∧ downF 64 u = x) := by
  have hy := fi64 h0 h1 hc
  have eu := up64 h0 h1 hy
  have ed := dn64 h0 h1 hy
  rw [← hu] at eu
  rw [← hd] at ed
  have hxz : (cls 64 x == 0) = false := by rcases hc with h | h <;> rw [h] <;> rfl
  have nx := (cz64 h0 h1 (by omega)).1
  have ox := od64 h0 h1
  by_cases h : x < 9223372036854775808
  · rw [if_pos h] at eu ed ox
    have ru : 0 ≤ u ∧ u < 9223372036854775808 := by omega
    have rd : 0 ≤ d ∧ d < 9223372036854775808 := by omega
    have ou := od64 (x := u) (by omega) (by omega)
    have od := od64 (x := d) (by omega) (by omega)
    rw [if_pos (by omega)] at ou od
    have nu := cz64 (x := u) (by omega) (by omega) (by omega)
    have nd := cz64 (x := d) (by omega) (by omega) (by omega)
    refine ⟨by omega, by omega, by omega, by omega, by omega, ?_, ?_, fun q1 q2 => ⟨?_, ?_⟩⟩
    · rw [cmp_else nd.1 nx (by rw [hxz]; simp)]; unfold cmpI; rw [if_pos (by omega)]
    · rw [cmp_else nx nu.1 (by rw [hxz]; simp)]; unfold cmpI; rw [if_pos (by omega)]
    · rw [nd.2] at q2
      have := of_decide_eq_false q2
      rw [up64 (x := d) (by omega) (by omega) (by omega), if_pos (by omega)]; omega
    · by_cases hi : u = 9218868437227405312
      · rw [hi]
        have e : downF 64 9218868437227405312 = 9218868437227405312 - 1 := by decide +kernel
        rw [e]; omega
      · rw [dn64 (x := u) (by omega) (by omega) (by omega), if_pos (by omega)]; omega
  · rw [if_neg h] at eu ed ox
    have ru : 9223372036854775808 ≤ u ∧ u < 18446744073709551616 := by omega
    have rd : 9223372036854775808 ≤ d ∧ d < 18446744073709551616 := by omega
    have ou := od64 (x := u) (by omega) (by omega)
    have od := od64 (x := d) (by omega) (by omega)
    rw [if_neg (by omega)] at ou od
    have nu := cz64 (x := u) (by omega) (by omega) (by omega)
    have nd := cz64 (x := d) (by omega) (by omega) (by omega)
    refine ⟨by omega, by omega, by omega, by omega, by omega, ?_, ?_, fun q1 q2 => ⟨?_, ?_⟩⟩
    · rw [cmp_else nd.1 nx (by rw [hxz]; simp)]; unfold cmpI; rw [if_pos (by omega)]
    · rw [cmp_else nx nu.1 (by rw [hxz]; simp)]; unfold cmpI; rw [if_pos (by omega)]
    · by_cases hi : d = 9223372036854775808 + 9218868437227405312
      · rw [hi]
        have e : upF 64 (9223372036854775808 + 9218868437227405312) = 9223372036854775808 + 9218868437227405312 - 1 := by decide +kernel
        rw [e]; omega
      · rw [up64 (x := d) (by omega) (by omega) (by omega), if_neg (by omega)]; omega
    · rw [nu.2] at q1
      have := of_decide_eq_false q1
      rw [dn64 (x := u) (by omega) (by omega) (by omega), if_neg (by omega)]; omega
end Fd
/-- How far from 0 a sum of T terms may be. -/
def far (fm T : Int) : Nat := Nm.sh T.toNat (if fm = 32 then 554 else 4196)
/-- Numbers of 64 bits. -/
def D64 (xs : List Int) : Prop := ∀ x ∈ xs, 0 ≤ x ∧ x < 18446744073709551616
theorem D64.getD {xs : List Int} (h : D64 xs) (k : Nat) : 0 ≤ xs.getD k 0 ∧ xs.getD k 0 < 18446744073709551616 := by
  rw [List.getD_eq_getElem?_getD]
  by_cases hk : k < xs.length
  · rw [List.getElem?_eq_getElem hk]; exact h _ (List.getElem_mem hk)
  · rw [List.getElem?_eq_none (by omega)]; decide
/-- Whether all are floats of the format. -/
def allB (fm : Int) (xs : List Int) : Bool := xs.all (fun x => okF fm x)
theorem allB_yes {fm : Int} {xs : List Int} (h : ∀ j, j < xs.length → okF fm (xs.getD j 0) = true) : allB fm xs = true := by
  unfold allB
  rw [List.all_eq_true]
  intro x hx
  obtain ⟨j, hj, rfl⟩ := List.getElem_of_mem hx
  have := h j hj
  rwa [List.getD_eq_getElem?_getD, List.getElem?_eq_getElem hj] at this
theorem allB_no {fm : Int} {xs : List Int} {j : Nat} (hj : j < xs.length) (h : okF fm (xs.getD j 0) = false) : allB fm xs = false := by
  cases h' : allB fm xs
  · rfl
  · unfold allB at h'
    rw [List.all_eq_true] at h'
    have := h' _ (List.getElem_mem hj)
    rw [List.getD_eq_getElem?_getD, List.getElem?_eq_getElem hj] at h
    simp at h this
    rw [h] at this; exact absurd this (by decide)
theorem allf_impl (fm : Int) (a : Option Addr) (cap : Nat) (xs : List Int) (w : World) (hT : Tab w) (hx : Sl .u64 w (.slice a xs.length cap) xs) (dx : D64 xs) (hl : xs.length ≤ 1048576) :
    Calls Tryz.prog 158 #[.int .i64 fm, .slice a xs.length cap] w fun e w' => e = .returned (.bool (allB fm xs)) ∧ Below w.heap.size w w' := by
  obtain ⟨-, hx1, hx2, hx3⟩ := hx.cells
  have CO := hid (fun k w' h => impl_ok fm (xs.getD k 0) w' h (dx.getD k).1 (dx.getD k).2)
  have DX := hid dx
  clear dx
  go_enter Tryz.func158, Tryz.ntmps158
  go_wp2
  go_loopw [9] (fun i wr => ∃ k : Nat, k ≤ xs.length ∧ i = .int .i64 k ∧ (∀ j, j < k → okF fm (xs.getD j 0) = true) ∧ Below w.heap.size w wr) (fun i _ => xs.length - (intOf i).toNat)
  case atStart => exact ⟨0, Nat.zero_le _, rfl, fun j hj => absurd hj (Nat.not_lt_zero _), Below.refl _ _⟩
  case round =>
    obtain ⟨k, hk, rfl, hpre, hb⟩ := hrel
    have PRE := hid hpre
    clear hpre
    by_cases hlt : k < xs.length
    · obtain ⟨b, off, rfl, hcx⟩ := hx3 (by omega)
      have h1 := hcx k hlt
      have h1 : wr.cell? ⟨b, off + k, none⟩ = some (.int .u64 (xs.getD k 0)) := (hb.cell (p := ⟨b, off + k, none⟩) (World.block_lt_of_cell? w _ h1)).trans h1
      clear hx3 hcx
      have C := hid (fun w' h => CO.out k w' h)
      have HNO := hid (allB_no (fm := fm) hlt)
      have PRE2 : Hid (okF fm (xs.getD k 0) = true → ∀ j, j < k + 1 → okF fm (xs.getD j 0) = true) := hid (fun h j hj => by
        by_cases e : j = k
        · subst e; exact h
        · exact PRE.out j (by omega))
      obtain ⟨x, hxk⟩ : ∃ x, x = xs.getD k 0 := ⟨_, rfl⟩
      obtain ⟨o, hok⟩ : ∃ o, o = okF fm x := ⟨_, rfl⟩
      rw [← hxk] at h1 C HNO
      rw [← hok] at C HNO
      have PRE2 : Hid (o = true → ∀ j, j < k + 1 → okF fm (xs.getD j 0) = true) := hid (fun h => PRE2.out (by rw [← hxk, ← hok]; exact h))
      clear hxk hok CO PRE
      cases o with
      | true =>
        have PRE3 := hid (PRE2.out rfl)
        clear PRE2 HNO
        go_wp2_with fail
        refine (C.out _ (hT.below hb)).mono ?_
        rintro e w1 ⟨rfl, hb1⟩
        go_wp2
        go_roundw
        case rel => exact ⟨k + 1, by omega, by go_num, PRE3.out, bel_go hb hb1⟩
        case measure => simp [intOf]; omega
      | false =>
        have HN2 := hid (HNO.out rfl)
        clear PRE2 HNO
        go_wp2_with fail
        refine (C.out _ (hT.below hb)).mono ?_
        rintro e w1 ⟨rfl, hb1⟩
        go_wp2
        go_ret
        exact ⟨ret_bool HN2.out.symm, bel_go hb hb1⟩
    · obtain rfl : k = xs.length := by omega
      have HY := hid (allB_yes PRE.out)
      clear hx3 CO PRE
      go_wp2
      go_ret
      exact ⟨ret_bool HY.out.symm, hb⟩
theorem nanS32 (w : World) :
    Calls Tryz.prog 92 #[.int .i64 32] w fun e w' => e = .returned (.int .u64 2143289344) ∧ Below w.heap.size w w' := by
  go_enter Tryz.func92, Tryz.ntmps92
  go_wp2
  go_ret
  exact ⟨rfl, (by repeat (first | exact bz0 _ _ | refine bz1 ?_ | refine bz2 ?_ _ | refine bz3 ?_ _ | refine bz5 ?_ _ | refine bz6 ?_ _))⟩
theorem infS32 (w : World) :
    Calls Tryz.prog 96 #[.int .i64 32] w fun e w' => e = .returned (.int .u64 2139095040) ∧ Below w.heap.size w w' := by
  go_enter Tryz.func96, Tryz.ntmps96
  go_wp2
  go_ret
  exact ⟨rfl, (by repeat (first | exact bz0 _ _ | refine bz1 ?_ | refine bz2 ?_ _ | refine bz3 ?_ _ | refine bz5 ?_ _ | refine bz6 ?_ _))⟩
theorem l3r_at32 (mode : Int) (ng : Bool) (zs : List Int) (e : Int) (p : Option Addr) (cap : Nat) (w : World) (hs : Sl .u32 w (.slice p zs.length cap) zs) (hz : Nm.Dg zs) (h0 : zs.length ≠ 0) (ho : RdO 32 mode ng zs e = true) :
    Calls Tryz.prog 103 #[.int .i64 32, .int .i64 mode, .agg #[.bool ng, .slice p zs.length cap], .int .i64 e] w fun x w' => x = .returned (.tuple #[.int .u64 (RdB 32 mode ng zs e), .int .i64 (RdF 32 mode ng zs e)]) ∧ Below w.heap.size w w' := by
  have hk := ho
  unfold RdO at hk
  simp only [Bool.and_eq_true] at hk
  obtain ⟨⟨⟨k1, k2⟩, k3⟩, k4⟩ := hk
  have k5 := inZ_yes k4
  obtain ⟨hzl, hbl⟩ := lim_ok hz k3
  have ha : (Nm.val zs).toNat ≠ 0 := by
    intro h; rw [h, Nm.lim_zero] at hzl; rw [hzl] at h0; exact h0 rfl
  have hB : RdB 32 mode ng zs e = rdB 24 (-149) 2139095040 2147483648 mode ng (Nm.val zs).toNat e := by unfold RdB; rw [ho, if_pos rfl, if_neg h0]; rfl
  have hF : RdF 32 mode ng zs e = rdF 24 (-149) 2139095040 mode ng (Nm.val zs).toNat e := by unfold RdF; rw [ho, if_pos rfl, if_neg h0]; rfl
  rw [hB, hF]
  obtain ⟨a, haz⟩ : ∃ a, a = (Nm.val zs).toNat := ⟨_, rfl⟩
  rw [← haz] at hzl hbl ha ⊢
  clear hB hF haz ho k3 hz h0
  subst hzl
  exact l3r_32 mode ng a e p cap w hs k2 ha (by omega) (by omega) (by omega)
theorem nanS64 (w : World) :
    Calls Tryz.prog 92 #[.int .i64 64] w fun e w' => e = .returned (.int .u64 9221120237041090560) ∧ Below w.heap.size w w' := by
  go_enter Tryz.func92, Tryz.ntmps92
  go_wp2
  go_ret
  exact ⟨rfl, (by repeat (first | exact bz0 _ _ | refine bz1 ?_ | refine bz2 ?_ _ | refine bz3 ?_ _ | refine bz5 ?_ _ | refine bz6 ?_ _))⟩
theorem infS64 (w : World) :
    Calls Tryz.prog 96 #[.int .i64 64] w fun e w' => e = .returned (.int .u64 9218868437227405312) ∧ Below w.heap.size w w' := by
  go_enter Tryz.func96, Tryz.ntmps96
  go_wp2
  go_ret
  exact ⟨rfl, (by repeat (first | exact bz0 _ _ | refine bz1 ?_ | refine bz2 ?_ _ | refine bz3 ?_ _ | refine bz5 ?_ _ | refine bz6 ?_ _))⟩
theorem l3r_at64 (mode : Int) (ng : Bool) (zs : List Int) (e : Int) (p : Option Addr) (cap : Nat) (w : World) (hs : Sl .u32 w (.slice p zs.length cap) zs) (hz : Nm.Dg zs) (h0 : zs.length ≠ 0) (ho : RdO 64 mode ng zs e = true) :
    Calls Tryz.prog 103 #[.int .i64 64, .int .i64 mode, .agg #[.bool ng, .slice p zs.length cap], .int .i64 e] w fun x w' => x = .returned (.tuple #[.int .u64 (RdB 64 mode ng zs e), .int .i64 (RdF 64 mode ng zs e)]) ∧ Below w.heap.size w w' := by
  have hk := ho
  unfold RdO at hk
  simp only [Bool.and_eq_true] at hk
  obtain ⟨⟨⟨k1, k2⟩, k3⟩, k4⟩ := hk
  have k5 := inZ_yes k4
  obtain ⟨hzl, hbl⟩ := lim_ok hz k3
  have ha : (Nm.val zs).toNat ≠ 0 := by
    intro h; rw [h, Nm.lim_zero] at hzl; rw [hzl] at h0; exact h0 rfl
  have hB : RdB 64 mode ng zs e = rdB 53 (-1074) 9218868437227405312 9223372036854775808 mode ng (Nm.val zs).toNat e := by unfold RdB; rw [ho, if_pos rfl, if_neg h0]; rfl
  have hF : RdF 64 mode ng zs e = rdF 53 (-1074) 9218868437227405312 mode ng (Nm.val zs).toNat e := by unfold RdF; rw [ho, if_pos rfl, if_neg h0]; rfl
  rw [hB, hF]
  obtain ⟨a, haz⟩ : ∃ a, a = (Nm.val zs).toNat := ⟨_, rfl⟩
  rw [← haz] at hzl hbl ha ⊢
  clear hB hF haz ho k3 hz h0
  subst hzl
  exact l3r_64 mode ng a e p cap w hs k2 ha (by omega) (by omega) (by omega)
end Go.Proofs.YtmcflggionkhlaaGreatDoor
