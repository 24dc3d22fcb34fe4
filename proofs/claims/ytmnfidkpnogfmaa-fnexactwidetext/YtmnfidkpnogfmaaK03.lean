/-
  What is needed of LawsA.
-/
import Derived.Test.YtmnfidkpnogfmaaK01
set_option maxHeartbeats 16000000
set_option maxRecDepth 1000000
namespace Go.Proofs.Ytmnfidkpnogfmaa
set_option linter.unusedVariables false
set_option linter.unusedSimpArgs false
open Go.RowKit Go.Deep
/-- What is left of 'left' behind so many values; -1 when there are too many. -/
def szR (left : Int) (len : Nat) : Int := if left < len then -1 else left - len

theorem szU_any (a : Option Addr) (len cap : Nat) (left : Int) (w : World) (hl : len ≤ 9223372036854775807) (h0 : 0 ≤ left) (h1 : left ≤ 1048576) :
    Calls Try.prog 92 #[.slice a len cap, .int .i64 left] w fun e w' => e = .returned (.int .i64 (szR left len)) ∧ w' = w := by
  by_cases h : left < len
  · have hr : -1 = szR left len := by unfold szR; rw [if_pos h]
    go_enter Try.func92, Try.ntmps92
    go_wp2
    go_ret
    exact ⟨ret_int hr, rfl⟩
  · have hr : left - len = szR left len := by unfold szR; rw [if_neg h]
    have H : Hid (left - len = szR left len) := hr
    clear hr
    go_enter Try.func92, Try.ntmps92
    go_wp2
    go_ret
    exact ⟨ret_int H.out, rfl⟩

theorem szW_any (b : Bool) (a : Option Addr) (len cap : Nat) (left : Int) (w : World) (hl : len ≤ 9223372036854775807) (h0 : 0 ≤ left) (h1 : left ≤ 1048576) :
    Calls Try.prog 39 #[.agg #[.bool b, .slice a len cap], .int .i64 left] w fun e w' => e = .returned (.int .i64 (szR left len)) ∧ Below w.heap.size w w' := by
  by_cases h : szR left len < 0
  · have hr : szR left len = -1 := by unfold szR at *; split at h <;> rename_i hc <;> simp only [hc, if_true, if_false] <;> omega
    have H : Hid (szR left len = -1) := hr
    clear hr
    go_enter Try.func39, Try.ntmps39
    go_wp2_with (go_at_call 92; refine (szU_any _ _ _ _ _ (by omega) (by omega) (by omega)).mono ?_; rintro e w' ⟨rfl, rfl⟩)
    go_ret
    exact ⟨ret_int H.out.symm, (Below.refl _ _).alloc (Nat.le_refl _) _⟩
  · go_enter Try.func39, Try.ntmps39
    go_wp2_with (go_at_call 92; refine (szU_any _ _ _ _ _ (by omega) (by omega) (by omega)).mono ?_; rintro e w' ⟨rfl, rfl⟩)
    go_ret
    exact ⟨rfl, (Below.refl _ _).alloc (Nat.le_refl _) _⟩

theorem info32 : (Try.prog.info? 121).map (fun i => (i.zero, i.size, i.bytes)) = some (some (.int .u32 0), 1, 4) := by kernel_rfl

/-- k limbs are copied. -/
def cop (zs : List Int) (k : Nat) : Nat → Value := fun i => if i < k then .int .u32 (zs.getD i 0) else .int .u32 0

theorem cop_step {w : World} {b : Nat} {t : TypeId} {zs : List Int} {k : Nat} {u : Int} (h : w.rowIs b t zs.length (cop zs k)) (hu : u = zs.getD k 0) : (w.setCell ⟨b, k, none⟩ (.int .u32 u)).rowIs b t zs.length (cop zs (k + 1)) :=
  (h.set k _).congr fun i _ => by
    subst hu
    unfold cop
    by_cases e : i = k
    · subst e; simp
    · rw [if_neg e]
      by_cases hlt : i < k
      · rw [if_pos hlt, if_pos (by omega)]
      · rw [if_neg hlt, if_neg (by omega)]

theorem toU_any (v : Value) (zs : List Int) (w : World) (hs : Sl .u32 w v zs) (hl : zs.length ≤ 1048576) :
    Calls Try.prog 94 #[v] w fun e w' => ∃ a' c', e = .returned (.slice a' zs.length c') ∧ Own w' w.heap.size a' c' zs ∧ Below w.heap.size w w' := by
  obtain ⟨a, cap, rfl, hc1, hc2, hz⟩ := hs
  have hmk := run_make_row' (P := Try.prog) 60 121 (.int .u32 0) 4 Try.underlying60 info32 rfl .i64 .i64 zs.length (by omega) (by omega)
  go_enter Try.func94, Try.ntmps94
  go_wp2
  go_loopw [4] (fun i wr => ∃ k : Nat, k ≤ zs.length ∧ i = .int .i64 k ∧ wr.rowIs w.heap.size 121 zs.length (cop zs k) ∧ Below w.heap.size w wr) (fun i _ => zs.length - (intOf i).toNat)
  case atStart => exact ⟨0, Nat.zero_le _, rfl, (World.rowIs_made w _ zs.length 121).congr (fun j _ => by simp [cop]), (Below.refl _ _).alloc (Nat.le_refl _) _⟩
  case round =>
    obtain ⟨k, hk, rfl, hrow, hb⟩ := hrel
    by_cases hlt : k < zs.length
    · obtain ⟨b, off, rfl, hcell⟩ : ∃ b off, a = some ⟨b, off, none⟩ ∧ ∀ i, i < zs.length → w.cell? ⟨b, off + i, none⟩ = some (.int .u32 (zs.getD i 0)) := by
        rcases hz with rfl | hz
        · simp at hlt
        · exact hz
      have hc0 := hcell k hlt
      have hc : wr.cell? ⟨b, off + k, none⟩ = some (.int .u32 (zs.getD k 0)) := (hb.cell (p := ⟨b, off + k, none⟩) (World.block_lt_of_cell? w _ hc0)).trans hc0
      have hold := hrow.cell hlt
      have hfr := hrow.frozen k
      clear hz hcell hc0
      go_wp2
      go_roundw
      case rel => exact ⟨k + 1, by omega, by go_num, cop_step hrow (by simp [hlt]), hb.setCell (Nat.le_refl _) _⟩
      case measure => simp [intOf]; omega
    · obtain rfl : k = zs.length := by omega
      clear hz
      go_wp2
      go_ret
      exact ⟨_, _, rfl, Own.of_row hrow (fun i hi => by simp [cop, hi]) (Nat.le_refl _) (by unfold maxLen; omega), hb⟩
theorem toW_any (ng : Bool) (v : Value) (zs : List Int) (w : World) (hs : Sl .u32 w v zs) (hl : zs.length ≤ 1048576) :
    Calls Try.prog 41 #[.agg #[.bool ng, v]] w fun e w' => ∃ a' c', e = .returned (.agg #[.bool ng, .slice a' zs.length c']) ∧ Own w' w.heap.size a' c' zs ∧ Below w.heap.size w w' := by
  go_enter Try.func41, Try.ntmps41
  go_wp2_with fail
  refine (toU_any v zs _ (((hs.alloc _).alloc _).alloc _) hl).mono ?_
  rintro e w1 ⟨a', c', rfl, hown, hb⟩
  obtain ⟨hc, hf⟩ := bcell hb
  have hz : w.heap.size + 1 + 1 + 1 ≤ w1.heap.size := by have := hb.size; simp at this; omega
  go_wp2
  have ho : Own w1 (w.heap.size + 1 + 1 + 1) a' c' zs := by simpa using hown
  refine bodyPost_ret (v := .agg #[.bool ng, .slice a' zs.length c']) (by simp [results, Try.results41, go_sem, hc]) rfl ⟨a', c', rfl, ?_, ?_⟩
  · exact (((ho.setBelow (by simp) _).setBelow (by simp) _).setBelow (by simp) _).base (by omega)
  · exact (by repeat (first | exact bz0 _ _ | refine bz1 ?_ | refine bz2 ?_ _ | refine bz3 ?_ _ | refine bz4 ?_ hb | refine bz5 ?_ _ | refine bz6 ?_ _ | refine bz7 ?_ hb))
/-- Whether a wide of these limbs is right. -/
def okB (ng : Bool) (zs : List Int) : Bool := if zs.length = 0 then !ng else decide (zs.length ≤ 200) && !decide (zs.getD (zs.length - 1) 0 = 0)

theorem ok_impl (ng : Bool) (a : Option Addr) (cap : Nat) (zs : List Int) (w : World) (hs : Sl .u32 w (.slice a zs.length cap) zs) (hl : zs.length ≤ 140737488355328) :
    Calls Try.prog 52 #[.agg #[.bool ng, .slice a zs.length cap]] w fun e w' => e = .returned (.bool (okB ng zs)) ∧ Below w.heap.size w w' := by
  obtain ⟨a0, cap0, he, hc1, hc2, hz⟩ := hs
  simp at he; obtain ⟨rfl, rfl⟩ := he
  by_cases h0 : zs.length = 0
  · have H : Hid (okB ng zs = !ng) := hid (by unfold okB; rw [if_pos h0])
    have hb0 : ((zs.length : Int) == 0) = true := by rw [beq_iff_eq]; omega
    go_enter Try.func52, Try.ntmps52
    go_wp2
    go_ret
    exact ⟨ret_bool H.out.symm, (by repeat (first | exact bz0 _ _ | refine bz1 ?_ | refine bz2 ?_ _ | refine bz3 ?_ _ | refine bz5 ?_ _ | refine bz6 ?_ _))⟩
  · obtain ⟨b, off, rfl, hcell⟩ : ∃ b off, a = some ⟨b, off, none⟩ ∧ ∀ i, i < zs.length → w.cell? ⟨b, off + i, none⟩ = some (.int .u32 (zs.getD i 0)) := by
      rcases hz with rfl | hz
      · simp at h0
      · exact hz
    clear hz
    have hb0 : ((zs.length : Int) == 0) = false := by rw [beq_eq_false_iff_ne]; omega
    have hc0 := hcell (zs.length - 1) (by omega)
    have hlt := World.block_lt_of_cell? w _ hc0
    generalize hz : zs.getD (zs.length - 1) 0 = z at hc0
    by_cases h2 : zs.length ≤ 200
    · by_cases h3 : z = 0
      · have H : Hid (okB ng zs = false) := hid (by unfold okB; rw [if_neg h0, hz]; simp [h3])
        clear hcell hz
        have h3' : (z != 0) = false := by simp [h3]
        go_enter Try.func52, Try.ntmps52
        go_wp2
        go_ret
        exact ⟨ret_bool H.out.symm, (by repeat (first | exact bz0 _ _ | refine bz1 ?_ | refine bz2 ?_ _ | refine bz3 ?_ _ | refine bz5 ?_ _ | refine bz6 ?_ _))⟩
      · have H : Hid (okB ng zs = true) := hid (by unfold okB; rw [if_neg h0, hz]; simp [h3, h2])
        clear hcell hz
        have h3' : (z != 0) = true := by simp [h3]
        go_enter Try.func52, Try.ntmps52
        go_wp2
        go_ret
        exact ⟨ret_bool H.out.symm, (by repeat (first | exact bz0 _ _ | refine bz1 ?_ | refine bz2 ?_ _ | refine bz3 ?_ _ | refine bz5 ?_ _ | refine bz6 ?_ _))⟩
    · have H : Hid (okB ng zs = false) := hid (by unfold okB; rw [if_neg h0]; simp [h2])
      clear hcell hz
      go_enter Try.func52, Try.ntmps52
      go_wp2
      go_ret
      exact ⟨ret_bool H.out.symm, (by repeat (first | exact bz0 _ _ | refine bz1 ?_ | refine bz2 ?_ _ | refine bz3 ?_ _ | refine bz5 ?_ _ | refine bz6 ?_ _))⟩
theorem ok_spec (ng : Bool) (a : Option Addr) (cap : Nat) (zs : List Int) (w : World) (hs : Sl .u32 w (.slice a zs.length cap) zs) (hl : zs.length ≤ 140737488355328) :
    Calls Try.prog 51 #[.agg #[.bool ng, .slice a zs.length cap]] w fun e w' => e = .returned (.bool (okB ng zs)) ∧ Below w.heap.size w w' := by
  obtain ⟨a0, cap0, he, hc1, hc2, hz⟩ := hs
  simp at he; obtain ⟨rfl, rfl⟩ := he
  by_cases h0 : zs.length = 0
  · have H : Hid (okB ng zs = !ng) := hid (by unfold okB; rw [if_pos h0])
    have hb0 : ((zs.length : Int) == 0) = true := by rw [beq_iff_eq]; omega
    go_enter Try.func51, Try.ntmps51
    go_wp2
    go_ret
    exact ⟨ret_bool H.out.symm, (by repeat (first | exact bz0 _ _ | refine bz1 ?_ | refine bz2 ?_ _ | refine bz3 ?_ _ | refine bz5 ?_ _ | refine bz6 ?_ _))⟩
  · obtain ⟨b, off, rfl, hcell⟩ : ∃ b off, a = some ⟨b, off, none⟩ ∧ ∀ i, i < zs.length → w.cell? ⟨b, off + i, none⟩ = some (.int .u32 (zs.getD i 0)) := by
      rcases hz with rfl | hz
      · simp at h0
      · exact hz
    clear hz
    have hb0 : ((zs.length : Int) == 0) = false := by rw [beq_eq_false_iff_ne]; omega
    have hc0 := hcell (zs.length - 1) (by omega)
    have hlt := World.block_lt_of_cell? w _ hc0
    generalize hz : zs.getD (zs.length - 1) 0 = z at hc0
    by_cases h2 : zs.length ≤ 200
    · by_cases h3 : z = 0
      · have H : Hid (okB ng zs = false) := hid (by unfold okB; rw [if_neg h0, hz]; simp [h3])
        clear hcell hz
        have h3' : (z != 0) = false := by simp [h3]
        go_enter Try.func51, Try.ntmps51
        go_wp2
        go_ret
        exact ⟨ret_bool H.out.symm, (by repeat (first | exact bz0 _ _ | refine bz1 ?_ | refine bz2 ?_ _ | refine bz3 ?_ _ | refine bz5 ?_ _ | refine bz6 ?_ _))⟩
      · have H : Hid (okB ng zs = true) := hid (by unfold okB; rw [if_neg h0, hz]; simp [h3, h2])
        clear hcell hz
        have h3' : (z != 0) = true := by simp [h3]
        go_enter Try.func51, Try.ntmps51
        go_wp2
        go_ret
        exact ⟨ret_bool H.out.symm, (by repeat (first | exact bz0 _ _ | refine bz1 ?_ | refine bz2 ?_ _ | refine bz3 ?_ _ | refine bz5 ?_ _ | refine bz6 ?_ _))⟩
    · have H : Hid (okB ng zs = false) := hid (by unfold okB; rw [if_neg h0]; simp [h2])
      clear hcell hz
      go_enter Try.func51, Try.ntmps51
      go_wp2
      go_ret
      exact ⟨ret_bool H.out.symm, (by repeat (first | exact bz0 _ _ | refine bz1 ?_ | refine bz2 ?_ _ | refine bz3 ?_ _ | refine bz5 ?_ _ | refine bz6 ?_ _))⟩

/-- Whether two lists are one. -/
def eqL (xs ys : List Int) : Bool := decide (xs = ys)
theorem eqL_no {xs ys : List Int} {k : Nat} (h : xs.getD k 0 ≠ ys.getD k 0) : eqL xs ys = false := by
  unfold eqL; rw [decide_eq_false_iff_not]; rintro rfl; exact h rfl
theorem eqL_len {xs ys : List Int} (h : xs.length ≠ ys.length) : eqL xs ys = false := by
  unfold eqL; rw [decide_eq_false_iff_not]; rintro rfl; exact h rfl
theorem eqL_yes {xs ys : List Int} (h : xs.length = ys.length) (hk : ∀ i, i < xs.length → xs.getD i 0 = ys.getD i 0) : eqL xs ys = true := by
  unfold eqL; rw [decide_eq_true_iff]
  apply List.ext_getElem h
  intro i h1 h2
  have := hk i h1
  simpa [List.getD_eq_getElem?_getD, h1, h2] using this


end Go.Proofs.Ytmnfidkpnogfmaa
