/-
  Several texts in one: NumsB, WideL.
-/
import Derived.Test.YtbalefbcpnoieaaDoorG00
import Derived.Test.YtbalefbcpnoieaaDoorG02
/-
  Plain mathematics, no Go: the limbs of a number; what a list is worth when a limb of it is set; wides as integers.
-/
namespace Go.Proofs.YtbalefbcpnoieaaDoor
set_option linter.unusedVariables false
namespace Nm

/-- The limbs of a number, least first, none on top that is 0. -/
def lim (n : Nat) : List Int := if h : n = 0 then [] else ((n % 4294967296 : Nat) : Int) :: lim (n / 4294967296)
termination_by n
decreasing_by exact Nat.div_lt_self (by omega) (by decide)

theorem lim_zero : lim 0 = [] := by unfold lim; simp
theorem lim_pos {n : Nat} (h : n ≠ 0) : lim n = ((n % 4294967296 : Nat) : Int) :: lim (n / 4294967296) := by rw [lim]; simp [h]

theorem lim_dg (n : Nat) : Dg (lim n) := by
  induction n using Nat.strongRecOn with
  | _ n ih =>
    by_cases h : n = 0
    · subst h; rw [lim_zero]; exact Dg.nil
    · rw [lim_pos h]; exact Dg.cons (by omega) (ih _ (Nat.div_lt_self (by omega) (by decide)))

theorem lim_val (n : Nat) : val (lim n) = n := by
  induction n using Nat.strongRecOn with
  | _ n ih =>
    by_cases h : n = 0
    · subst h; rw [lim_zero]; rfl
    · rw [lim_pos h, val, ih _ (Nat.div_lt_self (by omega) (by decide))]; omega

theorem lim_nil {n : Nat} (h : lim n = []) : n = 0 := by
  by_cases h0 : n = 0
  · exact h0
  · rw [lim_pos h0] at h; cases h

theorem lim_nz (n : Nat) : Nz (lim n) := by
  induction n using Nat.strongRecOn with
  | _ n ih =>
    by_cases h : n = 0
    · subst h; rw [lim_zero]; exact Nz.nil
    · rw [lim_pos h]
      have h1 := ih _ (Nat.div_lt_self (by omega : 0 < n) (by decide : 1 < 4294967296))
      intro z hz
      cases e : lim (n / 4294967296) with
      | nil => rw [e] at hz; have := lim_nil e; simp at hz; omega
      | cons y r => rw [e] at hz; rw [List.getLast?_cons_cons, ← e] at hz; exact h1 z hz

theorem lim_of {l : List Int} (h : Dg l) (k : Nz l) : lim (val l).toNat = l :=
  val_inj (lim_dg _) h (lim_nz _) k (by rw [lim_val]; have := val_nonneg h; omega)
theorem trim_lim {l : List Int} (h : Dg l) : trim l = lim (val l).toNat :=
  val_inj (trim_dg h) (lim_dg _) (trim_nz _) (lim_nz _) (by rw [lim_val, trim_val]; have := val_nonneg h; omega)
theorem lim_length (n k : Nat) : (lim n).length ≤ k ↔ (n : Int) < pw k := by
  rw [length_le_iff (lim_dg n) (lim_nz n) k, lim_val]
theorem lim_length_zero (n : Nat) : (lim n).length = 0 ↔ n = 0 := by
  constructor
  · intro h; exact lim_nil (List.eq_nil_of_length_eq_zero h)
  · rintro rfl; rw [lim_zero]; rfl

/-- A limb is set. -/
theorem val_set (l : List Int) (k : Nat) (v : Int) (h : k < l.length) : val (l.set k v) = val l + pw k * (v - l.getD k 0) := by
  induction l generalizing k with
  | nil => simp at h
  | cons z r ih =>
    cases k with
    | zero => simp [val, pw]; omega
    | succ k =>
      have := ih k (by simpa using h)
      simp only [List.set_cons_succ, val, this, pw, List.getD_cons_succ]
      rw [Int.mul_add, Int.mul_assoc]; omega
theorem Dg.set {l : List Int} (h : Dg l) (k : Nat) {v : Int} (hv : 0 ≤ v ∧ v < 4294967296) : Dg (l.set k v) := fun x hx => by
  rcases List.mem_or_eq_of_mem_set hx with hx | rfl
  · exact h x hx
  · exact hv
theorem getD_set (l : List Int) (k i : Nat) (v : Int) (h : k < l.length) : (l.set k v).getD i 0 = if i = k then v else l.getD i 0 := by
  rw [List.getD_eq_getElem?_getD, List.getElem?_set, List.getD_eq_getElem?_getD]
  by_cases e : k = i
  · subst e; simp [h]
  · rw [if_neg e, if_neg (fun h => e h.symm)]

theorem take_snoc {l : List Int} {k : Nat} (h : k < l.length) : l.take (k + 1) = l.take k ++ [l.getD k 0] := by
  rw [List.take_succ_eq_append_getElem h]; simp [List.getD_eq_getElem?_getD, h]
/-- The first limbs, and one more (or 0, behind the last one). -/
theorem val_take_succ (l : List Int) (k : Nat) : val (l.take (k + 1)) = val (l.take k) + pw k * l.getD k 0 := by
  by_cases h : k < l.length
  · rw [take_snoc h, val_append]
    simp [val, Nat.min_eq_left (Nat.le_of_lt h)]
  · rw [List.take_of_length_le (by omega), List.take_of_length_le (by omega), List.getD_eq_getElem?_getD, List.getElem?_eq_none (by omega)]; simp
theorem val_snoc (l : List Int) (z : Int) : val (l ++ [z]) = val l + pw l.length * z := by rw [val_append]; simp [val]
theorem getD_out {l : List Int} {k : Nat} (h : l.length ≤ k) : l.getD k 0 = 0 := by rw [List.getD_eq_getElem?_getD, List.getElem?_eq_none (by omega)]; rfl
theorem getD_replicate (n k : Nat) : (List.replicate n (0 : Int)).getD k 0 = 0 := by
  rw [List.getD_eq_getElem?_getD]
  by_cases h : k < n
  · simp [h]
  · simp [h]

/-- A wide that is x: the limbs, the sign; what is answered where it may not fit. -/
def wl (x : Int) : List Int := lim x.natAbs
def wn (x : Int) : Bool := decide (x < 0)
def fits (x : Int) : Bool := decide ((wl x).length ≤ 200)
def outL (x : Int) : List Int := if fits x then wl x else []
def outN (x : Int) : Bool := fits x && wn x
/-- What a wide with this sign and limbs is. -/
def wv (ng : Bool) (zs : List Int) : Int := if ng then - val zs else val zs
theorem natAbs_wv {zs : List Int} (ng : Bool) (h : Dg zs) : (wv ng zs).natAbs = (val zs).toNat := by
  have := val_nonneg h
  unfold wv; cases ng <;> simp <;> omega
theorem wl_wv {zs : List Int} (ng : Bool) (h : Dg zs) : wl (wv ng zs) = trim zs := by
  unfold wl; rw [natAbs_wv ng h, trim_lim h]
theorem wn_wv {zs : List Int} (ng : Bool) (h : Dg zs) : wn (wv ng zs) = (ng && !decide ((trim zs).length = 0)) := by
  have h0 := val_nonneg h
  have h1 : (trim zs).length = 0 ↔ val zs = 0 := by rw [trim_lim h, lim_length_zero]; omega
  unfold wn wv
  by_cases e : val zs = 0
  · rw [decide_eq_true (h1.2 e), e]; cases ng <;> simp
  · rw [decide_eq_false (fun h => e (h1.1 h))]; cases ng
    · simp; omega
    · simp; omega
theorem wl_dg (x : Int) : Dg (wl x) := lim_dg _
theorem wl_nz (x : Int) : Nz (wl x) := lim_nz _
theorem val_wl (x : Int) : val (wl x) = x.natAbs := lim_val _
theorem wv_out (x : Int) : wv (wn x) (wl x) = x := by
  unfold wv wn; rw [val_wl]; by_cases h : x < 0 <;> simp [h] <;> omega
theorem outL_dg (x : Int) : Dg (outL x) := by
  unfold outL; split
  · exact wl_dg x
  · exact Dg.nil
theorem outL_length (x : Int) : (outL x).length ≤ 200 := by
  unfold outL; split
  · rename_i h; simpa [fits] using h
  · simp
end Nm
end Go.Proofs.YtbalefbcpnoieaaDoor
/-
  Limbs made to wides, told by the integer that the wide is; numbers of 64 bits as wides, by the program and by the specification.
-/
namespace Go.Proofs.YtbalefbcpnoieaaDoor
set_option linter.unusedVariables false
set_option linter.unusedSimpArgs false
open Go.RowKit Go.Deep

theorem fit_out (ng : Bool) {zs : List Int} (hd : Nm.Dg zs) : fitL zs = Nm.outL (Nm.wv ng zs) ∧ fitN ng zs = Nm.outN (Nm.wv ng zs) ∧ fitO zs = Nm.fits (Nm.wv ng zs) := by
  have h1 := Nm.wl_wv ng hd
  have h2 := Nm.wn_wv ng hd
  unfold fitL fitN fitO Nm.outL Nm.outN Nm.fits
  rw [h1, h2]
  by_cases h : (Nm.trim zs).length ≤ 200 <;> simp [h]
/-- Limbs made to a wide that fits, by the program. -/
theorem fitted_v (ng : Bool) (a : Option Addr) (cap : Nat) (zs : List Int) (B : Nat) (w : World) (ho : Own w B a cap zs) (hz : Nm.Dg zs) (hl : zs.length ≤ 1048576) (x : Int) (hx : x = Nm.wv ng zs) :
    Calls Tryd.prog 78 #[.bool ng, .slice a zs.length cap] w fun e w' => ∃ a' c', e = .returned (.tuple #[.agg #[.bool (Nm.outN x), .slice a' (Nm.outL x).length c'], .bool (Nm.fits x)]) ∧ Own w' B a' c' (Nm.outL x) ∧ Below w.heap.size w w' := by
  obtain ⟨e1, e2, e3⟩ := fit_out ng hz
  subst hx
  rw [← e1, ← e2, ← e3]
  exact fitted_any ng a cap zs B w ho hz hl
theorem fitted_va (ng : Bool) (a : Option Addr) (cap : Nat) (zs : List Int) (B : Nat) (w : World) (ho : Own w B a cap zs) (hz : Nm.Dg zs) (hl : zs.length ≤ 1048576) (x : Int) (hx : x = Nm.wv ng zs) :
    Calls Tryd.prog 78 #[.bool ng, .slice a zs.length cap] w fun e w' => ∃ a' c', e = .returned (.tuple #[.agg #[.bool (Nm.outN x), .slice a' (Nm.outL x).length c'], .bool (Nm.fits x)]) ∧ Own w' B a' c' (Nm.outL x) ∧ Below w.heap.size w w' ∧ (a' = none ∨ a' = a) := by
  obtain ⟨e1, e2, e3⟩ := fit_out ng hz
  subst hx
  rw [← e1, ← e2, ← e3]
  exact fitted_at ng a cap zs B w ho hz hl
/-- Limbs made to a wide, by the specification. -/
theorem made_v (ng : Bool) (a : Option Addr) (cap : Nat) (zs : List Int) (w : World) (hs : Sl .u32 w (.slice a zs.length cap) zs) (hz : Nm.Dg zs) (hl : zs.length ≤ 1048576) (x : Int) (hx : x = Nm.wv ng zs) :
    Calls Tryd.prog 76 #[.bool ng, .slice a zs.length cap] w fun e w' => ∃ a' c', e = .returned (.agg #[.bool (Nm.wn x), .slice a' (Nm.wl x).length c']) ∧ Own w' w.heap.size a' c' (Nm.wl x) ∧ Below w.heap.size w w' := by
  subst hx
  rw [Nm.wl_wv ng hz, Nm.wn_wv ng hz]
  exact made_any ng a cap zs w hs hz hl
/-- What is a number of 64 bits without sign fits. -/
theorem fits_small {x : Int} (h0 : -18446744073709551616 < x) (h1 : x < 18446744073709551616) : Nm.fits x = true := by
  unfold Nm.fits Nm.wl
  rw [decide_eq_true_iff, Nm.lim_length]
  have h2 : Nm.pw 2 ≤ Nm.pw 200 := Nm.pw_mono (by decide)
  have h3 : Nm.pw 2 = 18446744073709551616 := by decide
  omega
theorem out_fits {x : Int} (h : Nm.fits x = true) : Nm.outL x = Nm.wl x ∧ Nm.outN x = Nm.wn x := by
  unfold Nm.outL Nm.outN; rw [h]; simp
/-- Two limbs. -/
def two (m : Int) : List Int := [m % 4294967296, m / 4294967296]
theorem two_dg {m : Int} (h0 : 0 ≤ m) (h1 : m < 18446744073709551616) : Nm.Dg (two m) := by
  unfold two; exact Nm.Dg.cons (by omega) (Nm.Dg.cons (by omega) Nm.Dg.nil)
theorem two_wv {m : Int} (ng : Bool) (h0 : 0 ≤ m) : Nm.wv ng (two m) = if ng then -m else m := by
  unfold Nm.wv two; simp only [Nm.val]; cases ng <;> simp <;> omega
theorem own_two {w : World} {B g : Nat} (hB : B ≤ w.heap.size) (hg : g = w.heap.size) (x y : Int) : Own (w.alloc (.cells #[.int .u32 x, .int .u32 y] 58)) B (some ⟨g, 0, none⟩) 2 [x, y] := by
  subst hg
  exact ⟨by simp, .inr ⟨w.heap.size, 2, #[.int .u32 x, .int .u32 y], rfl, hB, heap_alloc_new w _, by simp, by decide, by simp, by simp⟩⟩

theorem w64_neg {n : Int} (h0 : -9223372036854775808 ≤ n) (h : n < 0) : IntKind.u64.wrap (-(IntKind.u64.wrap n)) = -n := by
  rw [IntKind.wrap_u64, IntKind.wrap_u64]; omega
theorem w64_pos {n : Int} (h0 : 0 ≤ n) (h : n ≤ 9223372036854775807) : IntKind.u64.wrap n = n := by
  rw [IntKind.wrap_u64]; omega
set_option maxHeartbeats 2000000 in
theorem wof_impl_true (n : Int) (w : World) (h0 : -9223372036854775808 ≤ n) (h1 : n ≤ 9223372036854775807) (hn : decide (n < 0) = true) :
    Calls Tryd.prog 100 #[.int .i64 n] w fun e w' => ∃ a' c', e = .returned (.agg #[.bool (Nm.wn n), .slice a' (Nm.wl n).length c']) ∧ Own w' w.heap.size a' c' (Nm.wl n) ∧ Below w.heap.size w w' := by
  have HO := hid (out_fits (fits_small (x := n) (by omega) (by omega)))
  have h := hn
  simp at h
  have e0 := w64_neg h0 h
  have HV : Hid (n = Nm.wv true (two (-n))) := hid (by have := two_wv (m := (-n)) true (by omega); simp at this; rw [this])
  have HD := hid (two_dg (m := (-n)) (by omega) (by omega))
  go_enter Tryd.func100, Tryd.ntmps100
  go_wp2_with fail
  refine (fitted_v true _ 2 (two (-n)) (w.heap.size + 1) _ (by refine own_two ?_ ?_ _ _ <;> simp) HD.out (by simp [two]) n HV.out).mono ?_
  rintro e w1 ⟨a', c', rfl, ho, hb⟩
  have r := (R2.new w (.bool false) (.slice none 0 0) 30).alloc (.cells #[.int .u32 ((-n) % 4294967296), .int .u32 ((-n) / 4294967296)] 58)
  obtain ⟨rc0, rc1, rf0, rf1⟩ := r.below hb
  have hz : w.heap.size < w1.heap.size := World.block_lt_of_cell? w1 _ rc0
  go_wp2
  obtain ⟨oL, oN⟩ := HO.out
  refine bodyPost_ret (v := .agg #[.bool (Nm.wn n), .slice a' (Nm.wl n).length c']) (by simp [results, Tryd.results100, go_sem, oL, oN, hz, rc0, rc1]) rfl ⟨a', c', rfl, ?_, (by repeat (first | exact Below.refl _ _ | refine Below.drew ?_ | refine bel_dn ?_ _ | refine bel_al ?_ _ | refine bel_go ?_ hb | refine Below.setCell ?_ (by first | omega | (simp; done) | (simp; omega)) _ | refine Below.alloc ?_ (by first | omega | (simp; done) | (simp; omega)) _ | refine Below.trans ?_ (Below.mono hb (by first | omega | (simp; done) | (simp; omega)))))⟩
  rw [oL] at ho
  exact Own.base (((ho.setBelow (by simp) _).setBelow (by simp) _).alloc _) (by omega)
set_option maxHeartbeats 2000000 in
theorem wof_impl_false (n : Int) (w : World) (h0 : -9223372036854775808 ≤ n) (h1 : n ≤ 9223372036854775807) (hn : decide (n < 0) = false) :
    Calls Tryd.prog 100 #[.int .i64 n] w fun e w' => ∃ a' c', e = .returned (.agg #[.bool (Nm.wn n), .slice a' (Nm.wl n).length c']) ∧ Own w' w.heap.size a' c' (Nm.wl n) ∧ Below w.heap.size w w' := by
  have HO := hid (out_fits (fits_small (x := n) (by omega) (by omega)))
  have h := hn
  simp at h
  have e0 := w64_pos (n := n) (by omega) h1
  have HV : Hid (n = Nm.wv false (two n)) := hid (by have := two_wv (m := n) false (by omega); simp at this; rw [this])
  have HD := hid (two_dg (m := n) (by omega) (by omega))
  go_enter Tryd.func100, Tryd.ntmps100
  go_wp2_with fail
  refine (fitted_v false _ 2 (two n) (w.heap.size + 1) _ (by refine own_two ?_ ?_ _ _ <;> simp) HD.out (by simp [two]) n HV.out).mono ?_
  rintro e w1 ⟨a', c', rfl, ho, hb⟩
  have r := (R2.new w (.bool false) (.slice none 0 0) 30).alloc (.cells #[.int .u32 (n % 4294967296), .int .u32 (n / 4294967296)] 58)
  obtain ⟨rc0, rc1, rf0, rf1⟩ := r.below hb
  have hz : w.heap.size < w1.heap.size := World.block_lt_of_cell? w1 _ rc0
  go_wp2
  obtain ⟨oL, oN⟩ := HO.out
  refine bodyPost_ret (v := .agg #[.bool (Nm.wn n), .slice a' (Nm.wl n).length c']) (by simp [results, Tryd.results100, go_sem, oL, oN, hz, rc0, rc1]) rfl ⟨a', c', rfl, ?_, (by repeat (first | exact Below.refl _ _ | refine Below.drew ?_ | refine bel_dn ?_ _ | refine bel_al ?_ _ | refine bel_go ?_ hb | refine Below.setCell ?_ (by first | omega | (simp; done) | (simp; omega)) _ | refine Below.alloc ?_ (by first | omega | (simp; done) | (simp; omega)) _ | refine Below.trans ?_ (Below.mono hb (by first | omega | (simp; done) | (simp; omega)))))⟩
  rw [oL] at ho
  exact Own.base (((ho.setBelow (by simp) _).setBelow (by simp) _).alloc _) (by omega)
theorem wof_impl (n : Int) (w : World) (h0 : -9223372036854775808 ≤ n) (h1 : n ≤ 9223372036854775807) :
    Calls Tryd.prog 100 #[.int .i64 n] w fun e w' => ∃ a' c', e = .returned (.agg #[.bool (Nm.wn n), .slice a' (Nm.wl n).length c']) ∧ Own w' w.heap.size a' c' (Nm.wl n) ∧ Below w.heap.size w w' := by
  cases h : decide (n < 0)
  · exact wof_impl_false n w h0 h1 h
  · exact wof_impl_true n w h0 h1 h
set_option maxHeartbeats 2000000 in
theorem wof_spec_true (n : Int) (w : World) (h0 : -9223372036854775808 ≤ n) (h1 : n ≤ 9223372036854775807) (hn : decide (n < 0) = true) :
    Calls Tryd.prog 113 #[.int .i64 n] w fun e w' => ∃ a' c', e = .returned (.agg #[.bool (Nm.wn n), .slice a' (Nm.wl n).length c']) ∧ Own w' w.heap.size a' c' (Nm.wl n) ∧ Below w.heap.size w w' := by
  have h := hn
  simp at h
  have e0 := w64_neg h0 h
  have HV : Hid (n = Nm.wv true (two (-n))) := hid (by have := two_wv (m := (-n)) true (by omega); simp at this; rw [this])
  have HD := hid (two_dg (m := (-n)) (by omega) (by omega))
  go_enter Tryd.func113, Tryd.ntmps113
  go_wp2_with fail
  refine (made_v true _ 2 (two (-n)) _ (by refine Own.sl (own_two (B := 0) ?_ ?_ _ _) <;> simp) HD.out (by simp [two]) n HV.out).mono ?_
  rintro e w1 ⟨a', c', rfl, ho, hb⟩
  have r := (R2.new w (.bool false) (.slice none 0 0) 30).alloc (.cells #[.int .u32 ((-n) % 4294967296), .int .u32 ((-n) / 4294967296)] 58)
  obtain ⟨rc0, rc1, rf0, rf1⟩ := r.below hb
  have hz : w.heap.size < w1.heap.size := World.block_lt_of_cell? w1 _ rc0
  have ho : Own w1 (w.heap.size + 1 + 1) a' c' (Nm.wl n) := by simpa using ho
  go_wp2
  refine bodyPost_ret (v := .agg #[.bool (Nm.wn n), .slice a' (Nm.wl n).length c']) (by simp [results, Tryd.results113, go_sem, hz, rc0, rc1]) rfl ⟨a', c', rfl, ?_, (by repeat (first | exact Below.refl _ _ | refine Below.drew ?_ | refine bel_dn ?_ _ | refine bel_al ?_ _ | refine bel_go ?_ hb | refine Below.setCell ?_ (by first | omega | (simp; done) | (simp; omega)) _ | refine Below.alloc ?_ (by first | omega | (simp; done) | (simp; omega)) _ | refine Below.trans ?_ (Below.mono hb (by first | omega | (simp; done) | (simp; omega)))))⟩
  exact Own.base ((ho.setBelow (by simp; omega) _).setBelow (by simp; omega) _) (by omega)
set_option maxHeartbeats 2000000 in
theorem wof_spec_false (n : Int) (w : World) (h0 : -9223372036854775808 ≤ n) (h1 : n ≤ 9223372036854775807) (hn : decide (n < 0) = false) :
    Calls Tryd.prog 113 #[.int .i64 n] w fun e w' => ∃ a' c', e = .returned (.agg #[.bool (Nm.wn n), .slice a' (Nm.wl n).length c']) ∧ Own w' w.heap.size a' c' (Nm.wl n) ∧ Below w.heap.size w w' := by
  have h := hn
  simp at h
  have e0 := w64_pos (n := n) (by omega) h1
  have HV : Hid (n = Nm.wv false (two n)) := hid (by have := two_wv (m := n) false (by omega); simp at this; rw [this])
  have HD := hid (two_dg (m := n) (by omega) (by omega))
  go_enter Tryd.func113, Tryd.ntmps113
  go_wp2_with fail
  refine (made_v false _ 2 (two n) _ (by refine Own.sl (own_two (B := 0) ?_ ?_ _ _) <;> simp) HD.out (by simp [two]) n HV.out).mono ?_
  rintro e w1 ⟨a', c', rfl, ho, hb⟩
  have r := (R2.new w (.bool false) (.slice none 0 0) 30).alloc (.cells #[.int .u32 (n % 4294967296), .int .u32 (n / 4294967296)] 58)
  obtain ⟨rc0, rc1, rf0, rf1⟩ := r.below hb
  have hz : w.heap.size < w1.heap.size := World.block_lt_of_cell? w1 _ rc0
  have ho : Own w1 (w.heap.size + 1 + 1) a' c' (Nm.wl n) := by simpa using ho
  go_wp2
  refine bodyPost_ret (v := .agg #[.bool (Nm.wn n), .slice a' (Nm.wl n).length c']) (by simp [results, Tryd.results113, go_sem, hz, rc0, rc1]) rfl ⟨a', c', rfl, ?_, (by repeat (first | exact Below.refl _ _ | refine Below.drew ?_ | refine bel_dn ?_ _ | refine bel_al ?_ _ | refine bel_go ?_ hb | refine Below.setCell ?_ (by first | omega | (simp; done) | (simp; omega)) _ | refine Below.alloc ?_ (by first | omega | (simp; done) | (simp; omega)) _ | refine Below.trans ?_ (Below.mono hb (by first | omega | (simp; done) | (simp; omega)))))⟩
  exact Own.base ((ho.setBelow (by simp; omega) _).setBelow (by simp; omega) _) (by omega)
theorem wof_spec (n : Int) (w : World) (h0 : -9223372036854775808 ≤ n) (h1 : n ≤ 9223372036854775807) :
    Calls Tryd.prog 113 #[.int .i64 n] w fun e w' => ∃ a' c', e = .returned (.agg #[.bool (Nm.wn n), .slice a' (Nm.wl n).length c']) ∧ Own w' w.heap.size a' c' (Nm.wl n) ∧ Below w.heap.size w w' := by
  cases h : decide (n < 0)
  · exact wof_spec_false n w h0 h1 h
  · exact wof_spec_true n w h0 h1 h
end Go.Proofs.YtbalefbcpnoieaaDoor
