/-
  What is needed of LawsC, NumsF, WideK, FloatG, FloatH, FloatJ, FloatK, FloatL, FloatN.
-/
import Derived.Deep.AppendLies
import Derived.Deep.RegionWith
import Derived.Deep.DeepCutAuto
import Derived.Deep.DrawnRows
import Derived.Test.YtbhfbaogmkgmiaaGreatDoorC02
import Derived.Test.YtbhfbaogmkgmiaaGreatDoorC05
set_option maxHeartbeats 16000000
set_option maxRecDepth 1000000
namespace Go.Proofs.YtbhfbaogmkgmiaaGreatDoor
set_option linter.unusedVariables false
set_option linter.unusedSimpArgs false
open Go.RowKit Go.Deep
/-- Where a slice's row lies, if there is one: told by its first cell's block. -/
theorem Own.at {w : World} {B : Nat} {a : Option Addr} {cap : Nat} {zs : List Int} (h : Own w B a cap zs) (n c : Nat) : ∀ g, (Value.slice a n c).ownBlock = some g → B ≤ g ∧ g < w.heap.size := by
  intro g hg
  rcases h.block with ⟨rfl, _, _⟩ | ⟨g', rfl, h1, h2⟩
  · simp [Value.ownBlock] at hg
  · simp [Value.ownBlock] at hg; subst hg; exact ⟨h1, h2⟩
theorem Box.grown {w w' : World} {b : Nat} {v0 v1 : Value} {row : Option Nat} (h : Box w b v0 v1) (hg : w.grownBy w' row) (hne : ∀ g, row = some g → b ≠ g) : Box w' b v0 v1 := by
  have hlt := World.block_lt_of_cell? w _ h.1
  have e := hg.block b hlt (by
    cases row with
    | none => simp
    | some g => simpa using hne g rfl)
  exact ⟨(World.cell?_of_block (a := ⟨b, 0, none⟩) e).trans h.1, (World.cell?_of_block (a := ⟨b, 1, none⟩) e).trans h.2⟩
theorem Sl.grown {k : IntKind} {w w' : World} {v : Value} {zs : List Int} {row : Option Nat} (h : Sl k w v zs) (hg : w.grownBy w' row) (hne : ∀ g, row = some g → w.heap.size ≤ g ∨ ∀ b off n cap, v = .slice (some ⟨b, off, none⟩) n cap → b ≠ g) : Sl k w' v zs := by
  obtain ⟨a, cap, rfl, h1, h2, h3⟩ := h
  refine ⟨a, cap, rfl, h1, h2, ?_⟩
  rcases h3 with h3 | ⟨b, off, rfl, hc⟩
  · exact .inl h3
  · refine .inr ⟨b, off, rfl, fun i hi => ?_⟩
    have hci := hc i hi
    have hlt := World.block_lt_of_cell? w _ hci
    have e := hg.block b hlt (by
      cases row with
      | none => simp
      | some g =>
        rcases hne g rfl with h | h
        · simp at hlt ⊢; omega
        · simpa using h b off _ _ rfl)
    exact (World.cell?_of_block (a := ⟨b, off + i, none⟩) e).trans hci
end Go.Proofs.YtbhfbaogmkgmiaaGreatDoor
namespace Go.Proofs.YtbhfbaogmkgmiaaGreatDoor
set_option linter.unusedVariables false
namespace Nm
/-- m times 2 to the n, cut. (m is not below 0.) -/
def shM (m n : Int) : Int := if n < 0 then m / (2 : Int) ^ (-n).toNat else m * (2 : Int) ^ n.toNat
/-- A wide's value shifted: towards 0. -/
def shV (ng : Bool) (m n : Int) : Int := if ng then - shM m n else shM m n
theorem pw_pow (n : Nat) : pw n = (2 : Int) ^ (32 * n) := by rw [pw_two]; simp
theorem shM_up {m n : Int} {wh r : Nat} (h0 : 0 ≤ n) (hq : n / 32 = (wh : Int)) (hm : n % 32 = (r : Int)) : pw wh * ((2 : Int) ^ r * m) = shM m n := by
  unfold shM
  rw [if_neg (by omega), pw_pow, show n.toNat = 32 * wh + r by omega, Int.pow_add, Int.mul_comm m, Int.mul_assoc]
theorem shM_down {m n : Int} {wh r : Nat} (h0 : n < 0) (hq : -n / 32 = (wh : Int)) (hm : -n % 32 = (r : Int)) : m / pw wh / (2 : Int) ^ r = shM m n := by
  unfold shM
  have hp := pw_pos wh
  rw [if_pos h0, show (-n).toNat = 32 * wh + r by omega, Int.pow_add, ← pw_pow, Int.ediv_ediv_of_nonneg (by omega)]
theorem shV_wv {ng : Bool} {m n : Int} {os : List Int} (h : val os = shM m n) : shV ng m n = wv ng os := by unfold shV wv; rw [h]
end Nm
set_option linter.unusedSimpArgs false
open Go.RowKit Go.Deep
/-- A right wide's limbs end in no nought. -/
theorem okB_nz {ng : Bool} {zs : List Int} (h : okB ng zs = true) : Nm.Nz zs ∧ zs.length ≤ 200 := by
  unfold okB at h
  split at h
  · rename_i h0
    have : zs = [] := List.eq_nil_of_length_eq_zero h0
    subst this; exact ⟨Nm.Nz.nil, by simp⟩
  · rename_i h0
    simp at h
    refine ⟨fun z hz => ?_, h.1⟩
    have h2 := h.2
    rw [List.getLast?_eq_getElem?] at hz
    rw [hz] at h2
    simpa using h2
end Go.Proofs.YtbhfbaogmkgmiaaGreatDoor
namespace Go.Proofs.YtbhfbaogmkgmiaaGreatDoor
set_option linter.unusedVariables false
set_option linter.unusedSimpArgs false
open Go.RowKit
/-- The sign's place. -/
def sgOf (fm : Int) : Int := if fm = 32 then 2147483648 else 9223372036854775808
def absF (fm x : Int) : Int := if okF fm x then x % sgOf fm else 0
theorem abs32 {x : Int} (h : x < 4294967296) : absF 32 x = x % 2147483648 := by unfold absF; rw [okF32 h]; rfl
theorem abs64 {x : Int} : absF 64 x = x % 9223372036854775808 := by unfold absF; rw [okF64]; rfl
theorem abs_no {fm x : Int} (h : okF fm x = false) : absF fm x = 0 := by unfold absF; rw [h]; rfl

theorem impl_abs32 (x : Int) (w : World) (h : Tab w) (h0 : 0 ≤ x) (h1 : x < 4294967296) :
    Calls Tryz.prog 51 #[.int .i64 32, .int .u64 x] w fun e w' => e = .returned (.int .u64 (x % 2147483648)) ∧ Below w.heap.size w w' := by
  have hok : okF 32 x = true := by simp [okF, h1]
  have h1' : x < 18446744073709551616 := by omega
  have e : bits .andNot .u64 x 2147483648 = x % 2147483648 := by rw [Bt.andNot31 x h0 (by omega)]; omega
  go_enter Tryz.func51, Tryz.ntmps51
  go_wp2_with fail
  refine (impl_ok 32 x _ h h0 h1').mono ?_
  rintro e w1 ⟨rfl, hb1⟩
  have hT1 := h.below hb1
  go_wp2_with fail
  refine (sizes32 _ hT1).mono ?_
  rintro e w2 ⟨rfl, hb2⟩
  go_wp2_with (go_at_call 106; refine (sign32 _).mono ?_; rintro e w3 ⟨rfl, hb3⟩)
  go_ret
  exact ⟨rfl, (by repeat (first | exact bz0 _ _ | refine bz1 ?_ | refine bz2 ?_ _ | refine bz3 ?_ _ | refine bz4 ?_ hb3 | refine bz4 ?_ hb2 | refine bz4 ?_ hb1 | refine bz5 ?_ _ | refine bz6 ?_ _ | refine bz7 ?_ hb3 | refine bz7 ?_ hb2 | refine bz7 ?_ hb1))⟩
theorem impl_abs64 (x : Int) (w : World) (h : Tab w) (h0 : 0 ≤ x) (h1 : x < 18446744073709551616) :
    Calls Tryz.prog 51 #[.int .i64 64, .int .u64 x] w fun e w' => e = .returned (.int .u64 (x % 9223372036854775808)) ∧ Below w.heap.size w w' := by
  have hok : okF 64 x = true := by simp [okF, h1]
  have h1' : x < 18446744073709551616 := by omega
  have e : bits .andNot .u64 x 9223372036854775808 = x % 9223372036854775808 := by rw [Bt.andNot63 x h0 (by omega)]; omega
  go_enter Tryz.func51, Tryz.ntmps51
  go_wp2_with fail
  refine (impl_ok 64 x _ h h0 h1').mono ?_
  rintro e w1 ⟨rfl, hb1⟩
  have hT1 := h.below hb1
  go_wp2_with fail
  refine (sizes64 _ hT1).mono ?_
  rintro e w2 ⟨rfl, hb2⟩
  go_wp2_with (go_at_call 106; refine (sign64 _).mono ?_; rintro e w3 ⟨rfl, hb3⟩)
  go_ret
  exact ⟨rfl, (by repeat (first | exact bz0 _ _ | refine bz1 ?_ | refine bz2 ?_ _ | refine bz3 ?_ _ | refine bz4 ?_ hb3 | refine bz4 ?_ hb2 | refine bz4 ?_ hb1 | refine bz5 ?_ _ | refine bz6 ?_ _ | refine bz7 ?_ hb3 | refine bz7 ?_ hb2 | refine bz7 ?_ hb1))⟩
theorem impl_abs (fm x : Int) (w : World) (hT : Tab w) (h0 : 0 ≤ x) (h1 : x < 18446744073709551616) :
    Calls Tryz.prog 51 #[.int .i64 fm, .int .u64 x] w fun e w' => e = .returned (.int .u64 (absF fm x)) ∧ Below w.heap.size w w' := by
  cases h : okF fm x
  · rw [abs_no h]
    go_enter Tryz.func51, Tryz.ntmps51
    go_wp2_with (go_at_call 105; refine (impl_ok fm x _ hT h0 h1).mono ?_; rintro e w1 ⟨rfl, hb1⟩)
    go_ret
    exact ⟨rfl, (by repeat (first | exact bz0 _ _ | refine bz1 ?_ | refine bz2 ?_ _ | refine bz3 ?_ _ | refine bz4 ?_ hb1 | refine bz5 ?_ _ | refine bz6 ?_ _ | refine bz7 ?_ hb1))⟩
  · rcases okF_cases h with ⟨rfl, hx⟩ | rfl
    · rw [abs32 hx]; exact impl_abs32 x w hT h0 hx
    · rw [abs64]; exact impl_abs64 x w hT h0 h1
/-- Whether it has the sign. -/
def sigB (fm x : Int) : Bool := x != absF fm x
/-- Its place in the order. -/
def ordI (fm x : Int) : Int := if okF fm x then (if sigB fm x then -1 - absF fm x else absF fm x) else 0
theorem impl_sig (fm x : Int) (w : World) (hT : Tab w) (h0 : 0 ≤ x) (h1 : x < 18446744073709551616) :
    Calls Tryz.prog 84 #[.int .i64 fm, .int .u64 x] w fun e w' => e = .returned (.bool (sigB fm x)) ∧ Below w.heap.size w w' := by
  have HR : Hid ((x != absF fm x) = sigB fm x) := hid rfl
  go_enter Tryz.func84, Tryz.ntmps84
  go_wp2_with (go_at_call 51; refine (impl_abs fm x _ hT h0 h1).mono ?_; rintro e w1 ⟨rfl, hb1⟩)
  go_ret
  exact ⟨ret_bool HR.out, (by repeat (first | exact bz0 _ _ | refine bz1 ?_ | refine bz2 ?_ _ | refine bz3 ?_ _ | refine bz4 ?_ hb1 | refine bz5 ?_ _ | refine bz6 ?_ _ | refine bz7 ?_ hb1))⟩

theorem spec_l2abs (fm x : Int) (w : World) (h : okF fm x = true) (h0 : 0 ≤ x) (h1 : x < 18446744073709551616) :
    Calls Tryz.prog 123 #[.int .i64 fm, .int .u64 x] w fun e w' => e = .returned (.int .u64 (absF fm x)) ∧ Below w.heap.size w w' := by
  rcases okF_cases h with ⟨rfl, hx⟩ | rfl
  · have a31 : bits .andNot .u64 x 2147483648 = absF 32 x := by rw [Bt.andNot31 x h0 (by omega), abs32 hx]; omega
    go_enter Tryz.func123, Tryz.ntmps123
    go_wp2
    go_ret
    exact ⟨rfl, (by repeat (first | exact bz0 _ _ | refine bz1 ?_ | refine bz2 ?_ _ | refine bz3 ?_ _ | refine bz5 ?_ _ | refine bz6 ?_ _))⟩
  · have a31 : bits .andNot .u64 x 9223372036854775808 = absF 64 x := by rw [Bt.andNot63 x h0 (by omega), abs64]; omega
    go_enter Tryz.func123, Tryz.ntmps123
    go_wp2
    go_ret
    exact ⟨rfl, (by repeat (first | exact bz0 _ _ | refine bz1 ?_ | refine bz2 ?_ _ | refine bz3 ?_ _ | refine bz5 ?_ _ | refine bz6 ?_ _))⟩
theorem sig32 {x : Int} (hx : x < 4294967296) (h0 : 0 ≤ x) : sigB 32 x = (x / 2147483648 % 2 * 2147483648 != 0) := by
  unfold sigB; rw [abs32 hx]
  by_cases h : x < 2147483648
  · rw [show x % 2147483648 = x by omega, show x / 2147483648 % 2 = 0 by omega]; simp
  · rw [show x / 2147483648 % 2 = 1 by omega]; simp; omega
theorem sig64 {x : Int} (hx : x < 18446744073709551616) (h0 : 0 ≤ x) : sigB 64 x = (x / 9223372036854775808 % 2 * 9223372036854775808 != 0) := by
  unfold sigB; rw [abs64]
  by_cases h : x < 9223372036854775808
  · rw [show x % 9223372036854775808 = x by omega, show x / 9223372036854775808 % 2 = 0 by omega]; simp
  · rw [show x / 9223372036854775808 % 2 = 1 by omega]; simp; omega
theorem spec_l2neg (fm x : Int) (w : World) (h : okF fm x = true) (h0 : 0 ≤ x) (h1 : x < 18446744073709551616) :
    Calls Tryz.prog 136 #[.int .i64 fm, .int .u64 x] w fun e w' => e = .returned (.bool (sigB fm x)) ∧ Below w.heap.size w w' := by
  rcases okF_cases h with ⟨rfl, hx⟩ | rfl
  · have HS := hid (sig32 hx h0)
    have a31 := Bt.and31 x h0 (by omega)
    go_enter Tryz.func136, Tryz.ntmps136
    go_wp2
    go_ret
    exact ⟨ret_bool HS.out.symm, (by repeat (first | exact bz0 _ _ | refine bz1 ?_ | refine bz2 ?_ _ | refine bz3 ?_ _ | refine bz5 ?_ _ | refine bz6 ?_ _))⟩
  · have HS := hid (sig64 h1 h0)
    have a31 := Bt.and63 x h0 (by omega)
    go_enter Tryz.func136, Tryz.ntmps136
    go_wp2
    go_ret
    exact ⟨ret_bool HS.out.symm, (by repeat (first | exact bz0 _ _ | refine bz1 ?_ | refine bz2 ?_ _ | refine bz3 ?_ _ | refine bz5 ?_ _ | refine bz6 ?_ _))⟩
theorem clsY_rng (L I Q y : Int) : 0 ≤ clsY L I Q y ∧ clsY L I Q y ≤ 5 := by unfold clsY; repeat' split <;> omega
theorem cls_rng (fm x : Int) : -1 ≤ cls fm x ∧ cls fm x ≤ 5 := by
  unfold cls
  split
  · split
    · have := clsY_rng 8388608 2139095040 4194304 (x % 2147483648); omega
    · have := clsY_rng 4503599627370496 9218868437227405312 2251799813685248 (x % 9223372036854775808); omega
  · omega
/-- Finite; finite or infinity. -/
def finB (fm x : Int) : Bool := decide (0 ≤ cls fm x ∧ cls fm x ≤ 2)
def numB (fm x : Int) : Bool := decide (0 ≤ cls fm x ∧ cls fm x ≤ 3)

theorem impl_fin (fm x : Int) (w : World) (hT : Tab w) (h0 : 0 ≤ x) (h1 : x < 18446744073709551616) :
    Calls Tryz.prog 187 #[.int .i64 fm, .int .u64 x] w fun e w' => e = .returned (.bool (finB fm x)) ∧ Below w.heap.size w w' := by
  have ⟨r0, r1⟩ := cls_rng fm x
  by_cases hc : 0 ≤ cls fm x ∧ cls fm x ≤ 2
  · have HR : Hid (finB fm x = true) := hid (by unfold finB; simpa using hc)
    have h3 : cls fm x = 0 ∨ cls fm x = 1 ∨ cls fm x = 2 := by omega
    have H3 := hid h3
    clear h3 hc
    rcases H3.out with c | c | c
    all_goals
      go_enter Tryz.func187, Tryz.ntmps187
      go_wp2_with fail
      refine (impl_cls fm x _ hT h0 h1).mono ?_
      rintro e w1 ⟨rfl, hb1⟩
      go_wp2
      go_ret
      exact ⟨ret_bool HR.out.symm, (by repeat (first | exact bz0 _ _ | refine bz1 ?_ | refine bz2 ?_ _ | refine bz3 ?_ _ | refine bz4 ?_ hb1 | refine bz5 ?_ _ | refine bz6 ?_ _ | refine bz7 ?_ hb1))⟩
  · have HR : Hid (finB fm x = false) := hid (by unfold finB; simpa using hc)
    have n0 : (cls fm x == 0) = false := by rw [beq_eq_false_iff_ne]; omega
    have n1 : (cls fm x == 1) = false := by rw [beq_eq_false_iff_ne]; omega
    have n2 : (cls fm x == 2) = false := by rw [beq_eq_false_iff_ne]; omega
    clear hc
    go_enter Tryz.func187, Tryz.ntmps187
    go_wp2_with fail
    refine (impl_cls fm x _ hT h0 h1).mono ?_
    rintro e w1 ⟨rfl, hb1⟩
    go_wp2
    go_ret
    exact ⟨ret_bool HR.out.symm, (by repeat (first | exact bz0 _ _ | refine bz1 ?_ | refine bz2 ?_ _ | refine bz3 ?_ _ | refine bz4 ?_ hb1 | refine bz5 ?_ _ | refine bz6 ?_ _ | refine bz7 ?_ hb1))⟩
/-- How two floats compare. -/
def cmpF (fm a b : Int) : Int := if numB fm a && numB fm b then (if cls fm a == 0 && cls fm b == 0 then 0 else cmpI (ordI fm a) (ordI fm b)) else 2
/-- Infinity's bits. -/
def infOf (fm : Int) : Int := if fm = 32 then 2139095040 else 9218868437227405312
def nanB (fm x : Int) : Bool := decide (infOf fm < absF fm x)
theorem spec_inf32 (w : World) :
    Calls Tryz.prog 124 #[.int .i64 32] w fun e w' => e = .returned (.int .u64 (infOf 32)) ∧ Below w.heap.size w w' := by
  have HR : Hid (infOf 32 = 2139095040) := hid rfl
  go_enter Tryz.func124, Tryz.ntmps124
  go_wp2
  go_ret
  exact ⟨ret_int HR.out.symm, (by repeat (first | exact bz0 _ _ | refine bz1 ?_ | refine bz2 ?_ _ | refine bz3 ?_ _ | refine bz5 ?_ _ | refine bz6 ?_ _))⟩
theorem spec_inf64 (w : World) :
    Calls Tryz.prog 124 #[.int .i64 64] w fun e w' => e = .returned (.int .u64 (infOf 64)) ∧ Below w.heap.size w w' := by
  have HR : Hid (infOf 64 = 9218868437227405312) := hid rfl
  go_enter Tryz.func124, Tryz.ntmps124
  go_wp2
  go_ret
  exact ⟨ret_int HR.out.symm, (by repeat (first | exact bz0 _ _ | refine bz1 ?_ | refine bz2 ?_ _ | refine bz3 ?_ _ | refine bz5 ?_ _ | refine bz6 ?_ _))⟩
theorem spec_inf (fm x : Int) (w : World) (h : okF fm x = true) :
    Calls Tryz.prog 124 #[.int .i64 fm] w fun e w' => e = .returned (.int .u64 (infOf fm)) ∧ Below w.heap.size w w' := by
  rcases okF_cases h with ⟨rfl, hx⟩ | rfl
  · exact spec_inf32 w
  · exact spec_inf64 w
def nanOf (fm : Int) : Int := if fm = 32 then 2143289344 else 9221120237041090560
/-- M and E of a finite float whose bits without sign are y. -/
def parM (L y : Int) : Int := if y / L = 0 then y % L else y % L + L
def parE (L q y : Int) : Int := if y / L = 0 then q else q + y / L - 1

theorem Tab.al {w : World} (h : Tab w) (o : Obj) : Tab (w.alloc o) := h.below ((Below.refl _ _).alloc (Nat.le_refl _) _)
theorem Tab.dr {w : World} (h : Tab w) : Tab w.drew := ⟨h.c0, h.c1, h.c2, h.c3, h.c4, h.c5, h.c6, h.c7, h.c8⟩
/-- A box of three cells that may be written. -/
structure R3 (w : World) (b : Nat) (v0 v1 v2 : Value) : Prop where
  c0 : w.cell? ⟨b, 0, none⟩ = some v0
  c1 : w.cell? ⟨b, 1, none⟩ = some v1
  c2 : w.cell? ⟨b, 2, none⟩ = some v2
  f0 : w.frozen? ⟨b, 0, none⟩ = false
  f1 : w.frozen? ⟨b, 1, none⟩ = false
  f2 : w.frozen? ⟨b, 2, none⟩ = false
theorem R3.below {w w' : World} {b : Nat} {v0 v1 v2 : Value} (h : R3 w b v0 v1 v2) (hb : Below w.heap.size w w') : R3 w' b v0 v1 v2 := by
  have hlt := World.block_lt_of_cell? w _ h.c0
  exact ⟨(hb.cell (p := ⟨b, 0, none⟩) hlt).trans h.c0, (hb.cell (p := ⟨b, 1, none⟩) hlt).trans h.c1, (hb.cell (p := ⟨b, 2, none⟩) hlt).trans h.c2,
    (hb.frozen (p := ⟨b, 0, none⟩) hlt).trans h.f0, (hb.frozen (p := ⟨b, 1, none⟩) hlt).trans h.f1, (hb.frozen (p := ⟨b, 2, none⟩) hlt).trans h.f2⟩
theorem R3.new (w : World) (v0 v1 v2 : Value) (t : TypeId) : R3 (w.alloc (.cells #[v0, v1, v2] t)) w.heap.size v0 v1 v2 := ⟨by simp, by simp, by simp, by simp, by simp, by simp⟩
theorem R3.dr {w : World} {b : Nat} {v0 v1 v2 : Value} (h : R3 w b v0 v1 v2) : R3 w.drew b v0 v1 v2 := ⟨h.c0, h.c1, h.c2, h.f0, h.f1, h.f2⟩
theorem R3.al {w : World} {b : Nat} {v0 v1 v2 : Value} (h : R3 w b v0 v1 v2) (o : Obj) : R3 (w.alloc o) b v0 v1 v2 := h.below ((Below.refl _ _).alloc (Nat.le_refl _) _)

theorem R3.other {w : World} {b : Nat} {v0 v1 v2 : Value} (h : R3 w b v0 v1 v2) {p : Addr} (hp : b ≠ p.block) (u : Value) : R3 (w.setCell p u) b v0 v1 v2 := by
  have e := Below.heap_setCell w p u b hp
  exact ⟨(World.cell?_of_block (a := ⟨b, 0, none⟩) e).trans h.c0, (World.cell?_of_block (a := ⟨b, 1, none⟩) e).trans h.c1, (World.cell?_of_block (a := ⟨b, 2, none⟩) e).trans h.c2,
    (World.frozen?_of_block (a := ⟨b, 0, none⟩) e).trans h.f0, (World.frozen?_of_block (a := ⟨b, 1, none⟩) e).trans h.f1, (World.frozen?_of_block (a := ⟨b, 2, none⟩) e).trans h.f2⟩
theorem R3.set {w : World} {b : Nat} {v0 v1 v2 : Value} (h : R3 w b v0 v1 v2) (a0 a1 a2 : Value) : R3 (((w.setCell ⟨b, 0, none⟩ a0).setCell ⟨b, 1, none⟩ a1).setCell ⟨b, 2, none⟩ a2) b a0 a1 a2 := by
  obtain ⟨h0, h1, h2, f0, f1, f2⟩ := h
  exact ⟨by simp [go_sem, h0, h1, h2], by simp [go_sem, h0, h1, h2], by simp [go_sem, h0, h1, h2], by simp [go_sem, f0, f1, f2], by simp [go_sem, f0, f1, f2], by simp [go_sem, f0, f1, f2]⟩
theorem ret_parts {s : Bool} {a b a' b' : Int} (h : a = a') (k : b = b') : Ending.returned (.tuple #[.agg #[.bool s, .int .i64 a, .int .i64 b], .bool true]) = .returned (.tuple #[.agg #[.bool s, .int .i64 a', .int .i64 b'], .bool true]) := by rw [h, k]

theorem impl_parts32 (x : Int) (w : World) (hT : Tab w) (hf : finB 32 x = true) (h0 : 0 ≤ x) (h1 : x < 4294967296) (hi : x % 2147483648 < 2139095040) :
    Calls Tryz.prog 109 #[.int .i64 32, .int .u64 x] w fun e w' => e = .returned (.tuple #[.agg #[.bool (sigB 32 x), .int .i64 (parM 8388608 (x % 2147483648)), .int .i64 (parE 8388608 (-149) (x % 2147483648))], .bool true]) ∧ Below w.heap.size w w' := by
  have h1' : x < 18446744073709551616 := by omega
  have HM : Hid (x / 8388608 % 256 = x % 2147483648 / 8388608) := hid (by omega)
  have HN : Hid (x % 8388608 = x % 2147483648 % 8388608) := hid (by omega)
  have hxl : x % 8388608 < 8388608 := by omega
  have hxl0 : 0 ≤ x % 8388608 := by omega
  have hzb : x / 8388608 % 256 < 256 := by omega
  have hzb0 : 0 ≤ x / 8388608 % 256 := by omega
  have hwr : IntKind.i64.wrap (x % 8388608) = x % 8388608 := by rw [IntKind.wrap_i64]; omega
  go_enter Tryz.func109, Tryz.ntmps109
  go_wp2_with fail
  refine (impl_fin 32 x _ (hT.al _) h0 h1').mono ?_
  rintro e w1 ⟨rfl, hb1⟩
  have hT1 := (hT.al _).below hb1
  have r1 := (R3.new w _ _ _ _).below hb1
  go_wp2_with fail
  refine (sizes32 _ hT1).mono ?_
  rintro e w2 ⟨rfl, hb2⟩
  have hT2 := (hT1.below hb2).al (.cells #[.int .u64 23, .int .u64 255, .int .i64 (-149)] 101)
  have r2 := (r1.below hb2).al (.cells #[.int .u64 23, .int .u64 255, .int .i64 (-149)] 101)
  go_wp2_with fail
  refine (parted32 x _ h0 h1').mono ?_
  rintro e w3 ⟨rfl, hb3⟩
  have hT3 := hT2.below hb3
  have r3 := r2.below hb3
  have z3 : R3 w3 w2.heap.size (.int .u64 23) (.int .u64 255) (.int .i64 (-149)) := (R3.new w2 (.int .u64 23) (.int .u64 255) (.int .i64 (-149)) 101).below hb3
  have z30 := z3.c0; have z31 := z3.c1; have z32 := z3.c2
  have l3 : w2.heap.size < w3.heap.size := World.block_lt_of_cell? w3 _ z30
  have l3' : w.heap.size < w3.heap.size := World.block_lt_of_cell? w3 _ r3.c0
  have l3'' : w.heap.size < w2.heap.size := Nat.lt_of_lt_of_le (World.block_lt_of_cell? w1 _ r1.c0) hb2.size
  go_upto_region 5 with fail
  go_cut [10] (fun s wx => ∃ g : Nat, s = .pointer (some ⟨g, 0, none⟩) ∧ w3.heap.size ≤ g ∧ R3 wx g (.bool (sigB 32 x)) (.int .i64 (x % 8388608)) (.int .i64 (-149)) ∧ R3 wx w.heap.size (.bool false) (.int .i64 0) (.int .i64 0) ∧ R3 wx w2.heap.size (.int .u64 23) (.int .u64 255) (.int .i64 (-149)) ∧ Below w.heap.size w wx)
  case first =>
    go_region_with (first
      | (go_at_call 84; refine (impl_sig 32 x _ hT3.dr h0 h1').mono ?_; rintro e w4 ⟨rfl, hb4⟩; have rr4 := r3.dr.below hb4; have zz4 := z3.dr.below hb4; have l4s : w3.heap.size ≤ w4.heap.size := hb4.size; obtain ⟨zc0, zc1, zc2, zf0, zf1, zf2⟩ := zz4; have l4 : w2.heap.size < w4.heap.size := World.block_lt_of_cell? w4 _ zc0)
      | (go_at_call 84; refine (impl_sig 32 x _ (hT3.al _).dr h0 h1').mono ?_; rintro e w4 ⟨rfl, hb4⟩; have rr4 := (r3.al _).dr.below hb4; have zz4 := (z3.al _).dr.below hb4; obtain ⟨zc0, zc1, zc2, zf0, zf1, zf2⟩ := zz4; obtain ⟨pc0, pc1, pc2, pf0, pf1, pf2⟩ := (R3.new w3 _ _ _ _).dr.below hb4; have l4 : w2.heap.size < w4.heap.size := World.block_lt_of_cell? w4 _ zc0))
    all_goals (go_wp2_with fail; go_meet)
    all_goals first
      | exact ⟨w4.heap.size, rfl, l4s, R3.new w4 _ _ _ _, rr4.al _, R3.al ⟨zc0, zc1, zc2, zf0, zf1, zf2⟩ _, (by repeat (first | exact bz0 _ _ | refine bz1 ?_ | refine bz2 ?_ _ | refine bz3 ?_ _ | refine bz4 ?_ hb4 | refine bz4 ?_ hb3 | refine bz4 ?_ hb2 | refine bz4 ?_ hb1 | refine bz5 ?_ _ | refine bz6 ?_ _ | refine bz7 ?_ hb4 | refine bz7 ?_ hb3 | refine bz7 ?_ hb2 | refine bz7 ?_ hb1))⟩
      | exact ⟨w3.heap.size, rfl, Nat.le_refl _, R3.set ⟨pc0, pc1, pc2, pf0, pf1, pf2⟩ _ _ _, ((rr4.other (by simp; omega) _).other (by simp; omega) _).other (by simp; omega) _, ((R3.other ⟨zc0, zc1, zc2, zf0, zf1, zf2⟩ (by simp; omega) _).other (by simp; omega) _).other (by simp; omega) _, (by repeat (first | exact bz0 _ _ | refine bz1 ?_ | refine bz2 ?_ _ | refine bz3 ?_ _ | refine bz4 ?_ hb4 | refine bz4 ?_ hb3 | refine bz4 ?_ hb2 | refine bz4 ?_ hb1 | refine bz5 ?_ _ | refine bz6 ?_ _ | refine bz7 ?_ hb4 | refine bz7 ?_ hb3 | refine bz7 ?_ hb2 | refine bz7 ?_ hb1))⟩
  case rest =>
  obtain ⟨g, rfl, hg, pg, pr, pz, hbel⟩ := hcut
  obtain ⟨p0, p1, p2, q0, q1, q2⟩ := pg
  obtain ⟨rc0, rc1, rc2, rf0, rf1, rf2⟩ := pr
  obtain ⟨zc0, zc1, zc2, zf0, zf1, zf2⟩ := pz
  have hgw : w.heap.size < g := by omega
  have hgw2 : w2.heap.size < g := by omega
  by_cases hz : x / 8388608 % 256 = 0
  · have HP : Hid (x % 8388608 = parM 8388608 (x % 2147483648)) := hid (by unfold parM; rw [← HM.out, if_pos hz]; exact HN.out)
    have HQ : Hid ((-149) = parE 8388608 (-149) (x % 2147483648)) := hid (by unfold parE; rw [← HM.out, if_pos hz])
    have hz' : ¬ 0 < x / 8388608 % 256 := by omega
    clear hz
    go_wp2
    exact bodyPost_ret (v := .tuple #[.agg #[.bool (sigB 32 x), .int .i64 (x % 8388608), .int .i64 (-149)], .bool true]) (by simp [results, Tryz.results109, go_sem, rc0, rc1, rc2, hgw]) rfl ⟨ret_parts HP.out HQ.out, (by repeat (first | exact bz0 _ _ | refine bz1 ?_ | refine bz2 ?_ _ | refine bz3 ?_ _ | refine bz4 ?_ hbel | refine bz5 ?_ _ | refine bz6 ?_ _ | refine bz7 ?_ hbel))⟩
  · have HP : Hid (x % 8388608 + 8388608 = parM 8388608 (x % 2147483648)) := hid (by unfold parM; rw [← HM.out, if_neg hz, ← HN.out])
    have HQ : Hid ((-149) + (x / 8388608 % 256 - 1) = parE 8388608 (-149) (x % 2147483648)) := hid (by unfold parE; rw [← HM.out, if_neg hz]; omega)
    have hz' : 0 < x / 8388608 % 256 := by omega
    clear hz
    go_wp2
    exact bodyPost_ret (v := .tuple #[.agg #[.bool (sigB 32 x), .int .i64 (x % 8388608 + 8388608), .int .i64 ((-149) + (x / 8388608 % 256 - 1))], .bool true]) (by simp [results, Tryz.results109, go_sem, rc0, rc1, rc2, hgw]) rfl ⟨ret_parts HP.out HQ.out, (by repeat (first | exact bz0 _ _ | refine bz1 ?_ | refine bz2 ?_ _ | refine bz3 ?_ _ | refine bz4 ?_ hbel | refine bz5 ?_ _ | refine bz6 ?_ _ | refine bz7 ?_ hbel))⟩
theorem impl_parts64 (x : Int) (w : World) (hT : Tab w) (hf : finB 64 x = true) (h0 : 0 ≤ x) (h1 : x < 18446744073709551616) (hi : x % 9223372036854775808 < 9218868437227405312) :
    Calls Tryz.prog 109 #[.int .i64 64, .int .u64 x] w fun e w' => e = .returned (.tuple #[.agg #[.bool (sigB 64 x), .int .i64 (parM 4503599627370496 (x % 9223372036854775808)), .int .i64 (parE 4503599627370496 (-1074) (x % 9223372036854775808))], .bool true]) ∧ Below w.heap.size w w' := by
  have h1' : x < 18446744073709551616 := by omega
  have HM : Hid (x / 4503599627370496 % 2048 = x % 9223372036854775808 / 4503599627370496) := hid (by omega)
  have HN : Hid (x % 4503599627370496 = x % 9223372036854775808 % 4503599627370496) := hid (by omega)
  have hxl : x % 4503599627370496 < 4503599627370496 := by omega
  have hxl0 : 0 ≤ x % 4503599627370496 := by omega
  have hzb : x / 4503599627370496 % 2048 < 2048 := by omega
  have hzb0 : 0 ≤ x / 4503599627370496 % 2048 := by omega
  have hwr : IntKind.i64.wrap (x % 4503599627370496) = x % 4503599627370496 := by rw [IntKind.wrap_i64]; omega
  go_enter Tryz.func109, Tryz.ntmps109
  go_wp2_with fail
  refine (impl_fin 64 x _ (hT.al _) h0 h1').mono ?_
  rintro e w1 ⟨rfl, hb1⟩
  have hT1 := (hT.al _).below hb1
  have r1 := (R3.new w _ _ _ _).below hb1
  go_wp2_with fail
  refine (sizes64 _ hT1).mono ?_
  rintro e w2 ⟨rfl, hb2⟩
  have hT2 := (hT1.below hb2).al (.cells #[.int .u64 52, .int .u64 2047, .int .i64 (-1074)] 101)
  have r2 := (r1.below hb2).al (.cells #[.int .u64 52, .int .u64 2047, .int .i64 (-1074)] 101)
  go_wp2_with fail
  refine (parted64 x _ h0 h1').mono ?_
  rintro e w3 ⟨rfl, hb3⟩
  have hT3 := hT2.below hb3
  have r3 := r2.below hb3
  have z3 : R3 w3 w2.heap.size (.int .u64 52) (.int .u64 2047) (.int .i64 (-1074)) := (R3.new w2 (.int .u64 52) (.int .u64 2047) (.int .i64 (-1074)) 101).below hb3
  have z30 := z3.c0; have z31 := z3.c1; have z32 := z3.c2
  have l3 : w2.heap.size < w3.heap.size := World.block_lt_of_cell? w3 _ z30
  have l3' : w.heap.size < w3.heap.size := World.block_lt_of_cell? w3 _ r3.c0
  have l3'' : w.heap.size < w2.heap.size := Nat.lt_of_lt_of_le (World.block_lt_of_cell? w1 _ r1.c0) hb2.size
  go_upto_region 5 with fail
  go_cut [10] (fun s wx => ∃ g : Nat, s = .pointer (some ⟨g, 0, none⟩) ∧ w3.heap.size ≤ g ∧ R3 wx g (.bool (sigB 64 x)) (.int .i64 (x % 4503599627370496)) (.int .i64 (-1074)) ∧ R3 wx w.heap.size (.bool false) (.int .i64 0) (.int .i64 0) ∧ R3 wx w2.heap.size (.int .u64 52) (.int .u64 2047) (.int .i64 (-1074)) ∧ Below w.heap.size w wx)
  case first =>
    go_region_with (first
      | (go_at_call 84; refine (impl_sig 64 x _ hT3.dr h0 h1').mono ?_; rintro e w4 ⟨rfl, hb4⟩; have rr4 := r3.dr.below hb4; have zz4 := z3.dr.below hb4; have l4s : w3.heap.size ≤ w4.heap.size := hb4.size; obtain ⟨zc0, zc1, zc2, zf0, zf1, zf2⟩ := zz4; have l4 : w2.heap.size < w4.heap.size := World.block_lt_of_cell? w4 _ zc0)
      | (go_at_call 84; refine (impl_sig 64 x _ (hT3.al _).dr h0 h1').mono ?_; rintro e w4 ⟨rfl, hb4⟩; have rr4 := (r3.al _).dr.below hb4; have zz4 := (z3.al _).dr.below hb4; obtain ⟨zc0, zc1, zc2, zf0, zf1, zf2⟩ := zz4; obtain ⟨pc0, pc1, pc2, pf0, pf1, pf2⟩ := (R3.new w3 _ _ _ _).dr.below hb4; have l4 : w2.heap.size < w4.heap.size := World.block_lt_of_cell? w4 _ zc0))
    all_goals (go_wp2_with fail; go_meet)
    all_goals first
      | exact ⟨w4.heap.size, rfl, l4s, R3.new w4 _ _ _ _, rr4.al _, R3.al ⟨zc0, zc1, zc2, zf0, zf1, zf2⟩ _, (by repeat (first | exact bz0 _ _ | refine bz1 ?_ | refine bz2 ?_ _ | refine bz3 ?_ _ | refine bz4 ?_ hb4 | refine bz4 ?_ hb3 | refine bz4 ?_ hb2 | refine bz4 ?_ hb1 | refine bz5 ?_ _ | refine bz6 ?_ _ | refine bz7 ?_ hb4 | refine bz7 ?_ hb3 | refine bz7 ?_ hb2 | refine bz7 ?_ hb1))⟩
      | exact ⟨w3.heap.size, rfl, Nat.le_refl _, R3.set ⟨pc0, pc1, pc2, pf0, pf1, pf2⟩ _ _ _, ((rr4.other (by simp; omega) _).other (by simp; omega) _).other (by simp; omega) _, ((R3.other ⟨zc0, zc1, zc2, zf0, zf1, zf2⟩ (by simp; omega) _).other (by simp; omega) _).other (by simp; omega) _, (by repeat (first | exact bz0 _ _ | refine bz1 ?_ | refine bz2 ?_ _ | refine bz3 ?_ _ | refine bz4 ?_ hb4 | refine bz4 ?_ hb3 | refine bz4 ?_ hb2 | refine bz4 ?_ hb1 | refine bz5 ?_ _ | refine bz6 ?_ _ | refine bz7 ?_ hb4 | refine bz7 ?_ hb3 | refine bz7 ?_ hb2 | refine bz7 ?_ hb1))⟩
  case rest =>
  obtain ⟨g, rfl, hg, pg, pr, pz, hbel⟩ := hcut
  obtain ⟨p0, p1, p2, q0, q1, q2⟩ := pg
  obtain ⟨rc0, rc1, rc2, rf0, rf1, rf2⟩ := pr
  obtain ⟨zc0, zc1, zc2, zf0, zf1, zf2⟩ := pz
  have hgw : w.heap.size < g := by omega
  have hgw2 : w2.heap.size < g := by omega
  by_cases hz : x / 4503599627370496 % 2048 = 0
  · have HP : Hid (x % 4503599627370496 = parM 4503599627370496 (x % 9223372036854775808)) := hid (by unfold parM; rw [← HM.out, if_pos hz]; exact HN.out)
    have HQ : Hid ((-1074) = parE 4503599627370496 (-1074) (x % 9223372036854775808)) := hid (by unfold parE; rw [← HM.out, if_pos hz])
    have hz' : ¬ 0 < x / 4503599627370496 % 2048 := by omega
    clear hz
    go_wp2
    exact bodyPost_ret (v := .tuple #[.agg #[.bool (sigB 64 x), .int .i64 (x % 4503599627370496), .int .i64 (-1074)], .bool true]) (by simp [results, Tryz.results109, go_sem, rc0, rc1, rc2, hgw]) rfl ⟨ret_parts HP.out HQ.out, (by repeat (first | exact bz0 _ _ | refine bz1 ?_ | refine bz2 ?_ _ | refine bz3 ?_ _ | refine bz4 ?_ hbel | refine bz5 ?_ _ | refine bz6 ?_ _ | refine bz7 ?_ hbel))⟩
  · have HP : Hid (x % 4503599627370496 + 4503599627370496 = parM 4503599627370496 (x % 9223372036854775808)) := hid (by unfold parM; rw [← HM.out, if_neg hz, ← HN.out])
    have HQ : Hid ((-1074) + (x / 4503599627370496 % 2048 - 1) = parE 4503599627370496 (-1074) (x % 9223372036854775808)) := hid (by unfold parE; rw [← HM.out, if_neg hz]; omega)
    have hz' : 0 < x / 4503599627370496 % 2048 := by omega
    clear hz
    go_wp2
    exact bodyPost_ret (v := .tuple #[.agg #[.bool (sigB 64 x), .int .i64 (x % 4503599627370496 + 4503599627370496), .int .i64 ((-1074) + (x / 4503599627370496 % 2048 - 1))], .bool true]) (by simp [results, Tryz.results109, go_sem, rc0, rc1, rc2, hgw]) rfl ⟨ret_parts HP.out HQ.out, (by repeat (first | exact bz0 _ _ | refine bz1 ?_ | refine bz2 ?_ _ | refine bz3 ?_ _ | refine bz4 ?_ hbel | refine bz5 ?_ _ | refine bz6 ?_ _ | refine bz7 ?_ hbel))⟩
end Go.Proofs.YtbhfbaogmkgmiaaGreatDoor
