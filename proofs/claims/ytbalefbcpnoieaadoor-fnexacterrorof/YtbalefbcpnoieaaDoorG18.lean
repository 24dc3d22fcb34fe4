/-
  Several texts in one: FloatL, FloatM, RB, ModeA, RC, RD, IA.
-/
import Derived.Test.YtbalefbcpnoieaaDoorG17
import Derived.Test.YtbalefbcpnoieaaDoorG14
import Derived.Deep.RegionWith
import Derived.Deep.DeepCutAuto
import Derived.Test.YtbalefbcpnoieaaDoorRows
import Derived.Test.YtbalefbcpnoieaaDoorG00
import Derived.WalkKit
import Derived.WalkSpells
import Derived.WalkLawsBesides
import Derived.Deep.RegionHeld3
import Derived.Test.YtbalefbcpnoieaaDoorG13
import Derived.Test.YtbalefbcpnoieaaDoorG12
import Derived.Lib.TrailingZeros
/-
  Floats: the next one up.
-/
namespace Go.Proofs.YtbalefbcpnoieaaDoor
set_option linter.unusedVariables false
set_option linter.unusedSimpArgs false
open Go.RowKit
def nanOf (fm : Int) : Int := if fm = 32 then 2143289344 else 9221120237041090560
/-- The next float up. -/
def upF (fm x : Int) : Int := if okF fm x then (if nanB fm x then nanOf fm else if absF fm x == 0 then 1 else if sigB fm x then x - 1 else if x == infOf fm then x else x + 1) else 0
theorem up_no {fm x : Int} (h : okF fm x = false) : upF fm x = 0 := by unfold upF; rw [h]; rfl
theorem up_nan {fm x : Int} (h : okF fm x = true) (h1 : nanB fm x = true) : upF fm x = nanOf fm := by unfold upF; rw [h, h1]; rfl
theorem up_zero {fm x : Int} (h : okF fm x = true) (h1 : nanB fm x = false) (h2 : (absF fm x == 0) = true) : upF fm x = 1 := by unfold upF; rw [h, h1, h2]; rfl
theorem up_neg {fm x : Int} (h : okF fm x = true) (h1 : nanB fm x = false) (h2 : (absF fm x == 0) = false) (h3 : sigB fm x = true) : upF fm x = x - 1 := by unfold upF; rw [h, h1, h2, h3]; rfl
theorem up_inf {fm x : Int} (h : okF fm x = true) (h1 : nanB fm x = false) (h2 : (absF fm x == 0) = false) (h3 : sigB fm x = false) (h4 : (x == infOf fm) = true) : upF fm x = x := by unfold upF; rw [h, h1, h2, h3, h4]; rfl
theorem up_pos {fm x : Int} (h : okF fm x = true) (h1 : nanB fm x = false) (h2 : (absF fm x == 0) = false) (h3 : sigB fm x = false) (h4 : (x == infOf fm) = false) : upF fm x = x + 1 := by unfold upF; rw [h, h1, h2, h3, h4]; rfl
/-- The classes, told by the bits without sign. -/
theorem cls_nan {fm x : Int} (h : okF fm x = true) (h1 : nanB fm x = true) : cls fm x = 4 ∨ cls fm x = 5 := by
  have r := cls_rng fm x
  have n := num_nan h
  rw [h1] at n
  unfold numB at n
  simp at n
  have z := cls_zero h
  rcases okF_cases h with ⟨rfl, hx⟩ | rfl
  · have := clsY_rng 8388608 2139095040 4194304 (x % 2147483648); rw [← cls32 hx] at this; omega
  · have := clsY_rng 4503599627370496 9218868437227405312 2251799813685248 (x % 9223372036854775808); rw [← cls64] at this; omega
theorem cls_num {fm x : Int} (h : okF fm x = true) (h1 : nanB fm x = false) : 0 ≤ cls fm x ∧ cls fm x ≤ 3 := by
  have n := num_nan h
  rw [h1] at n
  unfold numB at n
  simpa using n
theorem sig_inf {fm x : Int} (h : okF fm x = true) (h0 : 0 ≤ x) (k : sigB fm x = true) : (x == infOf fm) = false := by
  rcases okF_cases h with ⟨rfl, hx⟩ | rfl
  · unfold sigB at k; rw [abs32 hx] at k; unfold infOf; simp at k ⊢; omega
  · unfold sigB at k; rw [abs64] at k; unfold infOf; simp at k ⊢; omega
theorem up_bd {fm x : Int} (h : okF fm x = true) (h0 : 0 ≤ x) (h1 : nanB fm x = false) (h3 : sigB fm x = false) : x ≤ 9218868437227405312 := by
  rcases okF_cases h with ⟨rfl, hx⟩ | rfl
  · omega
  · unfold nanB infOf at h1; unfold sigB at h3; rw [abs64] at h1 h3; simp at h1 h3; omega
theorem up_bd' {fm x : Int} (h0 : 0 ≤ x) (h3 : sigB fm x = true) : 1 ≤ x := by
  unfold sigB at h3; have := abs_bd (fm := fm) h0; have := abs_le (fm := fm) h0; simp at h3; omega


end Go.Proofs.YtbalefbcpnoieaaDoor
/-
  Floats: the next one down.
-/
namespace Go.Proofs.YtbalefbcpnoieaaDoor
set_option linter.unusedVariables false
set_option linter.unusedSimpArgs false
open Go.RowKit
/-- The next float down. -/
def downF (fm x : Int) : Int := if numB fm x then negF fm (upF fm (negF fm x)) else upF fm x
theorem down_no {fm x : Int} (h : numB fm x = false) : downF fm x = upF fm x := by unfold downF; rw [h]; rfl
theorem down_num {fm x : Int} (h : numB fm x = true) : downF fm x = negF fm (upF fm (negF fm x)) := by unfold downF; rw [h]; rfl
theorem neg_ok {fm x : Int} (h : okF fm x = true) (h0 : 0 ≤ x) (h1 : x < 18446744073709551616) : okF fm (negF fm x) = true ∧ 0 ≤ negF fm x ∧ negF fm x < 18446744073709551616 := by
  rcases okF_cases h with ⟨rfl, hx⟩ | rfl
  · rw [neg32 hx]
    split
    · exact ⟨okF32 (by omega), by omega, by omega⟩
    · exact ⟨okF32 (by omega), by omega, by omega⟩
  · rw [neg64]
    split
    · exact ⟨okF64, by omega, by omega⟩
    · exact ⟨okF64, by omega, by omega⟩
theorem up_ok {fm x : Int} (h : okF fm x = true) (h0 : 0 ≤ x) (h1 : x < 18446744073709551616) : okF fm (upF fm x) = true ∧ 0 ≤ upF fm x ∧ upF fm x < 18446744073709551616 := by
  cases hn : nanB fm x
  rotate_left
  · rw [up_nan h hn]; rcases okF_cases h with ⟨rfl, hx⟩ | rfl <;> exact ⟨by decide, by decide, by decide⟩
  cases hz : (absF fm x == 0)
  rotate_left
  · rw [up_zero h hn hz]; rcases okF_cases h with ⟨rfl, hx⟩ | rfl <;> exact ⟨by decide, by decide, by decide⟩
  cases hs : sigB fm x
  · have bd := up_bd h h0 hn hs
    cases hi : (x == infOf fm)
    · rw [up_pos h hn hz hs hi]
      rcases okF_cases h with ⟨rfl, hx⟩ | rfl
      · unfold nanB infOf at hn; unfold sigB at hs; rw [abs32 hx] at hn hs; simp at hn hs
        exact ⟨okF32 (by omega), by omega, by omega⟩
      · exact ⟨okF64, by omega, by omega⟩
    · rw [up_inf h hn hz hs hi]; exact ⟨h, h0, h1⟩
  · have bd := up_bd' (fm := fm) h0 hs
    rw [up_neg h hn hz hs]
    rcases okF_cases h with ⟨rfl, hx⟩ | rfl
    · exact ⟨okF32 (by omega), by omega, by omega⟩
    · exact ⟨okF64, by omega, by omega⟩
theorem num_ok {fm x : Int} (h : numB fm x = true) : okF fm x = true := by
  cases ho : okF fm x
  · rw [num_no ho] at h; cases h
  · rfl

end Go.Proofs.YtbalefbcpnoieaaDoor
/-
  The float of so many units, by the specification.
-/
namespace Go.Proofs.YtbalefbcpnoieaaDoor
set_option linter.unusedVariables false
set_option linter.unusedSimpArgs false
open Go.RowKit Go.Deep
theorem sP_32 (w : World) :
    Calls Tryd.prog 95 #[.int .i64 32] w fun e w' => e = .returned (.int .i64 24) ∧ w' = w := by
  go_enter Tryd.func95, Tryd.ntmps95
  go_wp2
  go_ret
  exact ⟨rfl, rfl⟩
theorem sS_32 (w : World) :
    Calls Tryd.prog 77 #[.int .i64 32] w fun e w' => e = .returned (.int .u64 2147483648) ∧ Below w.heap.size w w' := by
  go_enter Tryd.func77, Tryd.ntmps77
  go_wp2
  go_ret
  exact ⟨rfl, (by repeat (first | exact Below.refl _ _ | refine Below.drew ?_ | refine bel_dn ?_ _ | refine bel_al ?_ _ | refine Below.setCell ?_ (by first | omega | (simp; done) | (simp; omega)) _ | refine Below.alloc ?_ (by first | omega | (simp; done) | (simp; omega)) _))⟩
theorem sQ_32 (w : World) :
    Calls Tryd.prog 69 #[.int .i64 32] w fun e w' => e = .returned (.int .i64 (-149)) ∧ w' = w := by
  go_enter Tryd.func69, Tryd.ntmps69
  go_wp2
  go_ret
  exact ⟨rfl, rfl⟩
theorem sP_64 (w : World) :
    Calls Tryd.prog 95 #[.int .i64 64] w fun e w' => e = .returned (.int .i64 53) ∧ w' = w := by
  go_enter Tryd.func95, Tryd.ntmps95
  go_wp2
  go_ret
  exact ⟨rfl, rfl⟩
theorem sS_64 (w : World) :
    Calls Tryd.prog 77 #[.int .i64 64] w fun e w' => e = .returned (.int .u64 9223372036854775808) ∧ Below w.heap.size w w' := by
  go_enter Tryd.func77, Tryd.ntmps77
  go_wp2
  go_ret
  exact ⟨rfl, (by repeat (first | exact Below.refl _ _ | refine Below.drew ?_ | refine bel_dn ?_ _ | refine bel_al ?_ _ | refine Below.setCell ?_ (by first | omega | (simp; done) | (simp; omega)) _ | refine Below.alloc ?_ (by first | omega | (simp; done) | (simp; omega)) _))⟩
theorem sQ_64 (w : World) :
    Calls Tryd.prog 69 #[.int .i64 64] w fun e w' => e = .returned (.int .i64 (-1074)) ∧ w' = w := by
  go_enter Tryd.func69, Tryd.ntmps69
  go_wp2
  go_ret
  exact ⟨rfl, rfl⟩
theorem cmp2_eq {x y : Nat} : Nm.cmp2 x y = 0 ↔ x = y := by unfold Nm.cmp2; split <;> (try split) <;> omega
/-- Two boxes kept, and what lies behind one. -/
theorem box2_below {w w' : World} {b b' : Nat} {v0 v1 u0 u1 : Value} (h : Box w b v0 v1) (k : Box w b' u0 u1) (hb : Below w.heap.size w w') : Box w' b v0 v1 ∧ Box w' b' u0 u1 := ⟨h.below hb, k.below hb⟩
end Go.Proofs.YtbalefbcpnoieaaDoor
/-
  Modes: whether a number is one, by the program and by the specification; the law.
-/
namespace Go.Proofs.YtbalefbcpnoieaaDoor
set_option linter.unusedVariables false
set_option linter.unusedSimpArgs false
open Go.RowKit
/-- Whether a number is a mode. -/
def modeB (m : Int) : Bool := decide (0 ≤ m) && decide (m ≤ 5)
/-- Whether a number lies between two. -/
def inB (n lo hi : Int) : Bool := decide (lo ≤ n) && decide (n ≤ hi)
set_option maxHeartbeats 400000 in
theorem in_spec (n lo hi : Int) (w : World) :
    Calls Tryd.prog 51 #[.int .i64 n, .int .i64 lo, .int .i64 hi] w fun e w' => e = .returned (.bool (inB n lo hi)) ∧ w' = w := by
  by_cases h1 : lo ≤ n
  · by_cases h2 : n ≤ hi
    · have HR : Hid (inB n lo hi = true) := hid (by simp [inB, h1, h2])
      go_enter Tryd.func51, Tryd.ntmps51
      go_wp2
      go_ret
      exact ⟨ret_bool HR.out.symm, rfl⟩
    · have HR : Hid (inB n lo hi = false) := hid (by simp [inB, h1, h2])
      go_enter Tryd.func51, Tryd.ntmps51
      go_wp2
      go_ret
      exact ⟨ret_bool HR.out.symm, rfl⟩
  · have HR : Hid (inB n lo hi = false) := hid (by simp [inB, h1])
    go_enter Tryd.func51, Tryd.ntmps51
    go_wp2
    go_ret
    exact ⟨ret_bool HR.out.symm, rfl⟩
theorem mode_spec (m : Int) (w : World) :
    Calls Tryd.prog 101 #[.int .i64 m] w fun e w' => e = .returned (.bool (modeB m)) ∧ w' = w := by
  go_enter Tryd.func101, Tryd.ntmps101
  go_wp2_with fail
  refine (in_spec m 0 5 _).mono ?_
  rintro e w1 ⟨rfl, rfl⟩
  go_wp2
  go_ret
  exact ⟨rfl, rfl⟩
theorem mode_impl (m : Int) (w : World) :
    Calls Tryd.prog 102 #[.int .i64 m] w fun e w' => e = .returned (.bool (modeB m)) ∧ w' = w := by
  by_cases h1 : 0 ≤ m
  · by_cases h2 : m ≤ 5
    · have HR : Hid (modeB m = true) := hid (by simp [modeB, h1, h2])
      go_enter Tryd.func102, Tryd.ntmps102
      go_wp2
      go_ret
      exact ⟨ret_bool HR.out.symm, rfl⟩
    · have HR : Hid (modeB m = false) := hid (by simp [modeB, h1, h2])
      go_enter Tryd.func102, Tryd.ntmps102
      go_wp2
      go_ret
      exact ⟨ret_bool HR.out.symm, rfl⟩
  · have HR : Hid (modeB m = false) := hid (by simp [modeB, h1])
    go_enter Tryd.func102, Tryd.ntmps102
    go_wp2
    go_ret
    exact ⟨ret_bool HR.out.symm, rfl⟩
end Go.Proofs.YtbalefbcpnoieaaDoor
/-
  What a mode says, and what is too great, by the specification.
-/
namespace Go.Proofs.YtbalefbcpnoieaaDoor
set_option linter.unusedVariables false
set_option linter.unusedSimpArgs false
open Go.RowKit Go.Deep
/-- Does what is cut off go away from 0? -/
def upB (mode : Int) (odd : Bool) (half : Int) (neg : Bool) : Bool :=
  if mode = 0 then decide (0 < half) || (decide (half = 0) && odd) else if mode = 2 then !neg else if mode = 3 then neg else if mode = 4 then decide (0 ≤ half) else if mode = 5 then decide (0 < half) else false
/-- What is too great: the greatest float? -/
def ovB (mode : Int) (neg : Bool) : Bool := decide (mode = 1) || (decide (mode = 2) && neg) || (decide (mode = 3) && !neg)
theorem mode_cases {m : Int} (h : modeB m = true) : m = 0 ∨ m = 1 ∨ m = 2 ∨ m = 3 ∨ m = 4 ∨ m = 5 := by
  simp [modeB] at h; omega
end Go.Proofs.YtbalefbcpnoieaaDoor
/-
  What is not 0, rounded, by the specification.
-/
namespace Go.Proofs.YtbalefbcpnoieaaDoor
set_option linter.unusedVariables false
set_option linter.unusedSimpArgs false
open Go.RowKit Go.Deep
/-- What is rounded: units, bits, flags. -/
def rdU (P : Nat) (q : Int) (mode : Int) (ng : Bool) (a : Nat) (e : Int) : Nat := Nm.rU P q a e (upB mode (((Nm.rm P q a e : Nat) : Int) % 2 == 1) (Nm.rh P q a e) ng)
def rdB (P : Nat) (q : Int) (I : Nat) (S : Int) (mode : Int) (ng : Bool) (a : Nat) (e : Int) : Int :=
  if Nm.flo P I (rdU P q mode ng a e) then sgn S (Nm.flb P (rdU P q mode ng a e) : Nat) ng else if ovB mode ng then sgn S ((I : Int) - 1) ng else sgn S I ng
def rdF (P : Nat) (q : Int) (I : Nat) (mode : Int) (ng : Bool) (a : Nat) (e : Int) : Int :=
  if Nm.flo P I (rdU P q mode ng a e) then (if Nm.rr P q a e = 0 then 0 else if (bitLen a : Int) + e ≤ (P : Int) - 1 + q then 3 else 1) else 5
/-- A wide in a box: the number x. -/
def WB (w : World) (b : Nat) (a : Option Addr) (c : Nat) (x : Nat) : Prop := R2 w b (.bool false) (.slice a (Nm.lim x).length c) ∧ Sl .u32 w (.slice a (Nm.lim x).length c) (Nm.lim x)
theorem WB.below {w w' : World} {b : Nat} {a : Option Addr} {c x : Nat} (h : WB w b a c x) (hb : Below w.heap.size w w') : WB w' b a c x := ⟨h.1.below hb, h.2.below hb⟩
theorem WB.new {w : World} {a : Option Addr} {c x : Nat} (h : Sl .u32 w (.slice a (Nm.lim x).length c) (Nm.lim x)) (t : TypeId) : WB (w.alloc (.cells #[.bool false, .slice a (Nm.lim x).length c] t)) w.heap.size a c x := ⟨R2.new w _ _ t, h.alloc _⟩
theorem WB.alloc {w : World} {b : Nat} {a : Option Addr} {c x : Nat} (h : WB w b a c x) (o : Obj) : WB (w.alloc o) b a c x := ⟨h.1.alloc o, h.2.alloc o⟩
theorem WB.drew {w : World} {b : Nat} {a : Option Addr} {c x : Nat} (h : WB w b a c x) : WB w.drew b a c x := ⟨h.1.drew, h.2.drew⟩
theorem WB.lt {w : World} {b : Nat} {a : Option Addr} {c x : Nat} (h : WB w b a c x) : b < w.heap.size := World.block_lt_of_cell? w _ h.1.c0
theorem Box.lt {w : World} {b : Nat} {v0 v1 : Value} (h : Box w b v0 v1) : b < w.heap.size := World.block_lt_of_cell? w _ h.1
theorem R2.box {w : World} {b : Nat} {v0 v1 : Value} (h : R2 w b v0 v1) : Box w b v0 v1 := ⟨h.c0, h.c1⟩
theorem four_b {W W' : World} {b b' : Nat} {v0 v1 u0 u1 : Value} (h0 : W.cell? ⟨b, 0, none⟩ = some v0) (h1 : W.cell? ⟨b, 1, none⟩ = some v1) (k0 : W.cell? ⟨b', 0, none⟩ = some u0) (k1 : W.cell? ⟨b', 1, none⟩ = some u1) (hb : Below W.heap.size W W') :
    W'.cell? ⟨b, 0, none⟩ = some v0 ∧ W'.cell? ⟨b, 1, none⟩ = some v1 ∧ W'.cell? ⟨b', 0, none⟩ = some u0 ∧ W'.cell? ⟨b', 1, none⟩ = some u1 := ⟨(Box.below ⟨h0, h1⟩ hb).1, (Box.below ⟨h0, h1⟩ hb).2, (Box.below ⟨k0, k1⟩ hb).1, (Box.below ⟨k0, k1⟩ hb).2⟩
attribute [local go_sem ↓] Go.wp_at_zero Go.wp_at_succ
theorem ret_ui {a a' b b' : Int} (h : a = a') (k : b = b') : Ending.returned (.tuple #[.int .u64 a, .int .i64 b]) = .returned (.tuple #[.int .u64 a', .int .i64 b']) := by rw [h, k]
theorem Nm.bl_sh (x : Nat) (n : Int) : bitLen (Nm.sh x n) ≤ bitLen x + n.toNat := by
  unfold Nm.sh
  split
  · have := Nm.bl_mono (Nat.div_le_self x (2 ^ (-n).toNat)); omega
  · by_cases h : x = 0
    · subst h; simp [Nm.bl_zero]
    · rw [Nm.bl_mul h]; omega
end Go.Proofs.YtbalefbcpnoieaaDoor
/-
  How often a number of 32 or 64 bits can be halved, how many bits one of 64 has, by Go's package bits.
-/
namespace Go.Proofs.YtbalefbcpnoieaaDoor
set_option linter.unusedVariables false
set_option linter.unusedSimpArgs false
open Go.RowKit Go.Deep
/-- A table of bytes in the block g. -/
def Tb (w : World) (g : Nat) (zs : List Nat) : Prop := ∀ i, i < zs.length → w.cell? ⟨g, i, none⟩ = some (.int .u8 ((zs.getD i 0 : Nat) : Int))
theorem Tb.below {w w' : World} {g : Nat} {zs : List Nat} (h : Tb w g zs) (hp : 0 < zs.length) (hb : Below w.heap.size w w') : Tb w' g zs := fun i hi =>
  (hb.cell (p := ⟨g, i, none⟩) (World.block_lt_of_cell? w ⟨g, i, none⟩ (h i hi))).trans (h i hi)
theorem nat_div_cast (a d n f : Nat) : (a : Int) * (d : Int) % (n : Int) / (f : Int) = ((a * d % n / f : Nat) : Int) := by simp
theorem ctz_tz (n x : Nat) (h0 : x ≠ 0) (h : x < 2 ^ n) : Lib.ctz n x = Nm.tz x := by
  obtain ⟨m, hm, hk⟩ := Lib.ctzFrom_spec n x (by omega) h
  have e : Lib.ctz n x = Lib.ctzFrom n x := by simp [Lib.ctz, h0]
  rw [e]
  generalize Lib.ctzFrom n x = t at *
  rw [hm, Nat.mul_comm]
  exact (Nm.tz_mul (by omega) t).symm
end Go.Proofs.YtbalefbcpnoieaaDoor
