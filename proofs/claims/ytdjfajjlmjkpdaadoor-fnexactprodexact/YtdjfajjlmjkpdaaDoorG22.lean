/-
  Several texts in one: VecC, WideR, WideU, LAdd, WideV, LNeg, WideN, Laid.
-/
import Derived.Test.YtdjfajjlmjkpdaaDoorG21
import Derived.Deep.RegionHeld3
import Derived.Test.YtdjfajjlmjkpdaaDoorG04
import Derived.Test.YtdjfajjlmjkpdaaDoorG07
import Derived.Deep.RegionWith
import Derived.Deep.DeepCutAuto
import Derived.Deep.DrawnRows
import Derived.Test.YtdjfajjlmjkpdaaDoorCards
import Derived.Test.YtdjfajjlmjkpdaaDoorTie
import Derived.Test.YtdjfajjlmjkpdaaDoorG10
import Derived.ProofKit
import Derived.OpenShut
import Derived.WalkSmall
import Derived.Deep.DeepHandedRow
import Derived.Deep.Strs
import Derived.Lib.LaidTab
/-
  What is wrong with vectors: by the specification; the law on vectors.
-/
namespace Go.Proofs.YtdjfajjlmjkpdaaDoor
set_option linter.unusedVariables false
set_option linter.unusedSimpArgs false
open Go.RowKit Go.Deep
/-- What is wrong with two vectors. -/
def vec2 (fm mode : Int) (xs ys : List Int) : Int := if fmtB fm && modeB mode then (if xs.length ≤ 300 ∧ ys.length ≤ 300 then (if xs.length = ys.length then (if allB fm xs && allB fm ys then 0 else 4) else 3) else 2) else 1
theorem vec2_self (fm mode : Int) (xs : List Int) : vec2 fm mode xs xs = vecC fm mode xs := by
  unfold vec2 vecC
  by_cases h : xs.length ≤ 300
  · simp [h]
  · simp [h]
theorem v2_form {fm mode : Int} {xs ys : List Int} (h : (fmtB fm && modeB mode) = false) : vec2 fm mode xs ys = 1 := by unfold vec2; rw [h]; rfl
theorem v2_many {fm mode : Int} {xs ys : List Int} (h : (fmtB fm && modeB mode) = true) (h' : 300 < xs.length ∨ 300 < ys.length) : vec2 fm mode xs ys = 2 := by unfold vec2; rw [h, if_pos rfl, if_neg (by omega)]
theorem v2_len {fm mode : Int} {xs ys : List Int} (h : (fmtB fm && modeB mode) = true) (h1 : xs.length ≤ 300) (h2 : ys.length ≤ 300) (h' : xs.length ≠ ys.length) : vec2 fm mode xs ys = 3 := by unfold vec2; rw [h, if_pos rfl, if_pos ⟨h1, h2⟩, if_neg h']
theorem v2_fits {fm mode : Int} {xs ys : List Int} (h : (fmtB fm && modeB mode) = true) (h1 : xs.length ≤ 300) (h2 : ys.length ≤ 300) (h' : xs.length = ys.length) : vec2 fm mode xs ys = if allB fm xs && allB fm ys then 0 else 4 := by unfold vec2; rw [h, if_pos rfl, if_pos ⟨h1, h2⟩, if_pos h']
set_option maxHeartbeats 4000000 in
set_option maxRecDepth 100000 in
theorem l8_fits (fm mode : Int) (a b : Option Addr) (cap cap' : Nat) (xs ys : List Int) (w : World) (hx : Sl .u64 w (.slice a xs.length cap) xs) (hy : Sl .u64 w (.slice b ys.length cap') ys) (hk : fmtB fm = true) (hm : modeB mode = true) (h1 : xs.length ≤ 300) (h2 : ys.length ≤ 300) (hl : xs.length = ys.length) :
    Calls Tryd.prog 76 #[.int .i64 fm, .int .i64 mode, .slice a xs.length cap, .slice b ys.length cap'] w fun e w' => e = .returned (.int .i64 (if allB fm xs && allB fm ys then 0 else 4)) ∧ Below w.heap.size w w' := by
  obtain ⟨-, hx1, hx2, hx3⟩ := hx.cells
  obtain ⟨-, hy1, hy2, hy3⟩ := hy.cells
  have CF := hid (fun w' => fmt_spec fm w')
  have CM := hid (fun w' => mode_spec mode w')
  rw [hk] at CF
  rw [hm] at CM
  have CO := hid (fun x w' => spec_ok fm x w')
  have hne : ((xs.length : Int) != (ys.length : Int)) = false := by simp [hl]
  have HL := hid hl
  have hl1 : xs.length ≤ ys.length := by omega
  have hl2 : ys.length ≤ xs.length := by omega
  clear hl hk hm
  obtain ⟨c, hc⟩ : ∃ c : Int, c = if allB fm xs && allB fm ys then 0 else 4 := ⟨_, rfl⟩
  rw [← hc]
  have HC1 : Hid (allB fm xs = false → c = 4) := hid (fun h => by rw [hc, h]; rfl)
  have HC2 : Hid (allB fm ys = false → c = 4) := hid (fun h => by rw [hc, h, Bool.and_false]; rfl)
  have HC3 : Hid (allB fm xs = true → allB fm ys = true → c = 0) := hid (fun h h' => by rw [hc, h, h']; rfl)
  clear hc
  go_enter Tryd.func76, Tryd.ntmps76
  go_wp2_with fail
  refine (CF.out _).mono ?_
  rintro e w1 ⟨rfl, rfl⟩
  go_wp2_with fail
  refine (CM.out _).mono ?_
  rintro e w2 ⟨rfl, rfl⟩
  go_wp2_with fail
  go_loopw [9] (fun i wr => ∃ k : Nat, k ≤ xs.length ∧ i = .int .i64 k ∧ (∀ j, j < k → okF fm (xs.getD j 0) = true ∧ okF fm (ys.getD j 0) = true) ∧ Below w2.heap.size w2 wr) (fun i _ => xs.length - (intOf i).toNat)
  case atStart => exact ⟨0, Nat.zero_le _, rfl, fun j hj => absurd hj (Nat.not_lt_zero _), Below.refl _ _⟩
  case round =>
    obtain ⟨k, hk, rfl, hpre, hb⟩ := hrel
    have PRE := hid hpre
    clear hpre
    by_cases hlt : k < xs.length
    · obtain ⟨g, off, rfl, hcx⟩ := hx3 (by omega)
      obtain ⟨g', off', rfl, hcy⟩ := hy3 (by omega)
      have c1 := hcx k hlt
      have c2 := hcy k (by omega)
      have c1 : wr.cell? ⟨g, off + k, none⟩ = some (.int .u64 (xs.getD k 0)) := (hb.cell (p := ⟨g, off + k, none⟩) (World.block_lt_of_cell? w2 _ c1)).trans c1
      have c2 : wr.cell? ⟨g', off' + k, none⟩ = some (.int .u64 (ys.getD k 0)) := (hb.cell (p := ⟨g', off' + k, none⟩) (World.block_lt_of_cell? w2 _ c2)).trans c2
      clear hx3 hy3 hcx hcy
      have hlt' : k < ys.length := by omega
      have HN1 := hid (allB_no (fm := fm) hlt)
      have HN2 := hid (allB_no (fm := fm) hlt')
      obtain ⟨x, hxk⟩ : ∃ x, x = xs.getD k 0 := ⟨_, rfl⟩
      obtain ⟨y, hyk⟩ : ∃ y, y = ys.getD k 0 := ⟨_, rfl⟩
      have PRE2 : Hid (okF fm x = true → okF fm y = true → ∀ j, j < k + 1 → okF fm (xs.getD j 0) = true ∧ okF fm (ys.getD j 0) = true) := hid (fun h h' j hj => by
        by_cases e : j = k
        · subst e; rw [← hxk, ← hyk]; exact ⟨h, h'⟩
        · exact PRE.out j (by omega))
      rw [← hxk] at c1 HN1
      rw [← hyk] at c2 HN2
      have C1 := hid (fun w' => CO.out x w')
      have C2 := hid (fun w' => CO.out y w')
      clear hxk hyk CO PRE
      cases ox : okF fm x with
      | false =>
        have HN := hid (HC1.out (HN1.out ox))
        rw [ox] at C1
        clear ox HN1 HN2 PRE2 C2
        go_wp2_with fail
        refine (C1.out _).mono ?_
        rintro e w3 ⟨rfl, hb3⟩
        go_wp2
        go_ret
        exact ⟨ret_int HN.out.symm, bel_go hb hb3⟩
      | true =>
      rw [ox] at C1
      cases oy : okF fm y with
      | false =>
        have HN := hid (HC2.out (HN2.out oy))
        rw [oy] at C2
        clear ox oy HN1 HN2 PRE2
        go_wp2_with fail
        refine (C1.out _).mono ?_
        rintro e w3 ⟨rfl, hb3⟩
        have c2 := (hb3.cell (p := ⟨g', off' + k, none⟩) (World.block_lt_of_cell? wr _ c2)).trans c2
        go_wp2_with fail
        refine (C2.out _).mono ?_
        rintro e w4 ⟨rfl, hb4⟩
        go_wp2
        go_ret
        exact ⟨ret_int HN.out.symm, bel_go (bel_go hb hb3) hb4⟩
      | true =>
        have PRE3 := hid (PRE2.out ox oy)
        rw [oy] at C2
        clear ox oy HN1 HN2 PRE2
        go_wp2_with fail
        refine (C1.out _).mono ?_
        rintro e w3 ⟨rfl, hb3⟩
        have c2 := (hb3.cell (p := ⟨g', off' + k, none⟩) (World.block_lt_of_cell? wr _ c2)).trans c2
        go_wp2_with fail
        refine (C2.out _).mono ?_
        rintro e w4 ⟨rfl, hb4⟩
        go_wp2
        go_roundw
        case rel => exact ⟨k + 1, by omega, by go_num, PRE3.out, bel_go (bel_go hb hb3) hb4⟩
        case measure => simp [intOf]; omega
    · obtain rfl : k = xs.length := by omega
      have HY := hid (HC3.out (allB_yes (fun j hj => (PRE.out j hj).1)) (allB_yes (fun j hj => (PRE.out j (by omega)).2)))
      clear hx3 hy3 CO PRE
      go_wp2
      go_ret
      exact ⟨ret_int HY.out.symm, hb⟩
set_option maxHeartbeats 4000000 in
theorem l8_spec (fm mode : Int) (a b : Option Addr) (cap cap' : Nat) (xs ys : List Int) (w : World) (hx : Sl .u64 w (.slice a xs.length cap) xs) (hy : Sl .u64 w (.slice b ys.length cap') ys) (hlx : xs.length ≤ 1048576) (hly : ys.length ≤ 1048576) :
    Calls Tryd.prog 76 #[.int .i64 fm, .int .i64 mode, .slice a xs.length cap, .slice b ys.length cap'] w fun e w' => e = .returned (.int .i64 (vec2 fm mode xs ys)) ∧ Below w.heap.size w w' := by
  have CF := hid (fun w' => fmt_spec fm w')
  have CM := hid (fun w' => mode_spec mode w')
  cases hk : fmtB fm with
  | false =>
    rw [hk] at CF
    have HR := hid (v2_form (mode := mode) (xs := xs) (ys := ys) (show (fmtB fm && modeB mode) = false by rw [hk]; rfl))
    clear hk
    go_enter Tryd.func76, Tryd.ntmps76
    go_wp2_with fail
    refine (CF.out _).mono ?_
    rintro e w1 ⟨rfl, rfl⟩
    go_wp2
    go_ret
    exact ⟨ret_int HR.out.symm, Below.refl _ _⟩
  | true =>
  rw [hk] at CF
  cases hm : modeB mode with
  | false =>
    rw [hm] at CM
    have HR := hid (v2_form (xs := xs) (ys := ys) (show (fmtB fm && modeB mode) = false by rw [hk, hm]; rfl))
    clear hk hm
    go_enter Tryd.func76, Tryd.ntmps76
    go_wp2_with fail
    refine (CF.out _).mono ?_
    rintro e w1 ⟨rfl, rfl⟩
    go_wp2_with fail
    refine (CM.out _).mono ?_
    rintro e w2 ⟨rfl, rfl⟩
    go_wp2
    go_ret
    exact ⟨ret_int HR.out.symm, Below.refl _ _⟩
  | true =>
  have hkm : (fmtB fm && modeB mode) = true := by rw [hk, hm]; rfl
  rw [hm] at CM
  by_cases h1 : xs.length ≤ 300
  · by_cases h2 : ys.length ≤ 300
    · by_cases hl : xs.length = ys.length
      · rw [v2_fits hkm h1 h2 hl]
        exact l8_fits fm mode a b cap cap' xs ys w hx hy hk hm h1 h2 hl
      · have HR := hid (v2_len hkm h1 h2 hl)
        have hne : ((xs.length : Int) != (ys.length : Int)) = true := by simp; omega
        clear hkm hk hm hl
        go_enter Tryd.func76, Tryd.ntmps76
        go_wp2_with fail
        refine (CF.out _).mono ?_
        rintro e w1 ⟨rfl, rfl⟩
        go_wp2_with fail
        refine (CM.out _).mono ?_
        rintro e w2 ⟨rfl, rfl⟩
        go_wp2
        go_ret
        exact ⟨ret_int HR.out.symm, Below.refl _ _⟩
    · have HR := hid (v2_many (xs := xs) (ys := ys) hkm (.inr (by omega)))
      clear hkm hk hm
      go_enter Tryd.func76, Tryd.ntmps76
      go_wp2_with fail
      refine (CF.out _).mono ?_
      rintro e w1 ⟨rfl, rfl⟩
      go_wp2_with fail
      refine (CM.out _).mono ?_
      rintro e w2 ⟨rfl, rfl⟩
      go_wp2
      go_ret
      exact ⟨ret_int HR.out.symm, Below.refl _ _⟩
  · have HR := hid (v2_many (xs := xs) (ys := ys) hkm (.inl (by omega)))
    clear hkm hk hm
    go_enter Tryd.func76, Tryd.ntmps76
    go_wp2_with fail
    refine (CF.out _).mono ?_
    rintro e w1 ⟨rfl, rfl⟩
    go_wp2_with fail
    refine (CM.out _).mono ?_
    rintro e w2 ⟨rfl, rfl⟩
    go_wp2
    go_ret
    exact ⟨ret_int HR.out.symm, Below.refl _ _⟩
end Go.Proofs.YtdjfajjlmjkpdaaDoor
/-
  The library's bits.Sub32; differences of limbs, by the program.
-/
namespace Go.Proofs.YtdjfajjlmjkpdaaDoor
set_option linter.unusedVariables false
set_option linter.unusedSimpArgs false
open Go.RowKit Go.Deep
theorem top_bit (n : Nat) (h : n < 4294967296) : n.testBit 31 = decide (2147483648 ≤ n) := by
  rw [Nat.testBit_eq_decide_div_mod_eq]
  have e : n / 2 ^ 31 % 2 = 1 ↔ 2147483648 ≤ n := by omega
  simp only [e]
theorem top_div (n : Nat) (h : n < 4294967296) : n / 2147483648 = if n.testBit 31 then 1 else 0 := by
  rw [top_bit n h]
  by_cases hc : 2147483648 ≤ n
  · simp [hc]; omega
  · simp [hc]; omega
theorem borrow_nat (X Y D : Nat) (hX : X < 4294967296) (hY : Y < 4294967296) (hD : D < 4294967296) :
    (((4294967295 ^^^ X) &&& Y) ||| ((4294967295 ^^^ (X ^^^ Y)) &&& D)) / 2147483648 = if (!decide (2147483648 ≤ X) && decide (2147483648 ≤ Y)) || (decide (2147483648 ≤ X) == decide (2147483648 ≤ Y) && decide (2147483648 ≤ D)) then 1 else 0 := by
  have h1 : (4294967295 ^^^ X) < 2 ^ 32 := Nat.xor_lt_two_pow (by decide) (by omega)
  have h2 : (X ^^^ Y) < 2 ^ 32 := Nat.xor_lt_two_pow (by omega) (by omega)
  have h3 : (4294967295 ^^^ (X ^^^ Y)) < 2 ^ 32 := Nat.xor_lt_two_pow (by decide) h2
  have h4 : ((4294967295 ^^^ X) &&& Y) < 2 ^ 32 := Nat.and_lt_two_pow _ (by omega)
  have h5 : ((4294967295 ^^^ (X ^^^ Y)) &&& D) < 2 ^ 32 := Nat.and_lt_two_pow _ (by omega)
  have h6 := Nat.or_lt_two_pow h4 h5
  rw [top_div _ (by omega), Nat.testBit_or, Nat.testBit_and, Nat.testBit_and, Nat.testBit_xor, Nat.testBit_xor, Nat.testBit_xor, top_bit X hX, top_bit Y hY, top_bit D hD, show Nat.testBit 4294967295 31 = true from by decide]
  cases decide (2147483648 ≤ X) <;> cases decide (2147483648 ≤ Y) <;> cases decide (2147483648 ≤ D) <;> rfl
theorem umax : IntKind.u32.max = 4294967295 := by decide
/-- What is borrowed. -/
def bor (x y c : Int) : Int := if x < y + c then 1 else 0
theorem borrow_any (x y c : Int) (hx : 0 ≤ x) (hx1 : x < 4294967296) (hy : 0 ≤ y) (hy1 : y < 4294967296) (hc : 0 ≤ c) (hc1 : c ≤ 1) :
    bits .or .u32 (bits .and .u32 (bits .xor .u32 IntKind.u32.max x) y) (bits .and .u32 (bits .xor .u32 IntKind.u32.max (bits .xor .u32 x y)) ((x - y - c) % 4294967296)) / 2147483648 = bor x y c := by
  unfold bor
  obtain ⟨X, rfl⟩ := Int.eq_ofNat_of_zero_le hx
  obtain ⟨Y, rfl⟩ := Int.eq_ofNat_of_zero_le hy
  obtain ⟨D, hD⟩ : ∃ D : Nat, ((X : Int) - Y - c) % 4294967296 = (D : Int) := Int.eq_ofNat_of_zero_le (by omega)
  rw [hD, umax]
  have hX : X < 4294967296 := by omega
  have hY : Y < 4294967296 := by omega
  have hD1 : D < 4294967296 := by omega
  have e1 : bits .xor .u32 (4294967295 : Int) (X : Int) = ((4294967295 ^^^ X : Nat) : Int) := by
    have := u32_xor_nat 4294967295 X (by decide) hX
    simpa using this
  have h1 : (4294967295 ^^^ X) < 2 ^ 32 := Nat.xor_lt_two_pow (by decide) (by omega)
  have h2 : (X ^^^ Y) < 2 ^ 32 := Nat.xor_lt_two_pow (by omega) (by omega)
  have e3 : bits .xor .u32 (4294967295 : Int) ((X ^^^ Y : Nat) : Int) = ((4294967295 ^^^ (X ^^^ Y) : Nat) : Int) := by
    have := u32_xor_nat 4294967295 (X ^^^ Y) (by decide) (by omega)
    simpa using this
  have h3 : (4294967295 ^^^ (X ^^^ Y)) < 2 ^ 32 := Nat.xor_lt_two_pow (by decide) h2
  have h4 : ((4294967295 ^^^ X) &&& Y) < 2 ^ 32 := Nat.and_lt_two_pow _ (by omega)
  have h5 : ((4294967295 ^^^ (X ^^^ Y)) &&& D) < 2 ^ 32 := Nat.and_lt_two_pow _ (by omega)
  rw [e1, u32_xor_nat X Y hX hY, e3, u32_and_nat _ Y (by omega) hY, u32_and_nat _ D (by omega) hD1, u32_or_nat _ _ (by omega) (by omega)]
  rw [show ((2147483648 : Int)) = ((2147483648 : Nat) : Int) from rfl, ← Int.natCast_ediv, borrow_nat X Y D hX hY hD1]
  by_cases b1 : 2147483648 ≤ X <;> by_cases b2 : 2147483648 ≤ Y <;> by_cases b3 : 2147483648 ≤ D <;> by_cases b4 : (X : Int) < Y + c <;> simp [b1, b2, b3, b4] <;> omega
theorem ret_two {a a' b b' : Int} (h : a = a') (k : b = b') : Ending.returned (.tuple #[.int .u32 a, .int .u32 b]) = .returned (.tuple #[.int .u32 a', .int .u32 b']) := by rw [h, k]
theorem bor_is (x y c : Int) (hx : 0 ≤ x) (hx1 : x < 4294967296) (hy : 0 ≤ y) (hy1 : y < 4294967296) (hc : 0 ≤ c) (hc1 : c ≤ 1) : (x - y - c) % 4294967296 - 4294967296 * bor x y c = x - y - c ∧ 0 ≤ bor x y c ∧ bor x y c ≤ 1 := by
  unfold bor; split <;> omega
end Go.Proofs.YtdjfajjlmjkpdaaDoor
/-
  Sums of wides, by the program.
-/
namespace Go.Proofs.YtdjfajjlmjkpdaaDoor
set_option linter.unusedVariables false
set_option linter.unusedSimpArgs false
open Go.RowKit Go.Deep
/-- Two boxes are exchanged. -/
theorem swapped {w : World} {b b' z : Nat} {u0 u1 v0 v1 r0 r1 : Value} (hx : R2 w b u0 u1) (hy : R2 w b' v0 v1) (hz : R2 w z r0 r1) (n1 : b ≠ b') (n2 : z ≠ b) (n3 : z ≠ b') :
    Box ((((w.setCell ⟨b, 0, none⟩ v0).setCell ⟨b, 1, none⟩ v1).setCell ⟨b', 0, none⟩ u0).setCell ⟨b', 1, none⟩ u1) b v0 v1 ∧
    Box ((((w.setCell ⟨b, 0, none⟩ v0).setCell ⟨b, 1, none⟩ v1).setCell ⟨b', 0, none⟩ u0).setCell ⟨b', 1, none⟩ u1) b' u0 u1 ∧
    R2 ((((w.setCell ⟨b, 0, none⟩ v0).setCell ⟨b, 1, none⟩ v1).setCell ⟨b', 0, none⟩ u0).setCell ⟨b', 1, none⟩ u1) z r0 r1 := by
  have h1 := ((R2.set hx v0 v1).other (p := ⟨b', 0, none⟩) n1 u0).other (p := ⟨b', 1, none⟩) n1 u1
  have h2 := R2.set ((hy.other (p := ⟨b, 0, none⟩) (Ne.symm n1) v0).other (p := ⟨b, 1, none⟩) (Ne.symm n1) v1) u0 u1
  have h3 := (((hz.other (p := ⟨b, 0, none⟩) n2 v0).other (p := ⟨b, 1, none⟩) n2 v1).other (p := ⟨b', 0, none⟩) n3 u0).other (p := ⟨b', 1, none⟩) n3 u1
  exact ⟨⟨h1.c0, h1.c1⟩, ⟨h2.c0, h2.c1⟩, h3⟩
end Go.Proofs.YtdjfajjlmjkpdaaDoor
/-
  The walk of laws.FnExactWideAdd, out of contracts.
-/
namespace Go.Proofs.YtdjfajjlmjkpdaaDoor
set_option linter.unusedVariables false
set_option linter.unusedSimpArgs false
open Go.RowKit Go.Deep
namespace LWideAdd
theorem keep4 {w w' : World} {b b' : Nat} {v0 v1 u0 u1 : Value} (h0 : w.cell? ⟨b, 0, none⟩ = some v0) (h1 : w.cell? ⟨b, 1, none⟩ = some v1) (k0 : w.cell? ⟨b', 0, none⟩ = some u0) (k1 : w.cell? ⟨b', 1, none⟩ = some u1) (hb : Below w.heap.size w w') :
    w'.cell? ⟨b, 0, none⟩ = some v0 ∧ w'.cell? ⟨b, 1, none⟩ = some v1 ∧ w'.cell? ⟨b', 0, none⟩ = some u0 ∧ w'.cell? ⟨b', 1, none⟩ = some u1 :=
  ⟨(Box.below ⟨h0, h1⟩ hb).1, (Box.below ⟨h0, h1⟩ hb).2, (Box.below ⟨k0, k1⟩ hb).1, (Box.below ⟨k0, k1⟩ hb).2⟩
theorem four_below (W : World) {W' : World} {b b' : Nat} {v0 v1 u0 u1 : Value} (h0 : W.cell? ⟨b, 0, none⟩ = some v0) (h1 : W.cell? ⟨b, 1, none⟩ = some v1) (k0 : W.cell? ⟨b', 0, none⟩ = some u0) (k1 : W.cell? ⟨b', 1, none⟩ = some u1) (hb : Below W.heap.size W W') :
    W'.cell? ⟨b, 0, none⟩ = some v0 ∧ W'.cell? ⟨b, 1, none⟩ = some v1 ∧ W'.cell? ⟨b', 0, none⟩ = some u0 ∧ W'.cell? ⟨b', 1, none⟩ = some u1 := keep4 h0 h1 k0 k1 hb
attribute [local go_sem ↓] Go.wp_at_zero Go.wp_at_succ
end LWideAdd
end Go.Proofs.YtdjfajjlmjkpdaaDoor
/-
  The law laws.FnExactWideAdd.
-/
namespace Go.Proofs.YtdjfajjlmjkpdaaDoor
set_option linter.unusedVariables false
set_option linter.unusedSimpArgs false
open Go.RowKit Go.Deep
end Go.Proofs.YtdjfajjlmjkpdaaDoor
/-
  The walk of laws.FnExactWideNegated, out of contracts.
-/
namespace Go.Proofs.YtdjfajjlmjkpdaaDoor
set_option linter.unusedVariables false
set_option linter.unusedSimpArgs false
open Go.RowKit Go.Deep
namespace LWideNegated
theorem keep4 {w w' : World} {b b' : Nat} {v0 v1 u0 u1 : Value} (h0 : w.cell? ⟨b, 0, none⟩ = some v0) (h1 : w.cell? ⟨b, 1, none⟩ = some v1) (k0 : w.cell? ⟨b', 0, none⟩ = some u0) (k1 : w.cell? ⟨b', 1, none⟩ = some u1) (hb : Below w.heap.size w w') :
    w'.cell? ⟨b, 0, none⟩ = some v0 ∧ w'.cell? ⟨b, 1, none⟩ = some v1 ∧ w'.cell? ⟨b', 0, none⟩ = some u0 ∧ w'.cell? ⟨b', 1, none⟩ = some u1 :=
  ⟨(Box.below ⟨h0, h1⟩ hb).1, (Box.below ⟨h0, h1⟩ hb).2, (Box.below ⟨k0, k1⟩ hb).1, (Box.below ⟨k0, k1⟩ hb).2⟩
end LWideNegated
end Go.Proofs.YtdjfajjlmjkpdaaDoor
/-
  0 less a wide, by the specification; the law.
-/
namespace Go.Proofs.YtdjfajjlmjkpdaaDoor
set_option linter.unusedVariables false
set_option linter.unusedSimpArgs false
open Go.RowKit Go.Deep
set_option maxHeartbeats 1000000 in
theorem l1neg_any (ng : Bool) (a : Option Addr) (cap : Nat) (zs : List Int) (w : World) (hs : Sl .u32 w (.slice a zs.length cap) zs) (hz : Nm.Dg zs) (hl : zs.length ≤ 1048576) (x : Int) (hx : x = Nm.wv (!ng) zs) :
    Calls Tryd.prog 111 #[.agg #[.bool ng, .slice a zs.length cap]] w fun e w' => ∃ a' c', e = .returned (.agg #[.bool (Nm.wn x), .slice a' (Nm.wl x).length c']) ∧ Own w' w.heap.size a' c' (Nm.wl x) ∧ Below w.heap.size w w' := by
  have HX := hid hx
  clear hx
  go_enter Tryd.func111, Tryd.ntmps111
  go_wp2_with fail
  refine (made_v (!ng) a cap zs _ ((hs.alloc _).alloc _) hz hl x HX.out).mono ?_
  rintro e w1 ⟨a', c', rfl, ho, hb⟩
  obtain ⟨r0, r1, f0, f1⟩ := (R2.new2 w (.cells #[.bool ng, .slice a zs.length cap] 29) (.bool false) (.slice none 0 0) 29).below hb
  have ho : Own w1 (w.heap.size + 1 + 1) a' c' (Nm.wl x) := by simpa using ho
  go_wp2
  refine bodyPost_ret (v := .agg #[.bool (Nm.wn x), .slice a' (Nm.wl x).length c']) (by simp [results, Tryd.results111, go_sem, r0, r1]) rfl ⟨a', c', rfl, ?_, (by repeat (first | exact Below.refl _ _ | refine Below.drew ?_ | refine bel_dn ?_ _ | refine bel_al ?_ _ | refine bel_go ?_ hb | refine Below.setCell ?_ (by first | omega | (simp; done) | (simp; omega)) _ | refine Below.alloc ?_ (by first | omega | (simp; done) | (simp; omega)) _ | refine Below.trans ?_ (Below.mono hb (by first | omega | (simp; done) | (simp; omega)))))⟩
  exact Own.base ((ho.setBelow (by simp) _).setBelow (by simp) _) (by omega)
theorem neg_200 (ng : Bool) {zs : List Int} (hd : Nm.Dg zs) : (negL ng zs).length ≤ 200 ∧ Nm.Dg (negL ng zs) := by
  unfold negL
  split
  · rename_i h
    have := ok_fits hd h (!ng)
    exact ⟨by simpa [Nm.fits] using this, Nm.wl_dg _⟩
  · exact ⟨by simp, Nm.Dg.nil⟩
end Go.Proofs.YtdjfajjlmjkpdaaDoor
/-
  The package's table of formats, as the row's list tells it: its cells.
-/
namespace Go.Proofs.YtdjfajjlmjkpdaaDoor
set_option linter.unusedVariables false
set_option linter.unusedSimpArgs false
namespace Ld
open Go.RowKit Go.Deep
theorem own : ownKnob Tryd.prog.godebug = none := by kernel_rfl
theorem laidOut : laidOutB Tryd.prog = true := by kernel_rfl
theorem gTab : Tryd.prog.globalNamed "loop.example/g00672/impl.formSizes" = some 0 := by kernel_rfl
theorem gTabType : (Tryd.prog.globals[0]?).map (·.type) = some 122 := by kernel_rfl
theorem cellsS : Tryd.prog.cellsOf 98 = 3 := by kernel_rfl
theorem cellsU : Tryd.prog.cellsOf 22 = 1 := by kernel_rfl
theorem cellsI : Tryd.prog.cellsOf 2 = 1 := by kernel_rfl

theorem bu64 {a : Int} (h : (Lit.int .u64 a).wf = true) : 0 ≤ a ∧ a < 18446744073709551616 := by have := bounds_u64 h; omega
theorem bi64 {a : Int} (h : (Lit.int .i64 a).wf = true) : -9223372036854775808 ≤ a ∧ a ≤ 9223372036854775807 := by have := bounds_i64 h; omega
theorem lt_of_var {P : Program} {w : World} {n : String} {g : Nat} {cs : Array Value} (hg : P.globalNamed n = some g) (h : w.var? P n = some cs) : g < w.heap.size := by
  simp only [World.var?, hg, Option.bind_some] at h
  by_cases hlt : g < w.heap.size
  · exact hlt
  · rw [Array.getElem?_eq_none (by omega)] at h; simp at h

/-- One row of the table: its three cells. -/
theorem three {H : Type} {enc : TypeId × Value → H} {w : World} {base : Nat} {sp : Nat → Bool} {held : Bool} {m : Nat} {cs : List Value} {a b c : Int} {q : List MemPlace}
    (h : DataW.trod enc Tryd.prog w base sp held m 98 cs = some (.agg [.lit (.int .u64 a), .lit (.int .u64 b), .lit (.int .i64 c)], q)) :
    cs[0]? = some (.int .u64 a) ∧ cs[1]? = some (.int .u64 b) ∧ cs[2]? = some (.int .i64 c) := by
  obtain ⟨y0, y1, y2, n, hx, hl, h0, h1, h2⟩ := trod_struct3 Tryd.underlying98 h
  obtain ⟨n0, e0, rfl, _⟩ := DataW.trod_int Tryd.underlying22 h0
  obtain ⟨n1, e1, rfl, _⟩ := DataW.trod_int Tryd.underlying22 h1
  obtain ⟨n2, e2, rfl, _⟩ := DataW.trod_int Tryd.underlying2 h2
  simp only [Prod.mk.injEq, DataW.agg.injEq, List.cons.injEq, DataW.lit.injEq, Lit.int.injEq, true_and, and_true] at hx
  obtain ⟨⟨rfl, rfl, rfl⟩, _⟩ := hx
  simp only [cellsU, cellsI] at e0 e1 e2
  refine ⟨?_, ?_, ?_⟩
  · have := congrArg (·[0]?) e0; simpa [List.getElem?_take, List.getElem?_drop] using this
  · have := congrArg (·[0]?) e1; simpa [List.getElem?_take, List.getElem?_drop] using this
  · have := congrArg (·[0]?) e2; simpa [List.getElem?_take, List.getElem?_drop] using this

theorem table {W : World} (h : laidMet Tryd.prog [("loop.example/g00672/impl.formSizes", Rows.laid_loop_example_g00672_impl_formSizes)] W) : Tab W := by
  obtain ⟨ps, ⟨g', t', cs, fuel, p, q, hg', ht', hvar, hd, _, _⟩, _⟩ := h
  obtain rfl := Option.some.inj (gTab.symm.trans hg')
  obtain rfl := Option.some.inj (gTabType.symm.trans ht')
  obtain ⟨xs, m, rfl, hx, hlen, hxl, hel⟩ := DataW.trod_array Tryd.underlying122 hd
  match xs, hxl with
  | [x0, x1, x2], _ =>
    simp only [Rows.laid_loop_example_g00672_impl_formSizes, Prod.mk.injEq, DataW.agg.injEq, List.map_cons, List.map_nil, List.cons.injEq, and_true] at hx
    obtain ⟨⟨hx0, hx1, hx2⟩, _⟩ := hx
    have t0 := hel 0 (by decide); have t1 := hel 1 (by decide); have t2 := hel 2 (by decide)
    simp only [cellsS, List.getElem?_cons_zero, List.getElem?_cons_succ] at t0 t1 t2
    obtain ⟨x0a, x0b⟩ := x0; obtain ⟨x1a, x1b⟩ := x1; obtain ⟨x2a, x2b⟩ := x2
    simp only at hx0 hx1 hx2
    subst hx0; subst hx1; subst hx2
    have r0 := three t0; have r1 := three t1; have r2 := three t2
    have cell : ∀ i v, cs.toList[i]? = some v → W.cell? ⟨0, i, none⟩ = some v := fun i v hv => by
      rw [World.var?_cell gTab hvar i]; simpa using hv
    simp [List.getElem?_take, List.getElem?_drop] at r0 r1 r2
    exact ⟨cell 0 _ (by simpa using r0.1), cell 1 _ (by simpa using r0.2.1), cell 2 _ (by simpa using r0.2.2), cell 3 _ (by simpa using r1.1), cell 4 _ (by simpa using r1.2.1), cell 5 _ (by simpa using r1.2.2), cell 6 _ (by simpa using r2.1), cell 7 _ (by simpa using r2.2.1), cell 8 _ (by simpa using r2.2.2)⟩
end Ld
end Go.Proofs.YtdjfajjlmjkpdaaDoor
