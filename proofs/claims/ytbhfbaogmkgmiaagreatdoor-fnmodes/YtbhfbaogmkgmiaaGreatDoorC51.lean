/-
  What is needed of TP, DR, WI.
-/
import Derived.Test.YtbhfbaogmkgmiaaGreatDoorC26
import Derived.Test.YtbhfbaogmkgmiaaGreatDoorC35
import Derived.Test.YtbhfbaogmkgmiaaGreatDoorC43
set_option maxHeartbeats 16000000
set_option maxRecDepth 1000000
namespace Go.Proofs.YtbhfbaogmkgmiaaGreatDoor
set_option linter.unusedVariables false
set_option linter.unusedSimpArgs false
open Go.RowKit Go.Deep
theorem un_abs {fm x : Int} (hf : finB fm x = true) : (unI fm x).natAbs = Nm.sh (pM fm x).toNat (pE fm x - unQ fm) := by
  unfold unI; rw [hf, if_pos rfl]; cases pS fm x <;> simp
theorem un_bl (fm x : Int) : bitLen (unI fm x).natAbs ≤ 2200 := by
  cases hf : finB fm x
  · rw [un_no hf]; decide
  · rw [un_abs hf]; exact un_bits hf
namespace Fd
theorem bl_add {x y : Int} {k : Nat} (hx : bitLen x.natAbs ≤ k) (hy : bitLen y.natAbs ≤ k) : bitLen (x + y).natAbs ≤ k + 1 := by
  have h1 := (Nm.bl_le_iff _ k).1 hx
  have h2 := (Nm.bl_le_iff _ k).1 hy
  refine (Nm.bl_le_iff _ _).2 ?_
  have h3 : (x + y).natAbs ≤ x.natAbs + y.natAbs := Int.natAbs_add_le _ _
  rw [Nat.pow_succ]; omega
theorem un_bl (fm x : Int) : bitLen (unI fm x).natAbs ≤ 2200 := by
  cases hf : finB fm x
  · rw [un_no hf]; decide
  · have h : (unI fm x).natAbs = Nm.sh (pM fm x).toNat (pE fm x - unQ fm) := by unfold unI; rw [hf, if_pos rfl]; cases pS fm x <;> simp
    rw [h]; exact un_bits hf
theorem bl_neg (x : Int) : bitLen (-x).natAbs = bitLen x.natAbs := by rw [Int.natAbs_neg]
theorem bl_sub {x y : Int} {k : Nat} (hx : bitLen x.natAbs ≤ k) (hy : bitLen y.natAbs ≤ k) : bitLen (x - y).natAbs ≤ k + 1 := by
  rw [Int.sub_eq_add_neg]; exact bl_add hx (by rw [bl_neg]; exact hy)
theorem bl_shl (x : Int) (n : Nat) : bitLen (x * 2 ^ n).natAbs ≤ bitLen x.natAbs + n := by
  rw [natAbs_pow]
  by_cases h : x.natAbs = 0
  · rw [h, Nat.zero_mul, Nm.bl_zero]; omega
  · rw [Nm.bl_mul h]; exact Nat.le_refl _
/-- Shifted up. -/
theorem shl_w (x : Int) (n : Int) (a : Option Addr) (c : Nat) (w : World) (hs : Sl .u32 w (.slice a (Nm.wl x).length c) (Nm.wl x)) (n0 : 0 ≤ n) (hb : bitLen x.natAbs + n.toNat ≤ 6400) :
    Calls Tryz.prog 40 #[.agg #[.bool (Nm.wn x), .slice a (Nm.wl x).length c], .int .i64 n] w fun r w' => ∃ a' c', r = .returned (.tuple #[.agg #[.bool (Nm.wn (x * 2 ^ n.toNat)), .slice a' (Nm.wl (x * 2 ^ n.toNat)).length c'], .bool true]) ∧ Own w' w.heap.size a' c' (Nm.wl (x * 2 ^ n.toNat)) ∧ Below w.heap.size w w' :=
  wsh_at2 (Nm.wn x) a c (Nm.wl x) n w hs (Nm.wl_dg _) (okB_wl (fit_k (by omega))) (by omega) (by omega) _ (shz x n n0).symm (fit_k (by have := bl_shl x n.toNat; omega))
end Fd
end Go.Proofs.YtbhfbaogmkgmiaaGreatDoor
