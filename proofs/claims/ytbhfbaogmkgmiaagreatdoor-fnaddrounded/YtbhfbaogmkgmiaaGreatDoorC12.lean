/-
  What is needed of FloatH, FloatO.
-/
import Derived.Test.YtbhfbaogmkgmiaaGreatDoorC11
set_option maxHeartbeats 16000000
set_option maxRecDepth 1000000
namespace Go.Proofs.YtbhfbaogmkgmiaaGreatDoor
set_option linter.unusedVariables false
set_option linter.unusedSimpArgs false
open Go.RowKit
theorem abs_bd {fm x : Int} (h0 : 0 ≤ x) : 0 ≤ absF fm x ∧ absF fm x < 9223372036854775808 := by
  unfold absF sgOf
  split
  · split <;> omega
  · omega
theorem spec_fin (fm x : Int) (w : World) (h0 : 0 ≤ x) (h1 : x < 18446744073709551616) :
    Calls Tryz.prog 127 #[.int .i64 fm, .int .u64 x] w fun e w' => e = .returned (.bool (finB fm x)) ∧ Below w.heap.size w w' := by
  cases ho : okF fm x
  · have HR := hid (fin_no ho)
    go_enter Tryz.func127, Tryz.ntmps127
    go_wp2_with fail
    refine (spec_ok fm x _).mono ?_
    rintro e w1 ⟨rfl, hb1⟩
    go_wp2
    go_ret
    exact ⟨ret_bool HR.out.symm, (by repeat (first | exact bz0 _ _ | refine bz1 ?_ | refine bz2 ?_ _ | refine bz3 ?_ _ | refine bz4 ?_ hb1 | refine bz5 ?_ _ | refine bz6 ?_ _ | refine bz7 ?_ hb1))⟩
  · have HR := hid (fin_lt ho)
    have HO := hid ho
    go_enter Tryz.func127, Tryz.ntmps127
    go_wp2_with fail
    refine (spec_ok fm x _).mono ?_
    rintro e w1 ⟨rfl, hb1⟩
    go_wp2_with fail
    refine (spec_l2abs fm x _ HO.out h0 h1).mono ?_
    rintro e w2 ⟨rfl, hb2⟩
    go_wp2_with fail
    refine (spec_inf fm x _ HO.out).mono ?_
    rintro e w3 ⟨rfl, hb3⟩
    go_wp2
    go_ret
    exact ⟨ret_bool HR.out.symm, (by repeat (first | exact bz0 _ _ | refine bz1 ?_ | refine bz2 ?_ _ | refine bz3 ?_ _ | refine bz4 ?_ hb3 | refine bz4 ?_ hb2 | refine bz4 ?_ hb1 | refine bz5 ?_ _ | refine bz6 ?_ _ | refine bz7 ?_ hb3 | refine bz7 ?_ hb2 | refine bz7 ?_ hb1))⟩
end Go.Proofs.YtbhfbaogmkgmiaaGreatDoor
