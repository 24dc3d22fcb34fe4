/-
  What is needed of AZ.
-/
import Derived.Test.YtmcflggionkhlaaGreatDoorE51
set_option maxHeartbeats 16000000
set_option maxRecDepth 1000000
namespace Go.Proofs.YtmcflggionkhlaaGreatDoor
set_option linter.unusedVariables false
set_option linter.unusedSimpArgs false
open Go.RowKit Go.Deep
theorem law_AugAdd (fm x y : Int) (w : World) (hT : EX3 w) (x0 : 0 ≤ x) (x1 : x < 18446744073709551616) (y0 : 0 ≤ y) (y1 : y < 18446744073709551616) :
    Calls Tryz.prog 8 #[.int .i64 fm, .int .u64 x, .int .u64 y] w fun e w' => e = .returned (.bool true) ∧ Below w.heap.size w w' := by
  obtain ⟨u, hE⟩ := hT
  obtain ⟨H, h_H⟩ : ∃ q, q = aaB fm x y := ⟨_, rfl⟩
  obtain ⟨T, h_T⟩ : ∃ q, q = aaT fm x y := ⟨_, rfl⟩
  obtain ⟨F, h_F⟩ : ∃ q, q = aaF fm x y := ⟨_, rfl⟩
  obtain ⟨O, h_O⟩ : ∃ q, q = muO fm 5 x y := ⟨_, rfl⟩
  have CS := hid (fun w' => aas_spec fm x y w' x0 x1 y0 y1 H T F O h_H h_T h_F h_O)
  have CI := hid (fun w' k => aai_impl fm x y u w' k x0 x1 y0 y1 H T F O h_H h_T h_F h_O)
  clear h_H h_T h_F h_O
  have bel := Below.refl w.heap.size w
  go_enter Tryz.func8, Tryz.ntmps8
  go_wp2_with fail
  refine (CS.out _).mono ?_
  rintro r w1 ⟨rfl, hb⟩
  replace bel := bel_go bel hb
  replace hE := hE.below hb
  clear hb
  replace hE := hE.below (al_b _ (.cells #[.int .u64 H, .int .u64 T] 54))
  replace bel := bel_al bel (.cells #[.int .u64 H, .int .u64 T] 54)
  have Bs := R2.new w1 (.int .u64 H) (.int .u64 T) 54
  obtain ⟨ks0, ks1, -, -⟩ := id Bs
  go_wp2_with fail
  refine (CI.out _ hE).mono ?_
  rintro r w2 ⟨rfl, hb⟩
  clear ks0 ks1
  replace bel := bel_go bel hb
  replace hE := hE.below hb
  replace Bs := Bs.below hb
  clear hb
  replace hE := hE.below (al_b _ (.cells #[.int .u64 H, .int .u64 T] 54))
  replace Bs := Bs.below (al_b _ (.cells #[.int .u64 H, .int .u64 T] 54))
  replace bel := bel_al bel (.cells #[.int .u64 H, .int .u64 T] 54)
  have Bi := R2.new w2 (.int .u64 H) (.int .u64 T) 54
  obtain ⟨ks0, ks1, -, -⟩ := id Bs
  obtain ⟨ki0, ki1, -, -⟩ := id Bi
  go_wp2_with fail
  refine (eqp H T _).mono ?_
  rintro r w3 ⟨rfl, hb⟩
  clear ks0 ks1 ki0 ki1
  replace bel := bel_go bel hb
  replace hE := hE.below hb
  replace Bs := Bs.below hb
  replace Bi := Bi.below hb
  clear hb
  obtain ⟨ks0, ks1, -, -⟩ := id Bs
  obtain ⟨ki0, ki1, -, -⟩ := id Bi
  go_wp2
  all_goals go_ret
  all_goals exact ⟨rfl, bel⟩
end Go.Proofs.YtmcflggionkhlaaGreatDoor
