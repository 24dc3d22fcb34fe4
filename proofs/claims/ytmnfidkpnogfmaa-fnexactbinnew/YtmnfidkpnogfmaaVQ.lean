/-
  A new accumulator of a few bins: the law.
-/
import Derived.Test.YtmnfidkpnogfmaaVP
import Derived.Test.YtmnfidkpnogfmaaVL
namespace Go.Proofs.Ytmnfidkpnogfmaa
set_option linter.unusedVariables false
set_option linter.unusedSimpArgs false
open Go.RowKit Go.Deep
theorem O9.at {w : World} {B : Nat} {a : Option Addr} {cap : Nat} {zs : List Int} (h : O9 w B a cap zs) (n c g : Nat) (hg : (Value.slice a n c).ownBlock = some g) : B ≤ g ∧ g < w.heap.size := by
  rcases h.block with ⟨rfl, _⟩ | ⟨g', rfl, h1, h2⟩
  · cases hg
  · have : g' = g := Option.some.inj hg
    omega
theorem Q10.grown {w w' : World} {b : Nat} {v0 v1 v2 v3 v4 v5 v6 v7 v8 v9 : Value} {row : Option Nat} (h : Q10 w b v0 v1 v2 v3 v4 v5 v6 v7 v8 v9) (hg : w.grownBy w' row) (hne : ∀ g, row = some g → b ≠ g) : Q10 w' b v0 v1 v2 v3 v4 v5 v6 v7 v8 v9 := h.of_block (hg.block b h.lt (fun e => hne b e.symm rfl))
set_option maxHeartbeats 16000000 in
set_option maxRecDepth 100000 in
theorem law_BinNew (fm k : Int) (w : World) :
    Calls Try.prog 7 #[.int .i64 fm, .int .i64 k] w fun e w' => e = .returned (.bool true) ∧ Below w.heap.size w w' := by
  have CS := hid (fun w' => bn_spec fm k w')
  have CI := hid (fun w' => bn_impl fm k w')
  have hn : (bnS fm k).length ≤ 4 := by
    unfold bnS
    cases h : (fmtB fm && inZ k 2 4)
    · exact Nat.zero_le _
    · obtain ⟨hf, hk⟩ := (Bool.and_eq_true _ _).mp h
      obtain ⟨n, rfl, n2, n4⟩ := inz_nat hk
      simpa using n4
  obtain ⟨F, hF⟩ : ∃ q, q = bnF fm k := ⟨_, rfl⟩
  obtain ⟨K, hK⟩ : ∃ q, q = bnK fm k := ⟨_, rfl⟩
  obtain ⟨P, hP⟩ : ∃ q, q = bnT fm k := ⟨_, rfl⟩
  obtain ⟨zs, hzs⟩ : ∃ q, q = bnS fm k := ⟨_, rfl⟩
  simp only [← hF, ← hK, ← hP, ← hzs] at CS CI
  rw [← hzs] at hn
  clear hF hK hP hzs
  have HR := hid (heldR_iot zs.length)
  have HD := hid (iot_i64 zs.length (by omega))
  have HL := hid (iot_length 1 zs.length)
  have bel := Below.refl w.heap.size w
  go_enter Try.func7, Try.ntmps7
  go_wp2_with fail
  refine (CS.out _).mono ?_
  rintro r w1 ⟨a1, c1, rfl, o1, hb⟩
  have hat1 := fun n c g hg => o1.at n c g hg
  have l1 := (bel_go bel hb).size
  replace bel := bel_go bel hb
  clear hb
  have B1 := Q10.new w1 (.int .i64 F) (.int .i64 K) (.int .i64 P) (.slice a1 zs.length c1) (.int .i64 0) (.bool false) (.bool false) (.bool false) (.bool false) (.bool false) 55
  replace o1 := o1.alloc (.cells #[.int .i64 F, .int .i64 K, .int .i64 P, .slice a1 zs.length c1, .int .i64 0, .bool false, .bool false, .bool false, .bool false, .bool false] 55)
  replace bel := bel_al bel (.cells #[.int .i64 F, .int .i64 K, .int .i64 P, .slice a1 zs.length c1, .int .i64 0, .bool false, .bool false, .bool false, .bool false, .bool false] 55)
  have hz1 : (w1.alloc (.cells #[.int .i64 F, .int .i64 K, .int .i64 P, .slice a1 zs.length c1, .int .i64 0, .bool false, .bool false, .bool false, .bool false, .bool false] 55)).heap.size = w1.heap.size + 1 := by simp
  obtain ⟨k10, k11, k12, k13, k14, k15, k16, k17, k18, k19, -, -, -, -, -, -, -, -, -, -⟩ := id B1
  go_wp2_with fail
  refine (CI.out _).mono ?_
  rintro r w2 ⟨a2, c2, rfl, o2, hb⟩
  clear k10 k11 k12 k13 k14 k15 k16 k17 k18 k19
  have hat2 := fun n c g hg => o2.at n c g hg
  rw [hz1] at hat2
  clear hz1
  replace B1 := B1.below hb
  replace o1 := o1.below hb
  replace bel := bel_go bel hb
  clear hb
  have l2 := B1.lt
  have B2 := Q10.new w2 (.int .i64 F) (.int .i64 K) (.int .i64 P) (.slice a2 zs.length c2) (.int .i64 0) (.bool false) (.bool false) (.bool false) (.bool false) (.bool false) 55
  replace B1 := B1.alloc (.cells #[.int .i64 F, .int .i64 K, .int .i64 P, .slice a2 zs.length c2, .int .i64 0, .bool false, .bool false, .bool false, .bool false, .bool false] 55)
  replace o1 := o1.alloc (.cells #[.int .i64 F, .int .i64 K, .int .i64 P, .slice a2 zs.length c2, .int .i64 0, .bool false, .bool false, .bool false, .bool false, .bool false] 55)
  replace o2 := o2.alloc (.cells #[.int .i64 F, .int .i64 K, .int .i64 P, .slice a2 zs.length c2, .int .i64 0, .bool false, .bool false, .bool false, .bool false, .bool false] 55)
  replace bel := bel_al bel (.cells #[.int .i64 F, .int .i64 K, .int .i64 P, .slice a2 zs.length c2, .int .i64 0, .bool false, .bool false, .bool false, .bool false, .bool false] 55)
  obtain ⟨k10, k11, k12, k13, k14, k15, k16, k17, k18, k19, -, -, -, -, -, -, -, -, -, -⟩ := id B1
  obtain ⟨k20, k21, k22, k23, k24, k25, k26, k27, k28, k29, -, -, -, -, -, -, -, -, -, -⟩ := id B2
  go_wp2_with fail
  refine (eqB_same F K P 0 false false false false false a2 a1 c2 c1 zs _ o2.sl o1.sl (by omega)).mono ?_
  rintro r w3 ⟨rfl, hb⟩
  clear k10 k11 k12 k13 k14 k15 k16 k17 k18 k19
  clear k20 k21 k22 k23 k24 k25 k26 k27 k28 k29
  replace B1 := B1.below hb
  replace B2 := B2.below hb
  replace o1 := o1.below hb
  replace o2 := o2.below hb
  replace bel := bel_go bel hb
  clear hb
  obtain ⟨k10, k11, k12, k13, k14, k15, k16, k17, k18, k19, -, -, -, -, -, -, -, -, -, -⟩ := id B1
  obtain ⟨k20, k21, k22, k23, k24, k25, k26, k27, k28, k29, -, -, -, -, -, -, -, -, -, -⟩ := id B2
  go_wp2_with fail
  refine (markB_any F K P 0 false false false false false a2 c2 zs 1 _ _ o2 (by omega) (by decide) (by decide)).mono ?_
  rintro r w4 ⟨rfl, o5, hg⟩
  clear k10 k11 k12 k13 k14 k15 k16 k17 k18 k19
  clear k20 k21 k22 k23 k24 k25 k26 k27 k28 k29
  replace o1 := o1.kept hg (fun g e h => by have e1 := (hat1 zs.length c1 g (by rw [e]; rfl)).2
                                            have e2 := (hat2 zs.length c2 g h).1
                                            omega)
  replace B1 := B1.grown hg (fun g h => by have e2 := (hat2 zs.length c2 g h).1
                                           omega)
  replace B2 := B2.grown hg (fun g h => by have e2 := (hat2 zs.length c2 g h).2
                                           omega)
  replace bel := bel_ob bel hg (fun g h => by have e2 := (hat2 zs.length c2 g h).1
                                              have e3 := l1
                                              omega)
  clear hg o2
  obtain ⟨I, h_I⟩ : ∃ q, q = iot 1 zs.length := ⟨_, rfl⟩
  rw [← h_I] at o5 HR HD HL
  clear h_I
  have CH := hid (fun w' (s : Sl .i64 w' (.slice a2 I.length c2) I) => heldB_any F K P 0 false false false false false a2 c2 I w' s HD.out (by rw [HL.out]; omega) (by rw [HL.out]; exact HR.out))
  rw [HL.out] at CH
  have s5 : Sl .i64 w4 (.slice a2 zs.length c2) I := by have := o5.sl; rwa [HL.out] at this
  clear o5
  obtain ⟨k10, k11, k12, k13, k14, k15, k16, k17, k18, k19, -, -, -, -, -, -, -, -, -, -⟩ := id B1
  obtain ⟨k20, k21, k22, k23, k24, k25, k26, k27, k28, k29, -, -, -, -, -, -, -, -, -, -⟩ := id B2
  go_wp2_with fail
  refine (CH.out _ s5).mono ?_
  rintro r w5 ⟨rfl, hb⟩
  clear k10 k11 k12 k13 k14 k15 k16 k17 k18 k19
  clear k20 k21 k22 k23 k24 k25 k26 k27 k28 k29
  replace B1 := B1.below hb
  replace B2 := B2.below hb
  replace o1 := o1.below hb
  replace s5 := s5.below hb
  replace bel := bel_go bel hb
  clear hb
  obtain ⟨k10, k11, k12, k13, k14, k15, k16, k17, k18, k19, -, -, -, -, -, -, -, -, -, -⟩ := id B1
  obtain ⟨k20, k21, k22, k23, k24, k25, k26, k27, k28, k29, -, -, -, -, -, -, -, -, -, -⟩ := id B2
  go_wp2_with fail
  refine (CI.out _).mono ?_
  rintro r w6 ⟨a3, c3, rfl, o3, hb⟩
  clear k10 k11 k12 k13 k14 k15 k16 k17 k18 k19
  clear k20 k21 k22 k23 k24 k25 k26 k27 k28 k29
  replace B1 := B1.below hb
  replace B2 := B2.below hb
  replace o1 := o1.below hb
  replace s5 := s5.below hb
  replace bel := bel_go bel hb
  clear hb
  have B3 := Q10.new w6 (.int .i64 F) (.int .i64 K) (.int .i64 P) (.slice a3 zs.length c3) (.int .i64 0) (.bool false) (.bool false) (.bool false) (.bool false) (.bool false) 55
  replace B1 := B1.alloc (.cells #[.int .i64 F, .int .i64 K, .int .i64 P, .slice a3 zs.length c3, .int .i64 0, .bool false, .bool false, .bool false, .bool false, .bool false] 55)
  replace B2 := B2.alloc (.cells #[.int .i64 F, .int .i64 K, .int .i64 P, .slice a3 zs.length c3, .int .i64 0, .bool false, .bool false, .bool false, .bool false, .bool false] 55)
  replace o1 := o1.alloc (.cells #[.int .i64 F, .int .i64 K, .int .i64 P, .slice a3 zs.length c3, .int .i64 0, .bool false, .bool false, .bool false, .bool false, .bool false] 55)
  replace s5 := s5.alloc (.cells #[.int .i64 F, .int .i64 K, .int .i64 P, .slice a3 zs.length c3, .int .i64 0, .bool false, .bool false, .bool false, .bool false, .bool false] 55)
  replace o3 := o3.alloc (.cells #[.int .i64 F, .int .i64 K, .int .i64 P, .slice a3 zs.length c3, .int .i64 0, .bool false, .bool false, .bool false, .bool false, .bool false] 55)
  replace bel := bel_al bel (.cells #[.int .i64 F, .int .i64 K, .int .i64 P, .slice a3 zs.length c3, .int .i64 0, .bool false, .bool false, .bool false, .bool false, .bool false] 55)
  obtain ⟨k10, k11, k12, k13, k14, k15, k16, k17, k18, k19, -, -, -, -, -, -, -, -, -, -⟩ := id B1
  obtain ⟨k20, k21, k22, k23, k24, k25, k26, k27, k28, k29, -, -, -, -, -, -, -, -, -, -⟩ := id B2
  obtain ⟨k30, k31, k32, k33, k34, k35, k36, k37, k38, k39, -, -, -, -, -, -, -, -, -, -⟩ := id B3
  go_wp2_with fail
  refine (eqB_same F K P 0 false false false false false a3 a1 c3 c1 zs _ o3.sl o1.sl (by omega)).mono ?_
  rintro r w7 ⟨rfl, hb⟩
  clear k10 k11 k12 k13 k14 k15 k16 k17 k18 k19
  clear k20 k21 k22 k23 k24 k25 k26 k27 k28 k29
  clear k30 k31 k32 k33 k34 k35 k36 k37 k38 k39
  replace B1 := B1.below hb
  replace B2 := B2.below hb
  replace s5 := s5.below hb
  replace bel := bel_go bel hb
  clear hb
  obtain ⟨k10, k11, k12, k13, k14, k15, k16, k17, k18, k19, -, -, -, -, -, -, -, -, -, -⟩ := id B1
  obtain ⟨k20, k21, k22, k23, k24, k25, k26, k27, k28, k29, -, -, -, -, -, -, -, -, -, -⟩ := id B2
  go_wp2_with fail
  refine (CH.out _ s5).mono ?_
  rintro r w8 ⟨rfl, hb⟩
  replace bel := bel_go bel hb
  go_wp2
  go_ret
  exact ⟨rfl, bel⟩
end Go.Proofs.Ytmnfidkpnogfmaa
