/-
  What is needed of FloatG, FloatH, FloatJ, FloatN.
-/
import Derived.Test.YtkfjmcdniohljaaGreatDoorE27
set_option maxHeartbeats 16000000
set_option maxRecDepth 1000000
namespace Go.Proofs.YtkfjmcdniohljaaGreatDoor
set_option linter.unusedVariables false
set_option linter.unusedSimpArgs false
open Go.RowKit
theorem abs_no {fm x : Int} (h : okF fm x = false) : absF fm x = 0 := by unfold absF; rw [h]; rfl

theorem impl_abs32 (x : Int) (w : World) (h : Tab w) (h0 : 0 ≤ x) (h1 : x < 4294967296) :
    Calls Tryz.prog 74 #[.int .i64 32, .int .u64 x] w fun e w' => e = .returned (.int .u64 (x % 2147483648)) ∧ Below w.heap.size w w' := by
  have hok : okF 32 x = true := by simp [okF, h1]
  have h1' : x < 18446744073709551616 := by omega
  have e : bits .andNot .u64 x 2147483648 = x % 2147483648 := by rw [Bt.andNot31 x h0 (by omega)]; omega
  go_enter Tryz.func74, Tryz.ntmps74
  go_wp2_with fail
  refine (impl_ok 32 x _ h h0 h1').mono ?_
  rintro e w1 ⟨rfl, hb1⟩
  have hT1 := h.below hb1
  go_wp2_with fail
  refine (sizes32 _ hT1).mono ?_
  rintro e w2 ⟨rfl, hb2⟩
  go_wp2_with (go_at_call 148; refine (sign32 _).mono ?_; rintro e w3 ⟨rfl, hb3⟩)
  go_ret
  exact ⟨rfl, (by repeat (first | exact bz0 _ _ | refine bz1 ?_ | refine bz2 ?_ _ | refine bz3 ?_ _ | refine bz4 ?_ hb3 | refine bz4 ?_ hb2 | refine bz4 ?_ hb1 | refine bz5 ?_ _ | refine bz6 ?_ _ | refine bz7 ?_ hb3 | refine bz7 ?_ hb2 | refine bz7 ?_ hb1))⟩
theorem impl_abs64 (x : Int) (w : World) (h : Tab w) (h0 : 0 ≤ x) (h1 : x < 18446744073709551616) :
    Calls Tryz.prog 74 #[.int .i64 64, .int .u64 x] w fun e w' => e = .returned (.int .u64 (x % 9223372036854775808)) ∧ Below w.heap.size w w' := by
  have hok : okF 64 x = true := by simp [okF, h1]
  have h1' : x < 18446744073709551616 := by omega
  have e : bits .andNot .u64 x 9223372036854775808 = x % 9223372036854775808 := by rw [Bt.andNot63 x h0 (by omega)]; omega
  go_enter Tryz.func74, Tryz.ntmps74
  go_wp2_with fail
  refine (impl_ok 64 x _ h h0 h1').mono ?_
  rintro e w1 ⟨rfl, hb1⟩
  have hT1 := h.below hb1
  go_wp2_with fail
  refine (sizes64 _ hT1).mono ?_
  rintro e w2 ⟨rfl, hb2⟩
  go_wp2_with (go_at_call 148; refine (sign64 _).mono ?_; rintro e w3 ⟨rfl, hb3⟩)
  go_ret
  exact ⟨rfl, (by repeat (first | exact bz0 _ _ | refine bz1 ?_ | refine bz2 ?_ _ | refine bz3 ?_ _ | refine bz4 ?_ hb3 | refine bz4 ?_ hb2 | refine bz4 ?_ hb1 | refine bz5 ?_ _ | refine bz6 ?_ _ | refine bz7 ?_ hb3 | refine bz7 ?_ hb2 | refine bz7 ?_ hb1))⟩
theorem impl_abs (fm x : Int) (w : World) (hT : Tab w) (h0 : 0 ≤ x) (h1 : x < 18446744073709551616) :
    Calls Tryz.prog 74 #[.int .i64 fm, .int .u64 x] w fun e w' => e = .returned (.int .u64 (absF fm x)) ∧ Below w.heap.size w w' := by
  cases h : okF fm x
  · rw [abs_no h]
    go_enter Tryz.func74, Tryz.ntmps74
    go_wp2_with (go_at_call 147; refine (impl_ok fm x _ hT h0 h1).mono ?_; rintro e w1 ⟨rfl, hb1⟩)
    go_ret
    exact ⟨rfl, (by repeat (first | exact bz0 _ _ | refine bz1 ?_ | refine bz2 ?_ _ | refine bz3 ?_ _ | refine bz4 ?_ hb1 | refine bz5 ?_ _ | refine bz6 ?_ _ | refine bz7 ?_ hb1))⟩
  · rcases okF_cases h with ⟨rfl, hx⟩ | rfl
    · rw [abs32 hx]; exact impl_abs32 x w hT h0 hx
    · rw [abs64]; exact impl_abs64 x w hT h0 h1
theorem impl_sig (fm x : Int) (w : World) (hT : Tab w) (h0 : 0 ≤ x) (h1 : x < 18446744073709551616) :
    Calls Tryz.prog 182 #[.int .i64 fm, .int .u64 x] w fun e w' => e = .returned (.bool (sigB fm x)) ∧ Below w.heap.size w w' := by
  have HR : Hid ((x != absF fm x) = sigB fm x) := hid rfl
  go_enter Tryz.func182, Tryz.ntmps182
  go_wp2_with (go_at_call 74; refine (impl_abs fm x _ hT h0 h1).mono ?_; rintro e w1 ⟨rfl, hb1⟩)
  go_ret
  exact ⟨ret_bool HR.out, (by repeat (first | exact bz0 _ _ | refine bz1 ?_ | refine bz2 ?_ _ | refine bz3 ?_ _ | refine bz4 ?_ hb1 | refine bz5 ?_ _ | refine bz6 ?_ _ | refine bz7 ?_ hb1))⟩

theorem impl_fin (fm x : Int) (w : World) (hT : Tab w) (h0 : 0 ≤ x) (h1 : x < 18446744073709551616) :
    Calls Tryz.prog 193 #[.int .i64 fm, .int .u64 x] w fun e w' => e = .returned (.bool (finB fm x)) ∧ Below w.heap.size w w' := by
  have ⟨r0, r1⟩ := cls_rng fm x
  by_cases hc : 0 ≤ cls fm x ∧ cls fm x ≤ 2
  · have HR : Hid (finB fm x = true) := hid (by unfold finB; simpa using hc)
    have h3 : cls fm x = 0 ∨ cls fm x = 1 ∨ cls fm x = 2 := by omega
    have H3 := hid h3
    clear h3 hc
    rcases H3.out with c | c | c
    all_goals
      go_enter Tryz.func193, Tryz.ntmps193
      go_wp2_with fail
      refine (impl_cls fm x _ hT h0 h1).mono ?_
      rintro e w1 ⟨rfl, hb1⟩
      go_wp2
      go_ret
      exact ⟨ret_bool HR.out.symm, (by repeat (first | exact bz0 _ _ | refine bz1 ?_ | refine bz2 ?_ _ | refine bz3 ?_ _ | refine bz4 ?_ hb1 | refine bz5 ?_ _ | refine bz6 ?_ _ | refine bz7 ?_ hb1))⟩
  · have HR : Hid (finB fm x = false) := hid (by unfold finB; simpa using hc)
    have n0 : (cls fm x == 0) = false := by rw [beq_eq_false_iff_ne]; omega
    have n1 : (cls fm x == 1) = false := by rw [beq_eq_false_iff_ne]; omega
    have n2 : (cls fm x == 2) = false := by rw [beq_eq_false_iff_ne]; omega
    clear hc
    go_enter Tryz.func193, Tryz.ntmps193
    go_wp2_with fail
    refine (impl_cls fm x _ hT h0 h1).mono ?_
    rintro e w1 ⟨rfl, hb1⟩
    go_wp2
    go_ret
    exact ⟨ret_bool HR.out.symm, (by repeat (first | exact bz0 _ _ | refine bz1 ?_ | refine bz2 ?_ _ | refine bz3 ?_ _ | refine bz4 ?_ hb1 | refine bz5 ?_ _ | refine bz6 ?_ _ | refine bz7 ?_ hb1))⟩
theorem ret_parts {s : Bool} {a b a' b' : Int} (h : a = a') (k : b = b') : Ending.returned (.tuple #[.agg #[.bool s, .int .i64 a, .int .i64 b], .bool true]) = .returned (.tuple #[.agg #[.bool s, .int .i64 a', .int .i64 b'], .bool true]) := by rw [h, k]

theorem impl_parts32 (x : Int) (w : World) (hT : Tab w) (hf : finB 32 x = true) (h0 : 0 ≤ x) (h1 : x < 4294967296) (hi : x % 2147483648 < 2139095040) :
    Calls Tryz.prog 101 #[.int .i64 32, .int .u64 x] w fun e w' => e = .returned (.tuple #[.agg #[.bool (sigB 32 x), .int .i64 (parM 8388608 (x % 2147483648)), .int .i64 (parE 8388608 (-149) (x % 2147483648))], .bool true]) ∧ Below w.heap.size w w' := by
  have h1' : x < 18446744073709551616 := by omega
  have HM : Hid (x / 8388608 % 256 = x % 2147483648 / 8388608) := hid (by omega)
  have HN : Hid (x % 8388608 = x % 2147483648 % 8388608) := hid (by omega)
  have hxl : x % 8388608 < 8388608 := by omega
  have hxl0 : 0 ≤ x % 8388608 := by omega
  have hzb : x / 8388608 % 256 < 256 := by omega
  have hzb0 : 0 ≤ x / 8388608 % 256 := by omega
  have hwr : IntKind.i64.wrap (x % 8388608) = x % 8388608 := by rw [IntKind.wrap_i64]; omega
  go_enter Tryz.func101, Tryz.ntmps101
  go_wp2_with fail
  refine (impl_fin 32 x _ (hT.al _) h0 h1').mono ?_
  rintro e w1 ⟨rfl, hb1⟩
  have hT1 := (hT.al _).below hb1
  have r1 := (R3.new w _ _ _ _).below hb1
  go_wp2_with fail
  refine (sizes32 _ hT1).mono ?_
  rintro e w2 ⟨rfl, hb2⟩
  have hT2 := (hT1.below hb2).al (.cells #[.int .u64 23, .int .u64 255, .int .i64 (-149)] 121)
  have r2 := (r1.below hb2).al (.cells #[.int .u64 23, .int .u64 255, .int .i64 (-149)] 121)
  go_wp2_with fail
  refine (parted32 x _ h0 h1').mono ?_
  rintro e w3 ⟨rfl, hb3⟩
  have hT3 := hT2.below hb3
  have r3 := r2.below hb3
  have z3 : R3 w3 w2.heap.size (.int .u64 23) (.int .u64 255) (.int .i64 (-149)) := (R3.new w2 (.int .u64 23) (.int .u64 255) (.int .i64 (-149)) 121).below hb3
  have z30 := z3.c0; have z31 := z3.c1; have z32 := z3.c2
  have l3 : w2.heap.size < w3.heap.size := World.block_lt_of_cell? w3 _ z30
  have l3' : w.heap.size < w3.heap.size := World.block_lt_of_cell? w3 _ r3.c0
  have l3'' : w.heap.size < w2.heap.size := Nat.lt_of_lt_of_le (World.block_lt_of_cell? w1 _ r1.c0) hb2.size
  go_upto_region 5 with fail
  go_cut [10] (fun s wx => ∃ g : Nat, s = .pointer (some ⟨g, 0, none⟩) ∧ w3.heap.size ≤ g ∧ R3 wx g (.bool (sigB 32 x)) (.int .i64 (x % 8388608)) (.int .i64 (-149)) ∧ R3 wx w.heap.size (.bool false) (.int .i64 0) (.int .i64 0) ∧ R3 wx w2.heap.size (.int .u64 23) (.int .u64 255) (.int .i64 (-149)) ∧ Below w.heap.size w wx)
  case first =>
    go_region_with (first
      | (go_at_call 182; refine (impl_sig 32 x _ hT3.dr h0 h1').mono ?_; rintro e w4 ⟨rfl, hb4⟩; have rr4 := r3.dr.below hb4; have zz4 := z3.dr.below hb4; have l4s : w3.heap.size ≤ w4.heap.size := hb4.size; obtain ⟨zc0, zc1, zc2, zf0, zf1, zf2⟩ := zz4; have l4 : w2.heap.size < w4.heap.size := World.block_lt_of_cell? w4 _ zc0)
      | (go_at_call 182; refine (impl_sig 32 x _ (hT3.al _).dr h0 h1').mono ?_; rintro e w4 ⟨rfl, hb4⟩; have rr4 := (r3.al _).dr.below hb4; have zz4 := (z3.al _).dr.below hb4; obtain ⟨zc0, zc1, zc2, zf0, zf1, zf2⟩ := zz4; obtain ⟨pc0, pc1, pc2, pf0, pf1, pf2⟩ := (R3.new w3 _ _ _ _).dr.below hb4; have l4 : w2.heap.size < w4.heap.size := World.block_lt_of_cell? w4 _ zc0))
    all_goals (go_wp2_with fail; go_meet)
    all_goals first
      | exact ⟨w4.heap.size, rfl, l4s, R3.new w4 _ _ _ _, rr4.al _, R3.al ⟨zc0, zc1, zc2, zf0, zf1, zf2⟩ _, (by repeat (first | exact bz0 _ _ | refine bz1 ?_ | refine bz2 ?_ _ | refine bz3 ?_ _ | refine bz4 ?_ hb4 | refine bz4 ?_ hb3 | refine bz4 ?_ hb2 | refine bz4 ?_ hb1 | refine bz5 ?_ _ | refine bz6 ?_ _ | refine bz7 ?_ hb4 | refine bz7 ?_ hb3 | refine bz7 ?_ hb2 | refine bz7 ?_ hb1))⟩
      | exact ⟨w3.heap.size, rfl, Nat.le_refl _, R3.set ⟨pc0, pc1, pc2, pf0, pf1, pf2⟩ _ _ _, ((rr4.other (by simp; omega) _).other (by simp; omega) _).other (by simp; omega) _, ((R3.other ⟨zc0, zc1, zc2, zf0, zf1, zf2⟩ (by simp; omega) _).other (by simp; omega) _).other (by simp; omega) _, (by repeat (first | exact bz0 _ _ | refine bz1 ?_ | refine bz2 ?_ _ | refine bz3 ?_ _ | refine bz4 ?_ hb4 | refine bz4 ?_ hb3 | refine bz4 ?_ hb2 | refine bz4 ?_ hb1 | refine bz5 ?_ _ | refine bz6 ?_ _ | refine bz7 ?_ hb4 | refine bz7 ?_ hb3 | refine bz7 ?_ hb2 | refine bz7 ?_ hb1))⟩
  case rest =>
  obtain ⟨g, rfl, hg, pg, pr, pz, hbel⟩ := hcut
  obtain ⟨p0, p1, p2, q0, q1, q2⟩ := pg
  obtain ⟨rc0, rc1, rc2, rf0, rf1, rf2⟩ := pr
  obtain ⟨zc0, zc1, zc2, zf0, zf1, zf2⟩ := pz
  have hgw : w.heap.size < g := by omega
  have hgw2 : w2.heap.size < g := by omega
  by_cases hz : x / 8388608 % 256 = 0
  · have HP : Hid (x % 8388608 = parM 8388608 (x % 2147483648)) := hid (by unfold parM; rw [← HM.out, if_pos hz]; exact HN.out)
    have HQ : Hid ((-149) = parE 8388608 (-149) (x % 2147483648)) := hid (by unfold parE; rw [← HM.out, if_pos hz])
    have hz' : ¬ 0 < x / 8388608 % 256 := by omega
    clear hz
    go_wp2
    exact bodyPost_ret (v := .tuple #[.agg #[.bool (sigB 32 x), .int .i64 (x % 8388608), .int .i64 (-149)], .bool true]) (by simp [results, Tryz.results101, go_sem, rc0, rc1, rc2, hgw]) rfl ⟨ret_parts HP.out HQ.out, (by repeat (first | exact bz0 _ _ | refine bz1 ?_ | refine bz2 ?_ _ | refine bz3 ?_ _ | refine bz4 ?_ hbel | refine bz5 ?_ _ | refine bz6 ?_ _ | refine bz7 ?_ hbel))⟩
  · have HP : Hid (x % 8388608 + 8388608 = parM 8388608 (x % 2147483648)) := hid (by unfold parM; rw [← HM.out, if_neg hz, ← HN.out])
    have HQ : Hid ((-149) + (x / 8388608 % 256 - 1) = parE 8388608 (-149) (x % 2147483648)) := hid (by unfold parE; rw [← HM.out, if_neg hz]; omega)
    have hz' : 0 < x / 8388608 % 256 := by omega
    clear hz
    go_wp2
    exact bodyPost_ret (v := .tuple #[.agg #[.bool (sigB 32 x), .int .i64 (x % 8388608 + 8388608), .int .i64 ((-149) + (x / 8388608 % 256 - 1))], .bool true]) (by simp [results, Tryz.results101, go_sem, rc0, rc1, rc2, hgw]) rfl ⟨ret_parts HP.out HQ.out, (by repeat (first | exact bz0 _ _ | refine bz1 ?_ | refine bz2 ?_ _ | refine bz3 ?_ _ | refine bz4 ?_ hbel | refine bz5 ?_ _ | refine bz6 ?_ _ | refine bz7 ?_ hbel))⟩
theorem impl_parts64 (x : Int) (w : World) (hT : Tab w) (hf : finB 64 x = true) (h0 : 0 ≤ x) (h1 : x < 18446744073709551616) (hi : x % 9223372036854775808 < 9218868437227405312) :
    Calls Tryz.prog 101 #[.int .i64 64, .int .u64 x] w fun e w' => e = .returned (.tuple #[.agg #[.bool (sigB 64 x), .int .i64 (parM 4503599627370496 (x % 9223372036854775808)), .int .i64 (parE 4503599627370496 (-1074) (x % 9223372036854775808))], .bool true]) ∧ Below w.heap.size w w' := by
  have h1' : x < 18446744073709551616 := by omega
  have HM : Hid (x / 4503599627370496 % 2048 = x % 9223372036854775808 / 4503599627370496) := hid (by omega)
  have HN : Hid (x % 4503599627370496 = x % 9223372036854775808 % 4503599627370496) := hid (by omega)
  have hxl : x % 4503599627370496 < 4503599627370496 := by omega
  have hxl0 : 0 ≤ x % 4503599627370496 := by omega
  have hzb : x / 4503599627370496 % 2048 < 2048 := by omega
  have hzb0 : 0 ≤ x / 4503599627370496 % 2048 := by omega
  have hwr : IntKind.i64.wrap (x % 4503599627370496) = x % 4503599627370496 := by rw [IntKind.wrap_i64]; omega
  go_enter Tryz.func101, Tryz.ntmps101
  go_wp2_with fail
  refine (impl_fin 64 x _ (hT.al _) h0 h1').mono ?_
  rintro e w1 ⟨rfl, hb1⟩
  have hT1 := (hT.al _).below hb1
  have r1 := (R3.new w _ _ _ _).below hb1
  go_wp2_with fail
  refine (sizes64 _ hT1).mono ?_
  rintro e w2 ⟨rfl, hb2⟩
  have hT2 := (hT1.below hb2).al (.cells #[.int .u64 52, .int .u64 2047, .int .i64 (-1074)] 121)
  have r2 := (r1.below hb2).al (.cells #[.int .u64 52, .int .u64 2047, .int .i64 (-1074)] 121)
  go_wp2_with fail
  refine (parted64 x _ h0 h1').mono ?_
  rintro e w3 ⟨rfl, hb3⟩
  have hT3 := hT2.below hb3
  have r3 := r2.below hb3
  have z3 : R3 w3 w2.heap.size (.int .u64 52) (.int .u64 2047) (.int .i64 (-1074)) := (R3.new w2 (.int .u64 52) (.int .u64 2047) (.int .i64 (-1074)) 121).below hb3
  have z30 := z3.c0; have z31 := z3.c1; have z32 := z3.c2
  have l3 : w2.heap.size < w3.heap.size := World.block_lt_of_cell? w3 _ z30
  have l3' : w.heap.size < w3.heap.size := World.block_lt_of_cell? w3 _ r3.c0
  have l3'' : w.heap.size < w2.heap.size := Nat.lt_of_lt_of_le (World.block_lt_of_cell? w1 _ r1.c0) hb2.size
  go_upto_region 5 with fail
  go_cut [10] (fun s wx => ∃ g : Nat, s = .pointer (some ⟨g, 0, none⟩) ∧ w3.heap.size ≤ g ∧ R3 wx g (.bool (sigB 64 x)) (.int .i64 (x % 4503599627370496)) (.int .i64 (-1074)) ∧ R3 wx w.heap.size (.bool false) (.int .i64 0) (.int .i64 0) ∧ R3 wx w2.heap.size (.int .u64 52) (.int .u64 2047) (.int .i64 (-1074)) ∧ Below w.heap.size w wx)
  case first =>
    go_region_with (first
      | (go_at_call 182; refine (impl_sig 64 x _ hT3.dr h0 h1').mono ?_; rintro e w4 ⟨rfl, hb4⟩; have rr4 := r3.dr.below hb4; have zz4 := z3.dr.below hb4; have l4s : w3.heap.size ≤ w4.heap.size := hb4.size; obtain ⟨zc0, zc1, zc2, zf0, zf1, zf2⟩ := zz4; have l4 : w2.heap.size < w4.heap.size := World.block_lt_of_cell? w4 _ zc0)
      | (go_at_call 182; refine (impl_sig 64 x _ (hT3.al _).dr h0 h1').mono ?_; rintro e w4 ⟨rfl, hb4⟩; have rr4 := (r3.al _).dr.below hb4; have zz4 := (z3.al _).dr.below hb4; obtain ⟨zc0, zc1, zc2, zf0, zf1, zf2⟩ := zz4; obtain ⟨pc0, pc1, pc2, pf0, pf1, pf2⟩ := (R3.new w3 _ _ _ _).dr.below hb4; have l4 : w2.heap.size < w4.heap.size := World.block_lt_of_cell? w4 _ zc0))
    all_goals (go_wp2_with fail; go_meet)
    all_goals first
      | exact ⟨w4.heap.size, rfl, l4s, R3.new w4 _ _ _ _, rr4.al _, R3.al ⟨zc0, zc1, zc2, zf0, zf1, zf2⟩ _, (by repeat (first | exact bz0 _ _ | refine bz1 ?_ | refine bz2 ?_ _ | refine bz3 ?_ _ | refine bz4 ?_ hb4 | refine bz4 ?_ hb3 | refine bz4 ?_ hb2 | refine bz4 ?_ hb1 | refine bz5 ?_ _ | refine bz6 ?_ _ | refine bz7 ?_ hb4 | refine bz7 ?_ hb3 | refine bz7 ?_ hb2 | refine bz7 ?_ hb1))⟩
      | exact ⟨w3.heap.size, rfl, Nat.le_refl _, R3.set ⟨pc0, pc1, pc2, pf0, pf1, pf2⟩ _ _ _, ((rr4.other (by simp; omega) _).other (by simp; omega) _).other (by simp; omega) _, ((R3.other ⟨zc0, zc1, zc2, zf0, zf1, zf2⟩ (by simp; omega) _).other (by simp; omega) _).other (by simp; omega) _, (by repeat (first | exact bz0 _ _ | refine bz1 ?_ | refine bz2 ?_ _ | refine bz3 ?_ _ | refine bz4 ?_ hb4 | refine bz4 ?_ hb3 | refine bz4 ?_ hb2 | refine bz4 ?_ hb1 | refine bz5 ?_ _ | refine bz6 ?_ _ | refine bz7 ?_ hb4 | refine bz7 ?_ hb3 | refine bz7 ?_ hb2 | refine bz7 ?_ hb1))⟩
  case rest =>
  obtain ⟨g, rfl, hg, pg, pr, pz, hbel⟩ := hcut
  obtain ⟨p0, p1, p2, q0, q1, q2⟩ := pg
  obtain ⟨rc0, rc1, rc2, rf0, rf1, rf2⟩ := pr
  obtain ⟨zc0, zc1, zc2, zf0, zf1, zf2⟩ := pz
  have hgw : w.heap.size < g := by omega
  have hgw2 : w2.heap.size < g := by omega
  by_cases hz : x / 4503599627370496 % 2048 = 0
  · have HP : Hid (x % 4503599627370496 = parM 4503599627370496 (x % 9223372036854775808)) := hid (by unfold parM; rw [← HM.out, if_pos hz]; exact HN.out)
    have HQ : Hid ((-1074) = parE 4503599627370496 (-1074) (x % 9223372036854775808)) := hid (by unfold parE; rw [← HM.out, if_pos hz])
    have hz' : ¬ 0 < x / 4503599627370496 % 2048 := by omega
    clear hz
    go_wp2
    exact bodyPost_ret (v := .tuple #[.agg #[.bool (sigB 64 x), .int .i64 (x % 4503599627370496), .int .i64 (-1074)], .bool true]) (by simp [results, Tryz.results101, go_sem, rc0, rc1, rc2, hgw]) rfl ⟨ret_parts HP.out HQ.out, (by repeat (first | exact bz0 _ _ | refine bz1 ?_ | refine bz2 ?_ _ | refine bz3 ?_ _ | refine bz4 ?_ hbel | refine bz5 ?_ _ | refine bz6 ?_ _ | refine bz7 ?_ hbel))⟩
  · have HP : Hid (x % 4503599627370496 + 4503599627370496 = parM 4503599627370496 (x % 9223372036854775808)) := hid (by unfold parM; rw [← HM.out, if_neg hz, ← HN.out])
    have HQ : Hid ((-1074) + (x / 4503599627370496 % 2048 - 1) = parE 4503599627370496 (-1074) (x % 9223372036854775808)) := hid (by unfold parE; rw [← HM.out, if_neg hz]; omega)
    have hz' : 0 < x / 4503599627370496 % 2048 := by omega
    clear hz
    go_wp2
    exact bodyPost_ret (v := .tuple #[.agg #[.bool (sigB 64 x), .int .i64 (x % 4503599627370496 + 4503599627370496), .int .i64 ((-1074) + (x / 4503599627370496 % 2048 - 1))], .bool true]) (by simp [results, Tryz.results101, go_sem, rc0, rc1, rc2, hgw]) rfl ⟨ret_parts HP.out HQ.out, (by repeat (first | exact bz0 _ _ | refine bz1 ?_ | refine bz2 ?_ _ | refine bz3 ?_ _ | refine bz4 ?_ hbel | refine bz5 ?_ _ | refine bz6 ?_ _ | refine bz7 ?_ hbel))⟩
end Go.Proofs.YtkfjmcdniohljaaGreatDoor
