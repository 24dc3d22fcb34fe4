/-
  What is needed of Bits, FloatA, EA, FloatE, EA2, EB, EC, ED.
-/
import Derived.Test.YtkfjmcdniohljaaGreatDoorE13
import Derived.Test.YtkfjmcdniohljaaGreatDoorE19
set_option maxHeartbeats 16000000
set_option maxRecDepth 1000000
namespace Go.Proofs.YtkfjmcdniohljaaGreatDoor
set_option linter.unusedVariables false
set_option linter.unusedSimpArgs false
namespace Bt
theorem mask8 (x : Int) (h0 : 0 ≤ x) (h1 : x < 18446744073709551616) : bits .and .u64 x 255 = x % 256 := by
  obtain ⟨n, rfl⟩ := Int.eq_ofNat_of_zero_le h0
  have := u64_and_nat n 255 (by omega) (by decide)
  rw [show ((255 : Nat) : Int) = 255 from rfl] at this
  rw [this, show n &&& 255 = n % 256 from Nat.and_two_pow_sub_one_eq_mod n 8]
  omega
theorem mask11 (x : Int) (h0 : 0 ≤ x) (h1 : x < 18446744073709551616) : bits .and .u64 x 2047 = x % 2048 := by
  obtain ⟨n, rfl⟩ := Int.eq_ofNat_of_zero_le h0
  have := u64_and_nat n 2047 (by omega) (by decide)
  rw [show ((2047 : Nat) : Int) = 2047 from rfl] at this
  rw [this, show n &&& 2047 = n % 2048 from Nat.and_two_pow_sub_one_eq_mod n 11]
  omega
end Bt
open Go.RowKit
theorem parted32 (x : Int) (w : World) (h0 : 0 ≤ x) (h1 : x < 18446744073709551616) :
    Calls Tryz.prog 169 #[.agg #[.int .u64 23, .int .u64 255, .int .i64 (-149)], .int .u64 x] w fun e w' => e = .returned (.tuple #[.int .u64 (x / 8388608 % 256), .int .u64 (x % 8388608)]) ∧ Below w.heap.size w w' := by
  have e1 := Bt.mask8 (x / 8388608) (by omega) (by omega)
  have e2 := Bt.mask23 x h0 h1
  go_enter Tryz.func169, Tryz.ntmps169
  go_wp2
  go_region
  all_goals go_wp2
  all_goals go_ret2
  all_goals exact ⟨rfl, (by repeat (first | exact bz0 _ _ | refine bz1 ?_ | refine bz2 ?_ _ | refine bz3 ?_ _ | refine bz5 ?_ _ | refine bz6 ?_ _))⟩
theorem parted64 (x : Int) (w : World) (h0 : 0 ≤ x) (h1 : x < 18446744073709551616) :
    Calls Tryz.prog 169 #[.agg #[.int .u64 52, .int .u64 2047, .int .i64 (-1074)], .int .u64 x] w fun e w' => e = .returned (.tuple #[.int .u64 (x / 4503599627370496 % 2048), .int .u64 (x % 4503599627370496)]) ∧ Below w.heap.size w w' := by
  have e1 := Bt.mask11 (x / 4503599627370496) (by omega) (by omega)
  have e2 := Bt.mask52 x h0 h1
  go_enter Tryz.func169, Tryz.ntmps169
  go_wp2
  go_region
  all_goals go_wp2
  all_goals go_ret2
  all_goals exact ⟨rfl, (by repeat (first | exact bz0 _ _ | refine bz1 ?_ | refine bz2 ?_ _ | refine bz3 ?_ _ | refine bz5 ?_ _ | refine bz6 ?_ _))⟩
end Go.Proofs.YtkfjmcdniohljaaGreatDoor
namespace Go.Proofs.YtkfjmcdniohljaaGreatDoor
set_option linter.unusedVariables false
set_option linter.unusedSimpArgs false
open Go.RowKit Go.Extern.Stop Go.Stop Go.Extern
namespace EA
theorem valueOfP (t : Addr) (w : World) : (ReflectliteValue.unpack (.iface 212 (.pointer (some t)))).run Tryz.prog w
    = .ok (.agg #[.pointer (some ⟨5, 212, none⟩), .pointer (some ⟨w.heap.size, 0, none⟩), .int .u64 150]) (w.alloc (.cells #[.pointer (some t)] 212)) := by kernel_rfl
theorem typeP (a : Addr) (w : World) : (ReflectliteValue.methodAny (ReflectliteValue.valueError "reflectlite.Value.Type" 0) (fun t _ _ _ => ReflectliteType.toType t) #[.agg #[.pointer (some ⟨5, 212, none⟩), .pointer (some a), .int .u64 150]]).run Tryz.prog w
    = .ok (.iface 233 (.agg #[.pointer (some ⟨5, 212, none⟩)])) w := by kernel_rfl
theorem mKind (h : Value) (w : World) : (Go.method 378 233 (.agg #[h]) "Kind").run Tryz.prog w = .ok (255, h) w := by kernel_rfl
theorem kindP (w : World) : ((ReflectliteType.abiMethod fun t => (fun a : Nat => Value.int IntKind.u8 (a : Int)) <$> Rtype.kind t) #[.pointer (some ⟨5, 212, none⟩)]).run Tryz.prog w = .ok (.int .u8 22) w := by kernel_rfl
theorem kindI (w : World) : ((ReflectliteType.abiMethod fun t => (fun a : Nat => Value.int IntKind.u8 (a : Int)) <$> Rtype.kind t) #[.pointer (some ⟨5, 181, none⟩)]).run Tryz.prog w = .ok (.int .u8 25) w := by kernel_rfl
theorem rlm (z : Sem Value) (f : TypeId → Addr → Nat → Nat → Sem Value) (v : Value) :
    ReflectliteValue.method z f #[v] = (do match ← ReflectliteValue.parts v with | none => z | some (t, a, fl) => f t a fl (fl % 32)) := rfl
theorem partsP (a : Addr) (w : World) : (ReflectliteValue.parts (.agg #[.pointer (some ⟨5, 212, none⟩), .pointer (some a), .int .u64 150])).run Tryz.prog w = .ok (some (212, a, 150)) w := by kernel_rfl
theorem isNilP (a p : Addr) (W : World) (ha : W.cell? a = some (.pointer (some p))) :
    (ReflectliteValue.method (ReflectliteValue.valueError "reflectlite.Value.IsNil" 0) ReflectliteValue.isNil #[.agg #[.pointer (some ⟨5, 212, none⟩), .pointer (some a), .int .u64 150]]).run Tryz.prog W = .ok (.bool false) W := by
  rw [rlm]
  simp only [Sem.run_bind, partsP, Result.andThen]
  simp [ReflectliteValue.isNil, loadVar, isAgg, underlying, Tryz.underlying212, ha, Result.andThen]
theorem mElem (h : Value) (w : World) : (Go.method 378 233 (.agg #[h]) "Elem").run Tryz.prog w = .ok (267, .agg #[h]) w := by kernel_rfl
theorem mImpl (h : Value) (w : World) : (Go.method 378 233 (.agg #[h]) "Implements").run Tryz.prog w = .ok (268, .agg #[h]) w := by kernel_rfl
theorem mAss (h : Value) (w : World) : (Go.method 378 233 (.agg #[h]) "AssignableTo").run Tryz.prog w = .ok (265, .agg #[h]) w := by kernel_rfl
theorem elemP (w : World) : (ReflectliteType.method ReflectliteType.elem #[.agg #[.pointer (some ⟨5, 212, none⟩)]]).run Tryz.prog w = .ok (.iface 233 (.agg #[.pointer (some ⟨5, 181, none⟩)])) w := by kernel_rfl
theorem implI (w : World) : (ReflectliteType.relation "Implements" ReflectliteType.implements_ #[.agg #[.pointer (some ⟨5, 181, none⟩)], .iface 233 (.agg #[.pointer (some ⟨5, 100, none⟩)])]).run Tryz.prog w = .ok (.bool true) w := by kernel_rfl
theorem typeOfI (v : Value) (w : World) : (ReflectliteType.typeOf #[.iface 181 v]).run Tryz.prog w = .ok (.iface 233 (.agg #[.pointer (some ⟨5, 181, none⟩)])) w := by kernel_rfl
theorem assI (w : World) : (ReflectliteType.relation "AssignableTo" ReflectliteType.assignableTo #[.agg #[.pointer (some ⟨5, 181, none⟩)], .iface 233 (.agg #[.pointer (some ⟨5, 181, none⟩)])]).run Tryz.prog w = .ok (.bool true) w := by kernel_rfl
theorem typeOfN (v : Value) (w : World) : (ReflectliteType.typeOf #[.iface 179 v]).run Tryz.prog w = .ok (.iface 233 (.agg #[.pointer (some ⟨5, 179, none⟩)])) w := by kernel_rfl
theorem assN (w : World) : (ReflectliteType.relation "AssignableTo" ReflectliteType.assignableTo #[.agg #[.pointer (some ⟨5, 179, none⟩)], .iface 233 (.agg #[.pointer (some ⟨5, 181, none⟩)])]).run Tryz.prog w = .ok (.bool false) w := by kernel_rfl
theorem typeOfQ (v : Value) (w : World) : (ReflectliteType.typeOf #[.iface 246 v]).run Tryz.prog w = .ok (.iface 233 (.agg #[.pointer (some ⟨5, 246, none⟩)])) w := by kernel_rfl
theorem assQ (w : World) : (ReflectliteType.relation "AssignableTo" ReflectliteType.assignableTo #[.agg #[.pointer (some ⟨5, 246, none⟩)], .iface 233 (.agg #[.pointer (some ⟨5, 181, none⟩)])]).run Tryz.prog w = .ok (.bool false) w := by kernel_rfl
theorem valueOfI (s : ByteArray) (w : World) : (ReflectliteValue.unpack (.iface 181 (.agg #[.string s]))).run Tryz.prog w
    = .ok (.agg #[.pointer (some ⟨5, 181, none⟩), .pointer (some ⟨w.heap.size, 0, none⟩), .int .u64 153]) (w.alloc (.cells #[.string s] 181)) := by kernel_rfl
theorem elemOfP (w : World) : (Rtype.elem? 212).run Tryz.prog w = .ok (some 181) w := by kernel_rfl
theorem mkI (p : Addr) (w : World) : (ReflectliteValue.mk 181 p ReflectliteValue.flagAddr).run Tryz.prog w = .ok (.agg #[.pointer (some ⟨5, 181, none⟩), .pointer (some p), .int .u64 409]) w := by kernel_rfl
theorem elemV (a p : Addr) (W : World) (ha : W.cell? a = some (.pointer (some p))) :
    (ReflectliteValue.method (ReflectliteValue.valueError "reflectlite.Value.Elem" 0) ReflectliteValue.elem #[.agg #[.pointer (some ⟨5, 212, none⟩), .pointer (some a), .int .u64 150]]).run Tryz.prog W
      = .ok (.agg #[.pointer (some ⟨5, 181, none⟩), .pointer (some p), .int .u64 409]) W := by
  rw [rlm]
  simp only [Sem.run_bind, partsP, Result.andThen]
  simp [ReflectliteValue.elem, loadVar, isAgg, underlying, Tryz.underlying212, ha, Result.andThen, elemOfP, mkI]
theorem partsIa (a : Addr) (w : World) : (ReflectliteValue.parts (.agg #[.pointer (some ⟨5, 181, none⟩), .pointer (some a), .int .u64 409])).run Tryz.prog w = .ok (some (181, a, 409)) w := by kernel_rfl
theorem partsI (a : Addr) (w : World) : (ReflectliteValue.parts (.agg #[.pointer (some ⟨5, 181, none⟩), .pointer (some a), .int .u64 153])).run Tryz.prog w = .ok (some (181, a, 153)) w := by kernel_rfl
theorem directI (w : World) : (Rtype.directlyAssignable 181 181).run Tryz.prog w = .ok true w := by kernel_rfl
theorem sizeI (w : World) : (sizeOf 181).run Tryz.prog w = .ok 1 w := by kernel_rfl
end EA
end Go.Proofs.YtkfjmcdniohljaaGreatDoor
namespace Go.Proofs.YtkfjmcdniohljaaGreatDoor
set_option linter.unusedVariables false
set_option linter.unusedSimpArgs false
open Go.RowKit
theorem impl_cls32 (x : Int) (w : World) (h : Tab w) (h0 : 0 ≤ x) (h1 : x < 4294967296) :
    Calls Tryz.prog 66 #[.int .i64 32, .int .u64 x] w fun e w' => e = .returned (.int .i64 (clsY 8388608 2139095040 4194304 (x % 2147483648))) ∧ Below w.heap.size w w' := by
  have hok : okF 32 x = true := by simp [okF, h1]
  have h1' : x < 18446744073709551616 := by omega
  have eb := Bt.bit22 (x % 8388608) (by omega) (by omega)
  obtain ⟨y, hy⟩ : ∃ y, y = x % 2147483648 := ⟨_, rfl⟩
  rw [← hy]
  by_cases c0 : y = 0
  · have t0 : (x / 8388608 % 256 == 0) = true := by rw [beq_iff_eq]; omega
    have r0 : (x % 8388608 == 0) = true := by rw [beq_iff_eq]; omega
    have HR : Hid (clsY 8388608 2139095040 4194304 y = 0) := hid (by unfold clsY; rw [if_pos c0])
    clear c0 eb hy
    go_enter Tryz.func66, Tryz.ntmps66
    go_wp2_with fail
    refine (impl_ok 32 x _ h h0 h1').mono ?_
    rintro e w1 ⟨rfl, hb1⟩
    have hT1 := h.below hb1
    go_wp2_with fail
    refine (sizes32 _ hT1).mono ?_
    rintro e w2 ⟨rfl, hb2⟩
    go_wp2_with (go_at_call 169; refine (parted32 x _ h0 h1').mono ?_; rintro e w3 ⟨rfl, hb3⟩; obtain ⟨z30, z31, z32⟩ := Z3.below (Z3.new w2 (.int .u64 23) (.int .u64 255) (.int .i64 (-149)) 121) hb3)
    go_ret
    exact ⟨ret_int HR.out.symm, (by repeat (first | exact bz0 _ _ | refine bz1 ?_ | refine bz2 ?_ _ | refine bz3 ?_ _ | refine bz4 ?_ hb3 | refine bz4 ?_ hb2 | refine bz4 ?_ hb1 | refine bz5 ?_ _ | refine bz6 ?_ _ | refine bz7 ?_ hb3 | refine bz7 ?_ hb2 | refine bz7 ?_ hb1))⟩
  by_cases c1 : y < 8388608
  · have t0 : (x / 8388608 % 256 == 0) = true := by rw [beq_iff_eq]; omega
    have r0 : (x % 8388608 == 0) = false := by rw [beq_eq_false_iff_ne]; omega
    have HR : Hid (clsY 8388608 2139095040 4194304 y = 1) := hid (by unfold clsY; rw [if_neg c0, if_pos c1])
    clear c0 eb hy c1
    go_enter Tryz.func66, Tryz.ntmps66
    go_wp2_with fail
    refine (impl_ok 32 x _ h h0 h1').mono ?_
    rintro e w1 ⟨rfl, hb1⟩
    have hT1 := h.below hb1
    go_wp2_with fail
    refine (sizes32 _ hT1).mono ?_
    rintro e w2 ⟨rfl, hb2⟩
    go_wp2_with (go_at_call 169; refine (parted32 x _ h0 h1').mono ?_; rintro e w3 ⟨rfl, hb3⟩; obtain ⟨z30, z31, z32⟩ := Z3.below (Z3.new w2 (.int .u64 23) (.int .u64 255) (.int .i64 (-149)) 121) hb3)
    go_ret
    exact ⟨ret_int HR.out.symm, (by repeat (first | exact bz0 _ _ | refine bz1 ?_ | refine bz2 ?_ _ | refine bz3 ?_ _ | refine bz4 ?_ hb3 | refine bz4 ?_ hb2 | refine bz4 ?_ hb1 | refine bz5 ?_ _ | refine bz6 ?_ _ | refine bz7 ?_ hb3 | refine bz7 ?_ hb2 | refine bz7 ?_ hb1))⟩
  have t0 : (x / 8388608 % 256 == 0) = false := by rw [beq_eq_false_iff_ne]; omega
  by_cases c2 : y < 2139095040
  · have u0 : x / 8388608 % 256 < 255 := by omega
    have HR : Hid (clsY 8388608 2139095040 4194304 y = 2) := hid (by unfold clsY; rw [if_neg c0, if_neg c1, if_pos c2])
    clear c0 eb hy c1 c2
    go_enter Tryz.func66, Tryz.ntmps66
    go_wp2_with fail
    refine (impl_ok 32 x _ h h0 h1').mono ?_
    rintro e w1 ⟨rfl, hb1⟩
    have hT1 := h.below hb1
    go_wp2_with fail
    refine (sizes32 _ hT1).mono ?_
    rintro e w2 ⟨rfl, hb2⟩
    go_wp2_with (go_at_call 169; refine (parted32 x _ h0 h1').mono ?_; rintro e w3 ⟨rfl, hb3⟩; obtain ⟨z30, z31, z32⟩ := Z3.below (Z3.new w2 (.int .u64 23) (.int .u64 255) (.int .i64 (-149)) 121) hb3)
    go_ret
    exact ⟨ret_int HR.out.symm, (by repeat (first | exact bz0 _ _ | refine bz1 ?_ | refine bz2 ?_ _ | refine bz3 ?_ _ | refine bz4 ?_ hb3 | refine bz4 ?_ hb2 | refine bz4 ?_ hb1 | refine bz5 ?_ _ | refine bz6 ?_ _ | refine bz7 ?_ hb3 | refine bz7 ?_ hb2 | refine bz7 ?_ hb1))⟩
  have u0 : ¬ x / 8388608 % 256 < 255 := by omega
  by_cases c3 : y = 2139095040
  · have r0 : (x % 8388608 == 0) = true := by rw [beq_iff_eq]; omega
    have HR : Hid (clsY 8388608 2139095040 4194304 y = 3) := hid (by unfold clsY; rw [if_neg c0, if_neg c1, if_neg c2, if_pos c3])
    clear c0 eb c3 hy c1 c2
    go_enter Tryz.func66, Tryz.ntmps66
    go_wp2_with fail
    refine (impl_ok 32 x _ h h0 h1').mono ?_
    rintro e w1 ⟨rfl, hb1⟩
    have hT1 := h.below hb1
    go_wp2_with fail
    refine (sizes32 _ hT1).mono ?_
    rintro e w2 ⟨rfl, hb2⟩
    go_wp2_with (go_at_call 169; refine (parted32 x _ h0 h1').mono ?_; rintro e w3 ⟨rfl, hb3⟩; obtain ⟨z30, z31, z32⟩ := Z3.below (Z3.new w2 (.int .u64 23) (.int .u64 255) (.int .i64 (-149)) 121) hb3)
    go_ret
    exact ⟨ret_int HR.out.symm, (by repeat (first | exact bz0 _ _ | refine bz1 ?_ | refine bz2 ?_ _ | refine bz3 ?_ _ | refine bz4 ?_ hb3 | refine bz4 ?_ hb2 | refine bz4 ?_ hb1 | refine bz5 ?_ _ | refine bz6 ?_ _ | refine bz7 ?_ hb3 | refine bz7 ?_ hb2 | refine bz7 ?_ hb1))⟩
  have r0 : (x % 8388608 == 0) = false := by rw [beq_eq_false_iff_ne]; omega
  by_cases c4 : y / 4194304 % 2 = 1
  · have t4 : (bits .and .u64 (x % 8388608) 4194304 != 0) = true := by rw [eb, show x % 8388608 / 4194304 % 2 = 1 by omega]; decide
    have HR : Hid (clsY 8388608 2139095040 4194304 y = 4) := hid (by unfold clsY; rw [if_neg c0, if_neg c1, if_neg c2, if_neg c3, if_pos c4])
    clear c0 eb c3 c4 hy c1 c2
    go_enter Tryz.func66, Tryz.ntmps66
    go_wp2_with fail
    refine (impl_ok 32 x _ h h0 h1').mono ?_
    rintro e w1 ⟨rfl, hb1⟩
    have hT1 := h.below hb1
    go_wp2_with fail
    refine (sizes32 _ hT1).mono ?_
    rintro e w2 ⟨rfl, hb2⟩
    go_wp2_with (go_at_call 169; refine (parted32 x _ h0 h1').mono ?_; rintro e w3 ⟨rfl, hb3⟩; obtain ⟨z30, z31, z32⟩ := Z3.below (Z3.new w2 (.int .u64 23) (.int .u64 255) (.int .i64 (-149)) 121) hb3)
    refine (quiet32 _).mono ?_
    rintro e w4 ⟨rfl, hb4⟩
    go_wp2
    go_ret
    exact ⟨ret_int HR.out.symm, (by repeat (first | exact bz0 _ _ | refine bz1 ?_ | refine bz2 ?_ _ | refine bz3 ?_ _ | refine bz4 ?_ hb4 | refine bz4 ?_ hb3 | refine bz4 ?_ hb2 | refine bz4 ?_ hb1 | refine bz5 ?_ _ | refine bz6 ?_ _ | refine bz7 ?_ hb4 | refine bz7 ?_ hb3 | refine bz7 ?_ hb2 | refine bz7 ?_ hb1))⟩
  · have t4 : (bits .and .u64 (x % 8388608) 4194304 != 0) = false := by rw [eb, show x % 8388608 / 4194304 % 2 = 0 by omega]; decide
    have HR : Hid (clsY 8388608 2139095040 4194304 y = 5) := hid (by unfold clsY; rw [if_neg c0, if_neg c1, if_neg c2, if_neg c3, if_neg c4])
    clear c0 eb c3 c4 hy c1 c2
    go_enter Tryz.func66, Tryz.ntmps66
    go_wp2_with fail
    refine (impl_ok 32 x _ h h0 h1').mono ?_
    rintro e w1 ⟨rfl, hb1⟩
    have hT1 := h.below hb1
    go_wp2_with fail
    refine (sizes32 _ hT1).mono ?_
    rintro e w2 ⟨rfl, hb2⟩
    go_wp2_with (go_at_call 169; refine (parted32 x _ h0 h1').mono ?_; rintro e w3 ⟨rfl, hb3⟩; obtain ⟨z30, z31, z32⟩ := Z3.below (Z3.new w2 (.int .u64 23) (.int .u64 255) (.int .i64 (-149)) 121) hb3)
    refine (quiet32 _).mono ?_
    rintro e w4 ⟨rfl, hb4⟩
    go_wp2
    go_ret
    exact ⟨ret_int HR.out.symm, (by repeat (first | exact bz0 _ _ | refine bz1 ?_ | refine bz2 ?_ _ | refine bz3 ?_ _ | refine bz4 ?_ hb4 | refine bz4 ?_ hb3 | refine bz4 ?_ hb2 | refine bz4 ?_ hb1 | refine bz5 ?_ _ | refine bz6 ?_ _ | refine bz7 ?_ hb4 | refine bz7 ?_ hb3 | refine bz7 ?_ hb2 | refine bz7 ?_ hb1))⟩
theorem impl_cls64 (x : Int) (w : World) (h : Tab w) (h0 : 0 ≤ x) (h1 : x < 18446744073709551616) :
    Calls Tryz.prog 66 #[.int .i64 64, .int .u64 x] w fun e w' => e = .returned (.int .i64 (clsY 4503599627370496 9218868437227405312 2251799813685248 (x % 9223372036854775808))) ∧ Below w.heap.size w w' := by
  have hok : okF 64 x = true := by simp [okF, h1]
  have h1' : x < 18446744073709551616 := by omega
  have eb := Bt.bit51 (x % 4503599627370496) (by omega) (by omega)
  obtain ⟨y, hy⟩ : ∃ y, y = x % 9223372036854775808 := ⟨_, rfl⟩
  rw [← hy]
  by_cases c0 : y = 0
  · have t0 : (x / 4503599627370496 % 2048 == 0) = true := by rw [beq_iff_eq]; omega
    have r0 : (x % 4503599627370496 == 0) = true := by rw [beq_iff_eq]; omega
    have HR : Hid (clsY 4503599627370496 9218868437227405312 2251799813685248 y = 0) := hid (by unfold clsY; rw [if_pos c0])
    clear c0 eb hy
    go_enter Tryz.func66, Tryz.ntmps66
    go_wp2_with fail
    refine (impl_ok 64 x _ h h0 h1').mono ?_
    rintro e w1 ⟨rfl, hb1⟩
    have hT1 := h.below hb1
    go_wp2_with fail
    refine (sizes64 _ hT1).mono ?_
    rintro e w2 ⟨rfl, hb2⟩
    go_wp2_with (go_at_call 169; refine (parted64 x _ h0 h1').mono ?_; rintro e w3 ⟨rfl, hb3⟩; obtain ⟨z30, z31, z32⟩ := Z3.below (Z3.new w2 (.int .u64 52) (.int .u64 2047) (.int .i64 (-1074)) 121) hb3)
    go_ret
    exact ⟨ret_int HR.out.symm, (by repeat (first | exact bz0 _ _ | refine bz1 ?_ | refine bz2 ?_ _ | refine bz3 ?_ _ | refine bz4 ?_ hb3 | refine bz4 ?_ hb2 | refine bz4 ?_ hb1 | refine bz5 ?_ _ | refine bz6 ?_ _ | refine bz7 ?_ hb3 | refine bz7 ?_ hb2 | refine bz7 ?_ hb1))⟩
  by_cases c1 : y < 4503599627370496
  · have t0 : (x / 4503599627370496 % 2048 == 0) = true := by rw [beq_iff_eq]; omega
    have r0 : (x % 4503599627370496 == 0) = false := by rw [beq_eq_false_iff_ne]; omega
    have HR : Hid (clsY 4503599627370496 9218868437227405312 2251799813685248 y = 1) := hid (by unfold clsY; rw [if_neg c0, if_pos c1])
    clear c0 eb hy c1
    go_enter Tryz.func66, Tryz.ntmps66
    go_wp2_with fail
    refine (impl_ok 64 x _ h h0 h1').mono ?_
    rintro e w1 ⟨rfl, hb1⟩
    have hT1 := h.below hb1
    go_wp2_with fail
    refine (sizes64 _ hT1).mono ?_
    rintro e w2 ⟨rfl, hb2⟩
    go_wp2_with (go_at_call 169; refine (parted64 x _ h0 h1').mono ?_; rintro e w3 ⟨rfl, hb3⟩; obtain ⟨z30, z31, z32⟩ := Z3.below (Z3.new w2 (.int .u64 52) (.int .u64 2047) (.int .i64 (-1074)) 121) hb3)
    go_ret
    exact ⟨ret_int HR.out.symm, (by repeat (first | exact bz0 _ _ | refine bz1 ?_ | refine bz2 ?_ _ | refine bz3 ?_ _ | refine bz4 ?_ hb3 | refine bz4 ?_ hb2 | refine bz4 ?_ hb1 | refine bz5 ?_ _ | refine bz6 ?_ _ | refine bz7 ?_ hb3 | refine bz7 ?_ hb2 | refine bz7 ?_ hb1))⟩
  have t0 : (x / 4503599627370496 % 2048 == 0) = false := by rw [beq_eq_false_iff_ne]; omega
  by_cases c2 : y < 9218868437227405312
  · have u0 : x / 4503599627370496 % 2048 < 2047 := by omega
    have HR : Hid (clsY 4503599627370496 9218868437227405312 2251799813685248 y = 2) := hid (by unfold clsY; rw [if_neg c0, if_neg c1, if_pos c2])
    clear c0 eb hy c1 c2
    go_enter Tryz.func66, Tryz.ntmps66
    go_wp2_with fail
    refine (impl_ok 64 x _ h h0 h1').mono ?_
    rintro e w1 ⟨rfl, hb1⟩
    have hT1 := h.below hb1
    go_wp2_with fail
    refine (sizes64 _ hT1).mono ?_
    rintro e w2 ⟨rfl, hb2⟩
    go_wp2_with (go_at_call 169; refine (parted64 x _ h0 h1').mono ?_; rintro e w3 ⟨rfl, hb3⟩; obtain ⟨z30, z31, z32⟩ := Z3.below (Z3.new w2 (.int .u64 52) (.int .u64 2047) (.int .i64 (-1074)) 121) hb3)
    go_ret
    exact ⟨ret_int HR.out.symm, (by repeat (first | exact bz0 _ _ | refine bz1 ?_ | refine bz2 ?_ _ | refine bz3 ?_ _ | refine bz4 ?_ hb3 | refine bz4 ?_ hb2 | refine bz4 ?_ hb1 | refine bz5 ?_ _ | refine bz6 ?_ _ | refine bz7 ?_ hb3 | refine bz7 ?_ hb2 | refine bz7 ?_ hb1))⟩
  have u0 : ¬ x / 4503599627370496 % 2048 < 2047 := by omega
  by_cases c3 : y = 9218868437227405312
  · have r0 : (x % 4503599627370496 == 0) = true := by rw [beq_iff_eq]; omega
    have HR : Hid (clsY 4503599627370496 9218868437227405312 2251799813685248 y = 3) := hid (by unfold clsY; rw [if_neg c0, if_neg c1, if_neg c2, if_pos c3])
    clear c0 eb c3 hy c1 c2
    go_enter Tryz.func66, Tryz.ntmps66
    go_wp2_with fail
    refine (impl_ok 64 x _ h h0 h1').mono ?_
    rintro e w1 ⟨rfl, hb1⟩
    have hT1 := h.below hb1
    go_wp2_with fail
    refine (sizes64 _ hT1).mono ?_
    rintro e w2 ⟨rfl, hb2⟩
    go_wp2_with (go_at_call 169; refine (parted64 x _ h0 h1').mono ?_; rintro e w3 ⟨rfl, hb3⟩; obtain ⟨z30, z31, z32⟩ := Z3.below (Z3.new w2 (.int .u64 52) (.int .u64 2047) (.int .i64 (-1074)) 121) hb3)
    go_ret
    exact ⟨ret_int HR.out.symm, (by repeat (first | exact bz0 _ _ | refine bz1 ?_ | refine bz2 ?_ _ | refine bz3 ?_ _ | refine bz4 ?_ hb3 | refine bz4 ?_ hb2 | refine bz4 ?_ hb1 | refine bz5 ?_ _ | refine bz6 ?_ _ | refine bz7 ?_ hb3 | refine bz7 ?_ hb2 | refine bz7 ?_ hb1))⟩
  have r0 : (x % 4503599627370496 == 0) = false := by rw [beq_eq_false_iff_ne]; omega
  by_cases c4 : y / 2251799813685248 % 2 = 1
  · have t4 : (bits .and .u64 (x % 4503599627370496) 2251799813685248 != 0) = true := by rw [eb, show x % 4503599627370496 / 2251799813685248 % 2 = 1 by omega]; decide
    have HR : Hid (clsY 4503599627370496 9218868437227405312 2251799813685248 y = 4) := hid (by unfold clsY; rw [if_neg c0, if_neg c1, if_neg c2, if_neg c3, if_pos c4])
    clear c0 eb c3 c4 hy c1 c2
    go_enter Tryz.func66, Tryz.ntmps66
    go_wp2_with fail
    refine (impl_ok 64 x _ h h0 h1').mono ?_
    rintro e w1 ⟨rfl, hb1⟩
    have hT1 := h.below hb1
    go_wp2_with fail
    refine (sizes64 _ hT1).mono ?_
    rintro e w2 ⟨rfl, hb2⟩
    go_wp2_with (go_at_call 169; refine (parted64 x _ h0 h1').mono ?_; rintro e w3 ⟨rfl, hb3⟩; obtain ⟨z30, z31, z32⟩ := Z3.below (Z3.new w2 (.int .u64 52) (.int .u64 2047) (.int .i64 (-1074)) 121) hb3)
    refine (quiet64 _).mono ?_
    rintro e w4 ⟨rfl, hb4⟩
    go_wp2
    go_ret
    exact ⟨ret_int HR.out.symm, (by repeat (first | exact bz0 _ _ | refine bz1 ?_ | refine bz2 ?_ _ | refine bz3 ?_ _ | refine bz4 ?_ hb4 | refine bz4 ?_ hb3 | refine bz4 ?_ hb2 | refine bz4 ?_ hb1 | refine bz5 ?_ _ | refine bz6 ?_ _ | refine bz7 ?_ hb4 | refine bz7 ?_ hb3 | refine bz7 ?_ hb2 | refine bz7 ?_ hb1))⟩
  · have t4 : (bits .and .u64 (x % 4503599627370496) 2251799813685248 != 0) = false := by rw [eb, show x % 4503599627370496 / 2251799813685248 % 2 = 0 by omega]; decide
    have HR : Hid (clsY 4503599627370496 9218868437227405312 2251799813685248 y = 5) := hid (by unfold clsY; rw [if_neg c0, if_neg c1, if_neg c2, if_neg c3, if_neg c4])
    clear c0 eb c3 c4 hy c1 c2
    go_enter Tryz.func66, Tryz.ntmps66
    go_wp2_with fail
    refine (impl_ok 64 x _ h h0 h1').mono ?_
    rintro e w1 ⟨rfl, hb1⟩
    have hT1 := h.below hb1
    go_wp2_with fail
    refine (sizes64 _ hT1).mono ?_
    rintro e w2 ⟨rfl, hb2⟩
    go_wp2_with (go_at_call 169; refine (parted64 x _ h0 h1').mono ?_; rintro e w3 ⟨rfl, hb3⟩; obtain ⟨z30, z31, z32⟩ := Z3.below (Z3.new w2 (.int .u64 52) (.int .u64 2047) (.int .i64 (-1074)) 121) hb3)
    refine (quiet64 _).mono ?_
    rintro e w4 ⟨rfl, hb4⟩
    go_wp2
    go_ret
    exact ⟨ret_int HR.out.symm, (by repeat (first | exact bz0 _ _ | refine bz1 ?_ | refine bz2 ?_ _ | refine bz3 ?_ _ | refine bz4 ?_ hb4 | refine bz4 ?_ hb3 | refine bz4 ?_ hb2 | refine bz4 ?_ hb1 | refine bz5 ?_ _ | refine bz6 ?_ _ | refine bz7 ?_ hb4 | refine bz7 ?_ hb3 | refine bz7 ?_ hb2 | refine bz7 ?_ hb1))⟩
theorem impl_clsNo (fm x : Int) (w : World) (hT : Tab w) (h : okF fm x = false) (h0 : 0 ≤ x) (h1 : x < 18446744073709551616) :
    Calls Tryz.prog 66 #[.int .i64 fm, .int .u64 x] w fun e w' => e = .returned (.int .i64 (-1)) ∧ Below w.heap.size w w' := by
  go_enter Tryz.func66, Tryz.ntmps66
  go_wp2_with (go_at_call 147; refine (impl_ok fm x _ hT h0 h1).mono ?_; rintro e w1 ⟨rfl, hb1⟩)
  go_ret
  exact ⟨rfl, (by repeat (first | exact bz0 _ _ | refine bz1 ?_ | refine bz2 ?_ _ | refine bz3 ?_ _ | refine bz4 ?_ hb1 | refine bz5 ?_ _ | refine bz6 ?_ _ | refine bz7 ?_ hb1))⟩
theorem impl_cls (fm x : Int) (w : World) (hT : Tab w) (h0 : 0 ≤ x) (h1 : x < 18446744073709551616) :
    Calls Tryz.prog 66 #[.int .i64 fm, .int .u64 x] w fun e w' => e = .returned (.int .i64 (cls fm x)) ∧ Below w.heap.size w w' := by
  cases h : okF fm x
  · rw [cls_no h]; exact impl_clsNo fm x w hT h h0 h1
  · rcases okF_cases h with ⟨rfl, hx⟩ | rfl
    · rw [cls32 hx]; exact impl_cls32 x w hT h0 hx
    · rw [cls64]; exact impl_cls64 x w hT h0 h1
end Go.Proofs.YtkfjmcdniohljaaGreatDoor
namespace Go.Proofs.YtkfjmcdniohljaaGreatDoor
set_option linter.unusedVariables false
set_option linter.unusedSimpArgs false
open Go.RowKit Go.Extern.Stop Go.Stop Go.Extern
namespace EA
theorem noAsN (v : Value) (x : TypeId) (w : World) : (Instr.typeAssert (.iface 179 v) x 238 true).run Tryz.prog w = .ok (.tuple #[.nilIface, .bool false]) w := run_typeAssert_lacksB Tryz.underlying238 (by kernel_rfl) (by kernel_rfl) v x w
theorem noAsQ (v : Value) (x : TypeId) (w : World) : (Instr.typeAssert (.iface 246 v) x 238 true).run Tryz.prog w = .ok (.tuple #[.nilIface, .bool false]) w := run_typeAssert_lacksB Tryz.underlying238 (by kernel_rfl) (by kernel_rfl) v x w
theorem unN (v : Value) (x : TypeId) (w : World) : (Instr.typeAssert (.iface 179 v) x 241 true).run Tryz.prog w = .ok (.tuple #[.iface 179 v, .bool true]) w := run_typeAssert_hasB Tryz.underlying241 (by kernel_rfl) v x w
theorem unQ1 (v : Value) (x : TypeId) (w : World) : (Instr.typeAssert (.iface 246 v) x 241 true).run Tryz.prog w = .ok (.tuple #[.nilIface, .bool false]) w := run_typeAssert_lacksB Tryz.underlying241 (by kernel_rfl) (by kernel_rfl) v x w
theorem unQ2 (v : Value) (x : TypeId) (w : World) : (Instr.typeAssert (.iface 246 v) x 243 true).run Tryz.prog w = .ok (.tuple #[.nilIface, .bool false]) w := run_typeAssert_lacksB Tryz.underlying243 (by kernel_rfl) (by kernel_rfl) v x w
theorem mUn (v : Value) (w : World) : (Go.method 378 179 v "Unwrap").run Tryz.prog w = .ok (259, v) w := by kernel_rfl
theorem h6_ext (args : Array Value) (w : World) : (callFunc 233 args).run Tryz.prog w = (((fun args => ReflectliteValue.unpack (args.getD 0 (.tuple #[]))) args).run Tryz.prog w).andThen fun v w' => .ok (.value v) w' := run_callFunc_extern (e := (fun args => ReflectliteValue.unpack (args.getD 0 (.tuple #[])))) Tryz.func233 (by kernel_rfl) (by kernel_rfl) (by kernel_rfl) (by kernel_rfl) args w
theorem h7_ext (args : Array Value) (w : World) : (callFunc 234 args).run Tryz.prog w = (((ReflectliteValue.methodAny (ReflectliteValue.valueError "reflectlite.Value.Type" 0) (fun t _ _ _ => ReflectliteType.toType t)) args).run Tryz.prog w).andThen fun v w' => .ok (.value v) w' := run_callFunc_extern (e := (ReflectliteValue.methodAny (ReflectliteValue.valueError "reflectlite.Value.Type" 0) (fun t _ _ _ => ReflectliteType.toType t))) Tryz.func234 (by kernel_rfl) (by kernel_rfl) (by kernel_rfl) (by kernel_rfl) args w
theorem h8_ext (args : Array Value) (w : World) : (callFunc 235 args).run Tryz.prog w = (((ReflectliteValue.method (ReflectliteValue.valueError "reflectlite.Value.IsNil" 0) ReflectliteValue.isNil) args).run Tryz.prog w).andThen fun v w' => .ok (.value v) w' := run_callFunc_extern (e := (ReflectliteValue.method (ReflectliteValue.valueError "reflectlite.Value.IsNil" 0) ReflectliteValue.isNil)) Tryz.func235 (by kernel_rfl) (by kernel_rfl) (by kernel_rfl) (by kernel_rfl) args w
theorem h27_ext (args : Array Value) (w : World) : (callFunc 255 args).run Tryz.prog w = (((ReflectliteType.abiMethod fun t => do pure (.int .u8 (← Rtype.kind t))) args).run Tryz.prog w).andThen fun v w' => .ok (.value v) w' := run_callFunc_extern (e := (ReflectliteType.abiMethod fun t => do pure (.int .u8 (← Rtype.kind t)))) Tryz.func255 (by kernel_rfl) (by kernel_rfl) (by kernel_rfl) (by kernel_rfl) args w
theorem h37_ext (args : Array Value) (w : World) : (callFunc 267 args).run Tryz.prog w = (((ReflectliteType.method ReflectliteType.elem) args).run Tryz.prog w).andThen fun v w' => .ok (.value v) w' := run_callFunc_extern (e := (ReflectliteType.method ReflectliteType.elem)) Tryz.func267 (by kernel_rfl) (by kernel_rfl) (by kernel_rfl) (by kernel_rfl) args w
theorem h38_ext (args : Array Value) (w : World) : (callFunc 268 args).run Tryz.prog w = (((ReflectliteType.relation "Implements" ReflectliteType.implements_) args).run Tryz.prog w).andThen fun v w' => .ok (.value v) w' := run_callFunc_extern (e := (ReflectliteType.relation "Implements" ReflectliteType.implements_)) Tryz.func268 (by kernel_rfl) (by kernel_rfl) (by kernel_rfl) (by kernel_rfl) args w
theorem h10_ext (args : Array Value) (w : World) : (callFunc 238 args).run Tryz.prog w = ((ReflectliteType.typeOf args).run Tryz.prog w).andThen fun v w' => .ok (.value v) w' := run_callFunc_extern (e := ReflectliteType.typeOf) Tryz.func238 (by kernel_rfl) (by kernel_rfl) (by kernel_rfl) (by kernel_rfl) args w
theorem h35_ext (args : Array Value) (w : World) : (callFunc 265 args).run Tryz.prog w = (((ReflectliteType.relation "AssignableTo" ReflectliteType.assignableTo) args).run Tryz.prog w).andThen fun v w' => .ok (.value v) w' := run_callFunc_extern (e := (ReflectliteType.relation "AssignableTo" ReflectliteType.assignableTo)) Tryz.func265 (by kernel_rfl) (by kernel_rfl) (by kernel_rfl) (by kernel_rfl) args w
theorem h11_ext (args : Array Value) (w : World) : (callFunc 239 args).run Tryz.prog w = (((ReflectliteValue.method (ReflectliteValue.valueError "reflectlite.Value.Elem" 0) ReflectliteValue.elem) args).run Tryz.prog w).andThen fun v w' => .ok (.value v) w' := run_callFunc_extern (e := (ReflectliteValue.method (ReflectliteValue.valueError "reflectlite.Value.Elem" 0) ReflectliteValue.elem)) Tryz.func239 (by kernel_rfl) (by kernel_rfl) (by kernel_rfl) (by kernel_rfl) args w
theorem h12_ext (args : Array Value) (w : World) : (callFunc 240 args).run Tryz.prog w = ((ReflectliteValue.set args).run Tryz.prog w).andThen fun v w' => .ok (.value v) w' := run_callFunc_extern (e := ReflectliteValue.set) Tryz.func240 (by kernel_rfl) (by kernel_rfl) (by kernel_rfl) (by kernel_rfl) args w
theorem unwrap_any (T : TypeId) (u : Value) (w : World) :
    Calls Tryz.prog 259 #[.agg #[.iface T u]] w fun e w' => e = .returned (.iface T u) ∧ Below w.heap.size w w' := by
  go_enter Tryz.func259, Tryz.ntmps259
  go_wp2
  go_ret
  exact ⟨rfl, (by repeat (first | exact bz0 _ _ | refine bz1 ?_ | refine bz2 ?_ _ | refine bz3 ?_ _ | refine bz5 ?_ _ | refine bz6 ?_ _))⟩
theorem as_quiet (t : Addr) (u : Value) (w : World) (hg : w.cell? ⟨2, 0, none⟩ = some (.iface 233 (.agg #[.pointer (some ⟨5, 100, none⟩)]))) :
    Calls Tryz.prog 221 #[.iface 179 (.agg #[.iface 246 u]), .iface 212 (.pointer (some t))] w fun ev w' => ev = .returned (.bool false) ∧ Below w.heap.size w w' := by
  have h6 := h6_ext
  have h7 := h7_ext
  have h8 := h8_ext
  have h27 := h27_ext
  have h37 := h37_ext
  have h38 := h38_ext
  have h10 := h10_ext
  have h35 := h35_ext
  have f6 := valueOfP
  have f7 := typeP
  have mK := mKind
  have mE := mElem
  have mI := mImpl
  have mA := mAss
  have kP := kindP
  have kI := kindI
  have eP := elemP
  have iI := implI
  have tN := typeOfN
  have tQ := typeOfQ
  have aN := assN
  have aQ := assQ
  have nN := noAsN
  have nQ := noAsQ
  have uN := unN
  have q1 := unQ1
  have q2 := unQ2
  have mU := mUn
  have n8 := isNilP ⟨w.heap.size, 0, none⟩ t ((w.alloc (.cells #[.pointer (some t)] 212)).alloc (.cells #[.pointer (some ⟨5, 212, none⟩), .pointer (some ⟨w.heap.size, 0, none⟩), .int .u64 150] 221)) (by simp)
  have hg2 := five hg (w' := (w.alloc (.cells #[.pointer (some t)] 212)).alloc (.cells #[.pointer (some ⟨5, 212, none⟩), .pointer (some ⟨w.heap.size, 0, none⟩), .int .u64 150] 221)) (by repeat (first | exact bz0 _ _ | refine bz1 ?_ | refine bz2 ?_ _ | refine bz3 ?_ _ | refine bz5 ?_ _ | refine bz6 ?_ _))
  go_enter Tryz.func221, Tryz.ntmps221
  go_wp2
  refine wp_loop_rounds 2 ?_
  rw [rounds_succ]
  go_wp2_with fail
  refine (unwrap_any _ u _).mono ?_
  rintro r w1 ⟨rfl, hb1⟩
  go_wp2_with fail
  rw [rounds_succ]
  go_wp2
  go_ret
  exact ⟨rfl, (by repeat (first | exact bz0 _ _ | refine bz1 ?_ | refine bz2 ?_ _ | refine bz3 ?_ _ | refine bz4 ?_ hb1 | refine bz5 ?_ _ | refine bz6 ?_ _ | refine bz7 ?_ hb1))⟩
theorem rls (v x : Value) : ReflectliteValue.set #[v, x] = (do
    let (some (dst, a, fl), some (src, b, _)) := (← ReflectliteValue.parts v, ← ReflectliteValue.parts x)
      | unsupported (.noEntry "extern/(internal/reflectlite.Value).Set.zeroValue")
    if fl / ReflectliteValue.flagAddr % 2 == 0 then unsupported (.noEntry "extern/(internal/reflectlite.Value).Set.unaddressable")
    let val ← loadVar src b
    if ← Rtype.directlyAssignable dst src then storeVar dst a val
    else if ← Rtype.implements dst src then
      if (← Rtype.kind src) == 20 then
        match val with
        | .nilIface => unsupported (.noEntry "extern/reflectlite: a nil value of one interface type handed on as a value of another")
        | _ => storeVar dst a val
      else storeVar dst a (.iface src val)
    else panicString ("reflectlite.Set: value of type " ++ (← Rtype.spelt src) ++ " is not assignable to type " ++ (← Rtype.spelt dst))
    pure (.tuple #[])) := rfl
theorem setI (ta b : Addr) (s : ByteArray) (old : Value) (W : World) (hb : W.cell? b = some (.string s)) (ht : W.cell? ta = some old) (hf : W.frozen? ta = false) :
    (ReflectliteValue.set #[.agg #[.pointer (some ⟨5, 181, none⟩), .pointer (some ta), .int .u64 409], .agg #[.pointer (some ⟨5, 181, none⟩), .pointer (some b), .int .u64 153]]).run Tryz.prog W
      = .ok (.tuple #[]) (W.setCell ta (.string s)) := by
  rw [rls]
  simp only [Sem.run_bind, partsIa, partsI, Result.andThen]
  simp [ReflectliteValue.flagAddr, loadVar, isAgg, underlying, Tryz.underlying181, hb, Result.andThen, directI, storeVar, Value.cells, storeCells, Addr.add, sizeI]
  have hl : (loadCells b 1).run Tryz.prog W = .ok #[.string s] W := by
    simp [loadCells, loadCellsFrom, hb, Addr.add]
  rw [hl]
  simp [storeCells, Addr.add]
  rw [run_store Tryz.prog W ta _ _ (by rfl)]
  simp [ht, hf]
theorem cell_al {w : World} {p : Addr} {v : Value} (h : w.cell? p = some v) (o : Obj) : (w.alloc o).cell? p = some v := by
  have hlt := World.block_lt_of_cell? w p h
  rw [World.cell?_alloc_lt _ _ p hlt]; exact h
theorem cell_1 (w : World) (v : Value) (T : TypeId) : (w.alloc (.cells #[v] T)).cell? ⟨w.heap.size, 0, none⟩ = some v := by simp
theorem cell_3 (w : World) (a b c : Value) (T : TypeId) (n : Nat) (h : n = w.heap.size) : (w.alloc (.cells #[a, b, c] T)).cell? ⟨n, 0, none⟩ = some a ∧ (w.alloc (.cells #[a, b, c] T)).cell? ⟨n, 1, none⟩ = some b ∧ (w.alloc (.cells #[a, b, c] T)).cell? ⟨n, 2, none⟩ = some c := by
  subst h; exact ⟨by simp, by simp, by simp⟩
theorem as_bad (t : Addr) (s : ByteArray) (old : Value) (w : World) (hg : w.cell? ⟨2, 0, none⟩ = some (.iface 233 (.agg #[.pointer (some ⟨5, 100, none⟩)]))) (ht0 : w.cell? t = some old) (hf0 : w.frozen? t = false) :
    Calls Tryz.prog 221 #[.iface 179 (.agg #[.iface 181 (.agg #[.string s])]), .iface 212 (.pointer (some t))] w fun ev w' => ev = .returned (.bool true) ∧ Below t.block w w' := by
  have h6 := h6_ext
  have h7 := h7_ext
  have h8 := h8_ext
  have h27 := h27_ext
  have h37 := h37_ext
  have h38 := h38_ext
  have h10 := h10_ext
  have h35 := h35_ext
  have h11 := h11_ext
  have h12 := h12_ext
  have f6 := valueOfP
  have f7 := typeP
  have mK := mKind
  have mE := mElem
  have mI := mImpl
  have mA := mAss
  have kP := kindP
  have kI := kindI
  have eP := elemP
  have iI := implI
  have tN := typeOfN
  have tI := typeOfI
  have vI := valueOfI
  have aN := assN
  have aI := assI
  have nN := noAsN
  have uN := unN
  have mU := mUn
  have n8 := isNilP ⟨w.heap.size, 0, none⟩ t ((w.alloc (.cells #[.pointer (some t)] 212)).alloc (.cells #[.pointer (some ⟨5, 212, none⟩), .pointer (some ⟨w.heap.size, 0, none⟩), .int .u64 150] 221)) (by simp)
  have hg2 := five hg (w' := (w.alloc (.cells #[.pointer (some t)] 212)).alloc (.cells #[.pointer (some ⟨5, 212, none⟩), .pointer (some ⟨w.heap.size, 0, none⟩), .int .u64 150] 221)) (by repeat (first | exact bz0 _ _ | refine bz1 ?_ | refine bz2 ?_ _ | refine bz3 ?_ _ | refine bz5 ?_ _ | refine bz6 ?_ _))
  have htl : t.block < w.heap.size := World.block_lt_of_cell? w t ht0
  go_enter Tryz.func221, Tryz.ntmps221
  go_wp2
  refine wp_loop_rounds 2 ?_
  rw [rounds_succ]
  go_wp2_with fail
  refine (unwrap_any _ _ _).mono ?_
  rintro r w1 ⟨rfl, hb1⟩
  have lw1 : w.heap.size + 2 < w1.heap.size := by have := hb1.size; simp at this; omega
  have c0 : w1.cell? ⟨w.heap.size, 0, none⟩ = some (.pointer (some t)) := (hb1.cell (p := ⟨w.heap.size, 0, none⟩) (by have := hb1.size; simp at this ⊢; omega)).trans (cell_al (cell_al (cell_1 w _ _) _) _)
  obtain ⟨j0, j1, j2⟩ := cell_3 ((w.alloc (.cells #[.pointer (some t)] 212)).alloc (.cells #[.pointer (some ⟨5, 212, none⟩), .pointer (some ⟨w.heap.size, 0, none⟩), .int .u64 150] 221)) (.pointer (some ⟨5, 212, none⟩)) (.pointer (some ⟨w.heap.size, 0, none⟩)) (.int .u64 150) 221 (w.heap.size + 1 + 1) (by simp)
  have jl : w.heap.size + 1 + 1 < (((w.alloc (.cells #[.pointer (some t)] 212)).alloc (.cells #[.pointer (some ⟨5, 212, none⟩), .pointer (some ⟨w.heap.size, 0, none⟩), .int .u64 150] 221)).alloc (.cells #[.pointer (some ⟨5, 212, none⟩), .pointer (some ⟨w.heap.size, 0, none⟩), .int .u64 150] 221)).heap.size := by simp
  have k0 := (hb1.cell (p := ⟨w.heap.size + 1 + 1, 0, none⟩) jl).trans j0
  have k1 := (hb1.cell (p := ⟨w.heap.size + 1 + 1, 1, none⟩) jl).trans j1
  have k2 := (hb1.cell (p := ⟨w.heap.size + 1 + 1, 2, none⟩) jl).trans j2
  clear j0 j1 j2 jl
  have el := elemV ⟨w.heap.size, 0, none⟩ t w1 c0
  have ht1 : w1.cell? t = some old := (hb1.cell (p := t) (by simp; omega)).trans (by rw [World.cell?_alloc_lt _ _ t (by simp; omega), World.cell?_alloc_lt _ _ t (by simp; omega), World.cell?_alloc_lt _ _ t htl]; exact ht0)
  have hf1 : w1.frozen? t = false := (hb1.frozen (p := t) (by simp; omega)).trans (by rw [World.frozen?_alloc_old _ _ t (by simp; omega), World.frozen?_alloc_old _ _ t (by simp; omega), World.frozen?_alloc_old _ _ t (Nat.ne_of_lt htl)]; exact hf0)
  have st := setI t ⟨w1.heap.size, 0, none⟩ s old (w1.alloc (.cells #[.string s] 181)) (by simp) (by rw [World.cell?_alloc_lt _ _ t (by omega)]; exact ht1) (by rw [World.frozen?_alloc_old _ _ t (by omega)]; exact hf1)
  have belw : Below t.block w w1 := (((Below.refl t.block w).alloc (by omega) _).alloc (by simp; omega) _).alloc (by simp; omega) _ |>.trans (hb1.mono (by simp; omega))
  go_wp2_with fail
  rw [rounds_succ]
  go_wp2
  go_ret
  exact ⟨rfl, Below.setCell (Below.alloc belw (by omega) _) (Nat.le_refl _) _⟩
theorem inv_nil (w : World) (hg : ErrT w) :
    Calls Tryz.prog 190 #[.nilIface] w fun ev w' => ev = .returned (.bool false) ∧ Below w.heap.size w w' := by
  go_enter Tryz.func190, Tryz.ntmps190
  go_wp2
  go_ret
  exact ⟨rfl, (by repeat (first | exact bz0 _ _ | refine bz1 ?_ | refine bz2 ?_ _ | refine bz3 ?_ _ | refine bz5 ?_ _ | refine bz6 ?_ _))⟩
theorem inv_quiet (u : Value) (w : World) (hg : ErrT w) :
    Calls Tryz.prog 190 #[.iface 179 (.agg #[.iface 246 u])] w fun ev w' => ev = .returned (.bool false) ∧ Below w.heap.size w w' := by
  have hlt := World.block_lt_of_cell? w _ hg
  go_enter Tryz.func190, Tryz.ntmps190
  go_wp2_with fail
  refine (as_quiet _ _ _ (cell_al hg _)).mono ?_
  rintro r w1 ⟨rfl, hb1⟩
  go_wp2
  go_ret
  exact ⟨rfl, (by repeat (first | exact bz0 _ _ | refine bz1 ?_ | refine bz2 ?_ _ | refine bz3 ?_ _ | refine bz4 ?_ hb1 | refine bz5 ?_ _ | refine bz6 ?_ _ | refine bz7 ?_ hb1))⟩
theorem inv_bad (s : ByteArray) (w : World) (hg : ErrT w) :
    Calls Tryz.prog 190 #[.iface 179 (.agg #[.iface 181 (.agg #[.string s])])] w fun ev w' => ev = .returned (.bool true) ∧ Below w.heap.size w w' := by
  have hlt := World.block_lt_of_cell? w _ hg
  go_enter Tryz.func190, Tryz.ntmps190
  go_wp2_with fail
  refine (as_bad _ _ _ _ (cell_al hg _) (cell_1 w _ _) (by simp)).mono ?_
  rintro r w1 ⟨rfl, hb1⟩
  go_wp2
  go_ret
  exact ⟨rfl, ((Below.refl w.heap.size w).alloc (Nat.le_refl _) _).trans (hb1.mono (by simp))⟩
end EA
end Go.Proofs.YtkfjmcdniohljaaGreatDoor
