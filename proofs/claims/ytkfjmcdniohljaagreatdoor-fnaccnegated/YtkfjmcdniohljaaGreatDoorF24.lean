/-
  What is needed of IE.
-/
import Derived.Test.YtkfjmcdniohljaaGreatDoorF23
set_option maxHeartbeats 16000000
set_option maxRecDepth 1000000
namespace Go.Proofs.YtkfjmcdniohljaaGreatDoor
set_option linter.unusedVariables false
set_option linter.unusedSimpArgs false
open Go.RowKit Go.Deep
theorem ret_uib {a a' b b' : Int} {c c' : Bool} (h : a = a') (k : b = b') (l : c = c') : Ending.returned (.tuple #[.int .u64 a, .int .i64 b, .bool c]) = .returned (.tuple #[.int .u64 a', .int .i64 b', .bool c']) := by rw [h, k, l]
def seM (P : Nat) (q : Int) (m : Nat) (e : Int) : Int := if Nm.stIn P q m e then (Nm.stM P q m e : Nat) else 0
def seE (P : Nat) (q : Int) (m : Nat) (e : Int) : Int := if Nm.stIn P q m e then Nm.stE P q m e else 0
theorem prec_32 (w : World) :
  Calls Tryz.prog 156 #[.agg #[.int .u64 23, .int .u64 255, .int .i64 (-149)]] w fun e w' => e = .returned (.int .i64 24) ∧ Below w.heap.size w w' := by
 go_enter Tryz.func156, Tryz.ntmps156
 go_wp2
 go_ret
 exact ⟨rfl, (by repeat (first | exact bz0 _ _ | refine bz1 ?_ | refine bz2 ?_ _ | refine bz3 ?_ _ | refine bz5 ?_ _ | refine bz6 ?_ _))⟩
theorem settled_32 (m : Nat) (e : Int) (w : World) (hT : Ts w) (hm : m ≠ 0) (hm1 : m < 9223372036854775808) (e0 : -5000 ≤ e) (e1 : e ≤ 5000) :
  Calls Tryz.prog 214 #[.agg #[.int .u64 23, .int .u64 255, .int .i64 (-149)], .int .u64 (m : Nat), .int .i64 e] w fun x w' => x = .returned (.tuple #[.int .u64 (seM 24 (-149) m e), .int .i64 (seE 24 (-149) m e), .bool (Nm.stOk 24 (-149) 255 m e)]) ∧ Below w.heap.size w w' := by
 obtain ⟨z, hz⟩ : ∃ z : Int, z = (m : Int) := ⟨_, rfl⟩
 have z0 : 0 < z := by omega
 have z1 : z < 18446744073709551616 := by omega
 obtain ⟨T, hTz⟩ : ∃ T, T = Nm.tz m := ⟨_, rfl⟩
 have hs := Nm.tz_spec m hm
 have t1 : (T : Int) ≤ 63 := by
  have h1 : 2 ^ Nm.tz m ≤ m := by have := Nat.le_mul_of_pos_left (2 ^ Nm.tz m) (Nat.pos_of_ne_zero (Nm.od_pos hm)); omega
  have h3 : 2 ^ Nm.tz m < 2 ^ 63 := by omega
  have := (Nat.pow_lt_pow_iff_right (a := 2) (by decide)).1 h3
  omega
 obtain ⟨o, ho⟩ : ∃ o : Int, o = ((Nm.od m : Nat) : Int) := ⟨_, rfl⟩
 have hdiv : z / (2 : Int) ^ T = o := by
  rw [hz, ho, hTz]; unfold Nm.od; simp
 have o0 : 0 < o := by have := Nm.od_pos hm; omega
 have o1 : o < 18446744073709551616 := by have : Nm.od m ≤ m := Nat.div_le_self _ _; omega
 obtain ⟨B, hB⟩ : ∃ B : Int, B = ((bitLen o.toNat : Nat) : Int) := ⟨_, rfl⟩
 have B0 : 1 ≤ B := by have := Nm.bl_pos (show o.toNat ≠ 0 by omega); omega
 have B1 : B ≤ 64 := by have := (Nm.bl_le_iff o.toNat 64).2 (by omega); omega
 have HSP : Hid (Nm.stSp 24 m = 24 - B) := hid (by unfold Nm.stSp; rw [hB, ho]; simp)
 have C1 := hid (fun w' h => tz_64 z w' h z0 z1)
 rw [show Nm.tz z.toNat = T by rw [hTz, hz]; simp] at C1
 have C2 := hid (fun w' => len64_any o w' (by omega) o1)
 rw [← hB] at C2
 have HIN : Hid (Nm.stIn 24 (-149) m e = (decide (0 ≤ 24 - B) && decide ((-149) ≤ e + (T : Int)))) := hid (by unfold Nm.stIn; rw [HSP.out, hTz])
 have HT := hid hTz; have HO := hid ho; have HM := hid hm
 rw [← hz]
 clear hz hTz hs ho hB hm hm1
 by_cases c1 : 24 - B < 0
 ·have HF : Hid (Nm.stIn 24 (-149) m e = false) := hid (by rw [HIN.out, decide_eq_false (show ¬ 0 ≤ 24 - B by omega)]; rfl)
  have HK : Hid (Nm.stOk 24 (-149) 255 m e = false) := hid (by unfold Nm.stOk; rw [HF.out]; rfl)
  go_enter Tryz.func214, Tryz.ntmps214
  go_wp2_with fail
  refine (C1.out _ (hT.al _).t64).mono ?_
  rintro x w1 ⟨rfl, rfl⟩
  go_wp2_with fail
  refine (prec_32 _).mono ?_
  rintro x w2 ⟨rfl, hb2⟩
  go_wp2_with fail
  refine (C2.out _).mono ?_
  rintro x w3 ⟨rfl, rfl⟩
  go_wp2
  go_ret3
  exact ⟨ret_uib (by unfold seM; rw [HF.out]; rfl) (by unfold seE; rw [HF.out]; rfl) HK.out.symm, (by repeat (first | exact bz0 _ _ | refine bz1 ?_ | refine bz2 ?_ _ | refine bz3 ?_ _ | refine bz4 ?_ hb2 | refine bz5 ?_ _ | refine bz6 ?_ _ | refine bz7 ?_ hb2))⟩
 by_cases c2 : e + (T : Int) < (-149)
 ·have HF : Hid (Nm.stIn 24 (-149) m e = false) := hid (by rw [HIN.out, decide_eq_false (show ¬ (-149) ≤ e + (T : Int) by omega)]; simp)
  have HK : Hid (Nm.stOk 24 (-149) 255 m e = false) := hid (by unfold Nm.stOk; rw [HF.out]; rfl)
  go_enter Tryz.func214, Tryz.ntmps214
  go_wp2_with fail
  refine (C1.out _ (hT.al _).t64).mono ?_
  rintro x w1 ⟨rfl, rfl⟩
  go_wp2_with fail
  refine (prec_32 _).mono ?_
  rintro x w2 ⟨rfl, hb2⟩
  obtain ⟨k0, k1, k2, f0, f1, f2⟩ := (R3.new w (.int .u64 23) (.int .u64 255) (.int .i64 (-149)) 121).below hb2
  go_wp2_with fail
  refine (C2.out _).mono ?_
  rintro x w3 ⟨rfl, rfl⟩
  go_wp2
  go_ret3
  exact ⟨ret_uib (by unfold seM; rw [HF.out]; rfl) (by unfold seE; rw [HF.out]; rfl) HK.out.symm, (by repeat (first | exact bz0 _ _ | refine bz1 ?_ | refine bz2 ?_ _ | refine bz3 ?_ _ | refine bz4 ?_ hb2 | refine bz5 ?_ _ | refine bz6 ?_ _ | refine bz7 ?_ hb2))⟩
 ·have HF : Hid (Nm.stIn 24 (-149) m e = true) := hid (by rw [HIN.out, decide_eq_true (show (-149) ≤ e + (T : Int) by omega), decide_eq_true (show 0 ≤ 24 - B by omega)]; rfl)
  obtain ⟨u, hu⟩ : ∃ u : Nat, (u : Int) = min (24 - B) (e + (T : Int) - (-149)) := ⟨(min (24 - B) (e + (T : Int) - (-149))).toNat, by omega⟩
  have HUP : Hid (Nm.stUp 24 (-149) m e = u) := hid (by unfold Nm.stUp; rw [HSP.out, ← HT.out, hu])
  have hlt := Nm.stM_lt HM.out HF.out
  have HMV : Hid (o * (2 : Int) ^ u = ((Nm.stM 24 (-149) m e : Nat) : Int)) := hid (by unfold Nm.stM; rw [HUP.out, HO.out]; simp)
  obtain ⟨v, hv⟩ : ∃ v : Int, o * (2 : Int) ^ u = v := ⟨_, rfl⟩
  have v0 : 0 ≤ v := by rw [← hv, HMV.out]; omega
  have v1 : v < 18446744073709551616 := by rw [← hv, HMV.out]; omega
  have HV := hid hv
  have HU := hid hu
  have u0 : (u : Int) ≤ 64 := by omega
  have u2 : (u : Int) ≤ e + (T : Int) - (-149) := by omega
  have HK : Hid (Nm.stOk 24 (-149) 255 m e = decide (e + (T : Int) - (u : Int) - (-149) < 254)) := hid (by
   unfold Nm.stOk; rw [HF.out]; unfold Nm.stE; rw [HUP.out, ← HT.out]; simp only [Bool.true_and]; exact decide_eq_decide.2 (by omega))
  have HE : Hid (seE 24 (-149) m e = e + (T : Int) - (u : Int)) := hid (by unfold seE; rw [HF.out]; unfold Nm.stE; rw [HUP.out, ← HT.out]; rfl)
  have HMM : Hid (seM 24 (-149) m e = v) := hid (by unfold seM; rw [HF.out, ← HV.out, HMV.out]; rfl)
  clear hlt hv hu
  go_enter Tryz.func214, Tryz.ntmps214
  go_wp2_with fail
  refine (C1.out _ (hT.al _).t64).mono ?_
  rintro x w1 ⟨rfl, rfl⟩
  go_wp2_with fail
  refine (prec_32 _).mono ?_
  rintro x w2 ⟨rfl, hb2⟩
  obtain ⟨k0, k1, k2, f0, f1, f2⟩ := (R3.new w (.int .u64 23) (.int .u64 255) (.int .i64 (-149)) 121).below hb2
  go_wp2_with fail
  refine (C2.out _).mono ?_
  rintro x w3 ⟨rfl, rfl⟩
  go_upto_region 7 with fail
  go_cut [11] (fun s wx => s = .int .i64 (u : Int) ∧ wx = w3)
  case first =>
   by_cases hc : 24 - B < e + (T : Int) - (-149)
   all_goals go_wp2_with fail
   all_goals go_meet
   all_goals exact ⟨by rw [HU.out]; congr 1; omega, rfl⟩
  case rest =>
  obtain ⟨rfl, rfl⟩ := hcut
  have hv := HV.out
  have hwv : IntKind.u64.wrap (o * (2 : Int) ^ u) = v := by rw [hv, IntKind.wrap_u64]; omega
  go_wp2_with fail
  go_region
  all_goals go_wp2
  all_goals go_ret3
  all_goals exact ⟨ret_uib HMM.out.symm HE.out.symm HK.out.symm, (by repeat (first | exact bz0 _ _ | refine bz1 ?_ | refine bz2 ?_ _ | refine bz3 ?_ _ | refine bz4 ?_ hb2 | refine bz5 ?_ _ | refine bz6 ?_ _ | refine bz7 ?_ hb2))⟩
theorem prec_64 (w : World) :
  Calls Tryz.prog 156 #[.agg #[.int .u64 52, .int .u64 2047, .int .i64 (-1074)]] w fun e w' => e = .returned (.int .i64 53) ∧ Below w.heap.size w w' := by
 go_enter Tryz.func156, Tryz.ntmps156
 go_wp2
 go_ret
 exact ⟨rfl, (by repeat (first | exact bz0 _ _ | refine bz1 ?_ | refine bz2 ?_ _ | refine bz3 ?_ _ | refine bz5 ?_ _ | refine bz6 ?_ _))⟩
theorem settled_64 (m : Nat) (e : Int) (w : World) (hT : Ts w) (hm : m ≠ 0) (hm1 : m < 9223372036854775808) (e0 : -5000 ≤ e) (e1 : e ≤ 5000) :
  Calls Tryz.prog 214 #[.agg #[.int .u64 52, .int .u64 2047, .int .i64 (-1074)], .int .u64 (m : Nat), .int .i64 e] w fun x w' => x = .returned (.tuple #[.int .u64 (seM 53 (-1074) m e), .int .i64 (seE 53 (-1074) m e), .bool (Nm.stOk 53 (-1074) 2047 m e)]) ∧ Below w.heap.size w w' := by
 obtain ⟨z, hz⟩ : ∃ z : Int, z = (m : Int) := ⟨_, rfl⟩
 have z0 : 0 < z := by omega
 have z1 : z < 18446744073709551616 := by omega
 obtain ⟨T, hTz⟩ : ∃ T, T = Nm.tz m := ⟨_, rfl⟩
 have hs := Nm.tz_spec m hm
 have t1 : (T : Int) ≤ 63 := by
  have h1 : 2 ^ Nm.tz m ≤ m := by have := Nat.le_mul_of_pos_left (2 ^ Nm.tz m) (Nat.pos_of_ne_zero (Nm.od_pos hm)); omega
  have h3 : 2 ^ Nm.tz m < 2 ^ 63 := by omega
  have := (Nat.pow_lt_pow_iff_right (a := 2) (by decide)).1 h3
  omega
 obtain ⟨o, ho⟩ : ∃ o : Int, o = ((Nm.od m : Nat) : Int) := ⟨_, rfl⟩
 have hdiv : z / (2 : Int) ^ T = o := by
  rw [hz, ho, hTz]; unfold Nm.od; simp
 have o0 : 0 < o := by have := Nm.od_pos hm; omega
 have o1 : o < 18446744073709551616 := by have : Nm.od m ≤ m := Nat.div_le_self _ _; omega
 obtain ⟨B, hB⟩ : ∃ B : Int, B = ((bitLen o.toNat : Nat) : Int) := ⟨_, rfl⟩
 have B0 : 1 ≤ B := by have := Nm.bl_pos (show o.toNat ≠ 0 by omega); omega
 have B1 : B ≤ 64 := by have := (Nm.bl_le_iff o.toNat 64).2 (by omega); omega
 have HSP : Hid (Nm.stSp 53 m = 53 - B) := hid (by unfold Nm.stSp; rw [hB, ho]; simp)
 have C1 := hid (fun w' h => tz_64 z w' h z0 z1)
 rw [show Nm.tz z.toNat = T by rw [hTz, hz]; simp] at C1
 have C2 := hid (fun w' => len64_any o w' (by omega) o1)
 rw [← hB] at C2
 have HIN : Hid (Nm.stIn 53 (-1074) m e = (decide (0 ≤ 53 - B) && decide ((-1074) ≤ e + (T : Int)))) := hid (by unfold Nm.stIn; rw [HSP.out, hTz])
 have HT := hid hTz; have HO := hid ho; have HM := hid hm
 rw [← hz]
 clear hz hTz hs ho hB hm hm1
 by_cases c1 : 53 - B < 0
 ·have HF : Hid (Nm.stIn 53 (-1074) m e = false) := hid (by rw [HIN.out, decide_eq_false (show ¬ 0 ≤ 53 - B by omega)]; rfl)
  have HK : Hid (Nm.stOk 53 (-1074) 2047 m e = false) := hid (by unfold Nm.stOk; rw [HF.out]; rfl)
  go_enter Tryz.func214, Tryz.ntmps214
  go_wp2_with fail
  refine (C1.out _ (hT.al _).t64).mono ?_
  rintro x w1 ⟨rfl, rfl⟩
  go_wp2_with fail
  refine (prec_64 _).mono ?_
  rintro x w2 ⟨rfl, hb2⟩
  go_wp2_with fail
  refine (C2.out _).mono ?_
  rintro x w3 ⟨rfl, rfl⟩
  go_wp2
  go_ret3
  exact ⟨ret_uib (by unfold seM; rw [HF.out]; rfl) (by unfold seE; rw [HF.out]; rfl) HK.out.symm, (by repeat (first | exact bz0 _ _ | refine bz1 ?_ | refine bz2 ?_ _ | refine bz3 ?_ _ | refine bz4 ?_ hb2 | refine bz5 ?_ _ | refine bz6 ?_ _ | refine bz7 ?_ hb2))⟩
 by_cases c2 : e + (T : Int) < (-1074)
 ·have HF : Hid (Nm.stIn 53 (-1074) m e = false) := hid (by rw [HIN.out, decide_eq_false (show ¬ (-1074) ≤ e + (T : Int) by omega)]; simp)
  have HK : Hid (Nm.stOk 53 (-1074) 2047 m e = false) := hid (by unfold Nm.stOk; rw [HF.out]; rfl)
  go_enter Tryz.func214, Tryz.ntmps214
  go_wp2_with fail
  refine (C1.out _ (hT.al _).t64).mono ?_
  rintro x w1 ⟨rfl, rfl⟩
  go_wp2_with fail
  refine (prec_64 _).mono ?_
  rintro x w2 ⟨rfl, hb2⟩
  obtain ⟨k0, k1, k2, f0, f1, f2⟩ := (R3.new w (.int .u64 52) (.int .u64 2047) (.int .i64 (-1074)) 121).below hb2
  go_wp2_with fail
  refine (C2.out _).mono ?_
  rintro x w3 ⟨rfl, rfl⟩
  go_wp2
  go_ret3
  exact ⟨ret_uib (by unfold seM; rw [HF.out]; rfl) (by unfold seE; rw [HF.out]; rfl) HK.out.symm, (by repeat (first | exact bz0 _ _ | refine bz1 ?_ | refine bz2 ?_ _ | refine bz3 ?_ _ | refine bz4 ?_ hb2 | refine bz5 ?_ _ | refine bz6 ?_ _ | refine bz7 ?_ hb2))⟩
 ·have HF : Hid (Nm.stIn 53 (-1074) m e = true) := hid (by rw [HIN.out, decide_eq_true (show (-1074) ≤ e + (T : Int) by omega), decide_eq_true (show 0 ≤ 53 - B by omega)]; rfl)
  obtain ⟨u, hu⟩ : ∃ u : Nat, (u : Int) = min (53 - B) (e + (T : Int) - (-1074)) := ⟨(min (53 - B) (e + (T : Int) - (-1074))).toNat, by omega⟩
  have HUP : Hid (Nm.stUp 53 (-1074) m e = u) := hid (by unfold Nm.stUp; rw [HSP.out, ← HT.out, hu])
  have hlt := Nm.stM_lt HM.out HF.out
  have HMV : Hid (o * (2 : Int) ^ u = ((Nm.stM 53 (-1074) m e : Nat) : Int)) := hid (by unfold Nm.stM; rw [HUP.out, HO.out]; simp)
  obtain ⟨v, hv⟩ : ∃ v : Int, o * (2 : Int) ^ u = v := ⟨_, rfl⟩
  have v0 : 0 ≤ v := by rw [← hv, HMV.out]; omega
  have v1 : v < 18446744073709551616 := by rw [← hv, HMV.out]; omega
  have HV := hid hv
  have HU := hid hu
  have u0 : (u : Int) ≤ 64 := by omega
  have u2 : (u : Int) ≤ e + (T : Int) - (-1074) := by omega
  have HK : Hid (Nm.stOk 53 (-1074) 2047 m e = decide (e + (T : Int) - (u : Int) - (-1074) < 2046)) := hid (by
   unfold Nm.stOk; rw [HF.out]; unfold Nm.stE; rw [HUP.out, ← HT.out]; simp only [Bool.true_and]; exact decide_eq_decide.2 (by omega))
  have HE : Hid (seE 53 (-1074) m e = e + (T : Int) - (u : Int)) := hid (by unfold seE; rw [HF.out]; unfold Nm.stE; rw [HUP.out, ← HT.out]; rfl)
  have HMM : Hid (seM 53 (-1074) m e = v) := hid (by unfold seM; rw [HF.out, ← HV.out, HMV.out]; rfl)
  clear hlt hv hu
  go_enter Tryz.func214, Tryz.ntmps214
  go_wp2_with fail
  refine (C1.out _ (hT.al _).t64).mono ?_
  rintro x w1 ⟨rfl, rfl⟩
  go_wp2_with fail
  refine (prec_64 _).mono ?_
  rintro x w2 ⟨rfl, hb2⟩
  obtain ⟨k0, k1, k2, f0, f1, f2⟩ := (R3.new w (.int .u64 52) (.int .u64 2047) (.int .i64 (-1074)) 121).below hb2
  go_wp2_with fail
  refine (C2.out _).mono ?_
  rintro x w3 ⟨rfl, rfl⟩
  go_upto_region 7 with fail
  go_cut [11] (fun s wx => s = .int .i64 (u : Int) ∧ wx = w3)
  case first =>
   by_cases hc : 53 - B < e + (T : Int) - (-1074)
   all_goals go_wp2_with fail
   all_goals go_meet
   all_goals exact ⟨by rw [HU.out]; congr 1; omega, rfl⟩
  case rest =>
  obtain ⟨rfl, rfl⟩ := hcut
  have hv := HV.out
  have hwv : IntKind.u64.wrap (o * (2 : Int) ^ u) = v := by rw [hv, IntKind.wrap_u64]; omega
  go_wp2_with fail
  go_region
  all_goals go_wp2
  all_goals go_ret3
  all_goals exact ⟨ret_uib HMM.out.symm HE.out.symm HK.out.symm, (by repeat (first | exact bz0 _ _ | refine bz1 ?_ | refine bz2 ?_ _ | refine bz3 ?_ _ | refine bz4 ?_ hb2 | refine bz5 ?_ _ | refine bz6 ?_ _ | refine bz7 ?_ hb2))⟩
end Go.Proofs.YtkfjmcdniohljaaGreatDoor
