/-
  What is needed of IE, IG.
-/
import Derived.Test.YtmcflggionkhlaaGreatDoorK24
set_option maxHeartbeats 16000000
set_option maxRecDepth 1000000
namespace Go.Proofs.YtmcflggionkhlaaGreatDoor
set_option linter.unusedVariables false
set_option linter.unusedSimpArgs false
open Go.RowKit Go.Deep
theorem ret_uib {a a' b b' : Int} {c c' : Bool} (h : a = a') (k : b = b') (l : c = c') : Ending.returned (.tuple #[.int .u64 a, .int .i64 b, .bool c]) = .returned (.tuple #[.int .u64 a', .int .i64 b', .bool c']) := by rw [h, k, l]
/-- What settling answers. -/
def seM (P : Nat) (q : Int) (m : Nat) (e : Int) : Int := if Nm.stIn P q m e then (Nm.stM P q m e : Nat) else 0
def seE (P : Nat) (q : Int) (m : Nat) (e : Int) : Int := if Nm.stIn P q m e then Nm.stE P q m e else 0
theorem prec_32 (w : World) :
    Calls Tryz.prog 175 #[.agg #[.int .u64 23, .int .u64 255, .int .i64 (-149)]] w fun e w' => e = .returned (.int .i64 24) ∧ Below w.heap.size w w' := by
  go_enter Tryz.func175, Tryz.ntmps175
  go_wp2
  go_ret
  exact ⟨rfl, (by repeat (first | exact bz0 _ _ | refine bz1 ?_ | refine bz2 ?_ _ | refine bz3 ?_ _ | refine bz5 ?_ _ | refine bz6 ?_ _))⟩
theorem settled_32 (m : Nat) (e : Int) (w : World) (hT : Ts w) (hm : m ≠ 0) (hm1 : m < 9223372036854775808) (e0 : -5000 ≤ e) (e1 : e ≤ 5000) :
    Calls Tryz.prog 210 #[.agg #[.int .u64 23, .int .u64 255, .int .i64 (-149)], .int .u64 (m : Nat), .int .i64 e] w fun x w' => x = .returned (.tuple #[.int .u64 (seM 24 (-149) m e), .int .i64 (seE 24 (-149) m e), .bool (Nm.stOk 24 (-149) 255 m e)]) ∧ Below w.heap.size w w' := by
  obtain ⟨z, hz⟩ : ∃ z : Int, z = (m : Int) := ⟨_, rfl⟩
  have z0 : 0 < z := by omega
  have z1 : z < 18446744073709551616 := by omega
  obtain ⟨T, hTz⟩ : ∃ T, T = Nm.tz m := ⟨_, rfl⟩
  have hs := Nm.tz_spec m hm
  have t1 : (T : Int) ≤ 63 := by
    have h1 : 2 ^ Nm.tz m ≤ m := by have := Nat.le_mul_of_pos_left (2 ^ Nm.tz m) (Nat.pos_of_ne_zero (Nm.od_pos hm)); omega
    have h3 : 2 ^ Nm.tz m < 2 ^ 63 := by omega
    have := (Nat.pow_lt_pow_iff_right (a := 2) (by decide)).1 h3
    omega
  obtain ⟨o, ho⟩ : ∃ o : Int, o = ((Nm.od m : Nat) : Int) := ⟨_, rfl⟩
  have hdiv : z / (2 : Int) ^ T = o := by
    rw [hz, ho, hTz]; unfold Nm.od; simp
  have o0 : 0 < o := by have := Nm.od_pos hm; omega
  have o1 : o < 18446744073709551616 := by have : Nm.od m ≤ m := Nat.div_le_self _ _; omega
  obtain ⟨B, hB⟩ : ∃ B : Int, B = ((bitLen o.toNat : Nat) : Int) := ⟨_, rfl⟩
  have B0 : 1 ≤ B := by have := Nm.bl_pos (show o.toNat ≠ 0 by omega); omega
  have B1 : B ≤ 64 := by have := (Nm.bl_le_iff o.toNat 64).2 (by omega); omega
  have HSP : Hid (Nm.stSp 24 m = 24 - B) := hid (by unfold Nm.stSp; rw [hB, ho]; simp)
  have C1 := hid (fun w' h => tz_64 z w' h z0 z1)
  rw [show Nm.tz z.toNat = T by rw [hTz, hz]; simp] at C1
  have C2 := hid (fun w' => len64_any o w' (by omega) o1)
  rw [← hB] at C2
  have HIN : Hid (Nm.stIn 24 (-149) m e = (decide (0 ≤ 24 - B) && decide ((-149) ≤ e + (T : Int)))) := hid (by unfold Nm.stIn; rw [HSP.out, hTz])
  have HT := hid hTz; have HO := hid ho; have HM := hid hm
  rw [← hz]
  clear hz hTz hs ho hB hm hm1
  by_cases c1 : 24 - B < 0
  · have HF : Hid (Nm.stIn 24 (-149) m e = false) := hid (by rw [HIN.out, decide_eq_false (show ¬ 0 ≤ 24 - B by omega)]; rfl)
    have HK : Hid (Nm.stOk 24 (-149) 255 m e = false) := hid (by unfold Nm.stOk; rw [HF.out]; rfl)
    go_enter Tryz.func210, Tryz.ntmps210
    go_wp2_with fail
    refine (C1.out _ (hT.al _).t64).mono ?_
    rintro x w1 ⟨rfl, rfl⟩
    go_wp2_with fail
    refine (prec_32 _).mono ?_
    rintro x w2 ⟨rfl, hb2⟩
    go_wp2_with fail
    refine (C2.out _).mono ?_
    rintro x w3 ⟨rfl, rfl⟩
    go_wp2
    go_ret3
    exact ⟨ret_uib (by unfold seM; rw [HF.out]; rfl) (by unfold seE; rw [HF.out]; rfl) HK.out.symm, (by repeat (first | exact bz0 _ _ | refine bz1 ?_ | refine bz2 ?_ _ | refine bz3 ?_ _ | refine bz4 ?_ hb2 | refine bz5 ?_ _ | refine bz6 ?_ _ | refine bz7 ?_ hb2))⟩
  by_cases c2 : e + (T : Int) < (-149)
  · have HF : Hid (Nm.stIn 24 (-149) m e = false) := hid (by rw [HIN.out, decide_eq_false (show ¬ (-149) ≤ e + (T : Int) by omega)]; simp)
    have HK : Hid (Nm.stOk 24 (-149) 255 m e = false) := hid (by unfold Nm.stOk; rw [HF.out]; rfl)
    go_enter Tryz.func210, Tryz.ntmps210
    go_wp2_with fail
    refine (C1.out _ (hT.al _).t64).mono ?_
    rintro x w1 ⟨rfl, rfl⟩
    go_wp2_with fail
    refine (prec_32 _).mono ?_
    rintro x w2 ⟨rfl, hb2⟩
    obtain ⟨k0, k1, k2, f0, f1, f2⟩ := (R3.new w (.int .u64 23) (.int .u64 255) (.int .i64 (-149)) 81).below hb2
    go_wp2_with fail
    refine (C2.out _).mono ?_
    rintro x w3 ⟨rfl, rfl⟩
    go_wp2
    go_ret3
    exact ⟨ret_uib (by unfold seM; rw [HF.out]; rfl) (by unfold seE; rw [HF.out]; rfl) HK.out.symm, (by repeat (first | exact bz0 _ _ | refine bz1 ?_ | refine bz2 ?_ _ | refine bz3 ?_ _ | refine bz4 ?_ hb2 | refine bz5 ?_ _ | refine bz6 ?_ _ | refine bz7 ?_ hb2))⟩
  · have HF : Hid (Nm.stIn 24 (-149) m e = true) := hid (by rw [HIN.out, decide_eq_true (show (-149) ≤ e + (T : Int) by omega), decide_eq_true (show 0 ≤ 24 - B by omega)]; rfl)
    obtain ⟨u, hu⟩ : ∃ u : Nat, (u : Int) = min (24 - B) (e + (T : Int) - (-149)) := ⟨(min (24 - B) (e + (T : Int) - (-149))).toNat, by omega⟩
    have HUP : Hid (Nm.stUp 24 (-149) m e = u) := hid (by unfold Nm.stUp; rw [HSP.out, ← HT.out, hu])
    have hlt := Nm.stM_lt HM.out HF.out
    have HMV : Hid (o * (2 : Int) ^ u = ((Nm.stM 24 (-149) m e : Nat) : Int)) := hid (by unfold Nm.stM; rw [HUP.out, HO.out]; simp)
    obtain ⟨v, hv⟩ : ∃ v : Int, o * (2 : Int) ^ u = v := ⟨_, rfl⟩
    have v0 : 0 ≤ v := by rw [← hv, HMV.out]; omega
    have v1 : v < 18446744073709551616 := by rw [← hv, HMV.out]; omega
    have HV := hid hv
    have HU := hid hu
    have u0 : (u : Int) ≤ 64 := by omega
    have u2 : (u : Int) ≤ e + (T : Int) - (-149) := by omega
    have HK : Hid (Nm.stOk 24 (-149) 255 m e = decide (e + (T : Int) - (u : Int) - (-149) < 254)) := hid (by
      unfold Nm.stOk; rw [HF.out]; unfold Nm.stE; rw [HUP.out, ← HT.out]; simp only [Bool.true_and]; exact decide_eq_decide.2 (by omega))
    have HE : Hid (seE 24 (-149) m e = e + (T : Int) - (u : Int)) := hid (by unfold seE; rw [HF.out]; unfold Nm.stE; rw [HUP.out, ← HT.out]; rfl)
    have HMM : Hid (seM 24 (-149) m e = v) := hid (by unfold seM; rw [HF.out, ← HV.out, HMV.out]; rfl)
    clear hlt hv hu
    go_enter Tryz.func210, Tryz.ntmps210
    go_wp2_with fail
    refine (C1.out _ (hT.al _).t64).mono ?_
    rintro x w1 ⟨rfl, rfl⟩
    go_wp2_with fail
    refine (prec_32 _).mono ?_
    rintro x w2 ⟨rfl, hb2⟩
    obtain ⟨k0, k1, k2, f0, f1, f2⟩ := (R3.new w (.int .u64 23) (.int .u64 255) (.int .i64 (-149)) 81).below hb2
    go_wp2_with fail
    refine (C2.out _).mono ?_
    rintro x w3 ⟨rfl, rfl⟩
    go_upto_region 7 with fail
    go_cut [11] (fun s wx => s = .int .i64 (u : Int) ∧ wx = w3)
    case first =>
      by_cases hc : 24 - B < e + (T : Int) - (-149)
      all_goals go_wp2_with fail
      all_goals go_meet
      all_goals exact ⟨by rw [HU.out]; congr 1; omega, rfl⟩
    case rest =>
    obtain ⟨rfl, rfl⟩ := hcut
    have hv := HV.out
    have hwv : IntKind.u64.wrap (o * (2 : Int) ^ u) = v := by rw [hv, IntKind.wrap_u64]; omega
    go_wp2_with fail
    go_region
    all_goals go_wp2
    all_goals go_ret3
    all_goals exact ⟨ret_uib HMM.out.symm HE.out.symm HK.out.symm, (by repeat (first | exact bz0 _ _ | refine bz1 ?_ | refine bz2 ?_ _ | refine bz3 ?_ _ | refine bz4 ?_ hb2 | refine bz5 ?_ _ | refine bz6 ?_ _ | refine bz7 ?_ hb2))⟩
theorem prec_64 (w : World) :
    Calls Tryz.prog 175 #[.agg #[.int .u64 52, .int .u64 2047, .int .i64 (-1074)]] w fun e w' => e = .returned (.int .i64 53) ∧ Below w.heap.size w w' := by
  go_enter Tryz.func175, Tryz.ntmps175
  go_wp2
  go_ret
  exact ⟨rfl, (by repeat (first | exact bz0 _ _ | refine bz1 ?_ | refine bz2 ?_ _ | refine bz3 ?_ _ | refine bz5 ?_ _ | refine bz6 ?_ _))⟩
theorem settled_64 (m : Nat) (e : Int) (w : World) (hT : Ts w) (hm : m ≠ 0) (hm1 : m < 9223372036854775808) (e0 : -5000 ≤ e) (e1 : e ≤ 5000) :
    Calls Tryz.prog 210 #[.agg #[.int .u64 52, .int .u64 2047, .int .i64 (-1074)], .int .u64 (m : Nat), .int .i64 e] w fun x w' => x = .returned (.tuple #[.int .u64 (seM 53 (-1074) m e), .int .i64 (seE 53 (-1074) m e), .bool (Nm.stOk 53 (-1074) 2047 m e)]) ∧ Below w.heap.size w w' := by
  obtain ⟨z, hz⟩ : ∃ z : Int, z = (m : Int) := ⟨_, rfl⟩
  have z0 : 0 < z := by omega
  have z1 : z < 18446744073709551616 := by omega
  obtain ⟨T, hTz⟩ : ∃ T, T = Nm.tz m := ⟨_, rfl⟩
  have hs := Nm.tz_spec m hm
  have t1 : (T : Int) ≤ 63 := by
    have h1 : 2 ^ Nm.tz m ≤ m := by have := Nat.le_mul_of_pos_left (2 ^ Nm.tz m) (Nat.pos_of_ne_zero (Nm.od_pos hm)); omega
    have h3 : 2 ^ Nm.tz m < 2 ^ 63 := by omega
    have := (Nat.pow_lt_pow_iff_right (a := 2) (by decide)).1 h3
    omega
  obtain ⟨o, ho⟩ : ∃ o : Int, o = ((Nm.od m : Nat) : Int) := ⟨_, rfl⟩
  have hdiv : z / (2 : Int) ^ T = o := by
    rw [hz, ho, hTz]; unfold Nm.od; simp
  have o0 : 0 < o := by have := Nm.od_pos hm; omega
  have o1 : o < 18446744073709551616 := by have : Nm.od m ≤ m := Nat.div_le_self _ _; omega
  obtain ⟨B, hB⟩ : ∃ B : Int, B = ((bitLen o.toNat : Nat) : Int) := ⟨_, rfl⟩
  have B0 : 1 ≤ B := by have := Nm.bl_pos (show o.toNat ≠ 0 by omega); omega
  have B1 : B ≤ 64 := by have := (Nm.bl_le_iff o.toNat 64).2 (by omega); omega
  have HSP : Hid (Nm.stSp 53 m = 53 - B) := hid (by unfold Nm.stSp; rw [hB, ho]; simp)
  have C1 := hid (fun w' h => tz_64 z w' h z0 z1)
  rw [show Nm.tz z.toNat = T by rw [hTz, hz]; simp] at C1
  have C2 := hid (fun w' => len64_any o w' (by omega) o1)
  rw [← hB] at C2
  have HIN : Hid (Nm.stIn 53 (-1074) m e = (decide (0 ≤ 53 - B) && decide ((-1074) ≤ e + (T : Int)))) := hid (by unfold Nm.stIn; rw [HSP.out, hTz])
  have HT := hid hTz; have HO := hid ho; have HM := hid hm
  rw [← hz]
  clear hz hTz hs ho hB hm hm1
  by_cases c1 : 53 - B < 0
  · have HF : Hid (Nm.stIn 53 (-1074) m e = false) := hid (by rw [HIN.out, decide_eq_false (show ¬ 0 ≤ 53 - B by omega)]; rfl)
    have HK : Hid (Nm.stOk 53 (-1074) 2047 m e = false) := hid (by unfold Nm.stOk; rw [HF.out]; rfl)
    go_enter Tryz.func210, Tryz.ntmps210
    go_wp2_with fail
    refine (C1.out _ (hT.al _).t64).mono ?_
    rintro x w1 ⟨rfl, rfl⟩
    go_wp2_with fail
    refine (prec_64 _).mono ?_
    rintro x w2 ⟨rfl, hb2⟩
    go_wp2_with fail
    refine (C2.out _).mono ?_
    rintro x w3 ⟨rfl, rfl⟩
    go_wp2
    go_ret3
    exact ⟨ret_uib (by unfold seM; rw [HF.out]; rfl) (by unfold seE; rw [HF.out]; rfl) HK.out.symm, (by repeat (first | exact bz0 _ _ | refine bz1 ?_ | refine bz2 ?_ _ | refine bz3 ?_ _ | refine bz4 ?_ hb2 | refine bz5 ?_ _ | refine bz6 ?_ _ | refine bz7 ?_ hb2))⟩
  by_cases c2 : e + (T : Int) < (-1074)
  · have HF : Hid (Nm.stIn 53 (-1074) m e = false) := hid (by rw [HIN.out, decide_eq_false (show ¬ (-1074) ≤ e + (T : Int) by omega)]; simp)
    have HK : Hid (Nm.stOk 53 (-1074) 2047 m e = false) := hid (by unfold Nm.stOk; rw [HF.out]; rfl)
    go_enter Tryz.func210, Tryz.ntmps210
    go_wp2_with fail
    refine (C1.out _ (hT.al _).t64).mono ?_
    rintro x w1 ⟨rfl, rfl⟩
    go_wp2_with fail
    refine (prec_64 _).mono ?_
    rintro x w2 ⟨rfl, hb2⟩
    obtain ⟨k0, k1, k2, f0, f1, f2⟩ := (R3.new w (.int .u64 52) (.int .u64 2047) (.int .i64 (-1074)) 81).below hb2
    go_wp2_with fail
    refine (C2.out _).mono ?_
    rintro x w3 ⟨rfl, rfl⟩
    go_wp2
    go_ret3
    exact ⟨ret_uib (by unfold seM; rw [HF.out]; rfl) (by unfold seE; rw [HF.out]; rfl) HK.out.symm, (by repeat (first | exact bz0 _ _ | refine bz1 ?_ | refine bz2 ?_ _ | refine bz3 ?_ _ | refine bz4 ?_ hb2 | refine bz5 ?_ _ | refine bz6 ?_ _ | refine bz7 ?_ hb2))⟩
  · have HF : Hid (Nm.stIn 53 (-1074) m e = true) := hid (by rw [HIN.out, decide_eq_true (show (-1074) ≤ e + (T : Int) by omega), decide_eq_true (show 0 ≤ 53 - B by omega)]; rfl)
    obtain ⟨u, hu⟩ : ∃ u : Nat, (u : Int) = min (53 - B) (e + (T : Int) - (-1074)) := ⟨(min (53 - B) (e + (T : Int) - (-1074))).toNat, by omega⟩
    have HUP : Hid (Nm.stUp 53 (-1074) m e = u) := hid (by unfold Nm.stUp; rw [HSP.out, ← HT.out, hu])
    have hlt := Nm.stM_lt HM.out HF.out
    have HMV : Hid (o * (2 : Int) ^ u = ((Nm.stM 53 (-1074) m e : Nat) : Int)) := hid (by unfold Nm.stM; rw [HUP.out, HO.out]; simp)
    obtain ⟨v, hv⟩ : ∃ v : Int, o * (2 : Int) ^ u = v := ⟨_, rfl⟩
    have v0 : 0 ≤ v := by rw [← hv, HMV.out]; omega
    have v1 : v < 18446744073709551616 := by rw [← hv, HMV.out]; omega
    have HV := hid hv
    have HU := hid hu
    have u0 : (u : Int) ≤ 64 := by omega
    have u2 : (u : Int) ≤ e + (T : Int) - (-1074) := by omega
    have HK : Hid (Nm.stOk 53 (-1074) 2047 m e = decide (e + (T : Int) - (u : Int) - (-1074) < 2046)) := hid (by
      unfold Nm.stOk; rw [HF.out]; unfold Nm.stE; rw [HUP.out, ← HT.out]; simp only [Bool.true_and]; exact decide_eq_decide.2 (by omega))
    have HE : Hid (seE 53 (-1074) m e = e + (T : Int) - (u : Int)) := hid (by unfold seE; rw [HF.out]; unfold Nm.stE; rw [HUP.out, ← HT.out]; rfl)
    have HMM : Hid (seM 53 (-1074) m e = v) := hid (by unfold seM; rw [HF.out, ← HV.out, HMV.out]; rfl)
    clear hlt hv hu
    go_enter Tryz.func210, Tryz.ntmps210
    go_wp2_with fail
    refine (C1.out _ (hT.al _).t64).mono ?_
    rintro x w1 ⟨rfl, rfl⟩
    go_wp2_with fail
    refine (prec_64 _).mono ?_
    rintro x w2 ⟨rfl, hb2⟩
    obtain ⟨k0, k1, k2, f0, f1, f2⟩ := (R3.new w (.int .u64 52) (.int .u64 2047) (.int .i64 (-1074)) 81).below hb2
    go_wp2_with fail
    refine (C2.out _).mono ?_
    rintro x w3 ⟨rfl, rfl⟩
    go_upto_region 7 with fail
    go_cut [11] (fun s wx => s = .int .i64 (u : Int) ∧ wx = w3)
    case first =>
      by_cases hc : 53 - B < e + (T : Int) - (-1074)
      all_goals go_wp2_with fail
      all_goals go_meet
      all_goals exact ⟨by rw [HU.out]; congr 1; omega, rfl⟩
    case rest =>
    obtain ⟨rfl, rfl⟩ := hcut
    have hv := HV.out
    have hwv : IntKind.u64.wrap (o * (2 : Int) ^ u) = v := by rw [hv, IntKind.wrap_u64]; omega
    go_wp2_with fail
    go_region
    all_goals go_wp2
    all_goals go_ret3
    all_goals exact ⟨ret_uib HMM.out.symm HE.out.symm HK.out.symm, (by repeat (first | exact bz0 _ _ | refine bz1 ?_ | refine bz2 ?_ _ | refine bz3 ?_ _ | refine bz4 ?_ hb2 | refine bz5 ?_ _ | refine bz6 ?_ _ | refine bz7 ?_ hb2))⟩
theorem ret_ub {a a' : Int} {c c' : Bool} (h : a = a') (l : c = c') : Ending.returned (.tuple #[.int .u64 a, .bool c]) = .returned (.tuple #[.int .u64 a', .bool c']) := by rw [h, l]
/-- What parts make. -/
def fpO (P : Nat) (q ones : Int) (M E : Int) : Bool := decide (0 ≤ M) && decide (-5000 ≤ E) && decide (E ≤ 5000) && (decide (M = 0) || Nm.stOk P q ones M.toNat E)
def fpB (P : Nat) (q ones S : Int) (ng : Bool) (M E : Int) : Int := if fpO P q ones M E then (if M = 0 then sgn S 0 ng else sgn S (Nm.flb P (Nm.stU q M.toNat E) : Nat) ng) else 0
theorem fp_32 (ng : Bool) (M E : Int) (w : World) (hT : Ts w) (m1 : M < 9223372036854775808) :
    Calls Tryz.prog 177 #[.int .i64 32, .agg #[.bool ng, .int .i64 M, .int .i64 E]] w fun x w' => x = .returned (.tuple #[.int .u64 (fpB 24 (-149) 255 2147483648 ng M E), .bool (fpO 24 (-149) 255 M E)]) ∧ Below w.heap.size w w' := by
  by_cases h0 : M < 0 ∨ E < -5000 ∨ 5000 < E
  · have HO : Hid (fpO 24 (-149) 255 M E = false) := hid (by
      unfold fpO
      rcases h0 with h | h | h
      · rw [decide_eq_false (show ¬ 0 ≤ M by omega)]; rfl
      · rw [decide_eq_false (show ¬ -5000 ≤ E by omega)]; simp
      · rw [decide_eq_false (show ¬ E ≤ 5000 by omega)]; simp)
    have HB : Hid (fpB 24 (-149) 255 2147483648 ng M E = 0) := hid (by unfold fpB; rw [HO.out]; rfl)
    by_cases hA : M < 0
    all_goals by_cases hB : E < -5000
    all_goals by_cases hC : 5000 < E
    all_goals first
      | (exfalso; omega)
      | skip
    all_goals
      clear h0
      go_enter Tryz.func177, Tryz.ntmps177
      go_wp2_with fail
      refine (sizes32 _ (hT.f.al _)).mono ?_
      rintro x w1 ⟨rfl, hb1⟩
      obtain ⟨k0, k1, k2, f0, f1, f2⟩ := ((R3.new w (.bool ng) (.int .i64 M) (.int .i64 E) 77).below hb1).al (.cells #[.int .u64 23, .int .u64 255, .int .i64 (-149)] 81)
      go_wp2
      go_ret2
      exact ⟨ret_ub HB.out.symm HO.out.symm, (by repeat (first | exact bz0 _ _ | refine bz1 ?_ | refine bz2 ?_ _ | refine bz3 ?_ _ | refine bz4 ?_ hb1 | refine bz5 ?_ _ | refine bz6 ?_ _ | refine bz7 ?_ hb1))⟩
  · have hM : 0 ≤ M := by omega
    have hE0 : -5000 ≤ E := by omega
    have hE1 : E ≤ 5000 := by omega
    have HO0 : Hid (fpO 24 (-149) 255 M E = (decide (M = 0) || Nm.stOk 24 (-149) 255 M.toNat E)) := hid (by
      unfold fpO; rw [decide_eq_true hM, decide_eq_true hE0, decide_eq_true hE1]; rfl)
    clear h0
    by_cases hz : M = 0
    · subst hz
      have HO : Hid (fpO 24 (-149) 255 0 E = true) := hid (by rw [HO0.out]; rfl)
      have HB : Hid (fpB 24 (-149) 255 2147483648 ng 0 E = sgn 2147483648 0 ng) := hid (by unfold fpB; rw [HO.out]; rfl)
      go_enter Tryz.func177, Tryz.ntmps177
      go_wp2_with fail
      refine (sizes32 _ (hT.f.al _)).mono ?_
      rintro x w1 ⟨rfl, hb1⟩
      obtain ⟨k0, k1, k2, f0, f1, f2⟩ := ((R3.new w (.bool ng) (.int .i64 0) (.int .i64 E) 77).below hb1).al (.cells #[.int .u64 23, .int .u64 255, .int .i64 (-149)] 81)
      go_wp2_with fail
      refine (impl_Zero32 ng _ (((hT.f.al _).below hb1).al _)).mono ?_
      rintro x w2 ⟨rfl, hb2⟩
      go_wp2
      go_ret2
      exact ⟨ret_ub HB.out.symm HO.out.symm, (by repeat (first | exact bz0 _ _ | refine bz1 ?_ | refine bz2 ?_ _ | refine bz3 ?_ _ | refine bz4 ?_ hb2 | refine bz4 ?_ hb1 | refine bz5 ?_ _ | refine bz6 ?_ _ | refine bz7 ?_ hb2 | refine bz7 ?_ hb1))⟩
    · obtain ⟨m, hm⟩ : ∃ m : Nat, M = m := ⟨M.toNat, by omega⟩
      have hm0 : m ≠ 0 := by omega
      have hzz : (M == 0) = false := by rw [beq_eq_false_iff_ne]; exact hz
      have HO : Hid (fpO 24 (-149) 255 M E = Nm.stOk 24 (-149) 255 m E) := hid (by rw [HO0.out, decide_eq_false hz, hm]; simp)
      have HB : Hid (fpB 24 (-149) 255 2147483648 ng M E = if Nm.stOk 24 (-149) 255 m E then sgn 2147483648 (Nm.flb 24 (Nm.stU (-149) m E) : Nat) ng else 0) := hid (by
        unfold fpB; rw [HO.out, if_neg hz, hm]; simp)
      obtain ⟨ok, hok⟩ : ∃ ok, ok = Nm.stOk 24 (-149) 255 m E := ⟨_, rfl⟩
      obtain ⟨y, hy⟩ : ∃ y, y = seM 24 (-149) m E := ⟨_, rfl⟩
      obtain ⟨f, hf⟩ : ∃ f, f = seE 24 (-149) m E := ⟨_, rfl⟩
      have C := hid (fun w' h => settled_32 m E w' h hm0 (by omega) hE0 hE1)
      rw [← hok, ← hy, ← hf, ← hm] at C
      have HOK := hid hok
      have HYF : Hid (ok = true → y = (Nm.stM 24 (-149) m E : Nat) ∧ f = Nm.stE 24 (-149) m E ∧ 0 ≤ y ∧ y < 2 * 8388608 ∧ (-149) ≤ f ∧ f - (-149) < 255 - 1 ∧ (f - (-149)) * 8388608 + y = (Nm.flb 24 (Nm.stU (-149) m E) : Nat)) := hid (fun h => by
        rw [hok] at h
        have hin : Nm.stIn 24 (-149) m E = true := by unfold Nm.stOk at h; simp at h; exact h.1
        have h2 : Nm.stE 24 (-149) m E - (-149) < 255 - 1 := by unfold Nm.stOk at h; simp at h; exact h.2
        have e1 : y = (Nm.stM 24 (-149) m E : Nat) := by rw [hy]; unfold seM; rw [hin]; rfl
        have e2 : f = Nm.stE 24 (-149) m E := by rw [hf]; unfold seE; rw [hin]; rfl
        have hb := Nm.st_b hm0 hin (by decide)
        have hlt := Nm.stM_lt hm0 hin
        have h3 := (Nm.st_bl hm0 hin).2.1
        refine ⟨e1, e2, by omega, by omega, by omega, by omega, ?_⟩
        rw [e1, e2, hb]; simp; omega)
      have HM := hid hm
      clear hok hy hf hz hm
      go_enter Tryz.func177, Tryz.ntmps177
      go_wp2_with fail
      refine (sizes32 _ (hT.f.al _)).mono ?_
      rintro x w1 ⟨rfl, hb1⟩
      obtain ⟨k0, k1, k2, f0, f1, f2⟩ := ((R3.new w (.bool ng) (.int .i64 M) (.int .i64 E) 77).below hb1).al (.cells #[.int .u64 23, .int .u64 255, .int .i64 (-149)] 81)
      have T1 := ((hT.al _).below hb1).al (.cells #[.int .u64 23, .int .u64 255, .int .i64 (-149)] 81)
      have hMw : IntKind.u64.wrap M = M := by rw [IntKind.wrap_u64]; omega
      go_wp2_with fail
      refine (C.out _ T1).mono ?_
      rintro x w2 ⟨rfl, hb2⟩
      have p2 := R3.below ⟨k0, k1, k2, f0, f1, f2⟩ hb2
      have z2 := (R3.new w1 (.int .u64 23) (.int .u64 255) (.int .i64 (-149)) 81).below hb2
      clear k0 k1 k2 f0 f1 f2 T1
      obtain ⟨p0, p1, p2', pf0, pf1, pf2⟩ := p2
      obtain ⟨z0, z1, z2', zf0, zf1, zf2⟩ := z2
      cases ok with
      | false =>
        have HO' : Hid (fpO 24 (-149) 255 M E = false) := hid (by rw [HO.out, ← HOK.out])
        have HB' : Hid (fpB 24 (-149) 255 2147483648 ng M E = 0) := hid (by rw [HB.out, ← HOK.out]; rfl)
        go_wp2
        go_ret2
        exact ⟨ret_ub HB'.out.symm HO'.out.symm, (by repeat (first | exact bz0 _ _ | refine bz1 ?_ | refine bz2 ?_ _ | refine bz3 ?_ _ | refine bz4 ?_ hb2 | refine bz4 ?_ hb1 | refine bz5 ?_ _ | refine bz6 ?_ _ | refine bz7 ?_ hb2 | refine bz7 ?_ hb1))⟩
      | true =>
        have HO' : Hid (fpO 24 (-149) 255 M E = true) := hid (by rw [HO.out, ← HOK.out])
        obtain ⟨y1, y2, y3, y4, y5, y6, y7⟩ := HYF.out rfl
        have HB' : Hid (fpB 24 (-149) 255 2147483648 ng M E = sgn 2147483648 ((f + 149) * 8388608 + y) ng) := hid (by rw [HB.out, ← HOK.out, if_pos rfl, ← y7]; congr 1)
        have v0 : 0 ≤ (f + 149) * 8388608 + y := by omega
        have v1 : (f + 149) * 8388608 + y < 2147483648 := by omega
        clear y1 y2 y7
        go_wp2_with fail
        refine (signed32 ((f + 149) * 8388608 + y) ng _ v0 v1).mono ?_
        rintro x w3 ⟨rfl, hb3⟩
        go_wp2
        go_ret2
        exact ⟨ret_ub HB'.out.symm HO'.out.symm, (by repeat (first | exact bz0 _ _ | refine bz1 ?_ | refine bz2 ?_ _ | refine bz3 ?_ _ | refine bz4 ?_ hb3 | refine bz4 ?_ hb2 | refine bz4 ?_ hb1 | refine bz5 ?_ _ | refine bz6 ?_ _ | refine bz7 ?_ hb3 | refine bz7 ?_ hb2 | refine bz7 ?_ hb1))⟩
theorem fp_64 (ng : Bool) (M E : Int) (w : World) (hT : Ts w) (m1 : M < 9223372036854775808) :
    Calls Tryz.prog 177 #[.int .i64 64, .agg #[.bool ng, .int .i64 M, .int .i64 E]] w fun x w' => x = .returned (.tuple #[.int .u64 (fpB 53 (-1074) 2047 9223372036854775808 ng M E), .bool (fpO 53 (-1074) 2047 M E)]) ∧ Below w.heap.size w w' := by
  by_cases h0 : M < 0 ∨ E < -5000 ∨ 5000 < E
  · have HO : Hid (fpO 53 (-1074) 2047 M E = false) := hid (by
      unfold fpO
      rcases h0 with h | h | h
      · rw [decide_eq_false (show ¬ 0 ≤ M by omega)]; rfl
      · rw [decide_eq_false (show ¬ -5000 ≤ E by omega)]; simp
      · rw [decide_eq_false (show ¬ E ≤ 5000 by omega)]; simp)
    have HB : Hid (fpB 53 (-1074) 2047 9223372036854775808 ng M E = 0) := hid (by unfold fpB; rw [HO.out]; rfl)
    by_cases hA : M < 0
    all_goals by_cases hB : E < -5000
    all_goals by_cases hC : 5000 < E
    all_goals first
      | (exfalso; omega)
      | skip
    all_goals
      clear h0
      go_enter Tryz.func177, Tryz.ntmps177
      go_wp2_with fail
      refine (sizes64 _ (hT.f.al _)).mono ?_
      rintro x w1 ⟨rfl, hb1⟩
      obtain ⟨k0, k1, k2, f0, f1, f2⟩ := ((R3.new w (.bool ng) (.int .i64 M) (.int .i64 E) 77).below hb1).al (.cells #[.int .u64 52, .int .u64 2047, .int .i64 (-1074)] 81)
      go_wp2
      go_ret2
      exact ⟨ret_ub HB.out.symm HO.out.symm, (by repeat (first | exact bz0 _ _ | refine bz1 ?_ | refine bz2 ?_ _ | refine bz3 ?_ _ | refine bz4 ?_ hb1 | refine bz5 ?_ _ | refine bz6 ?_ _ | refine bz7 ?_ hb1))⟩
  · have hM : 0 ≤ M := by omega
    have hE0 : -5000 ≤ E := by omega
    have hE1 : E ≤ 5000 := by omega
    have HO0 : Hid (fpO 53 (-1074) 2047 M E = (decide (M = 0) || Nm.stOk 53 (-1074) 2047 M.toNat E)) := hid (by
      unfold fpO; rw [decide_eq_true hM, decide_eq_true hE0, decide_eq_true hE1]; rfl)
    clear h0
    by_cases hz : M = 0
    · subst hz
      have HO : Hid (fpO 53 (-1074) 2047 0 E = true) := hid (by rw [HO0.out]; rfl)
      have HB : Hid (fpB 53 (-1074) 2047 9223372036854775808 ng 0 E = sgn 9223372036854775808 0 ng) := hid (by unfold fpB; rw [HO.out]; rfl)
      go_enter Tryz.func177, Tryz.ntmps177
      go_wp2_with fail
      refine (sizes64 _ (hT.f.al _)).mono ?_
      rintro x w1 ⟨rfl, hb1⟩
      obtain ⟨k0, k1, k2, f0, f1, f2⟩ := ((R3.new w (.bool ng) (.int .i64 0) (.int .i64 E) 77).below hb1).al (.cells #[.int .u64 52, .int .u64 2047, .int .i64 (-1074)] 81)
      go_wp2_with fail
      refine (impl_Zero64 ng _ (((hT.f.al _).below hb1).al _)).mono ?_
      rintro x w2 ⟨rfl, hb2⟩
      go_wp2
      go_ret2
      exact ⟨ret_ub HB.out.symm HO.out.symm, (by repeat (first | exact bz0 _ _ | refine bz1 ?_ | refine bz2 ?_ _ | refine bz3 ?_ _ | refine bz4 ?_ hb2 | refine bz4 ?_ hb1 | refine bz5 ?_ _ | refine bz6 ?_ _ | refine bz7 ?_ hb2 | refine bz7 ?_ hb1))⟩
    · obtain ⟨m, hm⟩ : ∃ m : Nat, M = m := ⟨M.toNat, by omega⟩
      have hm0 : m ≠ 0 := by omega
      have hzz : (M == 0) = false := by rw [beq_eq_false_iff_ne]; exact hz
      have HO : Hid (fpO 53 (-1074) 2047 M E = Nm.stOk 53 (-1074) 2047 m E) := hid (by rw [HO0.out, decide_eq_false hz, hm]; simp)
      have HB : Hid (fpB 53 (-1074) 2047 9223372036854775808 ng M E = if Nm.stOk 53 (-1074) 2047 m E then sgn 9223372036854775808 (Nm.flb 53 (Nm.stU (-1074) m E) : Nat) ng else 0) := hid (by
        unfold fpB; rw [HO.out, if_neg hz, hm]; simp)
      obtain ⟨ok, hok⟩ : ∃ ok, ok = Nm.stOk 53 (-1074) 2047 m E := ⟨_, rfl⟩
      obtain ⟨y, hy⟩ : ∃ y, y = seM 53 (-1074) m E := ⟨_, rfl⟩
      obtain ⟨f, hf⟩ : ∃ f, f = seE 53 (-1074) m E := ⟨_, rfl⟩
      have C := hid (fun w' h => settled_64 m E w' h hm0 (by omega) hE0 hE1)
      rw [← hok, ← hy, ← hf, ← hm] at C
      have HOK := hid hok
      have HYF : Hid (ok = true → y = (Nm.stM 53 (-1074) m E : Nat) ∧ f = Nm.stE 53 (-1074) m E ∧ 0 ≤ y ∧ y < 2 * 4503599627370496 ∧ (-1074) ≤ f ∧ f - (-1074) < 2047 - 1 ∧ (f - (-1074)) * 4503599627370496 + y = (Nm.flb 53 (Nm.stU (-1074) m E) : Nat)) := hid (fun h => by
        rw [hok] at h
        have hin : Nm.stIn 53 (-1074) m E = true := by unfold Nm.stOk at h; simp at h; exact h.1
        have h2 : Nm.stE 53 (-1074) m E - (-1074) < 2047 - 1 := by unfold Nm.stOk at h; simp at h; exact h.2
        have e1 : y = (Nm.stM 53 (-1074) m E : Nat) := by rw [hy]; unfold seM; rw [hin]; rfl
        have e2 : f = Nm.stE 53 (-1074) m E := by rw [hf]; unfold seE; rw [hin]; rfl
        have hb := Nm.st_b hm0 hin (by decide)
        have hlt := Nm.stM_lt hm0 hin
        have h3 := (Nm.st_bl hm0 hin).2.1
        refine ⟨e1, e2, by omega, by omega, by omega, by omega, ?_⟩
        rw [e1, e2, hb]; simp; omega)
      have HM := hid hm
      clear hok hy hf hz hm
      go_enter Tryz.func177, Tryz.ntmps177
      go_wp2_with fail
      refine (sizes64 _ (hT.f.al _)).mono ?_
      rintro x w1 ⟨rfl, hb1⟩
      obtain ⟨k0, k1, k2, f0, f1, f2⟩ := ((R3.new w (.bool ng) (.int .i64 M) (.int .i64 E) 77).below hb1).al (.cells #[.int .u64 52, .int .u64 2047, .int .i64 (-1074)] 81)
      have T1 := ((hT.al _).below hb1).al (.cells #[.int .u64 52, .int .u64 2047, .int .i64 (-1074)] 81)
      have hMw : IntKind.u64.wrap M = M := by rw [IntKind.wrap_u64]; omega
      go_wp2_with fail
      refine (C.out _ T1).mono ?_
      rintro x w2 ⟨rfl, hb2⟩
      have p2 := R3.below ⟨k0, k1, k2, f0, f1, f2⟩ hb2
      have z2 := (R3.new w1 (.int .u64 52) (.int .u64 2047) (.int .i64 (-1074)) 81).below hb2
      clear k0 k1 k2 f0 f1 f2 T1
      obtain ⟨p0, p1, p2', pf0, pf1, pf2⟩ := p2
      obtain ⟨z0, z1, z2', zf0, zf1, zf2⟩ := z2
      cases ok with
      | false =>
        have HO' : Hid (fpO 53 (-1074) 2047 M E = false) := hid (by rw [HO.out, ← HOK.out])
        have HB' : Hid (fpB 53 (-1074) 2047 9223372036854775808 ng M E = 0) := hid (by rw [HB.out, ← HOK.out]; rfl)
        go_wp2
        go_ret2
        exact ⟨ret_ub HB'.out.symm HO'.out.symm, (by repeat (first | exact bz0 _ _ | refine bz1 ?_ | refine bz2 ?_ _ | refine bz3 ?_ _ | refine bz4 ?_ hb2 | refine bz4 ?_ hb1 | refine bz5 ?_ _ | refine bz6 ?_ _ | refine bz7 ?_ hb2 | refine bz7 ?_ hb1))⟩
      | true =>
        have HO' : Hid (fpO 53 (-1074) 2047 M E = true) := hid (by rw [HO.out, ← HOK.out])
        obtain ⟨y1, y2, y3, y4, y5, y6, y7⟩ := HYF.out rfl
        have HB' : Hid (fpB 53 (-1074) 2047 9223372036854775808 ng M E = sgn 9223372036854775808 ((f + 1074) * 4503599627370496 + y) ng) := hid (by rw [HB.out, ← HOK.out, if_pos rfl, ← y7]; congr 1)
        have v0 : 0 ≤ (f + 1074) * 4503599627370496 + y := by omega
        have v1 : (f + 1074) * 4503599627370496 + y < 9223372036854775808 := by omega
        clear y1 y2 y7
        go_wp2_with fail
        refine (signed64 ((f + 1074) * 4503599627370496 + y) ng _ v0 v1).mono ?_
        rintro x w3 ⟨rfl, hb3⟩
        go_wp2
        go_ret2
        exact ⟨ret_ub HB'.out.symm HO'.out.symm, (by repeat (first | exact bz0 _ _ | refine bz1 ?_ | refine bz2 ?_ _ | refine bz3 ?_ _ | refine bz4 ?_ hb3 | refine bz4 ?_ hb2 | refine bz4 ?_ hb1 | refine bz5 ?_ _ | refine bz6 ?_ _ | refine bz7 ?_ hb3 | refine bz7 ?_ hb2 | refine bz7 ?_ hb1))⟩
end Go.Proofs.YtmcflggionkhlaaGreatDoor
