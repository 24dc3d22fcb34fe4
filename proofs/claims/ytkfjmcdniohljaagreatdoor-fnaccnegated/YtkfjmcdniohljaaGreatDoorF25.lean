/-
  What is needed of IG.
-/
import Derived.Test.YtkfjmcdniohljaaGreatDoorF24
set_option maxHeartbeats 16000000
set_option maxRecDepth 1000000
namespace Go.Proofs.YtkfjmcdniohljaaGreatDoor
set_option linter.unusedVariables false
set_option linter.unusedSimpArgs false
open Go.RowKit Go.Deep
theorem ret_ub {a a' : Int} {c c' : Bool} (h : a = a') (l : c = c') : Ending.returned (.tuple #[.int .u64 a, .bool c]) = .returned (.tuple #[.int .u64 a', .bool c']) := by rw [h, l]
def fpO (P : Nat) (q ones : Int) (M E : Int) : Bool := decide (0 ≤ M) && decide (-5000 ≤ E) && decide (E ≤ 5000) && (decide (M = 0) || Nm.stOk P q ones M.toNat E)
def fpB (P : Nat) (q ones S : Int) (ng : Bool) (M E : Int) : Int := if fpO P q ones M E then (if M = 0 then sgn S 0 ng else sgn S (Nm.flb P (Nm.stU q M.toNat E) : Nat) ng) else 0
theorem fp_32 (ng : Bool) (M E : Int) (w : World) (hT : Ts w) (m1 : M < 9223372036854775808) :
  Calls Tryz.prog 158 #[.int .i64 32, .agg #[.bool ng, .int .i64 M, .int .i64 E]] w fun x w' => x = .returned (.tuple #[.int .u64 (fpB 24 (-149) 255 2147483648 ng M E), .bool (fpO 24 (-149) 255 M E)]) ∧ Below w.heap.size w w' := by
 by_cases h0 : M < 0 ∨ E < -5000 ∨ 5000 < E
 ·have HO : Hid (fpO 24 (-149) 255 M E = false) := hid (by
   unfold fpO
   rcases h0 with h | h | h
   ·rw [decide_eq_false (show ¬ 0 ≤ M by omega)]; rfl
   ·rw [decide_eq_false (show ¬ -5000 ≤ E by omega)]; simp
   ·rw [decide_eq_false (show ¬ E ≤ 5000 by omega)]; simp)
  have HB : Hid (fpB 24 (-149) 255 2147483648 ng M E = 0) := hid (by unfold fpB; rw [HO.out]; rfl)
  by_cases hA : M < 0
  all_goals by_cases hB : E < -5000
  all_goals by_cases hC : 5000 < E
  all_goals first
   | (exfalso; omega)
   | skip
  all_goals
   clear h0
   go_enter Tryz.func158, Tryz.ntmps158
   go_wp2_with fail
   refine (sizes32 _ (hT.f.al _)).mono ?_
   rintro x w1 ⟨rfl, hb1⟩
   obtain ⟨k0, k1, k2, f0, f1, f2⟩ := ((R3.new w (.bool ng) (.int .i64 M) (.int .i64 E) 89).below hb1).al (.cells #[.int .u64 23, .int .u64 255, .int .i64 (-149)] 121)
   go_wp2
   go_ret2
   exact ⟨ret_ub HB.out.symm HO.out.symm, (by repeat (first | exact bz0 _ _ | refine bz1 ?_ | refine bz2 ?_ _ | refine bz3 ?_ _ | refine bz4 ?_ hb1 | refine bz5 ?_ _ | refine bz6 ?_ _ | refine bz7 ?_ hb1))⟩
 ·have hM : 0 ≤ M := by omega
  have hE0 : -5000 ≤ E := by omega
  have hE1 : E ≤ 5000 := by omega
  have HO0 : Hid (fpO 24 (-149) 255 M E = (decide (M = 0) || Nm.stOk 24 (-149) 255 M.toNat E)) := hid (by
   unfold fpO; rw [decide_eq_true hM, decide_eq_true hE0, decide_eq_true hE1]; rfl)
  clear h0
  by_cases hz : M = 0
  ·subst hz
   have HO : Hid (fpO 24 (-149) 255 0 E = true) := hid (by rw [HO0.out]; rfl)
   have HB : Hid (fpB 24 (-149) 255 2147483648 ng 0 E = sgn 2147483648 0 ng) := hid (by unfold fpB; rw [HO.out]; rfl)
   go_enter Tryz.func158, Tryz.ntmps158
   go_wp2_with fail
   refine (sizes32 _ (hT.f.al _)).mono ?_
   rintro x w1 ⟨rfl, hb1⟩
   obtain ⟨k0, k1, k2, f0, f1, f2⟩ := ((R3.new w (.bool ng) (.int .i64 0) (.int .i64 E) 89).below hb1).al (.cells #[.int .u64 23, .int .u64 255, .int .i64 (-149)] 121)
   go_wp2_with fail
   refine (impl_Zero32 ng _ (((hT.f.al _).below hb1).al _)).mono ?_
   rintro x w2 ⟨rfl, hb2⟩
   go_wp2
   go_ret2
   exact ⟨ret_ub HB.out.symm HO.out.symm, (by repeat (first | exact bz0 _ _ | refine bz1 ?_ | refine bz2 ?_ _ | refine bz3 ?_ _ | refine bz4 ?_ hb2 | refine bz4 ?_ hb1 | refine bz5 ?_ _ | refine bz6 ?_ _ | refine bz7 ?_ hb2 | refine bz7 ?_ hb1))⟩
  ·obtain ⟨m, hm⟩ : ∃ m : Nat, M = m := ⟨M.toNat, by omega⟩
   have hm0 : m ≠ 0 := by omega
   have hzz : (M == 0) = false := by rw [beq_eq_false_iff_ne]; exact hz
   have HO : Hid (fpO 24 (-149) 255 M E = Nm.stOk 24 (-149) 255 m E) := hid (by rw [HO0.out, decide_eq_false hz, hm]; simp)
   have HB : Hid (fpB 24 (-149) 255 2147483648 ng M E = if Nm.stOk 24 (-149) 255 m E then sgn 2147483648 (Nm.flb 24 (Nm.stU (-149) m E) : Nat) ng else 0) := hid (by
    unfold fpB; rw [HO.out, if_neg hz, hm]; simp)
   obtain ⟨ok, hok⟩ : ∃ ok, ok = Nm.stOk 24 (-149) 255 m E := ⟨_, rfl⟩
   obtain ⟨y, hy⟩ : ∃ y, y = seM 24 (-149) m E := ⟨_, rfl⟩
   obtain ⟨f, hf⟩ : ∃ f, f = seE 24 (-149) m E := ⟨_, rfl⟩
   have C := hid (fun w' h => settled_32 m E w' h hm0 (by omega) hE0 hE1)
   rw [← hok, ← hy, ← hf, ← hm] at C
   have HOK := hid hok
   have HYF : Hid (ok = true → y = (Nm.stM 24 (-149) m E : Nat) ∧ f = Nm.stE 24 (-149) m E ∧ 0 ≤ y ∧ y < 2 * 8388608 ∧ (-149) ≤ f ∧ f - (-149) < 255 - 1 ∧ (f - (-149)) * 8388608 + y = (Nm.flb 24 (Nm.stU (-149) m E) : Nat)) := hid (fun h => by
    rw [hok] at h
    have hin : Nm.stIn 24 (-149) m E = true := by unfold Nm.stOk at h; simp at h; exact h.1
    have h2 : Nm.stE 24 (-149) m E - (-149) < 255 - 1 := by unfold Nm.stOk at h; simp at h; exact h.2
    have e1 : y = (Nm.stM 24 (-149) m E : Nat) := by rw [hy]; unfold seM; rw [hin]; rfl
    have e2 : f = Nm.stE 24 (-149) m E := by rw [hf]; unfold seE; rw [hin]; rfl
    have hb := Nm.st_b hm0 hin (by decide)
    have hlt := Nm.stM_lt hm0 hin
    have h3 := (Nm.st_bl hm0 hin).2.1
    refine ⟨e1, e2, by omega, by omega, by omega, by omega, ?_⟩
    rw [e1, e2, hb]; simp; omega)
   have HM := hid hm
   clear hok hy hf hz hm
   go_enter Tryz.func158, Tryz.ntmps158
   go_wp2_with fail
   refine (sizes32 _ (hT.f.al _)).mono ?_
   rintro x w1 ⟨rfl, hb1⟩
   obtain ⟨k0, k1, k2, f0, f1, f2⟩ := ((R3.new w (.bool ng) (.int .i64 M) (.int .i64 E) 89).below hb1).al (.cells #[.int .u64 23, .int .u64 255, .int .i64 (-149)] 121)
   have T1 := ((hT.al _).below hb1).al (.cells #[.int .u64 23, .int .u64 255, .int .i64 (-149)] 121)
   have hMw : IntKind.u64.wrap M = M := by rw [IntKind.wrap_u64]; omega
   go_wp2_with fail
   refine (C.out _ T1).mono ?_
   rintro x w2 ⟨rfl, hb2⟩
   have p2 := R3.below ⟨k0, k1, k2, f0, f1, f2⟩ hb2
   have z2 := (R3.new w1 (.int .u64 23) (.int .u64 255) (.int .i64 (-149)) 121).below hb2
   clear k0 k1 k2 f0 f1 f2 T1
   obtain ⟨p0, p1, p2', pf0, pf1, pf2⟩ := p2
   obtain ⟨z0, z1, z2', zf0, zf1, zf2⟩ := z2
   cases ok with
   | false =>
    have HO' : Hid (fpO 24 (-149) 255 M E = false) := hid (by rw [HO.out, ← HOK.out])
    have HB' : Hid (fpB 24 (-149) 255 2147483648 ng M E = 0) := hid (by rw [HB.out, ← HOK.out]; rfl)
    go_wp2
    go_ret2
    exact ⟨ret_ub HB'.out.symm HO'.out.symm, (by repeat (first | exact bz0 _ _ | refine bz1 ?_ | refine bz2 ?_ _ | refine bz3 ?_ _ | refine bz4 ?_ hb2 | refine bz4 ?_ hb1 | refine bz5 ?_ _ | refine bz6 ?_ _ | refine bz7 ?_ hb2 | refine bz7 ?_ hb1))⟩
   | true =>
    have HO' : Hid (fpO 24 (-149) 255 M E = true) := hid (by rw [HO.out, ← HOK.out])
    obtain ⟨y1, y2, y3, y4, y5, y6, y7⟩ := HYF.out rfl
    have HB' : Hid (fpB 24 (-149) 255 2147483648 ng M E = sgn 2147483648 ((f + 149) * 8388608 + y) ng) := hid (by rw [HB.out, ← HOK.out, if_pos rfl, ← y7]; congr 1)
    have v0 : 0 ≤ (f + 149) * 8388608 + y := by omega
    have v1 : (f + 149) * 8388608 + y < 2147483648 := by omega
    clear y1 y2 y7
    go_wp2_with fail
    refine (signed32 ((f + 149) * 8388608 + y) ng _ v0 v1).mono ?_
    rintro x w3 ⟨rfl, hb3⟩
    go_wp2
    go_ret2
    exact ⟨ret_ub HB'.out.symm HO'.out.symm, (by repeat (first | exact bz0 _ _ | refine bz1 ?_ | refine bz2 ?_ _ | refine bz3 ?_ _ | refine bz4 ?_ hb3 | refine bz4 ?_ hb2 | refine bz4 ?_ hb1 | refine bz5 ?_ _ | refine bz6 ?_ _ | refine bz7 ?_ hb3 | refine bz7 ?_ hb2 | refine bz7 ?_ hb1))⟩
theorem fp_64 (ng : Bool) (M E : Int) (w : World) (hT : Ts w) (m1 : M < 9223372036854775808) :
  Calls Tryz.prog 158 #[.int .i64 64, .agg #[.bool ng, .int .i64 M, .int .i64 E]] w fun x w' => x = .returned (.tuple #[.int .u64 (fpB 53 (-1074) 2047 9223372036854775808 ng M E), .bool (fpO 53 (-1074) 2047 M E)]) ∧ Below w.heap.size w w' := by
 by_cases h0 : M < 0 ∨ E < -5000 ∨ 5000 < E
 ·have HO : Hid (fpO 53 (-1074) 2047 M E = false) := hid (by
   unfold fpO
   rcases h0 with h | h | h
   ·rw [decide_eq_false (show ¬ 0 ≤ M by omega)]; rfl
   ·rw [decide_eq_false (show ¬ -5000 ≤ E by omega)]; simp
   ·rw [decide_eq_false (show ¬ E ≤ 5000 by omega)]; simp)
  have HB : Hid (fpB 53 (-1074) 2047 9223372036854775808 ng M E = 0) := hid (by unfold fpB; rw [HO.out]; rfl)
  by_cases hA : M < 0
  all_goals by_cases hB : E < -5000
  all_goals by_cases hC : 5000 < E
  all_goals first
   | (exfalso; omega)
   | skip
  all_goals
   clear h0
   go_enter Tryz.func158, Tryz.ntmps158
   go_wp2_with fail
   refine (sizes64 _ (hT.f.al _)).mono ?_
   rintro x w1 ⟨rfl, hb1⟩
   obtain ⟨k0, k1, k2, f0, f1, f2⟩ := ((R3.new w (.bool ng) (.int .i64 M) (.int .i64 E) 89).below hb1).al (.cells #[.int .u64 52, .int .u64 2047, .int .i64 (-1074)] 121)
   go_wp2
   go_ret2
   exact ⟨ret_ub HB.out.symm HO.out.symm, (by repeat (first | exact bz0 _ _ | refine bz1 ?_ | refine bz2 ?_ _ | refine bz3 ?_ _ | refine bz4 ?_ hb1 | refine bz5 ?_ _ | refine bz6 ?_ _ | refine bz7 ?_ hb1))⟩
 ·have hM : 0 ≤ M := by omega
  have hE0 : -5000 ≤ E := by omega
  have hE1 : E ≤ 5000 := by omega
  have HO0 : Hid (fpO 53 (-1074) 2047 M E = (decide (M = 0) || Nm.stOk 53 (-1074) 2047 M.toNat E)) := hid (by
   unfold fpO; rw [decide_eq_true hM, decide_eq_true hE0, decide_eq_true hE1]; rfl)
  clear h0
  by_cases hz : M = 0
  ·subst hz
   have HO : Hid (fpO 53 (-1074) 2047 0 E = true) := hid (by rw [HO0.out]; rfl)
   have HB : Hid (fpB 53 (-1074) 2047 9223372036854775808 ng 0 E = sgn 9223372036854775808 0 ng) := hid (by unfold fpB; rw [HO.out]; rfl)
   go_enter Tryz.func158, Tryz.ntmps158
   go_wp2_with fail
   refine (sizes64 _ (hT.f.al _)).mono ?_
   rintro x w1 ⟨rfl, hb1⟩
   obtain ⟨k0, k1, k2, f0, f1, f2⟩ := ((R3.new w (.bool ng) (.int .i64 0) (.int .i64 E) 89).below hb1).al (.cells #[.int .u64 52, .int .u64 2047, .int .i64 (-1074)] 121)
   go_wp2_with fail
   refine (impl_Zero64 ng _ (((hT.f.al _).below hb1).al _)).mono ?_
   rintro x w2 ⟨rfl, hb2⟩
   go_wp2
   go_ret2
   exact ⟨ret_ub HB.out.symm HO.out.symm, (by repeat (first | exact bz0 _ _ | refine bz1 ?_ | refine bz2 ?_ _ | refine bz3 ?_ _ | refine bz4 ?_ hb2 | refine bz4 ?_ hb1 | refine bz5 ?_ _ | refine bz6 ?_ _ | refine bz7 ?_ hb2 | refine bz7 ?_ hb1))⟩
  ·obtain ⟨m, hm⟩ : ∃ m : Nat, M = m := ⟨M.toNat, by omega⟩
   have hm0 : m ≠ 0 := by omega
   have hzz : (M == 0) = false := by rw [beq_eq_false_iff_ne]; exact hz
   have HO : Hid (fpO 53 (-1074) 2047 M E = Nm.stOk 53 (-1074) 2047 m E) := hid (by rw [HO0.out, decide_eq_false hz, hm]; simp)
   have HB : Hid (fpB 53 (-1074) 2047 9223372036854775808 ng M E = if Nm.stOk 53 (-1074) 2047 m E then sgn 9223372036854775808 (Nm.flb 53 (Nm.stU (-1074) m E) : Nat) ng else 0) := hid (by
    unfold fpB; rw [HO.out, if_neg hz, hm]; simp)
   obtain ⟨ok, hok⟩ : ∃ ok, ok = Nm.stOk 53 (-1074) 2047 m E := ⟨_, rfl⟩
   obtain ⟨y, hy⟩ : ∃ y, y = seM 53 (-1074) m E := ⟨_, rfl⟩
   obtain ⟨f, hf⟩ : ∃ f, f = seE 53 (-1074) m E := ⟨_, rfl⟩
   have C := hid (fun w' h => settled_64 m E w' h hm0 (by omega) hE0 hE1)
   rw [← hok, ← hy, ← hf, ← hm] at C
   have HOK := hid hok
   have HYF : Hid (ok = true → y = (Nm.stM 53 (-1074) m E : Nat) ∧ f = Nm.stE 53 (-1074) m E ∧ 0 ≤ y ∧ y < 2 * 4503599627370496 ∧ (-1074) ≤ f ∧ f - (-1074) < 2047 - 1 ∧ (f - (-1074)) * 4503599627370496 + y = (Nm.flb 53 (Nm.stU (-1074) m E) : Nat)) := hid (fun h => by
    rw [hok] at h
    have hin : Nm.stIn 53 (-1074) m E = true := by unfold Nm.stOk at h; simp at h; exact h.1
    have h2 : Nm.stE 53 (-1074) m E - (-1074) < 2047 - 1 := by unfold Nm.stOk at h; simp at h; exact h.2
    have e1 : y = (Nm.stM 53 (-1074) m E : Nat) := by rw [hy]; unfold seM; rw [hin]; rfl
    have e2 : f = Nm.stE 53 (-1074) m E := by rw [hf]; unfold seE; rw [hin]; rfl
    have hb := Nm.st_b hm0 hin (by decide)
    have hlt := Nm.stM_lt hm0 hin
    have h3 := (Nm.st_bl hm0 hin).2.1
    refine ⟨e1, e2, by omega, by omega, by omega, by omega, ?_⟩
    rw [e1, e2, hb]; simp; omega)
   have HM := hid hm
   clear hok hy hf hz hm
   go_enter Tryz.func158, Tryz.ntmps158
   go_wp2_with fail
   refine (sizes64 _ (hT.f.al _)).mono ?_
   rintro x w1 ⟨rfl, hb1⟩
   obtain ⟨k0, k1, k2, f0, f1, f2⟩ := ((R3.new w (.bool ng) (.int .i64 M) (.int .i64 E) 89).below hb1).al (.cells #[.int .u64 52, .int .u64 2047, .int .i64 (-1074)] 121)
   have T1 := ((hT.al _).below hb1).al (.cells #[.int .u64 52, .int .u64 2047, .int .i64 (-1074)] 121)
   have hMw : IntKind.u64.wrap M = M := by rw [IntKind.wrap_u64]; omega
   go_wp2_with fail
   refine (C.out _ T1).mono ?_
   rintro x w2 ⟨rfl, hb2⟩
   have p2 := R3.below ⟨k0, k1, k2, f0, f1, f2⟩ hb2
   have z2 := (R3.new w1 (.int .u64 52) (.int .u64 2047) (.int .i64 (-1074)) 121).below hb2
   clear k0 k1 k2 f0 f1 f2 T1
   obtain ⟨p0, p1, p2', pf0, pf1, pf2⟩ := p2
   obtain ⟨z0, z1, z2', zf0, zf1, zf2⟩ := z2
   cases ok with
   | false =>
    have HO' : Hid (fpO 53 (-1074) 2047 M E = false) := hid (by rw [HO.out, ← HOK.out])
    have HB' : Hid (fpB 53 (-1074) 2047 9223372036854775808 ng M E = 0) := hid (by rw [HB.out, ← HOK.out]; rfl)
    go_wp2
    go_ret2
    exact ⟨ret_ub HB'.out.symm HO'.out.symm, (by repeat (first | exact bz0 _ _ | refine bz1 ?_ | refine bz2 ?_ _ | refine bz3 ?_ _ | refine bz4 ?_ hb2 | refine bz4 ?_ hb1 | refine bz5 ?_ _ | refine bz6 ?_ _ | refine bz7 ?_ hb2 | refine bz7 ?_ hb1))⟩
   | true =>
    have HO' : Hid (fpO 53 (-1074) 2047 M E = true) := hid (by rw [HO.out, ← HOK.out])
    obtain ⟨y1, y2, y3, y4, y5, y6, y7⟩ := HYF.out rfl
    have HB' : Hid (fpB 53 (-1074) 2047 9223372036854775808 ng M E = sgn 9223372036854775808 ((f + 1074) * 4503599627370496 + y) ng) := hid (by rw [HB.out, ← HOK.out, if_pos rfl, ← y7]; congr 1)
    have v0 : 0 ≤ (f + 1074) * 4503599627370496 + y := by omega
    have v1 : (f + 1074) * 4503599627370496 + y < 9223372036854775808 := by omega
    clear y1 y2 y7
    go_wp2_with fail
    refine (signed64 ((f + 1074) * 4503599627370496 + y) ng _ v0 v1).mono ?_
    rintro x w3 ⟨rfl, hb3⟩
    go_wp2
    go_ret2
    exact ⟨ret_ub HB'.out.symm HO'.out.symm, (by repeat (first | exact bz0 _ _ | refine bz1 ?_ | refine bz2 ?_ _ | refine bz3 ?_ _ | refine bz4 ?_ hb3 | refine bz4 ?_ hb2 | refine bz4 ?_ hb1 | refine bz5 ?_ _ | refine bz6 ?_ _ | refine bz7 ?_ hb3 | refine bz7 ?_ hb2 | refine bz7 ?_ hb1))⟩
end Go.Proofs.YtkfjmcdniohljaaGreatDoor
