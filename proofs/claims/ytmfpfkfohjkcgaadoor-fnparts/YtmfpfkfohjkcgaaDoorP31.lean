/-
  What is needed of CU, UB, UC, PF.
-/
import Derived.Test.YtmfpfkfohjkcgaaDoorP29
set_option maxHeartbeats 16000000
set_option maxRecDepth 1000000
namespace Go.Proofs.YtmfpfkfohjkcgaaDoor
set_option linter.unusedVariables false
set_option linter.unusedSimpArgs false
open Go.RowKit Go.Deep
namespace Fd
theorem uf_par (L q : Nat) (hL : 1 < L) (Q : Int) (y : Int) (y0 : 0 ≤ y) : Nm.sh (parM L y).toNat (parE L Q y - Q) = uf L y.toNat := by
  obtain ⟨n, rfl⟩ := Int.eq_ofNat_of_zero_le y0
  unfold parM parE uf Nm.sh
  rw [show ((n : Int) / (L : Int)) = ((n / L : Nat) : Int) by rfl, show ((n : Int) % (L : Int)) = ((n % L : Nat) : Int) by rfl]
  by_cases h : n < L
  · rw [Nat.div_eq_of_lt h, Nat.mod_eq_of_lt h]
    have e : (((0 : Nat) : Int) = 0) = True := eq_true rfl
    simp only [e, if_true, Int.sub_self, Int.toNat_natCast]
    rw [if_pos h, if_neg (by decide)]
    simp
  · have hq : 1 ≤ n / L := Nat.div_pos (by omega) (by omega)
    have e : ¬ (((n / L : Nat) : Int) = 0) := by omega
    rw [if_neg e, if_neg e, if_neg (by omega), if_neg (by omega)]
    have e1 : (((n % L : Nat) : Int) + (L : Int)).toNat = n % L + L := by omega
    have e2 : (Q + ((n / L : Nat) : Int) - 1 - Q).toNat = n / L - 1 := by omega
    rw [e1, e2, Int.toNat_natCast]
theorem un_uf32 {x : Int} (h0 : 0 ≤ x) (h1 : x < 4294967296) (hf : finB 32 x = true) : unI 32 x = if x < 2147483648 then ((uf 8388608 x.toNat : Nat) : Int) else -((uf 8388608 (x - 2147483648).toNat : Nat) : Int) := by
  have hu := uf_par 8388608 0 (by omega) (-149) (x % 2147483648) (by omega)
  have e1 : pM 32 x = parM 8388608 (x % 2147483648) := by unfold pM; rw [hf]; simp
  have e2 : pE 32 x = parE 8388608 (-149) (x % 2147483648) := by unfold pE; rw [hf]; simp
  have e3 : pS 32 x = sigB 32 x := by unfold pS; rw [hf]; rfl
  have e4 : unQ 32 = -149 := by decide
  have ax := ab32 h0 h1
  unfold unI
  rw [if_pos hf, e1, e2, e3, e4]
  have hu' : Nm.sh (parM 8388608 (x % 2147483648)).toNat (parE 8388608 (-149) (x % 2147483648) - -149) = uf 8388608 (x % 2147483648).toNat := hu
  rw [hu']
  unfold sigB
  rw [ax]
  by_cases h : x < 2147483648
  · rw [if_pos h, if_pos h, show x % 2147483648 = x by omega]
    rw [if_neg (by simp)]
  · rw [if_neg h, if_neg h, show x % 2147483648 = x - 2147483648 by omega]
    have hne : (x != x - 2147483648) = true := by simp; omega
    rw [if_pos hne]
theorem un_uf64 {x : Int} (h0 : 0 ≤ x) (h1 : x < 18446744073709551616) (hf : finB 64 x = true) : unI 64 x = if x < 9223372036854775808 then ((uf 4503599627370496 x.toNat : Nat) : Int) else -((uf 4503599627370496 (x - 9223372036854775808).toNat : Nat) : Int) := by
  have hu := uf_par 4503599627370496 0 (by omega) (-1074) (x % 9223372036854775808) (by omega)
  have e1 : pM 64 x = parM 4503599627370496 (x % 9223372036854775808) := by unfold pM; rw [hf]; simp
  have e2 : pE 64 x = parE 4503599627370496 (-1074) (x % 9223372036854775808) := by unfold pE; rw [hf]; simp
  have e3 : pS 64 x = sigB 64 x := by unfold pS; rw [hf]; rfl
  have e4 : unQ 64 = -1074 := by decide
  have ax := ab64 h0 h1
  unfold unI
  rw [if_pos hf, e1, e2, e3, e4]
  have hu' : Nm.sh (parM 4503599627370496 (x % 9223372036854775808)).toNat (parE 4503599627370496 (-1074) (x % 9223372036854775808) - -1074) = uf 4503599627370496 (x % 9223372036854775808).toNat := hu
  rw [hu']
  unfold sigB
  rw [ax]
  by_cases h : x < 9223372036854775808
  · rw [if_pos h, if_pos h, show x % 9223372036854775808 = x by omega]
    rw [if_neg (by simp)]
  · rw [if_neg h, if_neg h, show x % 9223372036854775808 = x - 9223372036854775808 by omega]
    have hne : (x != x - 9223372036854775808) = true := by simp; omega
    rw [if_pos hne]
theorem un_len (fm x : Int) (hf : finB fm x = true) : (Nm.wl (unI fm x)).length ≤ 200 := by
  obtain ⟨G, L, z, E, Q, hz, hE, hQ, z0, z1, e0, e1, q0, q1, d0, d1, hG, hL, hd, hl2, hsh, hok, hl200⟩ := un_parts hf
  exact hl200
theorem fin_lt32 {x : Int} (h0 : 0 ≤ x) (h1 : x < 4294967296) (hf : finB 32 x = true) : x % 2147483648 < 2139095040 := by
  unfold finB at hf
  rw [cls32 h1] at hf
  unfold clsY at hf
  simp only [decide_eq_true_eq] at hf
  repeat' split at hf
  all_goals omega
theorem fin_lt64 {x : Int} (h0 : 0 ≤ x) (h1 : x < 18446744073709551616) (hf : finB 64 x = true) : x % 9223372036854775808 < 9218868437227405312 := by
  unfold finB at hf
  rw [cls64 ] at hf
  unfold clsY at hf
  simp only [decide_eq_true_eq] at hf
  repeat' split at hf
  all_goals omega
theorem pM_uf32 {x : Int} (h0 : 0 ≤ x) (h1 : x < 4294967296) (hf : finB 32 x = true) :
    (pM 32 x).toNat * 2 ^ (pE 32 x - (-149)).toNat = uf 8388608 (x % 2147483648).toNat ∧ (-149) ≤ pE 32 x ∧ pE 32 x ≤ (-149) + 254 ∧ bitLen (pM 32 x).toNat ≤ 24 := by
  have hlt := fin_lt32 h0 h1 hf
  have hu : Nm.sh (parM 8388608 (x % 2147483648)).toNat (parE 8388608 (-149) (x % 2147483648) - (-149)) = uf 8388608 (x % 2147483648).toNat := uf_par 8388608 0 (by omega) (-149) (x % 2147483648) (by omega)
  have e1 : pM 32 x = parM 8388608 (x % 2147483648) := by unfold pM; rw [hf]; simp
  have e2 : pE 32 x = parE 8388608 (-149) (x % 2147483648) := by unfold pE; rw [hf]; simp
  have e3 : (-149) ≤ parE 8388608 (-149) (x % 2147483648) ∧ parE 8388608 (-149) (x % 2147483648) ≤ (-149) + 254 := by unfold parE; split <;> omega
  have e4 : (parM 8388608 (x % 2147483648)).toNat < 2 ^ 24 := by
    have := par_bd (L := 8388608) (y := x % 2147483648) (by omega) (by decide)
    have h2 : (2 : Nat) ^ 24 = 2 * 8388608 := by decide
    omega
  rw [e1, e2]
  refine ⟨?_, e3.1, e3.2, (Nm.bl_le_iff _ _).2 e4⟩
  rw [← hu]
  unfold Nm.sh
  rw [if_neg (by omega)]
theorem pM_uf64 {x : Int} (h0 : 0 ≤ x) (h1 : x < 18446744073709551616) (hf : finB 64 x = true) :
    (pM 64 x).toNat * 2 ^ (pE 64 x - (-1074)).toNat = uf 4503599627370496 (x % 9223372036854775808).toNat ∧ (-1074) ≤ pE 64 x ∧ pE 64 x ≤ (-1074) + 2046 ∧ bitLen (pM 64 x).toNat ≤ 53 := by
  have hlt := fin_lt64 h0 h1 hf
  have hu : Nm.sh (parM 4503599627370496 (x % 9223372036854775808)).toNat (parE 4503599627370496 (-1074) (x % 9223372036854775808) - (-1074)) = uf 4503599627370496 (x % 9223372036854775808).toNat := uf_par 4503599627370496 0 (by omega) (-1074) (x % 9223372036854775808) (by omega)
  have e1 : pM 64 x = parM 4503599627370496 (x % 9223372036854775808) := by unfold pM; rw [hf]; simp
  have e2 : pE 64 x = parE 4503599627370496 (-1074) (x % 9223372036854775808) := by unfold pE; rw [hf]; simp
  have e3 : (-1074) ≤ parE 4503599627370496 (-1074) (x % 9223372036854775808) ∧ parE 4503599627370496 (-1074) (x % 9223372036854775808) ≤ (-1074) + 2046 := by unfold parE; split <;> omega
  have e4 : (parM 4503599627370496 (x % 9223372036854775808)).toNat < 2 ^ 53 := by
    have := par_bd (L := 4503599627370496) (y := x % 9223372036854775808) (by omega) (by decide)
    have h2 : (2 : Nat) ^ 53 = 2 * 4503599627370496 := by decide
    omega
  rw [e1, e2]
  refine ⟨?_, e3.1, e3.2, (Nm.bl_le_iff _ _).2 e4⟩
  rw [← hu]
  unfold Nm.sh
  rw [if_neg (by omega)]
theorem sig32 {x : Int} (h0 : 0 ≤ x) (h1 : x < 4294967296) : sigB 32 x = decide (2147483648 ≤ x) := by
  unfold sigB
  rw [abs32 h1]
  by_cases h : 2147483648 ≤ x
  · rw [decide_eq_true h]; simp; omega
  · rw [decide_eq_false h]; simp; omega
theorem sig64 {x : Int} (h0 : 0 ≤ x) (h1 : x < 18446744073709551616) : sigB 64 x = decide (9223372036854775808 ≤ x) := by
  unfold sigB
  rw [abs64]
  by_cases h : 9223372036854775808 ≤ x
  · rw [decide_eq_true h]; simp; omega
  · rw [decide_eq_false h]; simp; omega
theorem fp_parts32 {x : Int} (h0 : 0 ≤ x) (h1 : x < 4294967296) (hf : finB 32 x = true) : fpO 24 (-149) 255 (pM 32 x) (pE 32 x) = true ∧ fpB 24 (-149) 255 2147483648 (pS 32 x) (pM 32 x) (pE 32 x) = x ∧
    (unI 32 x).natAbs = (pM 32 x).toNat * 2 ^ (pE 32 x - (-149)).toNat ∧ 0 ≤ pM 32 x ∧ (Nm.wn (unI 32 x) == pS 32 x || pM 32 x == 0) = true := by
  obtain ⟨p1, p2, p3, p4⟩ := pM_uf32 h0 h1 hf
  have hlt := fin_lt32 h0 h1 hf
  have hu := un_uf32 h0 h1 hf
  have hM := (pM_bd 32 x).1
  have hS : pS 32 x = decide (2147483648 ≤ x) := by unfold pS; rw [hf, if_pos rfl, sig32 h0 h1]
  obtain ⟨y, hy⟩ : ∃ y, y = (x % 2147483648).toNat := ⟨_, rfl⟩
  rw [← hy] at p1
  have hL : (2 : Nat) ^ (24 - 1) = 8388608 := by decide
  have hun : (unI 32 x).natAbs = uf 8388608 y := by
    rw [hu]
    split
    · rw [show x.toNat = y by omega]; omega
    · rw [show (x - 2147483648).toNat = y by omega]; omega
  have hO : fpO 24 (-149) 255 (pM 32 x) (pE 32 x) = true := by
    unfold fpO
    by_cases hz : pM 32 x = 0
    · simp [hz]; omega
    · have hm : (pM 32 x).toNat ≠ 0 := by omega
      have hy0 : y ≠ 0 := by
        intro h
        rw [h, uf_zero _ (by decide)] at p1
        exact Nat.mul_ne_zero hm (Nat.ne_of_gt (Nat.two_pow_pos _)) p1
      have hin := Nm.st_in_of (P := 24) (q := (-149)) (m := (pM 32 x).toNat) (e := pE 32 x) hm (Nat.le_of_lt ((Nm.bl_le_iff _ _).1 p4)) (by decide) p2
      have ho := Nm.st_o (P := 24) (q := (-149)) (ones := 255) (I := 2139095040) (m := (pM 32 x).toNat) (e := pE 32 x) hm hin (by decide) (by decide) (by decide) (by decide)
      rw [← Nm.stU_of hm p2, p1] at ho
      have hfl := uf_flo 24 2139095040 (by decide) y (by omega) (by decide)
      rw [hL, ho] at hfl
      have hst : Nm.stOk 24 (-149) 255 (pM 32 x).toNat (pE 32 x) = true := by unfold Nm.stOk; rw [hin, hfl]; rfl
      rw [hst]
      simp [hM]; omega
  refine ⟨hO, ?_, by rw [hun, ← p1], hM, ?_⟩
  · unfold fpB
    rw [hO, if_pos rfl]
    by_cases hz : pM 32 x = 0
    · rw [if_pos hz]
      have hy0 : y = 0 := by
        rw [hz] at p1
        by_cases h : y = 0
        · exact h
        · exfalso
          have := uf_ne 8388608 y (by decide) h
          rw [← p1] at this
          simp at this
      rw [hS]
      unfold sgn
      by_cases hc : 2147483648 ≤ x
      · rw [decide_eq_true hc, if_pos rfl]; omega
      · rw [decide_eq_false hc, if_neg (by decide)]; omega
    · rw [if_neg hz]
      have hm : (pM 32 x).toNat ≠ 0 := by omega
      rw [← Nm.stU_of hm p2, p1]
      have hb := uf_flb 24 (by decide) y
      rw [hL] at hb
      rw [hb, hS]
      unfold sgn
      by_cases hc : 2147483648 ≤ x
      · rw [decide_eq_true hc, if_pos rfl]; omega
      · rw [decide_eq_false hc, if_neg (by decide)]; omega
  · by_cases hz : pM 32 x = 0
    · simp [hz]
    · have hy0 : uf 8388608 y ≠ 0 := by
        rw [← p1]
        exact Nat.mul_ne_zero (by omega) (Nat.ne_of_gt (Nat.two_pow_pos _))
      have : Nm.wn (unI 32 x) = pS 32 x := by
        rw [hS, hu]
        unfold Nm.wn
        by_cases hc : 2147483648 ≤ x
        · rw [if_neg (by omega), decide_eq_true hc, show (x - 2147483648).toNat = y by omega]
          exact decide_eq_true (by omega)
        · rw [if_pos (by omega), decide_eq_false hc]
          exact decide_eq_false (by omega)
      rw [this]; simp
theorem fp_parts64 {x : Int} (h0 : 0 ≤ x) (h1 : x < 18446744073709551616) (hf : finB 64 x = true) : fpO 53 (-1074) 2047 (pM 64 x) (pE 64 x) = true ∧ fpB 53 (-1074) 2047 9223372036854775808 (pS 64 x) (pM 64 x) (pE 64 x) = x ∧
    (unI 64 x).natAbs = (pM 64 x).toNat * 2 ^ (pE 64 x - (-1074)).toNat ∧ 0 ≤ pM 64 x ∧ (Nm.wn (unI 64 x) == pS 64 x || pM 64 x == 0) = true := by
  obtain ⟨p1, p2, p3, p4⟩ := pM_uf64 h0 h1 hf
  have hlt := fin_lt64 h0 h1 hf
  have hu := un_uf64 h0 h1 hf
  have hM := (pM_bd 64 x).1
  have hS : pS 64 x = decide (9223372036854775808 ≤ x) := by unfold pS; rw [hf, if_pos rfl, sig64 h0 h1]
  obtain ⟨y, hy⟩ : ∃ y, y = (x % 9223372036854775808).toNat := ⟨_, rfl⟩
  rw [← hy] at p1
  have hL : (2 : Nat) ^ (53 - 1) = 4503599627370496 := by decide
  have hun : (unI 64 x).natAbs = uf 4503599627370496 y := by
    rw [hu]
    split
    · rw [show x.toNat = y by omega]; omega
    · rw [show (x - 9223372036854775808).toNat = y by omega]; omega
  have hO : fpO 53 (-1074) 2047 (pM 64 x) (pE 64 x) = true := by
    unfold fpO
    by_cases hz : pM 64 x = 0
    · simp [hz]; omega
    · have hm : (pM 64 x).toNat ≠ 0 := by omega
      have hy0 : y ≠ 0 := by
        intro h
        rw [h, uf_zero _ (by decide)] at p1
        exact Nat.mul_ne_zero hm (Nat.ne_of_gt (Nat.two_pow_pos _)) p1
      have hin := Nm.st_in_of (P := 53) (q := (-1074)) (m := (pM 64 x).toNat) (e := pE 64 x) hm (Nat.le_of_lt ((Nm.bl_le_iff _ _).1 p4)) (by decide) p2
      have ho := Nm.st_o (P := 53) (q := (-1074)) (ones := 2047) (I := 9218868437227405312) (m := (pM 64 x).toNat) (e := pE 64 x) hm hin (by decide) (by decide) (by decide) (by decide)
      rw [← Nm.stU_of hm p2, p1] at ho
      have hfl := uf_flo 53 9218868437227405312 (by decide) y (by omega) (by decide)
      rw [hL, ho] at hfl
      have hst : Nm.stOk 53 (-1074) 2047 (pM 64 x).toNat (pE 64 x) = true := by unfold Nm.stOk; rw [hin, hfl]; rfl
      rw [hst]
      simp [hM]; omega
  refine ⟨hO, ?_, by rw [hun, ← p1], hM, ?_⟩
  · unfold fpB
    rw [hO, if_pos rfl]
    by_cases hz : pM 64 x = 0
    · rw [if_pos hz]
      have hy0 : y = 0 := by
        rw [hz] at p1
        by_cases h : y = 0
        · exact h
        · exfalso
          have := uf_ne 4503599627370496 y (by decide) h
          rw [← p1] at this
          simp at this
      rw [hS]
      unfold sgn
      by_cases hc : 9223372036854775808 ≤ x
      · rw [decide_eq_true hc, if_pos rfl]; omega
      · rw [decide_eq_false hc, if_neg (by decide)]; omega
    · rw [if_neg hz]
      have hm : (pM 64 x).toNat ≠ 0 := by omega
      rw [← Nm.stU_of hm p2, p1]
      have hb := uf_flb 53 (by decide) y
      rw [hL] at hb
      rw [hb, hS]
      unfold sgn
      by_cases hc : 9223372036854775808 ≤ x
      · rw [decide_eq_true hc, if_pos rfl]; omega
      · rw [decide_eq_false hc, if_neg (by decide)]; omega
  · by_cases hz : pM 64 x = 0
    · simp [hz]
    · have hy0 : uf 4503599627370496 y ≠ 0 := by
        rw [← p1]
        exact Nat.mul_ne_zero (by omega) (Nat.ne_of_gt (Nat.two_pow_pos _))
      have : Nm.wn (unI 64 x) = pS 64 x := by
        rw [hS, hu]
        unfold Nm.wn
        by_cases hc : 9223372036854775808 ≤ x
        · rw [if_neg (by omega), decide_eq_true hc, show (x - 9223372036854775808).toNat = y by omega]
          exact decide_eq_true (by omega)
        · rw [if_pos (by omega), decide_eq_false hc]
          exact decide_eq_false (by omega)
      rw [this]; simp
end Fd
end Go.Proofs.YtmfpfkfohjkcgaaDoor
