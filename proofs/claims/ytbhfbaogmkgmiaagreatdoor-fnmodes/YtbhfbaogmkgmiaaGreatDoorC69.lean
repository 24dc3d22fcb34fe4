/-
  What is needed of AccF, RY.
-/
import Derived.Test.YtbhfbaogmkgmiaaGreatDoorC49
import Derived.Test.YtbhfbaogmkgmiaaGreatDoorC64
set_option maxHeartbeats 16000000
set_option maxRecDepth 1000000
namespace Go.Proofs.YtbhfbaogmkgmiaaGreatDoor
set_option linter.unusedVariables false
set_option linter.unusedSimpArgs false
open Go.RowKit Go.Deep
/-- The accumulator's zero value. -/
def A0 : Value := .agg #[.int .i64 0, .bool false, .slice none 0 0, .int .i64 0, .bool false, .bool false, .bool false, .bool false, .bool false]
namespace Fd
open Nm (rU rr rn rh rm flo flb)
/-- FnModes' numbers. -/
theorem mds32 (z e : Int) (hO : RdO 32 0 (Nm.wn z) (Nm.wl z) e = true) (d u t n a s : Int) (hd : d = RdB 32 3 (Nm.wn z) (Nm.wl z) e) (hu : u = RdB 32 2 (Nm.wn z) (Nm.wl z) e) (ht : t = RdB 32 1 (Nm.wn z) (Nm.wl z) e) (hn : n = RdB 32 0 (Nm.wn z) (Nm.wl z) e) (ha : a = RdB 32 4 (Nm.wn z) (Nm.wl z) e) (hs : s = RdB 32 5 (Nm.wn z) (Nm.wl z) e) :
    t = (if z < 0 then u else d) ∧ (n = a ∨ n = s) ∧ (a ≠ s → s = t ∧ (finB 32 a = true → finB 32 s = true → (offD 32 a z e).natAbs = (offD 32 s z e).natAbs)) := by
  by_cases hz : z = 0
  · have hl := (wl_zero' z).2 hz
    have r := fun m => (Rd_zero (fm := 32) (mode := m) (ng := Nm.wn z) (e := e) hl).1
    rw [r] at hd hu ht hn ha hs
    subst hd hu ht hn ha hs
    exact ⟨by split <;> rfl, .inl rfl, fun h => absurd rfl h⟩
  · obtain ⟨t3, t2, t1, -, tn⟩ := two_32 z e hO hz
    have ha0 : z.natAbs ≠ 0 := by omega
    obtain ⟨l1, l2, l3⟩ := lohi (P := 24) (q := (-149)) (I := 2139095040) (a := z.natAbs) (e := e) (by decide) ha0 (by decide) (by decide)
    have hL : (2 : Nat) ^ (24 - 1) = 8388608 := by decide
    have bo := fun h hr => both_off (P := 24) (q := (-149)) (I := 2139095040) (a := z.natAbs) (e := e) (by decide) ha0 h hr
    rw [hL] at bo
    have n0 := tn 0 (.inl rfl)
    have n4 := tn 4 (.inr (.inl rfl))
    have n5 := tn 5 (.inr (.inr rfl))
    rw [← hn] at n0
    rw [← ha] at n4
    rw [← hs] at n5
    rw [t3] at hd
    rw [t2] at hu
    rw [t1] at ht
    have olo := offD_mg32 z e l1
    have ohi := fun h => offD_mg32 z e (v := mgHi 24 (-149) 2139095040 z.natAbs e) h
    have hrc := Nm.rh_cases (P := 24) (q := (-149)) (a := z.natAbs) (e := e)
    have hrz : rr 24 (-149) z.natAbs e = 0 → rh 24 (-149) z.natAbs e = -1 := fun h => by
      rcases hrc with ⟨c, -⟩ | ⟨c, c2⟩ | ⟨c, c2⟩
      · exact c
      · have := Nat.two_pow_pos (rn 24 (-149) z.natAbs e).toNat; rw [h] at c2; omega
      · rw [h, Nat.mul_zero] at c2; exact absurd c2 (Nat.not_lt_zero _)
    obtain ⟨A, hA⟩ : ∃ A, A = mgLo 24 (-149) 2139095040 z.natAbs e := ⟨_, rfl⟩
    obtain ⟨B, hB⟩ : ∃ A, A = mgHi 24 (-149) 2139095040 z.natAbs e := ⟨_, rfl⟩
    obtain ⟨od, hod⟩ : ∃ od, od = (((rm 24 (-149) z.natAbs e : Nat) : Int) % 2 == 1) := ⟨_, rfl⟩
    obtain ⟨h, hh⟩ : ∃ h, h = rh 24 (-149) z.natAbs e := ⟨_, rfl⟩
    obtain ⟨F, hF⟩ : ∃ h, h = flo 24 2139095040 (rU 24 (-149) z.natAbs e false) := ⟨_, rfl⟩
    rw [← hA] at l1 l3 hd hu ht olo bo n0 n4 n5
    rw [← hB] at l2 l3 hd hu ohi bo n0 n4 n5
    rw [← hod, ← hh, ← hF] at n0 n4 n5
    rw [← hh] at hrc hrz
    have u0 : upB 0 od h (Nm.wn z) = (decide (0 < h) || (decide (h = 0) && od)) := by unfold upB; simp
    have u4 : upB 4 od h (Nm.wn z) = decide (0 ≤ h) := by unfold upB; simp
    have u5 : upB 5 od h (Nm.wn z) = decide (0 < h) := by unfold upB; simp
    rw [u0] at n0
    rw [u4] at n4
    rw [u5] at n5
    refine ⟨?_, ?_, ?_⟩
    · rw [ht, hd, hu]
      by_cases hc : z < 0
      · rw [if_pos hc, if_pos hc]
      · rw [if_neg hc, if_neg hc]
    · by_cases h0 : h = 0
      · subst h0
        cases od
        · right; rw [n0, n5]; simp
        · left; rw [n0, n4]; simp
      · left; rw [n0, n4, decide_eq_false h0, Bool.false_and, Bool.or_false]
        have : decide (0 < h) = decide (0 ≤ h) := by rw [Bool.eq_iff_iff]; simp only [decide_eq_true_eq]; omega
        rw [this]
    · intro hne
      have h0 : h = 0 := by
        rcases Int.lt_trichotomy h 0 with hc | hc | hc
        · exfalso; apply hne; rw [n4, n5, decide_eq_false (by omega), decide_eq_false (by omega)]
        · exact hc
        · exfalso; apply hne; rw [n4, n5, decide_eq_true (by omega), decide_eq_true (by omega)]
      rw [h0] at n4 n5
      simp at n4 n5
      have hr : rr 24 (-149) z.natAbs e ≠ 0 := fun hc => by have := hrz hc; omega
      have hh2 : 2 * rr 24 (-149) z.natAbs e = 2 ^ (rn 24 (-149) z.natAbs e).toNat := by
        rcases hrc with ⟨c, -⟩ | ⟨c, c2⟩ | ⟨c, -⟩
        · omega
        · exact c2
        · omega
      have hFt : F = true := by
        cases F
        · exfalso; apply hne; rw [n4, n5]; simp
        · rfl
      rw [hFt] at n5
      simp at n5
      refine ⟨by rw [n5, ht], fun fa fs => ?_⟩
      rw [n4] at fa ⊢
      rw [n5] at fs ⊢
      have hBv := fin_mg32 l2 _ fa
      obtain ⟨b1, b2, b3⟩ := bo hBv hr
      have o2 := ohi hBv
      have e1 : 2 ^ (rn 24 (-149) z.natAbs e).toNat - rr 24 (-149) z.natAbs e = rr 24 (-149) z.natAbs e := by omega
      rw [e1] at b2
      rw [olo, o2]
      split <;> omega
/-- FnModes' numbers. -/
theorem mds64 (z e : Int) (hO : RdO 64 0 (Nm.wn z) (Nm.wl z) e = true) (d u t n a s : Int) (hd : d = RdB 64 3 (Nm.wn z) (Nm.wl z) e) (hu : u = RdB 64 2 (Nm.wn z) (Nm.wl z) e) (ht : t = RdB 64 1 (Nm.wn z) (Nm.wl z) e) (hn : n = RdB 64 0 (Nm.wn z) (Nm.wl z) e) (ha : a = RdB 64 4 (Nm.wn z) (Nm.wl z) e) (hs : s = RdB 64 5 (Nm.wn z) (Nm.wl z) e) :
    t = (if z < 0 then u else d) ∧ (n = a ∨ n = s) ∧ (a ≠ s → s = t ∧ (finB 64 a = true → finB 64 s = true → (offD 64 a z e).natAbs = (offD 64 s z e).natAbs)) := by
  by_cases hz : z = 0
  · have hl := (wl_zero' z).2 hz
    have r := fun m => (Rd_zero (fm := 64) (mode := m) (ng := Nm.wn z) (e := e) hl).1
    rw [r] at hd hu ht hn ha hs
    subst hd hu ht hn ha hs
    exact ⟨by split <;> rfl, .inl rfl, fun h => absurd rfl h⟩
  · obtain ⟨t3, t2, t1, -, tn⟩ := two_64 z e hO hz
    have ha0 : z.natAbs ≠ 0 := by omega
    obtain ⟨l1, l2, l3⟩ := lohi (P := 53) (q := (-1074)) (I := 9218868437227405312) (a := z.natAbs) (e := e) (by decide) ha0 (by decide) (by decide)
    have hL : (2 : Nat) ^ (53 - 1) = 4503599627370496 := by decide
    have bo := fun h hr => both_off (P := 53) (q := (-1074)) (I := 9218868437227405312) (a := z.natAbs) (e := e) (by decide) ha0 h hr
    rw [hL] at bo
    have n0 := tn 0 (.inl rfl)
    have n4 := tn 4 (.inr (.inl rfl))
    have n5 := tn 5 (.inr (.inr rfl))
    rw [← hn] at n0
    rw [← ha] at n4
    rw [← hs] at n5
    rw [t3] at hd
    rw [t2] at hu
    rw [t1] at ht
    have olo := offD_mg64 z e l1
    have ohi := fun h => offD_mg64 z e (v := mgHi 53 (-1074) 9218868437227405312 z.natAbs e) h
    have hrc := Nm.rh_cases (P := 53) (q := (-1074)) (a := z.natAbs) (e := e)
    have hrz : rr 53 (-1074) z.natAbs e = 0 → rh 53 (-1074) z.natAbs e = -1 := fun h => by
      rcases hrc with ⟨c, -⟩ | ⟨c, c2⟩ | ⟨c, c2⟩
      · exact c
      · have := Nat.two_pow_pos (rn 53 (-1074) z.natAbs e).toNat; rw [h] at c2; omega
      · rw [h, Nat.mul_zero] at c2; exact absurd c2 (Nat.not_lt_zero _)
    obtain ⟨A, hA⟩ : ∃ A, A = mgLo 53 (-1074) 9218868437227405312 z.natAbs e := ⟨_, rfl⟩
    obtain ⟨B, hB⟩ : ∃ A, A = mgHi 53 (-1074) 9218868437227405312 z.natAbs e := ⟨_, rfl⟩
    obtain ⟨od, hod⟩ : ∃ od, od = (((rm 53 (-1074) z.natAbs e : Nat) : Int) % 2 == 1) := ⟨_, rfl⟩
    obtain ⟨h, hh⟩ : ∃ h, h = rh 53 (-1074) z.natAbs e := ⟨_, rfl⟩
    obtain ⟨F, hF⟩ : ∃ h, h = flo 53 9218868437227405312 (rU 53 (-1074) z.natAbs e false) := ⟨_, rfl⟩
    rw [← hA] at l1 l3 hd hu ht olo bo n0 n4 n5
    rw [← hB] at l2 l3 hd hu ohi bo n0 n4 n5
    rw [← hod, ← hh, ← hF] at n0 n4 n5
    rw [← hh] at hrc hrz
    have u0 : upB 0 od h (Nm.wn z) = (decide (0 < h) || (decide (h = 0) && od)) := by unfold upB; simp
    have u4 : upB 4 od h (Nm.wn z) = decide (0 ≤ h) := by unfold upB; simp
    have u5 : upB 5 od h (Nm.wn z) = decide (0 < h) := by unfold upB; simp
    rw [u0] at n0
    rw [u4] at n4
    rw [u5] at n5
    refine ⟨?_, ?_, ?_⟩
    · rw [ht, hd, hu]
      by_cases hc : z < 0
      · rw [if_pos hc, if_pos hc]
      · rw [if_neg hc, if_neg hc]
    · by_cases h0 : h = 0
      · subst h0
        cases od
        · right; rw [n0, n5]; simp
        · left; rw [n0, n4]; simp
      · left; rw [n0, n4, decide_eq_false h0, Bool.false_and, Bool.or_false]
        have : decide (0 < h) = decide (0 ≤ h) := by rw [Bool.eq_iff_iff]; simp only [decide_eq_true_eq]; omega
        rw [this]
    · intro hne
      have h0 : h = 0 := by
        rcases Int.lt_trichotomy h 0 with hc | hc | hc
        · exfalso; apply hne; rw [n4, n5, decide_eq_false (by omega), decide_eq_false (by omega)]
        · exact hc
        · exfalso; apply hne; rw [n4, n5, decide_eq_true (by omega), decide_eq_true (by omega)]
      rw [h0] at n4 n5
      simp at n4 n5
      have hr : rr 53 (-1074) z.natAbs e ≠ 0 := fun hc => by have := hrz hc; omega
      have hh2 : 2 * rr 53 (-1074) z.natAbs e = 2 ^ (rn 53 (-1074) z.natAbs e).toNat := by
        rcases hrc with ⟨c, -⟩ | ⟨c, c2⟩ | ⟨c, -⟩
        · omega
        · exact c2
        · omega
      have hFt : F = true := by
        cases F
        · exfalso; apply hne; rw [n4, n5]; simp
        · rfl
      rw [hFt] at n5
      simp at n5
      refine ⟨by rw [n5, ht], fun fa fs => ?_⟩
      rw [n4] at fa ⊢
      rw [n5] at fs ⊢
      have hBv := fin_mg64 l2 _ fa
      obtain ⟨b1, b2, b3⟩ := bo hBv hr
      have o2 := ohi hBv
      have e1 : 2 ^ (rn 53 (-1074) z.natAbs e).toNat - rr 53 (-1074) z.natAbs e = rr 53 (-1074) z.natAbs e := by omega
      rw [e1] at b2
      rw [olo, o2]
      split <;> omega
end Fd
end Go.Proofs.YtbhfbaogmkgmiaaGreatDoor
