/-
  What is needed of CU.
-/
import Derived.Test.YtpalbhkihheogaaDoorC33
set_option maxHeartbeats 16000000
set_option maxRecDepth 1000000
namespace Go.Proofs.YtpalbhkihheogaaDoor
set_option linter.unusedVariables false
set_option linter.unusedSimpArgs false
open Go.RowKit Go.Deep
namespace Fd
theorem uf_par (L q : Nat) (hL : 1 < L) (Q : Int) (y : Int) (y0 : 0 ≤ y) : Nm.sh (parM L y).toNat (parE L Q y - Q) = uf L y.toNat := by
  obtain ⟨n, rfl⟩ := Int.eq_ofNat_of_zero_le y0
  unfold parM parE uf Nm.sh
  rw [show ((n : Int) / (L : Int)) = ((n / L : Nat) : Int) by rfl, show ((n : Int) % (L : Int)) = ((n % L : Nat) : Int) by rfl]
  by_cases h : n < L
  · rw [Nat.div_eq_of_lt h, Nat.mod_eq_of_lt h]
    have e : (((0 : Nat) : Int) = 0) = True := eq_true rfl
    simp only [e, if_true, Int.sub_self, Int.toNat_natCast]
    rw [if_pos h, if_neg (by decide)]
    simp
  · have hq : 1 ≤ n / L := Nat.div_pos (by omega) (by omega)
    have e : ¬ (((n / L : Nat) : Int) = 0) := by omega
    rw [if_neg e, if_neg e, if_neg (by omega), if_neg (by omega)]
    have e1 : (((n % L : Nat) : Int) + (L : Int)).toNat = n % L + L := by omega
    have e2 : (Q + ((n / L : Nat) : Int) - 1 - Q).toNat = n / L - 1 := by omega
    rw [e1, e2, Int.toNat_natCast]
theorem wcmp_int {x y : Int} (hx : (Nm.wl x).length ≤ 200) (hy : (Nm.wl y).length ≤ 200) : wcmp (Nm.wn x) (Nm.wn y) (Nm.wl x) (Nm.wl y) = cmpI x y := by
  rw [wcmp_yes (okB_wl hx) (okB_wl hy)]
  unfold Nm.wl Nm.wn
  rw [cmpL_nat, cmpL_nat]
  unfold Nm.cmp2 cmpI
  by_cases h1 : x < 0 <;> by_cases h2 : y < 0 <;> simp only [h1, h2, decide_true, decide_false, Bool.and_true, Bool.and_false, Bool.and_self, if_true, if_false, Bool.false_eq_true] <;> (repeat' split) <;> omega
theorem cls_zero32 {x : Int} (h0 : 0 ≤ x) (h1 : x < 4294967296) : (cls 32 x == 0) = decide (x % 2147483648 = 0) := by
  rw [cls32 h1]
  unfold clsY
  by_cases h : x % 2147483648 = 0
  · rw [if_pos h, h]; rfl
  · rw [if_neg h]
    have : decide (x % 2147483648 = 0) = false := by simp; exact h
    rw [this]
    split
    · rfl
    · split
      · rfl
      · split
        · rfl
        · split <;> rfl
theorem un_uf32 {x : Int} (h0 : 0 ≤ x) (h1 : x < 4294967296) (hf : finB 32 x = true) : unI 32 x = if x < 2147483648 then ((uf 8388608 x.toNat : Nat) : Int) else -((uf 8388608 (x - 2147483648).toNat : Nat) : Int) := by
  have hu := uf_par 8388608 0 (by omega) (-149) (x % 2147483648) (by omega)
  have e1 : pM 32 x = parM 8388608 (x % 2147483648) := by unfold pM; rw [hf]; simp
  have e2 : pE 32 x = parE 8388608 (-149) (x % 2147483648) := by unfold pE; rw [hf]; simp
  have e3 : pS 32 x = sigB 32 x := by unfold pS; rw [hf]; rfl
  have e4 : unQ 32 = -149 := by decide
  have ax := ab32 h0 h1
  unfold unI
  rw [if_pos hf, e1, e2, e3, e4]
  have hu' : Nm.sh (parM 8388608 (x % 2147483648)).toNat (parE 8388608 (-149) (x % 2147483648) - -149) = uf 8388608 (x % 2147483648).toNat := hu
  rw [hu']
  unfold sigB
  rw [ax]
  by_cases h : x < 2147483648
  · rw [if_pos h, if_pos h, show x % 2147483648 = x by omega]
    rw [if_neg (by simp)]
  · rw [if_neg h, if_neg h, show x % 2147483648 = x - 2147483648 by omega]
    have hne : (x != x - 2147483648) = true := by simp; omega
    rw [if_pos hne]
theorem cmp_un32 {a b : Int} (a0 : 0 ≤ a) (a1 : a < 4294967296) (b0 : 0 ≤ b) (b1 : b < 4294967296) (fa : finB 32 a = true) (fb : finB 32 b = true) : cmpI (unI 32 a) (unI 32 b) = cmpF 32 a b := by
  have na : numB 32 a = true := by unfold finB at fa; unfold numB; simp at fa ⊢; omega
  have nb : numB 32 b = true := by unfold finB at fb; unfold numB; simp at fb ⊢; omega
  have za := (cls_zero32 a0 a1)
  have zb := (cls_zero32 b0 b1)
  unfold cmpF
  rw [na, nb, za, zb, un_uf32 a0 a1 fa, un_uf32 b0 b1 fb, od32 a0 a1, od32 b0 b1]
  have L1 : ∀ x y : Nat, x < y → uf 8388608 x < uf 8388608 y := fun x y h => uf_lt 8388608 (by omega) h
  have Z := uf_zero 8388608 (by omega)
  simp only [Bool.and_self, if_pos]
  by_cases ha : a < 2147483648
  · by_cases hb : b < 2147483648
    · rw [if_pos ha, if_pos hb, if_pos ha, if_pos hb]
      rcases Nat.lt_trichotomy a.toNat b.toNat with h | h | h
      · have := L1 _ _ h
        have e : ¬ (a % 2147483648 = 0 ∧ b % 2147483648 = 0) := by omega
        rw [show (decide (a % 2147483648 = 0) && decide (b % 2147483648 = 0)) = false by simp; omega]
        unfold cmpI; rw [if_pos (by omega), if_neg (by simp), if_pos (by omega)]
      · rw [h]
        have e : a = b := by omega
        subst e
        unfold cmpI; simp
      · have := L1 _ _ h
        rw [show (decide (a % 2147483648 = 0) && decide (b % 2147483648 = 0)) = false by simp; omega]
        unfold cmpI; rw [if_neg (by omega), if_pos (by omega), if_neg (by simp), if_neg (by omega), if_pos (by omega)]
    · rw [if_pos ha, if_neg hb, if_pos ha, if_neg hb]
      by_cases hz : a % 2147483648 = 0 ∧ b % 2147483648 = 0
      · rw [show a = 0 by omega, show b - 2147483648 = 0 by omega]
        rw [show (decide ((0 : Int) % 2147483648 = 0) && decide (b % 2147483648 = 0)) = true by simp; omega]
        have Z' : uf 8388608 (0 : Int).toNat = 0 := Z
        rw [Z', if_pos rfl]; rfl
      · rw [show (decide (a % 2147483648 = 0) && decide (b % 2147483648 = 0)) = false by simp; omega]
        rw [if_neg (by simp)]
        have h1 : 0 < uf 8388608 a.toNat ∨ 0 < uf 8388608 (b - 2147483648).toNat := by
          by_cases h : 0 < a.toNat
          · have := L1 _ _ h; omega
          · have h' : 0 < (b - 2147483648).toNat := by omega
            have := L1 _ _ h'; omega
        unfold cmpI; rw [if_neg (by omega), if_pos (by omega), if_neg (by omega), if_pos (by omega)]
  · by_cases hb : b < 2147483648
    · rw [if_neg ha, if_pos hb, if_neg ha, if_pos hb]
      by_cases hz : a % 2147483648 = 0 ∧ b % 2147483648 = 0
      · rw [show b = 0 by omega, show a - 2147483648 = 0 by omega]
        rw [show (decide (a % 2147483648 = 0) && decide ((0 : Int) % 2147483648 = 0)) = true by simp; omega]
        have Z' : uf 8388608 (0 : Int).toNat = 0 := Z
        rw [Z', if_pos rfl]; rfl
      · rw [show (decide (a % 2147483648 = 0) && decide (b % 2147483648 = 0)) = false by simp; omega]
        rw [if_neg (by simp)]
        have h1 : 0 < uf 8388608 b.toNat ∨ 0 < uf 8388608 (a - 2147483648).toNat := by
          by_cases h : 0 < b.toNat
          · have := L1 _ _ h; omega
          · have h' : 0 < (a - 2147483648).toNat := by omega
            have := L1 _ _ h'; omega
        unfold cmpI; rw [if_pos (by omega), if_pos (by omega)]
    · rw [if_neg ha, if_neg hb, if_neg ha, if_neg hb]
      rcases Nat.lt_trichotomy (a - 2147483648).toNat (b - 2147483648).toNat with h | h | h
      · have := L1 _ _ h
        rw [show (decide (a % 2147483648 = 0) && decide (b % 2147483648 = 0)) = false by simp; omega]
        unfold cmpI; rw [if_neg (by omega), if_pos (by omega), if_neg (by simp), if_neg (by omega), if_pos (by omega)]
      · rw [h]
        have e : a = b := by omega
        subst e
        unfold cmpI; simp
      · have := L1 _ _ h
        rw [show (decide (a % 2147483648 = 0) && decide (b % 2147483648 = 0)) = false by simp; omega]
        unfold cmpI; rw [if_pos (by omega), if_neg (by simp), if_pos (by omega)]
theorem cm32 {a b : Int} (a0 : 0 ≤ a) (a1 : a < 4294967296) (b0 : 0 ≤ b) (b1 : b < 4294967296) (k : Int) (hk : k = cmpF 32 a b) (h2 : k ≠ 2) :
    okF 32 a = true ∧ okF 32 b = true ∧ (((ordI 32 a == ordI 32 b) != (a == b)) = false) ∧ cmpF 32 b a = -k ∧ (k = 0 ∨ (k = -1 ∧ ordI 32 a < ordI 32 b) ∨ (k = 1 ∧ ordI 32 b < ordI 32 a)) ∧ (finB 32 a = true → finB 32 b = true → cmpI (unI 32 a) (unI 32 b) = k) := by
  have hn : (numB 32 a && numB 32 b) = true := by
    cases h : (numB 32 a && numB 32 b)
    · unfold cmpF at hk; rw [h] at hk; simp at hk; omega
    · rfl
  have na : numB 32 a = true := by simp at hn; exact hn.1
  have nb : numB 32 b = true := by simp at hn; exact hn.2
  refine ⟨okF32 a1, okF32 b1, ?_, ?_, ?_, fun fa fb => by rw [hk]; exact cmp_un32 a0 a1 b0 b1 fa fb⟩
  · rw [od32 a0 a1, od32 b0 b1]
    by_cases h : a = b
    · subst h; simp
    · have e1 : (a == b) = false := by simp; exact h
      rw [e1]
      have : ((if a < 2147483648 then a else 2147483648 - 1 - a) == (if b < 2147483648 then b else 2147483648 - 1 - b)) = false := by
        simp only [beq_eq_false_iff_ne, ne_eq]
        split <;> split <;> omega
      rw [this]; rfl
  · rw [hk]; unfold cmpF
    rw [na, nb, Bool.and_comm (cls 32 b == 0)]
    simp only [Bool.and_self, if_pos]
    split
    · rfl
    · unfold cmpI; split <;> split <;> first | rfl | omega
  · rw [hk]; unfold cmpF
    rw [na, nb]
    simp only [Bool.and_self, if_pos]
    split
    · left; rfl
    · unfold cmpI
      split
      · right; left; exact ⟨rfl, by assumption⟩
      · split
        · right; right; exact ⟨rfl, by assumption⟩
        · left; rfl
theorem cls_zero64 {x : Int} (h0 : 0 ≤ x) (h1 : x < 18446744073709551616) : (cls 64 x == 0) = decide (x % 9223372036854775808 = 0) := by
  rw [cls64]
  unfold clsY
  by_cases h : x % 9223372036854775808 = 0
  · rw [if_pos h, h]; rfl
  · rw [if_neg h]
    have : decide (x % 9223372036854775808 = 0) = false := by simp; exact h
    rw [this]
    split
    · rfl
    · split
      · rfl
      · split
        · rfl
        · split <;> rfl
theorem un_uf64 {x : Int} (h0 : 0 ≤ x) (h1 : x < 18446744073709551616) (hf : finB 64 x = true) : unI 64 x = if x < 9223372036854775808 then ((uf 4503599627370496 x.toNat : Nat) : Int) else -((uf 4503599627370496 (x - 9223372036854775808).toNat : Nat) : Int) := by
  have hu := uf_par 4503599627370496 0 (by omega) (-1074) (x % 9223372036854775808) (by omega)
  have e1 : pM 64 x = parM 4503599627370496 (x % 9223372036854775808) := by unfold pM; rw [hf]; simp
  have e2 : pE 64 x = parE 4503599627370496 (-1074) (x % 9223372036854775808) := by unfold pE; rw [hf]; simp
  have e3 : pS 64 x = sigB 64 x := by unfold pS; rw [hf]; rfl
  have e4 : unQ 64 = -1074 := by decide
  have ax := ab64 h0 h1
  unfold unI
  rw [if_pos hf, e1, e2, e3, e4]
  have hu' : Nm.sh (parM 4503599627370496 (x % 9223372036854775808)).toNat (parE 4503599627370496 (-1074) (x % 9223372036854775808) - -1074) = uf 4503599627370496 (x % 9223372036854775808).toNat := hu
  rw [hu']
  unfold sigB
  rw [ax]
  by_cases h : x < 9223372036854775808
  · rw [if_pos h, if_pos h, show x % 9223372036854775808 = x by omega]
    rw [if_neg (by simp)]
  · rw [if_neg h, if_neg h, show x % 9223372036854775808 = x - 9223372036854775808 by omega]
    have hne : (x != x - 9223372036854775808) = true := by simp; omega
    rw [if_pos hne]
theorem cmp_un64 {a b : Int} (a0 : 0 ≤ a) (a1 : a < 18446744073709551616) (b0 : 0 ≤ b) (b1 : b < 18446744073709551616) (fa : finB 64 a = true) (fb : finB 64 b = true) : cmpI (unI 64 a) (unI 64 b) = cmpF 64 a b := by
  have na : numB 64 a = true := by unfold finB at fa; unfold numB; simp at fa ⊢; omega
  have nb : numB 64 b = true := by unfold finB at fb; unfold numB; simp at fb ⊢; omega
  have za := (cls_zero64 a0 a1)
  have zb := (cls_zero64 b0 b1)
  unfold cmpF
  rw [na, nb, za, zb, un_uf64 a0 a1 fa, un_uf64 b0 b1 fb, od64 a0 a1, od64 b0 b1]
  have L1 : ∀ x y : Nat, x < y → uf 4503599627370496 x < uf 4503599627370496 y := fun x y h => uf_lt 4503599627370496 (by omega) h
  have Z := uf_zero 4503599627370496 (by omega)
  simp only [Bool.and_self, if_pos]
  by_cases ha : a < 9223372036854775808
  · by_cases hb : b < 9223372036854775808
    · rw [if_pos ha, if_pos hb, if_pos ha, if_pos hb]
      rcases Nat.lt_trichotomy a.toNat b.toNat with h | h | h
      · have := L1 _ _ h
        have e : ¬ (a % 9223372036854775808 = 0 ∧ b % 9223372036854775808 = 0) := by omega
        rw [show (decide (a % 9223372036854775808 = 0) && decide (b % 9223372036854775808 = 0)) = false by simp; omega]
        unfold cmpI; rw [if_pos (by omega), if_neg (by simp), if_pos (by omega)]
      · rw [h]
        have e : a = b := by omega
        subst e
        unfold cmpI; simp
      · have := L1 _ _ h
        rw [show (decide (a % 9223372036854775808 = 0) && decide (b % 9223372036854775808 = 0)) = false by simp; omega]
        unfold cmpI; rw [if_neg (by omega), if_pos (by omega), if_neg (by simp), if_neg (by omega), if_pos (by omega)]
    · rw [if_pos ha, if_neg hb, if_pos ha, if_neg hb]
      by_cases hz : a % 9223372036854775808 = 0 ∧ b % 9223372036854775808 = 0
      · rw [show a = 0 by omega, show b - 9223372036854775808 = 0 by omega]
        rw [show (decide ((0 : Int) % 9223372036854775808 = 0) && decide (b % 9223372036854775808 = 0)) = true by simp; omega]
        have Z' : uf 4503599627370496 (0 : Int).toNat = 0 := Z
        rw [Z', if_pos rfl]; rfl
      · rw [show (decide (a % 9223372036854775808 = 0) && decide (b % 9223372036854775808 = 0)) = false by simp; omega]
        rw [if_neg (by simp)]
        have h1 : 0 < uf 4503599627370496 a.toNat ∨ 0 < uf 4503599627370496 (b - 9223372036854775808).toNat := by
          by_cases h : 0 < a.toNat
          · have := L1 _ _ h; omega
          · have h' : 0 < (b - 9223372036854775808).toNat := by omega
            have := L1 _ _ h'; omega
        unfold cmpI; rw [if_neg (by omega), if_pos (by omega), if_neg (by omega), if_pos (by omega)]
  · by_cases hb : b < 9223372036854775808
    · rw [if_neg ha, if_pos hb, if_neg ha, if_pos hb]
      by_cases hz : a % 9223372036854775808 = 0 ∧ b % 9223372036854775808 = 0
      · rw [show b = 0 by omega, show a - 9223372036854775808 = 0 by omega]
        rw [show (decide (a % 9223372036854775808 = 0) && decide ((0 : Int) % 9223372036854775808 = 0)) = true by simp; omega]
        have Z' : uf 4503599627370496 (0 : Int).toNat = 0 := Z
        rw [Z', if_pos rfl]; rfl
      · rw [show (decide (a % 9223372036854775808 = 0) && decide (b % 9223372036854775808 = 0)) = false by simp; omega]
        rw [if_neg (by simp)]
        have h1 : 0 < uf 4503599627370496 b.toNat ∨ 0 < uf 4503599627370496 (a - 9223372036854775808).toNat := by
          by_cases h : 0 < b.toNat
          · have := L1 _ _ h; omega
          · have h' : 0 < (a - 9223372036854775808).toNat := by omega
            have := L1 _ _ h'; omega
        unfold cmpI; rw [if_pos (by omega), if_pos (by omega)]
    · rw [if_neg ha, if_neg hb, if_neg ha, if_neg hb]
      rcases Nat.lt_trichotomy (a - 9223372036854775808).toNat (b - 9223372036854775808).toNat with h | h | h
      · have := L1 _ _ h
        rw [show (decide (a % 9223372036854775808 = 0) && decide (b % 9223372036854775808 = 0)) = false by simp; omega]
        unfold cmpI; rw [if_neg (by omega), if_pos (by omega), if_neg (by simp), if_neg (by omega), if_pos (by omega)]
      · rw [h]
        have e : a = b := by omega
        subst e
        unfold cmpI; simp
      · have := L1 _ _ h
        rw [show (decide (a % 9223372036854775808 = 0) && decide (b % 9223372036854775808 = 0)) = false by simp; omega]
        unfold cmpI; rw [if_pos (by omega), if_neg (by simp), if_pos (by omega)]
theorem cm64 {a b : Int} (a0 : 0 ≤ a) (a1 : a < 18446744073709551616) (b0 : 0 ≤ b) (b1 : b < 18446744073709551616) (k : Int) (hk : k = cmpF 64 a b) (h2 : k ≠ 2) :
    okF 64 a = true ∧ okF 64 b = true ∧ (((ordI 64 a == ordI 64 b) != (a == b)) = false) ∧ cmpF 64 b a = -k ∧ (k = 0 ∨ (k = -1 ∧ ordI 64 a < ordI 64 b) ∨ (k = 1 ∧ ordI 64 b < ordI 64 a)) ∧ (finB 64 a = true → finB 64 b = true → cmpI (unI 64 a) (unI 64 b) = k) := by
  have hn : (numB 64 a && numB 64 b) = true := by
    cases h : (numB 64 a && numB 64 b)
    · unfold cmpF at hk; rw [h] at hk; simp at hk; omega
    · rfl
  have na : numB 64 a = true := by simp at hn; exact hn.1
  have nb : numB 64 b = true := by simp at hn; exact hn.2
  refine ⟨okF64, okF64, ?_, ?_, ?_, fun fa fb => by rw [hk]; exact cmp_un64 a0 a1 b0 b1 fa fb⟩
  · rw [od64 a0 a1, od64 b0 b1]
    by_cases h : a = b
    · subst h; simp
    · have e1 : (a == b) = false := by simp; exact h
      rw [e1]
      have : ((if a < 9223372036854775808 then a else 9223372036854775808 - 1 - a) == (if b < 9223372036854775808 then b else 9223372036854775808 - 1 - b)) = false := by
        simp only [beq_eq_false_iff_ne, ne_eq]
        split <;> split <;> omega
      rw [this]; rfl
  · rw [hk]; unfold cmpF
    rw [na, nb, Bool.and_comm (cls 64 b == 0)]
    simp only [Bool.and_self, if_pos]
    split
    · rfl
    · unfold cmpI; split <;> split <;> first | rfl | omega
  · rw [hk]; unfold cmpF
    rw [na, nb]
    simp only [Bool.and_self, if_pos]
    split
    · left; rfl
    · unfold cmpI
      split
      · right; left; exact ⟨rfl, by assumption⟩
      · split
        · right; right; exact ⟨rfl, by assumption⟩
        · left; rfl
end Fd
end Go.Proofs.YtpalbhkihheogaaDoor
