/-
  How many splits and runs there are: by the program and by the specification; the law.
-/
import Derived.Test.YtklpajphbkokcaaModeA
namespace Go.Proofs.Ytklpajphbkokcaa
set_option linter.unusedVariables false
set_option linter.unusedSimpArgs false
open Go.RowKit
/-- Splits and runs till none of n places is left, with the grain g. -/
def tcN (g : Nat) (n : Nat) : Nat := if h : n ≤ g ∨ n ≤ 1 then min n 1 else 1 + tcN g (n / 2) + tcN g (n - n / 2)
termination_by n
decreasing_by all_goals omega
theorem tcN_few {g n : Nat} (h : n ≤ g) : tcN g n = min n 1 := by
  rw [tcN, dif_pos (.inl h)]
theorem tcN_many {g n : Nat} (h : ¬ n ≤ g) (h1 : 1 < n) : tcN g n = 1 + tcN g (n / 2) + tcN g (n - n / 2) := by
  rw [tcN, dif_neg (by omega)]
theorem tcN_le (g : Nat) : ∀ n, tcN g n ≤ 2 * n := by
  intro n
  induction n using Nat.strongRecOn with
  | ind n ih =>
    rw [tcN]
    by_cases h : n ≤ g ∨ n ≤ 1
    · rw [dif_pos h]; omega
    · rw [dif_neg h]
      have h1 := ih (n / 2) (by omega)
      have h2 := ih (n - n / 2) (by omega)
      have : ∀ m, 1 ≤ m → tcN g m ≤ 2 * m - 1 := by
        intro m hm
        induction m using Nat.strongRecOn with
        | ind m ihm =>
          rw [tcN]
          by_cases h : m ≤ g ∨ m ≤ 1
          · rw [dif_pos h]; omega
          · rw [dif_neg h]
            have h1 := ihm (m / 2) (by omega) (by omega)
            have h2 := ihm (m - m / 2) (by omega) (by omega)
            omega
      have h3 := this (n / 2) (by omega)
      have h4 := this (n - n / 2) (by omega)
      omega
theorem tcN_lt (g : Nat) : ∀ n, 1 ≤ n → tcN g n ≤ 2 * n - 1 := by
  intro n hn
  induction n using Nat.strongRecOn with
  | ind m ihm =>
    rw [tcN]
    by_cases h : m ≤ g ∨ m ≤ 1
    · rw [dif_pos h]; omega
    · rw [dif_neg h]
      have h1 := ihm (m / 2) (by omega) (by omega)
      have h2 := ihm (m - m / 2) (by omega) (by omega)
      omega
theorem tcN_one : ∀ n, 1 ≤ n → tcN 1 n = 2 * n - 1 := by
  intro n hn
  induction n using Nat.strongRecOn with
  | ind m ihm =>
    rw [tcN]
    by_cases h : m ≤ 1 ∨ m ≤ 1
    · rw [dif_pos h]; omega
    · rw [dif_neg h]
      have h1 := ihm (m / 2) (by omega) (by omega)
      have h2 := ihm (m - m / 2) (by omega) (by omega)
      omega
theorem tcN_odd (g : Nat) : ∀ n, 1 ≤ n → tcN g n % 2 = 1 := by
  intro n hn
  induction n using Nat.strongRecOn with
  | ind m ihm =>
    rw [tcN]
    by_cases h : m ≤ g ∨ m ≤ 1
    · rw [dif_pos h]; omega
    · rw [dif_neg h]
      have h1 := ihm (m / 2) (by omega) (by omega)
      have h2 := ihm (m - m / 2) (by omega) (by omega)
      omega
theorem tcN_pos (g : Nat) : ∀ n, 1 ≤ n → 1 ≤ tcN g n := fun n hn => by have := tcN_odd g n hn; omega
theorem tcN_is1 {g : Nat} (hg : 1 ≤ g) {n : Nat} (hn : 1 ≤ n) : tcN g n = 1 ↔ n ≤ g := by
  by_cases h : n ≤ g
  · rw [tcN_few h]; omega
  · rw [tcN_many h (by omega)]
    have := tcN_pos g (n / 2) (by omega)
    omega
/-- What is told: the count, -1 where the sizes are none. -/
def szB (n g : Int) : Bool := decide (0 ≤ n) && decide (n ≤ 300) && (decide (1 ≤ g) && decide (g ≤ 300))
def tcO (n g : Int) : Int := if szB n g then (tcN g.toNat n.toNat : Nat) else -1
theorem half_int {n : Nat} (h : n ≤ 300) : wrap64 (Int.tdiv (n : Int) 2) = ((n / 2 : Nat) : Int) := by
  have e : Int.tdiv (n : Int) 2 = ((n / 2 : Nat) : Int) := rfl
  rw [e]
  have : n / 2 ≤ 300 := by omega
  unfold wrap64; omega
set_option maxHeartbeats 1000000 in
theorem cnt_impl (g : Int) (hg : 1 ≤ g) (hg2 : g ≤ 300) : ∀ (k : Nat) (n : Int), n = k → 1 ≤ n → n ≤ 300 → ∀ w : World,
    Calls Try.prog 59 #[.int .i64 n, .int .i64 g] w fun e w' => e = .returned (.int .i64 (tcN g.toNat k : Nat)) ∧ w' = w := by
  intro k
  induction k using Nat.strongRecOn with
  | ind k ih =>
    intro n hk h1 h2 w
    by_cases h : n ≤ g
    · have HR : Hid (tcN g.toNat k = 1) := hid (by rw [tcN_few (by omega)]; omega)
      clear ih
      go_enter Try.func59, Try.ntmps59
      go_wp2
      go_ret
      exact ⟨ret_int (by rw [HR.out]; rfl), rfl⟩
    · have HR : Hid (tcN g.toNat k = 1 + tcN g.toNat (k / 2) + tcN g.toNat (k - k / 2)) := hid (tcN_many (by omega) (by omega))
      have E : Int.tdiv n 2 = ((k / 2 : Nat) : Int) := by subst hk; rfl
      have B1 := tcN_le g.toNat (k / 2)
      have B2 := tcN_le g.toNat (k - k / 2)
      have C1 := hid (ih (k / 2) (by omega) ((k / 2 : Nat) : Int) rfl (by omega) (by omega))
      have C2 := hid (ih (k - k / 2) (by omega) (n - ((k / 2 : Nat) : Int)) (by omega) (by omega) (by omega))
      clear ih
      obtain ⟨r1, hr1⟩ : ∃ r : Int, r = (tcN g.toNat (k / 2) : Nat) := ⟨_, rfl⟩
      obtain ⟨r2, hr2⟩ : ∃ r : Int, r = (tcN g.toNat (k - k / 2) : Nat) := ⟨_, rfl⟩
      obtain ⟨m, hm⟩ : ∃ r : Int, r = ((k / 2 : Nat) : Int) := ⟨_, rfl⟩
      rw [← hr1, ← hm] at C1
      rw [← hr2, ← hm] at C2
      rw [← hm] at E
      have HR' : Hid (((tcN g.toNat k : Nat) : Int) = 1 + r1 + r2) := hid (by rw [HR.out]; omega)
      clear HR
      have b1 : 0 ≤ r1 := by omega
      have b2 : r1 ≤ 600 := by omega
      have b3 : 0 ≤ r2 := by omega
      have b4 : r2 ≤ 600 := by omega
      have b5 : 1 ≤ m := by omega
      have b6 : m ≤ 300 := by omega
      have b7 : m < n := by omega
      clear hr1 hr2 B1 B2 hm hk
      have W1 : wrap64 m = m := by unfold wrap64; omega
      have W2 : wrap64 (n - m) = n - m := by unfold wrap64; omega
      have W3 : wrap64 (1 + r1) = 1 + r1 := by unfold wrap64; omega
      have W4 : wrap64 (1 + r1 + r2) = 1 + r1 + r2 := by unfold wrap64; omega
      go_enter Try.func59, Try.ntmps59
      go_wp2_with fail
      refine (C1.out _).mono ?_
      rintro e w1 ⟨rfl, rfl⟩
      go_wp2_with fail
      refine (C2.out _).mono ?_
      rintro e w1 ⟨rfl, rfl⟩
      go_wp2
      go_ret
      exact ⟨ret_int (by rw [HR'.out]), rfl⟩
end Go.Proofs.Ytklpajphbkokcaa
