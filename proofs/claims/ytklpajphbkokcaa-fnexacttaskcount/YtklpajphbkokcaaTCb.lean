/-
  How many splits and runs there are: the specification's count, both functions, the law.
-/
import Derived.Test.YtklpajphbkokcaaTC
namespace Go.Proofs.Ytklpajphbkokcaa
set_option linter.unusedVariables false
set_option linter.unusedSimpArgs false
open Go.RowKit
set_option maxHeartbeats 1000000 in
theorem cnt_spec (g : Int) (hg : 1 ≤ g) (hg2 : g ≤ 300) : ∀ (k : Nat) (n : Int), n = k → n ≤ 300 → ∀ w : World,
    Calls Try.prog 57 #[.int .i64 n, .int .i64 g] w fun e w' => e = .returned (.int .i64 (tcN g.toNat k : Nat)) ∧ w' = w := by
  intro k
  induction k using Nat.strongRecOn with
  | ind k ih =>
    intro n hk h2 w
    by_cases h : n ≤ g
    · have HR : Hid (tcN g.toNat k = min k 1) := hid (tcN_few (by omega))
      clear ih
      by_cases h0 : n ≤ 1
      · go_enter Try.func57, Try.ntmps57
        go_wp2
        go_ret
        exact ⟨ret_int (by rw [HR.out]; omega), rfl⟩
      · go_enter Try.func57, Try.ntmps57
        go_wp2
        go_ret
        exact ⟨ret_int (by rw [HR.out]; omega), rfl⟩
    · have HR : Hid (tcN g.toNat k = 1 + tcN g.toNat (k / 2) + tcN g.toNat (k - k / 2)) := hid (tcN_many (by omega) (by omega))
      have E : Int.tdiv n 2 = ((k / 2 : Nat) : Int) := by subst hk; rfl
      have B1 := tcN_le g.toNat (k / 2)
      have B2 := tcN_le g.toNat (k - k / 2)
      have C1 := hid (ih (k / 2) (by omega) ((k / 2 : Nat) : Int) rfl (by omega))
      have C2 := hid (ih (k - k / 2) (by omega) (n - ((k / 2 : Nat) : Int)) (by omega) (by omega))
      clear ih
      obtain ⟨r1, hr1⟩ : ∃ r : Int, r = (tcN g.toNat (k / 2) : Nat) := ⟨_, rfl⟩
      obtain ⟨r2, hr2⟩ : ∃ r : Int, r = (tcN g.toNat (k - k / 2) : Nat) := ⟨_, rfl⟩
      obtain ⟨m, hm⟩ : ∃ r : Int, r = ((k / 2 : Nat) : Int) := ⟨_, rfl⟩
      rw [← hr1, ← hm] at C1
      rw [← hr2, ← hm] at C2
      rw [← hm] at E
      have HR' : Hid (((tcN g.toNat k : Nat) : Int) = 1 + r1 + r2) := hid (by rw [HR.out]; omega)
      clear HR
      have b1 : 0 ≤ r1 := by omega
      have b2 : r1 ≤ 600 := by omega
      have b3 : 0 ≤ r2 := by omega
      have b4 : r2 ≤ 600 := by omega
      have b5 : 1 ≤ m := by omega
      have b6 : m ≤ 300 := by omega
      have b7 : m < n := by omega
      clear hr1 hr2 B1 B2 hm hk
      have W1 : wrap64 m = m := by unfold wrap64; omega
      have W2 : wrap64 (n - m) = n - m := by unfold wrap64; omega
      have W3 : wrap64 (1 + r1) = 1 + r1 := by unfold wrap64; omega
      have W4 : wrap64 (1 + r1 + r2) = 1 + r1 + r2 := by unfold wrap64; omega
      go_enter Try.func57, Try.ntmps57
      go_wp2_with fail
      refine (C1.out _).mono ?_
      rintro e w1 ⟨rfl, rfl⟩
      go_wp2_with fail
      refine (C2.out _).mono ?_
      rintro e w1 ⟨rfl, rfl⟩
      go_wp2
      go_ret
      exact ⟨ret_int (by rw [HR'.out]), rfl⟩
theorem grain_impl (g : Int) (w : World) :
    Calls Try.prog 85 #[.int .i64 g] w fun e w' => e = .returned (.bool (decide (1 ≤ g) && decide (g ≤ 300))) ∧ w' = w := by
  obtain ⟨c, hc⟩ : ∃ a, a = decide (1 ≤ g) := ⟨_, rfl⟩
  obtain ⟨d, hd⟩ : ∃ a, a = decide (g ≤ 300) := ⟨_, rfl⟩
  rw [← hc, ← hd]
  cases c <;> cases d <;> simp only [eq_comm (a := true), eq_comm (a := false), decide_eq_true_eq, decide_eq_false_iff_not] at hc hd <;>
    (go_enter Try.func85, Try.ntmps85
     go_wp2
     go_ret
     exact ⟨rfl, rfl⟩)
theorem size_impl (n g : Int) (w : World) :
    Calls Try.prog 58 #[.int .i64 n, .int .i64 g] w fun e w' => e = .returned (.bool (szB n g)) ∧ w' = w := by
  have C := hid (fun w => grain_impl g w)
  obtain ⟨a, ha⟩ : ∃ a, a = decide (0 ≤ n) := ⟨_, rfl⟩
  obtain ⟨b, hb⟩ : ∃ a, a = decide (n ≤ 300) := ⟨_, rfl⟩
  obtain ⟨c, hc⟩ : ∃ a, a = (decide (1 ≤ g) && decide (g ≤ 300)) := ⟨_, rfl⟩
  have HR : Hid (szB n g = (a && b && c)) := hid (by rw [ha, hb, hc]; rfl)
  rw [← hc] at C
  clear hc
  cases a <;> cases b <;> simp only [eq_comm (a := true), eq_comm (a := false), decide_eq_true_eq, decide_eq_false_iff_not] at ha hb
  · go_enter Try.func58, Try.ntmps58
    go_wp2
    go_ret
    exact ⟨ret_bool (by rw [HR.out]; rfl), rfl⟩
  · go_enter Try.func58, Try.ntmps58
    go_wp2
    go_ret
    exact ⟨ret_bool (by rw [HR.out]; rfl), rfl⟩
  · go_enter Try.func58, Try.ntmps58
    go_wp2
    go_ret
    exact ⟨ret_bool (by rw [HR.out]; rfl), rfl⟩
  · go_enter Try.func58, Try.ntmps58
    go_wp2_with fail
    refine (C.out _).mono ?_
    rintro e w1 ⟨rfl, rfl⟩
    go_wp2
    go_ret
    exact ⟨ret_bool (by rw [HR.out]; rfl), rfl⟩
def plB (n g k : Int) : Bool := szB n g && inB k 1 16
theorem plan_spec (n g k : Int) (w : World) :
    Calls Try.prog 56 #[.int .i64 n, .int .i64 g, .int .i64 k] w fun e w' => e = .returned (.bool (plB n g k)) ∧ w' = w := by
  have C1 := hid (fun w => in_spec n 0 300 w)
  have C2 := hid (fun w => in_spec g 1 300 w)
  have C3 := hid (fun w => in_spec k 1 16 w)
  obtain ⟨a, ha⟩ : ∃ a, a = inB n 0 300 := ⟨_, rfl⟩
  obtain ⟨b, hb⟩ : ∃ a, a = inB g 1 300 := ⟨_, rfl⟩
  obtain ⟨c, hc⟩ : ∃ a, a = inB k 1 16 := ⟨_, rfl⟩
  have HR : Hid (plB n g k = (a && b && c)) := hid (by rw [ha, hb, hc]; rfl)
  rw [← ha] at C1
  rw [← hb] at C2
  rw [← hc] at C3
  clear ha hb hc
  cases a
  · go_enter Try.func56, Try.ntmps56
    go_wp2_with fail
    refine (C1.out _).mono ?_
    rintro e w1 ⟨rfl, rfl⟩
    go_wp2
    go_ret
    exact ⟨ret_bool (by rw [HR.out]; rfl), rfl⟩
  · cases b
    · go_enter Try.func56, Try.ntmps56
      go_wp2_with fail
      refine (C1.out _).mono ?_
      rintro e w1 ⟨rfl, rfl⟩
      go_wp2_with fail
      refine (C2.out _).mono ?_
      rintro e w1 ⟨rfl, rfl⟩
      go_wp2
      go_ret
      exact ⟨ret_bool (by rw [HR.out]; rfl), rfl⟩
    · go_enter Try.func56, Try.ntmps56
      go_wp2_with fail
      refine (C1.out _).mono ?_
      rintro e w1 ⟨rfl, rfl⟩
      go_wp2_with fail
      refine (C2.out _).mono ?_
      rintro e w1 ⟨rfl, rfl⟩
      go_wp2_with fail
      refine (C3.out _).mono ?_
      rintro e w1 ⟨rfl, rfl⟩
      go_wp2
      go_ret
      exact ⟨ret_bool (by rw [HR.out]; rfl), rfl⟩
theorem tcO_no {n g : Int} (h : szB n g = false) : tcO n g = -1 := by unfold tcO; rw [h]; rfl
theorem szB_yes {n g : Int} (h : szB n g = true) : 0 ≤ n ∧ n ≤ 300 ∧ 1 ≤ g ∧ g ≤ 300 := by
  unfold szB at h
  simp only [Bool.and_eq_true, decide_eq_true_eq] at h
  omega
theorem tcO_yes {n g : Int} (h : szB n g = true) : tcO n g = (tcN g.toNat n.toNat : Nat) := by unfold tcO; rw [h]; rfl
set_option maxHeartbeats 1000000 in
theorem task_spec (n g : Int) (w : World) :
    Calls Try.prog 13 #[.int .i64 n, .int .i64 g] w fun e w' => e = .returned (.int .i64 (tcO n g)) ∧ w' = w := by
  have C1 := hid (fun w => plan_spec n g 1 w)
  have hp : plB n g 1 = szB n g := by unfold plB; simp [inB]
  rw [hp] at C1
  clear hp
  cases h : szB n g
  · have HR := hid (tcO_no h)
    rw [h] at C1
    clear h
    go_enter Try.func13, Try.ntmps13
    go_wp2_with fail
    refine (C1.out _).mono ?_
    rintro e w1 ⟨rfl, rfl⟩
    go_wp2
    go_ret
    exact ⟨ret_int HR.out.symm, rfl⟩
  · have HR := hid (tcO_yes h)
    obtain ⟨h1, h2, h3, h4⟩ := szB_yes h
    rw [h] at C1
    have C2 := hid (cnt_spec g h3 h4 n.toNat n (by omega) h2)
    clear h h1 h2 h3 h4
    rw [← HR.out] at C2
    go_enter Try.func13, Try.ntmps13
    go_wp2_with fail
    refine (C1.out _).mono ?_
    rintro e w1 ⟨rfl, rfl⟩
    go_wp2_with fail
    refine (C2.out _).mono ?_
    rintro e w1 ⟨rfl, rfl⟩
    go_wp2
    go_ret
    exact ⟨rfl, rfl⟩
set_option maxHeartbeats 1000000 in
theorem task_impl (n g : Int) (w : World) :
    Calls Try.prog 14 #[.int .i64 n, .int .i64 g] w fun e w' => e = .returned (.int .i64 (tcO n g)) ∧ w' = w := by
  have C1 := hid (fun w => size_impl n g w)
  cases h : szB n g
  · have HR := hid (tcO_no h)
    rw [h] at C1
    clear h
    go_enter Try.func14, Try.ntmps14
    go_wp2_with fail
    refine (C1.out _).mono ?_
    rintro e w1 ⟨rfl, rfl⟩
    go_wp2
    go_ret
    exact ⟨ret_int HR.out.symm, rfl⟩
  · have HR := hid (tcO_yes h)
    obtain ⟨h1, h2, h3, h4⟩ := szB_yes h
    rw [h] at C1
    by_cases h0 : n = 0
    · subst h0
      have HR0 : Hid (tcO 0 g = 0) := hid (by rw [HR.out]; rw [tcN_few (by omega)]; rfl)
      clear h h1 h2 h3 h4 HR
      go_enter Try.func14, Try.ntmps14
      go_wp2_with fail
      refine (C1.out _).mono ?_
      rintro e w1 ⟨rfl, rfl⟩
      go_wp2
      go_ret
      exact ⟨ret_int HR0.out.symm, rfl⟩
    · have C2 := hid (cnt_impl g h3 h4 n.toNat n (by omega) (by omega) h2)
      have hz : (n == 0) = false := by simpa using h0
      clear h h1 h2 h3 h4 h0
      rw [← HR.out] at C2
      go_enter Try.func14, Try.ntmps14
      go_wp2_with fail
      refine (C1.out _).mono ?_
      rintro e w1 ⟨rfl, rfl⟩
      go_wp2_with fail
      refine (C2.out _).mono ?_
      rintro e w1 ⟨rfl, rfl⟩
      go_wp2
      go_ret
      exact ⟨rfl, rfl⟩
theorem law_TaskCount (n g : Int) (w : World) :
    Calls Try.prog 3 #[.int .i64 n, .int .i64 g] w fun e w' => e = .returned (.bool true) ∧ Below w.heap.size w w' := by
  have C1 := hid (fun w => task_spec n g w)
  have C2 := hid (fun w => task_impl n g w)
  obtain ⟨t, ht⟩ : ∃ t, t = tcO n g := ⟨_, rfl⟩
  rw [← ht] at C1 C2
  clear ht
  have q1 : (t != t) = false := by simp
  go_enter Try.func3, Try.ntmps3
  go_wp2_with fail
  refine (C1.out _).mono ?_
  rintro e w1 ⟨rfl, rfl⟩
  go_wp2_with fail
  refine (C2.out _).mono ?_
  rintro e w1 ⟨rfl, rfl⟩
  go_wp2
  go_ret
  exact ⟨rfl, Below.refl _ _⟩
end Go.Proofs.Ytklpajphbkokcaa
