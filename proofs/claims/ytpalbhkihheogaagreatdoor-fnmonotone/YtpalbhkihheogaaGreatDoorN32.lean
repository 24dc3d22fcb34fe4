/-
  What is needed of IC.
-/
import Derived.WideLaws
import Derived.Test.YtpalbhkihheogaaGreatDoorN28
import Derived.Test.YtpalbhkihheogaaGreatDoorN30
set_option maxHeartbeats 16000000
set_option maxRecDepth 1000000
namespace Go.Proofs.YtpalbhkihheogaaGreatDoor
set_option linter.unusedVariables false
set_option linter.unusedSimpArgs false
open Go.RowKit Go.Deep
theorem store_func (P : Program) (w : World) (a : Addr) (f : Fn) (xs ys) (m) : (store a (.func f xs ys) m).run P w = stored P w a (.func f xs ys) m := run_store P w a _ m rfl
attribute [local go_sem] store_func
/-- The function of a mode. -/
def ruleF (m : Int) : Nat := if m = 0 then 87 else if m = 1 then 88 else if m = 2 then 89 else if m = 3 then 90 else if m = 4 then 91 else 92
theorem ruleOf_any (m : Int) (w : World) (h : modeB m = true) :
    Calls Tryz.prog 39 #[.int .i64 m] w fun e w' => e = .returned (.func (.func (ruleF m)) #[] #[]) ∧ Below w.heap.size w w' := by
  rcases mode_cases h with rfl | rfl | rfl | rfl | rfl | rfl
  all_goals
    go_enter Tryz.func39, Tryz.ntmps39
    go_wp2
    go_ret
    exact ⟨rfl, (by repeat (first | exact bz0 _ _ | refine bz1 ?_ | refine bz2 ?_ _ | refine bz3 ?_ _ | refine bz5 ?_ _ | refine bz6 ?_ _))⟩
/-- A function tells of what is cut off what this mode does. -/
def Rule (fid : Nat) (R : Bool → Int → Bool → Bool) : Prop := (∀ (args : Array Value) (w : World), (callFunc fid args).run Tryz.prog w = .ok (.enter fid args) w) ∧ ∀ (ng od : Bool) (h : Int) (w : World), (h = -1 ∨ h = 0 ∨ h = 1) →
  Calls Tryz.prog fid #[.agg #[.bool ng, .bool od, .int .i64 h]] w fun e w' => e = .returned (.bool (R od h ng)) ∧ Below w.heap.size w w'
theorem rule_0 : Rule 87 (fun od h ng => upB 0 od h ng) := by
  have k1 : (Tryz.f87.name == "runtime.NumGoroutine") = false := by kernel_rfl
  have k2 : Tryz.f87.body.isNone = false := by kernel_rfl
  have k3 : ¬ Tryz.f87.name = "runtime.NumGoroutine" := by simpa using k1
  have k4 : ¬ Tryz.f87.body = none := by intro h; rw [h] at k2; cases k2
  refine ⟨fun args w => by simp [callFunc, go_sem, Tryz.func87, k3, k4], ?_⟩
  clear k1 k2 k3 k4
  intro ng od h w hh
  rcases hh with rfl | rfl | rfl
  all_goals
    cases ng <;> cases od
    all_goals
      go_enter Tryz.func87, Tryz.ntmps87
      go_wp2
      go_ret
      exact ⟨rfl, (by repeat (first | exact bz0 _ _ | refine bz1 ?_ | refine bz2 ?_ _ | refine bz3 ?_ _ | refine bz5 ?_ _ | refine bz6 ?_ _))⟩
theorem rule_1 : Rule 88 (fun od h ng => upB 1 od h ng) := by
  have k1 : (Tryz.f88.name == "runtime.NumGoroutine") = false := by kernel_rfl
  have k2 : Tryz.f88.body.isNone = false := by kernel_rfl
  have k3 : ¬ Tryz.f88.name = "runtime.NumGoroutine" := by simpa using k1
  have k4 : ¬ Tryz.f88.body = none := by intro h; rw [h] at k2; cases k2
  refine ⟨fun args w => by simp [callFunc, go_sem, Tryz.func88, k3, k4], ?_⟩
  clear k1 k2 k3 k4
  intro ng od h w hh
  rcases hh with rfl | rfl | rfl
  all_goals
    cases ng <;> cases od
    all_goals
      go_enter Tryz.func88, Tryz.ntmps88
      go_wp2
      go_ret
      exact ⟨rfl, (by repeat (first | exact bz0 _ _ | refine bz1 ?_ | refine bz2 ?_ _ | refine bz3 ?_ _ | refine bz5 ?_ _ | refine bz6 ?_ _))⟩
theorem rule_2 : Rule 89 (fun od h ng => upB 2 od h ng) := by
  have k1 : (Tryz.f89.name == "runtime.NumGoroutine") = false := by kernel_rfl
  have k2 : Tryz.f89.body.isNone = false := by kernel_rfl
  have k3 : ¬ Tryz.f89.name = "runtime.NumGoroutine" := by simpa using k1
  have k4 : ¬ Tryz.f89.body = none := by intro h; rw [h] at k2; cases k2
  refine ⟨fun args w => by simp [callFunc, go_sem, Tryz.func89, k3, k4], ?_⟩
  clear k1 k2 k3 k4
  intro ng od h w hh
  rcases hh with rfl | rfl | rfl
  all_goals
    cases ng <;> cases od
    all_goals
      go_enter Tryz.func89, Tryz.ntmps89
      go_wp2
      go_ret
      exact ⟨rfl, (by repeat (first | exact bz0 _ _ | refine bz1 ?_ | refine bz2 ?_ _ | refine bz3 ?_ _ | refine bz5 ?_ _ | refine bz6 ?_ _))⟩
theorem rule_3 : Rule 90 (fun od h ng => upB 3 od h ng) := by
  have k1 : (Tryz.f90.name == "runtime.NumGoroutine") = false := by kernel_rfl
  have k2 : Tryz.f90.body.isNone = false := by kernel_rfl
  have k3 : ¬ Tryz.f90.name = "runtime.NumGoroutine" := by simpa using k1
  have k4 : ¬ Tryz.f90.body = none := by intro h; rw [h] at k2; cases k2
  refine ⟨fun args w => by simp [callFunc, go_sem, Tryz.func90, k3, k4], ?_⟩
  clear k1 k2 k3 k4
  intro ng od h w hh
  rcases hh with rfl | rfl | rfl
  all_goals
    cases ng <;> cases od
    all_goals
      go_enter Tryz.func90, Tryz.ntmps90
      go_wp2
      go_ret
      exact ⟨rfl, (by repeat (first | exact bz0 _ _ | refine bz1 ?_ | refine bz2 ?_ _ | refine bz3 ?_ _ | refine bz5 ?_ _ | refine bz6 ?_ _))⟩
theorem rule_4 : Rule 91 (fun od h ng => upB 4 od h ng) := by
  have k1 : (Tryz.f91.name == "runtime.NumGoroutine") = false := by kernel_rfl
  have k2 : Tryz.f91.body.isNone = false := by kernel_rfl
  have k3 : ¬ Tryz.f91.name = "runtime.NumGoroutine" := by simpa using k1
  have k4 : ¬ Tryz.f91.body = none := by intro h; rw [h] at k2; cases k2
  refine ⟨fun args w => by simp [callFunc, go_sem, Tryz.func91, k3, k4], ?_⟩
  clear k1 k2 k3 k4
  intro ng od h w hh
  rcases hh with rfl | rfl | rfl
  all_goals
    cases ng <;> cases od
    all_goals
      go_enter Tryz.func91, Tryz.ntmps91
      go_wp2
      go_ret
      exact ⟨rfl, (by repeat (first | exact bz0 _ _ | refine bz1 ?_ | refine bz2 ?_ _ | refine bz3 ?_ _ | refine bz5 ?_ _ | refine bz6 ?_ _))⟩
theorem rule_5 : Rule 92 (fun od h ng => upB 5 od h ng) := by
  have k1 : (Tryz.f92.name == "runtime.NumGoroutine") = false := by kernel_rfl
  have k2 : Tryz.f92.body.isNone = false := by kernel_rfl
  have k3 : ¬ Tryz.f92.name = "runtime.NumGoroutine" := by simpa using k1
  have k4 : ¬ Tryz.f92.body = none := by intro h; rw [h] at k2; cases k2
  refine ⟨fun args w => by simp [callFunc, go_sem, Tryz.func92, k3, k4], ?_⟩
  clear k1 k2 k3 k4
  intro ng od h w hh
  rcases hh with rfl | rfl | rfl
  all_goals
    cases ng <;> cases od
    all_goals
      go_enter Tryz.func92, Tryz.ntmps92
      go_wp2
      go_ret
      exact ⟨rfl, (by repeat (first | exact bz0 _ _ | refine bz1 ?_ | refine bz2 ?_ _ | refine bz3 ?_ _ | refine bz5 ?_ _ | refine bz6 ?_ _))⟩
theorem rule_any (m : Int) (h : modeB m = true) : Rule (ruleF m) (fun od h ng => upB m od h ng) := by
  rcases mode_cases h with rfl | rfl | rfl | rfl | rfl | rfl
  · exact rule_0
  · exact rule_1
  · exact rule_2
  · exact rule_3
  · exact rule_4
  · exact rule_5
theorem ok_lim {a : Nat} (ha : a ≠ 0) (hl : bitLen a ≤ 6400) (ng : Bool) : okB ng (Nm.lim a) = true := by
  have hlen := lim_len (x := a) (k := 200) (by omega)
  have hne : (Nm.lim a).length ≠ 0 := fun h => ha ((Nm.lim_length_zero a).1 h)
  have hz := Nm.lim_nz a
  unfold okB
  rw [if_neg hne, decide_eq_true hlen, Bool.true_and]
  have : (Nm.lim a).getD ((Nm.lim a).length - 1) 0 ≠ 0 := by
    apply hz
    rw [List.getLast?_eq_getElem?, List.getD_eq_getElem?_getD, List.getElem?_eq_getElem (by omega)]; rfl
  rw [decide_eq_false this]; rfl
theorem fits_nat {x : Nat} (h : bitLen x ≤ 6400) : Nm.fits (x : Int) = true := by
  unfold Nm.fits; rw [wl_nat]; exact decide_eq_true (lim_len (k := 200) (by omega))
theorem wsh_n (a : Nat) (n : Int) (p : Option Addr) (c : Nat) (w : World) (hs : Sl .u32 w (.slice p (Nm.lim a).length c) (Nm.lim a)) (ha : a ≠ 0) (hl : bitLen a ≤ 6400) (h0 : -10000 ≤ n) (h1 : n ≤ 10000) (hf : bitLen (Nm.sh a n) ≤ 6400) :
    Calls Tryz.prog 32 #[.agg #[.bool false, .slice p (Nm.lim a).length c], .int .i64 n] w fun e w' => ∃ a' c', e = .returned (.tuple #[.agg #[.bool false, .slice a' (Nm.lim (Nm.sh a n)).length c'], .bool true]) ∧ Own w' w.heap.size a' c' (Nm.lim (Nm.sh a n)) ∧ Below w.heap.size w w' := by
  have h := wsh_impl false p c (Nm.lim a) n w hs (Nm.lim_dg a) (by have := lim_len (x := a) (k := 200) (by omega); omega)
  have e1 : (okB false (Nm.lim a) && inZ n (-10000) 10000) = true := by
    rw [ok_lim ha hl]; simp [inZ]; omega
  have e2 : Nm.shV false (Nm.val (Nm.lim a)) n = ((Nm.sh a n : Nat) : Int) := by rw [Nm.lim_val, Nm.shV_sh]
  rw [e1, e2] at h
  have e3 := fits_nat hf
  have e4 := out_fits e3
  rw [(op_yes _).1, (op_yes _).2.1, (op_yes _).2.2, e3, e4.1, e4.2, wn_nat, wl_nat] at h
  exact h
theorem small_n (x : Nat) (a : Option Addr) (c : Nat) (w : World) (hx : Sl .u32 w (.slice a (Nm.lim x).length c) (Nm.lim x)) (h : x < 9223372036854775808) :
    Calls Tryz.prog 94 #[.agg #[.bool false, .slice a (Nm.lim x).length c]] w fun e w' => e = .returned (.tuple #[.int .i64 (x : Nat), .bool true]) ∧ Below w.heap.size w w' := by
  have h2 := lim_two (x := x) (by omega)
  have h' := smi_any false a c (Nm.lim x) w hx (Nm.lim_dg x) (by omega)
  have hok : okB false (Nm.lim x) = true := by
    by_cases h0 : x = 0
    · subst h0; rw [Nm.lim_zero]; rfl
    · exact ok_lim h0 (by have := (Nm.bl_le_iff x 64).2 (by omega); omega) false
  rw [(sm_yes hok h2).1, (sm_yes hok h2).2, two_val rfl h2] at h'
  have e1 : smI false (x : Int) = (x : Int) := by unfold smI; rw [if_neg (by decide), if_pos (by omega)]
  have e2 : smB false (x : Int) = true := by unfold smB; rw [if_neg (by decide)]; exact decide_eq_true (by omega)
  rw [e1, e2] at h'
  exact h'
theorem lz_n (ng : Bool) (x : Nat) (a : Option Addr) (c : Nat) (w : World) (hT : Tb w 1 Lib.deBruijn32tab) (hx : Sl .u32 w (.slice a (Nm.lim x).length c) (Nm.lim x)) (h0 : x ≠ 0) (hl : bitLen x ≤ 6400) :
    Calls Tryz.prog 95 #[.agg #[.bool ng, .slice a (Nm.lim x).length c]] w fun e w' => e = .returned (.int .i64 (Nm.tz x : Nat)) ∧ Below w.heap.size w w' := by
  have h := lz_impl ng a c (Nm.lim x) w hT hx (Nm.lim_dg x) (by have := lim_len (x := x) (k := 200) (by omega); omega)
  have e : lzW ng (Nm.lim x) = (Nm.tz x : Int) := by
    unfold lzW
    rw [ok_lim h0 hl, decide_eq_false (fun h => h0 ((Nm.lim_length_zero x).1 h)), Nm.lim_val]; simp
  rw [e] at h
  exact h
end Go.Proofs.YtpalbhkihheogaaGreatDoor
