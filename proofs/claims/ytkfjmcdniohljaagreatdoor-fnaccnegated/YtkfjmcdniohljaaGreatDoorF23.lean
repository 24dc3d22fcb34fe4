/-
  What is needed of IC, ID.
-/
import Derived.WideLaws
import Derived.Test.YtkfjmcdniohljaaGreatDoorF15
import Derived.Test.YtkfjmcdniohljaaGreatDoorF21
set_option maxHeartbeats 16000000
set_option maxRecDepth 1000000
namespace Go.Proofs.YtkfjmcdniohljaaGreatDoor
set_option linter.unusedVariables false
set_option linter.unusedSimpArgs false
open Go.RowKit Go.Deep
theorem store_func (P : Program) (w : World) (a : Addr) (f : Fn) (xs ys) (m) : (store a (.func f xs ys) m).run P w = stored P w a (.func f xs ys) m := run_store P w a _ m rfl
attribute [local go_sem] store_func
def ruleF (m : Int) : Nat := if m = 0 then 184 else if m = 1 then 185 else if m = 2 then 186 else if m = 3 then 187 else if m = 4 then 188 else 189
theorem ruleOf_any (m : Int) (w : World) (h : modeB m = true) :
  Calls Tryz.prog 92 #[.int .i64 m] w fun e w' => e = .returned (.func (.func (ruleF m)) #[] #[]) ∧ Below w.heap.size w w' := by
 rcases mode_cases h with rfl | rfl | rfl | rfl | rfl | rfl
 all_goals
  go_enter Tryz.func92, Tryz.ntmps92
  go_wp2
  go_ret
  exact ⟨rfl, (by repeat (first | exact bz0 _ _ | refine bz1 ?_ | refine bz2 ?_ _ | refine bz3 ?_ _ | refine bz5 ?_ _ | refine bz6 ?_ _))⟩
def Rule (fid : Nat) (R : Bool → Int → Bool → Bool) : Prop := (∀ (args : Array Value) (w : World), (callFunc fid args).run Tryz.prog w = .ok (.enter fid args) w) ∧ ∀ (ng od : Bool) (h : Int) (w : World), (h = -1 ∨ h = 0 ∨ h = 1) →
 Calls Tryz.prog fid #[.agg #[.bool ng, .bool od, .int .i64 h]] w fun e w' => e = .returned (.bool (R od h ng)) ∧ Below w.heap.size w w'
theorem rule_0 : Rule 184 (fun od h ng => upB 0 od h ng) := by
 have k1 : (Tryz.f184.name == "runtime.NumGoroutine") = false := by kernel_rfl
 have k2 : Tryz.f184.body.isNone = false := by kernel_rfl
 have k3 : ¬ Tryz.f184.name = "runtime.NumGoroutine" := by simpa using k1
 have k4 : ¬ Tryz.f184.body = none := by intro h; rw [h] at k2; cases k2
 refine ⟨fun args w => by simp [callFunc, go_sem, Tryz.func184, k3, k4], ?_⟩
 clear k1 k2 k3 k4
 intro ng od h w hh
 rcases hh with rfl | rfl | rfl
 all_goals
  cases ng <;> cases od
  all_goals
   go_enter Tryz.func184, Tryz.ntmps184
   go_wp2
   go_ret
   exact ⟨rfl, (by repeat (first | exact bz0 _ _ | refine bz1 ?_ | refine bz2 ?_ _ | refine bz3 ?_ _ | refine bz5 ?_ _ | refine bz6 ?_ _))⟩
theorem rule_1 : Rule 185 (fun od h ng => upB 1 od h ng) := by
 have k1 : (Tryz.f185.name == "runtime.NumGoroutine") = false := by kernel_rfl
 have k2 : Tryz.f185.body.isNone = false := by kernel_rfl
 have k3 : ¬ Tryz.f185.name = "runtime.NumGoroutine" := by simpa using k1
 have k4 : ¬ Tryz.f185.body = none := by intro h; rw [h] at k2; cases k2
 refine ⟨fun args w => by simp [callFunc, go_sem, Tryz.func185, k3, k4], ?_⟩
 clear k1 k2 k3 k4
 intro ng od h w hh
 rcases hh with rfl | rfl | rfl
 all_goals
  cases ng <;> cases od
  all_goals
   go_enter Tryz.func185, Tryz.ntmps185
   go_wp2
   go_ret
   exact ⟨rfl, (by repeat (first | exact bz0 _ _ | refine bz1 ?_ | refine bz2 ?_ _ | refine bz3 ?_ _ | refine bz5 ?_ _ | refine bz6 ?_ _))⟩
theorem rule_2 : Rule 186 (fun od h ng => upB 2 od h ng) := by
 have k1 : (Tryz.f186.name == "runtime.NumGoroutine") = false := by kernel_rfl
 have k2 : Tryz.f186.body.isNone = false := by kernel_rfl
 have k3 : ¬ Tryz.f186.name = "runtime.NumGoroutine" := by simpa using k1
 have k4 : ¬ Tryz.f186.body = none := by intro h; rw [h] at k2; cases k2
 refine ⟨fun args w => by simp [callFunc, go_sem, Tryz.func186, k3, k4], ?_⟩
 clear k1 k2 k3 k4
 intro ng od h w hh
 rcases hh with rfl | rfl | rfl
 all_goals
  cases ng <;> cases od
  all_goals
   go_enter Tryz.func186, Tryz.ntmps186
   go_wp2
   go_ret
   exact ⟨rfl, (by repeat (first | exact bz0 _ _ | refine bz1 ?_ | refine bz2 ?_ _ | refine bz3 ?_ _ | refine bz5 ?_ _ | refine bz6 ?_ _))⟩
theorem rule_3 : Rule 187 (fun od h ng => upB 3 od h ng) := by
 have k1 : (Tryz.f187.name == "runtime.NumGoroutine") = false := by kernel_rfl
 have k2 : Tryz.f187.body.isNone = false := by kernel_rfl
 have k3 : ¬ Tryz.f187.name = "runtime.NumGoroutine" := by simpa using k1
 have k4 : ¬ Tryz.f187.body = none := by intro h; rw [h] at k2; cases k2
 refine ⟨fun args w => by simp [callFunc, go_sem, Tryz.func187, k3, k4], ?_⟩
 clear k1 k2 k3 k4
 intro ng od h w hh
 rcases hh with rfl | rfl | rfl
 all_goals
  cases ng <;> cases od
  all_goals
   go_enter Tryz.func187, Tryz.ntmps187
   go_wp2
   go_ret
   exact ⟨rfl, (by repeat (first | exact bz0 _ _ | refine bz1 ?_ | refine bz2 ?_ _ | refine bz3 ?_ _ | refine bz5 ?_ _ | refine bz6 ?_ _))⟩
theorem rule_4 : Rule 188 (fun od h ng => upB 4 od h ng) := by
 have k1 : (Tryz.f188.name == "runtime.NumGoroutine") = false := by kernel_rfl
 have k2 : Tryz.f188.body.isNone = false := by kernel_rfl
 have k3 : ¬ Tryz.f188.name = "runtime.NumGoroutine" := by simpa using k1
 have k4 : ¬ Tryz.f188.body = none := by intro h; rw [h] at k2; cases k2
 refine ⟨fun args w => by simp [callFunc, go_sem, Tryz.func188, k3, k4], ?_⟩
 clear k1 k2 k3 k4
 intro ng od h w hh
 rcases hh with rfl | rfl | rfl
 all_goals
  cases ng <;> cases od
  all_goals
   go_enter Tryz.func188, Tryz.ntmps188
   go_wp2
   go_ret
   exact ⟨rfl, (by repeat (first | exact bz0 _ _ | refine bz1 ?_ | refine bz2 ?_ _ | refine bz3 ?_ _ | refine bz5 ?_ _ | refine bz6 ?_ _))⟩
theorem rule_5 : Rule 189 (fun od h ng => upB 5 od h ng) := by
 have k1 : (Tryz.f189.name == "runtime.NumGoroutine") = false := by kernel_rfl
 have k2 : Tryz.f189.body.isNone = false := by kernel_rfl
 have k3 : ¬ Tryz.f189.name = "runtime.NumGoroutine" := by simpa using k1
 have k4 : ¬ Tryz.f189.body = none := by intro h; rw [h] at k2; cases k2
 refine ⟨fun args w => by simp [callFunc, go_sem, Tryz.func189, k3, k4], ?_⟩
 clear k1 k2 k3 k4
 intro ng od h w hh
 rcases hh with rfl | rfl | rfl
 all_goals
  cases ng <;> cases od
  all_goals
   go_enter Tryz.func189, Tryz.ntmps189
   go_wp2
   go_ret
   exact ⟨rfl, (by repeat (first | exact bz0 _ _ | refine bz1 ?_ | refine bz2 ?_ _ | refine bz3 ?_ _ | refine bz5 ?_ _ | refine bz6 ?_ _))⟩
theorem rule_any (m : Int) (h : modeB m = true) : Rule (ruleF m) (fun od h ng => upB m od h ng) := by
 rcases mode_cases h with rfl | rfl | rfl | rfl | rfl | rfl
 ·exact rule_0
 ·exact rule_1
 ·exact rule_2
 ·exact rule_3
 ·exact rule_4
 ·exact rule_5
theorem ok_lim {a : Nat} (ha : a ≠ 0) (hl : bitLen a ≤ 6400) (ng : Bool) : okB ng (Nm.lim a) = true := by
 have hlen := lim_len (x := a) (k := 200) (by omega)
 have hne : (Nm.lim a).length ≠ 0 := fun h => ha ((Nm.lim_length_zero a).1 h)
 have hz := Nm.lim_nz a
 unfold okB
 rw [if_neg hne, decide_eq_true hlen, Bool.true_and]
 have : (Nm.lim a).getD ((Nm.lim a).length - 1) 0 ≠ 0 := by
  apply hz
  rw [List.getLast?_eq_getElem?, List.getD_eq_getElem?_getD, List.getElem?_eq_getElem (by omega)]; rfl
 rw [decide_eq_false this]; rfl
theorem fits_nat {x : Nat} (h : bitLen x ≤ 6400) : Nm.fits (x : Int) = true := by
 unfold Nm.fits; rw [wl_nat]; exact decide_eq_true (lim_len (k := 200) (by omega))
theorem wsh_n (a : Nat) (n : Int) (p : Option Addr) (c : Nat) (w : World) (hs : Sl .u32 w (.slice p (Nm.lim a).length c) (Nm.lim a)) (ha : a ≠ 0) (hl : bitLen a ≤ 6400) (h0 : -10000 ≤ n) (h1 : n ≤ 10000) (hf : bitLen (Nm.sh a n) ≤ 6400) :
  Calls Tryz.prog 21 #[.agg #[.bool false, .slice p (Nm.lim a).length c], .int .i64 n] w fun e w' => ∃ a' c', e = .returned (.tuple #[.agg #[.bool false, .slice a' (Nm.lim (Nm.sh a n)).length c'], .bool true]) ∧ Own w' w.heap.size a' c' (Nm.lim (Nm.sh a n)) ∧ Below w.heap.size w w' := by
 have h := wsh_impl false p c (Nm.lim a) n w hs (Nm.lim_dg a) (by have := lim_len (x := a) (k := 200) (by omega); omega)
 have e1 : (okB false (Nm.lim a) && inZ n (-10000) 10000) = true := by
  rw [ok_lim ha hl]; simp [inZ]; omega
 have e2 : Nm.shV false (Nm.val (Nm.lim a)) n = ((Nm.sh a n : Nat) : Int) := by rw [Nm.lim_val, Nm.shV_sh]
 rw [e1, e2] at h
 have e3 := fits_nat hf
 have e4 := out_fits e3
 rw [(op_yes _).1, (op_yes _).2.1, (op_yes _).2.2, e3, e4.1, e4.2, wn_nat, wl_nat] at h
 exact h
theorem small_n (x : Nat) (a : Option Addr) (c : Nat) (w : World) (hx : Sl .u32 w (.slice a (Nm.lim x).length c) (Nm.lim x)) (h : x < 9223372036854775808) :
  Calls Tryz.prog 211 #[.agg #[.bool false, .slice a (Nm.lim x).length c]] w fun e w' => e = .returned (.tuple #[.int .i64 (x : Nat), .bool true]) ∧ Below w.heap.size w w' := by
 have h2 := lim_two (x := x) (by omega)
 have h' := smi_any false a c (Nm.lim x) w hx (Nm.lim_dg x) (by omega)
 have hok : okB false (Nm.lim x) = true := by
  by_cases h0 : x = 0
  ·subst h0; rw [Nm.lim_zero]; rfl
  ·exact ok_lim h0 (by have := (Nm.bl_le_iff x 64).2 (by omega); omega) false
 rw [(sm_yes hok h2).1, (sm_yes hok h2).2, two_val rfl h2] at h'
 have e1 : smI false (x : Int) = (x : Int) := by unfold smI; rw [if_neg (by decide), if_pos (by omega)]
 have e2 : smB false (x : Int) = true := by unfold smB; rw [if_neg (by decide)]; exact decide_eq_true (by omega)
 rw [e1, e2] at h'
 exact h'
theorem lz_n (ng : Bool) (x : Nat) (a : Option Addr) (c : Nat) (w : World) (hT : Tb w 3 Lib.deBruijn32tab) (hx : Sl .u32 w (.slice a (Nm.lim x).length c) (Nm.lim x)) (h0 : x ≠ 0) (hl : bitLen x ≤ 6400) :
  Calls Tryz.prog 212 #[.agg #[.bool ng, .slice a (Nm.lim x).length c]] w fun e w' => e = .returned (.int .i64 (Nm.tz x : Nat)) ∧ Below w.heap.size w w' := by
 have h := lz_impl ng a c (Nm.lim x) w hT hx (Nm.lim_dg x) (by have := lim_len (x := x) (k := 200) (by omega); omega)
 have e : lzW ng (Nm.lim x) = (Nm.tz x : Int) := by
  unfold lzW
  rw [ok_lim h0 hl, decide_eq_false (fun h => h0 ((Nm.lim_length_zero x).1 h)), Nm.lim_val]; simp
 rw [e] at h
 exact h
end Go.Proofs.YtkfjmcdniohljaaGreatDoor
namespace Go.Proofs.YtkfjmcdniohljaaGreatDoor
set_option linter.unusedVariables false
set_option linter.unusedSimpArgs false
open Go.RowKit Go.Deep
def hI (a : Nat) (n : Int) : Int := if (Nm.tz a : Int) = n - 1 then 0 else if a / 2 ^ (n - 1).toNat % 2 = 1 then 1 else -1
def sM (R : Bool → Int → Bool → Bool) (ng : Bool) (a : Nat) (n : Int) : Int := if n ≤ Nm.tz a then (Nm.sh a (-n) : Nat) else if R (((Nm.sh a (-n) : Nat) : Int) % 2 == 1) (hI a n) ng then ((Nm.sh a (-n) : Nat) : Int) + 1 else (Nm.sh a (-n) : Nat)
theorem ret_ib {a a' : Int} {b b' : Bool} (h : a = a') (k : b = b') : Ending.returned (.tuple #[.int .i64 a, .bool b]) = .returned (.tuple #[.int .i64 a', .bool b']) := by rw [h, k]
theorem stepped_n (fid : Nat) (R : Bool → Int → Bool → Bool) (hby : Rule fid R) (ng : Bool) (a : Nat) (n : Int) (p : Option Addr) (c : Nat) (w : World) (hT : Tb w 3 Lib.deBruijn32tab) (hs : Sl .u32 w (.slice p (Nm.lim a).length c) (Nm.lim a)) (ha : a ≠ 0) (hl : bitLen a ≤ 6400) (h0 : -10000 ≤ n) (h1 : n ≤ 10000) (hm : Nm.sh a (-n) < 4611686018427387904) :
  Calls Tryz.prog 157 #[.agg #[.bool ng, .slice p (Nm.lim a).length c], .int .i64 n, .func (.func fid) #[] #[]] w fun e w' => e = .returned (.tuple #[.int .i64 (sM R ng a n), .bool (decide (n ≤ Nm.tz a))]) ∧ Below w.heap.size w w' := by
 obtain ⟨m, hmm⟩ : ∃ m, m = Nm.sh a (-n) := ⟨_, rfl⟩
 obtain ⟨z, hz⟩ : ∃ z : Int, z = ((m : Nat) : Int) := ⟨_, rfl⟩
 have z0 : 0 ≤ z := by omega
 have z1 : z < 4611686018427387904 := by omega
 obtain ⟨t, ht⟩ : ∃ t : Int, t = ((Nm.tz a : Nat) : Int) := ⟨_, rfl⟩
 have t0 : 0 ≤ t := by omega
 have t1 : t ≤ 6400 := by
  have h1 : 2 ^ Nm.tz a ≤ a := by
   have hs := Nm.tz_spec a ha
   have := Nat.le_mul_of_pos_left (2 ^ Nm.tz a) (Nat.pos_of_ne_zero (Nm.od_pos ha)); omega
  have h2 := (Nm.bl_le_iff a 6400).1 hl
  have h3 : 2 ^ Nm.tz a < 2 ^ 6400 := Nat.lt_of_le_of_lt h1 h2
  have := (Nat.pow_lt_pow_iff_right (a := 2) (by decide)).1 h3
  omega
 have hbm : bitLen (Nm.sh a (-n)) ≤ 6400 := by have := (Nm.bl_le_iff (Nm.sh a (-n)) 62).2 (by omega); omega
 have C1 := hid (fun w' h => wsh_n a (-n) p c w' h ha hl (by omega) (by omega) hbm)
 rw [← hmm] at C1
 have C2 := hid (fun a' c' w' h => small_n m a' c' w' h (by omega))
 rw [← hz] at C2
 have C3 := hid (fun w' h h' => lz_n ng a p c w' h h' ha hl)
 rw [← ht] at C3
 have C4 := hid (fun i w' h h0 h1 => bitAt_n ng a i p c w' h (by omega) h0 h1)
 have HSM : Hid (sM R ng a n = if n ≤ t then z else if R (z % 2 == 1) (hI a n) ng then z + 1 else z) := hid (by unfold sM; rw [← hmm, ← hz, ht])
 have HTD : Hid (decide (n ≤ Nm.tz a) = decide (n ≤ t)) := hid (by rw [ht])
 have HHI : Hid (hI a n = if t = n - 1 then 0 else if a / 2 ^ (n - 1).toNat % 2 = 1 then 1 else -1) := hid (by unfold hI; rw [ht])
 have HBY := hid hby.2
 have hrun := hby.1
 clear hby hmm hz ht hbm ha hl hm
 go_enter Tryz.func157, Tryz.ntmps157
 go_wp2_with fail
 refine (C1.out _ (hs.alloc _)).mono ?_
 rintro e w2 ⟨a2, c2, rfl, o2, hb2⟩
 have g2 := ((Box.new w (.bool ng) (.slice p (Nm.lim a).length c) 32).below hb2).alloc (.cells #[.bool false, .slice a2 (Nm.lim m).length c2] 32)
 have s2 := ((hs.alloc _).below hb2).alloc (.cells #[.bool false, .slice a2 (Nm.lim m).length c2] 32)
 have bel2 : Below w.heap.size w (w2.alloc (.cells #[.bool false, .slice a2 (Nm.lim m).length c2] 32)) := (by repeat (first | exact bz0 _ _ | refine bz1 ?_ | refine bz2 ?_ _ | refine bz3 ?_ _ | refine bz4 ?_ hb2 | refine bz5 ?_ _ | refine bz6 ?_ _ | refine bz7 ?_ hb2))
 obtain ⟨m20, m21⟩ := Box.new w2 (.bool false) (.slice a2 (Nm.lim m).length c2) 32
 clear hb2
 go_wp2_with fail
 refine (C2.out a2 c2 _ (o2.sl.alloc _)).mono ?_
 rintro e w3 ⟨rfl, hb3⟩
 have g3 := g2.below hb3
 have s3 := s2.below hb3
 have bel3 := bel_go bel2 hb3
 have hT3 := hT.below (by decide) bel3
 clear g2 s2 bel2 hb3 m20 m21 o2
 obtain ⟨g30, g31⟩ := g3
 go_wp2_with fail
 refine (C3.out _ hT3 s3).mono ?_
 rintro e w4 ⟨rfl, hb4⟩
 obtain ⟨g40, g41⟩ := Box.below ⟨g30, g31⟩ hb4
 have s4 := s3.below hb4
 have bel4 := bel_go bel3 hb4
 have lw4 : w.heap.size < w4.heap.size := World.block_lt_of_cell? w4 _ g40
 clear g30 g31 s3 bel3 hb4 hT3
 by_cases hex : n ≤ t
 ·have HA : Hid (sM R ng a n = z) := hid (by rw [HSM.out, if_pos hex])
  go_wp2
  go_ret2
  exact ⟨ret_ib HA.out.symm (by rw [HTD.out]; exact (decide_eq_true hex).symm), (by repeat (first | exact bz0 _ _ | refine bz1 ?_ | refine bz2 ?_ _ | refine bz3 ?_ _ | refine bz4 ?_ bel4 | refine bz5 ?_ _ | refine bz6 ?_ _ | refine bz7 ?_ bel4))⟩
 ·have HX : Hid (decide (n ≤ Nm.tz a) = false) := hid (by rw [HTD.out]; exact decide_eq_false hex)
  have HS2 : Hid (sM R ng a n = if R (z % 2 == 1) (hI a n) ng then z + 1 else z) := hid (by rw [HSM.out, if_neg hex])
  have hex' : t < n := by omega
  have hn1 : 1 ≤ n := by omega
  clear hex
  obtain ⟨od, hod⟩ : ∃ od, od = (z % 2 == 1) := ⟨_, rfl⟩
  have HOD := hid hod
  clear hod
  by_cases ha1 : t = n - 1
  ·have HHV : Hid (hI a n = 0) := hid (by rw [HHI.out, if_pos ha1])
   have hne : (t == n - 1) = true := by rw [beq_iff_eq]; exact ha1
   clear ha1
   go_wp2_with fail
   refine (HBY.out ng (z % 2 == 1) 0 _ (by right; left; rfl)).mono ?_
   rintro e w9 ⟨rfl, hb9⟩
   have HRV : Hid (sM R ng a n = if R (z % 2 == 1) 0 ng then z + 1 else z) := hid (by rw [HS2.out, HHV.out])
   obtain ⟨u, hu⟩ : ∃ u, u = R (z % 2 == 1) 0 ng := ⟨_, rfl⟩
   rw [← hu]
   have HU := hid hu
   clear hu
   cases u with
   | true =>
    go_wp2
    go_ret2
    exact ⟨ret_ib (by rw [HRV.out, ← HU.out]; rfl) HX.out.symm, (by repeat (first | exact bz0 _ _ | refine bz1 ?_ | refine bz2 ?_ _ | refine bz3 ?_ _ | refine bz4 ?_ hb9 | refine bz4 ?_ bel4 | refine bz5 ?_ _ | refine bz6 ?_ _ | refine bz7 ?_ hb9 | refine bz7 ?_ bel4))⟩
   | false =>
    go_wp2
    go_ret2
    exact ⟨ret_ib (by rw [HRV.out, ← HU.out]; rfl) HX.out.symm, (by repeat (first | exact bz0 _ _ | refine bz1 ?_ | refine bz2 ?_ _ | refine bz3 ?_ _ | refine bz4 ?_ hb9 | refine bz4 ?_ bel4 | refine bz5 ?_ _ | refine bz6 ?_ _ | refine bz7 ?_ hb9 | refine bz7 ?_ bel4))⟩
  ·have hne : (t == n - 1) = false := by rw [beq_eq_false_iff_ne]; exact ha1
   have HN1 := hid ha1
   clear ha1
   go_wp2_with fail
   have sB := s4.alloc (.cells #[.bool ng, .bool (z % 2 == 1), .int .i64 (-1)] 204)
   obtain ⟨bt, hbt⟩ : ∃ bt, bt = decide (a / 2 ^ (n - 1).toNat % 2 = 1) := ⟨_, rfl⟩
   have c4 := C4.out (n - 1) _ sB (by omega) (by omega)
   rw [← hbt] at c4
   have HBT := hid hbt
   clear hbt
   refine c4.mono ?_
   clear c4
   rintro e w5 ⟨rfl, hb5⟩
   obtain ⟨k50, k51, k52, f50, f51, f52⟩ := (R3.new w4 (.bool ng) (.bool (z % 2 == 1)) (.int .i64 (-1)) 204).below hb5
   have lw5 : w4.heap.size < w5.heap.size := World.block_lt_of_cell? w5 _ k50
   cases bt with
   | true =>
    have HHV : Hid (hI a n = 1) := hid (by rw [HHI.out, if_neg HN1.out, if_pos (of_decide_eq_true HBT.out.symm)])
    skip
    go_wp2_with fail
    refine (HBY.out ng (z % 2 == 1) 1 _ (by right; right; rfl)).mono ?_
    rintro e w9 ⟨rfl, hb9⟩
    have HRV : Hid (sM R ng a n = if R (z % 2 == 1) 1 ng then z + 1 else z) := hid (by rw [HS2.out, HHV.out])
    obtain ⟨u, hu⟩ : ∃ u, u = R (z % 2 == 1) 1 ng := ⟨_, rfl⟩
    rw [← hu]
    have HU := hid hu
    clear hu
    cases u with
    | true =>
     go_wp2
     go_ret2
     exact ⟨ret_ib (by rw [HRV.out, ← HU.out]; rfl) HX.out.symm, (by repeat (first | exact bz0 _ _ | refine bz1 ?_ | refine bz2 ?_ _ | refine bz3 ?_ _ | refine bz4 ?_ hb9 | refine bz4 ?_ hb5 | refine bz4 ?_ bel4 | refine bz5 ?_ _ | refine bz6 ?_ _ | refine bz7 ?_ hb9 | refine bz7 ?_ hb5 | refine bz7 ?_ bel4))⟩
    | false =>
     go_wp2
     go_ret2
     exact ⟨ret_ib (by rw [HRV.out, ← HU.out]; rfl) HX.out.symm, (by repeat (first | exact bz0 _ _ | refine bz1 ?_ | refine bz2 ?_ _ | refine bz3 ?_ _ | refine bz4 ?_ hb9 | refine bz4 ?_ hb5 | refine bz4 ?_ bel4 | refine bz5 ?_ _ | refine bz6 ?_ _ | refine bz7 ?_ hb9 | refine bz7 ?_ hb5 | refine bz7 ?_ bel4))⟩
   | false =>
    have HHV : Hid (hI a n = (-1)) := hid (by rw [HHI.out, if_neg HN1.out, if_neg (of_decide_eq_false HBT.out.symm)])
    skip
    go_wp2_with fail
    refine (HBY.out ng (z % 2 == 1) (-1) _ (by left; rfl)).mono ?_
    rintro e w9 ⟨rfl, hb9⟩
    have HRV : Hid (sM R ng a n = if R (z % 2 == 1) (-1) ng then z + 1 else z) := hid (by rw [HS2.out, HHV.out])
    obtain ⟨u, hu⟩ : ∃ u, u = R (z % 2 == 1) (-1) ng := ⟨_, rfl⟩
    rw [← hu]
    have HU := hid hu
    clear hu
    cases u with
    | true =>
     go_wp2
     go_ret2
     exact ⟨ret_ib (by rw [HRV.out, ← HU.out]; rfl) HX.out.symm, (by repeat (first | exact bz0 _ _ | refine bz1 ?_ | refine bz2 ?_ _ | refine bz3 ?_ _ | refine bz4 ?_ hb9 | refine bz4 ?_ hb5 | refine bz4 ?_ bel4 | refine bz5 ?_ _ | refine bz6 ?_ _ | refine bz7 ?_ hb9 | refine bz7 ?_ hb5 | refine bz7 ?_ bel4))⟩
    | false =>
     go_wp2
     go_ret2
     exact ⟨ret_ib (by rw [HRV.out, ← HU.out]; rfl) HX.out.symm, (by repeat (first | exact bz0 _ _ | refine bz1 ?_ | refine bz2 ?_ _ | refine bz3 ?_ _ | refine bz4 ?_ hb9 | refine bz4 ?_ hb5 | refine bz4 ?_ bel4 | refine bz5 ?_ _ | refine bz6 ?_ _ | refine bz7 ?_ hb9 | refine bz7 ?_ hb5 | refine bz7 ?_ bel4))⟩
end Go.Proofs.YtkfjmcdniohljaaGreatDoor
