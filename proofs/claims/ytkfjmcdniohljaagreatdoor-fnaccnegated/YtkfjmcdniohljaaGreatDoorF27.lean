/-
  What is needed of RF, AccB.
-/
import Derived.Test.YtkfjmcdniohljaaGreatDoorF26
set_option maxHeartbeats 16000000
set_option maxRecDepth 1000000
namespace Go.Proofs.YtkfjmcdniohljaaGreatDoor
set_option linter.unusedVariables false
set_option linter.unusedSimpArgs false
open Go.RowKit Go.Deep
def fmtB (fm : Int) : Bool := decide (fm = 32) || decide (fm = 64)
def RdO (fm mode : Int) (ng : Bool) (zs : List Int) (e : Int) : Bool := fmtB fm && modeB mode && okB ng zs && inZ e (-10000) 10000
def RdB (fm mode : Int) (ng : Bool) (zs : List Int) (e : Int) : Int := if RdO fm mode ng zs e then (if zs.length = 0 then 0 else if fm = 32 then rdB 24 (-149) 2139095040 2147483648 mode ng (Nm.val zs).toNat e else rdB 53 (-1074) 9218868437227405312 9223372036854775808 mode ng (Nm.val zs).toNat e) else 0
def RdF (fm mode : Int) (ng : Bool) (zs : List Int) (e : Int) : Int := if RdO fm mode ng zs e then (if zs.length = 0 then 0 else if fm = 32 then rdF 24 (-149) 2139095040 mode ng (Nm.val zs).toNat e else rdF 53 (-1074) 9218868437227405312 mode ng (Nm.val zs).toNat e) else 0
theorem Rd_no {fm mode : Int} {ng : Bool} {zs : List Int} {e : Int} (h : RdO fm mode ng zs e = false) : RdB fm mode ng zs e = 0 ∧ RdF fm mode ng zs e = 0 := by unfold RdB RdF; rw [h]; exact ⟨rfl, rfl⟩
theorem Rd_zero {fm mode : Int} {ng : Bool} {zs : List Int} {e : Int} (h : zs.length = 0) : RdB fm mode ng zs e = 0 ∧ RdF fm mode ng zs e = 0 := by
 unfold RdB RdF; rw [if_pos h, if_pos h]; split <;> exact ⟨rfl, rfl⟩
theorem fmt_cases {fm : Int} (h : fmtB fm = true) : fm = 32 ∨ fm = 64 := by simpa [fmtB] using h
theorem fmt_no {fm : Int} (h : fmtB fm = false) : fm ≠ 32 ∧ fm ≠ 64 := by simpa [fmtB] using h
theorem lim_ok {ng : Bool} {zs : List Int} (d : Nm.Dg zs) (h : okB ng zs = true) : zs = Nm.lim (Nm.val zs).toNat ∧ bitLen (Nm.val zs).toNat ≤ 6400 := by
 obtain ⟨hz, hl⟩ := okB_nz h
 have e := (Nm.lim_of d hz).symm
 refine ⟨e, len_bl (k := 200) ?_⟩
 rw [← e]; exact hl
theorem fmt_spec (fm : Int) (w : World) :
  Calls Tryz.prog 96 #[.int .i64 fm] w fun e w' => e = .returned (.bool (fmtB fm)) ∧ w' = w := by
 cases h : fmtB fm
 ·obtain ⟨h1, h2⟩ := fmt_no h
  have e1 : (fm == 32) = false := by simpa using h1
  have e2 : (fm == 64) = false := by simpa using h2
  clear h h1 h2
  go_enter Tryz.func96, Tryz.ntmps96
  go_wp2
  go_ret
  exact ⟨rfl, rfl⟩
 ·rcases fmt_cases h with rfl | rfl
  ·go_enter Tryz.func96, Tryz.ntmps96
   go_wp2
   go_ret
   exact ⟨rfl, rfl⟩
  ·go_enter Tryz.func96, Tryz.ntmps96
   go_wp2
   go_ret
   exact ⟨rfl, rfl⟩
theorem form_spec (fm mode : Int) (ng : Bool) (zs : List Int) (e : Int) (p : Option Addr) (c : Nat) (w : World) (hs : Sl .u32 w (.slice p zs.length c) zs) (hl : zs.length ≤ 1048576) :
  Calls Tryz.prog 220 #[.int .i64 fm, .int .i64 mode, .agg #[.bool ng, .slice p zs.length c], .int .i64 e] w fun x w' => x = .returned (.bool (RdO fm mode ng zs e)) ∧ Below w.heap.size w w' := by
 have hl' : zs.length ≤ 140737488355328 := by omega
 have hk : RdO fm mode ng zs e = (fmtB fm && modeB mode && okB ng zs && inZ e (-10000) 10000) := rfl
 have HK := hid hk
 have C1 := hid (fun w' => fmt_spec fm w')
 have C2 := hid (fun w' => mode_spec mode w')
 have C3 := hid (fun w' h => ok_spec ng p c zs w' h hl')
 have C4 := hid (fun w' => in_any e (-10000) 10000 w')
 obtain ⟨b1, h1⟩ : ∃ b, b = fmtB fm := ⟨_, rfl⟩
 obtain ⟨b2, h2⟩ : ∃ b, b = modeB mode := ⟨_, rfl⟩
 obtain ⟨b3, h3⟩ : ∃ b, b = okB ng zs := ⟨_, rfl⟩
 obtain ⟨b4, h4⟩ : ∃ b, b = inZ e (-10000) 10000 := ⟨_, rfl⟩
 rw [← h1] at C1; rw [← h2] at C2; rw [← h3] at C3; rw [← h4] at C4; rw [← h1, ← h2, ← h3, ← h4] at HK
 clear h1 h2 h3 h4 hk
 cases b1 with
 | false =>
  go_enter Tryz.func220, Tryz.ntmps220
  go_wp2_with fail
  refine (C1.out _).mono ?_
  rintro x w1 ⟨rfl, rfl⟩
  go_wp2
  go_ret
  exact ⟨ret_bool HK.out.symm, (by repeat (first | exact bz0 _ _ | refine bz1 ?_ | refine bz2 ?_ _ | refine bz3 ?_ _ | refine bz5 ?_ _ | refine bz6 ?_ _))⟩
 | true =>
 cases b2 with
 | false =>
  go_enter Tryz.func220, Tryz.ntmps220
  go_wp2_with fail
  refine (C1.out _).mono ?_
  rintro x w1 ⟨rfl, rfl⟩
  go_wp2_with fail
  refine (C2.out _).mono ?_
  rintro x w2 ⟨rfl, rfl⟩
  go_wp2
  go_ret
  exact ⟨ret_bool HK.out.symm, (by repeat (first | exact bz0 _ _ | refine bz1 ?_ | refine bz2 ?_ _ | refine bz3 ?_ _ | refine bz5 ?_ _ | refine bz6 ?_ _))⟩
 | true =>
 cases b3 with
 | false =>
  go_enter Tryz.func220, Tryz.ntmps220
  go_wp2_with fail
  refine (C1.out _).mono ?_
  rintro x w1 ⟨rfl, rfl⟩
  go_wp2_with fail
  refine (C2.out _).mono ?_
  rintro x w2 ⟨rfl, rfl⟩
  go_wp2_with fail
  refine (C3.out _ (hs.alloc _)).mono ?_
  rintro x w3 ⟨rfl, hb3⟩
  go_wp2
  go_ret
  exact ⟨ret_bool HK.out.symm, (by repeat (first | exact bz0 _ _ | refine bz1 ?_ | refine bz2 ?_ _ | refine bz3 ?_ _ | refine bz4 ?_ hb3 | refine bz5 ?_ _ | refine bz6 ?_ _ | refine bz7 ?_ hb3))⟩
 | true =>
  go_enter Tryz.func220, Tryz.ntmps220
  go_wp2_with fail
  refine (C1.out _).mono ?_
  rintro x w1 ⟨rfl, rfl⟩
  go_wp2_with fail
  refine (C2.out _).mono ?_
  rintro x w2 ⟨rfl, rfl⟩
  go_wp2_with fail
  refine (C3.out _ (hs.alloc _)).mono ?_
  rintro x w3 ⟨rfl, hb3⟩
  go_wp2_with fail
  refine (C4.out _).mono ?_
  rintro x w4 ⟨rfl, rfl⟩
  go_wp2
  go_ret
  exact ⟨ret_bool (by rw [HK.out]; simp), (by repeat (first | exact bz0 _ _ | refine bz1 ?_ | refine bz2 ?_ _ | refine bz3 ?_ _ | refine bz4 ?_ hb3 | refine bz5 ?_ _ | refine bz6 ?_ _ | refine bz7 ?_ hb3))⟩
theorem rounded_spec (fm mode : Int) (ng : Bool) (zs : List Int) (e : Int) (p : Option Addr) (c : Nat) (w : World) (hs : Sl .u32 w (.slice p zs.length c) zs) (hz : Nm.Dg zs) (hl : zs.length ≤ 1048576) :
  Calls Tryz.prog 179 #[.int .i64 fm, .int .i64 mode, .agg #[.bool ng, .slice p zs.length c], .int .i64 e] w fun x w' => x = .returned (.tuple #[.int .u64 (RdB fm mode ng zs e), .int .i64 (RdF fm mode ng zs e), .bool (RdO fm mode ng zs e)]) ∧ Below w.heap.size w w' := by
 have C := hid (fun w' h => form_spec fm mode ng zs e p c w' h hl)
 cases hk : RdO fm mode ng zs e
 ·have HR := hid (Rd_no hk)
  rw [hk] at C
  clear hk
  go_enter Tryz.func179, Tryz.ntmps179
  go_wp2_with fail
  refine (C.out _ (hs.alloc _)).mono ?_
  rintro x w1 ⟨rfl, hb1⟩
  go_wp2
  go_ret3
  exact ⟨ret_uib2 HR.out.1.symm HR.out.2.symm rfl, (by repeat (first | exact bz0 _ _ | refine bz1 ?_ | refine bz2 ?_ _ | refine bz3 ?_ _ | refine bz4 ?_ hb1 | refine bz5 ?_ _ | refine bz6 ?_ _ | refine bz7 ?_ hb1))⟩
 rw [hk] at C
 by_cases h0 : zs.length = 0
 ·have HR := hid (Rd_zero (fm := fm) (mode := mode) (ng := ng) (e := e) h0)
  have hb0 : ((zs.length : Int) == 0) = true := by rw [beq_iff_eq]; omega
  clear hk h0
  go_enter Tryz.func179, Tryz.ntmps179
  go_wp2_with fail
  refine (C.out _ (hs.alloc _)).mono ?_
  rintro x w1 ⟨rfl, hb1⟩
  obtain ⟨x10, x11⟩ := (Box.new w (.bool ng) (.slice p zs.length c) 32).below hb1
  go_wp2
  go_ret3
  exact ⟨ret_uib2 HR.out.1.symm HR.out.2.symm rfl, (by repeat (first | exact bz0 _ _ | refine bz1 ?_ | refine bz2 ?_ _ | refine bz3 ?_ _ | refine bz4 ?_ hb1 | refine bz5 ?_ _ | refine bz6 ?_ _ | refine bz7 ?_ hb1))⟩
 ·have hb0 : ((zs.length : Int) == 0) = false := by rw [beq_eq_false_iff_ne]; omega
  have hk' := hk
  unfold RdO at hk'
  simp only [Bool.and_eq_true] at hk'
  obtain ⟨⟨⟨k1, k2⟩, k3⟩, k4⟩ := hk'
  have k5 := inZ_yes k4
  obtain ⟨hzl, hbl⟩ := lim_ok hz k3
  have ha : (Nm.val zs).toNat ≠ 0 := by
   intro h; rw [h, Nm.lim_zero] at hzl; rw [hzl] at h0; exact h0 rfl
  obtain ⟨a, haz⟩ : ∃ a, a = (Nm.val zs).toNat := ⟨_, rfl⟩
  rw [← haz] at hzl hbl ha
  have HB : Hid (RdB fm mode ng zs e = if fm = 32 then rdB 24 (-149) 2139095040 2147483648 mode ng a e else rdB 53 (-1074) 9218868437227405312 9223372036854775808 mode ng a e) := hid (by unfold RdB; rw [hk, if_pos rfl, if_neg h0, ← haz])
  have HF : Hid (RdF fm mode ng zs e = if fm = 32 then rdF 24 (-149) 2139095040 mode ng a e else rdF 53 (-1074) 9218868437227405312 mode ng a e) := hid (by unfold RdF; rw [hk, if_pos rfl, if_neg h0, ← haz])
  clear hk k4 h0 haz
  subst hzl
  rcases fmt_cases k1 with rfl | rfl
  ·go_enter Tryz.func179, Tryz.ntmps179
   go_wp2_with fail
   refine (C.out _ (hs.alloc _)).mono ?_
   rintro x w1 ⟨rfl, hb1⟩
   obtain ⟨x10, x11⟩ := (Box.new w (.bool ng) (.slice p (Nm.lim a).length c) 32).below hb1
   go_wp2_with fail
   refine (l3r_32 mode ng a e p c _ ((hs.alloc _).below hb1) k2 ha (by omega) (by omega) (by omega)).mono ?_
   rintro x w2 ⟨rfl, hb2⟩
   go_wp2
   go_ret3
   exact ⟨ret_uib2 (by rw [HB.out]; rfl) (by rw [HF.out]; rfl) rfl, (by repeat (first | exact bz0 _ _ | refine bz1 ?_ | refine bz2 ?_ _ | refine bz3 ?_ _ | refine bz4 ?_ hb2 | refine bz4 ?_ hb1 | refine bz5 ?_ _ | refine bz6 ?_ _ | refine bz7 ?_ hb2 | refine bz7 ?_ hb1))⟩
  ·go_enter Tryz.func179, Tryz.ntmps179
   go_wp2_with fail
   refine (C.out _ (hs.alloc _)).mono ?_
   rintro x w1 ⟨rfl, hb1⟩
   obtain ⟨x10, x11⟩ := (Box.new w (.bool ng) (.slice p (Nm.lim a).length c) 32).below hb1
   go_wp2_with fail
   refine (l3r_64 mode ng a e p c _ ((hs.alloc _).below hb1) k2 ha (by omega) (by omega) (by omega)).mono ?_
   rintro x w2 ⟨rfl, hb2⟩
   go_wp2
   go_ret3
   exact ⟨ret_uib2 (by rw [HB.out]; rfl) (by rw [HF.out]; rfl) rfl, (by repeat (first | exact bz0 _ _ | refine bz1 ?_ | refine bz2 ?_ _ | refine bz3 ?_ _ | refine bz4 ?_ hb2 | refine bz4 ?_ hb1 | refine bz5 ?_ _ | refine bz6 ?_ _ | refine bz7 ?_ hb2 | refine bz7 ?_ hb1))⟩
theorem rounded_impl (fm mode : Int) (ng : Bool) (zs : List Int) (e : Int) (p : Option Addr) (c : Nat) (w : World) (hT : T3 w) (hs : Sl .u32 w (.slice p zs.length c) zs) (hz : Nm.Dg zs) (hl : zs.length ≤ 1048576) :
  Calls Tryz.prog 57 #[.int .i64 fm, .int .i64 mode, .agg #[.bool ng, .slice p zs.length c], .int .i64 e] w fun x w' => x = .returned (.tuple #[.int .u64 (RdB fm mode ng zs e), .int .i64 (RdF fm mode ng zs e), .bool (RdO fm mode ng zs e)]) ∧ Below w.heap.size w w' := by
 have hl' : zs.length ≤ 140737488355328 := by omega
 cases k1 : fmtB fm
 ·obtain ⟨f1, f2⟩ := fmt_no k1
  have HO : Hid (RdO fm mode ng zs e = false) := hid (by unfold RdO; rw [k1]; rfl)
  have HR := hid (Rd_no HO.out)
  clear k1
  go_enter Tryz.func57, Tryz.ntmps57
  go_wp2_with fail
  refine (sizes0 fm _ (hT.s.f.al _) f1 f2).mono ?_
  rintro x w1 ⟨rfl, hb1⟩
  go_wp2
  go_ret3
  exact ⟨ret_uib2 HR.out.1.symm HR.out.2.symm HO.out.symm, (by repeat (first | exact bz0 _ _ | refine bz1 ?_ | refine bz2 ?_ _ | refine bz3 ?_ _ | refine bz4 ?_ hb1 | refine bz5 ?_ _ | refine bz6 ?_ _ | refine bz7 ?_ hb1))⟩
 rcases fmt_cases k1 with rfl | rfl
 ·cases k2 : modeB mode
  ·have HO : Hid (RdO 32 mode ng zs e = false) := hid (by unfold RdO; rw [k2]; simp)
   have HR := hid (Rd_no HO.out)
   have C2 := hid (fun w' => mode_impl mode w')
   rw [k2] at C2
   clear k2 k1
   go_enter Tryz.func57, Tryz.ntmps57
   go_wp2_with fail
   refine (sizes32 _ (hT.s.f.al _)).mono ?_
   rintro x w1 ⟨rfl, hb1⟩
   go_wp2_with fail
   refine (C2.out _).mono ?_
   rintro x w2 ⟨rfl, rfl⟩
   go_wp2
   go_ret3
   exact ⟨ret_uib2 HR.out.1.symm HR.out.2.symm HO.out.symm, (by repeat (first | exact bz0 _ _ | refine bz1 ?_ | refine bz2 ?_ _ | refine bz3 ?_ _ | refine bz4 ?_ hb1 | refine bz5 ?_ _ | refine bz6 ?_ _ | refine bz7 ?_ hb1))⟩
  cases k3 : okB ng zs
  ·have HO : Hid (RdO 32 mode ng zs e = false) := hid (by unfold RdO; rw [k3]; simp)
   have HR := hid (Rd_no HO.out)
   have C2 := hid (fun w' => mode_impl mode w')
   rw [k2] at C2
   have C3 := hid (fun w' h => ok_impl ng p c zs w' h hl')
   rw [k3] at C3
   clear k2 k1 k3
   go_enter Tryz.func57, Tryz.ntmps57
   go_wp2_with fail
   refine (sizes32 _ (hT.s.f.al _)).mono ?_
   rintro x w1 ⟨rfl, hb1⟩
   obtain ⟨x10, x11⟩ := ((Box.new w (.bool ng) (.slice p zs.length c) 32).below hb1).alloc (.cells #[.int .u64 23, .int .u64 255, .int .i64 (-149)] 121)
   go_wp2_with fail
   refine (C2.out _).mono ?_
   rintro x w2 ⟨rfl, rfl⟩
   go_wp2_with fail
   refine (C3.out _ (((hs.alloc _).below hb1).alloc _)).mono ?_
   rintro x w3 ⟨rfl, hb3⟩
   go_wp2
   go_ret3
   exact ⟨ret_uib2 HR.out.1.symm HR.out.2.symm HO.out.symm, (by repeat (first | exact bz0 _ _ | refine bz1 ?_ | refine bz2 ?_ _ | refine bz3 ?_ _ | refine bz4 ?_ hb3 | refine bz4 ?_ hb1 | refine bz5 ?_ _ | refine bz6 ?_ _ | refine bz7 ?_ hb3 | refine bz7 ?_ hb1))⟩
  have C2 := hid (fun w' => mode_impl mode w')
  rw [k2] at C2
  have C3 := hid (fun w' h => ok_impl ng p c zs w' h hl')
  rw [k3] at C3
  by_cases k4 : e < -10000 ∨ 10000 < e
  ·have HO : Hid (RdO 32 mode ng zs e = false) := hid (by
    unfold RdO inZ
    rcases k4 with h | h
    ·rw [decide_eq_false (show ¬ -10000 ≤ e by omega)]; simp
    ·rw [decide_eq_false (show ¬ e ≤ 10000 by omega)]; simp)
   have HR := hid (Rd_no HO.out)
   clear k2 k1 k3
   by_cases k5 : e < -10000
   all_goals
    by_cases k6 : 10000 < e
    all_goals first
     | (exfalso; omega)
     | skip
    all_goals
     clear k4
     go_enter Tryz.func57, Tryz.ntmps57
     go_wp2_with fail
     refine (sizes32 _ (hT.s.f.al _)).mono ?_
     rintro x w1 ⟨rfl, hb1⟩
     obtain ⟨x10, x11⟩ := ((Box.new w (.bool ng) (.slice p zs.length c) 32).below hb1).alloc (.cells #[.int .u64 23, .int .u64 255, .int .i64 (-149)] 121)
     go_wp2_with fail
     refine (C2.out _).mono ?_
     rintro x w2 ⟨rfl, rfl⟩
     go_wp2_with fail
     refine (C3.out _ (((hs.alloc _).below hb1).alloc _)).mono ?_
     rintro x w3 ⟨rfl, hb3⟩
     go_wp2
     go_ret3
     exact ⟨ret_uib2 HR.out.1.symm HR.out.2.symm HO.out.symm, (by repeat (first | exact bz0 _ _ | refine bz1 ?_ | refine bz2 ?_ _ | refine bz3 ?_ _ | refine bz4 ?_ hb3 | refine bz4 ?_ hb1 | refine bz5 ?_ _ | refine bz6 ?_ _ | refine bz7 ?_ hb3 | refine bz7 ?_ hb1))⟩
  have e0 : -10000 ≤ e := by omega
  have e1 : e ≤ 10000 := by omega
  have hO : RdO 32 mode ng zs e = true := by unfold RdO inZ; rw [k1, k2, k3, decide_eq_true e0, decide_eq_true e1]; rfl
  have HO := hid hO
  clear k4
  by_cases h0 : zs.length = 0
  ·have HR := hid (Rd_zero (fm := 32) (mode := mode) (ng := ng) (e := e) h0)
   have hb0 : ((zs.length : Int) == 0) = true := by rw [beq_iff_eq]; omega
   clear k1 k2 k3 h0 hO
   go_enter Tryz.func57, Tryz.ntmps57
   go_wp2_with fail
   refine (sizes32 _ (hT.s.f.al _)).mono ?_
   rintro x w1 ⟨rfl, hb1⟩
   have T1 := ((hT.s.f.al _).below hb1).al (.cells #[.int .u64 23, .int .u64 255, .int .i64 (-149)] 121)
   have x1 := ((Box.new w (.bool ng) (.slice p zs.length c) 32).below hb1).alloc (.cells #[.int .u64 23, .int .u64 255, .int .i64 (-149)] 121)
   have x1' := x1
   obtain ⟨x10, x11⟩ := x1'
   go_wp2_with fail
   refine (C2.out _).mono ?_
   rintro x w2 ⟨rfl, rfl⟩
   go_wp2_with fail
   refine (C3.out _ (((hs.alloc _).below hb1).alloc _)).mono ?_
   rintro x w3 ⟨rfl, hb3⟩
   obtain ⟨x30, x31⟩ := x1.below hb3
   go_wp2_with fail
   refine (impl_Zero32 false _ (T1.below hb3)).mono ?_
   rintro x w4 ⟨rfl, hb4⟩
   go_wp2
   go_ret3
   exact ⟨ret_uib2 (by rw [HR.out.1]; rfl) HR.out.2.symm HO.out.symm, (by repeat (first | exact bz0 _ _ | refine bz1 ?_ | refine bz2 ?_ _ | refine bz3 ?_ _ | refine bz4 ?_ hb4 | refine bz4 ?_ hb3 | refine bz4 ?_ hb1 | refine bz5 ?_ _ | refine bz6 ?_ _ | refine bz7 ?_ hb4 | refine bz7 ?_ hb3 | refine bz7 ?_ hb1))⟩
  ·obtain ⟨hzl, hbl⟩ := lim_ok hz k3
   have ha : (Nm.val zs).toNat ≠ 0 := by
    intro h; rw [h, Nm.lim_zero] at hzl; rw [hzl] at h0; exact h0 rfl
   obtain ⟨a, haz⟩ : ∃ a, a = (Nm.val zs).toNat := ⟨_, rfl⟩
   rw [← haz] at hzl hbl ha
   subst hzl
   refine (rnd_32 mode ng a e p c w hT hs k2 ha hbl e0 e1).mono ?_
   rintro x w1 ⟨rfl, hb1⟩
   refine ⟨ret_uib2 ?_ ?_ hO.symm, hb1⟩
   ·unfold RdB; rw [hO, if_pos rfl, if_neg h0, ← haz]; rfl
   ·unfold RdF; rw [hO, if_pos rfl, if_neg h0, ← haz]; rfl
 ·cases k2 : modeB mode
  ·have HO : Hid (RdO 64 mode ng zs e = false) := hid (by unfold RdO; rw [k2]; simp)
   have HR := hid (Rd_no HO.out)
   have C2 := hid (fun w' => mode_impl mode w')
   rw [k2] at C2
   clear k2 k1
   go_enter Tryz.func57, Tryz.ntmps57
   go_wp2_with fail
   refine (sizes64 _ (hT.s.f.al _)).mono ?_
   rintro x w1 ⟨rfl, hb1⟩
   go_wp2_with fail
   refine (C2.out _).mono ?_
   rintro x w2 ⟨rfl, rfl⟩
   go_wp2
   go_ret3
   exact ⟨ret_uib2 HR.out.1.symm HR.out.2.symm HO.out.symm, (by repeat (first | exact bz0 _ _ | refine bz1 ?_ | refine bz2 ?_ _ | refine bz3 ?_ _ | refine bz4 ?_ hb1 | refine bz5 ?_ _ | refine bz6 ?_ _ | refine bz7 ?_ hb1))⟩
  cases k3 : okB ng zs
  ·have HO : Hid (RdO 64 mode ng zs e = false) := hid (by unfold RdO; rw [k3]; simp)
   have HR := hid (Rd_no HO.out)
   have C2 := hid (fun w' => mode_impl mode w')
   rw [k2] at C2
   have C3 := hid (fun w' h => ok_impl ng p c zs w' h hl')
   rw [k3] at C3
   clear k2 k1 k3
   go_enter Tryz.func57, Tryz.ntmps57
   go_wp2_with fail
   refine (sizes64 _ (hT.s.f.al _)).mono ?_
   rintro x w1 ⟨rfl, hb1⟩
   obtain ⟨x10, x11⟩ := ((Box.new w (.bool ng) (.slice p zs.length c) 32).below hb1).alloc (.cells #[.int .u64 52, .int .u64 2047, .int .i64 (-1074)] 121)
   go_wp2_with fail
   refine (C2.out _).mono ?_
   rintro x w2 ⟨rfl, rfl⟩
   go_wp2_with fail
   refine (C3.out _ (((hs.alloc _).below hb1).alloc _)).mono ?_
   rintro x w3 ⟨rfl, hb3⟩
   go_wp2
   go_ret3
   exact ⟨ret_uib2 HR.out.1.symm HR.out.2.symm HO.out.symm, (by repeat (first | exact bz0 _ _ | refine bz1 ?_ | refine bz2 ?_ _ | refine bz3 ?_ _ | refine bz4 ?_ hb3 | refine bz4 ?_ hb1 | refine bz5 ?_ _ | refine bz6 ?_ _ | refine bz7 ?_ hb3 | refine bz7 ?_ hb1))⟩
  have C2 := hid (fun w' => mode_impl mode w')
  rw [k2] at C2
  have C3 := hid (fun w' h => ok_impl ng p c zs w' h hl')
  rw [k3] at C3
  by_cases k4 : e < -10000 ∨ 10000 < e
  ·have HO : Hid (RdO 64 mode ng zs e = false) := hid (by
    unfold RdO inZ
    rcases k4 with h | h
    ·rw [decide_eq_false (show ¬ -10000 ≤ e by omega)]; simp
    ·rw [decide_eq_false (show ¬ e ≤ 10000 by omega)]; simp)
   have HR := hid (Rd_no HO.out)
   clear k2 k1 k3
   by_cases k5 : e < -10000
   all_goals
    by_cases k6 : 10000 < e
    all_goals first
     | (exfalso; omega)
     | skip
    all_goals
     clear k4
     go_enter Tryz.func57, Tryz.ntmps57
     go_wp2_with fail
     refine (sizes64 _ (hT.s.f.al _)).mono ?_
     rintro x w1 ⟨rfl, hb1⟩
     obtain ⟨x10, x11⟩ := ((Box.new w (.bool ng) (.slice p zs.length c) 32).below hb1).alloc (.cells #[.int .u64 52, .int .u64 2047, .int .i64 (-1074)] 121)
     go_wp2_with fail
     refine (C2.out _).mono ?_
     rintro x w2 ⟨rfl, rfl⟩
     go_wp2_with fail
     refine (C3.out _ (((hs.alloc _).below hb1).alloc _)).mono ?_
     rintro x w3 ⟨rfl, hb3⟩
     go_wp2
     go_ret3
     exact ⟨ret_uib2 HR.out.1.symm HR.out.2.symm HO.out.symm, (by repeat (first | exact bz0 _ _ | refine bz1 ?_ | refine bz2 ?_ _ | refine bz3 ?_ _ | refine bz4 ?_ hb3 | refine bz4 ?_ hb1 | refine bz5 ?_ _ | refine bz6 ?_ _ | refine bz7 ?_ hb3 | refine bz7 ?_ hb1))⟩
  have e0 : -10000 ≤ e := by omega
  have e1 : e ≤ 10000 := by omega
  have hO : RdO 64 mode ng zs e = true := by unfold RdO inZ; rw [k1, k2, k3, decide_eq_true e0, decide_eq_true e1]; rfl
  have HO := hid hO
  clear k4
  by_cases h0 : zs.length = 0
  ·have HR := hid (Rd_zero (fm := 64) (mode := mode) (ng := ng) (e := e) h0)
   have hb0 : ((zs.length : Int) == 0) = true := by rw [beq_iff_eq]; omega
   clear k1 k2 k3 h0 hO
   go_enter Tryz.func57, Tryz.ntmps57
   go_wp2_with fail
   refine (sizes64 _ (hT.s.f.al _)).mono ?_
   rintro x w1 ⟨rfl, hb1⟩
   have T1 := ((hT.s.f.al _).below hb1).al (.cells #[.int .u64 52, .int .u64 2047, .int .i64 (-1074)] 121)
   have x1 := ((Box.new w (.bool ng) (.slice p zs.length c) 32).below hb1).alloc (.cells #[.int .u64 52, .int .u64 2047, .int .i64 (-1074)] 121)
   have x1' := x1
   obtain ⟨x10, x11⟩ := x1'
   go_wp2_with fail
   refine (C2.out _).mono ?_
   rintro x w2 ⟨rfl, rfl⟩
   go_wp2_with fail
   refine (C3.out _ (((hs.alloc _).below hb1).alloc _)).mono ?_
   rintro x w3 ⟨rfl, hb3⟩
   obtain ⟨x30, x31⟩ := x1.below hb3
   go_wp2_with fail
   refine (impl_Zero64 false _ (T1.below hb3)).mono ?_
   rintro x w4 ⟨rfl, hb4⟩
   go_wp2
   go_ret3
   exact ⟨ret_uib2 (by rw [HR.out.1]; rfl) HR.out.2.symm HO.out.symm, (by repeat (first | exact bz0 _ _ | refine bz1 ?_ | refine bz2 ?_ _ | refine bz3 ?_ _ | refine bz4 ?_ hb4 | refine bz4 ?_ hb3 | refine bz4 ?_ hb1 | refine bz5 ?_ _ | refine bz6 ?_ _ | refine bz7 ?_ hb4 | refine bz7 ?_ hb3 | refine bz7 ?_ hb1))⟩
  ·obtain ⟨hzl, hbl⟩ := lim_ok hz k3
   have ha : (Nm.val zs).toNat ≠ 0 := by
    intro h; rw [h, Nm.lim_zero] at hzl; rw [hzl] at h0; exact h0 rfl
   obtain ⟨a, haz⟩ : ∃ a, a = (Nm.val zs).toNat := ⟨_, rfl⟩
   rw [← haz] at hzl hbl ha
   subst hzl
   refine (rnd_64 mode ng a e p c w hT hs k2 ha hbl e0 e1).mono ?_
   rintro x w1 ⟨rfl, hb1⟩
   refine ⟨ret_uib2 ?_ ?_ hO.symm, hb1⟩
   ·unfold RdB; rw [hO, if_pos rfl, if_neg h0, ← haz]; rfl
   ·unfold RdF; rw [hO, if_pos rfl, if_neg h0, ← haz]; rfl
def mkB (T : Int) (nn bd pl mi am : Bool) : Bool := decide (0 ≤ T) && decide (T ≤ 1000000) && !(bd && !nn) && !(decide (T = 0) && (nn || bd || pl || mi || am)) && !(am && (nn || bd || pl || mi))
theorem mk_lo {T : Int} {nn bd pl mi am : Bool} (h : T < 0) : mkB T nn bd pl mi am = false := by unfold mkB; rw [decide_eq_false (show ¬ 0 ≤ T by omega)]; rfl
theorem mk_hi {T : Int} {nn bd pl mi am : Bool} (h : T > 1000000) : mkB T nn bd pl mi am = false := by unfold mkB; rw [decide_eq_false (show ¬ T ≤ 1000000 by omega)]; simp
theorem mk_in {T : Int} {nn bd pl mi am : Bool} (h0 : ¬ T < 0) (h1 : ¬ T > 1000000) : mkB T nn bd pl mi am = (!(bd && !nn) && !(decide (T = 0) && ((nn || bd || pl || mi) || am)) && !(am && (nn || bd || pl || mi))) := by
 unfold mkB; rw [decide_eq_true (show 0 ≤ T by omega), decide_eq_true (show T ≤ 1000000 by omega)]; rfl
theorem marks_impl (T : Int) (nn bd pl mi am : Bool) (w : World) :
  Calls Tryz.prog 204 #[.agg #[.int .i64 T, .bool nn, .bool bd, .bool pl, .bool mi, .bool am]] w fun e w' => e = .returned (.bool (mkB T nn bd pl mi am)) ∧ Below w.heap.size w w' := by
 obtain ⟨fl, hfl⟩ : ∃ fl, fl = (nn || bd || pl || mi) := ⟨_, rfl⟩
 have HL := hid (mk_lo (T := T) (nn := nn) (bd := bd) (pl := pl) (mi := mi) (am := am))
 have HH := hid (mk_hi (T := T) (nn := nn) (bd := bd) (pl := pl) (mi := mi) (am := am))
 have HI := hid (mk_in (T := T) (nn := nn) (bd := bd) (pl := pl) (mi := mi) (am := am))
 rw [← hfl] at HI
 have HF := hid hfl
 clear hfl
 go_enter Tryz.func204, Tryz.ntmps204
 go_upto_region 1 with fail
 go_cut [3] (fun v3 wx => v3 = .bool fl ∧ wx = w.alloc (.cells #[.int .i64 T, .bool nn, .bool bd, .bool pl, .bool mi, .bool am] 143))
 case first =>
  cases nn with
  | true => go_wp2_with fail; go_meet; exact ⟨by rw [HF.out]; rfl, rfl⟩
  | false =>
  cases bd with
  | true => go_wp2_with fail; go_meet; exact ⟨by rw [HF.out]; rfl, rfl⟩
  | false =>
  cases pl with
  | true => go_wp2_with fail; go_meet; exact ⟨by rw [HF.out]; rfl, rfl⟩
  | false => go_wp2_with fail; go_meet; exact ⟨by rw [HF.out]; rfl, rfl⟩
 case rest =>
 obtain ⟨rfl, rfl⟩ := hcut
 clear HF
 by_cases h1 : T < 0
 ·go_wp2
  go_ret
  exact ⟨ret_bool (HL.out h1).symm, (by repeat (first | exact bz0 _ _ | refine bz1 ?_ | refine bz2 ?_ _ | refine bz3 ?_ _ | refine bz5 ?_ _ | refine bz6 ?_ _))⟩
 by_cases h2 : T > 1000000
 ·go_wp2
  go_ret
  exact ⟨ret_bool (HH.out h2).symm, (by repeat (first | exact bz0 _ _ | refine bz1 ?_ | refine bz2 ?_ _ | refine bz3 ?_ _ | refine bz5 ?_ _ | refine bz6 ?_ _))⟩
 have HR := hid (HI.out h1 h2)
 clear HL HH HI
 cases bd with
 | true =>
  cases nn with
  | false =>
   go_wp2
   go_ret
   exact ⟨ret_bool HR.out.symm, (by repeat (first | exact bz0 _ _ | refine bz1 ?_ | refine bz2 ?_ _ | refine bz3 ?_ _ | refine bz5 ?_ _ | refine bz6 ?_ _))⟩
  | true =>
   have HR : Hid (mkB T true true pl mi am = (!(decide (T = 0) && (fl || am)) && !(am && fl))) := HR
   by_cases h3 : T = 0
   ·subst h3
    cases fl with
    | true => go_wp2; go_ret; exact ⟨ret_bool HR.out.symm, (by repeat (first | exact bz0 _ _ | refine bz1 ?_ | refine bz2 ?_ _ | refine bz3 ?_ _ | refine bz5 ?_ _ | refine bz6 ?_ _))⟩
    | false => cases am <;> (go_wp2; go_ret; exact ⟨ret_bool HR.out.symm, (by repeat (first | exact bz0 _ _ | refine bz1 ?_ | refine bz2 ?_ _ | refine bz3 ?_ _ | refine bz5 ?_ _ | refine bz6 ?_ _))⟩)
   ·have h3' : (T == 0) = false := by simpa using h3
    rw [decide_eq_false h3] at HR
    clear h3
    cases am with
    | false => go_wp2; go_ret; exact ⟨ret_bool HR.out.symm, (by repeat (first | exact bz0 _ _ | refine bz1 ?_ | refine bz2 ?_ _ | refine bz3 ?_ _ | refine bz5 ?_ _ | refine bz6 ?_ _))⟩
    | true => cases fl <;> (go_wp2; go_ret; exact ⟨ret_bool HR.out.symm, (by repeat (first | exact bz0 _ _ | refine bz1 ?_ | refine bz2 ?_ _ | refine bz3 ?_ _ | refine bz5 ?_ _ | refine bz6 ?_ _))⟩)
 | false =>
   have HR : Hid (mkB T nn false pl mi am = (!(decide (T = 0) && (fl || am)) && !(am && fl))) := HR
   by_cases h3 : T = 0
   ·subst h3
    cases fl with
    | true => go_wp2; go_ret; exact ⟨ret_bool HR.out.symm, (by repeat (first | exact bz0 _ _ | refine bz1 ?_ | refine bz2 ?_ _ | refine bz3 ?_ _ | refine bz5 ?_ _ | refine bz6 ?_ _))⟩
    | false => cases am <;> (go_wp2; go_ret; exact ⟨ret_bool HR.out.symm, (by repeat (first | exact bz0 _ _ | refine bz1 ?_ | refine bz2 ?_ _ | refine bz3 ?_ _ | refine bz5 ?_ _ | refine bz6 ?_ _))⟩)
   ·have h3' : (T == 0) = false := by simpa using h3
    rw [decide_eq_false h3] at HR
    clear h3
    cases am with
    | false => go_wp2; go_ret; exact ⟨ret_bool HR.out.symm, (by repeat (first | exact bz0 _ _ | refine bz1 ?_ | refine bz2 ?_ _ | refine bz3 ?_ _ | refine bz5 ?_ _ | refine bz6 ?_ _))⟩
    | true => cases fl <;> (go_wp2; go_ret; exact ⟨ret_bool HR.out.symm, (by repeat (first | exact bz0 _ _ | refine bz1 ?_ | refine bz2 ?_ _ | refine bz3 ?_ _ | refine bz5 ?_ _ | refine bz6 ?_ _))⟩)
theorem prec32 (w : World) :
  Calls Tryz.prog 156 #[.agg #[.int .u64 23, .int .u64 255, .int .i64 (-149)]] w fun e w' => e = .returned (.int .i64 24) ∧ Below w.heap.size w w' := by
 go_enter Tryz.func156, Tryz.ntmps156
 go_wp2
 go_ret
 exact ⟨rfl, (by repeat (first | exact bz0 _ _ | refine bz1 ?_ | refine bz2 ?_ _ | refine bz3 ?_ _ | refine bz5 ?_ _ | refine bz6 ?_ _))⟩
theorem reach32 (w : World) :
  Calls Tryz.prog 205 #[.agg #[.int .u64 23, .int .u64 255, .int .i64 (-149)]] w fun e w' => e = .returned (.int .i64 277) ∧ Below w.heap.size w w' := by
 go_enter Tryz.func205, Tryz.ntmps205
 go_wp2_with fail
 have z1 := Z3.new w (.int .u64 23) (.int .u64 255) (.int .i64 (-149)) 121
 go_region_held3 (fun w' => w'.cell? ⟨w.heap.size, 0, none⟩ = some (.int .u64 23) ∧ w'.cell? ⟨w.heap.size, 1, none⟩ = some (.int .u64 255) ∧ w'.cell? ⟨w.heap.size, 2, none⟩ = some (.int .i64 (-149))) (first | assumption | exact z1.drew)
  (first
   | (go_at_call 156; refine (prec32 _).mono ?_; rintro e w1 ⟨rfl, hb1⟩; have z2 := Z3.below (Z3.drew z1) hb1))
 go_wp2
 go_ret
 exact ⟨rfl, (by repeat (first | exact bz0 _ _ | refine bz1 ?_ | refine bz2 ?_ _ | refine bz3 ?_ _ | refine bz4 ?_ hb1 | refine bz5 ?_ _ | refine bz6 ?_ _ | refine bz7 ?_ hb1))⟩
theorem most32 (w : World) :
  Calls Tryz.prog 143 #[.int .i64 32] w fun e w' => e = .returned (.int .i64 (2 * 277)) ∧ w' = w := by
 go_enter Tryz.func143, Tryz.ntmps143
 go_wp2
 go_ret
 exact ⟨rfl, rfl⟩
theorem prec64 (w : World) :
  Calls Tryz.prog 156 #[.agg #[.int .u64 52, .int .u64 2047, .int .i64 (-1074)]] w fun e w' => e = .returned (.int .i64 53) ∧ Below w.heap.size w w' := by
 go_enter Tryz.func156, Tryz.ntmps156
 go_wp2
 go_ret
 exact ⟨rfl, (by repeat (first | exact bz0 _ _ | refine bz1 ?_ | refine bz2 ?_ _ | refine bz3 ?_ _ | refine bz5 ?_ _ | refine bz6 ?_ _))⟩
theorem reach64 (w : World) :
  Calls Tryz.prog 205 #[.agg #[.int .u64 52, .int .u64 2047, .int .i64 (-1074)]] w fun e w' => e = .returned (.int .i64 2098) ∧ Below w.heap.size w w' := by
 go_enter Tryz.func205, Tryz.ntmps205
 go_wp2_with fail
 have z1 := Z3.new w (.int .u64 52) (.int .u64 2047) (.int .i64 (-1074)) 121
 go_region_held3 (fun w' => w'.cell? ⟨w.heap.size, 0, none⟩ = some (.int .u64 52) ∧ w'.cell? ⟨w.heap.size, 1, none⟩ = some (.int .u64 2047) ∧ w'.cell? ⟨w.heap.size, 2, none⟩ = some (.int .i64 (-1074))) (first | assumption | exact z1.drew)
  (first
   | (go_at_call 156; refine (prec64 _).mono ?_; rintro e w1 ⟨rfl, hb1⟩; have z2 := Z3.below (Z3.drew z1) hb1))
 go_wp2
 go_ret
 exact ⟨rfl, (by repeat (first | exact bz0 _ _ | refine bz1 ?_ | refine bz2 ?_ _ | refine bz3 ?_ _ | refine bz4 ?_ hb1 | refine bz5 ?_ _ | refine bz6 ?_ _ | refine bz7 ?_ hb1))⟩
theorem most64 (w : World) :
  Calls Tryz.prog 143 #[.int .i64 64] w fun e w' => e = .returned (.int .i64 (2 * 2098)) ∧ w' = w := by
 go_enter Tryz.func143, Tryz.ntmps143
 go_wp2
 go_ret
 exact ⟨rfl, rfl⟩
theorem tally_any (fm : Int) (ng : Bool) (T : Int) (nn bd pl mi am : Bool) (a : Option Addr) (n c : Nat) (w : World) :
  Calls Tryz.prog 122 #[.agg #[.int .i64 fm, .bool ng, .slice a n c, .int .i64 T, .bool nn, .bool bd, .bool pl, .bool mi, .bool am]] w fun e w' => e = .returned (.agg #[.int .i64 T, .bool nn, .bool bd, .bool pl, .bool mi, .bool am, .int .i64 fm, .bool ng, .slice a n c]) ∧ Below w.heap.size w w' := by
 go_enter Tryz.func122, Tryz.ntmps122
 go_wp2
 refine bodyPost_ret (v := .agg #[.int .i64 T, .bool nn, .bool bd, .bool pl, .bool mi, .bool am, .int .i64 fm, .bool ng, .slice a n c]) (by simp [results, Tryz.results122, go_sem]) rfl ⟨rfl, ?_⟩
 exact (by (repeat with_reducible first | refine Below.setCell ?_ ?_ _ | exact bz0 _ _ | refine bz1 ?_ | refine bz2 ?_ _ | refine bz3 ?_ _ | refine Below.alloc ?_ ?_ _) <;> first | omega | (simp; done) | (simp; omega))
end Go.Proofs.YtkfjmcdniohljaaGreatDoor
