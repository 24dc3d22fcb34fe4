/-
  What is needed of RF.
-/
import Derived.Test.YtkfjmcdniohljaaGreatDoorE36
set_option maxHeartbeats 16000000
set_option maxRecDepth 1000000
namespace Go.Proofs.YtkfjmcdniohljaaGreatDoor
set_option linter.unusedVariables false
set_option linter.unusedSimpArgs false
open Go.RowKit Go.Deep
theorem rounded_impl (fm mode : Int) (ng : Bool) (zs : List Int) (e : Int) (p : Option Addr) (c : Nat) (w : World) (hT : T3 w) (hs : Sl .u32 w (.slice p zs.length c) zs) (hz : Nm.Dg zs) (hl : zs.length ≤ 1048576) :
    Calls Tryz.prog 57 #[.int .i64 fm, .int .i64 mode, .agg #[.bool ng, .slice p zs.length c], .int .i64 e] w fun x w' => x = .returned (.tuple #[.int .u64 (RdB fm mode ng zs e), .int .i64 (RdF fm mode ng zs e), .bool (RdO fm mode ng zs e)]) ∧ Below w.heap.size w w' := by
  have hl' : zs.length ≤ 140737488355328 := by omega
  cases k1 : fmtB fm
  · obtain ⟨f1, f2⟩ := fmt_no k1
    have HO : Hid (RdO fm mode ng zs e = false) := hid (by unfold RdO; rw [k1]; rfl)
    have HR := hid (Rd_no HO.out)
    clear k1
    go_enter Tryz.func57, Tryz.ntmps57
    go_wp2_with fail
    refine (sizes0 fm _ (hT.s.f.al _) f1 f2).mono ?_
    rintro x w1 ⟨rfl, hb1⟩
    go_wp2
    go_ret3
    exact ⟨ret_uib2 HR.out.1.symm HR.out.2.symm HO.out.symm, (by repeat (first | exact bz0 _ _ | refine bz1 ?_ | refine bz2 ?_ _ | refine bz3 ?_ _ | refine bz4 ?_ hb1 | refine bz5 ?_ _ | refine bz6 ?_ _ | refine bz7 ?_ hb1))⟩
  rcases fmt_cases k1 with rfl | rfl
  · cases k2 : modeB mode
    · have HO : Hid (RdO 32 mode ng zs e = false) := hid (by unfold RdO; rw [k2]; simp)
      have HR := hid (Rd_no HO.out)
      have C2 := hid (fun w' => mode_impl mode w')
      rw [k2] at C2
      clear k2 k1
      go_enter Tryz.func57, Tryz.ntmps57
      go_wp2_with fail
      refine (sizes32 _ (hT.s.f.al _)).mono ?_
      rintro x w1 ⟨rfl, hb1⟩
      go_wp2_with fail
      refine (C2.out _).mono ?_
      rintro x w2 ⟨rfl, rfl⟩
      go_wp2
      go_ret3
      exact ⟨ret_uib2 HR.out.1.symm HR.out.2.symm HO.out.symm, (by repeat (first | exact bz0 _ _ | refine bz1 ?_ | refine bz2 ?_ _ | refine bz3 ?_ _ | refine bz4 ?_ hb1 | refine bz5 ?_ _ | refine bz6 ?_ _ | refine bz7 ?_ hb1))⟩
    cases k3 : okB ng zs
    · have HO : Hid (RdO 32 mode ng zs e = false) := hid (by unfold RdO; rw [k3]; simp)
      have HR := hid (Rd_no HO.out)
      have C2 := hid (fun w' => mode_impl mode w')
      rw [k2] at C2
      have C3 := hid (fun w' h => ok_impl ng p c zs w' h hl')
      rw [k3] at C3
      clear k2 k1 k3
      go_enter Tryz.func57, Tryz.ntmps57
      go_wp2_with fail
      refine (sizes32 _ (hT.s.f.al _)).mono ?_
      rintro x w1 ⟨rfl, hb1⟩
      obtain ⟨x10, x11⟩ := ((Box.new w (.bool ng) (.slice p zs.length c) 32).below hb1).alloc (.cells #[.int .u64 23, .int .u64 255, .int .i64 (-149)] 121)
      go_wp2_with fail
      refine (C2.out _).mono ?_
      rintro x w2 ⟨rfl, rfl⟩
      go_wp2_with fail
      refine (C3.out _ (((hs.alloc _).below hb1).alloc _)).mono ?_
      rintro x w3 ⟨rfl, hb3⟩
      go_wp2
      go_ret3
      exact ⟨ret_uib2 HR.out.1.symm HR.out.2.symm HO.out.symm, (by repeat (first | exact bz0 _ _ | refine bz1 ?_ | refine bz2 ?_ _ | refine bz3 ?_ _ | refine bz4 ?_ hb3 | refine bz4 ?_ hb1 | refine bz5 ?_ _ | refine bz6 ?_ _ | refine bz7 ?_ hb3 | refine bz7 ?_ hb1))⟩
    have C2 := hid (fun w' => mode_impl mode w')
    rw [k2] at C2
    have C3 := hid (fun w' h => ok_impl ng p c zs w' h hl')
    rw [k3] at C3
    by_cases k4 : e < -10000 ∨ 10000 < e
    · have HO : Hid (RdO 32 mode ng zs e = false) := hid (by
        unfold RdO inZ
        rcases k4 with h | h
        · rw [decide_eq_false (show ¬ -10000 ≤ e by omega)]; simp
        · rw [decide_eq_false (show ¬ e ≤ 10000 by omega)]; simp)
      have HR := hid (Rd_no HO.out)
      clear k2 k1 k3
      by_cases k5 : e < -10000
      all_goals
        by_cases k6 : 10000 < e
        all_goals first
          | (exfalso; omega)
          | skip
        all_goals
          clear k4
          go_enter Tryz.func57, Tryz.ntmps57
          go_wp2_with fail
          refine (sizes32 _ (hT.s.f.al _)).mono ?_
          rintro x w1 ⟨rfl, hb1⟩
          obtain ⟨x10, x11⟩ := ((Box.new w (.bool ng) (.slice p zs.length c) 32).below hb1).alloc (.cells #[.int .u64 23, .int .u64 255, .int .i64 (-149)] 121)
          go_wp2_with fail
          refine (C2.out _).mono ?_
          rintro x w2 ⟨rfl, rfl⟩
          go_wp2_with fail
          refine (C3.out _ (((hs.alloc _).below hb1).alloc _)).mono ?_
          rintro x w3 ⟨rfl, hb3⟩
          go_wp2
          go_ret3
          exact ⟨ret_uib2 HR.out.1.symm HR.out.2.symm HO.out.symm, (by repeat (first | exact bz0 _ _ | refine bz1 ?_ | refine bz2 ?_ _ | refine bz3 ?_ _ | refine bz4 ?_ hb3 | refine bz4 ?_ hb1 | refine bz5 ?_ _ | refine bz6 ?_ _ | refine bz7 ?_ hb3 | refine bz7 ?_ hb1))⟩
    have e0 : -10000 ≤ e := by omega
    have e1 : e ≤ 10000 := by omega
    have hO : RdO 32 mode ng zs e = true := by unfold RdO inZ; rw [k1, k2, k3, decide_eq_true e0, decide_eq_true e1]; rfl
    have HO := hid hO
    clear k4
    by_cases h0 : zs.length = 0
    · have HR := hid (Rd_zero (fm := 32) (mode := mode) (ng := ng) (e := e) h0)
      have hb0 : ((zs.length : Int) == 0) = true := by rw [beq_iff_eq]; omega
      clear k1 k2 k3 h0 hO
      go_enter Tryz.func57, Tryz.ntmps57
      go_wp2_with fail
      refine (sizes32 _ (hT.s.f.al _)).mono ?_
      rintro x w1 ⟨rfl, hb1⟩
      have T1 := ((hT.s.f.al _).below hb1).al (.cells #[.int .u64 23, .int .u64 255, .int .i64 (-149)] 121)
      have x1 := ((Box.new w (.bool ng) (.slice p zs.length c) 32).below hb1).alloc (.cells #[.int .u64 23, .int .u64 255, .int .i64 (-149)] 121)
      have x1' := x1
      obtain ⟨x10, x11⟩ := x1'
      go_wp2_with fail
      refine (C2.out _).mono ?_
      rintro x w2 ⟨rfl, rfl⟩
      go_wp2_with fail
      refine (C3.out _ (((hs.alloc _).below hb1).alloc _)).mono ?_
      rintro x w3 ⟨rfl, hb3⟩
      obtain ⟨x30, x31⟩ := x1.below hb3
      go_wp2_with fail
      refine (impl_Zero32 false _ (T1.below hb3)).mono ?_
      rintro x w4 ⟨rfl, hb4⟩
      go_wp2
      go_ret3
      exact ⟨ret_uib2 (by rw [HR.out.1]; rfl) HR.out.2.symm HO.out.symm, (by repeat (first | exact bz0 _ _ | refine bz1 ?_ | refine bz2 ?_ _ | refine bz3 ?_ _ | refine bz4 ?_ hb4 | refine bz4 ?_ hb3 | refine bz4 ?_ hb1 | refine bz5 ?_ _ | refine bz6 ?_ _ | refine bz7 ?_ hb4 | refine bz7 ?_ hb3 | refine bz7 ?_ hb1))⟩
    · obtain ⟨hzl, hbl⟩ := lim_ok hz k3
      have ha : (Nm.val zs).toNat ≠ 0 := by
        intro h; rw [h, Nm.lim_zero] at hzl; rw [hzl] at h0; exact h0 rfl
      obtain ⟨a, haz⟩ : ∃ a, a = (Nm.val zs).toNat := ⟨_, rfl⟩
      rw [← haz] at hzl hbl ha
      subst hzl
      refine (rnd_32 mode ng a e p c w hT hs k2 ha hbl e0 e1).mono ?_
      rintro x w1 ⟨rfl, hb1⟩
      refine ⟨ret_uib2 ?_ ?_ hO.symm, hb1⟩
      · unfold RdB; rw [hO, if_pos rfl, if_neg h0, ← haz]; rfl
      · unfold RdF; rw [hO, if_pos rfl, if_neg h0, ← haz]; rfl
  · cases k2 : modeB mode
    · have HO : Hid (RdO 64 mode ng zs e = false) := hid (by unfold RdO; rw [k2]; simp)
      have HR := hid (Rd_no HO.out)
      have C2 := hid (fun w' => mode_impl mode w')
      rw [k2] at C2
      clear k2 k1
      go_enter Tryz.func57, Tryz.ntmps57
      go_wp2_with fail
      refine (sizes64 _ (hT.s.f.al _)).mono ?_
      rintro x w1 ⟨rfl, hb1⟩
      go_wp2_with fail
      refine (C2.out _).mono ?_
      rintro x w2 ⟨rfl, rfl⟩
      go_wp2
      go_ret3
      exact ⟨ret_uib2 HR.out.1.symm HR.out.2.symm HO.out.symm, (by repeat (first | exact bz0 _ _ | refine bz1 ?_ | refine bz2 ?_ _ | refine bz3 ?_ _ | refine bz4 ?_ hb1 | refine bz5 ?_ _ | refine bz6 ?_ _ | refine bz7 ?_ hb1))⟩
    cases k3 : okB ng zs
    · have HO : Hid (RdO 64 mode ng zs e = false) := hid (by unfold RdO; rw [k3]; simp)
      have HR := hid (Rd_no HO.out)
      have C2 := hid (fun w' => mode_impl mode w')
      rw [k2] at C2
      have C3 := hid (fun w' h => ok_impl ng p c zs w' h hl')
      rw [k3] at C3
      clear k2 k1 k3
      go_enter Tryz.func57, Tryz.ntmps57
      go_wp2_with fail
      refine (sizes64 _ (hT.s.f.al _)).mono ?_
      rintro x w1 ⟨rfl, hb1⟩
      obtain ⟨x10, x11⟩ := ((Box.new w (.bool ng) (.slice p zs.length c) 32).below hb1).alloc (.cells #[.int .u64 52, .int .u64 2047, .int .i64 (-1074)] 121)
      go_wp2_with fail
      refine (C2.out _).mono ?_
      rintro x w2 ⟨rfl, rfl⟩
      go_wp2_with fail
      refine (C3.out _ (((hs.alloc _).below hb1).alloc _)).mono ?_
      rintro x w3 ⟨rfl, hb3⟩
      go_wp2
      go_ret3
      exact ⟨ret_uib2 HR.out.1.symm HR.out.2.symm HO.out.symm, (by repeat (first | exact bz0 _ _ | refine bz1 ?_ | refine bz2 ?_ _ | refine bz3 ?_ _ | refine bz4 ?_ hb3 | refine bz4 ?_ hb1 | refine bz5 ?_ _ | refine bz6 ?_ _ | refine bz7 ?_ hb3 | refine bz7 ?_ hb1))⟩
    have C2 := hid (fun w' => mode_impl mode w')
    rw [k2] at C2
    have C3 := hid (fun w' h => ok_impl ng p c zs w' h hl')
    rw [k3] at C3
    by_cases k4 : e < -10000 ∨ 10000 < e
    · have HO : Hid (RdO 64 mode ng zs e = false) := hid (by
        unfold RdO inZ
        rcases k4 with h | h
        · rw [decide_eq_false (show ¬ -10000 ≤ e by omega)]; simp
        · rw [decide_eq_false (show ¬ e ≤ 10000 by omega)]; simp)
      have HR := hid (Rd_no HO.out)
      clear k2 k1 k3
      by_cases k5 : e < -10000
      all_goals
        by_cases k6 : 10000 < e
        all_goals first
          | (exfalso; omega)
          | skip
        all_goals
          clear k4
          go_enter Tryz.func57, Tryz.ntmps57
          go_wp2_with fail
          refine (sizes64 _ (hT.s.f.al _)).mono ?_
          rintro x w1 ⟨rfl, hb1⟩
          obtain ⟨x10, x11⟩ := ((Box.new w (.bool ng) (.slice p zs.length c) 32).below hb1).alloc (.cells #[.int .u64 52, .int .u64 2047, .int .i64 (-1074)] 121)
          go_wp2_with fail
          refine (C2.out _).mono ?_
          rintro x w2 ⟨rfl, rfl⟩
          go_wp2_with fail
          refine (C3.out _ (((hs.alloc _).below hb1).alloc _)).mono ?_
          rintro x w3 ⟨rfl, hb3⟩
          go_wp2
          go_ret3
          exact ⟨ret_uib2 HR.out.1.symm HR.out.2.symm HO.out.symm, (by repeat (first | exact bz0 _ _ | refine bz1 ?_ | refine bz2 ?_ _ | refine bz3 ?_ _ | refine bz4 ?_ hb3 | refine bz4 ?_ hb1 | refine bz5 ?_ _ | refine bz6 ?_ _ | refine bz7 ?_ hb3 | refine bz7 ?_ hb1))⟩
    have e0 : -10000 ≤ e := by omega
    have e1 : e ≤ 10000 := by omega
    have hO : RdO 64 mode ng zs e = true := by unfold RdO inZ; rw [k1, k2, k3, decide_eq_true e0, decide_eq_true e1]; rfl
    have HO := hid hO
    clear k4
    by_cases h0 : zs.length = 0
    · have HR := hid (Rd_zero (fm := 64) (mode := mode) (ng := ng) (e := e) h0)
      have hb0 : ((zs.length : Int) == 0) = true := by rw [beq_iff_eq]; omega
      clear k1 k2 k3 h0 hO
      go_enter Tryz.func57, Tryz.ntmps57
      go_wp2_with fail
      refine (sizes64 _ (hT.s.f.al _)).mono ?_
      rintro x w1 ⟨rfl, hb1⟩
      have T1 := ((hT.s.f.al _).below hb1).al (.cells #[.int .u64 52, .int .u64 2047, .int .i64 (-1074)] 121)
      have x1 := ((Box.new w (.bool ng) (.slice p zs.length c) 32).below hb1).alloc (.cells #[.int .u64 52, .int .u64 2047, .int .i64 (-1074)] 121)
      have x1' := x1
      obtain ⟨x10, x11⟩ := x1'
      go_wp2_with fail
      refine (C2.out _).mono ?_
      rintro x w2 ⟨rfl, rfl⟩
      go_wp2_with fail
      refine (C3.out _ (((hs.alloc _).below hb1).alloc _)).mono ?_
      rintro x w3 ⟨rfl, hb3⟩
      obtain ⟨x30, x31⟩ := x1.below hb3
      go_wp2_with fail
      refine (impl_Zero64 false _ (T1.below hb3)).mono ?_
      rintro x w4 ⟨rfl, hb4⟩
      go_wp2
      go_ret3
      exact ⟨ret_uib2 (by rw [HR.out.1]; rfl) HR.out.2.symm HO.out.symm, (by repeat (first | exact bz0 _ _ | refine bz1 ?_ | refine bz2 ?_ _ | refine bz3 ?_ _ | refine bz4 ?_ hb4 | refine bz4 ?_ hb3 | refine bz4 ?_ hb1 | refine bz5 ?_ _ | refine bz6 ?_ _ | refine bz7 ?_ hb4 | refine bz7 ?_ hb3 | refine bz7 ?_ hb1))⟩
    · obtain ⟨hzl, hbl⟩ := lim_ok hz k3
      have ha : (Nm.val zs).toNat ≠ 0 := by
        intro h; rw [h, Nm.lim_zero] at hzl; rw [hzl] at h0; exact h0 rfl
      obtain ⟨a, haz⟩ : ∃ a, a = (Nm.val zs).toNat := ⟨_, rfl⟩
      rw [← haz] at hzl hbl ha
      subst hzl
      refine (rnd_64 mode ng a e p c w hT hs k2 ha hbl e0 e1).mono ?_
      rintro x w1 ⟨rfl, hb1⟩
      refine ⟨ret_uib2 ?_ ?_ hO.symm, hb1⟩
      · unfold RdB; rw [hO, if_pos rfl, if_neg h0, ← haz]; rfl
      · unfold RdF; rw [hO, if_pos rfl, if_neg h0, ← haz]; rfl
end Go.Proofs.YtkfjmcdniohljaaGreatDoor
