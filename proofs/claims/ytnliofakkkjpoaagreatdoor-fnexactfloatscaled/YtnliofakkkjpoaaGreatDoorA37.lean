/-
  What is needed of LaidB, RF, NO, AccI, LaidF.
-/
import Derived.Test.YtnliofakkkjpoaaGreatDoorA15
import Derived.Test.YtnliofakkkjpoaaGreatDoorA35
set_option maxHeartbeats 16000000
set_option maxRecDepth 1000000
namespace Go.Proofs.YtnliofakkkjpoaaGreatDoor
set_option linter.unusedVariables false
set_option linter.unusedSimpArgs false
namespace Ld
open Go.RowKit Go.Deep
def zs32 : List Int := Lib.deBruijn32tab.map Int.ofNat
theorem tb32 {W : World} (h : laidMet Tryz.prog [("math/bits.deBruijn32tab", Rows.laid_math_bits_deBruijn32tab)] W) : Tb W 3 Lib.deBruijn32tab := by
  have h' : laidMet Tryz.prog (("math/bits.deBruijn32tab", Lib.tabData .u8 zs32) :: []) W := h
  have hg : Tryz.prog.globalNamed "math/bits.deBruijn32tab" = some 3 := by kernel_rfl
  have ht := Lib.tabIs_of_head (g := 3) (t := 242) (e := 5) (n := 32) hg (by kernel_rfl) Tryz.underlying242 Tryz.underlying5 (by kernel_rfl) (by kernel_rfl) h'
  intro i hi
  have := ht.cell hg i (by simpa [zs32] using hi)
  rw [this]
  congr 2
  unfold zs32
  rw [List.getD_eq_getElem?_getD, List.getElem?_map, List.getD_eq_getElem?_getD, List.getElem?_eq_getElem hi]; rfl
def zs64 : List Int := Lib.deBruijn64tab.map Int.ofNat
theorem tb64 {W : World} (h : laidMet Tryz.prog [("math/bits.deBruijn64tab", Rows.laid_math_bits_deBruijn64tab)] W) : Tb W 4 Lib.deBruijn64tab := by
  have h' : laidMet Tryz.prog (("math/bits.deBruijn64tab", Lib.tabData .u8 zs64) :: []) W := h
  have hg : Tryz.prog.globalNamed "math/bits.deBruijn64tab" = some 4 := by kernel_rfl
  have ht := Lib.tabIs_of_head (g := 4) (t := 243) (e := 5) (n := 64) hg (by kernel_rfl) Tryz.underlying243 Tryz.underlying5 (by kernel_rfl) (by kernel_rfl) h'
  intro i hi
  have := ht.cell hg i (by simpa [zs64] using hi)
  rw [this]
  congr 2
  unfold zs64
  rw [List.getD_eq_getElem?_getD, List.getElem?_map, List.getD_eq_getElem?_getD, List.getElem?_eq_getElem hi]; rfl
end Ld
open Go.RowKit Go.Deep
def RdO (fm mode : Int) (ng : Bool) (zs : List Int) (e : Int) : Bool := fmtB fm && modeB mode && okB ng zs && inZ e (-10000) 10000
def RdB (fm mode : Int) (ng : Bool) (zs : List Int) (e : Int) : Int := if RdO fm mode ng zs e then (if zs.length = 0 then 0 else if fm = 32 then rdB 24 (-149) 2139095040 2147483648 mode ng (Nm.val zs).toNat e else rdB 53 (-1074) 9218868437227405312 9223372036854775808 mode ng (Nm.val zs).toNat e) else 0
def RdF (fm mode : Int) (ng : Bool) (zs : List Int) (e : Int) : Int := if RdO fm mode ng zs e then (if zs.length = 0 then 0 else if fm = 32 then rdF 24 (-149) 2139095040 mode ng (Nm.val zs).toNat e else rdF 53 (-1074) 9218868437227405312 mode ng (Nm.val zs).toNat e) else 0
theorem Rd_no {fm mode : Int} {ng : Bool} {zs : List Int} {e : Int} (h : RdO fm mode ng zs e = false) : RdB fm mode ng zs e = 0 ∧ RdF fm mode ng zs e = 0 := by unfold RdB RdF; rw [h]; exact ⟨rfl, rfl⟩
theorem Rd_zero {fm mode : Int} {ng : Bool} {zs : List Int} {e : Int} (h : zs.length = 0) : RdB fm mode ng zs e = 0 ∧ RdF fm mode ng zs e = 0 := by
  unfold RdB RdF; rw [if_pos h, if_pos h]; split <;> exact ⟨rfl, rfl⟩
/-- Right limbs are those of a number. -/
theorem lim_ok {ng : Bool} {zs : List Int} (d : Nm.Dg zs) (h : okB ng zs = true) : zs = Nm.lim (Nm.val zs).toNat ∧ bitLen (Nm.val zs).toNat ≤ 6400 := by
  obtain ⟨hz, hl⟩ := okB_nz h
  have e := (Nm.lim_of d hz).symm
  refine ⟨e, len_bl (k := 200) ?_⟩
  rw [← e]; exact hl
theorem rounded_impl (fm mode : Int) (ng : Bool) (zs : List Int) (e : Int) (p : Option Addr) (c : Nat) (w : World) (hT : T3 w) (hs : Sl .u32 w (.slice p zs.length c) zs) (hz : Nm.Dg zs) (hl : zs.length ≤ 1048576) :
    Calls Tryz.prog 157 #[.int .i64 fm, .int .i64 mode, .agg #[.bool ng, .slice p zs.length c], .int .i64 e] w fun x w' => x = .returned (.tuple #[.int .u64 (RdB fm mode ng zs e), .int .i64 (RdF fm mode ng zs e), .bool (RdO fm mode ng zs e)]) ∧ Below w.heap.size w w' := by
  have hl' : zs.length ≤ 140737488355328 := by omega
  cases k1 : fmtB fm
  · obtain ⟨f1, f2⟩ := fmt_no k1
    have HO : Hid (RdO fm mode ng zs e = false) := hid (by unfold RdO; rw [k1]; rfl)
    have HR := hid (Rd_no HO.out)
    clear k1
    go_enter Tryz.func157, Tryz.ntmps157
    go_wp2_with fail
    refine (sizes0 fm _ (hT.s.f.al _) f1 f2).mono ?_
    rintro x w1 ⟨rfl, hb1⟩
    go_wp2
    go_ret3
    exact ⟨ret_uib2 HR.out.1.symm HR.out.2.symm HO.out.symm, (by repeat (first | exact bz0 _ _ | refine bz1 ?_ | refine bz2 ?_ _ | refine bz3 ?_ _ | refine bz4 ?_ hb1 | refine bz5 ?_ _ | refine bz6 ?_ _ | refine bz7 ?_ hb1))⟩
  rcases fmt_cases k1 with rfl | rfl
  · cases k2 : modeB mode
    · have HO : Hid (RdO 32 mode ng zs e = false) := hid (by unfold RdO; rw [k2]; simp)
      have HR := hid (Rd_no HO.out)
      have C2 := hid (fun w' => mode_impl mode w')
      rw [k2] at C2
      clear k2 k1
      go_enter Tryz.func157, Tryz.ntmps157
      go_wp2_with fail
      refine (sizes32 _ (hT.s.f.al _)).mono ?_
      rintro x w1 ⟨rfl, hb1⟩
      go_wp2_with fail
      refine (C2.out _).mono ?_
      rintro x w2 ⟨rfl, rfl⟩
      go_wp2
      go_ret3
      exact ⟨ret_uib2 HR.out.1.symm HR.out.2.symm HO.out.symm, (by repeat (first | exact bz0 _ _ | refine bz1 ?_ | refine bz2 ?_ _ | refine bz3 ?_ _ | refine bz4 ?_ hb1 | refine bz5 ?_ _ | refine bz6 ?_ _ | refine bz7 ?_ hb1))⟩
    cases k3 : okB ng zs
    · have HO : Hid (RdO 32 mode ng zs e = false) := hid (by unfold RdO; rw [k3]; simp)
      have HR := hid (Rd_no HO.out)
      have C2 := hid (fun w' => mode_impl mode w')
      rw [k2] at C2
      have C3 := hid (fun w' h => ok_impl ng p c zs w' h hl')
      rw [k3] at C3
      clear k2 k1 k3
      go_enter Tryz.func157, Tryz.ntmps157
      go_wp2_with fail
      refine (sizes32 _ (hT.s.f.al _)).mono ?_
      rintro x w1 ⟨rfl, hb1⟩
      obtain ⟨x10, x11⟩ := ((Box.new w (.bool ng) (.slice p zs.length c) 29).below hb1).alloc (.cells #[.int .u64 23, .int .u64 255, .int .i64 (-149)] 157)
      go_wp2_with fail
      refine (C2.out _).mono ?_
      rintro x w2 ⟨rfl, rfl⟩
      go_wp2_with fail
      refine (C3.out _ (((hs.alloc _).below hb1).alloc _)).mono ?_
      rintro x w3 ⟨rfl, hb3⟩
      go_wp2
      go_ret3
      exact ⟨ret_uib2 HR.out.1.symm HR.out.2.symm HO.out.symm, (by repeat (first | exact bz0 _ _ | refine bz1 ?_ | refine bz2 ?_ _ | refine bz3 ?_ _ | refine bz4 ?_ hb3 | refine bz4 ?_ hb1 | refine bz5 ?_ _ | refine bz6 ?_ _ | refine bz7 ?_ hb3 | refine bz7 ?_ hb1))⟩
    have C2 := hid (fun w' => mode_impl mode w')
    rw [k2] at C2
    have C3 := hid (fun w' h => ok_impl ng p c zs w' h hl')
    rw [k3] at C3
    by_cases k4 : e < -10000 ∨ 10000 < e
    · have HO : Hid (RdO 32 mode ng zs e = false) := hid (by
        unfold RdO inZ
        rcases k4 with h | h
        · rw [decide_eq_false (show ¬ -10000 ≤ e by omega)]; simp
        · rw [decide_eq_false (show ¬ e ≤ 10000 by omega)]; simp)
      have HR := hid (Rd_no HO.out)
      clear k2 k1 k3
      by_cases k5 : e < -10000
      all_goals
        by_cases k6 : 10000 < e
        all_goals first
          | (exfalso; omega)
          | skip
        all_goals
          clear k4
          go_enter Tryz.func157, Tryz.ntmps157
          go_wp2_with fail
          refine (sizes32 _ (hT.s.f.al _)).mono ?_
          rintro x w1 ⟨rfl, hb1⟩
          obtain ⟨x10, x11⟩ := ((Box.new w (.bool ng) (.slice p zs.length c) 29).below hb1).alloc (.cells #[.int .u64 23, .int .u64 255, .int .i64 (-149)] 157)
          go_wp2_with fail
          refine (C2.out _).mono ?_
          rintro x w2 ⟨rfl, rfl⟩
          go_wp2_with fail
          refine (C3.out _ (((hs.alloc _).below hb1).alloc _)).mono ?_
          rintro x w3 ⟨rfl, hb3⟩
          go_wp2
          go_ret3
          exact ⟨ret_uib2 HR.out.1.symm HR.out.2.symm HO.out.symm, (by repeat (first | exact bz0 _ _ | refine bz1 ?_ | refine bz2 ?_ _ | refine bz3 ?_ _ | refine bz4 ?_ hb3 | refine bz4 ?_ hb1 | refine bz5 ?_ _ | refine bz6 ?_ _ | refine bz7 ?_ hb3 | refine bz7 ?_ hb1))⟩
    have e0 : -10000 ≤ e := by omega
    have e1 : e ≤ 10000 := by omega
    have hO : RdO 32 mode ng zs e = true := by unfold RdO inZ; rw [k1, k2, k3, decide_eq_true e0, decide_eq_true e1]; rfl
    have HO := hid hO
    clear k4
    by_cases h0 : zs.length = 0
    · have HR := hid (Rd_zero (fm := 32) (mode := mode) (ng := ng) (e := e) h0)
      have hb0 : ((zs.length : Int) == 0) = true := by rw [beq_iff_eq]; omega
      clear k1 k2 k3 h0 hO
      go_enter Tryz.func157, Tryz.ntmps157
      go_wp2_with fail
      refine (sizes32 _ (hT.s.f.al _)).mono ?_
      rintro x w1 ⟨rfl, hb1⟩
      have T1 := ((hT.s.f.al _).below hb1).al (.cells #[.int .u64 23, .int .u64 255, .int .i64 (-149)] 157)
      have x1 := ((Box.new w (.bool ng) (.slice p zs.length c) 29).below hb1).alloc (.cells #[.int .u64 23, .int .u64 255, .int .i64 (-149)] 157)
      have x1' := x1
      obtain ⟨x10, x11⟩ := x1'
      go_wp2_with fail
      refine (C2.out _).mono ?_
      rintro x w2 ⟨rfl, rfl⟩
      go_wp2_with fail
      refine (C3.out _ (((hs.alloc _).below hb1).alloc _)).mono ?_
      rintro x w3 ⟨rfl, hb3⟩
      obtain ⟨x30, x31⟩ := x1.below hb3
      go_wp2_with fail
      refine (impl_Zero32 false _ (T1.below hb3)).mono ?_
      rintro x w4 ⟨rfl, hb4⟩
      go_wp2
      go_ret3
      exact ⟨ret_uib2 (by rw [HR.out.1]; rfl) HR.out.2.symm HO.out.symm, (by repeat (first | exact bz0 _ _ | refine bz1 ?_ | refine bz2 ?_ _ | refine bz3 ?_ _ | refine bz4 ?_ hb4 | refine bz4 ?_ hb3 | refine bz4 ?_ hb1 | refine bz5 ?_ _ | refine bz6 ?_ _ | refine bz7 ?_ hb4 | refine bz7 ?_ hb3 | refine bz7 ?_ hb1))⟩
    · obtain ⟨hzl, hbl⟩ := lim_ok hz k3
      have ha : (Nm.val zs).toNat ≠ 0 := by
        intro h; rw [h, Nm.lim_zero] at hzl; rw [hzl] at h0; exact h0 rfl
      obtain ⟨a, haz⟩ : ∃ a, a = (Nm.val zs).toNat := ⟨_, rfl⟩
      rw [← haz] at hzl hbl ha
      subst hzl
      refine (rnd_32 mode ng a e p c w hT hs k2 ha hbl e0 e1).mono ?_
      rintro x w1 ⟨rfl, hb1⟩
      refine ⟨ret_uib2 ?_ ?_ hO.symm, hb1⟩
      · unfold RdB; rw [hO, if_pos rfl, if_neg h0, ← haz]; rfl
      · unfold RdF; rw [hO, if_pos rfl, if_neg h0, ← haz]; rfl
  · cases k2 : modeB mode
    · have HO : Hid (RdO 64 mode ng zs e = false) := hid (by unfold RdO; rw [k2]; simp)
      have HR := hid (Rd_no HO.out)
      have C2 := hid (fun w' => mode_impl mode w')
      rw [k2] at C2
      clear k2 k1
      go_enter Tryz.func157, Tryz.ntmps157
      go_wp2_with fail
      refine (sizes64 _ (hT.s.f.al _)).mono ?_
      rintro x w1 ⟨rfl, hb1⟩
      go_wp2_with fail
      refine (C2.out _).mono ?_
      rintro x w2 ⟨rfl, rfl⟩
      go_wp2
      go_ret3
      exact ⟨ret_uib2 HR.out.1.symm HR.out.2.symm HO.out.symm, (by repeat (first | exact bz0 _ _ | refine bz1 ?_ | refine bz2 ?_ _ | refine bz3 ?_ _ | refine bz4 ?_ hb1 | refine bz5 ?_ _ | refine bz6 ?_ _ | refine bz7 ?_ hb1))⟩
    cases k3 : okB ng zs
    · have HO : Hid (RdO 64 mode ng zs e = false) := hid (by unfold RdO; rw [k3]; simp)
      have HR := hid (Rd_no HO.out)
      have C2 := hid (fun w' => mode_impl mode w')
      rw [k2] at C2
      have C3 := hid (fun w' h => ok_impl ng p c zs w' h hl')
      rw [k3] at C3
      clear k2 k1 k3
      go_enter Tryz.func157, Tryz.ntmps157
      go_wp2_with fail
      refine (sizes64 _ (hT.s.f.al _)).mono ?_
      rintro x w1 ⟨rfl, hb1⟩
      obtain ⟨x10, x11⟩ := ((Box.new w (.bool ng) (.slice p zs.length c) 29).below hb1).alloc (.cells #[.int .u64 52, .int .u64 2047, .int .i64 (-1074)] 157)
      go_wp2_with fail
      refine (C2.out _).mono ?_
      rintro x w2 ⟨rfl, rfl⟩
      go_wp2_with fail
      refine (C3.out _ (((hs.alloc _).below hb1).alloc _)).mono ?_
      rintro x w3 ⟨rfl, hb3⟩
      go_wp2
      go_ret3
      exact ⟨ret_uib2 HR.out.1.symm HR.out.2.symm HO.out.symm, (by repeat (first | exact bz0 _ _ | refine bz1 ?_ | refine bz2 ?_ _ | refine bz3 ?_ _ | refine bz4 ?_ hb3 | refine bz4 ?_ hb1 | refine bz5 ?_ _ | refine bz6 ?_ _ | refine bz7 ?_ hb3 | refine bz7 ?_ hb1))⟩
    have C2 := hid (fun w' => mode_impl mode w')
    rw [k2] at C2
    have C3 := hid (fun w' h => ok_impl ng p c zs w' h hl')
    rw [k3] at C3
    by_cases k4 : e < -10000 ∨ 10000 < e
    · have HO : Hid (RdO 64 mode ng zs e = false) := hid (by
        unfold RdO inZ
        rcases k4 with h | h
        · rw [decide_eq_false (show ¬ -10000 ≤ e by omega)]; simp
        · rw [decide_eq_false (show ¬ e ≤ 10000 by omega)]; simp)
      have HR := hid (Rd_no HO.out)
      clear k2 k1 k3
      by_cases k5 : e < -10000
      all_goals
        by_cases k6 : 10000 < e
        all_goals first
          | (exfalso; omega)
          | skip
        all_goals
          clear k4
          go_enter Tryz.func157, Tryz.ntmps157
          go_wp2_with fail
          refine (sizes64 _ (hT.s.f.al _)).mono ?_
          rintro x w1 ⟨rfl, hb1⟩
          obtain ⟨x10, x11⟩ := ((Box.new w (.bool ng) (.slice p zs.length c) 29).below hb1).alloc (.cells #[.int .u64 52, .int .u64 2047, .int .i64 (-1074)] 157)
          go_wp2_with fail
          refine (C2.out _).mono ?_
          rintro x w2 ⟨rfl, rfl⟩
          go_wp2_with fail
          refine (C3.out _ (((hs.alloc _).below hb1).alloc _)).mono ?_
          rintro x w3 ⟨rfl, hb3⟩
          go_wp2
          go_ret3
          exact ⟨ret_uib2 HR.out.1.symm HR.out.2.symm HO.out.symm, (by repeat (first | exact bz0 _ _ | refine bz1 ?_ | refine bz2 ?_ _ | refine bz3 ?_ _ | refine bz4 ?_ hb3 | refine bz4 ?_ hb1 | refine bz5 ?_ _ | refine bz6 ?_ _ | refine bz7 ?_ hb3 | refine bz7 ?_ hb1))⟩
    have e0 : -10000 ≤ e := by omega
    have e1 : e ≤ 10000 := by omega
    have hO : RdO 64 mode ng zs e = true := by unfold RdO inZ; rw [k1, k2, k3, decide_eq_true e0, decide_eq_true e1]; rfl
    have HO := hid hO
    clear k4
    by_cases h0 : zs.length = 0
    · have HR := hid (Rd_zero (fm := 64) (mode := mode) (ng := ng) (e := e) h0)
      have hb0 : ((zs.length : Int) == 0) = true := by rw [beq_iff_eq]; omega
      clear k1 k2 k3 h0 hO
      go_enter Tryz.func157, Tryz.ntmps157
      go_wp2_with fail
      refine (sizes64 _ (hT.s.f.al _)).mono ?_
      rintro x w1 ⟨rfl, hb1⟩
      have T1 := ((hT.s.f.al _).below hb1).al (.cells #[.int .u64 52, .int .u64 2047, .int .i64 (-1074)] 157)
      have x1 := ((Box.new w (.bool ng) (.slice p zs.length c) 29).below hb1).alloc (.cells #[.int .u64 52, .int .u64 2047, .int .i64 (-1074)] 157)
      have x1' := x1
      obtain ⟨x10, x11⟩ := x1'
      go_wp2_with fail
      refine (C2.out _).mono ?_
      rintro x w2 ⟨rfl, rfl⟩
      go_wp2_with fail
      refine (C3.out _ (((hs.alloc _).below hb1).alloc _)).mono ?_
      rintro x w3 ⟨rfl, hb3⟩
      obtain ⟨x30, x31⟩ := x1.below hb3
      go_wp2_with fail
      refine (impl_Zero64 false _ (T1.below hb3)).mono ?_
      rintro x w4 ⟨rfl, hb4⟩
      go_wp2
      go_ret3
      exact ⟨ret_uib2 (by rw [HR.out.1]; rfl) HR.out.2.symm HO.out.symm, (by repeat (first | exact bz0 _ _ | refine bz1 ?_ | refine bz2 ?_ _ | refine bz3 ?_ _ | refine bz4 ?_ hb4 | refine bz4 ?_ hb3 | refine bz4 ?_ hb1 | refine bz5 ?_ _ | refine bz6 ?_ _ | refine bz7 ?_ hb4 | refine bz7 ?_ hb3 | refine bz7 ?_ hb1))⟩
    · obtain ⟨hzl, hbl⟩ := lim_ok hz k3
      have ha : (Nm.val zs).toNat ≠ 0 := by
        intro h; rw [h, Nm.lim_zero] at hzl; rw [hzl] at h0; exact h0 rfl
      obtain ⟨a, haz⟩ : ∃ a, a = (Nm.val zs).toNat := ⟨_, rfl⟩
      rw [← haz] at hzl hbl ha
      subst hzl
      refine (rnd_64 mode ng a e p c w hT hs k2 ha hbl e0 e1).mono ?_
      rintro x w1 ⟨rfl, hb1⟩
      refine ⟨ret_uib2 ?_ ?_ hO.symm, hb1⟩
      · unfold RdB; rw [hO, if_pos rfl, if_neg h0, ← haz]; rfl
      · unfold RdF; rw [hO, if_pos rfl, if_neg h0, ← haz]; rfl
theorem E3.ee {u : Value} {w : World} (h : E3 u w) : EE u w := ⟨h.t.s.f, h.g, h.q⟩
theorem nanS32 (w : World) :
    Calls Tryz.prog 102 #[.int .i64 32] w fun e w' => e = .returned (.int .u64 2143289344) ∧ Below w.heap.size w w' := by
  go_enter Tryz.func102, Tryz.ntmps102
  go_wp2
  go_ret
  exact ⟨rfl, (by repeat (first | exact bz0 _ _ | refine bz1 ?_ | refine bz2 ?_ _ | refine bz3 ?_ _ | refine bz5 ?_ _ | refine bz6 ?_ _))⟩
theorem l3r_at32 (mode : Int) (ng : Bool) (zs : List Int) (e : Int) (p : Option Addr) (cap : Nat) (w : World) (hs : Sl .u32 w (.slice p zs.length cap) zs) (hz : Nm.Dg zs) (h0 : zs.length ≠ 0) (ho : RdO 32 mode ng zs e = true) :
    Calls Tryz.prog 94 #[.int .i64 32, .int .i64 mode, .agg #[.bool ng, .slice p zs.length cap], .int .i64 e] w fun x w' => x = .returned (.tuple #[.int .u64 (RdB 32 mode ng zs e), .int .i64 (RdF 32 mode ng zs e)]) ∧ Below w.heap.size w w' := by
  have hk := ho
  unfold RdO at hk
  simp only [Bool.and_eq_true] at hk
  obtain ⟨⟨⟨k1, k2⟩, k3⟩, k4⟩ := hk
  have k5 := inZ_yes k4
  obtain ⟨hzl, hbl⟩ := lim_ok hz k3
  have ha : (Nm.val zs).toNat ≠ 0 := by
    intro h; rw [h, Nm.lim_zero] at hzl; rw [hzl] at h0; exact h0 rfl
  have hB : RdB 32 mode ng zs e = rdB 24 (-149) 2139095040 2147483648 mode ng (Nm.val zs).toNat e := by unfold RdB; rw [ho, if_pos rfl, if_neg h0]; rfl
  have hF : RdF 32 mode ng zs e = rdF 24 (-149) 2139095040 mode ng (Nm.val zs).toNat e := by unfold RdF; rw [ho, if_pos rfl, if_neg h0]; rfl
  rw [hB, hF]
  obtain ⟨a, haz⟩ : ∃ a, a = (Nm.val zs).toNat := ⟨_, rfl⟩
  rw [← haz] at hzl hbl ha ⊢
  clear hB hF haz ho k3 hz h0
  subst hzl
  exact l3r_32 mode ng a e p cap w hs k2 ha (by omega) (by omega) (by omega)
theorem nanS64 (w : World) :
    Calls Tryz.prog 102 #[.int .i64 64] w fun e w' => e = .returned (.int .u64 9221120237041090560) ∧ Below w.heap.size w w' := by
  go_enter Tryz.func102, Tryz.ntmps102
  go_wp2
  go_ret
  exact ⟨rfl, (by repeat (first | exact bz0 _ _ | refine bz1 ?_ | refine bz2 ?_ _ | refine bz3 ?_ _ | refine bz5 ?_ _ | refine bz6 ?_ _))⟩
theorem l3r_at64 (mode : Int) (ng : Bool) (zs : List Int) (e : Int) (p : Option Addr) (cap : Nat) (w : World) (hs : Sl .u32 w (.slice p zs.length cap) zs) (hz : Nm.Dg zs) (h0 : zs.length ≠ 0) (ho : RdO 64 mode ng zs e = true) :
    Calls Tryz.prog 94 #[.int .i64 64, .int .i64 mode, .agg #[.bool ng, .slice p zs.length cap], .int .i64 e] w fun x w' => x = .returned (.tuple #[.int .u64 (RdB 64 mode ng zs e), .int .i64 (RdF 64 mode ng zs e)]) ∧ Below w.heap.size w w' := by
  have hk := ho
  unfold RdO at hk
  simp only [Bool.and_eq_true] at hk
  obtain ⟨⟨⟨k1, k2⟩, k3⟩, k4⟩ := hk
  have k5 := inZ_yes k4
  obtain ⟨hzl, hbl⟩ := lim_ok hz k3
  have ha : (Nm.val zs).toNat ≠ 0 := by
    intro h; rw [h, Nm.lim_zero] at hzl; rw [hzl] at h0; exact h0 rfl
  have hB : RdB 64 mode ng zs e = rdB 53 (-1074) 9218868437227405312 9223372036854775808 mode ng (Nm.val zs).toNat e := by unfold RdB; rw [ho, if_pos rfl, if_neg h0]; rfl
  have hF : RdF 64 mode ng zs e = rdF 53 (-1074) 9218868437227405312 mode ng (Nm.val zs).toNat e := by unfold RdF; rw [ho, if_pos rfl, if_neg h0]; rfl
  rw [hB, hF]
  obtain ⟨a, haz⟩ : ∃ a, a = (Nm.val zs).toNat := ⟨_, rfl⟩
  rw [← haz] at hzl hbl ha ⊢
  clear hB hF haz ho k3 hz h0
  subst hzl
  exact l3r_64 mode ng a e p cap w hs k2 ha (by omega) (by omega) (by omega)
end Go.Proofs.YtnliofakkkjpoaaGreatDoor
namespace Go.Proofs.YtnliofakkkjpoaaGreatDoor
set_option linter.unusedVariables false
set_option linter.unusedSimpArgs false
namespace Ld
open Go.RowKit Go.Deep Go.ChangeShapes Go.WideShapes Go.ChangeAt Go.Joins
theorem all3 {W : World} (h : laidMetH Tryz.prog [("math/bits.deBruijn32tab", Rows.laid_math_bits_deBruijn32tab), ("math/bits.deBruijn64tab", Rows.laid_math_bits_deBruijn64tab), ("errors.errorType", Rows.laid_errors_errorType), ("loop.example/g00672/impl.formSizes", Rows.laid_loop_example_g00672_impl_formSizes), ("loop.example/g00672/impl.errQuiet", Rows.laid_loop_example_g00672_impl_errQuiet)] W) : EX3 W := by
  have h' : laidMet Tryz.prog [("math/bits.deBruijn32tab", Rows.laid_math_bits_deBruijn32tab), ("math/bits.deBruijn64tab", Rows.laid_math_bits_deBruijn64tab), ("loop.example/g00672/impl.formSizes", Rows.laid_loop_example_g00672_impl_formSizes), ("loop.example/g00672/impl.errQuiet", Rows.laid_loop_example_g00672_impl_errQuiet)] W ∧ handlesMet Tryz.prog [("errors.errorType", Rows.laid_errors_errorType)] W := h
  have h1 := h'.1.filter (fun x => x.1 == "loop.example/g00672/impl.formSizes")
  have h2 := h'.1.filter (fun x => x.1 == "loop.example/g00672/impl.errQuiet")
  have h3 := h'.1.filter (fun x => x.1 == "math/bits.deBruijn64tab")
  have h4 := h'.1.filter (fun x => x.1 == "math/bits.deBruijn32tab")
  obtain ⟨u, hu⟩ := quiet h2
  exact ⟨u, ⟨⟨⟨table h1, tb64 h3⟩, tb32 h4⟩, handle h'.2 (List.mem_singleton.2 rfl), hu⟩⟩
end Ld
end Go.Proofs.YtnliofakkkjpoaaGreatDoor
