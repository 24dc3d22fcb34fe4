/-
  What is needed of NumsG, LaidB, RF, AccC, VecA, AccI.
-/
import Derived.LaidSub
import Derived.MakeChecks
import Derived.LoopN
import Derived.Test.YtmcflggionkhlaaGreatDoorH28
set_option maxHeartbeats 16000000
set_option maxRecDepth 1000000
namespace Go.Proofs.YtmcflggionkhlaaGreatDoor
set_option linter.unusedVariables false
set_option linter.unusedSimpArgs false
namespace Nm
theorem rn_scale {a : Nat} (h : a ≠ 0) (P : Nat) (q e : Int) (d : Nat) : rn P q (a * 2 ^ d) (e - d) = rn P q a e + d := by
  unfold rn; rw [bl_mul h]; omega
theorem sh_scale (a d : Nat) (k : Int) : sh (a * 2 ^ d) (k - d) = sh a k := by
  unfold sh
  by_cases hk : k < 0
  · rw [if_pos (by omega), if_pos hk, show (-(k - (d : Int))).toNat = (-k).toNat + d by omega, Nat.pow_add, Nat.mul_div_mul_right _ _ (pw_pos2 d)]
  · rw [if_neg hk]
    by_cases hd : k - d < 0
    · rw [if_pos hd]
      have e : 2 ^ d = 2 ^ k.toNat * 2 ^ (-(k - (d : Int))).toNat := by rw [← Nat.pow_add]; congr 1; omega
      rw [e, ← Nat.mul_assoc, Nat.mul_div_cancel _ (pw_pos2 _)]
    · rw [if_neg hd, Nat.mul_assoc, ← Nat.pow_add]
      congr 2; omega
theorem rm_scale {a : Nat} (h : a ≠ 0) (P : Nat) (q e : Int) (d : Nat) : rm P q (a * 2 ^ d) (e - d) = rm P q a e := by
  unfold rm; rw [rn_scale h, show -(rn P q a e + d) = -rn P q a e - d by omega, sh_scale]
theorem rr_scale {a : Nat} (h : a ≠ 0) (P : Nat) (q e : Int) (d : Nat) : rr P q (a * 2 ^ d) (e - d) = rr P q a e * 2 ^ d := by
  unfold rr; rw [rn_scale h]
  by_cases hr : 0 ≤ rn P q a e
  · rw [show (rn P q a e + d).toNat = (rn P q a e).toNat + d by omega, Nat.pow_add, Nat.mul_mod_mul_right]
  · rw [show (rn P q a e).toNat = 0 by omega, Nat.pow_zero, Nat.mod_one, Nat.zero_mul]
    exact Nat.mod_eq_zero_of_dvd (Nat.dvd_trans (Nat.pow_dvd_pow 2 (show (rn P q a e + d).toNat ≤ d by omega)) (Nat.dvd_mul_left _ _))
theorem rh_scale {a : Nat} (h : a ≠ 0) (P : Nat) (q e : Int) (d : Nat) (hr : rr P q a e ≠ 0) : rh P q (a * 2 ^ d) (e - d) = rh P q a e := by
  have h1 := rr_pos hr
  unfold rh
  rw [rr_scale h, rn_scale h, show (rn P q a e + d).toNat = (rn P q a e).toNat + d by omega, Nat.pow_add, ← Nat.mul_assoc, cmp2_mul]
theorem rr_scale0 {a : Nat} (h : a ≠ 0) (P : Nat) (q e : Int) (d : Nat) : rr P q (a * 2 ^ d) (e - d) = 0 ↔ rr P q a e = 0 := by
  rw [rr_scale h]
  constructor
  · intro h0
    rcases Nat.mul_eq_zero.1 h0 with h1 | h1
    · exact h1
    · have := pw_pos2 d; omega
  · intro h0; rw [h0, Nat.zero_mul]
theorem rU_scale {a : Nat} (h : a ≠ 0) (P : Nat) (q e : Int) (d : Nat) (up up' : Bool) (hu : rr P q a e ≠ 0 → up = up') : rU P q (a * 2 ^ d) (e - d) up = rU P q a e up' := by
  unfold rU r1
  rw [rn_scale h, rm_scale h, show rn P q a e + (d : Int) + (e - d) - q = rn P q a e + e - q by omega]
  by_cases h0 : rr P q a e = 0
  · rw [if_neg (fun c => c.1 ((rr_scale0 h P q e d).2 h0)), if_neg (fun c => c.1 h0)]
  · rw [hu h0]
    congr 1
    by_cases hup : up' = true
    · rw [if_pos ⟨fun e' => h0 ((rr_scale0 h P q e d).1 e'), hup⟩, if_pos ⟨h0, hup⟩]
    · rw [if_neg (fun c => hup c.2), if_neg (fun c => hup c.2)]
end Nm
namespace Ld
open Go.RowKit Go.Deep
def zs32 : List Int := Lib.deBruijn32tab.map Int.ofNat
theorem tb32 {W : World} (h : laidMet Tryz.prog [("math/bits.deBruijn32tab", Rows.laid_math_bits_deBruijn32tab)] W) : Tb W 3 Lib.deBruijn32tab := by
  have h' : laidMet Tryz.prog (("math/bits.deBruijn32tab", Lib.tabData .u8 zs32) :: []) W := h
  have hg : Tryz.prog.globalNamed "math/bits.deBruijn32tab" = some 3 := by kernel_rfl
  have ht := Lib.tabIs_of_head (g := 3) (t := 245) (e := 5) (n := 32) hg (by kernel_rfl) Tryz.underlying245 Tryz.underlying5 (by kernel_rfl) (by kernel_rfl) h'
  intro i hi
  have := ht.cell hg i (by simpa [zs32] using hi)
  rw [this]
  congr 2
  unfold zs32
  rw [List.getD_eq_getElem?_getD, List.getElem?_map, List.getD_eq_getElem?_getD, List.getElem?_eq_getElem hi]; rfl
def zs64 : List Int := Lib.deBruijn64tab.map Int.ofNat
theorem tb64 {W : World} (h : laidMet Tryz.prog [("math/bits.deBruijn64tab", Rows.laid_math_bits_deBruijn64tab)] W) : Tb W 4 Lib.deBruijn64tab := by
  have h' : laidMet Tryz.prog (("math/bits.deBruijn64tab", Lib.tabData .u8 zs64) :: []) W := h
  have hg : Tryz.prog.globalNamed "math/bits.deBruijn64tab" = some 4 := by kernel_rfl
  have ht := Lib.tabIs_of_head (g := 4) (t := 246) (e := 5) (n := 64) hg (by kernel_rfl) Tryz.underlying246 Tryz.underlying5 (by kernel_rfl) (by kernel_rfl) h'
  intro i hi
  have := ht.cell hg i (by simpa [zs64] using hi)
  rw [this]
  congr 2
  unfold zs64
  rw [List.getD_eq_getElem?_getD, List.getElem?_map, List.getD_eq_getElem?_getD, List.getElem?_eq_getElem hi]; rfl
end Ld
open Go.RowKit Go.Deep
def fmtB (fm : Int) : Bool := decide (fm = 32) || decide (fm = 64)
def RdO (fm mode : Int) (ng : Bool) (zs : List Int) (e : Int) : Bool := fmtB fm && modeB mode && okB ng zs && inZ e (-10000) 10000
def RdB (fm mode : Int) (ng : Bool) (zs : List Int) (e : Int) : Int := if RdO fm mode ng zs e then (if zs.length = 0 then 0 else if fm = 32 then rdB 24 (-149) 2139095040 2147483648 mode ng (Nm.val zs).toNat e else rdB 53 (-1074) 9218868437227405312 9223372036854775808 mode ng (Nm.val zs).toNat e) else 0
def RdF (fm mode : Int) (ng : Bool) (zs : List Int) (e : Int) : Int := if RdO fm mode ng zs e then (if zs.length = 0 then 0 else if fm = 32 then rdF 24 (-149) 2139095040 mode ng (Nm.val zs).toNat e else rdF 53 (-1074) 9218868437227405312 mode ng (Nm.val zs).toNat e) else 0
theorem Rd_no {fm mode : Int} {ng : Bool} {zs : List Int} {e : Int} (h : RdO fm mode ng zs e = false) : RdB fm mode ng zs e = 0 ∧ RdF fm mode ng zs e = 0 := by unfold RdB RdF; rw [h]; exact ⟨rfl, rfl⟩
theorem Rd_zero {fm mode : Int} {ng : Bool} {zs : List Int} {e : Int} (h : zs.length = 0) : RdB fm mode ng zs e = 0 ∧ RdF fm mode ng zs e = 0 := by
  unfold RdB RdF; rw [if_pos h, if_pos h]; split <;> exact ⟨rfl, rfl⟩
theorem fmt_cases {fm : Int} (h : fmtB fm = true) : fm = 32 ∨ fm = 64 := by simpa [fmtB] using h
theorem fmt_no {fm : Int} (h : fmtB fm = false) : fm ≠ 32 ∧ fm ≠ 64 := by simpa [fmtB] using h
/-- Right limbs are those of a number. -/
theorem lim_ok {ng : Bool} {zs : List Int} (d : Nm.Dg zs) (h : okB ng zs = true) : zs = Nm.lim (Nm.val zs).toNat ∧ bitLen (Nm.val zs).toNat ≤ 6400 := by
  obtain ⟨hz, hl⟩ := okB_nz h
  have e := (Nm.lim_of d hz).symm
  refine ⟨e, len_bl (k := 200) ?_⟩
  rw [← e]; exact hl
theorem fmt_spec (fm : Int) (w : World) :
    Calls Tryz.prog 108 #[.int .i64 fm] w fun e w' => e = .returned (.bool (fmtB fm)) ∧ w' = w := by
  cases h : fmtB fm
  · obtain ⟨h1, h2⟩ := fmt_no h
    have e1 : (fm == 32) = false := by simpa using h1
    have e2 : (fm == 64) = false := by simpa using h2
    clear h h1 h2
    go_enter Tryz.func108, Tryz.ntmps108
    go_wp2
    go_ret
    exact ⟨rfl, rfl⟩
  · rcases fmt_cases h with rfl | rfl
    · go_enter Tryz.func108, Tryz.ntmps108
      go_wp2
      go_ret
      exact ⟨rfl, rfl⟩
    · go_enter Tryz.func108, Tryz.ntmps108
      go_wp2
      go_ret
      exact ⟨rfl, rfl⟩
theorem form_spec (fm mode : Int) (ng : Bool) (zs : List Int) (e : Int) (p : Option Addr) (c : Nat) (w : World) (hs : Sl .u32 w (.slice p zs.length c) zs) (hl : zs.length ≤ 1048576) :
    Calls Tryz.prog 211 #[.int .i64 fm, .int .i64 mode, .agg #[.bool ng, .slice p zs.length c], .int .i64 e] w fun x w' => x = .returned (.bool (RdO fm mode ng zs e)) ∧ Below w.heap.size w w' := by
  have hl' : zs.length ≤ 140737488355328 := by omega
  have hk : RdO fm mode ng zs e = (fmtB fm && modeB mode && okB ng zs && inZ e (-10000) 10000) := rfl
  have HK := hid hk
  have C1 := hid (fun w' => fmt_spec fm w')
  have C2 := hid (fun w' => mode_spec mode w')
  have C3 := hid (fun w' h => ok_spec ng p c zs w' h hl')
  have C4 := hid (fun w' => in_any e (-10000) 10000 w')
  obtain ⟨b1, h1⟩ : ∃ b, b = fmtB fm := ⟨_, rfl⟩
  obtain ⟨b2, h2⟩ : ∃ b, b = modeB mode := ⟨_, rfl⟩
  obtain ⟨b3, h3⟩ : ∃ b, b = okB ng zs := ⟨_, rfl⟩
  obtain ⟨b4, h4⟩ : ∃ b, b = inZ e (-10000) 10000 := ⟨_, rfl⟩
  rw [← h1] at C1; rw [← h2] at C2; rw [← h3] at C3; rw [← h4] at C4; rw [← h1, ← h2, ← h3, ← h4] at HK
  clear h1 h2 h3 h4 hk
  cases b1 with
  | false =>
    go_enter Tryz.func211, Tryz.ntmps211
    go_wp2_with fail
    refine (C1.out _).mono ?_
    rintro x w1 ⟨rfl, rfl⟩
    go_wp2
    go_ret
    exact ⟨ret_bool HK.out.symm, (by repeat (first | exact bz0 _ _ | refine bz1 ?_ | refine bz2 ?_ _ | refine bz3 ?_ _ | refine bz5 ?_ _ | refine bz6 ?_ _))⟩
  | true =>
  cases b2 with
  | false =>
    go_enter Tryz.func211, Tryz.ntmps211
    go_wp2_with fail
    refine (C1.out _).mono ?_
    rintro x w1 ⟨rfl, rfl⟩
    go_wp2_with fail
    refine (C2.out _).mono ?_
    rintro x w2 ⟨rfl, rfl⟩
    go_wp2
    go_ret
    exact ⟨ret_bool HK.out.symm, (by repeat (first | exact bz0 _ _ | refine bz1 ?_ | refine bz2 ?_ _ | refine bz3 ?_ _ | refine bz5 ?_ _ | refine bz6 ?_ _))⟩
  | true =>
  cases b3 with
  | false =>
    go_enter Tryz.func211, Tryz.ntmps211
    go_wp2_with fail
    refine (C1.out _).mono ?_
    rintro x w1 ⟨rfl, rfl⟩
    go_wp2_with fail
    refine (C2.out _).mono ?_
    rintro x w2 ⟨rfl, rfl⟩
    go_wp2_with fail
    refine (C3.out _ (hs.alloc _)).mono ?_
    rintro x w3 ⟨rfl, hb3⟩
    go_wp2
    go_ret
    exact ⟨ret_bool HK.out.symm, (by repeat (first | exact bz0 _ _ | refine bz1 ?_ | refine bz2 ?_ _ | refine bz3 ?_ _ | refine bz4 ?_ hb3 | refine bz5 ?_ _ | refine bz6 ?_ _ | refine bz7 ?_ hb3))⟩
  | true =>
    go_enter Tryz.func211, Tryz.ntmps211
    go_wp2_with fail
    refine (C1.out _).mono ?_
    rintro x w1 ⟨rfl, rfl⟩
    go_wp2_with fail
    refine (C2.out _).mono ?_
    rintro x w2 ⟨rfl, rfl⟩
    go_wp2_with fail
    refine (C3.out _ (hs.alloc _)).mono ?_
    rintro x w3 ⟨rfl, hb3⟩
    go_wp2_with fail
    refine (C4.out _).mono ?_
    rintro x w4 ⟨rfl, rfl⟩
    go_wp2
    go_ret
    exact ⟨ret_bool (by rw [HK.out]; simp), (by repeat (first | exact bz0 _ _ | refine bz1 ?_ | refine bz2 ?_ _ | refine bz3 ?_ _ | refine bz4 ?_ hb3 | refine bz5 ?_ _ | refine bz6 ?_ _ | refine bz7 ?_ hb3))⟩
theorem rounded_spec (fm mode : Int) (ng : Bool) (zs : List Int) (e : Int) (p : Option Addr) (c : Nat) (w : World) (hs : Sl .u32 w (.slice p zs.length c) zs) (hz : Nm.Dg zs) (hl : zs.length ≤ 1048576) :
    Calls Tryz.prog 187 #[.int .i64 fm, .int .i64 mode, .agg #[.bool ng, .slice p zs.length c], .int .i64 e] w fun x w' => x = .returned (.tuple #[.int .u64 (RdB fm mode ng zs e), .int .i64 (RdF fm mode ng zs e), .bool (RdO fm mode ng zs e)]) ∧ Below w.heap.size w w' := by
  have C := hid (fun w' h => form_spec fm mode ng zs e p c w' h hl)
  cases hk : RdO fm mode ng zs e
  · have HR := hid (Rd_no hk)
    rw [hk] at C
    clear hk
    go_enter Tryz.func187, Tryz.ntmps187
    go_wp2_with fail
    refine (C.out _ (hs.alloc _)).mono ?_
    rintro x w1 ⟨rfl, hb1⟩
    go_wp2
    go_ret3
    exact ⟨ret_uib2 HR.out.1.symm HR.out.2.symm rfl, (by repeat (first | exact bz0 _ _ | refine bz1 ?_ | refine bz2 ?_ _ | refine bz3 ?_ _ | refine bz4 ?_ hb1 | refine bz5 ?_ _ | refine bz6 ?_ _ | refine bz7 ?_ hb1))⟩
  rw [hk] at C
  by_cases h0 : zs.length = 0
  · have HR := hid (Rd_zero (fm := fm) (mode := mode) (ng := ng) (e := e) h0)
    have hb0 : ((zs.length : Int) == 0) = true := by rw [beq_iff_eq]; omega
    clear hk h0
    go_enter Tryz.func187, Tryz.ntmps187
    go_wp2_with fail
    refine (C.out _ (hs.alloc _)).mono ?_
    rintro x w1 ⟨rfl, hb1⟩
    obtain ⟨x10, x11⟩ := (Box.new w (.bool ng) (.slice p zs.length c) 31).below hb1
    go_wp2
    go_ret3
    exact ⟨ret_uib2 HR.out.1.symm HR.out.2.symm rfl, (by repeat (first | exact bz0 _ _ | refine bz1 ?_ | refine bz2 ?_ _ | refine bz3 ?_ _ | refine bz4 ?_ hb1 | refine bz5 ?_ _ | refine bz6 ?_ _ | refine bz7 ?_ hb1))⟩
  · have hb0 : ((zs.length : Int) == 0) = false := by rw [beq_eq_false_iff_ne]; omega
    have hk' := hk
    unfold RdO at hk'
    simp only [Bool.and_eq_true] at hk'
    obtain ⟨⟨⟨k1, k2⟩, k3⟩, k4⟩ := hk'
    have k5 := inZ_yes k4
    obtain ⟨hzl, hbl⟩ := lim_ok hz k3
    have ha : (Nm.val zs).toNat ≠ 0 := by
      intro h; rw [h, Nm.lim_zero] at hzl; rw [hzl] at h0; exact h0 rfl
    obtain ⟨a, haz⟩ : ∃ a, a = (Nm.val zs).toNat := ⟨_, rfl⟩
    rw [← haz] at hzl hbl ha
    have HB : Hid (RdB fm mode ng zs e = if fm = 32 then rdB 24 (-149) 2139095040 2147483648 mode ng a e else rdB 53 (-1074) 9218868437227405312 9223372036854775808 mode ng a e) := hid (by unfold RdB; rw [hk, if_pos rfl, if_neg h0, ← haz])
    have HF : Hid (RdF fm mode ng zs e = if fm = 32 then rdF 24 (-149) 2139095040 mode ng a e else rdF 53 (-1074) 9218868437227405312 mode ng a e) := hid (by unfold RdF; rw [hk, if_pos rfl, if_neg h0, ← haz])
    clear hk k4 h0 haz
    subst hzl
    rcases fmt_cases k1 with rfl | rfl
    · go_enter Tryz.func187, Tryz.ntmps187
      go_wp2_with fail
      refine (C.out _ (hs.alloc _)).mono ?_
      rintro x w1 ⟨rfl, hb1⟩
      obtain ⟨x10, x11⟩ := (Box.new w (.bool ng) (.slice p (Nm.lim a).length c) 31).below hb1
      go_wp2_with fail
      refine (l3r_32 mode ng a e p c _ ((hs.alloc _).below hb1) k2 ha (by omega) (by omega) (by omega)).mono ?_
      rintro x w2 ⟨rfl, hb2⟩
      go_wp2
      go_ret3
      exact ⟨ret_uib2 (by rw [HB.out]; rfl) (by rw [HF.out]; rfl) rfl, (by repeat (first | exact bz0 _ _ | refine bz1 ?_ | refine bz2 ?_ _ | refine bz3 ?_ _ | refine bz4 ?_ hb2 | refine bz4 ?_ hb1 | refine bz5 ?_ _ | refine bz6 ?_ _ | refine bz7 ?_ hb2 | refine bz7 ?_ hb1))⟩
    · go_enter Tryz.func187, Tryz.ntmps187
      go_wp2_with fail
      refine (C.out _ (hs.alloc _)).mono ?_
      rintro x w1 ⟨rfl, hb1⟩
      obtain ⟨x10, x11⟩ := (Box.new w (.bool ng) (.slice p (Nm.lim a).length c) 31).below hb1
      go_wp2_with fail
      refine (l3r_64 mode ng a e p c _ ((hs.alloc _).below hb1) k2 ha (by omega) (by omega) (by omega)).mono ?_
      rintro x w2 ⟨rfl, hb2⟩
      go_wp2
      go_ret3
      exact ⟨ret_uib2 (by rw [HB.out]; rfl) (by rw [HF.out]; rfl) rfl, (by repeat (first | exact bz0 _ _ | refine bz1 ?_ | refine bz2 ?_ _ | refine bz3 ?_ _ | refine bz4 ?_ hb2 | refine bz4 ?_ hb1 | refine bz5 ?_ _ | refine bz6 ?_ _ | refine bz7 ?_ hb2 | refine bz7 ?_ hb1))⟩
theorem rounded_impl (fm mode : Int) (ng : Bool) (zs : List Int) (e : Int) (p : Option Addr) (c : Nat) (w : World) (hT : T3 w) (hs : Sl .u32 w (.slice p zs.length c) zs) (hz : Nm.Dg zs) (hl : zs.length ≤ 1048576) :
    Calls Tryz.prog 104 #[.int .i64 fm, .int .i64 mode, .agg #[.bool ng, .slice p zs.length c], .int .i64 e] w fun x w' => x = .returned (.tuple #[.int .u64 (RdB fm mode ng zs e), .int .i64 (RdF fm mode ng zs e), .bool (RdO fm mode ng zs e)]) ∧ Below w.heap.size w w' := by
  have hl' : zs.length ≤ 140737488355328 := by omega
  cases k1 : fmtB fm
  · obtain ⟨f1, f2⟩ := fmt_no k1
    have HO : Hid (RdO fm mode ng zs e = false) := hid (by unfold RdO; rw [k1]; rfl)
    have HR := hid (Rd_no HO.out)
    clear k1
    go_enter Tryz.func104, Tryz.ntmps104
    go_wp2_with fail
    refine (sizes0 fm _ (hT.s.f.al _) f1 f2).mono ?_
    rintro x w1 ⟨rfl, hb1⟩
    go_wp2
    go_ret3
    exact ⟨ret_uib2 HR.out.1.symm HR.out.2.symm HO.out.symm, (by repeat (first | exact bz0 _ _ | refine bz1 ?_ | refine bz2 ?_ _ | refine bz3 ?_ _ | refine bz4 ?_ hb1 | refine bz5 ?_ _ | refine bz6 ?_ _ | refine bz7 ?_ hb1))⟩
  rcases fmt_cases k1 with rfl | rfl
  · cases k2 : modeB mode
    · have HO : Hid (RdO 32 mode ng zs e = false) := hid (by unfold RdO; rw [k2]; simp)
      have HR := hid (Rd_no HO.out)
      have C2 := hid (fun w' => mode_impl mode w')
      rw [k2] at C2
      clear k2 k1
      go_enter Tryz.func104, Tryz.ntmps104
      go_wp2_with fail
      refine (sizes32 _ (hT.s.f.al _)).mono ?_
      rintro x w1 ⟨rfl, hb1⟩
      go_wp2_with fail
      refine (C2.out _).mono ?_
      rintro x w2 ⟨rfl, rfl⟩
      go_wp2
      go_ret3
      exact ⟨ret_uib2 HR.out.1.symm HR.out.2.symm HO.out.symm, (by repeat (first | exact bz0 _ _ | refine bz1 ?_ | refine bz2 ?_ _ | refine bz3 ?_ _ | refine bz4 ?_ hb1 | refine bz5 ?_ _ | refine bz6 ?_ _ | refine bz7 ?_ hb1))⟩
    cases k3 : okB ng zs
    · have HO : Hid (RdO 32 mode ng zs e = false) := hid (by unfold RdO; rw [k3]; simp)
      have HR := hid (Rd_no HO.out)
      have C2 := hid (fun w' => mode_impl mode w')
      rw [k2] at C2
      have C3 := hid (fun w' h => ok_impl ng p c zs w' h hl')
      rw [k3] at C3
      clear k2 k1 k3
      go_enter Tryz.func104, Tryz.ntmps104
      go_wp2_with fail
      refine (sizes32 _ (hT.s.f.al _)).mono ?_
      rintro x w1 ⟨rfl, hb1⟩
      obtain ⟨x10, x11⟩ := ((Box.new w (.bool ng) (.slice p zs.length c) 31).below hb1).alloc (.cells #[.int .u64 23, .int .u64 255, .int .i64 (-149)] 81)
      go_wp2_with fail
      refine (C2.out _).mono ?_
      rintro x w2 ⟨rfl, rfl⟩
      go_wp2_with fail
      refine (C3.out _ (((hs.alloc _).below hb1).alloc _)).mono ?_
      rintro x w3 ⟨rfl, hb3⟩
      go_wp2
      go_ret3
      exact ⟨ret_uib2 HR.out.1.symm HR.out.2.symm HO.out.symm, (by repeat (first | exact bz0 _ _ | refine bz1 ?_ | refine bz2 ?_ _ | refine bz3 ?_ _ | refine bz4 ?_ hb3 | refine bz4 ?_ hb1 | refine bz5 ?_ _ | refine bz6 ?_ _ | refine bz7 ?_ hb3 | refine bz7 ?_ hb1))⟩
    have C2 := hid (fun w' => mode_impl mode w')
    rw [k2] at C2
    have C3 := hid (fun w' h => ok_impl ng p c zs w' h hl')
    rw [k3] at C3
    by_cases k4 : e < -10000 ∨ 10000 < e
    · have HO : Hid (RdO 32 mode ng zs e = false) := hid (by
        unfold RdO inZ
        rcases k4 with h | h
        · rw [decide_eq_false (show ¬ -10000 ≤ e by omega)]; simp
        · rw [decide_eq_false (show ¬ e ≤ 10000 by omega)]; simp)
      have HR := hid (Rd_no HO.out)
      clear k2 k1 k3
      by_cases k5 : e < -10000
      all_goals
        by_cases k6 : 10000 < e
        all_goals first
          | (exfalso; omega)
          | skip
        all_goals
          clear k4
          go_enter Tryz.func104, Tryz.ntmps104
          go_wp2_with fail
          refine (sizes32 _ (hT.s.f.al _)).mono ?_
          rintro x w1 ⟨rfl, hb1⟩
          obtain ⟨x10, x11⟩ := ((Box.new w (.bool ng) (.slice p zs.length c) 31).below hb1).alloc (.cells #[.int .u64 23, .int .u64 255, .int .i64 (-149)] 81)
          go_wp2_with fail
          refine (C2.out _).mono ?_
          rintro x w2 ⟨rfl, rfl⟩
          go_wp2_with fail
          refine (C3.out _ (((hs.alloc _).below hb1).alloc _)).mono ?_
          rintro x w3 ⟨rfl, hb3⟩
          go_wp2
          go_ret3
          exact ⟨ret_uib2 HR.out.1.symm HR.out.2.symm HO.out.symm, (by repeat (first | exact bz0 _ _ | refine bz1 ?_ | refine bz2 ?_ _ | refine bz3 ?_ _ | refine bz4 ?_ hb3 | refine bz4 ?_ hb1 | refine bz5 ?_ _ | refine bz6 ?_ _ | refine bz7 ?_ hb3 | refine bz7 ?_ hb1))⟩
    have e0 : -10000 ≤ e := by omega
    have e1 : e ≤ 10000 := by omega
    have hO : RdO 32 mode ng zs e = true := by unfold RdO inZ; rw [k1, k2, k3, decide_eq_true e0, decide_eq_true e1]; rfl
    have HO := hid hO
    clear k4
    by_cases h0 : zs.length = 0
    · have HR := hid (Rd_zero (fm := 32) (mode := mode) (ng := ng) (e := e) h0)
      have hb0 : ((zs.length : Int) == 0) = true := by rw [beq_iff_eq]; omega
      clear k1 k2 k3 h0 hO
      go_enter Tryz.func104, Tryz.ntmps104
      go_wp2_with fail
      refine (sizes32 _ (hT.s.f.al _)).mono ?_
      rintro x w1 ⟨rfl, hb1⟩
      have T1 := ((hT.s.f.al _).below hb1).al (.cells #[.int .u64 23, .int .u64 255, .int .i64 (-149)] 81)
      have x1 := ((Box.new w (.bool ng) (.slice p zs.length c) 31).below hb1).alloc (.cells #[.int .u64 23, .int .u64 255, .int .i64 (-149)] 81)
      have x1' := x1
      obtain ⟨x10, x11⟩ := x1'
      go_wp2_with fail
      refine (C2.out _).mono ?_
      rintro x w2 ⟨rfl, rfl⟩
      go_wp2_with fail
      refine (C3.out _ (((hs.alloc _).below hb1).alloc _)).mono ?_
      rintro x w3 ⟨rfl, hb3⟩
      obtain ⟨x30, x31⟩ := x1.below hb3
      go_wp2_with fail
      refine (impl_Zero32 false _ (T1.below hb3)).mono ?_
      rintro x w4 ⟨rfl, hb4⟩
      go_wp2
      go_ret3
      exact ⟨ret_uib2 (by rw [HR.out.1]; rfl) HR.out.2.symm HO.out.symm, (by repeat (first | exact bz0 _ _ | refine bz1 ?_ | refine bz2 ?_ _ | refine bz3 ?_ _ | refine bz4 ?_ hb4 | refine bz4 ?_ hb3 | refine bz4 ?_ hb1 | refine bz5 ?_ _ | refine bz6 ?_ _ | refine bz7 ?_ hb4 | refine bz7 ?_ hb3 | refine bz7 ?_ hb1))⟩
    · obtain ⟨hzl, hbl⟩ := lim_ok hz k3
      have ha : (Nm.val zs).toNat ≠ 0 := by
        intro h; rw [h, Nm.lim_zero] at hzl; rw [hzl] at h0; exact h0 rfl
      obtain ⟨a, haz⟩ : ∃ a, a = (Nm.val zs).toNat := ⟨_, rfl⟩
      rw [← haz] at hzl hbl ha
      subst hzl
      refine (rnd_32 mode ng a e p c w hT hs k2 ha hbl e0 e1).mono ?_
      rintro x w1 ⟨rfl, hb1⟩
      refine ⟨ret_uib2 ?_ ?_ hO.symm, hb1⟩
      · unfold RdB; rw [hO, if_pos rfl, if_neg h0, ← haz]; rfl
      · unfold RdF; rw [hO, if_pos rfl, if_neg h0, ← haz]; rfl
  · cases k2 : modeB mode
    · have HO : Hid (RdO 64 mode ng zs e = false) := hid (by unfold RdO; rw [k2]; simp)
      have HR := hid (Rd_no HO.out)
      have C2 := hid (fun w' => mode_impl mode w')
      rw [k2] at C2
      clear k2 k1
      go_enter Tryz.func104, Tryz.ntmps104
      go_wp2_with fail
      refine (sizes64 _ (hT.s.f.al _)).mono ?_
      rintro x w1 ⟨rfl, hb1⟩
      go_wp2_with fail
      refine (C2.out _).mono ?_
      rintro x w2 ⟨rfl, rfl⟩
      go_wp2
      go_ret3
      exact ⟨ret_uib2 HR.out.1.symm HR.out.2.symm HO.out.symm, (by repeat (first | exact bz0 _ _ | refine bz1 ?_ | refine bz2 ?_ _ | refine bz3 ?_ _ | refine bz4 ?_ hb1 | refine bz5 ?_ _ | refine bz6 ?_ _ | refine bz7 ?_ hb1))⟩
    cases k3 : okB ng zs
    · have HO : Hid (RdO 64 mode ng zs e = false) := hid (by unfold RdO; rw [k3]; simp)
      have HR := hid (Rd_no HO.out)
      have C2 := hid (fun w' => mode_impl mode w')
      rw [k2] at C2
      have C3 := hid (fun w' h => ok_impl ng p c zs w' h hl')
      rw [k3] at C3
      clear k2 k1 k3
      go_enter Tryz.func104, Tryz.ntmps104
      go_wp2_with fail
      refine (sizes64 _ (hT.s.f.al _)).mono ?_
      rintro x w1 ⟨rfl, hb1⟩
      obtain ⟨x10, x11⟩ := ((Box.new w (.bool ng) (.slice p zs.length c) 31).below hb1).alloc (.cells #[.int .u64 52, .int .u64 2047, .int .i64 (-1074)] 81)
      go_wp2_with fail
      refine (C2.out _).mono ?_
      rintro x w2 ⟨rfl, rfl⟩
      go_wp2_with fail
      refine (C3.out _ (((hs.alloc _).below hb1).alloc _)).mono ?_
      rintro x w3 ⟨rfl, hb3⟩
      go_wp2
      go_ret3
      exact ⟨ret_uib2 HR.out.1.symm HR.out.2.symm HO.out.symm, (by repeat (first | exact bz0 _ _ | refine bz1 ?_ | refine bz2 ?_ _ | refine bz3 ?_ _ | refine bz4 ?_ hb3 | refine bz4 ?_ hb1 | refine bz5 ?_ _ | refine bz6 ?_ _ | refine bz7 ?_ hb3 | refine bz7 ?_ hb1))⟩
    have C2 := hid (fun w' => mode_impl mode w')
    rw [k2] at C2
    have C3 := hid (fun w' h => ok_impl ng p c zs w' h hl')
    rw [k3] at C3
    by_cases k4 : e < -10000 ∨ 10000 < e
    · have HO : Hid (RdO 64 mode ng zs e = false) := hid (by
        unfold RdO inZ
        rcases k4 with h | h
        · rw [decide_eq_false (show ¬ -10000 ≤ e by omega)]; simp
        · rw [decide_eq_false (show ¬ e ≤ 10000 by omega)]; simp)
      have HR := hid (Rd_no HO.out)
      clear k2 k1 k3
      by_cases k5 : e < -10000
      all_goals
        by_cases k6 : 10000 < e
        all_goals first
          | (exfalso; omega)
          | skip
        all_goals
          clear k4
          go_enter Tryz.func104, Tryz.ntmps104
          go_wp2_with fail
          refine (sizes64 _ (hT.s.f.al _)).mono ?_
          rintro x w1 ⟨rfl, hb1⟩
          obtain ⟨x10, x11⟩ := ((Box.new w (.bool ng) (.slice p zs.length c) 31).below hb1).alloc (.cells #[.int .u64 52, .int .u64 2047, .int .i64 (-1074)] 81)
          go_wp2_with fail
          refine (C2.out _).mono ?_
          rintro x w2 ⟨rfl, rfl⟩
          go_wp2_with fail
          refine (C3.out _ (((hs.alloc _).below hb1).alloc _)).mono ?_
          rintro x w3 ⟨rfl, hb3⟩
          go_wp2
          go_ret3
          exact ⟨ret_uib2 HR.out.1.symm HR.out.2.symm HO.out.symm, (by repeat (first | exact bz0 _ _ | refine bz1 ?_ | refine bz2 ?_ _ | refine bz3 ?_ _ | refine bz4 ?_ hb3 | refine bz4 ?_ hb1 | refine bz5 ?_ _ | refine bz6 ?_ _ | refine bz7 ?_ hb3 | refine bz7 ?_ hb1))⟩
    have e0 : -10000 ≤ e := by omega
    have e1 : e ≤ 10000 := by omega
    have hO : RdO 64 mode ng zs e = true := by unfold RdO inZ; rw [k1, k2, k3, decide_eq_true e0, decide_eq_true e1]; rfl
    have HO := hid hO
    clear k4
    by_cases h0 : zs.length = 0
    · have HR := hid (Rd_zero (fm := 64) (mode := mode) (ng := ng) (e := e) h0)
      have hb0 : ((zs.length : Int) == 0) = true := by rw [beq_iff_eq]; omega
      clear k1 k2 k3 h0 hO
      go_enter Tryz.func104, Tryz.ntmps104
      go_wp2_with fail
      refine (sizes64 _ (hT.s.f.al _)).mono ?_
      rintro x w1 ⟨rfl, hb1⟩
      have T1 := ((hT.s.f.al _).below hb1).al (.cells #[.int .u64 52, .int .u64 2047, .int .i64 (-1074)] 81)
      have x1 := ((Box.new w (.bool ng) (.slice p zs.length c) 31).below hb1).alloc (.cells #[.int .u64 52, .int .u64 2047, .int .i64 (-1074)] 81)
      have x1' := x1
      obtain ⟨x10, x11⟩ := x1'
      go_wp2_with fail
      refine (C2.out _).mono ?_
      rintro x w2 ⟨rfl, rfl⟩
      go_wp2_with fail
      refine (C3.out _ (((hs.alloc _).below hb1).alloc _)).mono ?_
      rintro x w3 ⟨rfl, hb3⟩
      obtain ⟨x30, x31⟩ := x1.below hb3
      go_wp2_with fail
      refine (impl_Zero64 false _ (T1.below hb3)).mono ?_
      rintro x w4 ⟨rfl, hb4⟩
      go_wp2
      go_ret3
      exact ⟨ret_uib2 (by rw [HR.out.1]; rfl) HR.out.2.symm HO.out.symm, (by repeat (first | exact bz0 _ _ | refine bz1 ?_ | refine bz2 ?_ _ | refine bz3 ?_ _ | refine bz4 ?_ hb4 | refine bz4 ?_ hb3 | refine bz4 ?_ hb1 | refine bz5 ?_ _ | refine bz6 ?_ _ | refine bz7 ?_ hb4 | refine bz7 ?_ hb3 | refine bz7 ?_ hb1))⟩
    · obtain ⟨hzl, hbl⟩ := lim_ok hz k3
      have ha : (Nm.val zs).toNat ≠ 0 := by
        intro h; rw [h, Nm.lim_zero] at hzl; rw [hzl] at h0; exact h0 rfl
      obtain ⟨a, haz⟩ : ∃ a, a = (Nm.val zs).toNat := ⟨_, rfl⟩
      rw [← haz] at hzl hbl ha
      subst hzl
      refine (rnd_64 mode ng a e p c w hT hs k2 ha hbl e0 e1).mono ?_
      rintro x w1 ⟨rfl, hb1⟩
      refine ⟨ret_uib2 ?_ ?_ hO.symm, hb1⟩
      · unfold RdB; rw [hO, if_pos rfl, if_neg h0, ← haz]; rfl
      · unfold RdF; rw [hO, if_pos rfl, if_neg h0, ← haz]; rfl
/-- How far from 0 a sum of T terms may be. -/
def far (fm T : Int) : Nat := Nm.sh T.toNat (if fm = 32 then 554 else 4196)
/-- Numbers of 64 bits. -/
def D64 (xs : List Int) : Prop := ∀ x ∈ xs, 0 ≤ x ∧ x < 18446744073709551616
theorem D64.getD {xs : List Int} (h : D64 xs) (k : Nat) : 0 ≤ xs.getD k 0 ∧ xs.getD k 0 < 18446744073709551616 := by
  rw [List.getD_eq_getElem?_getD]
  by_cases hk : k < xs.length
  · rw [List.getElem?_eq_getElem hk]; exact h _ (List.getElem_mem hk)
  · rw [List.getElem?_eq_none (by omega)]; decide
/-- Whether all are floats of the format. -/
def allB (fm : Int) (xs : List Int) : Bool := xs.all (fun x => okF fm x)
theorem allB_yes {fm : Int} {xs : List Int} (h : ∀ j, j < xs.length → okF fm (xs.getD j 0) = true) : allB fm xs = true := by
  unfold allB
  rw [List.all_eq_true]
  intro x hx
  obtain ⟨j, hj, rfl⟩ := List.getElem_of_mem hx
  have := h j hj
  rwa [List.getD_eq_getElem?_getD, List.getElem?_eq_getElem hj] at this
theorem allB_no {fm : Int} {xs : List Int} {j : Nat} (hj : j < xs.length) (h : okF fm (xs.getD j 0) = false) : allB fm xs = false := by
  cases h' : allB fm xs
  · rfl
  · unfold allB at h'
    rw [List.all_eq_true] at h'
    have := h' _ (List.getElem_mem hj)
    rw [List.getD_eq_getElem?_getD, List.getElem?_eq_getElem hj] at h
    simp at h this
    rw [h] at this; exact absurd this (by decide)
theorem allf_impl (fm : Int) (a : Option Addr) (cap : Nat) (xs : List Int) (w : World) (hT : Tab w) (hx : Sl .u64 w (.slice a xs.length cap) xs) (dx : D64 xs) (hl : xs.length ≤ 1048576) :
    Calls Tryz.prog 158 #[.int .i64 fm, .slice a xs.length cap] w fun e w' => e = .returned (.bool (allB fm xs)) ∧ Below w.heap.size w w' := by
  obtain ⟨-, hx1, hx2, hx3⟩ := hx.cells
  have CO := hid (fun k w' h => impl_ok fm (xs.getD k 0) w' h (dx.getD k).1 (dx.getD k).2)
  have DX := hid dx
  clear dx
  go_enter Tryz.func158, Tryz.ntmps158
  go_wp2
  go_loopw [9] (fun i wr => ∃ k : Nat, k ≤ xs.length ∧ i = .int .i64 k ∧ (∀ j, j < k → okF fm (xs.getD j 0) = true) ∧ Below w.heap.size w wr) (fun i _ => xs.length - (intOf i).toNat)
  case atStart => exact ⟨0, Nat.zero_le _, rfl, fun j hj => absurd hj (Nat.not_lt_zero _), Below.refl _ _⟩
  case round =>
    obtain ⟨k, hk, rfl, hpre, hb⟩ := hrel
    have PRE := hid hpre
    clear hpre
    by_cases hlt : k < xs.length
    · obtain ⟨b, off, rfl, hcx⟩ := hx3 (by omega)
      have h1 := hcx k hlt
      have h1 : wr.cell? ⟨b, off + k, none⟩ = some (.int .u64 (xs.getD k 0)) := (hb.cell (p := ⟨b, off + k, none⟩) (World.block_lt_of_cell? w _ h1)).trans h1
      clear hx3 hcx
      have C := hid (fun w' h => CO.out k w' h)
      have HNO := hid (allB_no (fm := fm) hlt)
      have PRE2 : Hid (okF fm (xs.getD k 0) = true → ∀ j, j < k + 1 → okF fm (xs.getD j 0) = true) := hid (fun h j hj => by
        by_cases e : j = k
        · subst e; exact h
        · exact PRE.out j (by omega))
      obtain ⟨x, hxk⟩ : ∃ x, x = xs.getD k 0 := ⟨_, rfl⟩
      obtain ⟨o, hok⟩ : ∃ o, o = okF fm x := ⟨_, rfl⟩
      rw [← hxk] at h1 C HNO
      rw [← hok] at C HNO
      have PRE2 : Hid (o = true → ∀ j, j < k + 1 → okF fm (xs.getD j 0) = true) := hid (fun h => PRE2.out (by rw [← hxk, ← hok]; exact h))
      clear hxk hok CO PRE
      cases o with
      | true =>
        have PRE3 := hid (PRE2.out rfl)
        clear PRE2 HNO
        go_wp2_with fail
        refine (C.out _ (hT.below hb)).mono ?_
        rintro e w1 ⟨rfl, hb1⟩
        go_wp2
        go_roundw
        case rel => exact ⟨k + 1, by omega, by go_num, PRE3.out, bel_go hb hb1⟩
        case measure => simp [intOf]; omega
      | false =>
        have HN2 := hid (HNO.out rfl)
        clear PRE2 HNO
        go_wp2_with fail
        refine (C.out _ (hT.below hb)).mono ?_
        rintro e w1 ⟨rfl, hb1⟩
        go_wp2
        go_ret
        exact ⟨ret_bool HN2.out.symm, bel_go hb hb1⟩
    · obtain rfl : k = xs.length := by omega
      have HY := hid (allB_yes PRE.out)
      clear hx3 CO PRE
      go_wp2
      go_ret
      exact ⟨ret_bool HY.out.symm, hb⟩
theorem nanS32 (w : World) :
    Calls Tryz.prog 92 #[.int .i64 32] w fun e w' => e = .returned (.int .u64 2143289344) ∧ Below w.heap.size w w' := by
  go_enter Tryz.func92, Tryz.ntmps92
  go_wp2
  go_ret
  exact ⟨rfl, (by repeat (first | exact bz0 _ _ | refine bz1 ?_ | refine bz2 ?_ _ | refine bz3 ?_ _ | refine bz5 ?_ _ | refine bz6 ?_ _))⟩
theorem infS32 (w : World) :
    Calls Tryz.prog 96 #[.int .i64 32] w fun e w' => e = .returned (.int .u64 2139095040) ∧ Below w.heap.size w w' := by
  go_enter Tryz.func96, Tryz.ntmps96
  go_wp2
  go_ret
  exact ⟨rfl, (by repeat (first | exact bz0 _ _ | refine bz1 ?_ | refine bz2 ?_ _ | refine bz3 ?_ _ | refine bz5 ?_ _ | refine bz6 ?_ _))⟩
theorem l3r_at32 (mode : Int) (ng : Bool) (zs : List Int) (e : Int) (p : Option Addr) (cap : Nat) (w : World) (hs : Sl .u32 w (.slice p zs.length cap) zs) (hz : Nm.Dg zs) (h0 : zs.length ≠ 0) (ho : RdO 32 mode ng zs e = true) :
    Calls Tryz.prog 103 #[.int .i64 32, .int .i64 mode, .agg #[.bool ng, .slice p zs.length cap], .int .i64 e] w fun x w' => x = .returned (.tuple #[.int .u64 (RdB 32 mode ng zs e), .int .i64 (RdF 32 mode ng zs e)]) ∧ Below w.heap.size w w' := by
  have hk := ho
  unfold RdO at hk
  simp only [Bool.and_eq_true] at hk
  obtain ⟨⟨⟨k1, k2⟩, k3⟩, k4⟩ := hk
  have k5 := inZ_yes k4
  obtain ⟨hzl, hbl⟩ := lim_ok hz k3
  have ha : (Nm.val zs).toNat ≠ 0 := by
    intro h; rw [h, Nm.lim_zero] at hzl; rw [hzl] at h0; exact h0 rfl
  have hB : RdB 32 mode ng zs e = rdB 24 (-149) 2139095040 2147483648 mode ng (Nm.val zs).toNat e := by unfold RdB; rw [ho, if_pos rfl, if_neg h0]; rfl
  have hF : RdF 32 mode ng zs e = rdF 24 (-149) 2139095040 mode ng (Nm.val zs).toNat e := by unfold RdF; rw [ho, if_pos rfl, if_neg h0]; rfl
  rw [hB, hF]
  obtain ⟨a, haz⟩ : ∃ a, a = (Nm.val zs).toNat := ⟨_, rfl⟩
  rw [← haz] at hzl hbl ha ⊢
  clear hB hF haz ho k3 hz h0
  subst hzl
  exact l3r_32 mode ng a e p cap w hs k2 ha (by omega) (by omega) (by omega)
theorem nanS64 (w : World) :
    Calls Tryz.prog 92 #[.int .i64 64] w fun e w' => e = .returned (.int .u64 9221120237041090560) ∧ Below w.heap.size w w' := by
  go_enter Tryz.func92, Tryz.ntmps92
  go_wp2
  go_ret
  exact ⟨rfl, (by repeat (first | exact bz0 _ _ | refine bz1 ?_ | refine bz2 ?_ _ | refine bz3 ?_ _ | refine bz5 ?_ _ | refine bz6 ?_ _))⟩
theorem infS64 (w : World) :
    Calls Tryz.prog 96 #[.int .i64 64] w fun e w' => e = .returned (.int .u64 9218868437227405312) ∧ Below w.heap.size w w' := by
  go_enter Tryz.func96, Tryz.ntmps96
  go_wp2
  go_ret
  exact ⟨rfl, (by repeat (first | exact bz0 _ _ | refine bz1 ?_ | refine bz2 ?_ _ | refine bz3 ?_ _ | refine bz5 ?_ _ | refine bz6 ?_ _))⟩
theorem l3r_at64 (mode : Int) (ng : Bool) (zs : List Int) (e : Int) (p : Option Addr) (cap : Nat) (w : World) (hs : Sl .u32 w (.slice p zs.length cap) zs) (hz : Nm.Dg zs) (h0 : zs.length ≠ 0) (ho : RdO 64 mode ng zs e = true) :
    Calls Tryz.prog 103 #[.int .i64 64, .int .i64 mode, .agg #[.bool ng, .slice p zs.length cap], .int .i64 e] w fun x w' => x = .returned (.tuple #[.int .u64 (RdB 64 mode ng zs e), .int .i64 (RdF 64 mode ng zs e)]) ∧ Below w.heap.size w w' := by
  have hk := ho
  unfold RdO at hk
  simp only [Bool.and_eq_true] at hk
  obtain ⟨⟨⟨k1, k2⟩, k3⟩, k4⟩ := hk
  have k5 := inZ_yes k4
  obtain ⟨hzl, hbl⟩ := lim_ok hz k3
  have ha : (Nm.val zs).toNat ≠ 0 := by
    intro h; rw [h, Nm.lim_zero] at hzl; rw [hzl] at h0; exact h0 rfl
  have hB : RdB 64 mode ng zs e = rdB 53 (-1074) 9218868437227405312 9223372036854775808 mode ng (Nm.val zs).toNat e := by unfold RdB; rw [ho, if_pos rfl, if_neg h0]; rfl
  have hF : RdF 64 mode ng zs e = rdF 53 (-1074) 9218868437227405312 mode ng (Nm.val zs).toNat e := by unfold RdF; rw [ho, if_pos rfl, if_neg h0]; rfl
  rw [hB, hF]
  obtain ⟨a, haz⟩ : ∃ a, a = (Nm.val zs).toNat := ⟨_, rfl⟩
  rw [← haz] at hzl hbl ha ⊢
  clear hB hF haz ho k3 hz h0
  subst hzl
  exact l3r_64 mode ng a e p cap w hs k2 ha (by omega) (by omega) (by omega)
end Go.Proofs.YtmcflggionkhlaaGreatDoor
