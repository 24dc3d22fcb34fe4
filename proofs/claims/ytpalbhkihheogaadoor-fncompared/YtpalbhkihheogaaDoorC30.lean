/-
  What is needed of IH, RF, RG.
-/
import Derived.Test.YtpalbhkihheogaaDoorC27
import Derived.Test.YtpalbhkihheogaaDoorC28
set_option maxHeartbeats 16000000
set_option maxRecDepth 1000000
namespace Go.Proofs.YtpalbhkihheogaaDoor
set_option linter.unusedVariables false
set_option linter.unusedSimpArgs false
open Go.RowKit Go.Deep
/-- All three tables. -/
structure T3 (w : World) : Prop where
  s : Ts w
  t32 : Tb w 2 Lib.deBruijn32tab
theorem T3.below {w w' : World} (h : T3 w) (hb : Below w.heap.size w w') : T3 w' := ⟨h.s.below hb, h.t32.below (by decide) hb⟩
theorem T3.al {w : World} (h : T3 w) (o : Obj) : T3 (w.alloc o) := h.below ((Below.refl _ _).alloc (Nat.le_refl _) _)
theorem T3.dr {w : World} (h : T3 w) : T3 w.drew := ⟨h.s.dr, h.t32⟩
theorem ret_uib2 {a a' b b' : Int} {c c' : Bool} (h : a = a') (k : b = b') (l : c = c') : Ending.returned (.tuple #[.int .u64 a, .int .i64 b, .bool c]) = .returned (.tuple #[.int .u64 a', .int .i64 b', .bool c']) := by rw [h, k, l]
def fmtB (fm : Int) : Bool := decide (fm = 32) || decide (fm = 64)
def RdO (fm mode : Int) (ng : Bool) (zs : List Int) (e : Int) : Bool := fmtB fm && modeB mode && okB ng zs && inZ e (-10000) 10000
def RdB (fm mode : Int) (ng : Bool) (zs : List Int) (e : Int) : Int := if RdO fm mode ng zs e then (if zs.length = 0 then 0 else if fm = 32 then rdB 24 (-149) 2139095040 2147483648 mode ng (Nm.val zs).toNat e else rdB 53 (-1074) 9218868437227405312 9223372036854775808 mode ng (Nm.val zs).toNat e) else 0
def RdF (fm mode : Int) (ng : Bool) (zs : List Int) (e : Int) : Int := if RdO fm mode ng zs e then (if zs.length = 0 then 0 else if fm = 32 then rdF 24 (-149) 2139095040 mode ng (Nm.val zs).toNat e else rdF 53 (-1074) 9218868437227405312 mode ng (Nm.val zs).toNat e) else 0
theorem Rd_no {fm mode : Int} {ng : Bool} {zs : List Int} {e : Int} (h : RdO fm mode ng zs e = false) : RdB fm mode ng zs e = 0 ∧ RdF fm mode ng zs e = 0 := by unfold RdB RdF; rw [h]; exact ⟨rfl, rfl⟩
theorem Rd_zero {fm mode : Int} {ng : Bool} {zs : List Int} {e : Int} (h : zs.length = 0) : RdB fm mode ng zs e = 0 ∧ RdF fm mode ng zs e = 0 := by
  unfold RdB RdF; rw [if_pos h, if_pos h]; split <;> exact ⟨rfl, rfl⟩
theorem fmt_cases {fm : Int} (h : fmtB fm = true) : fm = 32 ∨ fm = 64 := by simpa [fmtB] using h
theorem fmt_no {fm : Int} (h : fmtB fm = false) : fm ≠ 32 ∧ fm ≠ 64 := by simpa [fmtB] using h
/-- Right limbs are those of a number. -/
theorem lim_ok {ng : Bool} {zs : List Int} (d : Nm.Dg zs) (h : okB ng zs = true) : zs = Nm.lim (Nm.val zs).toNat ∧ bitLen (Nm.val zs).toNat ≤ 6400 := by
  obtain ⟨hz, hl⟩ := okB_nz h
  have e := (Nm.lim_of d hz).symm
  refine ⟨e, len_bl (k := 200) ?_⟩
  rw [← e]; exact hl
theorem fmt_spec (fm : Int) (w : World) :
    Calls Tryd.prog 54 #[.int .i64 fm] w fun e w' => e = .returned (.bool (fmtB fm)) ∧ w' = w := by
  cases h : fmtB fm
  · obtain ⟨h1, h2⟩ := fmt_no h
    have e1 : (fm == 32) = false := by simpa using h1
    have e2 : (fm == 64) = false := by simpa using h2
    clear h h1 h2
    go_enter Tryd.func54, Tryd.ntmps54
    go_wp2
    go_ret
    exact ⟨rfl, rfl⟩
  · rcases fmt_cases h with rfl | rfl
    · go_enter Tryd.func54, Tryd.ntmps54
      go_wp2
      go_ret
      exact ⟨rfl, rfl⟩
    · go_enter Tryd.func54, Tryd.ntmps54
      go_wp2
      go_ret
      exact ⟨rfl, rfl⟩
theorem form_spec (fm mode : Int) (ng : Bool) (zs : List Int) (e : Int) (p : Option Addr) (c : Nat) (w : World) (hs : Sl .u32 w (.slice p zs.length c) zs) (hl : zs.length ≤ 1048576) :
    Calls Tryd.prog 157 #[.int .i64 fm, .int .i64 mode, .agg #[.bool ng, .slice p zs.length c], .int .i64 e] w fun x w' => x = .returned (.bool (RdO fm mode ng zs e)) ∧ Below w.heap.size w w' := by
  have hl' : zs.length ≤ 140737488355328 := by omega
  have hk : RdO fm mode ng zs e = (fmtB fm && modeB mode && okB ng zs && inZ e (-10000) 10000) := rfl
  have HK := hid hk
  have C1 := hid (fun w' => fmt_spec fm w')
  have C2 := hid (fun w' => mode_spec mode w')
  have C3 := hid (fun w' h => ok_spec ng p c zs w' h hl')
  have C4 := hid (fun w' => in_any e (-10000) 10000 w')
  obtain ⟨b1, h1⟩ : ∃ b, b = fmtB fm := ⟨_, rfl⟩
  obtain ⟨b2, h2⟩ : ∃ b, b = modeB mode := ⟨_, rfl⟩
  obtain ⟨b3, h3⟩ : ∃ b, b = okB ng zs := ⟨_, rfl⟩
  obtain ⟨b4, h4⟩ : ∃ b, b = inZ e (-10000) 10000 := ⟨_, rfl⟩
  rw [← h1] at C1; rw [← h2] at C2; rw [← h3] at C3; rw [← h4] at C4; rw [← h1, ← h2, ← h3, ← h4] at HK
  clear h1 h2 h3 h4 hk
  cases b1 with
  | false =>
    go_enter Tryd.func157, Tryd.ntmps157
    go_wp2_with fail
    refine (C1.out _).mono ?_
    rintro x w1 ⟨rfl, rfl⟩
    go_wp2
    go_ret
    exact ⟨ret_bool HK.out.symm, (by repeat (first | exact bz0 _ _ | refine bz1 ?_ | refine bz2 ?_ _ | refine bz3 ?_ _ | refine bz5 ?_ _ | refine bz6 ?_ _))⟩
  | true =>
  cases b2 with
  | false =>
    go_enter Tryd.func157, Tryd.ntmps157
    go_wp2_with fail
    refine (C1.out _).mono ?_
    rintro x w1 ⟨rfl, rfl⟩
    go_wp2_with fail
    refine (C2.out _).mono ?_
    rintro x w2 ⟨rfl, rfl⟩
    go_wp2
    go_ret
    exact ⟨ret_bool HK.out.symm, (by repeat (first | exact bz0 _ _ | refine bz1 ?_ | refine bz2 ?_ _ | refine bz3 ?_ _ | refine bz5 ?_ _ | refine bz6 ?_ _))⟩
  | true =>
  cases b3 with
  | false =>
    go_enter Tryd.func157, Tryd.ntmps157
    go_wp2_with fail
    refine (C1.out _).mono ?_
    rintro x w1 ⟨rfl, rfl⟩
    go_wp2_with fail
    refine (C2.out _).mono ?_
    rintro x w2 ⟨rfl, rfl⟩
    go_wp2_with fail
    refine (C3.out _ (hs.alloc _)).mono ?_
    rintro x w3 ⟨rfl, hb3⟩
    go_wp2
    go_ret
    exact ⟨ret_bool HK.out.symm, (by repeat (first | exact bz0 _ _ | refine bz1 ?_ | refine bz2 ?_ _ | refine bz3 ?_ _ | refine bz4 ?_ hb3 | refine bz5 ?_ _ | refine bz6 ?_ _ | refine bz7 ?_ hb3))⟩
  | true =>
    go_enter Tryd.func157, Tryd.ntmps157
    go_wp2_with fail
    refine (C1.out _).mono ?_
    rintro x w1 ⟨rfl, rfl⟩
    go_wp2_with fail
    refine (C2.out _).mono ?_
    rintro x w2 ⟨rfl, rfl⟩
    go_wp2_with fail
    refine (C3.out _ (hs.alloc _)).mono ?_
    rintro x w3 ⟨rfl, hb3⟩
    go_wp2_with fail
    refine (C4.out _).mono ?_
    rintro x w4 ⟨rfl, rfl⟩
    go_wp2
    go_ret
    exact ⟨ret_bool (by rw [HK.out]; simp), (by repeat (first | exact bz0 _ _ | refine bz1 ?_ | refine bz2 ?_ _ | refine bz3 ?_ _ | refine bz4 ?_ hb3 | refine bz5 ?_ _ | refine bz6 ?_ _ | refine bz7 ?_ hb3))⟩
theorem rounded_spec (fm mode : Int) (ng : Bool) (zs : List Int) (e : Int) (p : Option Addr) (c : Nat) (w : World) (hs : Sl .u32 w (.slice p zs.length c) zs) (hz : Nm.Dg zs) (hl : zs.length ≤ 1048576) :
    Calls Tryd.prog 110 #[.int .i64 fm, .int .i64 mode, .agg #[.bool ng, .slice p zs.length c], .int .i64 e] w fun x w' => x = .returned (.tuple #[.int .u64 (RdB fm mode ng zs e), .int .i64 (RdF fm mode ng zs e), .bool (RdO fm mode ng zs e)]) ∧ Below w.heap.size w w' := by
  have C := hid (fun w' h => form_spec fm mode ng zs e p c w' h hl)
  cases hk : RdO fm mode ng zs e
  · have HR := hid (Rd_no hk)
    rw [hk] at C
    clear hk
    go_enter Tryd.func110, Tryd.ntmps110
    go_wp2_with fail
    refine (C.out _ (hs.alloc _)).mono ?_
    rintro x w1 ⟨rfl, hb1⟩
    go_wp2
    go_ret3
    exact ⟨ret_uib2 HR.out.1.symm HR.out.2.symm rfl, (by repeat (first | exact bz0 _ _ | refine bz1 ?_ | refine bz2 ?_ _ | refine bz3 ?_ _ | refine bz4 ?_ hb1 | refine bz5 ?_ _ | refine bz6 ?_ _ | refine bz7 ?_ hb1))⟩
  rw [hk] at C
  by_cases h0 : zs.length = 0
  · have HR := hid (Rd_zero (fm := fm) (mode := mode) (ng := ng) (e := e) h0)
    have hb0 : ((zs.length : Int) == 0) = true := by rw [beq_iff_eq]; omega
    clear hk h0
    go_enter Tryd.func110, Tryd.ntmps110
    go_wp2_with fail
    refine (C.out _ (hs.alloc _)).mono ?_
    rintro x w1 ⟨rfl, hb1⟩
    obtain ⟨x10, x11⟩ := (Box.new w (.bool ng) (.slice p zs.length c) 30).below hb1
    go_wp2
    go_ret3
    exact ⟨ret_uib2 HR.out.1.symm HR.out.2.symm rfl, (by repeat (first | exact bz0 _ _ | refine bz1 ?_ | refine bz2 ?_ _ | refine bz3 ?_ _ | refine bz4 ?_ hb1 | refine bz5 ?_ _ | refine bz6 ?_ _ | refine bz7 ?_ hb1))⟩
  · have hb0 : ((zs.length : Int) == 0) = false := by rw [beq_eq_false_iff_ne]; omega
    have hk' := hk
    unfold RdO at hk'
    simp only [Bool.and_eq_true] at hk'
    obtain ⟨⟨⟨k1, k2⟩, k3⟩, k4⟩ := hk'
    have k5 := inZ_yes k4
    obtain ⟨hzl, hbl⟩ := lim_ok hz k3
    have ha : (Nm.val zs).toNat ≠ 0 := by
      intro h; rw [h, Nm.lim_zero] at hzl; rw [hzl] at h0; exact h0 rfl
    obtain ⟨a, haz⟩ : ∃ a, a = (Nm.val zs).toNat := ⟨_, rfl⟩
    rw [← haz] at hzl hbl ha
    have HB : Hid (RdB fm mode ng zs e = if fm = 32 then rdB 24 (-149) 2139095040 2147483648 mode ng a e else rdB 53 (-1074) 9218868437227405312 9223372036854775808 mode ng a e) := hid (by unfold RdB; rw [hk, if_pos rfl, if_neg h0, ← haz])
    have HF : Hid (RdF fm mode ng zs e = if fm = 32 then rdF 24 (-149) 2139095040 mode ng a e else rdF 53 (-1074) 9218868437227405312 mode ng a e) := hid (by unfold RdF; rw [hk, if_pos rfl, if_neg h0, ← haz])
    clear hk k4 h0 haz
    subst hzl
    rcases fmt_cases k1 with rfl | rfl
    · go_enter Tryd.func110, Tryd.ntmps110
      go_wp2_with fail
      refine (C.out _ (hs.alloc _)).mono ?_
      rintro x w1 ⟨rfl, hb1⟩
      obtain ⟨x10, x11⟩ := (Box.new w (.bool ng) (.slice p (Nm.lim a).length c) 30).below hb1
      go_wp2_with fail
      refine (l3r_32 mode ng a e p c _ ((hs.alloc _).below hb1) k2 ha (by omega) (by omega) (by omega)).mono ?_
      rintro x w2 ⟨rfl, hb2⟩
      go_wp2
      go_ret3
      exact ⟨ret_uib2 (by rw [HB.out]; rfl) (by rw [HF.out]; rfl) rfl, (by repeat (first | exact bz0 _ _ | refine bz1 ?_ | refine bz2 ?_ _ | refine bz3 ?_ _ | refine bz4 ?_ hb2 | refine bz4 ?_ hb1 | refine bz5 ?_ _ | refine bz6 ?_ _ | refine bz7 ?_ hb2 | refine bz7 ?_ hb1))⟩
    · go_enter Tryd.func110, Tryd.ntmps110
      go_wp2_with fail
      refine (C.out _ (hs.alloc _)).mono ?_
      rintro x w1 ⟨rfl, hb1⟩
      obtain ⟨x10, x11⟩ := (Box.new w (.bool ng) (.slice p (Nm.lim a).length c) 30).below hb1
      go_wp2_with fail
      refine (l3r_64 mode ng a e p c _ ((hs.alloc _).below hb1) k2 ha (by omega) (by omega) (by omega)).mono ?_
      rintro x w2 ⟨rfl, hb2⟩
      go_wp2
      go_ret3
      exact ⟨ret_uib2 (by rw [HB.out]; rfl) (by rw [HF.out]; rfl) rfl, (by repeat (first | exact bz0 _ _ | refine bz1 ?_ | refine bz2 ?_ _ | refine bz3 ?_ _ | refine bz4 ?_ hb2 | refine bz4 ?_ hb1 | refine bz5 ?_ _ | refine bz6 ?_ _ | refine bz7 ?_ hb2 | refine bz7 ?_ hb1))⟩
def EfO (fm : Int) (ng : Bool) (zs : List Int) (e : Int) : Bool := RdO fm 1 ng zs e && decide (RdF fm 1 ng zs e = 0)
def EfB (fm : Int) (ng : Bool) (zs : List Int) (e : Int) : Int := if EfO fm ng zs e then RdB fm 1 ng zs e else 0
theorem exact_spec (fm : Int) (ng : Bool) (zs : List Int) (e : Int) (p : Option Addr) (c : Nat) (w : World) (hs : Sl .u32 w (.slice p zs.length c) zs) (hz : Nm.Dg zs) (hl : zs.length ≤ 1048576) :
    Calls Tryd.prog 87 #[.int .i64 fm, .agg #[.bool ng, .slice p zs.length c], .int .i64 e] w fun x w' => x = .returned (.tuple #[.int .u64 (EfB fm ng zs e), .bool (EfO fm ng zs e)]) ∧ Below w.heap.size w w' := by
  obtain ⟨b, hb⟩ : ∃ b, b = RdB fm 1 ng zs e := ⟨_, rfl⟩
  obtain ⟨f, hf⟩ : ∃ f, f = RdF fm 1 ng zs e := ⟨_, rfl⟩
  obtain ⟨o, ho⟩ : ∃ o, o = RdO fm 1 ng zs e := ⟨_, rfl⟩
  have C := hid (rounded_spec fm 1 ng zs e p c (w.alloc (.cells #[.bool ng, .slice p zs.length c] 30)) (hs.alloc _) hz hl)
  rw [← hb, ← hf, ← ho] at C
  have HO : Hid (EfO fm ng zs e = (o && decide (f = 0))) := hid (by unfold EfO; rw [← ho, ← hf])
  have HB : Hid (EfB fm ng zs e = if (o && decide (f = 0)) then b else 0) := hid (by unfold EfB; rw [HO.out, ← hb])
  clear hb hf ho
  cases o with
  | false =>
    go_enter Tryd.func87, Tryd.ntmps87
    go_wp2_with fail
    refine C.out.mono ?_
    rintro x w1 ⟨rfl, hb1⟩
    go_wp2
    go_ret2
    exact ⟨ret_ub (by rw [HB.out]; rfl) (by rw [HO.out]; rfl), (by repeat (first | exact bz0 _ _ | refine bz1 ?_ | refine bz2 ?_ _ | refine bz3 ?_ _ | refine bz4 ?_ hb1 | refine bz5 ?_ _ | refine bz6 ?_ _ | refine bz7 ?_ hb1))⟩
  | true =>
    by_cases h0 : f = 0
    · subst h0
      go_enter Tryd.func87, Tryd.ntmps87
      go_wp2_with fail
      refine C.out.mono ?_
      rintro x w1 ⟨rfl, hb1⟩
      go_wp2
      go_ret2
      exact ⟨ret_ub (by rw [HB.out]; rfl) (by rw [HO.out]; rfl), (by repeat (first | exact bz0 _ _ | refine bz1 ?_ | refine bz2 ?_ _ | refine bz3 ?_ _ | refine bz4 ?_ hb1 | refine bz5 ?_ _ | refine bz6 ?_ _ | refine bz7 ?_ hb1))⟩
    · have hne : (f != 0) = true := by rw [bne_iff_ne]; exact h0
      have HD : Hid (decide (f = 0) = false) := hid (decide_eq_false h0)
      clear h0
      go_enter Tryd.func87, Tryd.ntmps87
      go_wp2_with fail
      refine C.out.mono ?_
      rintro x w1 ⟨rfl, hb1⟩
      go_wp2
      go_ret2
      exact ⟨ret_ub (by rw [HB.out, HD.out]; rfl) (by rw [HO.out, HD.out]; rfl), (by repeat (first | exact bz0 _ _ | refine bz1 ?_ | refine bz2 ?_ _ | refine bz3 ?_ _ | refine bz4 ?_ hb1 | refine bz5 ?_ _ | refine bz6 ?_ _ | refine bz7 ?_ hb1))⟩
end Go.Proofs.YtpalbhkihheogaaDoor
