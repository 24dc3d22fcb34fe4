/-
  Several texts in one: RF, RG, RH, RI.
-/
import Derived.Test.YtdjfajjlmjkpdaaDoorG19
import Derived.Test.YtdjfajjlmjkpdaaDoorG06
import Derived.Deep.RegionHeld3
/-
  Rounding at every argument, by the specification and by the program.
-/
namespace Go.Proofs.YtdjfajjlmjkpdaaDoor
set_option linter.unusedVariables false
set_option linter.unusedSimpArgs false
open Go.RowKit Go.Deep
def fmtB (fm : Int) : Bool := decide (fm = 32) || decide (fm = 64)
def RdO (fm mode : Int) (ng : Bool) (zs : List Int) (e : Int) : Bool := fmtB fm && modeB mode && okB ng zs && inZ e (-10000) 10000
def RdB (fm mode : Int) (ng : Bool) (zs : List Int) (e : Int) : Int := if RdO fm mode ng zs e then (if zs.length = 0 then 0 else if fm = 32 then rdB 24 (-149) 2139095040 2147483648 mode ng (Nm.val zs).toNat e else rdB 53 (-1074) 9218868437227405312 9223372036854775808 mode ng (Nm.val zs).toNat e) else 0
def RdF (fm mode : Int) (ng : Bool) (zs : List Int) (e : Int) : Int := if RdO fm mode ng zs e then (if zs.length = 0 then 0 else if fm = 32 then rdF 24 (-149) 2139095040 mode ng (Nm.val zs).toNat e else rdF 53 (-1074) 9218868437227405312 mode ng (Nm.val zs).toNat e) else 0
theorem Rd_no {fm mode : Int} {ng : Bool} {zs : List Int} {e : Int} (h : RdO fm mode ng zs e = false) : RdB fm mode ng zs e = 0 ∧ RdF fm mode ng zs e = 0 := by unfold RdB RdF; rw [h]; exact ⟨rfl, rfl⟩
theorem Rd_zero {fm mode : Int} {ng : Bool} {zs : List Int} {e : Int} (h : zs.length = 0) : RdB fm mode ng zs e = 0 ∧ RdF fm mode ng zs e = 0 := by
  unfold RdB RdF; rw [if_pos h, if_pos h]; split <;> exact ⟨rfl, rfl⟩
theorem fmt_cases {fm : Int} (h : fmtB fm = true) : fm = 32 ∨ fm = 64 := by simpa [fmtB] using h
theorem fmt_no {fm : Int} (h : fmtB fm = false) : fm ≠ 32 ∧ fm ≠ 64 := by simpa [fmtB] using h
/-- Right limbs are those of a number. -/
theorem lim_ok {ng : Bool} {zs : List Int} (d : Nm.Dg zs) (h : okB ng zs = true) : zs = Nm.lim (Nm.val zs).toNat ∧ bitLen (Nm.val zs).toNat ≤ 6400 := by
  obtain ⟨hz, hl⟩ := okB_nz h
  have e := (Nm.lim_of d hz).symm
  refine ⟨e, len_bl (k := 200) ?_⟩
  rw [← e]; exact hl
set_option maxHeartbeats 1000000 in
theorem fmt_spec (fm : Int) (w : World) :
    Calls Tryd.prog 46 #[.int .i64 fm] w fun e w' => e = .returned (.bool (fmtB fm)) ∧ w' = w := by
  cases h : fmtB fm
  · obtain ⟨h1, h2⟩ := fmt_no h
    have e1 : (fm == 32) = false := by simpa using h1
    have e2 : (fm == 64) = false := by simpa using h2
    clear h h1 h2
    go_enter Tryd.func46, Tryd.ntmps46
    go_wp2
    go_ret
    exact ⟨rfl, rfl⟩
  · rcases fmt_cases h with rfl | rfl
    · go_enter Tryd.func46, Tryd.ntmps46
      go_wp2
      go_ret
      exact ⟨rfl, rfl⟩
    · go_enter Tryd.func46, Tryd.ntmps46
      go_wp2
      go_ret
      exact ⟨rfl, rfl⟩
set_option maxHeartbeats 2000000 in
theorem form_spec (fm mode : Int) (ng : Bool) (zs : List Int) (e : Int) (p : Option Addr) (c : Nat) (w : World) (hs : Sl .u32 w (.slice p zs.length c) zs) (hl : zs.length ≤ 1048576) :
    Calls Tryd.prog 90 #[.int .i64 fm, .int .i64 mode, .agg #[.bool ng, .slice p zs.length c], .int .i64 e] w fun x w' => x = .returned (.bool (RdO fm mode ng zs e)) ∧ Below w.heap.size w w' := by
  have hl' : zs.length ≤ 140737488355328 := by omega
  have hk : RdO fm mode ng zs e = (fmtB fm && modeB mode && okB ng zs && inZ e (-10000) 10000) := rfl
  have HK := hid hk
  have C1 := hid (fun w' => fmt_spec fm w')
  have C2 := hid (fun w' => mode_spec mode w')
  have C3 := hid (fun w' h => ok_spec ng p c zs w' h hl')
  have C4 := hid (fun w' => in_any e (-10000) 10000 w')
  obtain ⟨b1, h1⟩ : ∃ b, b = fmtB fm := ⟨_, rfl⟩
  obtain ⟨b2, h2⟩ : ∃ b, b = modeB mode := ⟨_, rfl⟩
  obtain ⟨b3, h3⟩ : ∃ b, b = okB ng zs := ⟨_, rfl⟩
  obtain ⟨b4, h4⟩ : ∃ b, b = inZ e (-10000) 10000 := ⟨_, rfl⟩
  rw [← h1] at C1; rw [← h2] at C2; rw [← h3] at C3; rw [← h4] at C4; rw [← h1, ← h2, ← h3, ← h4] at HK
  clear h1 h2 h3 h4 hk
  cases b1 with
  | false =>
    go_enter Tryd.func90, Tryd.ntmps90
    go_wp2_with fail
    refine (C1.out _).mono ?_
    rintro x w1 ⟨rfl, rfl⟩
    go_wp2
    go_ret
    exact ⟨ret_bool HK.out.symm, (by repeat (first | exact Below.refl _ _ | refine Below.drew ?_ | refine bel_dn ?_ _ | refine bel_al ?_ _ | refine Below.setCell ?_ (by first | omega | (simp; done) | (simp; omega)) _ | refine Below.alloc ?_ (by first | omega | (simp; done) | (simp; omega)) _))⟩
  | true =>
  cases b2 with
  | false =>
    go_enter Tryd.func90, Tryd.ntmps90
    go_wp2_with fail
    refine (C1.out _).mono ?_
    rintro x w1 ⟨rfl, rfl⟩
    go_wp2_with fail
    refine (C2.out _).mono ?_
    rintro x w2 ⟨rfl, rfl⟩
    go_wp2
    go_ret
    exact ⟨ret_bool HK.out.symm, (by repeat (first | exact Below.refl _ _ | refine Below.drew ?_ | refine bel_dn ?_ _ | refine bel_al ?_ _ | refine Below.setCell ?_ (by first | omega | (simp; done) | (simp; omega)) _ | refine Below.alloc ?_ (by first | omega | (simp; done) | (simp; omega)) _))⟩
  | true =>
  cases b3 with
  | false =>
    go_enter Tryd.func90, Tryd.ntmps90
    go_wp2_with fail
    refine (C1.out _).mono ?_
    rintro x w1 ⟨rfl, rfl⟩
    go_wp2_with fail
    refine (C2.out _).mono ?_
    rintro x w2 ⟨rfl, rfl⟩
    go_wp2_with fail
    refine (C3.out _ (hs.alloc _)).mono ?_
    rintro x w3 ⟨rfl, hb3⟩
    go_wp2
    go_ret
    exact ⟨ret_bool HK.out.symm, (by repeat (first | exact Below.refl _ _ | refine Below.drew ?_ | refine bel_dn ?_ _ | refine bel_al ?_ _ | refine bel_go ?_ hb3 | refine Below.setCell ?_ (by first | omega | (simp; done) | (simp; omega)) _ | refine Below.alloc ?_ (by first | omega | (simp; done) | (simp; omega)) _ | refine Below.trans ?_ (Below.mono hb3 (by first | omega | (simp; done) | (simp; omega)))))⟩
  | true =>
    go_enter Tryd.func90, Tryd.ntmps90
    go_wp2_with fail
    refine (C1.out _).mono ?_
    rintro x w1 ⟨rfl, rfl⟩
    go_wp2_with fail
    refine (C2.out _).mono ?_
    rintro x w2 ⟨rfl, rfl⟩
    go_wp2_with fail
    refine (C3.out _ (hs.alloc _)).mono ?_
    rintro x w3 ⟨rfl, hb3⟩
    go_wp2_with fail
    refine (C4.out _).mono ?_
    rintro x w4 ⟨rfl, rfl⟩
    go_wp2
    go_ret
    exact ⟨ret_bool (by rw [HK.out]; simp), (by repeat (first | exact Below.refl _ _ | refine Below.drew ?_ | refine bel_dn ?_ _ | refine bel_al ?_ _ | refine bel_go ?_ hb3 | refine Below.setCell ?_ (by first | omega | (simp; done) | (simp; omega)) _ | refine Below.alloc ?_ (by first | omega | (simp; done) | (simp; omega)) _ | refine Below.trans ?_ (Below.mono hb3 (by first | omega | (simp; done) | (simp; omega)))))⟩
set_option maxHeartbeats 2000000 in
theorem rounded_spec (fm mode : Int) (ng : Bool) (zs : List Int) (e : Int) (p : Option Addr) (c : Nat) (w : World) (hs : Sl .u32 w (.slice p zs.length c) zs) (hz : Nm.Dg zs) (hl : zs.length ≤ 1048576) :
    Calls Tryd.prog 67 #[.int .i64 fm, .int .i64 mode, .agg #[.bool ng, .slice p zs.length c], .int .i64 e] w fun x w' => x = .returned (.tuple #[.int .u64 (RdB fm mode ng zs e), .int .i64 (RdF fm mode ng zs e), .bool (RdO fm mode ng zs e)]) ∧ Below w.heap.size w w' := by
  have C := hid (fun w' h => form_spec fm mode ng zs e p c w' h hl)
  cases hk : RdO fm mode ng zs e
  · have HR := hid (Rd_no hk)
    rw [hk] at C
    clear hk
    go_enter Tryd.func67, Tryd.ntmps67
    go_wp2_with fail
    refine (C.out _ (hs.alloc _)).mono ?_
    rintro x w1 ⟨rfl, hb1⟩
    go_wp2
    go_ret3
    exact ⟨ret_uib2 HR.out.1.symm HR.out.2.symm rfl, (by repeat (first | exact Below.refl _ _ | refine Below.drew ?_ | refine bel_dn ?_ _ | refine bel_al ?_ _ | refine bel_go ?_ hb1 | refine Below.setCell ?_ (by first | omega | (simp; done) | (simp; omega)) _ | refine Below.alloc ?_ (by first | omega | (simp; done) | (simp; omega)) _ | refine Below.trans ?_ (Below.mono hb1 (by first | omega | (simp; done) | (simp; omega)))))⟩
  rw [hk] at C
  by_cases h0 : zs.length = 0
  · have HR := hid (Rd_zero (fm := fm) (mode := mode) (ng := ng) (e := e) h0)
    have hb0 : ((zs.length : Int) == 0) = true := by rw [beq_iff_eq]; omega
    clear hk h0
    go_enter Tryd.func67, Tryd.ntmps67
    go_wp2_with fail
    refine (C.out _ (hs.alloc _)).mono ?_
    rintro x w1 ⟨rfl, hb1⟩
    obtain ⟨x10, x11⟩ := (Box.new w (.bool ng) (.slice p zs.length c) 29).below hb1
    go_wp2
    go_ret3
    exact ⟨ret_uib2 HR.out.1.symm HR.out.2.symm rfl, (by repeat (first | exact Below.refl _ _ | refine Below.drew ?_ | refine bel_dn ?_ _ | refine bel_al ?_ _ | refine bel_go ?_ hb1 | refine Below.setCell ?_ (by first | omega | (simp; done) | (simp; omega)) _ | refine Below.alloc ?_ (by first | omega | (simp; done) | (simp; omega)) _ | refine Below.trans ?_ (Below.mono hb1 (by first | omega | (simp; done) | (simp; omega)))))⟩
  · have hb0 : ((zs.length : Int) == 0) = false := by rw [beq_eq_false_iff_ne]; omega
    have hk' := hk
    unfold RdO at hk'
    simp only [Bool.and_eq_true] at hk'
    obtain ⟨⟨⟨k1, k2⟩, k3⟩, k4⟩ := hk'
    have k5 := inZ_yes k4
    obtain ⟨hzl, hbl⟩ := lim_ok hz k3
    have ha : (Nm.val zs).toNat ≠ 0 := by
      intro h; rw [h, Nm.lim_zero] at hzl; rw [hzl] at h0; exact h0 rfl
    obtain ⟨a, haz⟩ : ∃ a, a = (Nm.val zs).toNat := ⟨_, rfl⟩
    rw [← haz] at hzl hbl ha
    have HB : Hid (RdB fm mode ng zs e = if fm = 32 then rdB 24 (-149) 2139095040 2147483648 mode ng a e else rdB 53 (-1074) 9218868437227405312 9223372036854775808 mode ng a e) := hid (by unfold RdB; rw [hk, if_pos rfl, if_neg h0, ← haz])
    have HF : Hid (RdF fm mode ng zs e = if fm = 32 then rdF 24 (-149) 2139095040 mode ng a e else rdF 53 (-1074) 9218868437227405312 mode ng a e) := hid (by unfold RdF; rw [hk, if_pos rfl, if_neg h0, ← haz])
    clear hk k4 h0 haz
    subst hzl
    rcases fmt_cases k1 with rfl | rfl
    · go_enter Tryd.func67, Tryd.ntmps67
      go_wp2_with fail
      refine (C.out _ (hs.alloc _)).mono ?_
      rintro x w1 ⟨rfl, hb1⟩
      obtain ⟨x10, x11⟩ := (Box.new w (.bool ng) (.slice p (Nm.lim a).length c) 29).below hb1
      go_wp2_with fail
      refine (l3r_32 mode ng a e p c _ ((hs.alloc _).below hb1) k2 ha (by omega) (by omega) (by omega)).mono ?_
      rintro x w2 ⟨rfl, hb2⟩
      go_wp2
      go_ret3
      exact ⟨ret_uib2 (by rw [HB.out]; rfl) (by rw [HF.out]; rfl) rfl, (by repeat (first | exact Below.refl _ _ | refine Below.drew ?_ | refine bel_dn ?_ _ | refine bel_al ?_ _ | refine bel_go ?_ hb2 | refine bel_go ?_ hb1 | refine Below.setCell ?_ (by first | omega | (simp; done) | (simp; omega)) _ | refine Below.alloc ?_ (by first | omega | (simp; done) | (simp; omega)) _ | refine Below.trans ?_ (Below.mono hb2 (by first | omega | (simp; done) | (simp; omega))) | refine Below.trans ?_ (Below.mono hb1 (by first | omega | (simp; done) | (simp; omega)))))⟩
    · go_enter Tryd.func67, Tryd.ntmps67
      go_wp2_with fail
      refine (C.out _ (hs.alloc _)).mono ?_
      rintro x w1 ⟨rfl, hb1⟩
      obtain ⟨x10, x11⟩ := (Box.new w (.bool ng) (.slice p (Nm.lim a).length c) 29).below hb1
      go_wp2_with fail
      refine (l3r_64 mode ng a e p c _ ((hs.alloc _).below hb1) k2 ha (by omega) (by omega) (by omega)).mono ?_
      rintro x w2 ⟨rfl, hb2⟩
      go_wp2
      go_ret3
      exact ⟨ret_uib2 (by rw [HB.out]; rfl) (by rw [HF.out]; rfl) rfl, (by repeat (first | exact Below.refl _ _ | refine Below.drew ?_ | refine bel_dn ?_ _ | refine bel_al ?_ _ | refine bel_go ?_ hb2 | refine bel_go ?_ hb1 | refine Below.setCell ?_ (by first | omega | (simp; done) | (simp; omega)) _ | refine Below.alloc ?_ (by first | omega | (simp; done) | (simp; omega)) _ | refine Below.trans ?_ (Below.mono hb2 (by first | omega | (simp; done) | (simp; omega))) | refine Below.trans ?_ (Below.mono hb1 (by first | omega | (simp; done) | (simp; omega)))))⟩
end Go.Proofs.YtdjfajjlmjkpdaaDoor
/-
  The laws on rounding a wide: the walks.
-/
namespace Go.Proofs.YtdjfajjlmjkpdaaDoor
set_option linter.unusedVariables false
set_option linter.unusedSimpArgs false
open Go.RowKit Go.Deep
def EfO (fm : Int) (ng : Bool) (zs : List Int) (e : Int) : Bool := RdO fm 1 ng zs e && decide (RdF fm 1 ng zs e = 0)
def EfB (fm : Int) (ng : Bool) (zs : List Int) (e : Int) : Int := if EfO fm ng zs e then RdB fm 1 ng zs e else 0
set_option maxHeartbeats 2000000 in
theorem exact_spec (fm : Int) (ng : Bool) (zs : List Int) (e : Int) (p : Option Addr) (c : Nat) (w : World) (hs : Sl .u32 w (.slice p zs.length c) zs) (hz : Nm.Dg zs) (hl : zs.length ≤ 1048576) :
    Calls Tryd.prog 31 #[.int .i64 fm, .agg #[.bool ng, .slice p zs.length c], .int .i64 e] w fun x w' => x = .returned (.tuple #[.int .u64 (EfB fm ng zs e), .bool (EfO fm ng zs e)]) ∧ Below w.heap.size w w' := by
  obtain ⟨b, hb⟩ : ∃ b, b = RdB fm 1 ng zs e := ⟨_, rfl⟩
  obtain ⟨f, hf⟩ : ∃ f, f = RdF fm 1 ng zs e := ⟨_, rfl⟩
  obtain ⟨o, ho⟩ : ∃ o, o = RdO fm 1 ng zs e := ⟨_, rfl⟩
  have C := hid (rounded_spec fm 1 ng zs e p c (w.alloc (.cells #[.bool ng, .slice p zs.length c] 29)) (hs.alloc _) hz hl)
  rw [← hb, ← hf, ← ho] at C
  have HO : Hid (EfO fm ng zs e = (o && decide (f = 0))) := hid (by unfold EfO; rw [← ho, ← hf])
  have HB : Hid (EfB fm ng zs e = if (o && decide (f = 0)) then b else 0) := hid (by unfold EfB; rw [HO.out, ← hb])
  clear hb hf ho
  cases o with
  | false =>
    go_enter Tryd.func31, Tryd.ntmps31
    go_wp2_with fail
    refine C.out.mono ?_
    rintro x w1 ⟨rfl, hb1⟩
    go_wp2
    go_ret2
    exact ⟨ret_ub (by rw [HB.out]; rfl) (by rw [HO.out]; rfl), (by repeat (first | exact Below.refl _ _ | refine Below.drew ?_ | refine bel_dn ?_ _ | refine bel_al ?_ _ | refine bel_go ?_ hb1 | refine Below.setCell ?_ (by first | omega | (simp; done) | (simp; omega)) _ | refine Below.alloc ?_ (by first | omega | (simp; done) | (simp; omega)) _ | refine Below.trans ?_ (Below.mono hb1 (by first | omega | (simp; done) | (simp; omega)))))⟩
  | true =>
    by_cases h0 : f = 0
    · subst h0
      go_enter Tryd.func31, Tryd.ntmps31
      go_wp2_with fail
      refine C.out.mono ?_
      rintro x w1 ⟨rfl, hb1⟩
      go_wp2
      go_ret2
      exact ⟨ret_ub (by rw [HB.out]; rfl) (by rw [HO.out]; rfl), (by repeat (first | exact Below.refl _ _ | refine Below.drew ?_ | refine bel_dn ?_ _ | refine bel_al ?_ _ | refine bel_go ?_ hb1 | refine Below.setCell ?_ (by first | omega | (simp; done) | (simp; omega)) _ | refine Below.alloc ?_ (by first | omega | (simp; done) | (simp; omega)) _ | refine Below.trans ?_ (Below.mono hb1 (by first | omega | (simp; done) | (simp; omega)))))⟩
    · have hne : (f != 0) = true := by rw [bne_iff_ne]; exact h0
      have HD : Hid (decide (f = 0) = false) := hid (decide_eq_false h0)
      clear h0
      go_enter Tryd.func31, Tryd.ntmps31
      go_wp2_with fail
      refine C.out.mono ?_
      rintro x w1 ⟨rfl, hb1⟩
      go_wp2
      go_ret2
      exact ⟨ret_ub (by rw [HB.out, HD.out]; rfl) (by rw [HO.out, HD.out]; rfl), (by repeat (first | exact Below.refl _ _ | refine Below.drew ?_ | refine bel_dn ?_ _ | refine bel_al ?_ _ | refine bel_go ?_ hb1 | refine Below.setCell ?_ (by first | omega | (simp; done) | (simp; omega)) _ | refine Below.alloc ?_ (by first | omega | (simp; done) | (simp; omega)) _ | refine Below.trans ?_ (Below.mono hb1 (by first | omega | (simp; done) | (simp; omega)))))⟩
attribute [local go_sem ↓] Go.wp_at_zero Go.wp_at_succ
end Go.Proofs.YtdjfajjlmjkpdaaDoor
/-
  Parts, by the specification; the law on floats from parts.
-/
namespace Go.Proofs.YtdjfajjlmjkpdaaDoor
set_option linter.unusedVariables false
set_option linter.unusedSimpArgs false
open Go.RowKit Go.Deep
set_option maxHeartbeats 1000000 in
theorem l1uint_v (m : Int) (ng : Bool) (w : World) (h0 : 0 ≤ m) (h1 : m < 18446744073709551616) (x : Int) (hx : x = if ng then -m else m) :
    Calls Tryd.prog 29 #[.int .u64 m, .bool ng] w fun e w' => ∃ a' c', e = .returned (.agg #[.bool (Nm.wn x), .slice a' (Nm.wl x).length c']) ∧ Own w' w.heap.size a' c' (Nm.wl x) ∧ Below w.heap.size w w' := by
  have HV : Hid (x = Nm.wv ng (two m)) := hid (by rw [two_wv ng h0]; exact hx)
  have HD := hid (two_dg h0 h1)
  clear hx
  go_enter Tryd.func29, Tryd.ntmps29
  go_wp2_with fail
  refine (made_v ng _ 2 (two m) _ (by refine Own.sl (own_two (B := 0) ?_ ?_ _ _) <;> simp) HD.out (by simp [two]) x HV.out).mono ?_
  rintro e w1 ⟨a', c', rfl, ho, hb⟩
  have r := (R2.new w (.bool false) (.slice none 0 0) 29).alloc (.cells #[.int .u32 (m % 4294967296), .int .u32 (m / 4294967296)] 95)
  obtain ⟨rc0, rc1, rf0, rf1⟩ := r.below hb
  have ho : Own w1 (w.heap.size + 1 + 1) a' c' (Nm.wl x) := by simpa using ho
  go_wp2
  refine bodyPost_ret (v := .agg #[.bool (Nm.wn x), .slice a' (Nm.wl x).length c']) (by simp [results, Tryd.results29, go_sem, rc0, rc1]) rfl ⟨a', c', rfl, ?_, (by repeat (first | exact Below.refl _ _ | refine Below.drew ?_ | refine bel_dn ?_ _ | refine bel_al ?_ _ | refine bel_go ?_ hb | refine Below.setCell ?_ (by first | omega | (simp; done) | (simp; omega)) _ | refine Below.alloc ?_ (by first | omega | (simp; done) | (simp; omega)) _ | refine Below.trans ?_ (Below.mono hb (by first | omega | (simp; done) | (simp; omega)))))⟩
  exact Own.base ((ho.setBelow (by simp; omega) _).setBelow (by simp; omega) _) (by omega)
/-- A number that is not 0, with its sign. -/
theorem uint_n (m : Nat) (ng : Bool) (w : World) (h0 : m ≠ 0) (h1 : m < 18446744073709551616) :
    Calls Tryd.prog 29 #[.int .u64 (m : Nat), .bool ng] w fun e w' => ∃ a' c', e = .returned (.agg #[.bool ng, .slice a' (Nm.lim m).length c']) ∧ Own w' w.heap.size a' c' (Nm.lim m) ∧ Below w.heap.size w w' := by
  have h := l1uint_v (m : Int) ng w (by omega) (by omega) (if ng then -(m : Int) else m) rfl
  have e1 : Nm.wn (if ng then -(m : Int) else m) = ng := by unfold Nm.wn; cases ng <;> simp <;> omega
  have e2 : Nm.wl (if ng then -(m : Int) else m) = Nm.lim m := by unfold Nm.wl; cases ng <;> simp
  rw [e1, e2] at h
  exact h
/-- What parts make, by the specification's rounding. -/
theorem fp_ef {P I : Nat} {q ones S : Int} {ng : Bool} {m : Nat} {e : Int} (hm : m ≠ 0) (hP : 1 ≤ P) (hI : (I : Int) = ones * (2 ^ (P - 1) : Nat)) (ho : 3 ≤ ones) (ho2 : ones ≤ 2100) :
    Nm.stOk P q ones m e = decide (rdF P q I 1 ng m e = 0) ∧ (Nm.stOk P q ones m e = true → sgn S (Nm.flb P (Nm.stU q m e) : Nat) ng = rdB P q I S 1 ng m e) := by
  have hin := Nm.parts_in (P := P) (q := q) (e := e) hm
  by_cases hr : Nm.rr P q m e = 0
  · have hin' : Nm.stIn P q m e = true := by rw [hin]; exact decide_eq_true hr
    have hU : rdU P q 1 ng m e = Nm.stU q m e := Nm.parts_U hm hr _
    have ho' := Nm.st_o hm hin' hP hI ho ho2
    have h1 : Nm.stOk P q ones m e = Nm.flo P I (rdU P q 1 ng m e) := by
      unfold Nm.stOk; rw [hin', hU, ho']; rfl
    refine ⟨?_, fun h => ?_⟩
    · rw [h1]; unfold rdF; rw [if_pos hr]
      cases Nm.flo P I (rdU P q 1 ng m e) <;> rfl
    · rw [h1] at h; unfold rdB; rw [h, if_pos rfl, hU]
  · have hin' : Nm.stIn P q m e = false := by rw [hin]; exact decide_eq_false hr
    have h1 : Nm.stOk P q ones m e = false := by unfold Nm.stOk; rw [hin']; rfl
    refine ⟨?_, fun h => by rw [h1] at h; cases h⟩
    rw [h1]; unfold rdF; rw [if_neg hr]
    symm
    apply decide_eq_false
    split
    · split <;> decide
    · decide
/-- Parts at every format. -/
def FpO (fm : Int) (M E : Int) : Bool := if fm = 32 then fpO 24 (-149) 255 M E else if fm = 64 then fpO 53 (-1074) 2047 M E else false
def FpB (fm : Int) (ng : Bool) (M E : Int) : Int := if fm = 32 then fpB 24 (-149) 255 2147483648 ng M E else if fm = 64 then fpB 53 (-1074) 2047 9223372036854775808 ng M E else 0
theorem parts_impl (fm : Int) (ng : Bool) (M E : Int) (w : World) (hT : Ts w) (m1 : M < 9223372036854775808) :
    Calls Tryd.prog 34 #[.int .i64 fm, .agg #[.bool ng, .int .i64 M, .int .i64 E]] w fun x w' => x = .returned (.tuple #[.int .u64 (FpB fm ng M E), .bool (FpO fm M E)]) ∧ Below w.heap.size w w' := by
  cases h : fmtB fm
  · obtain ⟨h1, h2⟩ := fmt_no h
    have HO : Hid (FpO fm M E = false) := hid (by unfold FpO; rw [if_neg h1, if_neg h2])
    have HB : Hid (FpB fm ng M E = 0) := hid (by unfold FpB; rw [if_neg h1, if_neg h2])
    clear h
    go_enter Tryd.func34, Tryd.ntmps34
    go_wp2_with fail
    refine (sizes0 fm _ (hT.f.al _) h1 h2).mono ?_
    rintro x w1 ⟨rfl, hb1⟩
    go_wp2
    go_ret2
    exact ⟨ret_ub HB.out.symm HO.out.symm, (by repeat (first | exact Below.refl _ _ | refine Below.drew ?_ | refine bel_dn ?_ _ | refine bel_al ?_ _ | refine bel_go ?_ hb1 | refine Below.setCell ?_ (by first | omega | (simp; done) | (simp; omega)) _ | refine Below.alloc ?_ (by first | omega | (simp; done) | (simp; omega)) _ | refine Below.trans ?_ (Below.mono hb1 (by first | omega | (simp; done) | (simp; omega)))))⟩
  · rcases fmt_cases h with rfl | rfl
    · exact fp_32 ng M E w hT m1
    · exact fp_64 ng M E w hT m1
end Go.Proofs.YtdjfajjlmjkpdaaDoor
/-
  A float of one format as one of another, by both; the law.
-/
namespace Go.Proofs.YtdjfajjlmjkpdaaDoor
set_option linter.unusedVariables false
set_option linter.unusedSimpArgs false
open Go.RowKit Go.Deep
theorem sparts_any (fm x : Int) (w : World) (hf : finB fm x = true) (h0 : 0 ≤ x) (h1 : x < 18446744073709551616) :
    Calls Tryd.prog 28 #[.int .i64 fm, .int .u64 x] w fun e w' => e = .returned (.agg #[.bool (pS fm x), .int .i64 (pM fm x), .int .i64 (pE fm x)]) ∧ Below w.heap.size w w' := by
  have ho : okF fm x = true := by
    cases ho : okF fm x
    · rw [fin_no ho] at hf; cases hf
    · rfl
  rcases okF_cases ho with ⟨rfl, hx⟩ | rfl
  · refine (spec_l2Parts32 x w h0 hx).mono ?_
    rintro e w1 ⟨rfl, hb1⟩
    exact ⟨ret_p3 (by unfold pS; rw [hf]; rfl) (by unfold pM; rw [hf]; rfl) (by unfold pE; rw [hf]; rfl), hb1⟩
  · refine (spec_l2Parts64 x w h0 h1).mono ?_
    rintro e w1 ⟨rfl, hb1⟩
    exact ⟨ret_p3 (by unfold pS; rw [hf]; rfl) (by unfold pM; rw [hf]; rfl) (by unfold pE; rw [hf]; rfl), hb1⟩
/-- The bounds of a finite float's parts. -/
theorem par_bd {L y : Int} (h0 : 0 ≤ y) (hL : 0 < L) : 0 ≤ parM L y ∧ parM L y < 2 * L := by
  have h1 := Int.emod_nonneg y (show L ≠ 0 by omega)
  have h2 := Int.emod_lt_of_pos y hL
  unfold parM; split <;> omega
theorem pM_bd (fm x : Int) : 0 ≤ pM fm x ∧ pM fm x < 9007199254740992 := by
  unfold pM
  split
  · split
    · have := par_bd (L := 8388608) (y := x % 2147483648) (by omega) (by decide); omega
    · have := par_bd (L := 4503599627370496) (y := x % 9223372036854775808) (by omega) (by decide); omega
  · omega
theorem pE_bd (fm x : Int) : -1074 ≤ pE fm x ∧ pE fm x ≤ 2000 := by
  unfold pE parE
  split
  · split
    · split <;> omega
    · split <;> omega
  · omega
theorem pM_pos {fm x : Int} (h : cls fm x = 1 ∨ cls fm x = 2) : finB fm x = true ∧ 0 < pM fm x := by
  have hf : finB fm x = true := by unfold finB; exact decide_eq_true (by omega)
  have ho : okF fm x = true := by
    cases ho : okF fm x
    · rw [fin_no ho] at hf; cases hf
    · rfl
  refine ⟨hf, ?_⟩
  unfold pM
  rw [hf, if_pos rfl]
  rcases okF_cases ho with ⟨rfl, hx⟩ | rfl
  · rw [cls32 hx] at h
    rw [if_pos rfl]
    unfold clsY at h; unfold parM
    split at h
    · omega
    · split <;> omega
  · rw [cls64] at h
    rw [if_neg (by decide)]
    unfold clsY at h; unfold parM
    split at h
    · omega
    · split <;> omega
set_option maxHeartbeats 2000000 in
theorem signedM_n (ng : Bool) (m : Nat) (E : Int) (w : World) (h0 : m ≠ 0) (h1 : m < 9223372036854775808) :
    Calls Tryd.prog 41 #[.agg #[.bool ng, .int .i64 (m : Nat), .int .i64 E]] w fun e w' => ∃ a' c', e = .returned (.agg #[.bool ng, .slice a' (Nm.lim m).length c']) ∧ Own w' w.heap.size a' c' (Nm.lim m) ∧ Below w.heap.size w w' := by
  obtain ⟨z, hz⟩ : ∃ z : Int, z = (m : Int) := ⟨_, rfl⟩
  have z0 : 0 < z := by omega
  have z1 : z < 9223372036854775808 := by omega
  have e1 : Nm.wn (-z) = true := by unfold Nm.wn; exact decide_eq_true (by omega)
  have e2 : Nm.wl (-z) = Nm.lim m := by unfold Nm.wl; rw [hz]; simp
  have e3 : Nm.wn z = false := by unfold Nm.wn; exact decide_eq_false (by omega)
  have e4 : Nm.wl z = Nm.lim m := by unfold Nm.wl; rw [hz]; simp
  have CN := hid (fun w' => wof_impl (-z) w' (by omega) (by omega))
  have CP := hid (fun w' => wof_impl z w' (by omega) (by omega))
  rw [e1, e2] at CN; rw [e3, e4] at CP
  rw [← hz]
  clear e1 e2 e3 e4 hz
  cases ng with
  | true =>
    go_enter Tryd.func41, Tryd.ntmps41
    go_wp2_with fail
    refine (CN.out _).mono ?_
    rintro e w1 ⟨a', c', rfl, ho, hb⟩
    obtain ⟨r0, r1, f0, f1⟩ := (R2.new2 w (.cells #[.bool true, .int .i64 z, .int .i64 E] 52) (.bool false) (.slice none 0 0) 29).below hb
    have ho : Own w1 (w.heap.size + 1 + 1) a' c' (Nm.lim m) := by simpa using ho
    go_wp2
    refine bodyPost_ret (v := .agg #[.bool true, .slice a' (Nm.lim m).length c']) (by simp [results, Tryd.results41, go_sem, r0, r1]) rfl ⟨a', c', rfl, ?_, (by repeat (first | exact Below.refl _ _ | refine Below.drew ?_ | refine bel_dn ?_ _ | refine bel_al ?_ _ | refine bel_go ?_ hb | refine Below.setCell ?_ (by first | omega | (simp; done) | (simp; omega)) _ | refine Below.alloc ?_ (by first | omega | (simp; done) | (simp; omega)) _ | refine Below.trans ?_ (Below.mono hb (by first | omega | (simp; done) | (simp; omega)))))⟩
    exact Own.base ((ho.setBelow (by simp) _).setBelow (by simp) _) (by omega)
  | false =>
    go_enter Tryd.func41, Tryd.ntmps41
    go_wp2_with fail
    refine (CP.out _).mono ?_
    rintro e w1 ⟨a', c', rfl, ho, hb⟩
    obtain ⟨r0, r1, f0, f1⟩ := (R2.new2 w (.cells #[.bool false, .int .i64 z, .int .i64 E] 52) (.bool false) (.slice none 0 0) 29).below hb
    have ho : Own w1 (w.heap.size + 1 + 1) a' c' (Nm.lim m) := by simpa using ho
    go_wp2
    refine bodyPost_ret (v := .agg #[.bool false, .slice a' (Nm.lim m).length c']) (by simp [results, Tryd.results41, go_sem, r0, r1]) rfl ⟨a', c', rfl, ?_, (by repeat (first | exact Below.refl _ _ | refine Below.drew ?_ | refine bel_dn ?_ _ | refine bel_al ?_ _ | refine bel_go ?_ hb | refine Below.setCell ?_ (by first | omega | (simp; done) | (simp; omega)) _ | refine Below.alloc ?_ (by first | omega | (simp; done) | (simp; omega)) _ | refine Below.trans ?_ (Below.mono hb (by first | omega | (simp; done) | (simp; omega)))))⟩
    exact Own.base ((ho.setBelow (by simp) _).setBelow (by simp) _) (by omega)
end Go.Proofs.YtdjfajjlmjkpdaaDoor
