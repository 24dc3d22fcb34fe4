/-
  Several texts in one: ID, ITs, IE, IG, RE, IH, RF, RG, RH.
-/
import Derived.Test.YtbalefbcpnoieaaDoorG19
import Derived.Test.YtbalefbcpnoieaaDoorG20
import Derived.Test.YtbalefbcpnoieaaDoorG18
import Derived.Deep.RegionHeld3
import Derived.Test.YtbalefbcpnoieaaDoorG10
/-
  Steps counted, by the program.
-/
namespace Go.Proofs.YtbalefbcpnoieaaDoor
set_option linter.unusedVariables false
set_option linter.unusedSimpArgs false
open Go.RowKit Go.Deep
/-- What is cut off, against a half, as the program tells it. -/
def hI (a : Nat) (n : Int) : Int := if (Nm.tz a : Int) = n - 1 then 0 else if a / 2 ^ (n - 1).toNat % 2 = 1 then 1 else -1
def sM (R : Bool → Int → Bool → Bool) (ng : Bool) (a : Nat) (n : Int) : Int := if n ≤ Nm.tz a then (Nm.sh a (-n) : Nat) else if R (((Nm.sh a (-n) : Nat) : Int) % 2 == 1) (hI a n) ng then ((Nm.sh a (-n) : Nat) : Int) + 1 else (Nm.sh a (-n) : Nat)
theorem ret_ib {a a' : Int} {b b' : Bool} (h : a = a') (k : b = b') : Ending.returned (.tuple #[.int .i64 a, .bool b]) = .returned (.tuple #[.int .i64 a', .bool b']) := by rw [h, k]
end Go.Proofs.YtbalefbcpnoieaaDoor
/-
  The tables of formats and of halvings of 64 bits.
-/
namespace Go.Proofs.YtbalefbcpnoieaaDoor
set_option linter.unusedVariables false
set_option linter.unusedSimpArgs false
open Go.RowKit Go.Deep
end Go.Proofs.YtbalefbcpnoieaaDoor
/-
  M and E as the format has them, by the program.
-/
namespace Go.Proofs.YtbalefbcpnoieaaDoor
set_option linter.unusedVariables false
set_option linter.unusedSimpArgs false
open Go.RowKit Go.Deep
theorem ret_uib {a a' b b' : Int} {c c' : Bool} (h : a = a') (k : b = b') (l : c = c') : Ending.returned (.tuple #[.int .u64 a, .int .i64 b, .bool c]) = .returned (.tuple #[.int .u64 a', .int .i64 b', .bool c']) := by rw [h, k, l]
/-- What settling answers. -/
def seM (P : Nat) (q : Int) (m : Nat) (e : Int) : Int := if Nm.stIn P q m e then (Nm.stM P q m e : Nat) else 0
def seE (P : Nat) (q : Int) (m : Nat) (e : Int) : Int := if Nm.stIn P q m e then Nm.stE P q m e else 0
set_option maxHeartbeats 1000000 in
theorem prec_32 (w : World) :
    Calls Tryd.prog 123 #[.agg #[.int .u64 23, .int .u64 255, .int .i64 (-149)]] w fun e w' => e = .returned (.int .i64 24) ∧ Below w.heap.size w w' := by
  go_enter Tryd.func123, Tryd.ntmps123
  go_wp2
  go_ret
  exact ⟨rfl, (by repeat (first | exact Below.refl _ _ | refine Below.drew ?_ | refine bel_dn ?_ _ | refine bel_al ?_ _ | refine Below.setCell ?_ (by first | omega | (simp; done) | (simp; omega)) _ | refine Below.alloc ?_ (by first | omega | (simp; done) | (simp; omega)) _))⟩
set_option maxHeartbeats 1000000 in
theorem prec_64 (w : World) :
    Calls Tryd.prog 123 #[.agg #[.int .u64 52, .int .u64 2047, .int .i64 (-1074)]] w fun e w' => e = .returned (.int .i64 53) ∧ Below w.heap.size w w' := by
  go_enter Tryd.func123, Tryd.ntmps123
  go_wp2
  go_ret
  exact ⟨rfl, (by repeat (first | exact Below.refl _ _ | refine Below.drew ?_ | refine bel_dn ?_ _ | refine bel_al ?_ _ | refine Below.setCell ?_ (by first | omega | (simp; done) | (simp; omega)) _ | refine Below.alloc ?_ (by first | omega | (simp; done) | (simp; omega)) _))⟩
end Go.Proofs.YtbalefbcpnoieaaDoor
/-
  A float from its parts, by the program.
-/
namespace Go.Proofs.YtbalefbcpnoieaaDoor
set_option linter.unusedVariables false
set_option linter.unusedSimpArgs false
open Go.RowKit Go.Deep
theorem ret_ub {a a' : Int} {c c' : Bool} (h : a = a') (l : c = c') : Ending.returned (.tuple #[.int .u64 a, .bool c]) = .returned (.tuple #[.int .u64 a', .bool c']) := by rw [h, l]
/-- What parts make. -/
def fpO (P : Nat) (q ones : Int) (M E : Int) : Bool := decide (0 ≤ M) && decide (-5000 ≤ E) && decide (E ≤ 5000) && (decide (M = 0) || Nm.stOk P q ones M.toNat E)
def fpB (P : Nat) (q ones S : Int) (ng : Bool) (M E : Int) : Int := if fpO P q ones M E then (if M = 0 then sgn S 0 ng else sgn S (Nm.flb P (Nm.stU q M.toNat E) : Nat) ng) else 0
end Go.Proofs.YtbalefbcpnoieaaDoor
/-
  What is rounded by the program is what is rounded by the specification: mathematics.
-/
namespace Go.Proofs.YtbalefbcpnoieaaDoor
set_option linter.unusedVariables false
set_option linter.unusedSimpArgs false
open Go.RowKit Go.Deep
/-- The step, as the program counts it. -/
theorem step_rn (P : Nat) (q : Int) (a : Nat) (e : Int) : max (e + (bitLen a : Int) - P) q - e = Nm.rn P q a e := by unfold Nm.rn; omega
theorem sM_r1 {P : Nat} {q : Int} {mode : Int} {ng : Bool} {a : Nat} {e : Int} (ha : a ≠ 0) :
    sM (fun od h ng => upB mode od h ng) ng a (Nm.rn P q a e) = (Nm.r1 P q a e (upB mode (((Nm.rm P q a e : Nat) : Int) % 2 == 1) (Nm.rh P q a e) ng) : Nat) := by
  unfold sM Nm.r1
  have hrm : Nm.sh a (-Nm.rn P q a e) = Nm.rm P q a e := rfl
  rw [hrm]
  by_cases hr : Nm.rr P q a e = 0
  · rw [if_pos ((Nm.rr_tz ha).1 hr), if_neg (by simp [hr])]
  · rw [if_neg (fun h => hr ((Nm.rr_tz ha).2 h))]
    have hh : hI a (Nm.rn P q a e) = Nm.rh P q a e := by
      unfold hI; rw [Nm.impl_half ha hr]
    rw [hh]
    cases hu : upB mode (((Nm.rm P q a e : Nat) : Int) % 2 == 1) (Nm.rh P q a e) ng
    · show (if upB mode (((Nm.rm P q a e : Nat) : Int) % 2 == 1) (Nm.rh P q a e) ng = true then _ else _) = _
      rw [hu]; simp
    · show (if upB mode (((Nm.rm P q a e : Nat) : Int) % 2 == 1) (Nm.rh P q a e) ng = true then _ else _) = _
      rw [hu, if_pos rfl, if_pos ⟨hr, rfl⟩]; simp
theorem fp_rd {P I : Nat} {q ones S : Int} {mode : Int} {ng : Bool} {a : Nat} {e : Int} (ha : a ≠ 0) (hP : 1 ≤ P) (hP2 : P ≤ 100) (hq : -2000 ≤ q) (hq0 : q ≤ 0) (hI : (I : Int) = ones * (2 ^ (P - 1) : Nat)) (ho : 3 ≤ ones) (ho2 : ones ≤ 2100) :
    fpO P q ones (Nm.r1 P q a e (upB mode (((Nm.rm P q a e : Nat) : Int) % 2 == 1) (Nm.rh P q a e) ng) : Nat) (Nm.rn P q a e + e) = Nm.flo P I (rdU P q mode ng a e) ∧
    (Nm.flo P I (rdU P q mode ng a e) = true → fpB P q ones S ng (Nm.r1 P q a e (upB mode (((Nm.rm P q a e : Nat) : Int) % 2 == 1) (Nm.rh P q a e) ng) : Nat) (Nm.rn P q a e + e) = sgn S (Nm.flb P (rdU P q mode ng a e) : Nat) ng) := by
  have hIp : 0 < I := by
    have hp := Nm.pw_pos2 (P - 1)
    have : (0 : Int) < ones * (2 ^ (P - 1) : Nat) := Int.mul_pos (by omega) (by omega)
    omega
  have hqn : q - e ≤ Nm.rn P q a e := by unfold Nm.rn; omega
  unfold rdU
  generalize upB mode (((Nm.rm P q a e : Nat) : Int) % 2 == 1) (Nm.rh P q a e) ng = up at *
  have key : fpO P q ones (Nm.r1 P q a e up : Nat) (Nm.rn P q a e + e) = Nm.flo P I (Nm.rU P q a e up) := by
    unfold fpO
    rw [decide_eq_true (show (0 : Int) ≤ (Nm.r1 P q a e up : Nat) by omega), decide_eq_true (show -5000 ≤ Nm.rn P q a e + e by omega)]
    by_cases hbig : 5000 < Nm.rn P q a e + e
    · rw [decide_eq_false (show ¬ Nm.rn P q a e + e ≤ 5000 by omega), Nm.big_no ha hP hq hq0 hP2 hbig]; rfl
    · rw [decide_eq_true (show Nm.rn P q a e + e ≤ 5000 by omega)]
      by_cases h1 : Nm.r1 P q a e up = 0
      · rw [(Nm.r_zero h1 hIp).1, h1]; rfl
      · rw [decide_eq_false (show ¬ ((Nm.r1 P q a e up : Nat) : Int) = 0 by omega), Nm.r_U h1]
        have hin := Nm.r_in (P := P) (q := q) (a := a) (e := e) (up := up) hP h1
        rw [Nm.st_o h1 hin hP hI ho ho2, Int.toNat_natCast]
        unfold Nm.stOk
        rw [hin]; simp
  refine ⟨key, fun hf => ?_⟩
  unfold fpB
  rw [key, hf, if_pos rfl]
  by_cases h1 : Nm.r1 P q a e up = 0
  · rw [(Nm.r_zero h1 hIp).2, if_pos (by omega)]; rfl
  · rw [if_neg (by omega), Nm.r_U h1, Int.toNat_natCast]
theorem ov_up {mode : Int} (h : modeB mode = true) (ng : Bool) : upB mode false 1 ng = !ovB mode ng := by
  rcases mode_cases h with rfl | rfl | rfl | rfl | rfl | rfl <;> cases ng <;> rfl
end Go.Proofs.YtbalefbcpnoieaaDoor
/-
  What is not 0, rounded, by the program.
-/
namespace Go.Proofs.YtbalefbcpnoieaaDoor
set_option linter.unusedVariables false
set_option linter.unusedSimpArgs false
open Go.RowKit Go.Deep
theorem ret_uib2 {a a' b b' : Int} {c c' : Bool} (h : a = a') (k : b = b') (l : c = c') : Ending.returned (.tuple #[.int .u64 a, .int .i64 b, .bool c]) = .returned (.tuple #[.int .u64 a', .int .i64 b', .bool c']) := by rw [h, k, l]
theorem mode_w (m : Int) (w : World) : Calls Tryd.prog 102 #[.int .i64 m] w fun e w' => e = .returned (.bool (modeB m)) ∧ w' = w := mode_impl m w
theorem five_b {W W' : World} {b b' : Nat} {v0 v1 u0 u1 u2 : Value} (h0 : W.cell? ⟨b, 0, none⟩ = some v0) (h1 : W.cell? ⟨b, 1, none⟩ = some v1) (k0 : W.cell? ⟨b', 0, none⟩ = some u0) (k1 : W.cell? ⟨b', 1, none⟩ = some u1) (k2 : W.cell? ⟨b', 2, none⟩ = some u2) (hb : Below W.heap.size W W') :
    W'.cell? ⟨b, 0, none⟩ = some v0 ∧ W'.cell? ⟨b, 1, none⟩ = some v1 ∧ W'.cell? ⟨b', 0, none⟩ = some u0 ∧ W'.cell? ⟨b', 1, none⟩ = some u1 ∧ W'.cell? ⟨b', 2, none⟩ = some u2 :=
  ⟨(Box.below ⟨h0, h1⟩ hb).1, (Box.below ⟨h0, h1⟩ hb).2, (Box.below ⟨k0, k1⟩ hb).1, (Box.below ⟨k0, k1⟩ hb).2, (hb.cell (p := ⟨b', 2, none⟩) (World.block_lt_of_cell? W ⟨b', 0, none⟩ k0)).trans k2⟩
attribute [local go_sem ↓] Go.wp_at_zero Go.wp_at_succ
theorem bl_n (ng : Bool) (x : Nat) (a : Option Addr) (c : Nat) (w : World) (hx : Sl .u32 w (.slice a (Nm.lim x).length c) (Nm.lim x)) (h0 : x ≠ 0) (hl : bitLen x ≤ 6400) :
    Calls Tryd.prog 34 #[.agg #[.bool ng, .slice a (Nm.lim x).length c]] w fun e w' => e = .returned (.int .i64 (bitLen x : Nat)) ∧ Below w.heap.size w w' := by
  have h := bl_impl ng a c (Nm.lim x) w hx (Nm.lim_dg x) (by have := lim_len (x := x) (k := 200) (by omega); omega)
  have e : blW ng (Nm.lim x) = (bitLen x : Int) := by unfold blW; rw [ok_lim h0 hl, if_pos rfl, blL_lim]
  rw [e] at h
  exact h
end Go.Proofs.YtbalefbcpnoieaaDoor
/-
  Rounding at every argument, by the specification and by the program.
-/
namespace Go.Proofs.YtbalefbcpnoieaaDoor
set_option linter.unusedVariables false
set_option linter.unusedSimpArgs false
open Go.RowKit Go.Deep
def fmtB (fm : Int) : Bool := decide (fm = 32) || decide (fm = 64)
def RdO (fm mode : Int) (ng : Bool) (zs : List Int) (e : Int) : Bool := fmtB fm && modeB mode && okB ng zs && inZ e (-10000) 10000
def RdB (fm mode : Int) (ng : Bool) (zs : List Int) (e : Int) : Int := if RdO fm mode ng zs e then (if zs.length = 0 then 0 else if fm = 32 then rdB 24 (-149) 2139095040 2147483648 mode ng (Nm.val zs).toNat e else rdB 53 (-1074) 9218868437227405312 9223372036854775808 mode ng (Nm.val zs).toNat e) else 0
def RdF (fm mode : Int) (ng : Bool) (zs : List Int) (e : Int) : Int := if RdO fm mode ng zs e then (if zs.length = 0 then 0 else if fm = 32 then rdF 24 (-149) 2139095040 mode ng (Nm.val zs).toNat e else rdF 53 (-1074) 9218868437227405312 mode ng (Nm.val zs).toNat e) else 0
theorem Rd_no {fm mode : Int} {ng : Bool} {zs : List Int} {e : Int} (h : RdO fm mode ng zs e = false) : RdB fm mode ng zs e = 0 ∧ RdF fm mode ng zs e = 0 := by unfold RdB RdF; rw [h]; exact ⟨rfl, rfl⟩
theorem Rd_zero {fm mode : Int} {ng : Bool} {zs : List Int} {e : Int} (h : zs.length = 0) : RdB fm mode ng zs e = 0 ∧ RdF fm mode ng zs e = 0 := by
  unfold RdB RdF; rw [if_pos h, if_pos h]; split <;> exact ⟨rfl, rfl⟩
theorem fmt_cases {fm : Int} (h : fmtB fm = true) : fm = 32 ∨ fm = 64 := by simpa [fmtB] using h
theorem fmt_no {fm : Int} (h : fmtB fm = false) : fm ≠ 32 ∧ fm ≠ 64 := by simpa [fmtB] using h
/-- Right limbs are those of a number. -/
theorem lim_ok {ng : Bool} {zs : List Int} (d : Nm.Dg zs) (h : okB ng zs = true) : zs = Nm.lim (Nm.val zs).toNat ∧ bitLen (Nm.val zs).toNat ≤ 6400 := by
  obtain ⟨hz, hl⟩ := okB_nz h
  have e := (Nm.lim_of d hz).symm
  refine ⟨e, len_bl (k := 200) ?_⟩
  rw [← e]; exact hl
set_option maxHeartbeats 1000000 in
theorem fmt_spec (fm : Int) (w : World) :
    Calls Tryd.prog 50 #[.int .i64 fm] w fun e w' => e = .returned (.bool (fmtB fm)) ∧ w' = w := by
  cases h : fmtB fm
  · obtain ⟨h1, h2⟩ := fmt_no h
    have e1 : (fm == 32) = false := by simpa using h1
    have e2 : (fm == 64) = false := by simpa using h2
    clear h h1 h2
    go_enter Tryd.func50, Tryd.ntmps50
    go_wp2
    go_ret
    exact ⟨rfl, rfl⟩
  · rcases fmt_cases h with rfl | rfl
    · go_enter Tryd.func50, Tryd.ntmps50
      go_wp2
      go_ret
      exact ⟨rfl, rfl⟩
    · go_enter Tryd.func50, Tryd.ntmps50
      go_wp2
      go_ret
      exact ⟨rfl, rfl⟩
end Go.Proofs.YtbalefbcpnoieaaDoor
/-
  The laws on rounding a wide: the walks.
-/
namespace Go.Proofs.YtbalefbcpnoieaaDoor
set_option linter.unusedVariables false
set_option linter.unusedSimpArgs false
open Go.RowKit Go.Deep
def EfO (fm : Int) (ng : Bool) (zs : List Int) (e : Int) : Bool := RdO fm 1 ng zs e && decide (RdF fm 1 ng zs e = 0)
def EfB (fm : Int) (ng : Bool) (zs : List Int) (e : Int) : Int := if EfO fm ng zs e then RdB fm 1 ng zs e else 0
attribute [local go_sem ↓] Go.wp_at_zero Go.wp_at_succ
end Go.Proofs.YtbalefbcpnoieaaDoor
/-
  Parts, by the specification; the law on floats from parts.
-/
namespace Go.Proofs.YtbalefbcpnoieaaDoor
set_option linter.unusedVariables false
set_option linter.unusedSimpArgs false
open Go.RowKit Go.Deep
set_option maxHeartbeats 1000000 in
theorem l1uint_v (m : Int) (ng : Bool) (w : World) (h0 : 0 ≤ m) (h1 : m < 18446744073709551616) (x : Int) (hx : x = if ng then -m else m) :
    Calls Tryd.prog 68 #[.int .u64 m, .bool ng] w fun e w' => ∃ a' c', e = .returned (.agg #[.bool (Nm.wn x), .slice a' (Nm.wl x).length c']) ∧ Own w' w.heap.size a' c' (Nm.wl x) ∧ Below w.heap.size w w' := by
  have HV : Hid (x = Nm.wv ng (two m)) := hid (by rw [two_wv ng h0]; exact hx)
  have HD := hid (two_dg h0 h1)
  clear hx
  go_enter Tryd.func68, Tryd.ntmps68
  go_wp2_with fail
  refine (made_v ng _ 2 (two m) _ (by refine Own.sl (own_two (B := 0) ?_ ?_ _ _) <;> simp) HD.out (by simp [two]) x HV.out).mono ?_
  rintro e w1 ⟨a', c', rfl, ho, hb⟩
  have r := (R2.new w (.bool false) (.slice none 0 0) 30).alloc (.cells #[.int .u32 (m % 4294967296), .int .u32 (m / 4294967296)] 58)
  obtain ⟨rc0, rc1, rf0, rf1⟩ := r.below hb
  have ho : Own w1 (w.heap.size + 1 + 1) a' c' (Nm.wl x) := by simpa using ho
  go_wp2
  refine bodyPost_ret (v := .agg #[.bool (Nm.wn x), .slice a' (Nm.wl x).length c']) (by simp [results, Tryd.results68, go_sem, rc0, rc1]) rfl ⟨a', c', rfl, ?_, (by repeat (first | exact Below.refl _ _ | refine Below.drew ?_ | refine bel_dn ?_ _ | refine bel_al ?_ _ | refine bel_go ?_ hb | refine Below.setCell ?_ (by first | omega | (simp; done) | (simp; omega)) _ | refine Below.alloc ?_ (by first | omega | (simp; done) | (simp; omega)) _ | refine Below.trans ?_ (Below.mono hb (by first | omega | (simp; done) | (simp; omega)))))⟩
  exact Own.base ((ho.setBelow (by simp; omega) _).setBelow (by simp; omega) _) (by omega)
/-- A number that is not 0, with its sign. -/
theorem uint_n (m : Nat) (ng : Bool) (w : World) (h0 : m ≠ 0) (h1 : m < 18446744073709551616) :
    Calls Tryd.prog 68 #[.int .u64 (m : Nat), .bool ng] w fun e w' => ∃ a' c', e = .returned (.agg #[.bool ng, .slice a' (Nm.lim m).length c']) ∧ Own w' w.heap.size a' c' (Nm.lim m) ∧ Below w.heap.size w w' := by
  have h := l1uint_v (m : Int) ng w (by omega) (by omega) (if ng then -(m : Int) else m) rfl
  have e1 : Nm.wn (if ng then -(m : Int) else m) = ng := by unfold Nm.wn; cases ng <;> simp <;> omega
  have e2 : Nm.wl (if ng then -(m : Int) else m) = Nm.lim m := by unfold Nm.wl; cases ng <;> simp
  rw [e1, e2] at h
  exact h
/-- What parts make, by the specification's rounding. -/
theorem fp_ef {P I : Nat} {q ones S : Int} {ng : Bool} {m : Nat} {e : Int} (hm : m ≠ 0) (hP : 1 ≤ P) (hI : (I : Int) = ones * (2 ^ (P - 1) : Nat)) (ho : 3 ≤ ones) (ho2 : ones ≤ 2100) :
    Nm.stOk P q ones m e = decide (rdF P q I 1 ng m e = 0) ∧ (Nm.stOk P q ones m e = true → sgn S (Nm.flb P (Nm.stU q m e) : Nat) ng = rdB P q I S 1 ng m e) := by
  have hin := Nm.parts_in (P := P) (q := q) (e := e) hm
  by_cases hr : Nm.rr P q m e = 0
  · have hin' : Nm.stIn P q m e = true := by rw [hin]; exact decide_eq_true hr
    have hU : rdU P q 1 ng m e = Nm.stU q m e := Nm.parts_U hm hr _
    have ho' := Nm.st_o hm hin' hP hI ho ho2
    have h1 : Nm.stOk P q ones m e = Nm.flo P I (rdU P q 1 ng m e) := by
      unfold Nm.stOk; rw [hin', hU, ho']; rfl
    refine ⟨?_, fun h => ?_⟩
    · rw [h1]; unfold rdF; rw [if_pos hr]
      cases Nm.flo P I (rdU P q 1 ng m e) <;> rfl
    · rw [h1] at h; unfold rdB; rw [h, if_pos rfl, hU]
  · have hin' : Nm.stIn P q m e = false := by rw [hin]; exact decide_eq_false hr
    have h1 : Nm.stOk P q ones m e = false := by unfold Nm.stOk; rw [hin']; rfl
    refine ⟨?_, fun h => by rw [h1] at h; cases h⟩
    rw [h1]; unfold rdF; rw [if_neg hr]
    symm
    apply decide_eq_false
    split
    · split <;> decide
    · decide
/-- Parts at every format. -/
def FpO (fm : Int) (M E : Int) : Bool := if fm = 32 then fpO 24 (-149) 255 M E else if fm = 64 then fpO 53 (-1074) 2047 M E else false
def FpB (fm : Int) (ng : Bool) (M E : Int) : Int := if fm = 32 then fpB 24 (-149) 255 2147483648 ng M E else if fm = 64 then fpB 53 (-1074) 2047 9223372036854775808 ng M E else 0
end Go.Proofs.YtbalefbcpnoieaaDoor
