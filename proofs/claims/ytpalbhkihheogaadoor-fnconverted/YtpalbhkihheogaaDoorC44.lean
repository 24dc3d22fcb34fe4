/-
  What is needed of LaidB, RS, UB, UC.
-/
import Derived.Test.YtpalbhkihheogaaDoorC35
import Derived.Test.YtpalbhkihheogaaDoorC43
set_option maxHeartbeats 16000000
set_option maxRecDepth 1000000
namespace Go.Proofs.YtpalbhkihheogaaDoor
set_option linter.unusedVariables false
set_option linter.unusedSimpArgs false
namespace Ld
open Go.RowKit Go.Deep
def zs32 : List Int := Lib.deBruijn32tab.map Int.ofNat
theorem tb32 {W : World} (h : laidMet Tryd.prog [("math/bits.deBruijn32tab", Rows.laid_math_bits_deBruijn32tab)] W) : Tb W 2 Lib.deBruijn32tab := by
  have h' : laidMet Tryd.prog (("math/bits.deBruijn32tab", Lib.tabData .u8 zs32) :: []) W := h
  have hg : Tryd.prog.globalNamed "math/bits.deBruijn32tab" = some 2 := by kernel_rfl
  have ht := Lib.tabIs_of_head (g := 2) (t := 178) (e := 5) (n := 32) hg (by kernel_rfl) Tryd.underlying178 Tryd.underlying5 (by kernel_rfl) (by kernel_rfl) h'
  intro i hi
  have := ht.cell hg i (by simpa [zs32] using hi)
  rw [this]
  congr 2
  unfold zs32
  rw [List.getD_eq_getElem?_getD, List.getElem?_map, List.getD_eq_getElem?_getD, List.getElem?_eq_getElem hi]; rfl
def zs64 : List Int := Lib.deBruijn64tab.map Int.ofNat
theorem tb64 {W : World} (h : laidMet Tryd.prog [("math/bits.deBruijn64tab", Rows.laid_math_bits_deBruijn64tab)] W) : Tb W 1 Lib.deBruijn64tab := by
  have h' : laidMet Tryd.prog (("math/bits.deBruijn64tab", Lib.tabData .u8 zs64) :: []) W := h
  have hg : Tryd.prog.globalNamed "math/bits.deBruijn64tab" = some 1 := by kernel_rfl
  have ht := Lib.tabIs_of_head (g := 1) (t := 176) (e := 5) (n := 64) hg (by kernel_rfl) Tryd.underlying176 Tryd.underlying5 (by kernel_rfl) (by kernel_rfl) h'
  intro i hi
  have := ht.cell hg i (by simpa [zs64] using hi)
  rw [this]
  congr 2
  unfold zs64
  rw [List.getD_eq_getElem?_getD, List.getElem?_map, List.getD_eq_getElem?_getD, List.getElem?_eq_getElem hi]; rfl
theorem three_tabs {W : World} (h : laidMetH Tryd.prog [("math/bits.deBruijn32tab", Rows.laid_math_bits_deBruijn32tab), ("math/bits.deBruijn64tab", Rows.laid_math_bits_deBruijn64tab), ("loop.example/g00672/impl.formSizes", Rows.laid_loop_example_g00672_impl_formSizes)] W) : T3 W := by
  have h : laidMet Tryd.prog _ W := (laidMetH_iff.1 h).1
  have h1 := h.filter (fun x => x.1 == "loop.example/g00672/impl.formSizes")
  have h2 := h.filter (fun x => x.1 == "math/bits.deBruijn64tab")
  have h3 := h.filter (fun x => x.1 == "math/bits.deBruijn32tab")
  exact ⟨⟨table h1, tb64 h2⟩, tb32 h3⟩
end Ld
open Go.RowKit Go.Deep
theorem rdU_scale {a : Nat} (h : a ≠ 0) (P : Nat) (q : Int) (mode : Int) (ng : Bool) (e : Int) (d : Nat) : rdU P q mode ng (a * 2 ^ d) (e - d) = rdU P q mode ng a e := by
  unfold rdU
  refine Nm.rU_scale h P q e d _ _ (fun hr => ?_)
  rw [Nm.rm_scale h, Nm.rh_scale h P q e d hr]
theorem rdB_scale {a : Nat} (h : a ≠ 0) (P : Nat) (q : Int) (I : Nat) (S mode : Int) (ng : Bool) (e : Int) (d : Nat) : rdB P q I S mode ng (a * 2 ^ d) (e - d) = rdB P q I S mode ng a e := by
  unfold rdB; rw [rdU_scale h]
theorem rdF_scale {a : Nat} (h : a ≠ 0) (P : Nat) (q : Int) (I : Nat) (mode : Int) (ng : Bool) (e : Int) (d : Nat) : rdF P q I mode ng (a * 2 ^ d) (e - d) = rdF P q I mode ng a e := by
  unfold rdF; rw [rdU_scale h, Nm.bl_mul h, show ((bitLen a + d : Nat) : Int) + (e - d) = (bitLen a : Int) + e by omega]
  by_cases hr : Nm.rr P q a e = 0
  · rw [if_pos hr, if_pos ((Nm.rr_scale0 h P q e d).2 hr)]
  · rw [if_neg hr, if_neg (fun c => hr ((Nm.rr_scale0 h P q e d).1 c))]
namespace Fd
theorem rd_uf (P I : Nat) (hP : 2 ≤ P) (q : Int) (S mode : Int) (ng : Bool) (y : Nat) (h0 : y ≠ 0) (hI : y < I) (ho : I ≤ 2100 * 2 ^ (P - 1)) : rdB P q I S mode ng (uf (2 ^ (P - 1)) y) q = sgn S (y : Int) ng ∧ rdF P q I mode ng (uf (2 ^ (P - 1)) y) q = 0 := by
  have hL : 1 < 2 ^ (P - 1) := by
    have := Nat.pow_le_pow_right (n := 2) (by decide) (show 1 ≤ P - 1 by omega)
    omega
  have hr := uf_rr P (by omega) q y
  have hu : rdU P q mode ng (uf (2 ^ (P - 1)) y) q = uf (2 ^ (P - 1)) y := by
    unfold rdU
    exact rU_q (uf_ne _ y hL h0) hr _
  have hf := uf_flo P I (by omega) y hI ho
  have hb := uf_flb P (by omega) y
  unfold rdB rdF
  rw [hu, hf, hb, hr]
  exact ⟨rfl, rfl⟩
theorem fin_lt32 {x : Int} (h0 : 0 ≤ x) (h1 : x < 4294967296) (hf : finB 32 x = true) : x % 2147483648 < 2139095040 := by
  unfold finB at hf
  rw [cls32 h1] at hf
  unfold clsY at hf
  simp only [decide_eq_true_eq] at hf
  repeat' split at hf
  all_goals omega
theorem fin_lt64 {x : Int} (h0 : 0 ≤ x) (h1 : x < 18446744073709551616) (hf : finB 64 x = true) : x % 9223372036854775808 < 9218868437227405312 := by
  unfold finB at hf
  rw [cls64 ] at hf
  unfold clsY at hf
  simp only [decide_eq_true_eq] at hf
  repeat' split at hf
  all_goals omega
theorem fin_lt'64 {x : Int} (h0 : 0 ≤ x) (h1 : x < 18446744073709551616) (hf : x % 9223372036854775808 < 9218868437227405312) : finB 64 x = true := by
  unfold finB
  rw [cls64 ]
  unfold clsY
  simp only [decide_eq_true_eq]
  repeat' split
  all_goals omega
theorem rd_same {a b : Nat} (ha : a ≠ 0) (hb : b ≠ 0) {e f : Int} (d1 d2 : Nat) (h : a * 2 ^ d1 = b * 2 ^ d2) (he : e - d1 = f - d2) (P : Nat) (q : Int) (I : Nat) (S mode : Int) (ng : Bool) : rdB P q I S mode ng a e = rdB P q I S mode ng b f ∧ rdF P q I mode ng a e = rdF P q I mode ng b f := by
  constructor
  · rw [← rdB_scale ha P q I S mode ng e d1, ← rdB_scale hb P q I S mode ng f d2, h, he]
  · rw [← rdF_scale ha P q I mode ng e d1, ← rdF_scale hb P q I mode ng f d2, h, he]
theorem pM_uf32 {x : Int} (h0 : 0 ≤ x) (h1 : x < 4294967296) (hf : finB 32 x = true) :
    (pM 32 x).toNat * 2 ^ (pE 32 x - (-149)).toNat = uf 8388608 (x % 2147483648).toNat ∧ (-149) ≤ pE 32 x ∧ pE 32 x ≤ (-149) + 254 ∧ bitLen (pM 32 x).toNat ≤ 24 := by
  have hlt := fin_lt32 h0 h1 hf
  have hu : Nm.sh (parM 8388608 (x % 2147483648)).toNat (parE 8388608 (-149) (x % 2147483648) - (-149)) = uf 8388608 (x % 2147483648).toNat := uf_par 8388608 0 (by omega) (-149) (x % 2147483648) (by omega)
  have e1 : pM 32 x = parM 8388608 (x % 2147483648) := by unfold pM; rw [hf]; simp
  have e2 : pE 32 x = parE 8388608 (-149) (x % 2147483648) := by unfold pE; rw [hf]; simp
  have e3 : (-149) ≤ parE 8388608 (-149) (x % 2147483648) ∧ parE 8388608 (-149) (x % 2147483648) ≤ (-149) + 254 := by unfold parE; split <;> omega
  have e4 : (parM 8388608 (x % 2147483648)).toNat < 2 ^ 24 := by
    have := par_bd (L := 8388608) (y := x % 2147483648) (by omega) (by decide)
    have h2 : (2 : Nat) ^ 24 = 2 * 8388608 := by decide
    omega
  rw [e1, e2]
  refine ⟨?_, e3.1, e3.2, (Nm.bl_le_iff _ _).2 e4⟩
  rw [← hu]
  unfold Nm.sh
  rw [if_neg (by omega)]
theorem pM_uf64 {x : Int} (h0 : 0 ≤ x) (h1 : x < 18446744073709551616) (hf : finB 64 x = true) :
    (pM 64 x).toNat * 2 ^ (pE 64 x - (-1074)).toNat = uf 4503599627370496 (x % 9223372036854775808).toNat ∧ (-1074) ≤ pE 64 x ∧ pE 64 x ≤ (-1074) + 2046 ∧ bitLen (pM 64 x).toNat ≤ 53 := by
  have hlt := fin_lt64 h0 h1 hf
  have hu : Nm.sh (parM 4503599627370496 (x % 9223372036854775808)).toNat (parE 4503599627370496 (-1074) (x % 9223372036854775808) - (-1074)) = uf 4503599627370496 (x % 9223372036854775808).toNat := uf_par 4503599627370496 0 (by omega) (-1074) (x % 9223372036854775808) (by omega)
  have e1 : pM 64 x = parM 4503599627370496 (x % 9223372036854775808) := by unfold pM; rw [hf]; simp
  have e2 : pE 64 x = parE 4503599627370496 (-1074) (x % 9223372036854775808) := by unfold pE; rw [hf]; simp
  have e3 : (-1074) ≤ parE 4503599627370496 (-1074) (x % 9223372036854775808) ∧ parE 4503599627370496 (-1074) (x % 9223372036854775808) ≤ (-1074) + 2046 := by unfold parE; split <;> omega
  have e4 : (parM 4503599627370496 (x % 9223372036854775808)).toNat < 2 ^ 53 := by
    have := par_bd (L := 4503599627370496) (y := x % 9223372036854775808) (by omega) (by decide)
    have h2 : (2 : Nat) ^ 53 = 2 * 4503599627370496 := by decide
    omega
  rw [e1, e2]
  refine ⟨?_, e3.1, e3.2, (Nm.bl_le_iff _ _).2 e4⟩
  rw [← hu]
  unfold Nm.sh
  rw [if_neg (by omega)]
theorem sig32 {x : Int} (h0 : 0 ≤ x) (h1 : x < 4294967296) : sigB 32 x = decide (2147483648 ≤ x) := by
  unfold sigB
  rw [abs32 h1]
  by_cases h : 2147483648 ≤ x
  · rw [decide_eq_true h]; simp; omega
  · rw [decide_eq_false h]; simp; omega
theorem sig64 {x : Int} (h0 : 0 ≤ x) (h1 : x < 18446744073709551616) : sigB 64 x = decide (9223372036854775808 ≤ x) := by
  unfold sigB
  rw [abs64]
  by_cases h : 9223372036854775808 ≤ x
  · rw [decide_eq_true h]; simp; omega
  · rw [decide_eq_false h]; simp; omega
theorem cv_num {x : Int} (h0 : 0 ≤ x) (h1 : x < 4294967296) (hf : finB 32 x = true) (hz : x % 2147483648 ≠ 0) (mode : Int) (ng : Bool) (hng : ng = sigB 32 x) (W : Int) (hW : W = rdB 53 (-1074) 9218868437227405312 9223372036854775808 mode ng (pM 32 x).toNat (pE 32 x)) :
    rdF 53 (-1074) 9218868437227405312 mode ng (pM 32 x).toNat (pE 32 x) = 0 ∧ 0 ≤ W ∧ W < 18446744073709551616 ∧ (cls 64 W = 1 ∨ cls 64 W = 2) ∧ sigB 64 W = ng ∧
    rdB 24 (-149) 2139095040 2147483648 mode ng (pM 64 W).toNat (pE 64 W) = x ∧ rdF 24 (-149) 2139095040 mode ng (pM 64 W).toNat (pE 64 W) = 0 := by
  obtain ⟨p1, p2, p3, p4⟩ := pM_uf32 h0 h1 hf
  have hlt := fin_lt32 h0 h1 hf
  have hy0 : (x % 2147483648).toNat ≠ 0 := by omega
  obtain ⟨y, hy⟩ : ∃ y, y = (x % 2147483648).toNat := ⟨_, rfl⟩
  rw [← hy] at p1 hy0
  have hy1 : y < 2139095040 := by omega
  have hux := uf_ne 8388608 y (by decide) hy0
  obtain ⟨m, hm⟩ : ∃ m, m = (pM 32 x).toNat := ⟨_, rfl⟩
  obtain ⟨e, he⟩ : ∃ e, e = pE 32 x := ⟨_, rfl⟩
  rw [← hm, ← he] at p1 hW ⊢
  rw [← he] at p2 p3
  rw [← hm] at p4
  have hm0 : m ≠ 0 := by intro h; rw [h, Nat.zero_mul] at p1; exact hux p1.symm
  obtain ⟨k, hk⟩ : ∃ k : Nat, (k : Int) = e + 1074 := ⟨(e + 1074).toNat, by omega⟩
  have hfl : Nm.flo 53 9218868437227405312 (m * 2 ^ k) = true := by
    refine flo_wide 53 9218868437227405312 m k 24 hm0 p4 (by decide) (by decide) (by omega) ?_
    rw [show (2 : Nat) ^ (53 - 1) = 4503599627370496 by decide]
    have : 24 + k - 53 ≤ 1200 := by omega
    omega
  have hback := flb_uf 53 9218868437227405312 (m * 2 ^ k) (by decide) hfl
  have hYI : Nm.flb 53 (m * 2 ^ k) < 9218868437227405312 := by
    unfold Nm.flo at hfl
    simp only [Bool.and_eq_true, decide_eq_true_eq] at hfl
    exact hfl.2
  obtain ⟨Y, hY⟩ : ∃ Y, Y = Nm.flb 53 (m * 2 ^ k) := ⟨_, rfl⟩
  rw [← hY] at hback hYI
  have hmk : m * 2 ^ k ≠ 0 := Nat.mul_ne_zero hm0 (Nat.ne_of_gt (Nat.two_pow_pos k))
  have hY0 : Y ≠ 0 := by
    intro h
    rw [h] at hback
    rw [uf_zero _ (by decide)] at hback
    exact hmk hback.symm
  have hs := rd_same hm0 hmk (e := e) (f := -1074) k 0 (by rw [Nat.pow_zero, Nat.mul_one]) (by omega) 53 (-1074) 9218868437227405312 9223372036854775808 mode ng
  have hu := rd_uf 53 9218868437227405312 (by decide) (-1074) 9223372036854775808 mode ng Y hY0 hYI (by decide)
  rw [hback] at hu
  rw [hs.1, hu.1] at hW
  have hW0 : 0 ≤ W ∧ W < 18446744073709551616 := by rw [hW]; unfold sgn; split <;> omega
  have hWm : W % 9223372036854775808 = (Y : Int) := by rw [hW]; unfold sgn; split <;> omega
  have hsg : sigB 64 W = ng := by
    rw [sig64 hW0.1 hW0.2, hW]; unfold sgn
    cases ng <;> simp <;> omega
  have hfW : finB 64 W = true := fin_lt'64 hW0.1 hW0.2 (by omega)
  have hcW : cls 64 W = 1 ∨ cls 64 W = 2 := by
    have hz' := cls_zero64 hW0.1 hW0.2
    rw [hWm, decide_eq_false (by omega)] at hz'
    unfold finB at hfW
    simp at hfW hz'
    omega
  obtain ⟨q1, q2, q3, q4⟩ := pM_uf64 hW0.1 hW0.2 hfW
  rw [hWm, Int.toNat_natCast] at q1
  have hqm : (pM 64 W).toNat ≠ 0 := by
    intro h
    rw [h, Nat.zero_mul] at q1
    exact uf_ne 4503599627370496 Y (by decide) hY0 q1.symm
  have hback' : uf 4503599627370496 Y = m * 2 ^ k := hback
  have t1 := rd_same hqm hm0 (e := pE 64 W) (f := e) (pE 64 W - -1074).toNat k (by rw [q1, hback']) (by omega) 24 (-149) 2139095040 2147483648 mode ng
  have t2 := rd_same hm0 hux (e := e) (f := -149) (e - -149).toNat 0 (by rw [p1, Nat.pow_zero, Nat.mul_one]) (by omega) 24 (-149) 2139095040 2147483648 mode ng
  have t3 := rd_uf 24 2139095040 (by decide) (-149) 2147483648 mode ng y hy0 hy1 (by decide)
  rw [show (2 : Nat) ^ (24 - 1) = 8388608 by decide] at t3
  refine ⟨by rw [hs.2, hu.2], hW0.1, hW0.2, hcW, hsg, ?_, ?_⟩
  · rw [t1.1, t2.1, t3.1, hng, sig32 h0 h1]
    unfold sgn
    by_cases h : 2147483648 ≤ x
    · rw [decide_eq_true h, if_pos rfl]; omega
    · rw [decide_eq_false h, if_neg (by decide)]; omega
  · rw [t1.2, t2.2, t3.2]
theorem cv_zero (ng : Bool) : cls 64 (sgn 9223372036854775808 0 ng) = 0 ∧ sigB 64 (sgn 9223372036854775808 0 ng) = ng := by cases ng <;> decide +kernel
theorem cv_inf (ng : Bool) : cls 64 (sgn 9223372036854775808 9218868437227405312 ng) = 3 ∧ sigB 64 (sgn 9223372036854775808 9218868437227405312 ng) = ng := by cases ng <;> decide +kernel
theorem cv_back {x : Int} (h0 : 0 ≤ x) (h1 : x < 4294967296) (mode : Int) (hm : modeB mode = true) (W : Int) (hW : W = CvB 32 64 mode x) :
    CvO 32 64 mode x = true ∧ CvO 64 32 mode W = true ∧ 0 ≤ W ∧ W < 18446744073709551616 ∧ CvF 64 32 mode W = 0 ∧
    ((cls 32 x = 4 ∨ cls 32 x = 5) → W = 9221120237041090560 ∧ CvB 64 32 mode W = 2143289344 ∧ CvF 32 64 mode x = if cls 32 x = 5 then 8 else 0) ∧
    ((¬ cls 32 x = 4 ∧ ¬ cls 32 x = 5) → CvF 32 64 mode x = 0 ∧ CvB 64 32 mode W = x) := by
  have hok : okF 32 x = true := okF32 h1
  have o1 : CvO 32 64 mode x = true := by unfold CvO; rw [hm, hok]; rfl
  have o2 : CvO 64 32 mode W = true := by unfold CvO; rw [hm, okF64]; rfl
  have n6 : ¬ ((64 : Int) = 32) := by decide
  refine ⟨o1, o2, ?_⟩
  unfold CvB at hW
  rw [o1, if_pos rfl, if_neg n6] at hW
  unfold CvB CvF
  rw [o1, o2, if_pos rfl, if_pos rfl, if_pos rfl, if_neg n6, if_pos rfl, if_pos rfl]
  have hs := sig32 h0 h1
  have hcl := cls32 h1
  rcases cls_cases hok with h | h | h | h | h
  · rw [h] at hW ⊢
    rw [if_pos rfl] at hW
    have hc := cv_zero (sigB 32 x)
    have hW' : W = sgn 9223372036854775808 0 (sigB 32 x) := hW
    rw [← hW'] at hc
    rw [hc.1, hc.2]
    simp only [if_pos]
    have hxz : x % 2147483648 = 0 := by
      have := cls_zero32 h0 h1; rw [h] at this; simp at this; omega
    refine ⟨?_, ?_, trivial, ?_, ?_⟩
    · rw [hW']; unfold sgn; split <;> omega
    · rw [hW']; unfold sgn; split <;> omega
    · intro hh; omega
    · intro _
      refine ⟨trivial, ?_⟩
      rw [hs]; unfold sgn sgOf
      by_cases hc : 2147483648 ≤ x
      · rw [decide_eq_true hc]; simp; omega
      · rw [decide_eq_false hc]; simp; omega
  · rw [h] at hW ⊢
    rw [if_neg (by decide), if_pos rfl] at hW
    have hc := cv_inf (sigB 32 x)
    have hW' : W = sgn 9223372036854775808 9218868437227405312 (sigB 32 x) := hW
    rw [← hW'] at hc
    rw [hc.1, hc.2]
    have hxz : x % 2147483648 = 2139095040 := by
      rw [h] at hcl; unfold clsY at hcl
      repeat' split at hcl
      all_goals omega
    refine ⟨?_, ?_, by rw [if_neg (by decide), if_pos rfl], ?_, ?_⟩
    · rw [hW']; unfold sgn; split <;> omega
    · rw [hW']; unfold sgn; split <;> omega
    · intro hh; omega
    · intro _
      refine ⟨by rw [if_neg (by decide), if_pos rfl], ?_⟩
      rw [if_neg (by decide), if_pos rfl, hs]; unfold sgn sgOf infOf
      by_cases hc : 2147483648 ≤ x
      · rw [decide_eq_true hc]; simp; omega
      · rw [decide_eq_false hc]; simp; omega
  · rw [h] at hW ⊢
    have hW' : W = 9221120237041090560 := hW
    subst hW'
    have c64 : cls 64 9221120237041090560 = 4 := by decide +kernel
    rw [c64]
    refine ⟨by decide, by decide, by simp, ?_, ?_⟩
    · intro _; exact ⟨rfl, by simp [nanOf], by simp⟩
    · intro hh; omega
  · rw [h] at hW ⊢
    have hW' : W = 9221120237041090560 := hW
    subst hW'
    have c64 : cls 64 9221120237041090560 = 4 := by decide +kernel
    rw [c64]
    refine ⟨by decide, by decide, by simp, ?_, ?_⟩
    · intro _; exact ⟨rfl, by simp [nanOf], by simp⟩
    · intro hh; omega
  · have hf : finB 32 x = true := (pM_pos h).1
    have hxz : x % 2147483648 ≠ 0 := by
      intro h'
      have := cls_zero32 h0 h1; rw [h', decide_eq_true rfl] at this
      simp at this; omega
    have c0 : ¬ cls 32 x = 0 := by omega
    have c3 : ¬ cls 32 x = 3 := by omega
    have c4 : ¬ cls 32 x = 4 := by omega
    have c5 : ¬ cls 32 x = 5 := by omega
    rw [if_neg c0, if_neg c3, if_neg c4, if_neg c5] at hW
    obtain ⟨r1, r2, r3, r4, r5, r6, r7⟩ := cv_num h0 h1 hf hxz mode (sigB 32 x) rfl W hW
    have d0 : ¬ cls 64 W = 0 := by omega
    have d3 : ¬ cls 64 W = 3 := by omega
    have d4 : ¬ cls 64 W = 4 := by omega
    have d5 : ¬ cls 64 W = 5 := by omega
    rw [if_neg c0, if_neg c3, if_neg c4, if_neg c5, if_neg d0, if_neg d3, if_neg d4, if_neg d5, if_neg d0, if_neg d3, if_neg d4, if_neg d5, r5, r1, r6, r7]
    exact ⟨r2, r3, rfl, fun hh => by omega, fun _ => ⟨rfl, rfl⟩⟩
end Fd
end Go.Proofs.YtpalbhkihheogaaDoor
