/-
  What is needed of RS, EO, CU, UB, UC.
-/
import Derived.Test.YtmcflggionkhlaaGreatDoorK23
import Derived.Test.YtmcflggionkhlaaGreatDoorK31
import Derived.Test.YtmcflggionkhlaaGreatDoorK33
import Derived.Test.YtmcflggionkhlaaGreatDoorK34
set_option maxHeartbeats 16000000
set_option maxRecDepth 1000000
namespace Go.Proofs.YtmcflggionkhlaaGreatDoor
set_option linter.unusedVariables false
set_option linter.unusedSimpArgs false
open Go.RowKit Go.Deep
theorem rdU_scale {a : Nat} (h : a ≠ 0) (P : Nat) (q : Int) (mode : Int) (ng : Bool) (e : Int) (d : Nat) : rdU P q mode ng (a * 2 ^ d) (e - d) = rdU P q mode ng a e := by
  unfold rdU
  refine Nm.rU_scale h P q e d _ _ (fun hr => ?_)
  rw [Nm.rm_scale h, Nm.rh_scale h P q e d hr]
theorem rdB_scale {a : Nat} (h : a ≠ 0) (P : Nat) (q : Int) (I : Nat) (S mode : Int) (ng : Bool) (e : Int) (d : Nat) : rdB P q I S mode ng (a * 2 ^ d) (e - d) = rdB P q I S mode ng a e := by
  unfold rdB; rw [rdU_scale h]
theorem rdF_scale {a : Nat} (h : a ≠ 0) (P : Nat) (q : Int) (I : Nat) (mode : Int) (ng : Bool) (e : Int) (d : Nat) : rdF P q I mode ng (a * 2 ^ d) (e - d) = rdF P q I mode ng a e := by
  unfold rdF; rw [rdU_scale h, Nm.bl_mul h, show ((bitLen a + d : Nat) : Int) + (e - d) = (bitLen a : Int) + e by omega]
  by_cases hr : Nm.rr P q a e = 0
  · rw [if_pos hr, if_pos ((Nm.rr_scale0 h P q e d).2 hr)]
  · rw [if_neg hr, if_neg (fun c => hr ((Nm.rr_scale0 h P q e d).1 c))]
/-- Two ways to part one number are rounded alike. -/
theorem Rd_scale (fm mode : Int) (z : Int) (d : Nat) (e : Int) (hz : z ≠ 0) (h1 : RdO fm mode (Nm.wn z) (Nm.wl z) e = true) (h2 : RdO fm mode (Nm.wn (z * 2 ^ d)) (Nm.wl (z * 2 ^ d)) (e - d) = true) :
    RdB fm mode (Nm.wn (z * 2 ^ d)) (Nm.wl (z * 2 ^ d)) (e - d) = RdB fm mode (Nm.wn z) (Nm.wl z) e ∧ RdF fm mode (Nm.wn (z * 2 ^ d)) (Nm.wl (z * 2 ^ d)) (e - d) = RdF fm mode (Nm.wn z) (Nm.wl z) e := by
  have hp : (0 : Int) < 2 ^ d := Int.pow_pos (by decide)
  have hn : Nm.wn (z * 2 ^ d) = Nm.wn z := by
    unfold Nm.wn
    rw [Bool.eq_iff_iff, decide_eq_true_eq, decide_eq_true_eq]
    constructor
    · intro h
      refine Int.not_le.1 (fun h0 => ?_)
      have := Int.mul_nonneg h0 (Int.le_of_lt hp); omega
    · intro h; exact Int.mul_neg_of_neg_of_pos h hp
  have ha : (z * 2 ^ d).natAbs = z.natAbs * 2 ^ d := by rw [Int.natAbs_mul, Int.natAbs_pow]; rfl
  have ha0 : z.natAbs ≠ 0 := by omega
  have hv1 : (Nm.val (Nm.wl z)).toNat = z.natAbs := by rw [Nm.val_wl]; simp
  have hv2 : (Nm.val (Nm.wl (z * 2 ^ d))).toNat = z.natAbs * 2 ^ d := by rw [Nm.val_wl, ha]; exact Int.toNat_natCast _
  have hl1 : (Nm.wl z).length ≠ 0 := by unfold Nm.wl; rw [Ne, Nm.lim_length_zero]; exact ha0
  have hl2 : (Nm.wl (z * 2 ^ d)).length ≠ 0 := by
    unfold Nm.wl; rw [Ne, Nm.lim_length_zero, ha]
    intro h
    rcases Nat.mul_eq_zero.1 h with h' | h'
    · exact ha0 h'
    · have := Nm.pw_pos2 d; omega
  rw [hn] at h2 ⊢
  unfold RdB RdF
  rw [h1, h2, if_pos rfl, if_pos rfl, if_pos rfl, if_pos rfl, if_neg hl1, if_neg hl1, if_neg hl2, if_neg hl2, hv1, hv2]
  by_cases h32 : fm = 32
  · rw [if_pos h32, if_pos h32, if_pos h32, if_pos h32]
    exact ⟨rdB_scale ha0 _ _ _ _ _ _ _ _, rdF_scale ha0 _ _ _ _ _ _ _⟩
  · rw [if_neg h32, if_neg h32, if_neg h32, if_neg h32]
    exact ⟨rdB_scale ha0 _ _ _ _ _ _ _ _, rdF_scale ha0 _ _ _ _ _ _ _⟩
/-- What is lacking behind k of them. -/
def eK (fm b : Int) (xs : List Int) : Nat → Int
  | 0 => -unI fm b
  | k + 1 => eK fm b xs k + unI fm (xs.getD k 0)
theorem eneg_impl (z : Int) (a : Option Addr) (cap : Nat) (w : World) (hs : Sl .u32 w (.slice a (Nm.wl z).length cap) (Nm.wl z)) (hl : (Nm.wl z).length ≤ 200) :
    Calls Tryz.prog 73 #[.agg #[.bool (Nm.wn z), .slice a (Nm.wl z).length cap]] w fun e w' => ∃ a' c', e = .returned (.agg #[.bool (Nm.wn (-z)), .slice a' (Nm.wl (-z)).length c']) ∧ Own w' w.heap.size a' c' (Nm.wl (-z)) ∧ Below w.heap.size w w' := by
  have h := wneg_impl (Nm.wn z) a cap (Nm.wl z) w hs (Nm.wl_dg _) (by omega)
  have e : Nm.wv (!Nm.wn z) (Nm.wl z) = -z := by
    have := Nm.wv_out z
    unfold Nm.wv at this ⊢
    cases hn : Nm.wn z <;> rw [hn] at this <;> simp at this ⊢ <;> omega
  unfold negN negL at h
  rw [okB_wl hl, if_pos rfl, if_pos rfl, e] at h
  exact h
theorem eadd_impl (x y : Int) (a b : Option Addr) (cap cap' : Nat) (w : World) (hx : Sl .u32 w (.slice a (Nm.wl x).length cap) (Nm.wl x)) (hy : Sl .u32 w (.slice b (Nm.wl y).length cap') (Nm.wl y)) (lx : (Nm.wl x).length ≤ 200) (ly : (Nm.wl y).length ≤ 200) (lz : (Nm.wl (x + y)).length ≤ 200) :
    Calls Tryz.prog 72 #[.agg #[.bool (Nm.wn x), .slice a (Nm.wl x).length cap], .agg #[.bool (Nm.wn y), .slice b (Nm.wl y).length cap']] w fun e w' => ∃ a' c', e = .returned (.tuple #[.agg #[.bool (Nm.wn (x + y)), .slice a' (Nm.wl (x + y)).length c'], .bool true]) ∧ Own w' w.heap.size a' c' (Nm.wl (x + y)) ∧ Below w.heap.size w w' := by
  have h := wadd_impl (Nm.wn x) (Nm.wn y) a b cap cap' (Nm.wl x) (Nm.wl y) w hx hy (Nm.wl_dg _) (Nm.wl_dg _) (by omega) (by omega) (x + y) (by rw [Nm.wv_out, Nm.wv_out])
  have hf : Nm.fits (x + y) = true := by unfold Nm.fits; exact decide_eq_true lz
  have e4 := out_fits hf
  rw [okB_wl lx, okB_wl ly, Bool.and_self, (op_yes _).1, (op_yes _).2.1, (op_yes _).2.2, hf, e4.1, e4.2] at h
  exact h
namespace Fd
theorem uf_par (L q : Nat) (hL : 1 < L) (Q : Int) (y : Int) (y0 : 0 ≤ y) : Nm.sh (parM L y).toNat (parE L Q y - Q) = uf L y.toNat := by
  obtain ⟨n, rfl⟩ := Int.eq_ofNat_of_zero_le y0
  unfold parM parE uf Nm.sh
  rw [show ((n : Int) / (L : Int)) = ((n / L : Nat) : Int) by rfl, show ((n : Int) % (L : Int)) = ((n % L : Nat) : Int) by rfl]
  by_cases h : n < L
  · rw [Nat.div_eq_of_lt h, Nat.mod_eq_of_lt h]
    have e : (((0 : Nat) : Int) = 0) = True := eq_true rfl
    simp only [e, if_true, Int.sub_self, Int.toNat_natCast]
    rw [if_pos h, if_neg (by decide)]
    simp
  · have hq : 1 ≤ n / L := Nat.div_pos (by omega) (by omega)
    have e : ¬ (((n / L : Nat) : Int) = 0) := by omega
    rw [if_neg e, if_neg e, if_neg (by omega), if_neg (by omega)]
    have e1 : (((n % L : Nat) : Int) + (L : Int)).toNat = n % L + L := by omega
    have e2 : (Q + ((n / L : Nat) : Int) - 1 - Q).toNat = n / L - 1 := by omega
    rw [e1, e2, Int.toNat_natCast]
theorem wcmp_int {x y : Int} (hx : (Nm.wl x).length ≤ 200) (hy : (Nm.wl y).length ≤ 200) : wcmp (Nm.wn x) (Nm.wn y) (Nm.wl x) (Nm.wl y) = cmpI x y := by
  rw [wcmp_yes (okB_wl hx) (okB_wl hy)]
  unfold Nm.wl Nm.wn
  rw [cmpL_nat, cmpL_nat]
  unfold Nm.cmp2 cmpI
  by_cases h1 : x < 0 <;> by_cases h2 : y < 0 <;> simp only [h1, h2, decide_true, decide_false, Bool.and_true, Bool.and_false, Bool.and_self, if_true, if_false, Bool.false_eq_true] <;> (repeat' split) <;> omega
theorem un_uf32 {x : Int} (h0 : 0 ≤ x) (h1 : x < 4294967296) (hf : finB 32 x = true) : unI 32 x = if x < 2147483648 then ((uf 8388608 x.toNat : Nat) : Int) else -((uf 8388608 (x - 2147483648).toNat : Nat) : Int) := by
  have hu := uf_par 8388608 0 (by omega) (-149) (x % 2147483648) (by omega)
  have e1 : pM 32 x = parM 8388608 (x % 2147483648) := by unfold pM; rw [hf]; simp
  have e2 : pE 32 x = parE 8388608 (-149) (x % 2147483648) := by unfold pE; rw [hf]; simp
  have e3 : pS 32 x = sigB 32 x := by unfold pS; rw [hf]; rfl
  have e4 : unQ 32 = -149 := by decide
  have ax := ab32 h0 h1
  unfold unI
  rw [if_pos hf, e1, e2, e3, e4]
  have hu' : Nm.sh (parM 8388608 (x % 2147483648)).toNat (parE 8388608 (-149) (x % 2147483648) - -149) = uf 8388608 (x % 2147483648).toNat := hu
  rw [hu']
  unfold sigB
  rw [ax]
  by_cases h : x < 2147483648
  · rw [if_pos h, if_pos h, show x % 2147483648 = x by omega]
    rw [if_neg (by simp)]
  · rw [if_neg h, if_neg h, show x % 2147483648 = x - 2147483648 by omega]
    have hne : (x != x - 2147483648) = true := by simp; omega
    rw [if_pos hne]
theorem un_uf64 {x : Int} (h0 : 0 ≤ x) (h1 : x < 18446744073709551616) (hf : finB 64 x = true) : unI 64 x = if x < 9223372036854775808 then ((uf 4503599627370496 x.toNat : Nat) : Int) else -((uf 4503599627370496 (x - 9223372036854775808).toNat : Nat) : Int) := by
  have hu := uf_par 4503599627370496 0 (by omega) (-1074) (x % 9223372036854775808) (by omega)
  have e1 : pM 64 x = parM 4503599627370496 (x % 9223372036854775808) := by unfold pM; rw [hf]; simp
  have e2 : pE 64 x = parE 4503599627370496 (-1074) (x % 9223372036854775808) := by unfold pE; rw [hf]; simp
  have e3 : pS 64 x = sigB 64 x := by unfold pS; rw [hf]; rfl
  have e4 : unQ 64 = -1074 := by decide
  have ax := ab64 h0 h1
  unfold unI
  rw [if_pos hf, e1, e2, e3, e4]
  have hu' : Nm.sh (parM 4503599627370496 (x % 9223372036854775808)).toNat (parE 4503599627370496 (-1074) (x % 9223372036854775808) - -1074) = uf 4503599627370496 (x % 9223372036854775808).toNat := hu
  rw [hu']
  unfold sigB
  rw [ax]
  by_cases h : x < 9223372036854775808
  · rw [if_pos h, if_pos h, show x % 9223372036854775808 = x by omega]
    rw [if_neg (by simp)]
  · rw [if_neg h, if_neg h, show x % 9223372036854775808 = x - 9223372036854775808 by omega]
    have hne : (x != x - 9223372036854775808) = true := by simp; omega
    rw [if_pos hne]
theorem rd_uf (P I : Nat) (hP : 2 ≤ P) (q : Int) (S mode : Int) (ng : Bool) (y : Nat) (h0 : y ≠ 0) (hI : y < I) (ho : I ≤ 2100 * 2 ^ (P - 1)) : rdB P q I S mode ng (uf (2 ^ (P - 1)) y) q = sgn S (y : Int) ng ∧ rdF P q I mode ng (uf (2 ^ (P - 1)) y) q = 0 := by
  have hL : 1 < 2 ^ (P - 1) := by
    have := Nat.pow_le_pow_right (n := 2) (by decide) (show 1 ≤ P - 1 by omega)
    omega
  have hr := uf_rr P (by omega) q y
  have hu : rdU P q mode ng (uf (2 ^ (P - 1)) y) q = uf (2 ^ (P - 1)) y := by
    unfold rdU
    exact rU_q (uf_ne _ y hL h0) hr _
  have hf := uf_flo P I (by omega) y hI ho
  have hb := uf_flb P (by omega) y
  unfold rdB rdF
  rw [hu, hf, hb, hr]
  exact ⟨rfl, rfl⟩
theorem wl_zero_iff (x : Int) : (Nm.wl x).length = 0 ↔ x = 0 := by
  unfold Nm.wl
  rw [Nm.lim_length_zero]
  omega
theorem un_len (fm x : Int) (hf : finB fm x = true) : (Nm.wl (unI fm x)).length ≤ 200 := by
  obtain ⟨G, L, z, E, Q, hz, hE, hQ, z0, z1, e0, e1, q0, q1, d0, d1, hG, hL, hd, hl2, hsh, hok, hl200⟩ := un_parts hf
  exact hl200
theorem fin_lt32 {x : Int} (h0 : 0 ≤ x) (h1 : x < 4294967296) (hf : finB 32 x = true) : x % 2147483648 < 2139095040 := by
  unfold finB at hf
  rw [cls32 h1] at hf
  unfold clsY at hf
  simp only [decide_eq_true_eq] at hf
  repeat' split at hf
  all_goals omega
theorem fin_lt'32 {x : Int} (h0 : 0 ≤ x) (h1 : x < 4294967296) (hf : x % 2147483648 < 2139095040) : finB 32 x = true := by
  unfold finB
  rw [cls32 h1]
  unfold clsY
  simp only [decide_eq_true_eq]
  repeat' split
  all_goals omega
theorem Rd_un32 {x : Int} (h0 : 0 ≤ x) (h1 : x < 4294967296) (hf : finB 32 x = true) (mode : Int) (hm : modeB mode = true) :
    RdO 32 mode (Nm.wn (unI 32 x)) (Nm.wl (unI 32 x)) (-149) = true ∧ RdB 32 mode (Nm.wn (unI 32 x)) (Nm.wl (unI 32 x)) (-149) = (if x % 2147483648 = 0 then 0 else x) ∧ RdF 32 mode (Nm.wn (unI 32 x)) (Nm.wl (unI 32 x)) (-149) = 0 ∧ ((Nm.wl (unI 32 x)).length = 0 ↔ x % 2147483648 = 0) := by
  have hO : RdO 32 mode (Nm.wn (unI 32 x)) (Nm.wl (unI 32 x)) (-149) = true := by
    unfold RdO
    rw [okB_wl (un_len _ _ hf), hm]
    rfl
  have hlt := fin_lt32 h0 h1 hf
  have hu := un_uf32 h0 h1 hf
  have hz : unI 32 x = 0 ↔ x % 2147483648 = 0 := by
    rw [hu]
    constructor
    · intro h
      by_cases hc : x % 2147483648 = 0
      · exact hc
      · exfalso
        split at h
        · have := uf_ne 8388608 x.toNat (by decide) (by omega); omega
        · have := uf_ne 8388608 (x - 2147483648).toNat (by decide) (by omega); omega
    · intro h
      split
      · rw [show x.toNat = 0 by omega, uf_zero _ (by decide)]; rfl
      · rw [show (x - 2147483648).toNat = 0 by omega, uf_zero _ (by decide)]; rfl
  refine ⟨hO, ?_, ?_, (wl_zero_iff _).trans hz⟩
  · unfold RdB
    rw [hO, if_pos rfl]
    by_cases hc : x % 2147483648 = 0
    · rw [if_pos hc, if_pos ((wl_zero_iff _).2 (hz.2 hc))]
    · rw [if_neg hc, if_neg (fun h => hc (hz.1 ((wl_zero_iff _).1 h)))]
      rw [Nm.val_wl]
      have hn : ((((unI 32 x).natAbs : Nat) : Int)).toNat = (unI 32 x).natAbs := Int.toNat_natCast _
      rw [hn]
      simp only [if_pos]
      by_cases hs : x < 2147483648
      · have e1 : (unI 32 x).natAbs = uf 8388608 x.toNat := by rw [hu, if_pos hs]; omega
        have e2 : Nm.wn (unI 32 x) = false := by rw [hu, if_pos hs]; unfold Nm.wn; simp
        rw [e1, e2]
        have := (rd_uf 24 2139095040 (by decide) (-149) 2147483648 mode false x.toNat (by omega) (by omega) (by decide)).1
        rw [show (2 : Nat) ^ (24 - 1) = 8388608 by decide] at this
        rw [this]; unfold sgn; simp; omega
      · have e1 : (unI 32 x).natAbs = uf 8388608 (x - 2147483648).toNat := by rw [hu, if_neg hs]; omega
        have e2 : Nm.wn (unI 32 x) = true := by
          rw [hu, if_neg hs]; unfold Nm.wn
          have := uf_ne 8388608 (x - 2147483648).toNat (by decide) (by omega)
          simp; omega
        rw [e1, e2]
        have := (rd_uf 24 2139095040 (by decide) (-149) 2147483648 mode true (x - 2147483648).toNat (by omega) (by omega) (by decide)).1
        rw [show (2 : Nat) ^ (24 - 1) = 8388608 by decide] at this
        rw [this]; unfold sgn; simp; omega
  · unfold RdF
    rw [hO, if_pos rfl]
    by_cases hc : x % 2147483648 = 0
    · rw [if_pos ((wl_zero_iff _).2 (hz.2 hc))]
    · rw [if_neg (fun h => hc (hz.1 ((wl_zero_iff _).1 h)))]
      rw [Nm.val_wl]
      have hn : ((((unI 32 x).natAbs : Nat) : Int)).toNat = (unI 32 x).natAbs := Int.toNat_natCast _
      rw [hn]
      simp only [if_pos]
      have e1 : ∃ y : Nat, (unI 32 x).natAbs = uf 8388608 y ∧ y ≠ 0 ∧ y < 2139095040 := by
        by_cases hs : x < 2147483648
        · exact ⟨x.toNat, by rw [hu, if_pos hs]; omega, by omega, by omega⟩
        · exact ⟨(x - 2147483648).toNat, by rw [hu, if_neg hs]; omega, by omega, by omega⟩
      obtain ⟨y, e1, y0, y1⟩ := e1
      rw [e1]
      have := (rd_uf 24 2139095040 (by decide) (-149) 2147483648 mode (Nm.wn (unI 32 x)) y y0 y1 (by decide)).2
      rw [show (2 : Nat) ^ (24 - 1) = 8388608 by decide] at this
      exact this
theorem fin_lt64 {x : Int} (h0 : 0 ≤ x) (h1 : x < 18446744073709551616) (hf : finB 64 x = true) : x % 9223372036854775808 < 9218868437227405312 := by
  unfold finB at hf
  rw [cls64 ] at hf
  unfold clsY at hf
  simp only [decide_eq_true_eq] at hf
  repeat' split at hf
  all_goals omega
theorem fin_lt'64 {x : Int} (h0 : 0 ≤ x) (h1 : x < 18446744073709551616) (hf : x % 9223372036854775808 < 9218868437227405312) : finB 64 x = true := by
  unfold finB
  rw [cls64 ]
  unfold clsY
  simp only [decide_eq_true_eq]
  repeat' split
  all_goals omega
theorem Rd_un64 {x : Int} (h0 : 0 ≤ x) (h1 : x < 18446744073709551616) (hf : finB 64 x = true) (mode : Int) (hm : modeB mode = true) :
    RdO 64 mode (Nm.wn (unI 64 x)) (Nm.wl (unI 64 x)) (-1074) = true ∧ RdB 64 mode (Nm.wn (unI 64 x)) (Nm.wl (unI 64 x)) (-1074) = (if x % 9223372036854775808 = 0 then 0 else x) ∧ RdF 64 mode (Nm.wn (unI 64 x)) (Nm.wl (unI 64 x)) (-1074) = 0 ∧ ((Nm.wl (unI 64 x)).length = 0 ↔ x % 9223372036854775808 = 0) := by
  have hO : RdO 64 mode (Nm.wn (unI 64 x)) (Nm.wl (unI 64 x)) (-1074) = true := by
    unfold RdO
    rw [okB_wl (un_len _ _ hf), hm]
    rfl
  have hlt := fin_lt64 h0 h1 hf
  have hu := un_uf64 h0 h1 hf
  have hz : unI 64 x = 0 ↔ x % 9223372036854775808 = 0 := by
    rw [hu]
    constructor
    · intro h
      by_cases hc : x % 9223372036854775808 = 0
      · exact hc
      · exfalso
        split at h
        · have := uf_ne 4503599627370496 x.toNat (by decide) (by omega); omega
        · have := uf_ne 4503599627370496 (x - 9223372036854775808).toNat (by decide) (by omega); omega
    · intro h
      split
      · rw [show x.toNat = 0 by omega, uf_zero _ (by decide)]; rfl
      · rw [show (x - 9223372036854775808).toNat = 0 by omega, uf_zero _ (by decide)]; rfl
  refine ⟨hO, ?_, ?_, (wl_zero_iff _).trans hz⟩
  · unfold RdB
    rw [hO, if_pos rfl]
    by_cases hc : x % 9223372036854775808 = 0
    · rw [if_pos hc, if_pos ((wl_zero_iff _).2 (hz.2 hc))]
    · rw [if_neg hc, if_neg (fun h => hc (hz.1 ((wl_zero_iff _).1 h)))]
      rw [Nm.val_wl]
      have hn : ((((unI 64 x).natAbs : Nat) : Int)).toNat = (unI 64 x).natAbs := Int.toNat_natCast _
      rw [hn]
      simp only [if_neg (show ¬ ((64 : Int) = 32) from by decide)]
      by_cases hs : x < 9223372036854775808
      · have e1 : (unI 64 x).natAbs = uf 4503599627370496 x.toNat := by rw [hu, if_pos hs]; omega
        have e2 : Nm.wn (unI 64 x) = false := by rw [hu, if_pos hs]; unfold Nm.wn; simp
        rw [e1, e2]
        have := (rd_uf 53 9218868437227405312 (by decide) (-1074) 9223372036854775808 mode false x.toNat (by omega) (by omega) (by decide)).1
        rw [show (2 : Nat) ^ (53 - 1) = 4503599627370496 by decide] at this
        rw [this]; unfold sgn; simp; omega
      · have e1 : (unI 64 x).natAbs = uf 4503599627370496 (x - 9223372036854775808).toNat := by rw [hu, if_neg hs]; omega
        have e2 : Nm.wn (unI 64 x) = true := by
          rw [hu, if_neg hs]; unfold Nm.wn
          have := uf_ne 4503599627370496 (x - 9223372036854775808).toNat (by decide) (by omega)
          simp; omega
        rw [e1, e2]
        have := (rd_uf 53 9218868437227405312 (by decide) (-1074) 9223372036854775808 mode true (x - 9223372036854775808).toNat (by omega) (by omega) (by decide)).1
        rw [show (2 : Nat) ^ (53 - 1) = 4503599627370496 by decide] at this
        rw [this]; unfold sgn; simp; omega
  · unfold RdF
    rw [hO, if_pos rfl]
    by_cases hc : x % 9223372036854775808 = 0
    · rw [if_pos ((wl_zero_iff _).2 (hz.2 hc))]
    · rw [if_neg (fun h => hc (hz.1 ((wl_zero_iff _).1 h)))]
      rw [Nm.val_wl]
      have hn : ((((unI 64 x).natAbs : Nat) : Int)).toNat = (unI 64 x).natAbs := Int.toNat_natCast _
      rw [hn]
      simp only [if_neg (show ¬ ((64 : Int) = 32) from by decide)]
      have e1 : ∃ y : Nat, (unI 64 x).natAbs = uf 4503599627370496 y ∧ y ≠ 0 ∧ y < 9218868437227405312 := by
        by_cases hs : x < 9223372036854775808
        · exact ⟨x.toNat, by rw [hu, if_pos hs]; omega, by omega, by omega⟩
        · exact ⟨(x - 9223372036854775808).toNat, by rw [hu, if_neg hs]; omega, by omega, by omega⟩
      obtain ⟨y, e1, y0, y1⟩ := e1
      rw [e1]
      have := (rd_uf 53 9218868437227405312 (by decide) (-1074) 9223372036854775808 mode (Nm.wn (unI 64 x)) y y0 y1 (by decide)).2
      rw [show (2 : Nat) ^ (53 - 1) = 4503599627370496 by decide] at this
      exact this
theorem rd_same {a b : Nat} (ha : a ≠ 0) (hb : b ≠ 0) {e f : Int} (d1 d2 : Nat) (h : a * 2 ^ d1 = b * 2 ^ d2) (he : e - d1 = f - d2) (P : Nat) (q : Int) (I : Nat) (S mode : Int) (ng : Bool) : rdB P q I S mode ng a e = rdB P q I S mode ng b f ∧ rdF P q I mode ng a e = rdF P q I mode ng b f := by
  constructor
  · rw [← rdB_scale ha P q I S mode ng e d1, ← rdB_scale hb P q I S mode ng f d2, h, he]
  · rw [← rdF_scale ha P q I mode ng e d1, ← rdF_scale hb P q I mode ng f d2, h, he]
theorem pM_uf32 {x : Int} (h0 : 0 ≤ x) (h1 : x < 4294967296) (hf : finB 32 x = true) :
    (pM 32 x).toNat * 2 ^ (pE 32 x - (-149)).toNat = uf 8388608 (x % 2147483648).toNat ∧ (-149) ≤ pE 32 x ∧ pE 32 x ≤ (-149) + 254 ∧ bitLen (pM 32 x).toNat ≤ 24 := by
  have hlt := fin_lt32 h0 h1 hf
  have hu : Nm.sh (parM 8388608 (x % 2147483648)).toNat (parE 8388608 (-149) (x % 2147483648) - (-149)) = uf 8388608 (x % 2147483648).toNat := uf_par 8388608 0 (by omega) (-149) (x % 2147483648) (by omega)
  have e1 : pM 32 x = parM 8388608 (x % 2147483648) := by unfold pM; rw [hf]; simp
  have e2 : pE 32 x = parE 8388608 (-149) (x % 2147483648) := by unfold pE; rw [hf]; simp
  have e3 : (-149) ≤ parE 8388608 (-149) (x % 2147483648) ∧ parE 8388608 (-149) (x % 2147483648) ≤ (-149) + 254 := by unfold parE; split <;> omega
  have e4 : (parM 8388608 (x % 2147483648)).toNat < 2 ^ 24 := by
    have := par_bd (L := 8388608) (y := x % 2147483648) (by omega) (by decide)
    have h2 : (2 : Nat) ^ 24 = 2 * 8388608 := by decide
    omega
  rw [e1, e2]
  refine ⟨?_, e3.1, e3.2, (Nm.bl_le_iff _ _).2 e4⟩
  rw [← hu]
  unfold Nm.sh
  rw [if_neg (by omega)]
theorem pM_uf64 {x : Int} (h0 : 0 ≤ x) (h1 : x < 18446744073709551616) (hf : finB 64 x = true) :
    (pM 64 x).toNat * 2 ^ (pE 64 x - (-1074)).toNat = uf 4503599627370496 (x % 9223372036854775808).toNat ∧ (-1074) ≤ pE 64 x ∧ pE 64 x ≤ (-1074) + 2046 ∧ bitLen (pM 64 x).toNat ≤ 53 := by
  have hlt := fin_lt64 h0 h1 hf
  have hu : Nm.sh (parM 4503599627370496 (x % 9223372036854775808)).toNat (parE 4503599627370496 (-1074) (x % 9223372036854775808) - (-1074)) = uf 4503599627370496 (x % 9223372036854775808).toNat := uf_par 4503599627370496 0 (by omega) (-1074) (x % 9223372036854775808) (by omega)
  have e1 : pM 64 x = parM 4503599627370496 (x % 9223372036854775808) := by unfold pM; rw [hf]; simp
  have e2 : pE 64 x = parE 4503599627370496 (-1074) (x % 9223372036854775808) := by unfold pE; rw [hf]; simp
  have e3 : (-1074) ≤ parE 4503599627370496 (-1074) (x % 9223372036854775808) ∧ parE 4503599627370496 (-1074) (x % 9223372036854775808) ≤ (-1074) + 2046 := by unfold parE; split <;> omega
  have e4 : (parM 4503599627370496 (x % 9223372036854775808)).toNat < 2 ^ 53 := by
    have := par_bd (L := 4503599627370496) (y := x % 9223372036854775808) (by omega) (by decide)
    have h2 : (2 : Nat) ^ 53 = 2 * 4503599627370496 := by decide
    omega
  rw [e1, e2]
  refine ⟨?_, e3.1, e3.2, (Nm.bl_le_iff _ _).2 e4⟩
  rw [← hu]
  unfold Nm.sh
  rw [if_neg (by omega)]
end Fd
end Go.Proofs.YtmcflggionkhlaaGreatDoor
