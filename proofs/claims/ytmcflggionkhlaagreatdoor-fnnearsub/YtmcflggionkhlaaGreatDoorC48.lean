/-
  What is needed of CU, UB, UC, FM, NP, FN, FO, FC.
-/
import Derived.Test.YtmcflggionkhlaaGreatDoorC40
import Derived.Test.YtmcflggionkhlaaGreatDoorC42
set_option maxHeartbeats 16000000
set_option maxRecDepth 1000000
namespace Go.Proofs.YtmcflggionkhlaaGreatDoor
set_option linter.unusedVariables false
set_option linter.unusedSimpArgs false
open Go.RowKit Go.Deep
namespace Fd
theorem uf_par (L q : Nat) (hL : 1 < L) (Q : Int) (y : Int) (y0 : 0 ≤ y) : Nm.sh (parM L y).toNat (parE L Q y - Q) = uf L y.toNat := by
  obtain ⟨n, rfl⟩ := Int.eq_ofNat_of_zero_le y0
  unfold parM parE uf Nm.sh
  rw [show ((n : Int) / (L : Int)) = ((n / L : Nat) : Int) by rfl, show ((n : Int) % (L : Int)) = ((n % L : Nat) : Int) by rfl]
  by_cases h : n < L
  · rw [Nat.div_eq_of_lt h, Nat.mod_eq_of_lt h]
    have e : (((0 : Nat) : Int) = 0) = True := eq_true rfl
    simp only [e, if_true, Int.sub_self, Int.toNat_natCast]
    rw [if_pos h, if_neg (by decide)]
    simp
  · have hq : 1 ≤ n / L := Nat.div_pos (by omega) (by omega)
    have e : ¬ (((n / L : Nat) : Int) = 0) := by omega
    rw [if_neg e, if_neg e, if_neg (by omega), if_neg (by omega)]
    have e1 : (((n % L : Nat) : Int) + (L : Int)).toNat = n % L + L := by omega
    have e2 : (Q + ((n / L : Nat) : Int) - 1 - Q).toNat = n / L - 1 := by omega
    rw [e1, e2, Int.toNat_natCast]
theorem wcmp_int {x y : Int} (hx : (Nm.wl x).length ≤ 200) (hy : (Nm.wl y).length ≤ 200) : wcmp (Nm.wn x) (Nm.wn y) (Nm.wl x) (Nm.wl y) = cmpI x y := by
  rw [wcmp_yes (okB_wl hx) (okB_wl hy)]
  unfold Nm.wl Nm.wn
  rw [cmpL_nat, cmpL_nat]
  unfold Nm.cmp2 cmpI
  by_cases h1 : x < 0 <;> by_cases h2 : y < 0 <;> simp only [h1, h2, decide_true, decide_false, Bool.and_true, Bool.and_false, Bool.and_self, if_true, if_false, Bool.false_eq_true] <;> (repeat' split) <;> omega
theorem un_uf32 {x : Int} (h0 : 0 ≤ x) (h1 : x < 4294967296) (hf : finB 32 x = true) : unI 32 x = if x < 2147483648 then ((uf 8388608 x.toNat : Nat) : Int) else -((uf 8388608 (x - 2147483648).toNat : Nat) : Int) := by
  have hu := uf_par 8388608 0 (by omega) (-149) (x % 2147483648) (by omega)
  have e1 : pM 32 x = parM 8388608 (x % 2147483648) := by unfold pM; rw [hf]; simp
  have e2 : pE 32 x = parE 8388608 (-149) (x % 2147483648) := by unfold pE; rw [hf]; simp
  have e3 : pS 32 x = sigB 32 x := by unfold pS; rw [hf]; rfl
  have e4 : unQ 32 = -149 := by decide
  have ax := ab32 h0 h1
  unfold unI
  rw [if_pos hf, e1, e2, e3, e4]
  have hu' : Nm.sh (parM 8388608 (x % 2147483648)).toNat (parE 8388608 (-149) (x % 2147483648) - -149) = uf 8388608 (x % 2147483648).toNat := hu
  rw [hu']
  unfold sigB
  rw [ax]
  by_cases h : x < 2147483648
  · rw [if_pos h, if_pos h, show x % 2147483648 = x by omega]
    rw [if_neg (by simp)]
  · rw [if_neg h, if_neg h, show x % 2147483648 = x - 2147483648 by omega]
    have hne : (x != x - 2147483648) = true := by simp; omega
    rw [if_pos hne]
theorem un_uf64 {x : Int} (h0 : 0 ≤ x) (h1 : x < 18446744073709551616) (hf : finB 64 x = true) : unI 64 x = if x < 9223372036854775808 then ((uf 4503599627370496 x.toNat : Nat) : Int) else -((uf 4503599627370496 (x - 9223372036854775808).toNat : Nat) : Int) := by
  have hu := uf_par 4503599627370496 0 (by omega) (-1074) (x % 9223372036854775808) (by omega)
  have e1 : pM 64 x = parM 4503599627370496 (x % 9223372036854775808) := by unfold pM; rw [hf]; simp
  have e2 : pE 64 x = parE 4503599627370496 (-1074) (x % 9223372036854775808) := by unfold pE; rw [hf]; simp
  have e3 : pS 64 x = sigB 64 x := by unfold pS; rw [hf]; rfl
  have e4 : unQ 64 = -1074 := by decide
  have ax := ab64 h0 h1
  unfold unI
  rw [if_pos hf, e1, e2, e3, e4]
  have hu' : Nm.sh (parM 4503599627370496 (x % 9223372036854775808)).toNat (parE 4503599627370496 (-1074) (x % 9223372036854775808) - -1074) = uf 4503599627370496 (x % 9223372036854775808).toNat := hu
  rw [hu']
  unfold sigB
  rw [ax]
  by_cases h : x < 9223372036854775808
  · rw [if_pos h, if_pos h, show x % 9223372036854775808 = x by omega]
    rw [if_neg (by simp)]
  · rw [if_neg h, if_neg h, show x % 9223372036854775808 = x - 9223372036854775808 by omega]
    have hne : (x != x - 9223372036854775808) = true := by simp; omega
    rw [if_pos hne]
theorem rd_uf (P I : Nat) (hP : 2 ≤ P) (q : Int) (S mode : Int) (ng : Bool) (y : Nat) (h0 : y ≠ 0) (hI : y < I) (ho : I ≤ 2100 * 2 ^ (P - 1)) : rdB P q I S mode ng (uf (2 ^ (P - 1)) y) q = sgn S (y : Int) ng ∧ rdF P q I mode ng (uf (2 ^ (P - 1)) y) q = 0 := by
  have hL : 1 < 2 ^ (P - 1) := by
    have := Nat.pow_le_pow_right (n := 2) (by decide) (show 1 ≤ P - 1 by omega)
    omega
  have hr := uf_rr P (by omega) q y
  have hu : rdU P q mode ng (uf (2 ^ (P - 1)) y) q = uf (2 ^ (P - 1)) y := by
    unfold rdU
    exact rU_q (uf_ne _ y hL h0) hr _
  have hf := uf_flo P I (by omega) y hI ho
  have hb := uf_flb P (by omega) y
  unfold rdB rdF
  rw [hu, hf, hb, hr]
  exact ⟨rfl, rfl⟩
theorem wl_zero_iff (x : Int) : (Nm.wl x).length = 0 ↔ x = 0 := by
  unfold Nm.wl
  rw [Nm.lim_length_zero]
  omega
theorem un_len (fm x : Int) (hf : finB fm x = true) : (Nm.wl (unI fm x)).length ≤ 200 := by
  obtain ⟨G, L, z, E, Q, hz, hE, hQ, z0, z1, e0, e1, q0, q1, d0, d1, hG, hL, hd, hl2, hsh, hok, hl200⟩ := un_parts hf
  exact hl200
theorem fin_lt32 {x : Int} (h0 : 0 ≤ x) (h1 : x < 4294967296) (hf : finB 32 x = true) : x % 2147483648 < 2139095040 := by
  unfold finB at hf
  rw [cls32 h1] at hf
  unfold clsY at hf
  simp only [decide_eq_true_eq] at hf
  repeat' split at hf
  all_goals omega
theorem fin_lt'32 {x : Int} (h0 : 0 ≤ x) (h1 : x < 4294967296) (hf : x % 2147483648 < 2139095040) : finB 32 x = true := by
  unfold finB
  rw [cls32 h1]
  unfold clsY
  simp only [decide_eq_true_eq]
  repeat' split
  all_goals omega
theorem Rd_un32 {x : Int} (h0 : 0 ≤ x) (h1 : x < 4294967296) (hf : finB 32 x = true) (mode : Int) (hm : modeB mode = true) :
    RdO 32 mode (Nm.wn (unI 32 x)) (Nm.wl (unI 32 x)) (-149) = true ∧ RdB 32 mode (Nm.wn (unI 32 x)) (Nm.wl (unI 32 x)) (-149) = (if x % 2147483648 = 0 then 0 else x) ∧ RdF 32 mode (Nm.wn (unI 32 x)) (Nm.wl (unI 32 x)) (-149) = 0 ∧ ((Nm.wl (unI 32 x)).length = 0 ↔ x % 2147483648 = 0) := by
  have hO : RdO 32 mode (Nm.wn (unI 32 x)) (Nm.wl (unI 32 x)) (-149) = true := by
    unfold RdO
    rw [okB_wl (un_len _ _ hf), hm]
    rfl
  have hlt := fin_lt32 h0 h1 hf
  have hu := un_uf32 h0 h1 hf
  have hz : unI 32 x = 0 ↔ x % 2147483648 = 0 := by
    rw [hu]
    constructor
    · intro h
      by_cases hc : x % 2147483648 = 0
      · exact hc
      · exfalso
        split at h
        · have := uf_ne 8388608 x.toNat (by decide) (by omega); omega
        · have := uf_ne 8388608 (x - 2147483648).toNat (by decide) (by omega); omega
    · intro h
      split
      · rw [show x.toNat = 0 by omega, uf_zero _ (by decide)]; rfl
      · rw [show (x - 2147483648).toNat = 0 by omega, uf_zero _ (by decide)]; rfl
  refine ⟨hO, ?_, ?_, (wl_zero_iff _).trans hz⟩
  · unfold RdB
    rw [hO, if_pos rfl]
    by_cases hc : x % 2147483648 = 0
    · rw [if_pos hc, if_pos ((wl_zero_iff _).2 (hz.2 hc))]
    · rw [if_neg hc, if_neg (fun h => hc (hz.1 ((wl_zero_iff _).1 h)))]
      rw [Nm.val_wl]
      have hn : ((((unI 32 x).natAbs : Nat) : Int)).toNat = (unI 32 x).natAbs := Int.toNat_natCast _
      rw [hn]
      simp only [if_pos]
      by_cases hs : x < 2147483648
      · have e1 : (unI 32 x).natAbs = uf 8388608 x.toNat := by rw [hu, if_pos hs]; omega
        have e2 : Nm.wn (unI 32 x) = false := by rw [hu, if_pos hs]; unfold Nm.wn; simp
        rw [e1, e2]
        have := (rd_uf 24 2139095040 (by decide) (-149) 2147483648 mode false x.toNat (by omega) (by omega) (by decide)).1
        rw [show (2 : Nat) ^ (24 - 1) = 8388608 by decide] at this
        rw [this]; unfold sgn; simp; omega
      · have e1 : (unI 32 x).natAbs = uf 8388608 (x - 2147483648).toNat := by rw [hu, if_neg hs]; omega
        have e2 : Nm.wn (unI 32 x) = true := by
          rw [hu, if_neg hs]; unfold Nm.wn
          have := uf_ne 8388608 (x - 2147483648).toNat (by decide) (by omega)
          simp; omega
        rw [e1, e2]
        have := (rd_uf 24 2139095040 (by decide) (-149) 2147483648 mode true (x - 2147483648).toNat (by omega) (by omega) (by decide)).1
        rw [show (2 : Nat) ^ (24 - 1) = 8388608 by decide] at this
        rw [this]; unfold sgn; simp; omega
  · unfold RdF
    rw [hO, if_pos rfl]
    by_cases hc : x % 2147483648 = 0
    · rw [if_pos ((wl_zero_iff _).2 (hz.2 hc))]
    · rw [if_neg (fun h => hc (hz.1 ((wl_zero_iff _).1 h)))]
      rw [Nm.val_wl]
      have hn : ((((unI 32 x).natAbs : Nat) : Int)).toNat = (unI 32 x).natAbs := Int.toNat_natCast _
      rw [hn]
      simp only [if_pos]
      have e1 : ∃ y : Nat, (unI 32 x).natAbs = uf 8388608 y ∧ y ≠ 0 ∧ y < 2139095040 := by
        by_cases hs : x < 2147483648
        · exact ⟨x.toNat, by rw [hu, if_pos hs]; omega, by omega, by omega⟩
        · exact ⟨(x - 2147483648).toNat, by rw [hu, if_neg hs]; omega, by omega, by omega⟩
      obtain ⟨y, e1, y0, y1⟩ := e1
      rw [e1]
      have := (rd_uf 24 2139095040 (by decide) (-149) 2147483648 mode (Nm.wn (unI 32 x)) y y0 y1 (by decide)).2
      rw [show (2 : Nat) ^ (24 - 1) = 8388608 by decide] at this
      exact this
theorem fin_lt64 {x : Int} (h0 : 0 ≤ x) (h1 : x < 18446744073709551616) (hf : finB 64 x = true) : x % 9223372036854775808 < 9218868437227405312 := by
  unfold finB at hf
  rw [cls64 ] at hf
  unfold clsY at hf
  simp only [decide_eq_true_eq] at hf
  repeat' split at hf
  all_goals omega
theorem fin_lt'64 {x : Int} (h0 : 0 ≤ x) (h1 : x < 18446744073709551616) (hf : x % 9223372036854775808 < 9218868437227405312) : finB 64 x = true := by
  unfold finB
  rw [cls64 ]
  unfold clsY
  simp only [decide_eq_true_eq]
  repeat' split
  all_goals omega
theorem Rd_un64 {x : Int} (h0 : 0 ≤ x) (h1 : x < 18446744073709551616) (hf : finB 64 x = true) (mode : Int) (hm : modeB mode = true) :
    RdO 64 mode (Nm.wn (unI 64 x)) (Nm.wl (unI 64 x)) (-1074) = true ∧ RdB 64 mode (Nm.wn (unI 64 x)) (Nm.wl (unI 64 x)) (-1074) = (if x % 9223372036854775808 = 0 then 0 else x) ∧ RdF 64 mode (Nm.wn (unI 64 x)) (Nm.wl (unI 64 x)) (-1074) = 0 ∧ ((Nm.wl (unI 64 x)).length = 0 ↔ x % 9223372036854775808 = 0) := by
  have hO : RdO 64 mode (Nm.wn (unI 64 x)) (Nm.wl (unI 64 x)) (-1074) = true := by
    unfold RdO
    rw [okB_wl (un_len _ _ hf), hm]
    rfl
  have hlt := fin_lt64 h0 h1 hf
  have hu := un_uf64 h0 h1 hf
  have hz : unI 64 x = 0 ↔ x % 9223372036854775808 = 0 := by
    rw [hu]
    constructor
    · intro h
      by_cases hc : x % 9223372036854775808 = 0
      · exact hc
      · exfalso
        split at h
        · have := uf_ne 4503599627370496 x.toNat (by decide) (by omega); omega
        · have := uf_ne 4503599627370496 (x - 9223372036854775808).toNat (by decide) (by omega); omega
    · intro h
      split
      · rw [show x.toNat = 0 by omega, uf_zero _ (by decide)]; rfl
      · rw [show (x - 9223372036854775808).toNat = 0 by omega, uf_zero _ (by decide)]; rfl
  refine ⟨hO, ?_, ?_, (wl_zero_iff _).trans hz⟩
  · unfold RdB
    rw [hO, if_pos rfl]
    by_cases hc : x % 9223372036854775808 = 0
    · rw [if_pos hc, if_pos ((wl_zero_iff _).2 (hz.2 hc))]
    · rw [if_neg hc, if_neg (fun h => hc (hz.1 ((wl_zero_iff _).1 h)))]
      rw [Nm.val_wl]
      have hn : ((((unI 64 x).natAbs : Nat) : Int)).toNat = (unI 64 x).natAbs := Int.toNat_natCast _
      rw [hn]
      simp only [if_neg (show ¬ ((64 : Int) = 32) from by decide)]
      by_cases hs : x < 9223372036854775808
      · have e1 : (unI 64 x).natAbs = uf 4503599627370496 x.toNat := by rw [hu, if_pos hs]; omega
        have e2 : Nm.wn (unI 64 x) = false := by rw [hu, if_pos hs]; unfold Nm.wn; simp
        rw [e1, e2]
        have := (rd_uf 53 9218868437227405312 (by decide) (-1074) 9223372036854775808 mode false x.toNat (by omega) (by omega) (by decide)).1
        rw [show (2 : Nat) ^ (53 - 1) = 4503599627370496 by decide] at this
        rw [this]; unfold sgn; simp; omega
      · have e1 : (unI 64 x).natAbs = uf 4503599627370496 (x - 9223372036854775808).toNat := by rw [hu, if_neg hs]; omega
        have e2 : Nm.wn (unI 64 x) = true := by
          rw [hu, if_neg hs]; unfold Nm.wn
          have := uf_ne 4503599627370496 (x - 9223372036854775808).toNat (by decide) (by omega)
          simp; omega
        rw [e1, e2]
        have := (rd_uf 53 9218868437227405312 (by decide) (-1074) 9223372036854775808 mode true (x - 9223372036854775808).toNat (by omega) (by omega) (by decide)).1
        rw [show (2 : Nat) ^ (53 - 1) = 4503599627370496 by decide] at this
        rw [this]; unfold sgn; simp; omega
  · unfold RdF
    rw [hO, if_pos rfl]
    by_cases hc : x % 9223372036854775808 = 0
    · rw [if_pos ((wl_zero_iff _).2 (hz.2 hc))]
    · rw [if_neg (fun h => hc (hz.1 ((wl_zero_iff _).1 h)))]
      rw [Nm.val_wl]
      have hn : ((((unI 64 x).natAbs : Nat) : Int)).toNat = (unI 64 x).natAbs := Int.toNat_natCast _
      rw [hn]
      simp only [if_neg (show ¬ ((64 : Int) = 32) from by decide)]
      have e1 : ∃ y : Nat, (unI 64 x).natAbs = uf 4503599627370496 y ∧ y ≠ 0 ∧ y < 9218868437227405312 := by
        by_cases hs : x < 9223372036854775808
        · exact ⟨x.toNat, by rw [hu, if_pos hs]; omega, by omega, by omega⟩
        · exact ⟨(x - 9223372036854775808).toNat, by rw [hu, if_neg hs]; omega, by omega, by omega⟩
      obtain ⟨y, e1, y0, y1⟩ := e1
      rw [e1]
      have := (rd_uf 53 9218868437227405312 (by decide) (-1074) 9223372036854775808 mode (Nm.wn (unI 64 x)) y y0 y1 (by decide)).2
      rw [show (2 : Nat) ^ (53 - 1) = 4503599627370496 by decide] at this
      exact this
theorem rd_same {a b : Nat} (ha : a ≠ 0) (hb : b ≠ 0) {e f : Int} (d1 d2 : Nat) (h : a * 2 ^ d1 = b * 2 ^ d2) (he : e - d1 = f - d2) (P : Nat) (q : Int) (I : Nat) (S mode : Int) (ng : Bool) : rdB P q I S mode ng a e = rdB P q I S mode ng b f ∧ rdF P q I mode ng a e = rdF P q I mode ng b f := by
  constructor
  · rw [← rdB_scale ha P q I S mode ng e d1, ← rdB_scale hb P q I S mode ng f d2, h, he]
  · rw [← rdF_scale ha P q I mode ng e d1, ← rdF_scale hb P q I mode ng f d2, h, he]
end Fd
theorem sl64_1 (w : World) (x : Int) (t : TypeId) : Sl .u64 (w.alloc (.cells #[.int .u64 x] t)) (.slice (some ⟨w.heap.size, 0, none⟩) [x].length 1) [x] :=
  ⟨_, 1, rfl, Nat.le_refl _, by unfold maxLen; omega, .inr ⟨w.heap.size, 0, rfl, fun i hi => by
    have : i = 0 := by simpa using hi
    subst this; simp⟩⟩
theorem sl64_2 (w : World) (x y : Int) (t : TypeId) : Sl .u64 (w.alloc (.cells #[.int .u64 x, .int .u64 y] t)) (.slice (some ⟨w.heap.size, 0, none⟩) [x, y].length 2) [x, y] :=
  ⟨_, 2, rfl, Nat.le_refl _, by unfold maxLen; simp, .inr ⟨w.heap.size, 0, rfl, fun i hi => by
    have h2 : i < 2 := by simpa using hi
    match i, h2 with
    | 0, _ => simp
    | 1, _ => simp⟩⟩
theorem d64_1 {x : Int} (x0 : 0 ≤ x) (x1 : x < 18446744073709551616) : D64 [x] := fun z hz => by
  simp only [List.mem_cons, List.not_mem_nil, or_false] at hz; subst hz; exact ⟨x0, x1⟩
theorem d64_2 {x y : Int} (x0 : 0 ≤ x) (x1 : x < 18446744073709551616) (y0 : 0 ≤ y) (y1 : y < 18446744073709551616) : D64 [x, y] := fun z hz => by
  simp only [List.mem_cons, List.not_mem_nil, or_false] at hz; rcases hz with rfl | rfl
  · exact ⟨x0, x1⟩
  · exact ⟨y0, y1⟩
/-- What totalOf answers at two floats, by letters. -/
abbrev TotAt (u : Value) (fm mode x y : Int) (sg inf G : Bool) (L : List Int) (E : Int) (n b : Bool) : Prop := ∀ w : World, EE u w → Calls Tryz.prog 105 #[.int .i64 fm, .int .i64 mode, .int .u64 x, .int .u64 y] w fun r w' => ∃ a' c' ev, r = .returned (.tuple #[.agg #[.bool sg, .bool inf, .bool G, .slice a' L.length c', .int .i64 E], ev]) ∧ EK u ev n b ∧ Own w' w.heap.size a' c' L ∧ Below w.heap.size w w'
theorem tot_nan (fm mode x y : Int) (u : Value) (sg1 inf1 G1 : Bool) (L1 : List Int) (E1 : Int) (n1 b1 : Bool) (sg2 inf2 G2 : Bool) (L2 : List Int) (E2 : Int) (n2 b2 : Bool) (hx : NumAt u fm x sg1 inf1 G1 L1 E1 n1 b1) (hy : NumAt u fm y sg2 inf2 G2 L2 E2 n2 b2) (hn : (n1 || n2) = true) (b : Bool) (hb : b = (b1 || b2)) :
    TotAt u fm mode x y false false false [] 0 true b := by
  intro w hE
  have CT := hid (fun w' h => two_nums fm x y u sg1 inf1 G1 L1 E1 n1 b1 sg2 inf2 G2 L2 E2 n2 b2 hx hy w' h)
  rw [hn, ← hb] at CT
  clear hn hb hx hy
  have R := Q5.new w (.bool false) (.bool false) (.bool false) (.slice none 0 0) (.int .i64 0) 99
  have bel0 : Below w.heap.size w (w.alloc (.cells #[.bool false, .bool false, .bool false, .slice none 0 0, .int .i64 0] 99)) := (by repeat (first | exact bz0 _ _ | refine bz1 ?_ | refine bz2 ?_ _ | refine bz3 ?_ _ | refine bz5 ?_ _ | refine bz6 ?_ _))
  go_enter Tryz.func105, Tryz.ntmps105
  go_wp2_with fail
  refine (CT.out _ (hE.below bel0)).mono ?_
  rintro r w1 ⟨a1, c1, a2, c2, ev, rfl, kv, o1, o2, hb1⟩
  have bel1 := bel_go bel0 hb1
  replace R := ((R.below hb1).alloc (.cells #[.bool sg1, .bool inf1, .bool G1, .slice a1 L1.length c1, .int .i64 E1] 99)).alloc (.cells #[.bool sg2, .bool inf2, .bool G2, .slice a2 L2.length c2, .int .i64 E2] 99)
  obtain ⟨r0, r1, r2, r3, r4, f0, f1, f2, f3, f4⟩ := R
  clear o1 o2
  cases kv with
  | quiet =>
    go_wp2
    refine bodyPost_ret (v := .tuple #[.agg #[.bool false, .bool false, .bool false, .slice none 0 0, .int .i64 0], .iface 168 (.agg #[.iface 247 u])]) (by simp [results, Tryz.results105, go_sem, r0, r1, r2, r3, r4]) rfl ⟨none, 0, _, rfl, EK.quiet, Own.nil _ _, ?_⟩
    exact (by (repeat with_reducible first | refine Below.setCell ?_ ?_ _ | exact bz0 _ _ | refine bz1 ?_ | refine bz2 ?_ _ | refine bz3 ?_ _ | refine bz4 ?_ hb1 | refine bz4 ?_ bel0 | refine Below.alloc ?_ ?_ _ | refine Below.trans ?_ (Below.mono hb1 ?_) | refine Below.trans ?_ (Below.mono bel0 ?_)) <;> first | omega | (simp; done) | (simp; omega))
  | bad s =>
    go_wp2
    refine bodyPost_ret (v := .tuple #[.agg #[.bool false, .bool false, .bool false, .slice none 0 0, .int .i64 0], .iface 168 (.agg #[.iface 170 (.agg #[.string s])])]) (by simp [results, Tryz.results105, go_sem, r0, r1, r2, r3, r4]) rfl ⟨none, 0, _, rfl, EK.bad s, Own.nil _ _, ?_⟩
    exact (by (repeat with_reducible first | refine Below.setCell ?_ ?_ _ | exact bz0 _ _ | refine bz1 ?_ | refine bz2 ?_ _ | refine bz3 ?_ _ | refine bz4 ?_ hb1 | refine bz4 ?_ bel0 | refine Below.alloc ?_ ?_ _ | refine Below.trans ?_ (Below.mono hb1 ?_) | refine Below.trans ?_ (Below.mono bel0 ?_)) <;> first | omega | (simp; done) | (simp; omega))
theorem tot_num (fm mode x y : Int) (u : Value) (sg1 inf1 G1 : Bool) (L1 : List Int) (E1 : Int) (n1 b1 : Bool) (sg2 inf2 G2 : Bool) (L2 : List Int) (E2 : Int) (n2 b2 : Bool) (hx : NumAt u fm x sg1 inf1 G1 L1 E1 n1 b1) (hy : NumAt u fm y sg2 inf2 G2 L2 E2 n2 b2) (hn : (n1 || n2) = false) (sg inf G : Bool) (L : List Int) (E : Int) (n b : Bool)
    (hm : ∀ (B : Nat) (a1 : Option Addr) (c1 : Nat) (a2 : Option Addr) (c2 : Nat) (w : World), B ≤ w.heap.size → Own w B a1 c1 L1 → Own w B a2 c2 L2 → Calls Tryz.prog 87 #[.agg #[.bool sg1, .bool inf1, .bool G1, .slice a1 L1.length c1, .int .i64 E1], .agg #[.bool sg2, .bool inf2, .bool G2, .slice a2 L2.length c2, .int .i64 E2], .int .i64 mode] w fun r w' => ∃ a3 c3 ev, r = .returned (.tuple #[.agg #[.bool sg, .bool inf, .bool G, .slice a3 L.length c3, .int .i64 E], ev]) ∧ EK u ev n b ∧ Own w' B a3 c3 L ∧ Below w.heap.size w w') :
    TotAt u fm mode x y sg inf G L E n b := by
  intro w hE
  have CT := hid (fun w' h => two_nums fm x y u sg1 inf1 G1 L1 E1 n1 b1 sg2 inf2 G2 L2 E2 n2 b2 hx hy w' h)
  have CM := hid hm
  rw [hn] at CT
  obtain ⟨b0, hb0⟩ : ∃ b0, b0 = (b1 || b2) := ⟨_, rfl⟩
  rw [← hb0] at CT
  clear hb0
  clear hn hx hy hm
  have R := Q5.new w (.bool false) (.bool false) (.bool false) (.slice none 0 0) (.int .i64 0) 99
  have bel0 : Below w.heap.size w (w.alloc (.cells #[.bool false, .bool false, .bool false, .slice none 0 0, .int .i64 0] 99)) := (by repeat (first | exact bz0 _ _ | refine bz1 ?_ | refine bz2 ?_ _ | refine bz3 ?_ _ | refine bz5 ?_ _ | refine bz6 ?_ _))
  go_enter Tryz.func105, Tryz.ntmps105
  go_wp2_with fail
  refine (CT.out _ (hE.below bel0)).mono ?_
  rintro r w1 ⟨a1, c1, a2, c2, ev, rfl, kv, o1, o2, hb1⟩
  have bel1w := bel_go bel0 hb1
  have bel1 := bel_al (bel_al (bel_go bel0 hb1) (.cells #[.bool sg1, .bool inf1, .bool G1, .slice a1 L1.length c1, .int .i64 E1] 99)) (.cells #[.bool sg2, .bool inf2, .bool G2, .slice a2 L2.length c2, .int .i64 E2] 99)
  replace R := ((R.below hb1).alloc (.cells #[.bool sg1, .bool inf1, .bool G1, .slice a1 L1.length c1, .int .i64 E1] 99)).alloc (.cells #[.bool sg2, .bool inf2, .bool G2, .slice a2 L2.length c2, .int .i64 E2] 99)
  have PX := (Q5.new w1 (.bool sg1) (.bool inf1) (.bool G1) (.slice a1 L1.length c1) (.int .i64 E1) 99).alloc (.cells #[.bool sg2, .bool inf2, .bool G2, .slice a2 L2.length c2, .int .i64 E2] 99)
  have PY := Q5.nw2 w1 (.cells #[.bool sg1, .bool inf1, .bool G1, .slice a1 L1.length c1, .int .i64 E1] 99) (.bool sg2) (.bool inf2) (.bool G2) (.slice a2 L2.length c2) (.int .i64 E2) 99
  have s1 := ((o1.alloc (.cells #[.bool sg1, .bool inf1, .bool G1, .slice a1 L1.length c1, .int .i64 E1] 99)).alloc (.cells #[.bool sg2, .bool inf2, .bool G2, .slice a2 L2.length c2, .int .i64 E2] 99)).base (B' := w.heap.size + 1) (by simp)
  have s2 := ((o2.alloc (.cells #[.bool sg1, .bool inf1, .bool G1, .slice a1 L1.length c1, .int .i64 E1] 99)).alloc (.cells #[.bool sg2, .bool inf2, .bool G2, .slice a2 L2.length c2, .int .i64 E2] 99)).base (B' := w.heap.size + 1) (by simp)
  have lr := R.lt
  have lb1 := hb1.size
  have lb1' : w.heap.size + 1 ≤ w1.heap.size := by simpa using lb1
  clear o1 o2
  cases kv with
  | no =>
    obtain ⟨x0, x1, x2, x3, x4⟩ := PX.cs
    obtain ⟨y0, y1, y2, y3, y4⟩ := PY.cs
    go_wp2_with fail
    refine (CM.out (w.heap.size + 1) a1 c1 a2 c2 _ (by simp; omega) s1 s2).mono ?_
    rintro r w2 ⟨a3, c3, ev, rfl, kv, o3, hb2⟩
    clear x0 x1 x2 x3 x4 y0 y1 y2 y3 y4
    obtain ⟨r0, r1, r2, r3, r4, f0, f1, f2, f3, f4⟩ := R.below hb2
    go_wp2
    refine bodyPost_ret (v := .tuple #[.agg #[.bool sg, .bool inf, .bool G, .slice a3 L.length c3, .int .i64 E], ev]) (by simp [results, Tryz.results105, go_sem, r0, r1, r2, r3, r4]) rfl ⟨a3, c3, ev, rfl, kv, ?_, ?_⟩
    · have o4 := o3
      refine Own.base (B := w.heap.size + 1) ?_ (by omega)
      repeat (first | with_reducible exact o4 | (with_reducible refine Own.setBelow ?_ ?_ _; rotate_left; (simp; try omega)))
    · exact (by (repeat with_reducible first | refine Below.setCell ?_ ?_ _ | exact bz0 _ _ | refine bz1 ?_ | refine bz2 ?_ _ | refine bz3 ?_ _ | refine bz4 ?_ hb2 | refine bz4 ?_ bel1w | refine Below.alloc ?_ ?_ _ | refine Below.trans ?_ (Below.mono hb2 ?_) | refine Below.trans ?_ (Below.mono bel1w ?_)) <;> first | omega | (simp; done) | (simp; omega))
theorem all2_fmt {fm mode x y : Int} : (allB fm [x, y] && fmtB fm && modeB mode) = (modeB mode && allB fm [x, y]) := by
  cases h : allB fm [x, y]
  · simp
  · rw [ok_fmt (all2 h).1]; simp
theorem nI_z {fm x : Int} (hx : okF fm x = true) (h : nI fm x = true) : nZ fm x = 0 := by
  have h3 : cls fm x = 3 := by simpa [nI] using h
  have hf : finB fm x = false := by unfold finB; rw [h3]; decide
  exact (odd_facts hx hf).1
theorem all1 {fm x : Int} : allB fm [x] = okF fm x := by unfold allB; simp
theorem all1_fmt {fm mode x : Int} : (allB fm [x] && fmtB fm && modeB mode) = (modeB mode && okF fm x) := by
  rw [all1]
  cases h : okF fm x
  · simp
  · rw [ok_fmt h]; simp
/-- A scaled float. -/
def scO (fm mode x n : Int) : Bool := modeB mode && okF fm x && inB n (-5000) 5000
def scB (fm mode x n : Int) : Int := if scO fm mode x n then (if nanB fm x then nanOf fm else if nI fm x || zF fm x then x else RdB fm mode (Nm.wn (nZ fm x)) (Nm.wl (nZ fm x)) (nE fm x + n)) else 0
def scF (fm mode x n : Int) : Int := if scO fm mode x n then (if nanB fm x then fl8 (nB fm x) else if nI fm x || zF fm x then 0 else RdF fm mode (Nm.wn (nZ fm x)) (Nm.wl (nZ fm x)) (nE fm x + n)) else 0
theorem sc_no {fm mode x n : Int} (h : scO fm mode x n = false) : scB fm mode x n = 0 ∧ scF fm mode x n = 0 := by unfold scB scF; rw [h]; exact ⟨rfl, rfl⟩
theorem sc_spec (fm mode x n : Int) (w : World) (x0 : 0 ≤ x) (x1 : x < 18446744073709551616) (B F : Int) (O : Bool) (hB : B = scB fm mode x n) (hF : F = scF fm mode x n) (hO : O = scO fm mode x n) :
    Calls Tryz.prog 153 #[.int .i64 fm, .int .i64 mode, .int .u64 x, .int .i64 n] w fun r w' => r = .returned (.tuple #[.int .u64 B, .int .i64 F, .bool O]) ∧ Below w.heap.size w w' := by
  have dx := d64_1 x0 x1
  have CF := hid (fun w' h => l4form fm mode (some ⟨w.heap.size, 0, none⟩) 1 [x] w' h (by simp))
  rw [all1_fmt] at CF
  have CI := hid (fun w' => in_spec n (-5000) 5000 w')
  have s2 := sl64_1 w x 24
  cases ho1 : (modeB mode && okF fm x)
  · have ho : scO fm mode x n = false := by unfold scO; rw [ho1]; rfl
    obtain ⟨e1, e2⟩ := sc_no ho
    rw [e1] at hB; rw [e2] at hF; rw [ho] at hO
    subst hB hF hO
    rw [ho1] at CF
    clear ho ho1 e1 e2 dx
    go_enter Tryz.func153, Tryz.ntmps153
    go_wp2_with fail
    refine (CF.out _ s2).mono ?_
    rintro r w1 ⟨rfl, hb1⟩
    go_wp2
    go_ret3
    exact ⟨rfl, (by repeat (first | exact bz0 _ _ | refine bz1 ?_ | refine bz2 ?_ _ | refine bz3 ?_ _ | refine bz4 ?_ hb1 | refine bz5 ?_ _ | refine bz6 ?_ _ | refine bz7 ?_ hb1))⟩
  rw [ho1] at CF
  cases hin : inB n (-5000) 5000
  · have ho : scO fm mode x n = false := by unfold scO; rw [ho1, hin]; rfl
    obtain ⟨e1, e2⟩ := sc_no ho
    rw [e1] at hB; rw [e2] at hF; rw [ho] at hO
    subst hB hF hO
    rw [hin] at CI
    clear ho ho1 e1 e2 dx hin
    go_enter Tryz.func153, Tryz.ntmps153
    go_wp2_with fail
    refine (CF.out _ s2).mono ?_
    rintro r w1 ⟨rfl, hb1⟩
    go_wp2_with fail
    refine (CI.out _).mono ?_
    rintro r w2 ⟨rfl, rfl⟩
    go_wp2
    go_ret3
    exact ⟨rfl, (by repeat (first | exact bz0 _ _ | refine bz1 ?_ | refine bz2 ?_ _ | refine bz3 ?_ _ | refine bz4 ?_ hb1 | refine bz5 ?_ _ | refine bz6 ?_ _ | refine bz7 ?_ hb1))⟩
  rw [hin] at CI
  have ho : scO fm mode x n = true := by unfold scO; rw [ho1, hin]; rfl
  obtain ⟨hm, hx⟩ : modeB mode = true ∧ okF fm x = true := by simpa using ho1
  have hn0 : -5000 ≤ n ∧ n ≤ 5000 := by unfold inB at hin; simpa using hin
  have hfm := ok_fmt hx
  have CN := hid (fun a w' h => l4nan fm a 1 [x] w' h dx (by simp) hfm (by rw [all1]; exact hx))
  have e1 : [x].any (nanB fm) = nanB fm x := by simp
  have e2 : [x].any (nB fm) = nB fm x := by simp
  rw [e1, e2] at CN
  rw [ho] at hO
  subst hO
  unfold scB at hB
  unfold scF at hF
  rw [ho, if_pos rfl] at hB hF
  cases hn : nanB fm x
  · rw [hn, if_neg (by decide)] at hB hF
    rw [hn] at CN
    have C1 := hid (fun w' => inf4 fm x w' hx x0 x1 _ rfl)
    have C2 := hid (fun w' => zer4 fm x w' hx x0 x1 (zF fm x) rfl)
    obtain ⟨q1, hq1⟩ : ∃ i, i = nanOf fm := ⟨_, rfl⟩
    obtain ⟨q2, hq2⟩ : ∃ i : Int, i = fl8 (nB fm x) := ⟨_, rfl⟩
    rw [← hq1, ← hq2] at CN
    cases hi : nI fm x
    · rw [hi] at C1 hB hF
      cases hz : zF fm x
      · rw [hz] at C2 hB hF
        have hB' : B = RdB fm mode (Nm.wn (nZ fm x)) (Nm.wl (nZ fm x)) (nE fm x + n) := hB
        have hF' : F = RdF fm mode (Nm.wn (nZ fm x)) (Nm.wl (nZ fm x)) (nE fm x + n) := hF
        have hf := (nan_cases hx hn).resolve_right (by rw [hi]; decide)
        obtain ⟨fx1, fx2, fx3, fx4, -, -⟩ := fin_facts hx hf
        have bx := pM_bd fm x
        have ex := pE_bd fm x
        have hnz : nZ fm x ≠ 0 := by rw [zF_fin hx hf] at hz; exact of_decide_eq_false hz
        have CP := hid (fun w' => sparts_any fm x w' hf x0 x1)
        have U1 := hid (fun w' => l1uint_z (pM fm x) (pS fm x) w' bx.1 (by omega))
        rw [← fx3] at U1
        have CR := hid (fun p c w' h => l3r_any fm mode (nZ fm x) (nE fm x + n) p c w' h hnz (rdo_any hfm hm (nZ_len fm x) (by rw [fx4]; omega) (by rw [fx4]; omega)))
        simp only [← hB', ← hF'] at CR
        rw [fx4] at CR
        obtain ⟨sg, hsg⟩ : ∃ s, s = pS fm x := ⟨_, rfl⟩
        obtain ⟨m, hm'⟩ : ∃ s, s = pM fm x := ⟨_, rfl⟩
        obtain ⟨e, he⟩ : ∃ s, s = pE fm x := ⟨_, rfl⟩
        obtain ⟨G, hG⟩ : ∃ s, s = Nm.wn (nZ fm x) := ⟨_, rfl⟩
        obtain ⟨L, hL⟩ : ∃ s, s = Nm.wl (nZ fm x) := ⟨_, rfl⟩
        rw [← hsg, ← hm', ← he] at CP
        rw [← hsg, ← hm', ← hG, ← hL] at U1
        simp only [← hG, ← hL, ← he] at CR
        rw [← hm'] at bx
        rw [← he] at ex
        have hwE : IntKind.i64.wrap (e + n) = e + n := by rw [IntKind.wrap_i64]; omega
        have hw1 : IntKind.u64.wrap m = m := by rw [IntKind.wrap_u64]; omega
        clear hsg hm' he hG hL hB hF hB' hF' hn ho ho1 dx e1 e2 hm hx hfm hin hq1 hq2 hf fx1 fx2 fx3 fx4 hi hz hnz
        go_enter Tryz.func153, Tryz.ntmps153
        go_wp2_with fail
        refine (CF.out _ s2).mono ?_
        rintro r w1 ⟨rfl, hb1⟩
        go_wp2_with fail
        refine (CI.out _).mono ?_
        rintro r w2 ⟨rfl, rfl⟩
        go_wp2_with fail
        refine (CN.out _ _ (sl64_1 w2 x 24)).mono ?_
        rintro r w3 ⟨rfl, hb3⟩
        go_wp2_with fail
        refine (C1.out _).mono ?_
        rintro r w4 ⟨rfl, hb4⟩
        go_wp2_with fail
        refine (C2.out _).mono ?_
        rintro r w5 ⟨rfl, hb5⟩
        go_wp2_with fail
        refine (CP.out _).mono ?_
        rintro r w6 ⟨rfl, hb6⟩
        have P := R3.new w6 (.bool sg) (.int .i64 m) (.int .i64 e) 77
        have bel6 : Below w.heap.size w w6 := (by repeat (first | exact bz0 _ _ | refine bz1 ?_ | refine bz2 ?_ _ | refine bz3 ?_ _ | refine bz4 ?_ hb6 | refine bz4 ?_ hb5 | refine bz4 ?_ hb4 | refine bz4 ?_ hb3 | refine bz4 ?_ hb1 | refine bz5 ?_ _ | refine bz6 ?_ _ | refine bz7 ?_ hb6 | refine bz7 ?_ hb5 | refine bz7 ?_ hb4 | refine bz7 ?_ hb3 | refine bz7 ?_ hb1))
        have Pd := P.dr
        have pd := And.intro Pd.c0 (And.intro Pd.c1 Pd.c2)
        clear hb6 hb5 hb4 hb3 hb1 s2
        go_wp2_with fail
        go_region_held3 (fun w' => w'.cell? ⟨w6.heap.size, 0, none⟩ = some (.bool sg) ∧ w'.cell? ⟨w6.heap.size, 1, none⟩ = some (.int .i64 m) ∧ w'.cell? ⟨w6.heap.size, 2, none⟩ = some (.int .i64 e))
          (first | with_reducible assumption | with_reducible exact pd | fail)
          (first
            | (go_at_call 114; refine (U1.out _).mono ?_; rintro r q1' ⟨a1, k1, rfl, hp1, hq1⟩; have P1 := Pd.below hq1; have u1 := And.intro P1.c0 (And.intro P1.c1 P1.c2))
            | (go_at_call 103; refine (CR.out a1 k1 _ hp1.sl).mono ?_; rintro r q2' ⟨rfl, hq2⟩; have P2 := P1.below hq2; have u2 := And.intro P2.c0 (And.intro P2.c1 P2.c2)))
        go_wp2
        go_ret3
        exact ⟨rfl, (by repeat (first | exact bz0 _ _ | refine bz1 ?_ | refine bz2 ?_ _ | refine bz3 ?_ _ | refine bz4 ?_ hq2 | refine bz4 ?_ hq1 | refine bz4 ?_ bel6 | refine bz5 ?_ _ | refine bz6 ?_ _ | refine bz7 ?_ hq2 | refine bz7 ?_ hq1 | refine bz7 ?_ bel6))⟩
      · rw [hz] at C2 hB hF
        have hB' : B = x := hB
        have hF' : F = 0 := hF
        subst hB' hF'
        clear hB hF hn ho ho1 dx e1 e2 hm hx hfm hin hq1 hq2 hi hz
        go_enter Tryz.func153, Tryz.ntmps153
        go_wp2_with fail
        refine (CF.out _ s2).mono ?_
        rintro r w1 ⟨rfl, hb1⟩
        go_wp2_with fail
        refine (CI.out _).mono ?_
        rintro r w2 ⟨rfl, rfl⟩
        go_wp2_with fail
        refine (CN.out _ _ (sl64_1 w2 B 24)).mono ?_
        rintro r w3 ⟨rfl, hb3⟩
        go_wp2_with fail
        refine (C1.out _).mono ?_
        rintro r w4 ⟨rfl, hb4⟩
        go_wp2_with fail
        refine (C2.out _).mono ?_
        rintro r w5 ⟨rfl, hb5⟩
        go_wp2
        go_ret3
        exact ⟨rfl, (by repeat (first | exact bz0 _ _ | refine bz1 ?_ | refine bz2 ?_ _ | refine bz3 ?_ _ | refine bz4 ?_ hb5 | refine bz4 ?_ hb4 | refine bz4 ?_ hb3 | refine bz4 ?_ hb1 | refine bz5 ?_ _ | refine bz6 ?_ _ | refine bz7 ?_ hb5 | refine bz7 ?_ hb4 | refine bz7 ?_ hb3 | refine bz7 ?_ hb1))⟩
    · rw [hi] at C1 hB hF
      have hB' : B = x := hB
      have hF' : F = 0 := hF
      subst hB' hF'
      clear hB hF hn ho ho1 dx e1 e2 hm hx hfm hin hq1 hq2 hi C2
      go_enter Tryz.func153, Tryz.ntmps153
      go_wp2_with fail
      refine (CF.out _ s2).mono ?_
      rintro r w1 ⟨rfl, hb1⟩
      go_wp2_with fail
      refine (CI.out _).mono ?_
      rintro r w2 ⟨rfl, rfl⟩
      go_wp2_with fail
      refine (CN.out _ _ (sl64_1 w2 B 24)).mono ?_
      rintro r w3 ⟨rfl, hb3⟩
      go_wp2_with fail
      refine (C1.out _).mono ?_
      rintro r w4 ⟨rfl, hb4⟩
      go_wp2
      go_ret3
      exact ⟨rfl, (by repeat (first | exact bz0 _ _ | refine bz1 ?_ | refine bz2 ?_ _ | refine bz3 ?_ _ | refine bz4 ?_ hb4 | refine bz4 ?_ hb3 | refine bz4 ?_ hb1 | refine bz5 ?_ _ | refine bz6 ?_ _ | refine bz7 ?_ hb4 | refine bz7 ?_ hb3 | refine bz7 ?_ hb1))⟩
  · rw [hn, if_pos rfl] at hB hF
    rw [hn] at CN
    rw [← hB, ← hF] at CN
    clear hB hF hn ho ho1 dx e1 e2 hm hx hfm hin
    go_enter Tryz.func153, Tryz.ntmps153
    go_wp2_with fail
    refine (CF.out _ s2).mono ?_
    rintro r w1 ⟨rfl, hb1⟩
    go_wp2_with fail
    refine (CI.out _).mono ?_
    rintro r w2 ⟨rfl, rfl⟩
    go_wp2_with fail
    refine (CN.out _ _ (sl64_1 w2 x 24)).mono ?_
    rintro r w3 ⟨rfl, hb3⟩
    go_wp2
    go_ret3
    exact ⟨rfl, (by repeat (first | exact bz0 _ _ | refine bz1 ?_ | refine bz2 ?_ _ | refine bz3 ?_ _ | refine bz4 ?_ hb3 | refine bz4 ?_ hb1 | refine bz5 ?_ _ | refine bz6 ?_ _ | refine bz7 ?_ hb3 | refine bz7 ?_ hb1))⟩
end Go.Proofs.YtmcflggionkhlaaGreatDoor
