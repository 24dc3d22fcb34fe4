/-
  What is needed of FL, FP, FF, MO, MQ, RX.
-/
import Derived.Test.YtmcflggionkhlaaGreatDoorH34
import Derived.Test.YtmcflggionkhlaaGreatDoorH40
set_option maxHeartbeats 16000000
set_option maxRecDepth 1000000
namespace Go.Proofs.YtmcflggionkhlaaGreatDoor
set_option linter.unusedVariables false
set_option linter.unusedSimpArgs false
open Go.RowKit Go.Deep
namespace Fd
theorem float_any (fm : Int) (hf : fmtB fm = true) (rb : Nat) (ca : Option Addr) (cc : Nat) (cs : List Int) (w : World) (hr : RD w rb ca cc cs) :
    Calls Tryz.prog 78 #[.pointer (some ⟨rb, 0, none⟩), .int .i64 fm] w fun e w' => ∃ x : Int, e = .returned (.int .u64 x) ∧ 0 ≤ x ∧ x < 18446744073709551616 ∧ RD w' rb ca cc cs ∧ w.grownBy w' (some rb) := by
  rcases fmt_cases hf with rfl | rfl
  · exact float32 rb ca cc cs w hr
  · exact float64 rb ca cc cs w hr
theorem some_any (rb : Nat) (ca : Option Addr) (cc : Nat) (cs : List Int) (w : World) (hr : RD w rb ca cc cs) :
    Calls Tryz.prog 75 #[.pointer (some ⟨rb, 0, none⟩)] w fun e w' => ∃ fm x : Int, e = .returned (.tuple #[.int .i64 fm, .int .u64 x]) ∧ 0 ≤ x ∧ x < 18446744073709551616 ∧ RD w' rb ca cc cs ∧ w.grownBy w' (some rb) := by
  go_enter Tryz.func75, Tryz.ntmps75
  go_wp2_with fail
  refine (format_any rb ca cc cs _ hr).mono ?_
  rintro e w1 ⟨fm, rfl, hf, hr1, hg1⟩
  have CF := hid (fun w' h => float_any fm hf rb ca cc cs w' h)
  clear hf
  go_wp2_with fail
  refine (CF.out _ hr1).mono ?_
  rintro e w2 ⟨x, rfl, x0, x1, hr2, hg2⟩
  go_wp2_with fail
  refine (below_any rb ca cc cs 40 _ hr2 (by decide) (by decide)).mono ?_
  rintro e w3 ⟨v, rfl, v0, v1, hr3, hg3⟩
  have hg := grown_trans (grown_trans hg1 hg2) hg3
  rcases (show v = 0 ∨ v = 1 ∨ 1 < v by omega) with rfl | rfl | hv
  · go_wp2_with fail
    refine (below_any rb ca cc cs 100 _ hr3 (by decide) (by decide)).mono ?_
    rintro e w4 ⟨u, rfl, u0, u1, hr4, hg4⟩
    go_wp2
    go_ret2
    exact ⟨_, _, rfl, x0, x1, hr4, grown_trans hg hg4⟩
  · have lo := bits_lo_u64 .or x 4294967296
    have hi := bits_hi_u64 .or x 4294967296
    go_wp2
    go_ret2
    exact ⟨_, _, rfl, by omega, by omega, hr3, hg⟩
  · have e0 : (v == 0) = false := by simp; omega
    have e1 : (v == 1) = false := by simp; omega
    go_wp2
    go_ret2
    exact ⟨_, _, rfl, x0, x1, hr3, hg⟩
theorem iAbsolute (fm x : Int) (w : World) (hT : Tab w) (x0 : 0 ≤ x) (x1 : x < 18446744073709551616) :
    Calls Tryz.prog 51 #[.int .i64 fm, .int .u64 x] w fun e w' => e = .returned (.int .u64 (absF fm x)) ∧ Below w.heap.size w w' := by
  cases ho : okF fm x
  · have C := hid (fun w' h => impl_ok fm x w' h x0 x1)
    have HR := hid (abs_no ho)
    rw [ho] at C
    clear ho
    go_enter Tryz.func51, Tryz.ntmps51
    go_wp2_with fail
    refine (C.out _ hT).mono ?_
    rintro e w1 ⟨rfl, hb1⟩
    go_wp2
    go_ret
    exact ⟨ret_int HR.out.symm, (by repeat (first | exact bz0 _ _ | refine bz1 ?_ | refine bz2 ?_ _ | refine bz3 ?_ _ | refine bz4 ?_ hb1 | refine bz5 ?_ _ | refine bz6 ?_ _ | refine bz7 ?_ hb1))⟩
  · rcases okF_cases ho with ⟨rfl, h⟩ | rfl
    · rw [abs32 h]; exact impl_abs32 x w hT x0 h
    · rw [abs64]; exact impl_abs64 x w hT x0 x1
theorem sg32 {x : Int} (h0 : 0 ≤ x) (h1 : x < 4294967296) (y : Int) (hy : y = negF 32 x) :
    (0 ≤ y ∧ y < 4294967296) ∧ negF 32 y = x ∧ y ≠ x ∧ cls 32 y = cls 32 x ∧ finB 32 y = finB 32 x ∧ unI 32 y = -unI 32 x ∧ (x < 2147483648 → absF 32 x = x) ∧ (¬ x < 2147483648 → absF 32 x ≠ x ∧ absF 32 x = y) := by
  rw [neg32 h1] at hy
  have hr : 0 ≤ y ∧ y < 4294967296 := by split at hy <;> omega
  have hm : y % 2147483648 = x % 2147483648 := by split at hy <;> omega
  have hc : cls 32 y = cls 32 x := by rw [cls32 (x := y) (by omega), cls32 h1, hm]
  have hf : finB 32 y = finB 32 x := by unfold finB; rw [hc]
  have ax := ab32 h0 h1
  have ay := ab32 hr.1 hr.2
  have hs : sigB 32 y = !sigB 32 x := by
    unfold sigB; rw [ax, ay]
    split at hy
    · rename_i h
      rw [if_pos h, if_neg (by omega)]
      have e1 : (y != y - 2147483648) = true := by simp; omega
      rw [e1]; simp
    · rename_i h
      rw [if_neg h, if_pos (by omega)]
      have e1 : (x != x - 2147483648) = true := by simp; omega
      rw [e1]; simp
  refine ⟨hr, ?_, ?_, hc, hf, ?_, ?_, ?_⟩
  · rw [neg32 (x := y) (by omega)]; split at hy <;> split <;> omega
  · split at hy <;> omega
  · unfold unI
    rw [hf]
    cases hff : finB 32 x
    · rfl
    · rw [if_pos rfl, if_pos rfl]
      have e1 : pM 32 y = pM 32 x := by unfold pM; rw [hf, hm]; simp
      have e2 : pE 32 y = pE 32 x := by unfold pE; rw [hf, hm]; simp
      have e3 : pS 32 y = !pS 32 x := by unfold pS; rw [hf, hff, if_pos rfl, if_pos rfl, hs]
      rw [e1, e2, e3]
      cases pS 32 x <;> simp
  · intro h; rw [ax, if_pos h]
  · intro h
    rw [if_neg h] at hy
    rw [ax, if_neg h]; omega
theorem sg64 {x : Int} (h0 : 0 ≤ x) (h1 : x < 18446744073709551616) (y : Int) (hy : y = negF 64 x) :
    (0 ≤ y ∧ y < 18446744073709551616) ∧ negF 64 y = x ∧ y ≠ x ∧ cls 64 y = cls 64 x ∧ finB 64 y = finB 64 x ∧ unI 64 y = -unI 64 x ∧ (x < 9223372036854775808 → absF 64 x = x) ∧ (¬ x < 9223372036854775808 → absF 64 x ≠ x ∧ absF 64 x = y) := by
  rw [neg64] at hy
  have hr : 0 ≤ y ∧ y < 18446744073709551616 := by split at hy <;> omega
  have hm : y % 9223372036854775808 = x % 9223372036854775808 := by split at hy <;> omega
  have hc : cls 64 y = cls 64 x := by rw [cls64 (x := y), cls64 (x := x), hm]
  have hf : finB 64 y = finB 64 x := by unfold finB; rw [hc]
  have ax := ab64 h0 h1
  have ay := ab64 hr.1 hr.2
  have hs : sigB 64 y = !sigB 64 x := by
    unfold sigB; rw [ax, ay]
    split at hy
    · rename_i h
      rw [if_pos h, if_neg (by omega)]
      have e1 : (y != y - 9223372036854775808) = true := by simp; omega
      rw [e1]; simp
    · rename_i h
      rw [if_neg h, if_pos (by omega)]
      have e1 : (x != x - 9223372036854775808) = true := by simp; omega
      rw [e1]; simp
  refine ⟨hr, ?_, ?_, hc, hf, ?_, ?_, ?_⟩
  · rw [neg64 (x := y)]; split at hy <;> split <;> omega
  · split at hy <;> omega
  · unfold unI
    rw [hf]
    cases hff : finB 64 x
    · rfl
    · rw [if_pos rfl, if_pos rfl]
      have e1 : pM 64 y = pM 64 x := by unfold pM; rw [hf, hm]; simp
      have e2 : pE 64 y = pE 64 x := by unfold pE; rw [hf, hm]; simp
      have e3 : pS 64 y = !pS 64 x := by unfold pS; rw [hf, hff, if_pos rfl, if_pos rfl, hs]
      rw [e1, e2, e3]
      cases pS 64 x <;> simp
  · intro h; rw [ax, if_pos h]
  · intro h
    rw [if_neg h] at hy
    rw [ax, if_neg h]; omega
theorem Rd_any32 (mode : Int) (ng : Bool) (zs : List Int) (e : Int) (ho : RdO 32 mode ng zs e = true) (hz : ¬ zs.length = 0) :
    RdB 32 mode ng zs e = rdB 24 (-149) 2139095040 2147483648 mode ng (Nm.val zs).toNat e ∧ RdF 32 mode ng zs e = rdF 24 (-149) 2139095040 mode ng (Nm.val zs).toNat e := by
  unfold RdB RdF
  rw [ho, if_pos rfl, if_pos rfl, if_neg hz, if_neg hz, if_pos rfl, if_pos rfl]
  exact ⟨rfl, rfl⟩
theorem sgn_abs32 {v : Int} (h0 : 0 ≤ v) (h1 : v < 2147483648) (ng : Bool) : 0 ≤ sgn 2147483648 v ng ∧ sgn 2147483648 v ng < 4294967296 ∧ absF 32 (sgn 2147483648 v ng) = v := by
  have hb : 0 ≤ sgn 2147483648 v ng ∧ sgn 2147483648 v ng < 4294967296 := by unfold sgn; split <;> omega
  refine ⟨hb.1, hb.2, ?_⟩
  rw [ab32 hb.1 hb.2]
  unfold sgn
  cases ng
  · simp only [Bool.false_eq_true, if_false]; rw [if_pos h1]
  · simp only [if_true]; rw [if_neg (by omega)]; omega
theorem Rd_any64 (mode : Int) (ng : Bool) (zs : List Int) (e : Int) (ho : RdO 64 mode ng zs e = true) (hz : ¬ zs.length = 0) :
    RdB 64 mode ng zs e = rdB 53 (-1074) 9218868437227405312 9223372036854775808 mode ng (Nm.val zs).toNat e ∧ RdF 64 mode ng zs e = rdF 53 (-1074) 9218868437227405312 mode ng (Nm.val zs).toNat e := by
  unfold RdB RdF
  rw [ho, if_pos rfl, if_pos rfl, if_neg hz, if_neg hz, if_neg (show ¬ ((64 : Int) = 32) from by decide), if_neg (show ¬ ((64 : Int) = 32) from by decide)]
  exact ⟨rfl, rfl⟩
theorem sgn_abs64 {v : Int} (h0 : 0 ≤ v) (h1 : v < 9223372036854775808) (ng : Bool) : 0 ≤ sgn 9223372036854775808 v ng ∧ sgn 9223372036854775808 v ng < 18446744073709551616 ∧ absF 64 (sgn 9223372036854775808 v ng) = v := by
  have hb : 0 ≤ sgn 9223372036854775808 v ng ∧ sgn 9223372036854775808 v ng < 18446744073709551616 := by unfold sgn; split <;> omega
  refine ⟨hb.1, hb.2, ?_⟩
  rw [ab64 hb.1 hb.2]
  unfold sgn
  cases ng
  · simp only [Bool.false_eq_true, if_false]; rw [if_pos h1]
  · simp only [if_true]; rw [if_neg (by omega)]; omega
/-- The bits of what is rounded, without the sign. -/
def mgB (P : Nat) (q : Int) (I : Nat) (mode : Int) (ng : Bool) (a : Nat) (e : Int) : Int := if Nm.flo P I (rdU P q mode ng a e) then (Nm.flb P (rdU P q mode ng a e) : Nat) else if ovB mode ng then (I : Int) - 1 else I
theorem mgB_eq (P : Nat) (q : Int) (I : Nat) (S mode : Int) (ng : Bool) (a : Nat) (e : Int) : rdB P q I S mode ng a e = sgn S (mgB P q I mode ng a e) ng := by
  unfold rdB mgB
  split
  · rfl
  · split <;> rfl
theorem mgB_bd {P I : Nat} {q mode : Int} {ng : Bool} {a : Nat} {e : Int} (hI : 0 < I) : 0 ≤ mgB P q I mode ng a e ∧ mgB P q I mode ng a e ≤ I := by
  unfold mgB
  by_cases hf : Nm.flo P I (rdU P q mode ng a e) = true
  · rw [if_pos hf]
    have : Nm.flb P (rdU P q mode ng a e) < I := by
      unfold Nm.flo at hf
      simp only [Bool.and_eq_true, decide_eq_true_eq] at hf
      exact hf.2
    omega
  · rw [if_neg hf]; split <;> omega
theorem wl_zero' (x : Int) : (Nm.wl x).length = 0 ↔ x = 0 := by
  unfold Nm.wl
  rw [Nm.lim_length_zero]
  omega
theorem ord_R32 (mode : Int) (z : Int) (e : Int) (hO : RdO 32 mode (Nm.wn z) (Nm.wl z) e = true) :
    0 ≤ RdB 32 mode (Nm.wn z) (Nm.wl z) e ∧ RdB 32 mode (Nm.wn z) (Nm.wl z) e < 4294967296 ∧ numB 32 (RdB 32 mode (Nm.wn z) (Nm.wl z) e) = true ∧
    ordI 32 (RdB 32 mode (Nm.wn z) (Nm.wl z) e) = if z < 0 then -1 - mgB 24 (-149) 2139095040 mode true z.natAbs e else if z = 0 then 0 else mgB 24 (-149) 2139095040 mode false z.natAbs e := by
  by_cases hz : z = 0
  · have h := (Rd_zero (fm := 32) (mode := mode) (ng := Nm.wn z) (e := e) ((wl_zero' z).2 hz)).1
    rw [h, if_neg (by omega), if_pos hz]
    exact ⟨by decide, by decide, by decide +kernel, by decide +kernel⟩
  · obtain ⟨b1, -⟩ := Rd_any32 mode (Nm.wn z) (Nm.wl z) e hO (fun h => hz ((wl_zero' z).1 h))
    rw [b1, Nm.val_wl, Int.toNat_natCast, mgB_eq]
    obtain ⟨m0, m1⟩ := mgB_bd (P := 24) (I := 2139095040) (q := (-149)) (mode := mode) (ng := Nm.wn z) (a := z.natAbs) (e := e) (by decide)
    have hb := sgn_abs32 m0 (by omega) (Nm.wn z)
    refine ⟨hb.1, hb.2.1, ?_, ?_⟩
    · unfold numB
      rw [cls32 hb.2.1]
      have e1 : sgn 2147483648 (mgB 24 (-149) 2139095040 mode (Nm.wn z) z.natAbs e) (Nm.wn z) % 2147483648 = mgB 24 (-149) 2139095040 mode (Nm.wn z) z.natAbs e := by
        unfold sgn; split <;> omega
      rw [e1]
      unfold clsY
      simp only [decide_eq_true_eq]
      repeat' split
      all_goals omega
    · rw [od32 hb.1 hb.2.1]
      unfold Nm.wn sgn
      by_cases hn : z < 0
      · have ht : decide (z < 0) = true := decide_eq_true hn
        unfold Nm.wn at m0 m1
        rw [ht] at m0 m1 ⊢
        simp only [if_true]
        rw [if_neg (by omega), if_pos hn]
        omega
      · have ht : decide (z < 0) = false := decide_eq_false hn
        unfold Nm.wn at m0 m1
        rw [ht] at m0 m1 ⊢
        simp only [Bool.false_eq_true, if_false]
        rw [if_pos (by omega), if_neg hn, if_neg hz]
theorem ord_R64 (mode : Int) (z : Int) (e : Int) (hO : RdO 64 mode (Nm.wn z) (Nm.wl z) e = true) :
    0 ≤ RdB 64 mode (Nm.wn z) (Nm.wl z) e ∧ RdB 64 mode (Nm.wn z) (Nm.wl z) e < 18446744073709551616 ∧ numB 64 (RdB 64 mode (Nm.wn z) (Nm.wl z) e) = true ∧
    ordI 64 (RdB 64 mode (Nm.wn z) (Nm.wl z) e) = if z < 0 then -1 - mgB 53 (-1074) 9218868437227405312 mode true z.natAbs e else if z = 0 then 0 else mgB 53 (-1074) 9218868437227405312 mode false z.natAbs e := by
  by_cases hz : z = 0
  · have h := (Rd_zero (fm := 64) (mode := mode) (ng := Nm.wn z) (e := e) ((wl_zero' z).2 hz)).1
    rw [h, if_neg (by omega), if_pos hz]
    exact ⟨by decide, by decide, by decide +kernel, by decide +kernel⟩
  · obtain ⟨b1, -⟩ := Rd_any64 mode (Nm.wn z) (Nm.wl z) e hO (fun h => hz ((wl_zero' z).1 h))
    rw [b1, Nm.val_wl, Int.toNat_natCast, mgB_eq]
    obtain ⟨m0, m1⟩ := mgB_bd (P := 53) (I := 9218868437227405312) (q := (-1074)) (mode := mode) (ng := Nm.wn z) (a := z.natAbs) (e := e) (by decide)
    have hb := sgn_abs64 m0 (by omega) (Nm.wn z)
    refine ⟨hb.1, hb.2.1, ?_, ?_⟩
    · unfold numB
      rw [cls64 ]
      have e1 : sgn 9223372036854775808 (mgB 53 (-1074) 9218868437227405312 mode (Nm.wn z) z.natAbs e) (Nm.wn z) % 9223372036854775808 = mgB 53 (-1074) 9218868437227405312 mode (Nm.wn z) z.natAbs e := by
        unfold sgn; split <;> omega
      rw [e1]
      unfold clsY
      simp only [decide_eq_true_eq]
      repeat' split
      all_goals omega
    · rw [od64 hb.1 hb.2.1]
      unfold Nm.wn sgn
      by_cases hn : z < 0
      · have ht : decide (z < 0) = true := decide_eq_true hn
        unfold Nm.wn at m0 m1
        rw [ht] at m0 m1 ⊢
        simp only [if_true]
        rw [if_neg (by omega), if_pos hn]
        omega
      · have ht : decide (z < 0) = false := decide_eq_false hn
        unfold Nm.wn at m0 m1
        rw [ht] at m0 m1 ⊢
        simp only [Bool.false_eq_true, if_false]
        rw [if_pos (by omega), if_neg hn, if_neg hz]
/-- The float x is z times 2 to the e. -/
def ValF (fm x z e : Int) : Prop := unI fm x * 2 ^ (unQ fm - min e (unQ fm)).toNat = z * 2 ^ (e - min e (unQ fm)).toNat
theorem pw_i (n : Nat) : (0 : Int) < 2 ^ n := Int.pow_pos (by decide)
theorem natAbs_pow (z : Int) (n : Nat) : (z * 2 ^ n).natAbs = z.natAbs * 2 ^ n := by
  rw [Int.natAbs_mul, Int.natAbs_pow]; rfl
theorem sgn_same {x z a b : Int} (ha : 0 < a) (hb : 0 < b) (h : x * a = z * b) : (x < 0 ↔ z < 0) ∧ (x = 0 ↔ z = 0) := by
  have e1 : (x < 0 ↔ x * a < 0) := by
    constructor
    · intro h; exact Int.mul_neg_of_neg_of_pos h ha
    · intro h; rcases Int.lt_or_le x 0 with k | k
      · exact k
      · have := Int.mul_nonneg k (Int.le_of_lt ha); omega
  have e2 : (z < 0 ↔ z * b < 0) := by
    constructor
    · intro h; exact Int.mul_neg_of_neg_of_pos h hb
    · intro h; rcases Int.lt_or_le z 0 with k | k
      · exact k
      · have := Int.mul_nonneg k (Int.le_of_lt hb); omega
  refine ⟨by rw [e1, e2, h], ?_⟩
  constructor
  · intro hx; subst hx; rw [Int.zero_mul] at h
    rcases Int.mul_eq_zero.1 h.symm with k | k
    · exact k
    · omega
  · intro hz; subst hz; rw [Int.zero_mul] at h
    rcases Int.mul_eq_zero.1 h with k | k
    · exact k
    · omega
theorem unSg32 {v : Nat} (hv : v < 2139095040) (ng : Bool) : 0 ≤ sgn 2147483648 (v : Int) ng ∧ sgn 2147483648 (v : Int) ng < 4294967296 ∧ finB 32 (sgn 2147483648 (v : Int) ng) = true ∧ unI 32 (sgn 2147483648 (v : Int) ng) = (if ng then -((uf 8388608 v : Nat) : Int) else (uf 8388608 v : Nat)) := by
  have hb := sgn_abs32 (v := (v : Int)) (by omega) (by omega) ng
  have hm : sgn 2147483648 (v : Int) ng % 2147483648 = v := by unfold sgn; split <;> omega
  have hf : finB 32 (sgn 2147483648 (v : Int) ng) = true := fin_lt'32 hb.1 hb.2.1 (by omega)
  refine ⟨hb.1, hb.2.1, hf, ?_⟩
  rw [un_uf32 hb.1 hb.2.1 hf]
  cases ng
  · have e : sgn 2147483648 (v : Int) false = v := rfl
    rw [e, if_pos (by omega), Int.toNat_natCast]; rfl
  · have e : sgn 2147483648 (v : Int) true = v + 2147483648 := rfl
    rw [e, if_neg (by omega), show ((v : Int) + 2147483648 - 2147483648).toNat = v by omega]; rfl
/-- A float's value is rounded to that float, without a flag. -/
theorem RdV_32 {x : Int} (h0 : 0 ≤ x) (h1 : x < 4294967296) (hf : finB 32 x = true) (mode z e : Int) (hm : modeB mode = true) (hO : RdO 32 mode (Nm.wn z) (Nm.wl z) e = true) (hz : z ≠ 0) (hv : ValF 32 x z e) :
    RdB 32 mode (Nm.wn z) (Nm.wl z) e = x ∧ RdF 32 mode (Nm.wn z) (Nm.wl z) e = 0 := by
  unfold ValF at hv
  have hs := sgn_same (pw_i _) (pw_i _) hv
  have hu0 : unI 32 x ≠ 0 := fun h => hz (hs.2.1 h)
  obtain ⟨o, r1, r2, r3⟩ := Rd_un32 h0 h1 hf mode hm
  have hxz : ¬ x % 2147483648 = 0 := fun h => hu0 ((wl_zero' _).1 (r3.2 h))
  rw [if_neg hxz] at r1
  obtain ⟨b1, b2⟩ := Rd_any32 mode (Nm.wn z) (Nm.wl z) e hO (fun h => hz ((wl_zero' z).1 h))
  obtain ⟨c1, c2⟩ := Rd_any32 mode (Nm.wn (unI 32 x)) (Nm.wl (unI 32 x)) (-149) o (fun h => hu0 ((wl_zero' _).1 h))
  have hn : Nm.wn (unI 32 x) = Nm.wn z := by unfold Nm.wn; rw [Bool.eq_iff_iff, decide_eq_true_eq, decide_eq_true_eq]; exact hs.1
  rw [Nm.val_wl, Int.toNat_natCast] at b1 b2 c1 c2
  have ha := congrArg Int.natAbs hv
  rw [natAbs_pow, natAbs_pow] at ha
  have key := rd_same (a := z.natAbs) (b := (unI 32 x).natAbs) (by omega) (by omega) (e := e) (f := (-149)) (e - min e (unQ 32)).toNat (unQ 32 - min e (unQ 32)).toNat ha.symm (by
    have : unQ 32 = (-149) := rfl
    rw [this]; omega) 24 (-149) 2139095040 2147483648 mode (Nm.wn z)
  rw [b1, b2, key.1, key.2, ← hn, ← c1, ← c2]
  exact ⟨r1, r2⟩
theorem unSg64 {v : Nat} (hv : v < 9218868437227405312) (ng : Bool) : 0 ≤ sgn 9223372036854775808 (v : Int) ng ∧ sgn 9223372036854775808 (v : Int) ng < 18446744073709551616 ∧ finB 64 (sgn 9223372036854775808 (v : Int) ng) = true ∧ unI 64 (sgn 9223372036854775808 (v : Int) ng) = (if ng then -((uf 4503599627370496 v : Nat) : Int) else (uf 4503599627370496 v : Nat)) := by
  have hb := sgn_abs64 (v := (v : Int)) (by omega) (by omega) ng
  have hm : sgn 9223372036854775808 (v : Int) ng % 9223372036854775808 = v := by unfold sgn; split <;> omega
  have hf : finB 64 (sgn 9223372036854775808 (v : Int) ng) = true := fin_lt'64 hb.1 hb.2.1 (by omega)
  refine ⟨hb.1, hb.2.1, hf, ?_⟩
  rw [un_uf64 hb.1 hb.2.1 hf]
  cases ng
  · have e : sgn 9223372036854775808 (v : Int) false = v := rfl
    rw [e, if_pos (by omega), Int.toNat_natCast]; rfl
  · have e : sgn 9223372036854775808 (v : Int) true = v + 9223372036854775808 := rfl
    rw [e, if_neg (by omega), show ((v : Int) + 9223372036854775808 - 9223372036854775808).toNat = v by omega]; rfl
/-- A float's value is rounded to that float, without a flag. -/
theorem RdV_64 {x : Int} (h0 : 0 ≤ x) (h1 : x < 18446744073709551616) (hf : finB 64 x = true) (mode z e : Int) (hm : modeB mode = true) (hO : RdO 64 mode (Nm.wn z) (Nm.wl z) e = true) (hz : z ≠ 0) (hv : ValF 64 x z e) :
    RdB 64 mode (Nm.wn z) (Nm.wl z) e = x ∧ RdF 64 mode (Nm.wn z) (Nm.wl z) e = 0 := by
  unfold ValF at hv
  have hs := sgn_same (pw_i _) (pw_i _) hv
  have hu0 : unI 64 x ≠ 0 := fun h => hz (hs.2.1 h)
  obtain ⟨o, r1, r2, r3⟩ := Rd_un64 h0 h1 hf mode hm
  have hxz : ¬ x % 9223372036854775808 = 0 := fun h => hu0 ((wl_zero' _).1 (r3.2 h))
  rw [if_neg hxz] at r1
  obtain ⟨b1, b2⟩ := Rd_any64 mode (Nm.wn z) (Nm.wl z) e hO (fun h => hz ((wl_zero' z).1 h))
  obtain ⟨c1, c2⟩ := Rd_any64 mode (Nm.wn (unI 64 x)) (Nm.wl (unI 64 x)) (-1074) o (fun h => hu0 ((wl_zero' _).1 h))
  have hn : Nm.wn (unI 64 x) = Nm.wn z := by unfold Nm.wn; rw [Bool.eq_iff_iff, decide_eq_true_eq, decide_eq_true_eq]; exact hs.1
  rw [Nm.val_wl, Int.toNat_natCast] at b1 b2 c1 c2
  have ha := congrArg Int.natAbs hv
  rw [natAbs_pow, natAbs_pow] at ha
  have key := rd_same (a := z.natAbs) (b := (unI 64 x).natAbs) (by omega) (by omega) (e := e) (f := (-1074)) (e - min e (unQ 64)).toNat (unQ 64 - min e (unQ 64)).toNat ha.symm (by
    have : unQ 64 = (-1074) := rfl
    rw [this]; omega) 53 (-1074) 9218868437227405312 9223372036854775808 mode (Nm.wn z)
  rw [b1, b2, key.1, key.2, ← hn, ← c1, ← c2]
  exact ⟨r1, r2⟩
theorem RdV_any {fm x : Int} (hx : okF fm x = true) (h0 : 0 ≤ x) (h1 : x < 18446744073709551616) (hf : finB fm x = true) (mode z e : Int) (hm : modeB mode = true) (hO : RdO fm mode (Nm.wn z) (Nm.wl z) e = true) (hz : z ≠ 0) (hv : ValF fm x z e) :
    RdB fm mode (Nm.wn z) (Nm.wl z) e = x ∧ RdF fm mode (Nm.wn z) (Nm.wl z) e = 0 := by
  rcases okF_cases hx with ⟨rfl, hb⟩ | rfl
  · exact RdV_32 h0 hb hf mode z e hm hO hz hv
  · exact RdV_64 h0 h1 hf mode z e hm hO hz hv
end Fd
end Go.Proofs.YtmcflggionkhlaaGreatDoor
