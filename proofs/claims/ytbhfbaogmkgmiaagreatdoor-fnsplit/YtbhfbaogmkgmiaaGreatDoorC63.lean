/-
  What is needed of UC, FL, FP, SM, ZSp.
-/
import Derived.Test.YtbhfbaogmkgmiaaGreatDoorC41
import Derived.Test.YtbhfbaogmkgmiaaGreatDoorC47
import Derived.Test.YtbhfbaogmkgmiaaGreatDoorC54
set_option maxHeartbeats 16000000
set_option maxRecDepth 1000000
namespace Go.Proofs.YtbhfbaogmkgmiaaGreatDoor
set_option linter.unusedVariables false
set_option linter.unusedSimpArgs false
open Go.RowKit Go.Deep
namespace Fd
theorem pM_uf32 {x : Int} (h0 : 0 ≤ x) (h1 : x < 4294967296) (hf : finB 32 x = true) :
    (pM 32 x).toNat * 2 ^ (pE 32 x - (-149)).toNat = uf 8388608 (x % 2147483648).toNat ∧ (-149) ≤ pE 32 x ∧ pE 32 x ≤ (-149) + 254 ∧ bitLen (pM 32 x).toNat ≤ 24 := by
  have hlt := fin_lt32 h0 h1 hf
  have hu : Nm.sh (parM 8388608 (x % 2147483648)).toNat (parE 8388608 (-149) (x % 2147483648) - (-149)) = uf 8388608 (x % 2147483648).toNat := uf_par 8388608 0 (by omega) (-149) (x % 2147483648) (by omega)
  have e1 : pM 32 x = parM 8388608 (x % 2147483648) := by unfold pM; rw [hf]; simp
  have e2 : pE 32 x = parE 8388608 (-149) (x % 2147483648) := by unfold pE; rw [hf]; simp
  have e3 : (-149) ≤ parE 8388608 (-149) (x % 2147483648) ∧ parE 8388608 (-149) (x % 2147483648) ≤ (-149) + 254 := by unfold parE; split <;> omega
  have e4 : (parM 8388608 (x % 2147483648)).toNat < 2 ^ 24 := by
    have := par_bd (L := 8388608) (y := x % 2147483648) (by omega) (by decide)
    have h2 : (2 : Nat) ^ 24 = 2 * 8388608 := by decide
    omega
  rw [e1, e2]
  refine ⟨?_, e3.1, e3.2, (Nm.bl_le_iff _ _).2 e4⟩
  rw [← hu]
  unfold Nm.sh
  rw [if_neg (by omega)]
theorem pM_uf64 {x : Int} (h0 : 0 ≤ x) (h1 : x < 18446744073709551616) (hf : finB 64 x = true) :
    (pM 64 x).toNat * 2 ^ (pE 64 x - (-1074)).toNat = uf 4503599627370496 (x % 9223372036854775808).toNat ∧ (-1074) ≤ pE 64 x ∧ pE 64 x ≤ (-1074) + 2046 ∧ bitLen (pM 64 x).toNat ≤ 53 := by
  have hlt := fin_lt64 h0 h1 hf
  have hu : Nm.sh (parM 4503599627370496 (x % 9223372036854775808)).toNat (parE 4503599627370496 (-1074) (x % 9223372036854775808) - (-1074)) = uf 4503599627370496 (x % 9223372036854775808).toNat := uf_par 4503599627370496 0 (by omega) (-1074) (x % 9223372036854775808) (by omega)
  have e1 : pM 64 x = parM 4503599627370496 (x % 9223372036854775808) := by unfold pM; rw [hf]; simp
  have e2 : pE 64 x = parE 4503599627370496 (-1074) (x % 9223372036854775808) := by unfold pE; rw [hf]; simp
  have e3 : (-1074) ≤ parE 4503599627370496 (-1074) (x % 9223372036854775808) ∧ parE 4503599627370496 (-1074) (x % 9223372036854775808) ≤ (-1074) + 2046 := by unfold parE; split <;> omega
  have e4 : (parM 4503599627370496 (x % 9223372036854775808)).toNat < 2 ^ 53 := by
    have := par_bd (L := 4503599627370496) (y := x % 9223372036854775808) (by omega) (by decide)
    have h2 : (2 : Nat) ^ 53 = 2 * 4503599627370496 := by decide
    omega
  rw [e1, e2]
  refine ⟨?_, e3.1, e3.2, (Nm.bl_le_iff _ _).2 e4⟩
  rw [← hu]
  unfold Nm.sh
  rw [if_neg (by omega)]
theorem drawOk_any (ca : Option Addr) (cc : Nat) (cs : List Int) (w : World) (hs : Sl .u8 w (.slice ca cs.length cc) cs) (hby : ∀ i, 0 ≤ cs.getD i 0 ∧ cs.getD i 0 ≤ 255) (hl : cs.length ≤ 1048576) :
    Calls Tryz.prog 125 #[.slice ca cs.length cc] w fun e w' => ∃ fm x : Int, e = .returned (.tuple #[.int .i64 fm, .int .u64 x]) ∧ 0 ≤ x ∧ x < 18446744073709551616 ∧ Below w.heap.size w w' := by
  go_enter Tryz.func125, Tryz.ntmps125
  go_wp2_with fail
  refine (open_any ca cc cs _ hs hby hl).mono ?_
  rintro e w1 ⟨rfl, hr1, hb1⟩
  go_wp2_with fail
  refine (some_any w.heap.size ca cc cs _ hr1).mono ?_
  rintro e w2 ⟨fm, x, rfl, x0, x1, hr2, hg2⟩
  go_wp2
  go_ret2
  exact ⟨_, _, rfl, x0, x1, bel_rd hb1 hg2 (Nat.le_refl _)⟩
theorem iAbsolute (fm x : Int) (w : World) (hT : Tab w) (x0 : 0 ≤ x) (x1 : x < 18446744073709551616) :
    Calls Tryz.prog 51 #[.int .i64 fm, .int .u64 x] w fun e w' => e = .returned (.int .u64 (absF fm x)) ∧ Below w.heap.size w w' := by
  cases ho : okF fm x
  · have C := hid (fun w' h => impl_ok fm x w' h x0 x1)
    have HR := hid (abs_no ho)
    rw [ho] at C
    clear ho
    go_enter Tryz.func51, Tryz.ntmps51
    go_wp2_with fail
    refine (C.out _ hT).mono ?_
    rintro e w1 ⟨rfl, hb1⟩
    go_wp2
    go_ret
    exact ⟨ret_int HR.out.symm, (by repeat (first | exact bz0 _ _ | refine bz1 ?_ | refine bz2 ?_ _ | refine bz3 ?_ _ | refine bz4 ?_ hb1 | refine bz5 ?_ _ | refine bz6 ?_ _ | refine bz7 ?_ hb1))⟩
  · rcases okF_cases ho with ⟨rfl, h⟩ | rfl
    · rw [abs32 h]; exact impl_abs32 x w hT x0 h
    · rw [abs64]; exact impl_abs64 x w hT x0 x1
theorem mul_pow_lt {m N P : Nat} (h : m < 2 ^ (N + 1)) (hN : N ≤ P) : m * 2 ^ (P - N) < 2 ^ (P + 1) := by
  have h1 : 2 ^ (P + 1) = 2 ^ (N + 1) * 2 ^ (P - N) := by rw [← Nat.pow_add]; congr 1; omega
  rw [h1]
  exact Nat.mul_lt_mul_of_pos_right h (Nat.two_pow_pos _)
theorem mul_pow_ge {m N P : Nat} (h : 2 ^ N ≤ m) (hN : N ≤ P) : 2 ^ P ≤ m * 2 ^ (P - N) := by
  have h1 : 2 ^ P = 2 ^ N * 2 ^ (P - N) := by rw [← Nat.pow_add]; congr 1; omega
  rw [h1]
  exact Nat.mul_le_mul_right _ h
/-- A float's head between 1 and 2. -/
theorem spl32 {x : Int} (x0 : 0 ≤ x) (x1 : x < 4294967296) (h : spO 32 x = true) : ∃ m : Nat, 8388608 ≤ m ∧ m < 2 * 8388608 ∧ spB 32 x = sgn 2147483648 ((m + 126 * 8388608 : Nat) : Int) (pS 32 x) ∧ ValF 32 (spB 32 x) (nZ 32 x) (-spN 32 x) := by
  have h' := h
  unfold spO at h'
  simp only [Bool.and_eq_true, Bool.not_eq_true', decide_eq_false_iff_not] at h'
  obtain ⟨hf, hM⟩ := h'
  obtain ⟨n0, n1⟩ := spN_bd hM
  obtain ⟨m0, m1⟩ := pM_bd 32 x
  have hok := fin_ok hf
  obtain ⟨M, hMe⟩ : ∃ M, M = (pM 32 x).toNat := ⟨_, rfl⟩
  obtain ⟨N, hN⟩ : ∃ N : Nat, (N : Int) = spN 32 x := ⟨(spN 32 x).toNat, by omega⟩
  have hM0 : M ≠ 0 := by omega
  have hbl : bitLen M = N + 1 := by have : spN 32 x = (bitLen (pM 32 x).toNat : Nat) - 1 := rfl; rw [← hMe] at this; omega
  have hlt : M < 2 ^ (N + 1) := (Nm.bl_le_iff M (N + 1)).1 (by omega)
  have hge : 2 ^ N ≤ M := by
    rcases Nat.lt_or_ge M (2 ^ N) with hc | hc
    · have := (Nm.bl_le_iff M N).2 hc; omega
    · exact hc
  have hNp : N ≤ 23 := by
    have := (pM_uf32 x0 x1 hf).2.2.2
    rw [← hMe] at this
    omega
  have hml := mul_pow_lt (P := 23) hlt hNp
  have hmg := mul_pow_ge (P := 23) hge hNp
  obtain ⟨m, hm⟩ : ∃ m, m = M * 2 ^ (23 - N) := ⟨_, rfl⟩
  rw [← hm] at hml hmg
  have hL : (2 : Nat) ^ 23 = 8388608 := by decide
  have hL2 : (2 : Nat) ^ (23 + 1) = 2 * 8388608 := by decide
  have hL3 : (2 : Nat) ^ (24 - 1) = 8388608 := by decide
  rw [hL2] at hml
  rw [hL] at hmg
  obtain ⟨K, hK⟩ : ∃ K : Nat, K = 126 := ⟨_, rfl⟩
  obtain ⟨f1, f2, f3⟩ := Nm.flb_mk (P := 24) (m := m) (k := K) (by decide) (by rw [show (2 : Nat) ^ 24 = 2 * 8388608 by decide]; exact hml) (fun _ => by rw [hL3]; exact hmg)
  rw [hL3] at f1
  have hflo : Nm.flo 24 2139095040 (m * 2 ^ K) = true := by
    unfold Nm.flo
    rw [f3, f2, f1]
    simp only [Bool.and_eq_true, decide_eq_true_eq]
    refine ⟨⟨by omega, trivial⟩, by rw [hK]; omega⟩
  have hu := flb_uf 24 2139095040 (m * 2 ^ K) (by decide) hflo
  rw [f1, hL3] at hu
  have eK : m + K * 8388608 = m + 126 * 8388608 := by rw [hK]
  rw [eK] at hu f1
  have hv : m + 126 * 8388608 < 2139095040 := by omega
  obtain ⟨u1, u2, u3, u4⟩ := unSg32 hv (pS 32 x)
  obtain ⟨y, hy⟩ : ∃ y, y = sgn 2147483648 ((m + 126 * 8388608 : Nat) : Int) (pS 32 x) := ⟨_, rfl⟩
  rw [← hy] at u1 u2 u3 u4
  rw [hu] at u4
  -- M times 2 to the -N
  have hz : nZ 32 x = if pS 32 x then -(M : Int) else M := by
    unfold nZ; rw [if_pos hf]; have : pM 32 x = M := by omega
    rw [this]
  have hz0 : nZ 32 x ≠ 0 := by rw [hz]; split <;> omega
  have hval : ValF 32 y (nZ 32 x) (-spN 32 x) := by
    unfold ValF
    have hq : unQ 32 = (-149) := rfl
    rw [hq, show min (-spN 32 x) (-149) = (-149) by omega, u4, hz, ← hN]
    have e1 : ((-149) - (-149) : Int).toNat = 0 := by decide
    rw [e1]
    have e2 : m * 2 ^ K = M * 2 ^ (-(N : Int) - (-149)).toNat := by
      have e0 : 23 - N + K = (-(N : Int) - (-149)).toNat := by omega
      rw [hm, Nat.mul_assoc, ← Nat.pow_add, e0]
    rw [e2]
    have e3 : ((M * 2 ^ (-(N : Int) - (-149)).toNat : Nat) : Int) = (M : Int) * 2 ^ (-(N : Int) - (-149)).toNat := by rw [Int.natCast_mul]; congr 1
    rw [e3]
    cases pS 32 x <;> simp [Int.neg_mul]
  have hfm : fmtB 32 = true := by decide
  have hRO := rdo_any (fm := 32) (mode := 1) (z := nZ 32 x) (e := -spN 32 x) hfm (by decide) (nZ_len 32 x) (by omega) (by omega)
  have hr := RdV_32 u1 u2 u3 1 (nZ 32 x) (-spN 32 x) (by decide) hRO hz0 hval
  have hef := ef_fp (fm := 32) hfm (pS 32 x) hM0 (by omega) (E := -spN 32 x) (by omega) (by omega)
  have hwl : Nm.wl (nZ 32 x) = Nm.lim M := by
    have e0 : (nZ 32 x).natAbs = M := by rw [hz]; split <;> omega
    unfold Nm.wl; rw [e0]
  have hwn : Nm.wn (nZ 32 x) = pS 32 x := by
    unfold Nm.wn; rw [hz]; cases pS 32 x
    · simp
    · simp; omega
  rw [hwl, hwn] at hr hRO
  have hEO : EfO 32 (pS 32 x) (Nm.lim M) (-spN 32 x) = true := by unfold EfO; rw [hRO, hr.2]; rfl
  have hEB : EfB 32 (pS 32 x) (Nm.lim M) (-spN 32 x) = y := by unfold EfB; rw [hEO, if_pos rfl]; exact hr.1
  have hsp : spB 32 x = y := by
    unfold spB; rw [h, if_pos rfl, ← hEB, hef.1]
    have : pM 32 x = ((M : Nat) : Int) := by omega
    rw [this]
  refine ⟨m, hmg, hml, by rw [hsp, hy], by rw [hsp]; exact hval⟩
/-- A float's head between 1 and 2. -/
theorem spl64 {x : Int} (x0 : 0 ≤ x) (x1 : x < 18446744073709551616) (h : spO 64 x = true) : ∃ m : Nat, 4503599627370496 ≤ m ∧ m < 2 * 4503599627370496 ∧ spB 64 x = sgn 9223372036854775808 ((m + 1022 * 4503599627370496 : Nat) : Int) (pS 64 x) ∧ ValF 64 (spB 64 x) (nZ 64 x) (-spN 64 x) := by
  have h' := h
  unfold spO at h'
  simp only [Bool.and_eq_true, Bool.not_eq_true', decide_eq_false_iff_not] at h'
  obtain ⟨hf, hM⟩ := h'
  obtain ⟨n0, n1⟩ := spN_bd hM
  obtain ⟨m0, m1⟩ := pM_bd 64 x
  have hok := fin_ok hf
  obtain ⟨M, hMe⟩ : ∃ M, M = (pM 64 x).toNat := ⟨_, rfl⟩
  obtain ⟨N, hN⟩ : ∃ N : Nat, (N : Int) = spN 64 x := ⟨(spN 64 x).toNat, by omega⟩
  have hM0 : M ≠ 0 := by omega
  have hbl : bitLen M = N + 1 := by have : spN 64 x = (bitLen (pM 64 x).toNat : Nat) - 1 := rfl; rw [← hMe] at this; omega
  have hlt : M < 2 ^ (N + 1) := (Nm.bl_le_iff M (N + 1)).1 (by omega)
  have hge : 2 ^ N ≤ M := by
    rcases Nat.lt_or_ge M (2 ^ N) with hc | hc
    · have := (Nm.bl_le_iff M N).2 hc; omega
    · exact hc
  have hNp : N ≤ 52 := by
    have := (pM_uf64 x0 x1 hf).2.2.2
    rw [← hMe] at this
    omega
  have hml := mul_pow_lt (P := 52) hlt hNp
  have hmg := mul_pow_ge (P := 52) hge hNp
  obtain ⟨m, hm⟩ : ∃ m, m = M * 2 ^ (52 - N) := ⟨_, rfl⟩
  rw [← hm] at hml hmg
  have hL : (2 : Nat) ^ 52 = 4503599627370496 := by decide
  have hL2 : (2 : Nat) ^ (52 + 1) = 2 * 4503599627370496 := by decide
  have hL3 : (2 : Nat) ^ (53 - 1) = 4503599627370496 := by decide
  rw [hL2] at hml
  rw [hL] at hmg
  obtain ⟨K, hK⟩ : ∃ K : Nat, K = 1022 := ⟨_, rfl⟩
  obtain ⟨f1, f2, f3⟩ := Nm.flb_mk (P := 53) (m := m) (k := K) (by decide) (by rw [show (2 : Nat) ^ 53 = 2 * 4503599627370496 by decide]; exact hml) (fun _ => by rw [hL3]; exact hmg)
  rw [hL3] at f1
  have hflo : Nm.flo 53 9218868437227405312 (m * 2 ^ K) = true := by
    unfold Nm.flo
    rw [f3, f2, f1]
    simp only [Bool.and_eq_true, decide_eq_true_eq]
    refine ⟨⟨by omega, trivial⟩, by rw [hK]; omega⟩
  have hu := flb_uf 53 9218868437227405312 (m * 2 ^ K) (by decide) hflo
  rw [f1, hL3] at hu
  have eK : m + K * 4503599627370496 = m + 1022 * 4503599627370496 := by rw [hK]
  rw [eK] at hu f1
  have hv : m + 1022 * 4503599627370496 < 9218868437227405312 := by omega
  obtain ⟨u1, u2, u3, u4⟩ := unSg64 hv (pS 64 x)
  obtain ⟨y, hy⟩ : ∃ y, y = sgn 9223372036854775808 ((m + 1022 * 4503599627370496 : Nat) : Int) (pS 64 x) := ⟨_, rfl⟩
  rw [← hy] at u1 u2 u3 u4
  rw [hu] at u4
  -- M times 2 to the -N
  have hz : nZ 64 x = if pS 64 x then -(M : Int) else M := by
    unfold nZ; rw [if_pos hf]; have : pM 64 x = M := by omega
    rw [this]
  have hz0 : nZ 64 x ≠ 0 := by rw [hz]; split <;> omega
  have hval : ValF 64 y (nZ 64 x) (-spN 64 x) := by
    unfold ValF
    have hq : unQ 64 = (-1074) := rfl
    rw [hq, show min (-spN 64 x) (-1074) = (-1074) by omega, u4, hz, ← hN]
    have e1 : ((-1074) - (-1074) : Int).toNat = 0 := by decide
    rw [e1]
    have e2 : m * 2 ^ K = M * 2 ^ (-(N : Int) - (-1074)).toNat := by
      have e0 : 52 - N + K = (-(N : Int) - (-1074)).toNat := by omega
      rw [hm, Nat.mul_assoc, ← Nat.pow_add, e0]
    rw [e2]
    have e3 : ((M * 2 ^ (-(N : Int) - (-1074)).toNat : Nat) : Int) = (M : Int) * 2 ^ (-(N : Int) - (-1074)).toNat := by rw [Int.natCast_mul]; congr 1
    rw [e3]
    cases pS 64 x <;> simp [Int.neg_mul]
  have hfm : fmtB 64 = true := by decide
  have hRO := rdo_any (fm := 64) (mode := 1) (z := nZ 64 x) (e := -spN 64 x) hfm (by decide) (nZ_len 64 x) (by omega) (by omega)
  have hr := RdV_64 u1 u2 u3 1 (nZ 64 x) (-spN 64 x) (by decide) hRO hz0 hval
  have hef := ef_fp (fm := 64) hfm (pS 64 x) hM0 (by omega) (E := -spN 64 x) (by omega) (by omega)
  have hwl : Nm.wl (nZ 64 x) = Nm.lim M := by
    have e0 : (nZ 64 x).natAbs = M := by rw [hz]; split <;> omega
    unfold Nm.wl; rw [e0]
  have hwn : Nm.wn (nZ 64 x) = pS 64 x := by
    unfold Nm.wn; rw [hz]; cases pS 64 x
    · simp
    · simp; omega
  rw [hwl, hwn] at hr hRO
  have hEO : EfO 64 (pS 64 x) (Nm.lim M) (-spN 64 x) = true := by unfold EfO; rw [hRO, hr.2]; rfl
  have hEB : EfB 64 (pS 64 x) (Nm.lim M) (-spN 64 x) = y := by unfold EfB; rw [hEO, if_pos rfl]; exact hr.1
  have hsp : spB 64 x = y := by
    unfold spB; rw [h, if_pos rfl, ← hEB, hef.1]
    have : pM 64 x = ((M : Nat) : Int) := by omega
    rw [this]
  refine ⟨m, hmg, hml, by rw [hsp, hy], by rw [hsp]; exact hval⟩
/-- How a head between 1 and 2 is compared. -/
theorem cmp_head32 {v : Int} (h0 : 0 ≤ v) (h1 : v < 4294967296) (ha : absF 32 v = absF 32 v) (hv0 : 1065353216 ≤ v % 2147483648) (hv1 : v % 2147483648 < 1073741824) : 0 ≤ cmpF 32 (absF 32 v) 1065353216 ∧ cmpF 32 (absF 32 v) 1073741824 = -1 := by
  have e : absF 32 v = v % 2147483648 := by rw [ab32 h0 h1]; split <;> omega
  rw [e]
  have nb : ∀ y : Int, 1065353216 ≤ y → y ≤ 1073741824 → numB 32 y = true ∧ (cls 32 y == 0) = false ∧ ordI 32 y = y := fun y y0 y1 => by
    have h1 : y < 4294967296 := by omega
    have hc : cls 32 y = 2 := by
      rw [cls32 h1]; unfold clsY
      repeat' split
      all_goals omega
    refine ⟨by unfold numB; rw [hc]; decide, by rw [hc]; rfl, ?_⟩
    rw [od32 (by omega) (by omega), if_pos (by omega)]
  obtain ⟨a1, a2, a3⟩ := nb (v % 2147483648) hv0 (by omega)
  obtain ⟨b1, b2, b3⟩ := nb 1065353216 (by decide) (by decide)
  obtain ⟨c1, c2, c3⟩ := nb 1073741824 (by decide) (by decide)
  unfold cmpF
  rw [a1, a2, a3, b1, b3, c1, c3]
  simp only [Bool.and_self, if_true, Bool.false_and, Bool.false_eq_true, if_false]
  unfold cmpI
  constructor
  · split
    · omega
    · split <;> decide
  · rw [if_pos hv1]
/-- What is split is scaled back. -/
theorem sp_main32 {x : Int} (x0 : 0 ≤ x) (x1 : x < 4294967296) (h : spO 32 x = true) :
    0 ≤ spB 32 x ∧ spB 32 x < 4294967296 ∧ scO 32 0 (spB 32 x) (spE 32 x) = true ∧ scB 32 0 (spB 32 x) (spE 32 x) = x ∧ scF 32 0 (spB 32 x) (spE 32 x) = 0 ∧ 0 ≤ cmpF 32 (absF 32 (spB 32 x)) 1065353216 ∧ cmpF 32 (absF 32 (spB 32 x)) 1073741824 = -1 := by
  obtain ⟨m, m0, m1, hb, hv⟩ := spl32 x0 x1 h
  have h' := h
  unfold spO at h'
  simp only [Bool.and_eq_true, Bool.not_eq_true', decide_eq_false_iff_not] at h'
  obtain ⟨hf, hM⟩ := h'
  obtain ⟨n0, n1⟩ := spN_bd hM
  have hok := fin_ok hf
  obtain ⟨y0, y1, yf, -⟩ := unSg32 (v := m + 126 * 8388608) (by omega) (pS 32 x)
  rw [← hb] at y0 y1 yf
  have hmod : spB 32 x % 2147483648 = (m : Int) + 126 * 8388608 := by
    rw [hb]; unfold sgn; split <;> omega
  obtain ⟨c1, c2⟩ := cmp_head32 y0 y1 rfl (by omega) (by omega)
  have yok := fin_ok yf
  have hz : nZ 32 x ≠ 0 := by unfold nZ; rw [if_pos hf]; split <;> omega
  have uy := un_nZ yok yf
  have ux := un_nZ hok hf
  have hE : spE 32 x = nE 32 x + spN 32 x := by unfold spE nE; rw [h, if_pos rfl, if_pos hf]
  unfold ValF at hv
  have huy : unI 32 (spB 32 x) ≠ 0 := fun h => hz ((sgn_same (pw_i _) (pw_i _) hv).2.1 h)
  have hy0 : nZ 32 (spB 32 x) ≠ 0 := fun h => huy (by rw [uy, h, Int.zero_mul])
  obtain ⟨-, e0, e1⟩ := nZ_bd 32 x
  obtain ⟨-, f0, f1⟩ := nZ_bd 32 (spB 32 x)
  have hv2 : unI 32 (spB 32 x) * 2 ^ (unQ 32 - min (nE 32 x + (-spN 32 x - nE 32 x)) (unQ 32)).toNat = nZ 32 x * 2 ^ (nE 32 x + (-spN 32 x - nE 32 x) - min (nE 32 x + (-spN 32 x - nE 32 x)) (unQ 32)).toNat := by
    rw [show nE 32 x + (-spN 32 x - nE 32 x) = -spN 32 x by omega]; exact hv
  have hb2 := val_back (A := 0) (B := 0) ux uy (nE_q hf) (nE_q yf) hv2
  rw [show nE 32 (spB 32 x) - (-spN 32 x - nE 32 x) = nE 32 (spB 32 x) + spE 32 x by rw [hE]; omega] at hb2
  have hRO := rdo_any (fm := 32) (mode := 0) (z := nZ 32 (spB 32 x)) (e := nE 32 (spB 32 x) + spE 32 x) (by decide) (by decide) (nZ_len _ _) (by rw [hE]; omega) (by rw [hE]; omega)
  have hr := RdV_32 x0 x1 hf 0 (nZ 32 (spB 32 x)) (nE 32 (spB 32 x) + spE 32 x) (by decide) hRO hy0 hb2
  obtain ⟨-, iy, -, -, ny, -⟩ := fin_facts yok yf
  have zy : zF 32 (spB 32 x) = false := by rw [zF_fin yok yf, decide_eq_false hy0]
  have hO : scO 32 0 (spB 32 x) (spE 32 x) = true := by
    unfold scO inB; rw [yok, hE]; simp; exact ⟨by decide, by omega, by omega⟩
  refine ⟨y0, y1, hO, ?_, ?_, c1, c2⟩
  · unfold scB; rw [hO, if_pos rfl, ny, iy, zy]; simp only [Bool.false_eq_true, if_false, Bool.or_self]; exact hr.1
  · unfold scF; rw [hO, if_pos rfl, ny, iy, zy]; simp only [Bool.false_eq_true, if_false, Bool.or_self]; exact hr.2
/-- How a head between 1 and 2 is compared. -/
theorem cmp_head64 {v : Int} (h0 : 0 ≤ v) (h1 : v < 18446744073709551616) (ha : absF 64 v = absF 64 v) (hv0 : 4607182418800017408 ≤ v % 9223372036854775808) (hv1 : v % 9223372036854775808 < 4611686018427387904) : 0 ≤ cmpF 64 (absF 64 v) 4607182418800017408 ∧ cmpF 64 (absF 64 v) 4611686018427387904 = -1 := by
  have e : absF 64 v = v % 9223372036854775808 := by rw [ab64 h0 h1]; split <;> omega
  rw [e]
  have nb : ∀ y : Int, 4607182418800017408 ≤ y → y ≤ 4611686018427387904 → numB 64 y = true ∧ (cls 64 y == 0) = false ∧ ordI 64 y = y := fun y y0 y1 => by
    have h1 : y < 18446744073709551616 := by omega
    have hc : cls 64 y = 2 := by
      rw [cls64 ]; unfold clsY
      repeat' split
      all_goals omega
    refine ⟨by unfold numB; rw [hc]; decide, by rw [hc]; rfl, ?_⟩
    rw [od64 (by omega) (by omega), if_pos (by omega)]
  obtain ⟨a1, a2, a3⟩ := nb (v % 9223372036854775808) hv0 (by omega)
  obtain ⟨b1, b2, b3⟩ := nb 4607182418800017408 (by decide) (by decide)
  obtain ⟨c1, c2, c3⟩ := nb 4611686018427387904 (by decide) (by decide)
  unfold cmpF
  rw [a1, a2, a3, b1, b3, c1, c3]
  simp only [Bool.and_self, if_true, Bool.false_and, Bool.false_eq_true, if_false]
  unfold cmpI
  constructor
  · split
    · omega
    · split <;> decide
  · rw [if_pos hv1]
/-- What is split is scaled back. -/
theorem sp_main64 {x : Int} (x0 : 0 ≤ x) (x1 : x < 18446744073709551616) (h : spO 64 x = true) :
    0 ≤ spB 64 x ∧ spB 64 x < 18446744073709551616 ∧ scO 64 0 (spB 64 x) (spE 64 x) = true ∧ scB 64 0 (spB 64 x) (spE 64 x) = x ∧ scF 64 0 (spB 64 x) (spE 64 x) = 0 ∧ 0 ≤ cmpF 64 (absF 64 (spB 64 x)) 4607182418800017408 ∧ cmpF 64 (absF 64 (spB 64 x)) 4611686018427387904 = -1 := by
  obtain ⟨m, m0, m1, hb, hv⟩ := spl64 x0 x1 h
  have h' := h
  unfold spO at h'
  simp only [Bool.and_eq_true, Bool.not_eq_true', decide_eq_false_iff_not] at h'
  obtain ⟨hf, hM⟩ := h'
  obtain ⟨n0, n1⟩ := spN_bd hM
  have hok := fin_ok hf
  obtain ⟨y0, y1, yf, -⟩ := unSg64 (v := m + 1022 * 4503599627370496) (by omega) (pS 64 x)
  rw [← hb] at y0 y1 yf
  have hmod : spB 64 x % 9223372036854775808 = (m : Int) + 1022 * 4503599627370496 := by
    rw [hb]; unfold sgn; split <;> omega
  obtain ⟨c1, c2⟩ := cmp_head64 y0 y1 rfl (by omega) (by omega)
  have yok := fin_ok yf
  have hz : nZ 64 x ≠ 0 := by unfold nZ; rw [if_pos hf]; split <;> omega
  have uy := un_nZ yok yf
  have ux := un_nZ hok hf
  have hE : spE 64 x = nE 64 x + spN 64 x := by unfold spE nE; rw [h, if_pos rfl, if_pos hf]
  unfold ValF at hv
  have huy : unI 64 (spB 64 x) ≠ 0 := fun h => hz ((sgn_same (pw_i _) (pw_i _) hv).2.1 h)
  have hy0 : nZ 64 (spB 64 x) ≠ 0 := fun h => huy (by rw [uy, h, Int.zero_mul])
  obtain ⟨-, e0, e1⟩ := nZ_bd 64 x
  obtain ⟨-, f0, f1⟩ := nZ_bd 64 (spB 64 x)
  have hv2 : unI 64 (spB 64 x) * 2 ^ (unQ 64 - min (nE 64 x + (-spN 64 x - nE 64 x)) (unQ 64)).toNat = nZ 64 x * 2 ^ (nE 64 x + (-spN 64 x - nE 64 x) - min (nE 64 x + (-spN 64 x - nE 64 x)) (unQ 64)).toNat := by
    rw [show nE 64 x + (-spN 64 x - nE 64 x) = -spN 64 x by omega]; exact hv
  have hb2 := val_back (A := 0) (B := 0) ux uy (nE_q hf) (nE_q yf) hv2
  rw [show nE 64 (spB 64 x) - (-spN 64 x - nE 64 x) = nE 64 (spB 64 x) + spE 64 x by rw [hE]; omega] at hb2
  have hRO := rdo_any (fm := 64) (mode := 0) (z := nZ 64 (spB 64 x)) (e := nE 64 (spB 64 x) + spE 64 x) (by decide) (by decide) (nZ_len _ _) (by rw [hE]; omega) (by rw [hE]; omega)
  have hr := RdV_64 x0 x1 hf 0 (nZ 64 (spB 64 x)) (nE 64 (spB 64 x) + spE 64 x) (by decide) hRO hy0 hb2
  obtain ⟨-, iy, -, -, ny, -⟩ := fin_facts yok yf
  have zy : zF 64 (spB 64 x) = false := by rw [zF_fin yok yf, decide_eq_false hy0]
  have hO : scO 64 0 (spB 64 x) (spE 64 x) = true := by
    unfold scO inB; rw [yok, hE]; simp; exact ⟨by decide, by omega, by omega⟩
  refine ⟨y0, y1, hO, ?_, ?_, c1, c2⟩
  · unfold scB; rw [hO, if_pos rfl, ny, iy, zy]; simp only [Bool.false_eq_true, if_false, Bool.or_self]; exact hr.1
  · unfold scF; rw [hO, if_pos rfl, ny, iy, zy]; simp only [Bool.false_eq_true, if_false, Bool.or_self]; exact hr.2
theorem fin_x32 {x : Int} (hf : finB 32 x = true) : x < 4294967296 := by
  have := fin_ok hf; unfold okF at this; simpa using this
theorem drawSplit_x (ca : Option Addr) (cc : Nat) (cs : List Int) (w : World) (hs : Sl .u8 w (.slice ca cs.length cc) cs) (hby : ∀ i, 0 ≤ cs.getD i 0 ∧ cs.getD i 0 ≤ 255) (hl : cs.length ≤ 1048576) :
    Calls Tryz.prog 46 #[.slice ca cs.length cc] w fun e w' => ∃ fm x : Int, e = .returned (.tuple #[.int .i64 fm, .int .u64 x]) ∧ 0 ≤ x ∧ x < 18446744073709551616 ∧ Below w.heap.size w w' := by
  go_enter Tryz.func46, Tryz.ntmps46
  go_wp2_with fail
  refine (drawOk_any ca cc cs _ hs hby hl).mono ?_
  rintro e w1 ⟨fm, x, rfl, x0, x1, hb1⟩
  go_wp2
  go_ret2
  exact ⟨_, _, rfl, x0, x1, hb1⟩
theorem splaw (ca : Option Addr) (cc : Nat) (cs : List Int) (w : World) (hT : EX3 w) (hs : Sl .u8 w (.slice ca cs.length cc) cs) (hby : ∀ i, 0 ≤ cs.getD i 0 ∧ cs.getD i 0 ≤ 255) (hl : cs.length ≤ 1048576) :
    Calls Tryz.prog 11 #[.slice ca cs.length cc] w fun e w' => e = .returned (.bool true) ∧ Below w.heap.size w w' := by
  go_enter Tryz.func11, Tryz.ntmps11
  go_wp2_with fail
  refine (big_any ca cs.length cc _ (by omega) false (by simp; omega)).mono ?_
  rintro r w0 ⟨rfl, rfl⟩
  go_wp2_with fail
  refine (drawSplit_x ca cc cs _ hs hby hl).mono ?_
  rintro r w1 ⟨fm, x, rfl, x0, x1, bel⟩
  obtain ⟨u, T⟩ := hT.below bel
  clear hs hby hl hT
  have SI := hid (fun w' h => split_impl fm x w' h x0 x1)
  have SS := hid (fun w' => split_spec fm x w' x0 x1)
  have O1 := hid (fun w' => wof_impl 1 w' (by decide) (by decide))
  have O2 := hid (fun w' => wof_impl 2 w' (by decide) (by decide))
  have l1 : Nm.wl 1 = [1] := by decide +kernel
  have l2 : Nm.wl 2 = [2] := by decide +kernel
  have g1 : Nm.wn 1 = false := by decide
  have g2 : Nm.wn 2 = false := by decide
  rw [l1, g1] at O1
  rw [l2, g2] at O2
  have d1 : Nm.Dg [1] := by rw [← l1]; exact Nm.wl_dg _
  have d2 : Nm.Dg [2] := by rw [← l2]; exact Nm.wl_dg _
  have E1 := hid (fun p c w' h h' => exact_impl fm false [1] 0 p c w' h h' d1 (by decide))
  have E2 := hid (fun p c w' h h' => exact_impl fm false [2] 0 p c w' h h' d2 (by decide))
  have SC := hid (fun w' h (h0 : 0 ≤ spB fm x) (h1 : spB fm x < 18446744073709551616) => sci_all fm 0 (spB fm x) (spE fm x) u w' h h0 h1 _ _ _ rfl rfl rfl)
  have AB := hid (fun w' h (h0 : 0 ≤ spB fm x) (h1 : spB fm x < 18446744073709551616) => iAbsolute fm (spB fm x) w' h h0 h1)
  have CP := hid (fun w' h y (a0 : 0 ≤ absF fm (spB fm x)) (a1 : absF fm (spB fm x) < 18446744073709551616) (y0 : 0 ≤ y) (y1 : y < 18446744073709551616) => impl_cmp fm (absF fm (spB fm x)) y w' h a0 a1 y0 y1)
  have AD := hid (abs_bd (fm := fm) (x := spB fm x))
  have MN : spO fm x = true → (fm = 32 ∧ x < 4294967296) ∨ fm = 64 := fun h => by
    have hf : finB fm x = true := by unfold spO at h; simp at h; exact h.1
    rcases fmt_cases (fin_fmt hf) with rfl | rfl
    · exact .inl ⟨rfl, fin_x32 hf⟩
    · exact .inr rfl
  cases hO : spO fm x
  · rw [hO] at SI SS
    clear MN SC AB CP AD E1 E2 O1 O2
    obtain ⟨B, h_B⟩ : ∃ q, q = spB fm x := ⟨_, rfl⟩
    obtain ⟨E, h_E⟩ : ∃ q, q = spE fm x := ⟨_, rfl⟩
    rw [← h_B, ← h_E] at SI SS
    clear h_B h_E hO
    have ne_B : (B != B) = false := by simp
    have eq_B : (B == B) = true := by simp
    have ne_E : (E != E) = false := by simp
    have eq_E : (E == E) = true := by simp
    go_wp2_with fail
    refine (SI.out _ T.t.s).mono ?_
    rintro r w2 ⟨rfl, hb⟩
    replace bel := bel_go bel hb
    replace T := T.below hb
    clear hb
    go_wp2_with fail
    refine (SS.out _).mono ?_
    rintro r w3 ⟨rfl, hb⟩
    replace bel := bel_go bel hb
    replace T := T.below hb
    clear hb
    go_wp2
    all_goals go_ret
    all_goals exact ⟨rfl, bel⟩
  · rw [hO] at SI SS
    rcases MN hO with ⟨rfl, hx⟩ | rfl
    · obtain ⟨y0, y1, k1, k2, k3, k4, k5⟩ := sp_main32 x0 (by omega) hO
      have y1' : spB 32 x < 18446744073709551616 := by omega
      have e1 : EfB 32 false [1] 0 = 1065353216 := by decide +kernel
      have e2 : EfB 32 false [2] 0 = 1073741824 := by decide +kernel
      rw [e1] at E1
      rw [e2] at E2
      have SC := hid (fun w' h => SC.out w' h y0 y1')
      have AB := hid (fun w' h => AB.out w' h y0 y1')
      have ad := AD.out y0
      have C1 := hid (fun w' h => CP.out w' h 1065353216 ad.1 (by omega) (by decide) (by decide))
      have C2 := hid (fun w' h => CP.out w' h 1073741824 ad.1 (by omega) (by decide) (by decide))
      rw [k1, k2, k3] at SC
      rw [k5] at C2
      clear MN CP AD ad k1 k2 k3 k5 y0 y1 y1' hO e1 e2
      obtain ⟨B, h_B⟩ : ∃ q, q = spB 32 x := ⟨_, rfl⟩
      obtain ⟨E, h_E⟩ : ∃ q, q = spE 32 x := ⟨_, rfl⟩
      obtain ⟨A, h_A⟩ : ∃ q, q = absF 32 (spB 32 x) := ⟨_, rfl⟩
      rw [← h_A] at C1 C2 AB k4
      rw [← h_B] at AB
      rw [← h_B, ← h_E] at SI SS SC
      clear h_B h_E h_A
      obtain ⟨c1, h_c1⟩ : ∃ q, q = cmpF 32 A 1065353216 := ⟨_, rfl⟩
      obtain ⟨f1, h_f1⟩ : ∃ q, q = EfO 32 false [1] 0 := ⟨_, rfl⟩
      obtain ⟨f2, h_f2⟩ : ∃ q, q = EfO 32 false [2] 0 := ⟨_, rfl⟩
      rw [← h_c1] at C1 k4
      rw [← h_f1] at E1
      rw [← h_f2] at E2
      clear h_c1 h_f1 h_f2
      have k4' : decide (0 ≤ c1) = true := decide_eq_true k4
      have eqx : (x == x) = true := by simp
      have ne_B : (B != B) = false := by simp
      have eq_B : (B == B) = true := by simp
      have ne_E : (E != E) = false := by simp
      have eq_E : (E == E) = true := by simp
      go_wp2_with fail
      refine (SI.out _ T.t.s).mono ?_
      rintro r w2 ⟨rfl, hb⟩
      replace bel := bel_go bel hb
      replace T := T.below hb
      clear hb
      go_wp2_with fail
      refine (SS.out _).mono ?_
      rintro r w3 ⟨rfl, hb⟩
      replace bel := bel_go bel hb
      replace T := T.below hb
      clear hb
      go_wp2_with fail
      refine (O1.out _).mono ?_
      rintro r w4 ⟨ap, cp, rfl, op, hb⟩
      replace bel := bel_go bel hb
      replace T := T.below hb
      clear hb
      have sp := op.sl
      clear op
      go_wp2_with fail
      refine (E1.out ap cp _ T.t sp).mono ?_
      rintro r w5 ⟨rfl, hb⟩
      replace bel := bel_go bel hb
      replace T := T.below hb
      replace sp := sp.below hb
      clear hb
      clear sp
      go_wp2_with fail
      refine (O2.out _).mono ?_
      rintro r w6 ⟨aq, cq, rfl, oq, hb⟩
      replace bel := bel_go bel hb
      replace T := T.below hb
      clear hb
      have sq := oq.sl
      clear oq
      go_wp2_with fail
      refine (E2.out aq cq _ T.t sq).mono ?_
      rintro r w7 ⟨rfl, hb⟩
      replace bel := bel_go bel hb
      replace T := T.below hb
      replace sq := sq.below hb
      clear hb
      clear sq
      go_wp2_with fail
      refine (SC.out _ T).mono ?_
      rintro r w8 ⟨rfl, hb⟩
      replace bel := bel_go bel hb
      replace T := T.below hb
      clear hb
      go_wp2_with fail
      refine (AB.out _ T.t.s.f).mono ?_
      rintro r w9 ⟨rfl, hb⟩
      replace bel := bel_go bel hb
      replace T := T.below hb
      clear hb
      go_wp2_with fail
      refine (C1.out _ T.t.s.f).mono ?_
      rintro r w10 ⟨rfl, hb⟩
      replace bel := bel_go bel hb
      replace T := T.below hb
      clear hb
      go_wp2_with fail
      refine (C2.out _ T.t.s.f).mono ?_
      rintro r w11 ⟨rfl, hb⟩
      replace bel := bel_go bel hb
      replace T := T.below hb
      clear hb
      go_wp2
      all_goals go_ret
      all_goals exact ⟨rfl, bel⟩
    · obtain ⟨y0, y1, k1, k2, k3, k4, k5⟩ := sp_main64 x0 (by omega) hO
      have y1' : spB 64 x < 18446744073709551616 := by omega
      have e1 : EfB 64 false [1] 0 = 4607182418800017408 := by decide +kernel
      have e2 : EfB 64 false [2] 0 = 4611686018427387904 := by decide +kernel
      rw [e1] at E1
      rw [e2] at E2
      have SC := hid (fun w' h => SC.out w' h y0 y1')
      have AB := hid (fun w' h => AB.out w' h y0 y1')
      have ad := AD.out y0
      have C1 := hid (fun w' h => CP.out w' h 4607182418800017408 ad.1 (by omega) (by decide) (by decide))
      have C2 := hid (fun w' h => CP.out w' h 4611686018427387904 ad.1 (by omega) (by decide) (by decide))
      rw [k1, k2, k3] at SC
      rw [k5] at C2
      clear MN CP AD ad k1 k2 k3 k5 y0 y1 y1' hO e1 e2
      obtain ⟨B, h_B⟩ : ∃ q, q = spB 64 x := ⟨_, rfl⟩
      obtain ⟨E, h_E⟩ : ∃ q, q = spE 64 x := ⟨_, rfl⟩
      obtain ⟨A, h_A⟩ : ∃ q, q = absF 64 (spB 64 x) := ⟨_, rfl⟩
      rw [← h_A] at C1 C2 AB k4
      rw [← h_B] at AB
      rw [← h_B, ← h_E] at SI SS SC
      clear h_B h_E h_A
      obtain ⟨c1, h_c1⟩ : ∃ q, q = cmpF 64 A 4607182418800017408 := ⟨_, rfl⟩
      obtain ⟨f1, h_f1⟩ : ∃ q, q = EfO 64 false [1] 0 := ⟨_, rfl⟩
      obtain ⟨f2, h_f2⟩ : ∃ q, q = EfO 64 false [2] 0 := ⟨_, rfl⟩
      rw [← h_c1] at C1 k4
      rw [← h_f1] at E1
      rw [← h_f2] at E2
      clear h_c1 h_f1 h_f2
      have k4' : decide (0 ≤ c1) = true := decide_eq_true k4
      have eqx : (x == x) = true := by simp
      have ne_B : (B != B) = false := by simp
      have eq_B : (B == B) = true := by simp
      have ne_E : (E != E) = false := by simp
      have eq_E : (E == E) = true := by simp
      go_wp2_with fail
      refine (SI.out _ T.t.s).mono ?_
      rintro r w2 ⟨rfl, hb⟩
      replace bel := bel_go bel hb
      replace T := T.below hb
      clear hb
      go_wp2_with fail
      refine (SS.out _).mono ?_
      rintro r w3 ⟨rfl, hb⟩
      replace bel := bel_go bel hb
      replace T := T.below hb
      clear hb
      go_wp2_with fail
      refine (O1.out _).mono ?_
      rintro r w4 ⟨ap, cp, rfl, op, hb⟩
      replace bel := bel_go bel hb
      replace T := T.below hb
      clear hb
      have sp := op.sl
      clear op
      go_wp2_with fail
      refine (E1.out ap cp _ T.t sp).mono ?_
      rintro r w5 ⟨rfl, hb⟩
      replace bel := bel_go bel hb
      replace T := T.below hb
      replace sp := sp.below hb
      clear hb
      clear sp
      go_wp2_with fail
      refine (O2.out _).mono ?_
      rintro r w6 ⟨aq, cq, rfl, oq, hb⟩
      replace bel := bel_go bel hb
      replace T := T.below hb
      clear hb
      have sq := oq.sl
      clear oq
      go_wp2_with fail
      refine (E2.out aq cq _ T.t sq).mono ?_
      rintro r w7 ⟨rfl, hb⟩
      replace bel := bel_go bel hb
      replace T := T.below hb
      replace sq := sq.below hb
      clear hb
      clear sq
      go_wp2_with fail
      refine (SC.out _ T).mono ?_
      rintro r w8 ⟨rfl, hb⟩
      replace bel := bel_go bel hb
      replace T := T.below hb
      clear hb
      go_wp2_with fail
      refine (AB.out _ T.t.s.f).mono ?_
      rintro r w9 ⟨rfl, hb⟩
      replace bel := bel_go bel hb
      replace T := T.below hb
      clear hb
      go_wp2_with fail
      refine (C1.out _ T.t.s.f).mono ?_
      rintro r w10 ⟨rfl, hb⟩
      replace bel := bel_go bel hb
      replace T := T.below hb
      clear hb
      go_wp2_with fail
      refine (C2.out _ T.t.s.f).mono ?_
      rintro r w11 ⟨rfl, hb⟩
      replace bel := bel_go bel hb
      replace T := T.below hb
      clear hb
      go_wp2
      all_goals go_ret
      all_goals exact ⟨rfl, bel⟩
theorem splaw_all (ca : Option Addr) (cc : Nat) (cs : List Int) (w : World) (hT : EX3 w) (hs : Sl .u8 w (.slice ca cs.length cc) cs) (hby : ∀ i, 0 ≤ cs.getD i 0 ∧ cs.getD i 0 ≤ 255) :
    Calls Tryz.prog 11 #[.slice ca cs.length cc] w fun e w' => e = .returned (.bool true) ∧ Below w.heap.size w w' := by
  by_cases h : cs.length ≤ 1048576
  · exact splaw ca cc cs w hT hs hby h
  · have hn : cs.length ≤ 9223372036854775807 := by obtain ⟨_, h1, h2, _⟩ := hs.cells; unfold maxLen at h2; omega
    have CB := hid (big_any ca cs.length cc w hn true (by simp; omega))
    clear hs hby h hn
    go_enter Tryz.func11, Tryz.ntmps11
    go_wp2_with fail
    refine CB.out.mono ?_
    rintro e w0 ⟨rfl, rfl⟩
    go_wp2
    go_ret
    exact ⟨rfl, Below.refl _ _⟩
end Fd
end Go.Proofs.YtbhfbaogmkgmiaaGreatDoor
