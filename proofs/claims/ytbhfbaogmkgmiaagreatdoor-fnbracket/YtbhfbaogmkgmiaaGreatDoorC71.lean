/-
  What is needed of FloatB, RN, FloatL, FJ, RY, ZBr.
-/
import Derived.Test.YtbhfbaogmkgmiaaGreatDoorC09
import Derived.Test.YtbhfbaogmkgmiaaGreatDoorC33
import Derived.Test.YtbhfbaogmkgmiaaGreatDoorC61
import Derived.Test.YtbhfbaogmkgmiaaGreatDoorC66
import Derived.Test.YtbhfbaogmkgmiaaGreatDoorC67
set_option maxHeartbeats 16000000
set_option maxRecDepth 1000000
namespace Go.Proofs.YtbhfbaogmkgmiaaGreatDoor
set_option linter.unusedVariables false
set_option linter.unusedSimpArgs false
open Go.RowKit
theorem impl_Least32 (ng : Bool) (w : World) (h : Tab w) :
    Calls Tryz.prog 82 #[.int .i64 32, .bool ng] w fun e w' => e = .returned (.int .u64 (sgn 2147483648 1 ng)) ∧ Below w.heap.size w w' := by
  go_enter Tryz.func82, Tryz.ntmps82
  go_wp2_with fail
  refine (sizes32 _ h).mono ?_
  rintro e w1 ⟨rfl, hb1⟩
  go_wp2_with (go_at_call 141; refine (signed32 1 ng _ (by decide) (by decide)).mono ?_; rintro e w3 ⟨rfl, hb3⟩)
  go_ret
  exact ⟨rfl, (by repeat (first | exact bz0 _ _ | refine bz1 ?_ | refine bz2 ?_ _ | refine bz3 ?_ _ | refine bz4 ?_ hb3 | refine bz4 ?_ hb1 | refine bz5 ?_ _ | refine bz6 ?_ _ | refine bz7 ?_ hb3 | refine bz7 ?_ hb1))⟩
theorem impl_Least64 (ng : Bool) (w : World) (h : Tab w) :
    Calls Tryz.prog 82 #[.int .i64 64, .bool ng] w fun e w' => e = .returned (.int .u64 (sgn 9223372036854775808 1 ng)) ∧ Below w.heap.size w w' := by
  go_enter Tryz.func82, Tryz.ntmps82
  go_wp2_with fail
  refine (sizes64 _ h).mono ?_
  rintro e w1 ⟨rfl, hb1⟩
  go_wp2_with (go_at_call 141; refine (signed64 1 ng _ (by decide) (by decide)).mono ?_; rintro e w3 ⟨rfl, hb3⟩)
  go_ret
  exact ⟨rfl, (by repeat (first | exact bz0 _ _ | refine bz1 ?_ | refine bz2 ?_ _ | refine bz3 ?_ _ | refine bz4 ?_ hb3 | refine bz4 ?_ hb1 | refine bz5 ?_ _ | refine bz6 ?_ _ | refine bz7 ?_ hb3 | refine bz7 ?_ hb1))⟩

end Go.Proofs.YtbhfbaogmkgmiaaGreatDoor
namespace Go.Proofs.YtbhfbaogmkgmiaaGreatDoor
set_option linter.unusedVariables false
set_option linter.unusedSimpArgs false
namespace Nm
/-- What is cut is no more than the greatest place. -/
theorem flb_mono' {P u v : Nat} (hP : 1 ≤ P) (h : u ≤ v) : flb P u ≤ flb P v := by
  have hbl := bl_mono h
  have mu := flm_lt P u
  have mv := flm_lt P v
  have h2 : 2 ^ P = 2 * 2 ^ (P - 1) := by
    obtain ⟨k, rfl⟩ : ∃ k, P = k + 1 := ⟨P - 1, by omega⟩
    rw [Nat.add_sub_cancel, Nat.pow_succ, Nat.mul_comm]
  have hp := Nat.two_pow_pos (P - 1)
  have ge : ∀ w : Nat, 0 < bitLen w - P → 2 ^ (P - 1) ≤ w / 2 ^ (bitLen w - P) := fun w hw => by
    have hw0 : w ≠ 0 := fun h => by subst h; rw [bl_zero] at hw; omega
    rw [Nat.le_div_iff_mul_le (Nat.two_pow_pos _), ← Nat.pow_add, show P - 1 + (bitLen w - P) = bitLen w - 1 by omega]
    exact bl_ge hw0
  have gv := ge v
  rcases Nat.lt_or_eq_of_le (show bitLen u - P ≤ bitLen v - P by omega) with hlt | heq
  · have hv := gv (by omega)
    unfold flb
    rw [if_pos hv]
    have hmul : (bitLen u - P + 1) * 2 ^ (P - 1) ≤ (bitLen v - P) * 2 ^ (P - 1) := Nat.mul_le_mul_right _ (by omega)
    rw [Nat.add_mul, Nat.one_mul] at hmul
    split <;> omega
  · have hd : u / 2 ^ (bitLen u - P) ≤ v / 2 ^ (bitLen v - P) := by rw [heq]; exact Nat.div_le_div_right h
    unfold flb
    rw [heq] at hd ⊢
    split <;> split <;> omega
end Nm
open Go.RowKit
theorem sig_inf {fm x : Int} (h : okF fm x = true) (h0 : 0 ≤ x) (k : sigB fm x = true) : (x == infOf fm) = false := by
  rcases okF_cases h with ⟨rfl, hx⟩ | rfl
  · unfold sigB at k; rw [abs32 hx] at k; unfold infOf; simp at k ⊢; omega
  · unfold sigB at k; rw [abs64] at k; unfold infOf; simp at k ⊢; omega
theorem impl_nanG (fm x : Int) (w : World) (hT : Tab w) (h : okF fm x = true) :
    Calls Tryz.prog 81 #[.int .i64 fm] w fun e w' => e = .returned (.int .u64 (nanOf fm)) ∧ Below w.heap.size w w' := by
  rcases okF_cases h with ⟨rfl, hx⟩ | rfl
  · exact impl_nan32 w hT
  · exact impl_nan64 w hT
theorem impl_infG (fm x : Int) (w : World) (hT : Tab w) (h : okF fm x = true) :
    Calls Tryz.prog 83 #[.int .i64 fm, .bool false] w fun e w' => e = .returned (.int .u64 (infOf fm)) ∧ Below w.heap.size w w' := by
  rcases okF_cases h with ⟨rfl, hx⟩ | rfl
  · exact impl_Inf32 false w hT
  · exact impl_Inf64 false w hT
theorem impl_leastG (fm x : Int) (w : World) (hT : Tab w) (h : okF fm x = true) :
    Calls Tryz.prog 82 #[.int .i64 fm, .bool false] w fun e w' => e = .returned (.int .u64 1) ∧ Below w.heap.size w w' := by
  rcases okF_cases h with ⟨rfl, hx⟩ | rfl
  · exact impl_Least32 false w hT
  · exact impl_Least64 false w hT

theorem impl_up (fm x : Int) (w : World) (hT : Tab w) (h0 : 0 ≤ x) (h1 : x < 18446744073709551616) :
    Calls Tryz.prog 22 #[.int .i64 fm, .int .u64 x] w fun e w' => e = .returned (.int .u64 (upF fm x)) ∧ Below w.heap.size w w' := by
  cases ho : okF fm x
  · have HR := hid (up_no ho)
    have c1 := cls_no ho
    clear ho
    go_enter Tryz.func22, Tryz.ntmps22
    go_wp2_with fail
    refine (impl_cls fm x _ hT h0 h1).mono ?_
    rintro e w1 ⟨rfl, hb1⟩
    go_wp2
    go_ret
    exact ⟨ret_int HR.out.symm, (by repeat (first | exact bz0 _ _ | refine bz1 ?_ | refine bz2 ?_ _ | refine bz3 ?_ _ | refine bz4 ?_ hb1 | refine bz5 ?_ _ | refine bz6 ?_ _ | refine bz7 ?_ hb1))⟩
  have HO := hid ho
  cases hn : nanB fm x
  rotate_left
  · have HR := hid (up_nan ho hn)
    have hc := cls_nan ho hn
    clear ho hn
    rcases hc with c1 | c1
    all_goals
      go_enter Tryz.func22, Tryz.ntmps22
      go_wp2_with fail
      refine (impl_cls fm x _ hT h0 h1).mono ?_
      rintro e w1 ⟨rfl, hb1⟩
      go_wp2_with fail
      refine (impl_nanG fm x _ (hT.below hb1) HO.out).mono ?_
      rintro e w2 ⟨rfl, hb2⟩
      go_wp2
      go_ret
      exact ⟨ret_int HR.out.symm, (by repeat (first | exact bz0 _ _ | refine bz1 ?_ | refine bz2 ?_ _ | refine bz3 ?_ _ | refine bz4 ?_ hb2 | refine bz4 ?_ hb1 | refine bz5 ?_ _ | refine bz6 ?_ _ | refine bz7 ?_ hb2 | refine bz7 ?_ hb1))⟩
  have ⟨r0, r1⟩ := cls_num ho hn
  have Z := hid (cls_zero ho)
  cases hz : (absF fm x == 0)
  rotate_left
  · have HR := hid (up_zero ho hn hz)
    have c1 : cls fm x = 0 := by have := Z.out; rw [hz] at this; simpa using this
    clear ho hn hz r0 r1
    go_enter Tryz.func22, Tryz.ntmps22
    go_wp2_with fail
    refine (impl_cls fm x _ hT h0 h1).mono ?_
    rintro e w1 ⟨rfl, hb1⟩
    go_wp2_with fail
    refine (impl_leastG fm x _ (hT.below hb1) HO.out).mono ?_
    rintro e w2 ⟨rfl, hb2⟩
    go_wp2
    go_ret
    exact ⟨ret_int HR.out.symm, (by repeat (first | exact bz0 _ _ | refine bz1 ?_ | refine bz2 ?_ _ | refine bz3 ?_ _ | refine bz4 ?_ hb2 | refine bz4 ?_ hb1 | refine bz5 ?_ _ | refine bz6 ?_ _ | refine bz7 ?_ hb2 | refine bz7 ?_ hb1))⟩
  have nz : (cls fm x == 0) = false := by rw [Z.out, hz]
  have n1 : (cls fm x == -1) = false := by rw [beq_eq_false_iff_ne]; omega
  have n4 : (cls fm x == 4) = false := by rw [beq_eq_false_iff_ne]; omega
  have n5 : (cls fm x == 5) = false := by rw [beq_eq_false_iff_ne]; omega
  cases hs : sigB fm x
  · have bd := up_bd ho h0 hn hs
    cases hi : (x == infOf fm)
    · have HR := hid (up_pos ho hn hz hs hi)
      clear ho hn hz r0 r1
      go_enter Tryz.func22, Tryz.ntmps22
      go_wp2_with fail
      refine (impl_cls fm x _ hT h0 h1).mono ?_
      rintro e w1 ⟨rfl, hb1⟩
      have hT1 := hT.below hb1
      go_wp2_with fail
      refine (impl_infG fm x _ hT1 HO.out).mono ?_
      rintro e w2 ⟨rfl, hb2⟩
      have hT2 := hT1.below hb2
      go_wp2_with fail
      refine (impl_sig fm x _ hT2 h0 h1).mono ?_
      rintro e w3 ⟨rfl, hb3⟩
      go_wp2
      go_ret
      exact ⟨ret_int HR.out.symm, (by repeat (first | exact bz0 _ _ | refine bz1 ?_ | refine bz2 ?_ _ | refine bz3 ?_ _ | refine bz4 ?_ hb3 | refine bz4 ?_ hb2 | refine bz4 ?_ hb1 | refine bz5 ?_ _ | refine bz6 ?_ _ | refine bz7 ?_ hb3 | refine bz7 ?_ hb2 | refine bz7 ?_ hb1))⟩
    · have HR := hid (up_inf ho hn hz hs hi)
      clear ho hn hz r0 r1
      go_enter Tryz.func22, Tryz.ntmps22
      go_wp2_with fail
      refine (impl_cls fm x _ hT h0 h1).mono ?_
      rintro e w1 ⟨rfl, hb1⟩
      have hT1 := hT.below hb1
      go_wp2_with fail
      refine (impl_infG fm x _ hT1 HO.out).mono ?_
      rintro e w2 ⟨rfl, hb2⟩
      go_wp2
      go_ret
      exact ⟨ret_int HR.out.symm, (by repeat (first | exact bz0 _ _ | refine bz1 ?_ | refine bz2 ?_ _ | refine bz3 ?_ _ | refine bz4 ?_ hb2 | refine bz4 ?_ hb1 | refine bz5 ?_ _ | refine bz6 ?_ _ | refine bz7 ?_ hb2 | refine bz7 ?_ hb1))⟩
  · have HR := hid (up_neg ho hn hz hs)
    have hi := sig_inf ho h0 hs
    have bd := up_bd' (fm := fm) h0 hs
    clear ho hn hz r0 r1
    go_enter Tryz.func22, Tryz.ntmps22
    go_wp2_with fail
    refine (impl_cls fm x _ hT h0 h1).mono ?_
    rintro e w1 ⟨rfl, hb1⟩
    have hT1 := hT.below hb1
    go_wp2_with fail
    refine (impl_infG fm x _ hT1 HO.out).mono ?_
    rintro e w2 ⟨rfl, hb2⟩
    have hT2 := hT1.below hb2
    go_wp2_with fail
    refine (impl_sig fm x _ hT2 h0 h1).mono ?_
    rintro e w3 ⟨rfl, hb3⟩
    go_wp2
    go_ret
    exact ⟨ret_int HR.out.symm, (by repeat (first | exact bz0 _ _ | refine bz1 ?_ | refine bz2 ?_ _ | refine bz3 ?_ _ | refine bz4 ?_ hb3 | refine bz4 ?_ hb2 | refine bz4 ?_ hb1 | refine bz5 ?_ _ | refine bz6 ?_ _ | refine bz7 ?_ hb3 | refine bz7 ?_ hb2 | refine bz7 ?_ hb1))⟩

end Go.Proofs.YtbhfbaogmkgmiaaGreatDoor
namespace Go.Proofs.YtbhfbaogmkgmiaaGreatDoor
set_option linter.unusedVariables false
set_option linter.unusedSimpArgs false
open Go.RowKit Go.Deep
namespace Fd
theorem up32 {x : Int} (h0 : 0 ≤ x) (h1 : x < 4294967296) (hy : 0 < x % 2147483648 ∧ x % 2147483648 < 2139095040) : upF 32 x = if x < 2147483648 then x + 1 else x - 1 := by
  have ha := ab32 h0 h1
  have hn : nanB 32 x = false := by unfold nanB; apply decide_eq_false; rw [ha]; show ¬ 2139095040 < _; split <;> omega
  have hz : (absF 32 x == 0) = false := by rw [ha]; simp; split <;> omega
  by_cases h : x < 2147483648
  · have hs : sigB 32 x = false := by unfold sigB; rw [ha, if_pos h]; simp
    have hi : (x == infOf 32) = false := by show (x == 2139095040) = false; simp; omega
    rw [up_pos (okF32 h1) hn hz hs hi, if_pos h]
  · have hs : sigB 32 x = true := by unfold sigB; rw [ha, if_neg h]; simp; omega
    rw [up_neg (okF32 h1) hn hz hs, if_neg h]
theorem up64 {x : Int} (h0 : 0 ≤ x) (h1 : x < 18446744073709551616) (hy : 0 < x % 9223372036854775808 ∧ x % 9223372036854775808 < 9218868437227405312) : upF 64 x = if x < 9223372036854775808 then x + 1 else x - 1 := by
  have ha := ab64 h0 h1
  have hn : nanB 64 x = false := by unfold nanB; apply decide_eq_false; rw [ha]; show ¬ 9218868437227405312 < _; split <;> omega
  have hz : (absF 64 x == 0) = false := by rw [ha]; simp; split <;> omega
  by_cases h : x < 9223372036854775808
  · have hs : sigB 64 x = false := by unfold sigB; rw [ha, if_pos h]; simp
    have hi : (x == infOf 64) = false := by show (x == 9218868437227405312) = false; simp; omega
    rw [up_pos (okF64) hn hz hs hi, if_pos h]
  · have hs : sigB 64 x = true := by unfold sigB; rw [ha, if_neg h]; simp; omega
    rw [up_neg (okF64) hn hz hs, if_neg h]
open Nm (rU rr rn rh rm flo flb)
theorem lo_off {P I : Nat} {q : Int} {a : Nat} {e : Int} (hP : 2 ≤ P) (ha : a ≠ 0) (hI : I ≤ 2100 * 2 ^ (P - 1)) (hI0 : 1 ≤ I) :
    uf (2 ^ (P - 1)) (mgLo P q I a e) * 2 ^ (q - min e q).toNat ≤ a * 2 ^ (e - min e q).toNat := by
  have hd := Nm.off_dn (P := P) (q := q) (a := a) (e := e)
  have key : uf (2 ^ (P - 1)) (mgLo P q I a e) ≤ rU P q a e false := by
    unfold mgLo
    by_cases hf : flo P I (rU P q a e false) = true
    · rw [if_pos hf, flb_uf P I _ (by omega) hf]; exact Nat.le_refl _
    · rw [if_neg hf]
      rcases Nat.lt_or_ge (rU P q a e false) (uf (2 ^ (P - 1)) (I - 1)) with h | h
      · exfalso; apply hf
        have hg := uf_flo P I (by omega) (I - 1) (by omega) hI
        have hm := Nm.flb_mono' (P := P) (by omega) (Nat.le_of_lt h)
        exact Nm.flb_lt_flo (Nat.le_of_lt h) (by omega) (dn_exact (by omega) ha) hg hm
      · exact h
  exact Nat.le_trans (Nat.mul_le_mul_right _ key) (by omega)
/-- The next float up of a neighbour. -/
theorem up_lo32 {v : Nat} (hv : v < 2139095040) : upF 32 (sgn 2147483648 (v : Int) false) = sgn 2147483648 ((v + 1 : Nat) : Int) false ∧ upF 32 (sgn 2147483648 ((v + 1 : Nat) : Int) true) = sgn 2147483648 (v : Int) true := by
  constructor
  · by_cases h : v = 0
    · subst h; decide +kernel
    · rw [up32 (by unfold sgn; simp) (by unfold sgn; simp; omega) (by unfold sgn; simp; omega)]
      unfold sgn; simp; omega
  · by_cases h : v + 1 = 2139095040
    · have : v = 2139095040 - 1 := by omega
      subst this; decide +kernel
    · have hb := sgn_abs32 (v := ((v + 1 : Nat) : Int)) (by omega) (by omega) true
      rw [up32 hb.1 hb.2.1 (by unfold sgn; simp; omega)]
      unfold sgn; simp; omega
/-- FnBracket's numbers. -/
theorem brk32 (z e : Int) (hO : RdO 32 0 (Nm.wn z) (Nm.wl z) e = true) (d u f g : Int) (hd : d = RdB 32 3 (Nm.wn z) (Nm.wl z) e) (hu : u = RdB 32 2 (Nm.wn z) (Nm.wl z) e) (hf : f = RdF 32 3 (Nm.wn z) (Nm.wl z) e) (hg : g = RdF 32 2 (Nm.wn z) (Nm.wl z) e) :
    ((f == 0) = (g == 0)) ∧ ((f == 0) = (d == u)) ∧ (d = u ∨ upF 32 d = u) ∧ (finB 32 d = true → offD 32 d z e ≤ 0) ∧ (finB 32 u = true → 0 ≤ offD 32 u z e) := by
  by_cases hz : z = 0
  · have hl := (wl_zero' z).2 hz
    have r3 := Rd_zero (fm := 32) (mode := 3) (ng := Nm.wn z) (e := e) hl
    have r2 := Rd_zero (fm := 32) (mode := 2) (ng := Nm.wn z) (e := e) hl
    rw [r3.1] at hd
    rw [r2.1] at hu
    rw [r3.2] at hf
    rw [r2.2] at hg
    subst hd hu hf hg hz
    have h0 : unI 32 0 = 0 := by decide +kernel
    refine ⟨rfl, rfl, .inl rfl, fun _ => ?_, fun _ => ?_⟩ <;> unfold offD <;> rw [h0] <;> simp
  · obtain ⟨t3, t2, -, tf, -⟩ := two_32 z e hO hz
    have ha : z.natAbs ≠ 0 := by omega
    obtain ⟨l1, l2, l3⟩ := lohi (P := 24) (q := (-149)) (I := 2139095040) (a := z.natAbs) (e := e) (by decide) ha (by decide) (by decide)
    have lo := lo_off (P := 24) (q := (-149)) (I := 2139095040) (a := z.natAbs) (e := e) (by decide) ha (by decide) (by decide)
    have hi := fun h => (hi_off (P := 24) (q := (-149)) (I := 2139095040) (a := z.natAbs) (e := e) (by decide) ha h).1
    have hL : (2 : Nat) ^ (24 - 1) = 8388608 := by decide
    rw [hL] at lo hi
    rw [t3] at hd
    rw [t2] at hu
    have f3 := tf 3 (by decide)
    have f2 := tf 2 (by decide)
    rw [← hf] at f3
    rw [← hg] at f2
    rw [f3, f2]
    have olo := offD_mg32 z e l1
    have ohi := fun h => offD_mg32 z e (v := mgHi 24 (-149) 2139095040 z.natAbs e) h
    obtain ⟨A, hA⟩ : ∃ A, A = mgLo 24 (-149) 2139095040 z.natAbs e := ⟨_, rfl⟩
    obtain ⟨B, hB⟩ : ∃ A, A = mgHi 24 (-149) 2139095040 z.natAbs e := ⟨_, rfl⟩
    rw [← hA] at l1 l3 lo hd hu olo
    rw [← hB] at l2 l3 hi hd hu ohi
    refine ⟨rfl, ?_, ?_, ?_, ?_⟩
    · rw [hd, hu, sgn_inj]
      cases hx : exB 24 (-149) 2139095040 z.natAbs e <;> rw [hx] at l3 <;> simp at l3
      · rw [Bool.eq_iff_iff]; simp only [beq_iff_eq]; split <;> simp <;> omega
      · rw [l3]; simp
    · cases hx : exB 24 (-149) 2139095040 z.natAbs e <;> rw [hx] at l3 <;> simp at l3
      · right
        have h := up_lo32 (v := A) l1
        rw [hd, hu, l3]
        unfold Nm.wn
        by_cases hn : z < 0
        · rw [decide_eq_true hn, if_pos hn, if_pos hn]; exact h.2
        · rw [decide_eq_false hn, if_neg hn, if_neg hn]; exact h.1
      · left; rw [hd, hu, l3]; try (split <;> rfl)
    · intro hfd
      rw [hd] at hfd ⊢
      by_cases hn : z < 0
      · rw [if_pos hn] at hfd ⊢
        have hv := fin_mg32 l2 _ hfd
        rw [ohi hv, if_pos hn]
        have := hi hv
        omega
      · rw [if_neg hn] at hfd ⊢
        rw [olo, if_neg hn]
        omega
    · intro hfu
      rw [hu] at hfu ⊢
      by_cases hn : z < 0
      · rw [if_pos hn] at hfu ⊢
        rw [olo, if_pos hn]
        omega
      · rw [if_neg hn] at hfu ⊢
        have hv := fin_mg32 l2 _ hfu
        rw [ohi hv, if_neg hn]
        have := hi hv
        omega
/-- The next float up of a neighbour. -/
theorem up_lo64 {v : Nat} (hv : v < 9218868437227405312) : upF 64 (sgn 9223372036854775808 (v : Int) false) = sgn 9223372036854775808 ((v + 1 : Nat) : Int) false ∧ upF 64 (sgn 9223372036854775808 ((v + 1 : Nat) : Int) true) = sgn 9223372036854775808 (v : Int) true := by
  constructor
  · by_cases h : v = 0
    · subst h; decide +kernel
    · rw [up64 (by unfold sgn; simp) (by unfold sgn; simp; omega) (by unfold sgn; simp; omega)]
      unfold sgn; simp; omega
  · by_cases h : v + 1 = 9218868437227405312
    · have : v = 9218868437227405312 - 1 := by omega
      subst this; decide +kernel
    · have hb := sgn_abs64 (v := ((v + 1 : Nat) : Int)) (by omega) (by omega) true
      rw [up64 hb.1 hb.2.1 (by unfold sgn; simp; omega)]
      unfold sgn; simp; omega
/-- FnBracket's numbers. -/
theorem brk64 (z e : Int) (hO : RdO 64 0 (Nm.wn z) (Nm.wl z) e = true) (d u f g : Int) (hd : d = RdB 64 3 (Nm.wn z) (Nm.wl z) e) (hu : u = RdB 64 2 (Nm.wn z) (Nm.wl z) e) (hf : f = RdF 64 3 (Nm.wn z) (Nm.wl z) e) (hg : g = RdF 64 2 (Nm.wn z) (Nm.wl z) e) :
    ((f == 0) = (g == 0)) ∧ ((f == 0) = (d == u)) ∧ (d = u ∨ upF 64 d = u) ∧ (finB 64 d = true → offD 64 d z e ≤ 0) ∧ (finB 64 u = true → 0 ≤ offD 64 u z e) := by
  by_cases hz : z = 0
  · have hl := (wl_zero' z).2 hz
    have r3 := Rd_zero (fm := 64) (mode := 3) (ng := Nm.wn z) (e := e) hl
    have r2 := Rd_zero (fm := 64) (mode := 2) (ng := Nm.wn z) (e := e) hl
    rw [r3.1] at hd
    rw [r2.1] at hu
    rw [r3.2] at hf
    rw [r2.2] at hg
    subst hd hu hf hg hz
    have h0 : unI 64 0 = 0 := by decide +kernel
    refine ⟨rfl, rfl, .inl rfl, fun _ => ?_, fun _ => ?_⟩ <;> unfold offD <;> rw [h0] <;> simp
  · obtain ⟨t3, t2, -, tf, -⟩ := two_64 z e hO hz
    have ha : z.natAbs ≠ 0 := by omega
    obtain ⟨l1, l2, l3⟩ := lohi (P := 53) (q := (-1074)) (I := 9218868437227405312) (a := z.natAbs) (e := e) (by decide) ha (by decide) (by decide)
    have lo := lo_off (P := 53) (q := (-1074)) (I := 9218868437227405312) (a := z.natAbs) (e := e) (by decide) ha (by decide) (by decide)
    have hi := fun h => (hi_off (P := 53) (q := (-1074)) (I := 9218868437227405312) (a := z.natAbs) (e := e) (by decide) ha h).1
    have hL : (2 : Nat) ^ (53 - 1) = 4503599627370496 := by decide
    rw [hL] at lo hi
    rw [t3] at hd
    rw [t2] at hu
    have f3 := tf 3 (by decide)
    have f2 := tf 2 (by decide)
    rw [← hf] at f3
    rw [← hg] at f2
    rw [f3, f2]
    have olo := offD_mg64 z e l1
    have ohi := fun h => offD_mg64 z e (v := mgHi 53 (-1074) 9218868437227405312 z.natAbs e) h
    obtain ⟨A, hA⟩ : ∃ A, A = mgLo 53 (-1074) 9218868437227405312 z.natAbs e := ⟨_, rfl⟩
    obtain ⟨B, hB⟩ : ∃ A, A = mgHi 53 (-1074) 9218868437227405312 z.natAbs e := ⟨_, rfl⟩
    rw [← hA] at l1 l3 lo hd hu olo
    rw [← hB] at l2 l3 hi hd hu ohi
    refine ⟨rfl, ?_, ?_, ?_, ?_⟩
    · rw [hd, hu, sgn_inj]
      cases hx : exB 53 (-1074) 9218868437227405312 z.natAbs e <;> rw [hx] at l3 <;> simp at l3
      · rw [Bool.eq_iff_iff]; simp only [beq_iff_eq]; split <;> simp <;> omega
      · rw [l3]; simp
    · cases hx : exB 53 (-1074) 9218868437227405312 z.natAbs e <;> rw [hx] at l3 <;> simp at l3
      · right
        have h := up_lo64 (v := A) l1
        rw [hd, hu, l3]
        unfold Nm.wn
        by_cases hn : z < 0
        · rw [decide_eq_true hn, if_pos hn, if_pos hn]; exact h.2
        · rw [decide_eq_false hn, if_neg hn, if_neg hn]; exact h.1
      · left; rw [hd, hu, l3]; try (split <;> rfl)
    · intro hfd
      rw [hd] at hfd ⊢
      by_cases hn : z < 0
      · rw [if_pos hn] at hfd ⊢
        have hv := fin_mg64 l2 _ hfd
        rw [ohi hv, if_pos hn]
        have := hi hv
        omega
      · rw [if_neg hn] at hfd ⊢
        rw [olo, if_neg hn]
        omega
    · intro hfu
      rw [hu] at hfu ⊢
      by_cases hn : z < 0
      · rw [if_pos hn] at hfu ⊢
        rw [olo, if_pos hn]
        omega
      · rw [if_neg hn] at hfu ⊢
        have hv := fin_mg64 l2 _ hfu
        rw [ohi hv, if_neg hn]
        have := hi hv
        omega
end Fd
namespace Fd
theorem brk_any {fm : Int} (hfm : fmtB fm = true) (z e : Int) (hO : RdO fm 0 (Nm.wn z) (Nm.wl z) e = true) (d u f g : Int) (hd : d = RdB fm 3 (Nm.wn z) (Nm.wl z) e) (hu : u = RdB fm 2 (Nm.wn z) (Nm.wl z) e) (hf : f = RdF fm 3 (Nm.wn z) (Nm.wl z) e) (hg : g = RdF fm 2 (Nm.wn z) (Nm.wl z) e) :
    ((f == 0) = (g == 0)) ∧ ((f == 0) = (d == u)) ∧ (d = u ∨ upF fm d = u) ∧ (finB fm d = true → offD fm d z e ≤ 0) ∧ (finB fm u = true → 0 ≤ offD fm u z e) := by
  rcases fmt_cases hfm with rfl | rfl
  · exact brk32 z e hO d u f g hd hu hf hg
  · exact brk64 z e hO d u f g hd hu hf hg
theorem brlaw (ca : Option Addr) (cc : Nat) (cs : List Int) (w : World) (hT : T3 w) (hs : Sl .u8 w (.slice ca cs.length cc) cs) (hby : ∀ i, 0 ≤ cs.getD i 0 ∧ cs.getD i 0 ≤ 255) (hl : cs.length ≤ 1048576) :
    Calls Tryz.prog 4 #[.slice ca cs.length cc] w fun e w' => e = .returned (.bool true) ∧ Below w.heap.size w w' := by
  go_enter Tryz.func4, Tryz.ntmps4
  go_wp2_with fail
  refine (big_any ca cs.length cc _ (by omega) false (by simp; omega)).mono ?_
  rintro r w0 ⟨rfl, rfl⟩
  go_wp2_with fail
  refine (drawRounded_x ca cc cs _ hs hby hl).mono ?_
  rintro r w1 ⟨fm, mode, ng, L0, a, c, e, rfl, hfm, hL, hd, sL, bel⟩
  have T := hT.below bel
  clear hby hl
  clear hs hT
  have hL' : L0.length ≤ 1048576 := by omega
  have GO := hid (fun w' h => goes_any fm ng L0 e a c w' h hd hL')
  have RD := hid (fun w' h h' => round_any fm 3 ng L0 e a c w' h h' hd hL')
  have RU := hid (fun w' h h' => round_any fm 2 ng L0 e a c w' h h' hd hL')
  by_cases hg : RdO fm 0 ng L0 e = true
  rotate_left
  · replace hg : RdO fm 0 ng L0 e = false := by simpa using hg
    obtain ⟨d, h_d⟩ : ∃ q, q = RdB fm 3 ng L0 e := ⟨_, rfl⟩
    obtain ⟨f, h_f⟩ : ∃ q, q = RdF fm 3 ng L0 e := ⟨_, rfl⟩
    obtain ⟨u, h_u⟩ : ∃ q, q = RdB fm 2 ng L0 e := ⟨_, rfl⟩
    obtain ⟨g, h_g⟩ : ∃ q, q = RdF fm 2 ng L0 e := ⟨_, rfl⟩
    rw [← h_d, ← h_f] at RD
    rw [← h_u, ← h_g] at RU
    rw [hg] at GO
    clear h_d h_f h_u h_g hg hd
    replace T := T.below (al_b _ (.cells #[.bool ng, .slice a L0.length c] 26))
    replace sL := sL.below (al_b _ (.cells #[.bool ng, .slice a L0.length c] 26))
    replace bel := bel_al bel (.cells #[.bool ng, .slice a L0.length c] 26)
    have Bw := R2.new w1 (.bool ng) (.slice a L0.length c) 26
    obtain ⟨kw0, kw1, -, -⟩ := id Bw
    go_wp2_with fail
    refine (RD.out _ T sL).mono ?_
    rintro r w2 ⟨rfl, hb⟩
    clear kw0 kw1
    replace bel := bel_go bel hb
    replace T := T.below hb
    replace sL := sL.below hb
    replace Bw := Bw.below hb
    clear hb
    obtain ⟨kw0, kw1, -, -⟩ := id Bw
    go_wp2_with fail
    refine (RU.out _ T sL).mono ?_
    rintro r w3 ⟨rfl, hb⟩
    clear kw0 kw1
    replace bel := bel_go bel hb
    replace T := T.below hb
    replace sL := sL.below hb
    replace Bw := Bw.below hb
    clear hb
    obtain ⟨kw0, kw1, -, -⟩ := id Bw
    go_wp2_with fail
    refine (GO.out _ sL).mono ?_
    rintro r w4 ⟨rfl, hb⟩
    clear kw0 kw1
    replace bel := bel_go bel hb
    replace T := T.below hb
    replace sL := sL.below hb
    replace Bw := Bw.below hb
    clear hb
    obtain ⟨kw0, kw1, -, -⟩ := id Bw
    go_wp2
    all_goals go_ret
    all_goals exact ⟨rfl, bel⟩
  · have hok : okB ng L0 = true := by have := hg; unfold RdO at this; simp at this; exact this.1.2
    have he : -10000 ≤ e ∧ e ≤ 10000 := by have := hg; unfold RdO inZ at this; simp at this; omega
    obtain ⟨v1, v2⟩ := wl_of_ok hd hok
    obtain ⟨z, hz⟩ : ∃ z, z = Nm.wv ng L0 := ⟨_, rfl⟩
    rw [← hz] at v1 v2
    subst v1 v2
    have hlz : (Nm.wl z).length ≤ 200 := (okB_nz hok).2
    have OF := hid (fun x (h : 0 ≤ x ∧ x < 18446744073709551616) w' h1 h2 => off_x hfm x z e a c w' h1 h.1 h.2 hlz h2 he.1 he.2)
    have BK := hid (brk_any hfm z e hg)
    have UP := hid (fun x (h : 0 ≤ x ∧ x < 18446744073709551616) w' h1 => impl_up fm x w' h1 h.1 h.2)
    have D0 := hid (RdB_bd fm 3 z e)
    have U0 := hid (RdB_bd fm 2 z e)
    rw [hg] at GO
    obtain ⟨d, h_d⟩ : ∃ q, q = RdB fm 3 (Nm.wn z) (Nm.wl z) e := ⟨_, rfl⟩
    obtain ⟨f, h_f⟩ : ∃ q, q = RdF fm 3 (Nm.wn z) (Nm.wl z) e := ⟨_, rfl⟩
    obtain ⟨u, h_u⟩ : ∃ q, q = RdB fm 2 (Nm.wn z) (Nm.wl z) e := ⟨_, rfl⟩
    obtain ⟨g, h_g⟩ : ∃ q, q = RdF fm 2 (Nm.wn z) (Nm.wl z) e := ⟨_, rfl⟩
    rw [← h_d, ← h_f] at RD
    rw [← h_u, ← h_g] at RU
    rw [← h_d] at D0
    rw [← h_u] at U0
    obtain ⟨k1, k2, k3, k4, k5⟩ := BK.out d u f g h_d h_u h_f h_g
    clear BK h_d h_f h_u h_g hz hok hg hL hL' hd he hlz
    have OD := hid (fun w' h1 h2 => OF.out d D0.out w' h1 h2)
    have OU := hid (fun w' h1 h2 => OF.out u U0.out w' h1 h2)
    have UD := hid (fun w' h1 => UP.out d D0.out w' h1)
    clear OF UP D0 U0
    obtain ⟨gz, h_gz⟩ : ∃ q, q = Nm.wn z := ⟨_, rfl⟩
    obtain ⟨Z, h_Z⟩ : ∃ q, q = Nm.wl z := ⟨_, rfl⟩
    obtain ⟨ef, h_ef⟩ : ∃ q, q = (f == 0) := ⟨_, rfl⟩
    have k4' := hid k4
    have k5' := hid k5
    have k3' := hid k3
    clear k3 k4 k5
    rw [← h_gz, ← h_Z] at RD RU GO OD OU ⊢
    rw [← h_Z] at sL
    rw [← h_ef] at k1 k2
    replace h_ef := h_ef.symm
    replace k1 := k1.symm
    replace k2 := k2.symm
    clear h_gz h_Z
    replace T := T.below (al_b _ (.cells #[.bool gz, .slice a Z.length c] 26))
    replace sL := sL.below (al_b _ (.cells #[.bool gz, .slice a Z.length c] 26))
    replace bel := bel_al bel (.cells #[.bool gz, .slice a Z.length c] 26)
    have Bw := R2.new w1 (.bool gz) (.slice a Z.length c) 26
    obtain ⟨kw0, kw1, -, -⟩ := id Bw
    go_wp2_with fail
    refine (RD.out _ T sL).mono ?_
    rintro r w2 ⟨rfl, hb⟩
    clear kw0 kw1
    replace bel := bel_go bel hb
    replace T := T.below hb
    replace sL := sL.below hb
    replace Bw := Bw.below hb
    clear hb
    obtain ⟨kw0, kw1, -, -⟩ := id Bw
    go_wp2_with fail
    refine (RU.out _ T sL).mono ?_
    rintro r w3 ⟨rfl, hb⟩
    clear kw0 kw1
    replace bel := bel_go bel hb
    replace T := T.below hb
    replace sL := sL.below hb
    replace Bw := Bw.below hb
    clear hb
    obtain ⟨kw0, kw1, -, -⟩ := id Bw
    go_wp2_with fail
    refine (GO.out _ sL).mono ?_
    rintro r w4 ⟨rfl, hb⟩
    clear kw0 kw1
    replace bel := bel_go bel hb
    replace T := T.below hb
    replace sL := sL.below hb
    replace Bw := Bw.below hb
    clear hb
    obtain ⟨kw0, kw1, -, -⟩ := id Bw
    go_wp2_with fail
    refine (OD.out _ T.s.f sL).mono ?_
    rintro r w5 ⟨D1, O1, a1, c1, rfl, h1, l1, s1, hb⟩
    clear kw0 kw1
    replace bel := bel_go bel hb
    replace T := T.below hb
    replace sL := sL.below hb
    replace Bw := Bw.below hb
    clear hb
    have q1 : O1 = false ∨ (O1 = true ∧ (Nm.wn D1 = true ∨ (Nm.wn D1 = false ∧ (Nm.wl D1).length = 0))) := by
      cases O1
      · exact .inl rfl
      · right
        obtain ⟨f1, f2⟩ := h1 rfl
        have := k4'.out f1
        rw [← f2] at this
        refine ⟨rfl, ?_⟩
        rcases Int.lt_or_le D1 0 with hc | hc
        · left; unfold Nm.wn; exact decide_eq_true hc
        · right; refine ⟨by unfold Nm.wn; exact decide_eq_false (by omega), (wl_zero' D1).2 (by omega)⟩
    obtain ⟨g1, h_g1⟩ : ∃ q, q = Nm.wn D1 := ⟨_, rfl⟩
    obtain ⟨L1, h_L1⟩ : ∃ q, q = Nm.wl D1 := ⟨_, rfl⟩
    rw [← h_g1, ← h_L1]
    rw [← h_L1] at s1
    rw [← h_g1, ← h_L1] at q1
    replace q1 := hid q1
    clear h_g1 h_L1 l1 h1
    replace T := T.below (al_b _ (.cells #[.bool g1, .slice a1 L1.length c1] 26))
    replace sL := sL.below (al_b _ (.cells #[.bool g1, .slice a1 L1.length c1] 26))
    replace Bw := Bw.below (al_b _ (.cells #[.bool g1, .slice a1 L1.length c1] 26))
    replace s1 := s1.below (al_b _ (.cells #[.bool g1, .slice a1 L1.length c1] 26))
    replace bel := bel_al bel (.cells #[.bool g1, .slice a1 L1.length c1] 26)
    have B1 := R2.new w5 (.bool g1) (.slice a1 L1.length c1) 26
    obtain ⟨kw0, kw1, -, -⟩ := id Bw
    obtain ⟨k10, k11, -, -⟩ := id B1
    go_wp2_with fail
    refine (OU.out _ T.s.f sL).mono ?_
    rintro r w6 ⟨D2, O2, a2, c2, rfl, h2, l2, s2, hb⟩
    clear kw0 kw1 k10 k11
    replace bel := bel_go bel hb
    replace T := T.below hb
    replace sL := sL.below hb
    replace Bw := Bw.below hb
    replace s1 := s1.below hb
    replace B1 := B1.below hb
    clear hb
    have q2 : O2 = false ∨ (O2 = true ∧ Nm.wn D2 = false) := by
      cases O2
      · exact .inl rfl
      · right
        obtain ⟨f1, f2⟩ := h2 rfl
        have := k5'.out f1
        rw [← f2] at this
        refine ⟨rfl, ?_⟩
        unfold Nm.wn; exact decide_eq_false (by omega)
    obtain ⟨g2, h_g2⟩ : ∃ q, q = Nm.wn D2 := ⟨_, rfl⟩
    obtain ⟨L2, h_L2⟩ : ∃ q, q = Nm.wl D2 := ⟨_, rfl⟩
    rw [← h_g2, ← h_L2]
    rw [← h_L2] at s2
    rw [← h_g2] at q2
    replace q2 := hid q2
    clear h_g2 h_L2 l2 h2
    replace T := T.below (al_b _ (.cells #[.bool g2, .slice a2 L2.length c2] 26))
    replace sL := sL.below (al_b _ (.cells #[.bool g2, .slice a2 L2.length c2] 26))
    replace Bw := Bw.below (al_b _ (.cells #[.bool g2, .slice a2 L2.length c2] 26))
    replace s1 := s1.below (al_b _ (.cells #[.bool g2, .slice a2 L2.length c2] 26))
    replace B1 := B1.below (al_b _ (.cells #[.bool g2, .slice a2 L2.length c2] 26))
    replace s2 := s2.below (al_b _ (.cells #[.bool g2, .slice a2 L2.length c2] 26))
    replace bel := bel_al bel (.cells #[.bool g2, .slice a2 L2.length c2] 26)
    have B2 := R2.new w6 (.bool g2) (.slice a2 L2.length c2) 26
    have q3 : ef = false → upF fm d = u := fun h => by
      rcases k3'.out with h' | h'
      · exfalso; rw [h'] at k2; simp at k2; rw [h] at k2; exact absurd k2 (by decide)
      · exact h'
    clear k3' k4' k5' RD RU GO OD OU
    have hlen : L1.length = 0 → ((L1.length : Int) == 0) = true := fun h => by rw [h]; rfl
    have eq_u : (u == u) = true := by simp
    have q1 := q1.out
    have q2 := q2.out
    rcases q1 with rfl | ⟨rfl, rfl | ⟨rfl, hz⟩⟩
    · rcases q2 with rfl | ⟨rfl, rfl⟩
      · cases ef
        · rw [q3 rfl] at UD
          obtain ⟨k10, k11, -, -⟩ := id B1
          obtain ⟨k20, k21, -, -⟩ := id B2
          go_wp2_with fail
          refine (UD.out _ T.s.f).mono ?_
          rintro r w7 ⟨rfl, hb⟩
          clear k10 k11 k20 k21
          replace bel := bel_go bel hb
          replace T := T.below hb
          replace B1 := B1.below hb
          replace B2 := B2.below hb
          clear hb
          obtain ⟨k10, k11, -, -⟩ := id B1
          obtain ⟨k20, k21, -, -⟩ := id B2
          go_wp2
          all_goals go_ret
          all_goals exact ⟨rfl, bel⟩
        · clear UD
          obtain ⟨k10, k11, -, -⟩ := id B1
          obtain ⟨k20, k21, -, -⟩ := id B2
          go_wp2
          all_goals go_ret
          all_goals exact ⟨rfl, bel⟩
      · cases ef
        · rw [q3 rfl] at UD
          obtain ⟨k10, k11, -, -⟩ := id B1
          obtain ⟨k20, k21, -, -⟩ := id B2
          go_wp2_with fail
          refine (UD.out _ T.s.f).mono ?_
          rintro r w7 ⟨rfl, hb⟩
          clear k10 k11 k20 k21
          replace bel := bel_go bel hb
          replace T := T.below hb
          replace B1 := B1.below hb
          replace B2 := B2.below hb
          clear hb
          obtain ⟨k10, k11, -, -⟩ := id B1
          obtain ⟨k20, k21, -, -⟩ := id B2
          go_wp2
          all_goals go_ret
          all_goals exact ⟨rfl, bel⟩
        · clear UD
          obtain ⟨k10, k11, -, -⟩ := id B1
          obtain ⟨k20, k21, -, -⟩ := id B2
          go_wp2
          all_goals go_ret
          all_goals exact ⟨rfl, bel⟩
    · rcases q2 with rfl | ⟨rfl, rfl⟩
      · cases ef
        · rw [q3 rfl] at UD
          obtain ⟨k10, k11, -, -⟩ := id B1
          obtain ⟨k20, k21, -, -⟩ := id B2
          go_wp2_with fail
          refine (UD.out _ T.s.f).mono ?_
          rintro r w7 ⟨rfl, hb⟩
          clear k10 k11 k20 k21
          replace bel := bel_go bel hb
          replace T := T.below hb
          replace B1 := B1.below hb
          replace B2 := B2.below hb
          clear hb
          obtain ⟨k10, k11, -, -⟩ := id B1
          obtain ⟨k20, k21, -, -⟩ := id B2
          go_wp2
          all_goals go_ret
          all_goals exact ⟨rfl, bel⟩
        · clear UD
          obtain ⟨k10, k11, -, -⟩ := id B1
          obtain ⟨k20, k21, -, -⟩ := id B2
          go_wp2
          all_goals go_ret
          all_goals exact ⟨rfl, bel⟩
      · cases ef
        · rw [q3 rfl] at UD
          obtain ⟨k10, k11, -, -⟩ := id B1
          obtain ⟨k20, k21, -, -⟩ := id B2
          go_wp2_with fail
          refine (UD.out _ T.s.f).mono ?_
          rintro r w7 ⟨rfl, hb⟩
          clear k10 k11 k20 k21
          replace bel := bel_go bel hb
          replace T := T.below hb
          replace B1 := B1.below hb
          replace B2 := B2.below hb
          clear hb
          obtain ⟨k10, k11, -, -⟩ := id B1
          obtain ⟨k20, k21, -, -⟩ := id B2
          go_wp2
          all_goals go_ret
          all_goals exact ⟨rfl, bel⟩
        · clear UD
          obtain ⟨k10, k11, -, -⟩ := id B1
          obtain ⟨k20, k21, -, -⟩ := id B2
          go_wp2
          all_goals go_ret
          all_goals exact ⟨rfl, bel⟩
    · replace hlen := hlen hz
      clear hz
      rcases q2 with rfl | ⟨rfl, rfl⟩
      · cases ef
        · rw [q3 rfl] at UD
          obtain ⟨k10, k11, -, -⟩ := id B1
          obtain ⟨k20, k21, -, -⟩ := id B2
          go_wp2_with fail
          refine (UD.out _ T.s.f).mono ?_
          rintro r w7 ⟨rfl, hb⟩
          clear k10 k11 k20 k21
          replace bel := bel_go bel hb
          replace T := T.below hb
          replace B1 := B1.below hb
          replace B2 := B2.below hb
          clear hb
          obtain ⟨k10, k11, -, -⟩ := id B1
          obtain ⟨k20, k21, -, -⟩ := id B2
          go_wp2
          all_goals go_ret
          all_goals exact ⟨rfl, bel⟩
        · clear UD
          obtain ⟨k10, k11, -, -⟩ := id B1
          obtain ⟨k20, k21, -, -⟩ := id B2
          go_wp2
          all_goals go_ret
          all_goals exact ⟨rfl, bel⟩
      · cases ef
        · rw [q3 rfl] at UD
          obtain ⟨k10, k11, -, -⟩ := id B1
          obtain ⟨k20, k21, -, -⟩ := id B2
          go_wp2_with fail
          refine (UD.out _ T.s.f).mono ?_
          rintro r w7 ⟨rfl, hb⟩
          clear k10 k11 k20 k21
          replace bel := bel_go bel hb
          replace T := T.below hb
          replace B1 := B1.below hb
          replace B2 := B2.below hb
          clear hb
          obtain ⟨k10, k11, -, -⟩ := id B1
          obtain ⟨k20, k21, -, -⟩ := id B2
          go_wp2
          all_goals go_ret
          all_goals exact ⟨rfl, bel⟩
        · clear UD
          obtain ⟨k10, k11, -, -⟩ := id B1
          obtain ⟨k20, k21, -, -⟩ := id B2
          go_wp2
          all_goals go_ret
          all_goals exact ⟨rfl, bel⟩
theorem brlaw_all (ca : Option Addr) (cc : Nat) (cs : List Int) (w : World) (hT : T3 w) (hs : Sl .u8 w (.slice ca cs.length cc) cs) (hby : ∀ i, 0 ≤ cs.getD i 0 ∧ cs.getD i 0 ≤ 255) :
    Calls Tryz.prog 4 #[.slice ca cs.length cc] w fun e w' => e = .returned (.bool true) ∧ Below w.heap.size w w' := by
  by_cases h : cs.length ≤ 1048576
  · exact brlaw ca cc cs w hT hs hby h
  · have hn : cs.length ≤ 9223372036854775807 := by obtain ⟨_, h1, h2, _⟩ := hs.cells; unfold maxLen at h2; omega
    have CB := hid (big_any ca cs.length cc w hn true (by simp; omega))
    clear hs hby h hn
    go_enter Tryz.func4, Tryz.ntmps4
    go_wp2_with fail
    refine CB.out.mono ?_
    rintro e w0 ⟨rfl, rfl⟩
    go_wp2
    go_ret
    exact ⟨rfl, Below.refl _ _⟩
end Fd
end Go.Proofs.YtbhfbaogmkgmiaaGreatDoor
