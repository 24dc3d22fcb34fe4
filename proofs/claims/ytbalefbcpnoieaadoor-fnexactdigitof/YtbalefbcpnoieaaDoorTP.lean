/-
  The highest bin of a float: by the program, by the specification; the law.
-/
import Derived.Test.YtbalefbcpnoieaaDoorG23
import Derived.Test.YtbalefbcpnoieaaDoorG14
import Derived.Test.YtbalefbcpnoieaaDoorG20
namespace Go.Proofs.YtbalefbcpnoieaaDoor
set_option linter.unusedVariables false
set_option linter.unusedSimpArgs false
open Go.RowKit Go.Deep
/-- A finite float is zero just where its M is. -/
theorem pM_zero {fm x : Int} (hx : okF fm x = true) (hf : finB fm x = true) : (absF fm x == 0) = decide (pM fm x = 0) := by
  rw [← cls_zero hx, Bool.eq_iff_iff, beq_iff_eq, decide_eq_true_eq]
  constructor
  · intro h
    have ha : (absF fm x == 0) = true := by rw [← cls_zero hx, h]; rfl
    have ha' : absF fm x = 0 := by simpa using ha
    unfold pM; rw [hf, if_pos rfl]
    rcases okF_cases hx with ⟨rfl, hx'⟩ | rfl
    · rw [abs32 hx'] at ha'
      rw [if_pos rfl, ha']; rfl
    · rw [abs64] at ha'
      rw [if_neg (by decide), ha']; rfl
  · intro h
    have hc : 0 ≤ cls fm x ∧ cls fm x ≤ 2 := by simpa [finB] using hf
    by_cases h12 : cls fm x = 1 ∨ cls fm x = 2
    · have := (pM_pos h12).2; omega
    · omega
theorem un_abs {fm x : Int} (hf : finB fm x = true) : (unI fm x).natAbs = Nm.sh (pM fm x).toNat (pE fm x - unQ fm) := by
  unfold unI; rw [hf, if_pos rfl]; cases pS fm x <;> simp
theorem un_zero {fm x : Int} (hx : okF fm x = true) (hf : finB fm x = true) : (absF fm x == 0) = decide (unI fm x = 0) := by
  rw [pM_zero hx hf, Bool.eq_iff_iff, decide_eq_true_eq, decide_eq_true_eq]
  have h1 := pE_q hf
  have hM := pM_bd fm x
  have ha := un_abs hf
  have e : Nm.sh (pM fm x).toNat (pE fm x - unQ fm) = (pM fm x).toNat * 2 ^ (pE fm x - unQ fm).toNat := by unfold Nm.sh; rw [if_neg (by omega)]
  rw [e] at ha
  have hp : 0 < 2 ^ (pE fm x - unQ fm).toNat := Nat.pow_pos (by decide)
  constructor
  · intro h; rw [h] at ha; simp at ha; omega
  · intro h; rw [h] at ha
    have : (pM fm x).toNat = 0 := by
      rcases Nat.mul_eq_zero.1 (show (pM fm x).toNat * 2 ^ (pE fm x - unQ fm).toNat = 0 by simpa using ha.symm) with h' | h'
      · exact h'
      · omega
    omega
/-- The highest bin. -/
def tpV (fm x : Int) : Int := ((bitLen (unI fm x).natAbs : Int) + 15) / 16 - 1
theorem fin_ok {fm x : Int} (hf : finB fm x = true) : okF fm x = true := by
  cases h : okF fm x
  · exfalso
    have : cls fm x = -1 := by unfold cls; rw [h]; rfl
    unfold finB at hf; rw [this] at hf; simp at hf
  · rfl
theorem blw (z : Int) (h : (Nm.wl z).length ≤ 200) : blW (Nm.wn z) (Nm.wl z) = (bitLen z.natAbs : Int) ∧ blL (Nm.wl z) = (bitLen z.natAbs : Int) := by
  have h1 : blL (Nm.wl z) = (bitLen z.natAbs : Int) := blL_lim z.natAbs
  exact ⟨by unfold blW; rw [okB_wl h, if_pos rfl, h1], h1⟩
theorem un_bl (fm x : Int) : bitLen (unI fm x).natAbs ≤ 2200 := by
  cases hf : finB fm x
  · rw [un_no hf]; decide
  · rw [un_abs hf]; exact un_bits hf
theorem bl_pos {z : Int} (h : z ≠ 0) : 1 ≤ bitLen z.natAbs := by
  have : ¬ bitLen z.natAbs ≤ 0 := by
    rw [Nm.bl_le_iff]; simp; omega
  omega
set_option maxHeartbeats 4000000 in
theorem top_impl (fm x : Int) (w : World) (hT : Tab w) (x0 : 0 ≤ x) (x1 : x < 18446744073709551616) (t : Int) (ht : t = tpV fm x) :
    Calls Tryd.prog 9 #[.int .i64 fm, .int .u64 x] w fun e w' => e = .returned (.int .i64 t) ∧ Below w.heap.size w w' := by
  have C := hid (fun w' h => units_impl fm x w' h x0 x1)
  have hl := un_len fm x
  have hd := Nm.wl_dg (unI fm x)
  have hb := blw (unI fm x) hl
  have CB := hid (fun a c w' h => bl_impl (Nm.wn (unI fm x)) a c (Nm.wl (unI fm x)) w' h hd (by omega))
  rw [hb.1] at CB
  have hbd := un_bl fm x
  unfold Ans at C
  unfold tpV at ht
  obtain ⟨n, hn⟩ : ∃ n : Int, n = (bitLen (unI fm x).natAbs : Int) := ⟨_, rfl⟩
  obtain ⟨G, hG⟩ : ∃ G, G = Nm.wn (unI fm x) := ⟨_, rfl⟩
  obtain ⟨L, hL⟩ : ∃ L, L = Nm.wl (unI fm x) := ⟨_, rfl⟩
  obtain ⟨O, hO⟩ : ∃ O, O = finB fm x := ⟨_, rfl⟩
  simp only [← hG, ← hL, ← hO] at C
  simp only [← hn, ← hG, ← hL] at CB
  rw [← hn] at ht
  have n0 : 0 ≤ n := by omega
  have n1 : n ≤ 2200 := by omega
  have HT := hid ht
  clear hn hG hL hO hb hbd hd hl ht
  have ht1 : IntKind.i64.wrap (n + 16) = n + 16 := by rw [IntKind.wrap_i64]; omega
  go_enter Tryd.func9, Tryd.ntmps9
  go_wp2_with fail
  refine (C.out _ hT).mono ?_
  rintro e w1 ⟨a1, c1, rfl, o1, hb1⟩
  have B1 := Box.new w1 (.bool G) (.slice a1 L.length c1) 30
  obtain ⟨b0, b1⟩ := B1
  go_wp2_with fail
  refine (CB.out a1 c1 _ (o1.alloc _).sl).mono ?_
  rintro e w2 ⟨rfl, hb2⟩
  go_wp2
  go_ret
  exact ⟨ret_int (by rw [HT.out]; omega), (by repeat (first | exact Below.refl _ _ | refine Below.drew ?_ | refine bel_dn ?_ _ | refine bel_al ?_ _ | refine bel_go ?_ hb2 | refine bel_go ?_ hb1 | refine Below.setCell ?_ (by first | omega | (simp; done) | (simp; omega)) _ | refine Below.alloc ?_ (by first | omega | (simp; done) | (simp; omega)) _ | refine Below.trans ?_ (Below.mono hb2 (by first | omega | (simp; done) | (simp; omega))) | refine Below.trans ?_ (Below.mono hb1 (by first | omega | (simp; done) | (simp; omega)))))⟩
theorem zeroS (fm x : Int) (w : World) (h : okF fm x = true) (h0 : 0 ≤ x) (h1 : x < 18446744073709551616) :
    Calls Tryd.prog 30 #[.int .i64 fm, .int .u64 x] w fun e w' => e = .returned (.bool (absF fm x == 0)) ∧ Below w.heap.size w w' := by
  have C := hid (fun w' => spec_l2abs fm x w' h h0 h1)
  obtain ⟨a, ha⟩ : ∃ a, a = absF fm x := ⟨_, rfl⟩
  rw [← ha] at C ⊢
  clear ha
  go_enter Tryd.func30, Tryd.ntmps30
  go_wp2_with fail
  refine (C.out _).mono ?_
  rintro r w1 ⟨rfl, hb1⟩
  go_wp2
  go_ret
  exact ⟨rfl, (by repeat (first | exact Below.refl _ _ | refine Below.drew ?_ | refine bel_dn ?_ _ | refine bel_al ?_ _ | refine bel_go ?_ hb1 | refine Below.setCell ?_ (by first | omega | (simp; done) | (simp; omega)) _ | refine Below.alloc ?_ (by first | omega | (simp; done) | (simp; omega)) _ | refine Below.trans ?_ (Below.mono hb1 (by first | omega | (simp; done) | (simp; omega)))))⟩
set_option maxHeartbeats 4000000 in
theorem top_spec (fm x : Int) (w : World) (x0 : 0 ≤ x) (x1 : x < 18446744073709551616) (t : Int) (ht : t = tpV fm x) :
    Calls Tryd.prog 8 #[.int .i64 fm, .int .u64 x] w fun e w' => e = .returned (.int .i64 t) ∧ Below w.heap.size w w' := by
  have CF := hid (fun w' => spec_fin fm x w' x0 x1)
  cases hf : finB fm x
  · rw [hf] at CF
    have ht' : t = -1 := by rw [ht]; unfold tpV; rw [un_no hf]; decide
    subst ht'
    clear hf ht
    go_enter Tryd.func8, Tryd.ntmps8
    go_wp2_with fail
    refine (CF.out _).mono ?_
    rintro e w1 ⟨rfl, hb1⟩
    go_wp2
    go_ret
    exact ⟨rfl, (by repeat (first | exact Below.refl _ _ | refine Below.drew ?_ | refine bel_dn ?_ _ | refine bel_al ?_ _ | refine bel_go ?_ hb1 | refine Below.setCell ?_ (by first | omega | (simp; done) | (simp; omega)) _ | refine Below.alloc ?_ (by first | omega | (simp; done) | (simp; omega)) _ | refine Below.trans ?_ (Below.mono hb1 (by first | omega | (simp; done) | (simp; omega)))))⟩
  rw [hf] at CF
  have hx := fin_ok hf
  have CZ := hid (fun w' => zeroS fm x w' hx x0 x1)
  rw [un_zero hx hf] at CZ
  by_cases hz : unI fm x = 0
  · rw [decide_eq_true hz] at CZ
    have ht' : t = -1 := by rw [ht]; unfold tpV; rw [hz]; decide
    subst ht'
    clear hf ht hz hx
    go_enter Tryd.func8, Tryd.ntmps8
    go_wp2_with fail
    refine (CF.out _).mono ?_
    rintro e w1 ⟨rfl, hb1⟩
    go_wp2_with fail
    refine (CZ.out _).mono ?_
    rintro e w2 ⟨rfl, hb2⟩
    go_wp2
    go_ret
    exact ⟨rfl, (by repeat (first | exact Below.refl _ _ | refine Below.drew ?_ | refine bel_dn ?_ _ | refine bel_al ?_ _ | refine bel_go ?_ hb2 | refine bel_go ?_ hb1 | refine Below.setCell ?_ (by first | omega | (simp; done) | (simp; omega)) _ | refine Below.alloc ?_ (by first | omega | (simp; done) | (simp; omega)) _ | refine Below.trans ?_ (Below.mono hb2 (by first | omega | (simp; done) | (simp; omega))) | refine Below.trans ?_ (Below.mono hb1 (by first | omega | (simp; done) | (simp; omega)))))⟩
  · rw [decide_eq_false hz] at CZ
    have CU := hid (fun w' => l2units_any fm x w' hf x0 x1)
    have hl := un_len fm x
    have hd := Nm.wl_dg (unI fm x)
    have hb := (blw (unI fm x) hl).2
    have hbd := un_bl fm x
    have hbp := bl_pos hz
    have CB := hid (fun a c w' h => l1Bits_any (Nm.wn (unI fm x)) a c (Nm.wl (unI fm x)) w' h hd (by omega))
    rw [hb] at CB
    unfold tpV at ht
    obtain ⟨n, hn⟩ : ∃ n : Int, n = (bitLen (unI fm x).natAbs : Int) := ⟨_, rfl⟩
    obtain ⟨G, hG⟩ : ∃ G, G = Nm.wn (unI fm x) := ⟨_, rfl⟩
    obtain ⟨L, hL⟩ : ∃ L, L = Nm.wl (unI fm x) := ⟨_, rfl⟩
    simp only [← hG, ← hL] at CU
    simp only [← hn, ← hG, ← hL] at CB
    rw [← hn] at ht
    have n0 : 1 ≤ n := by omega
    have n1 : n ≤ 2200 := by omega
    have HT := hid ht
    clear hn hG hL hb hbd hbp hd hl ht hz hx hf
    go_enter Tryd.func8, Tryd.ntmps8
    go_wp2_with fail
    refine (CF.out _).mono ?_
    rintro e w1 ⟨rfl, hb1⟩
    go_wp2_with fail
    refine (CZ.out _).mono ?_
    rintro e w2 ⟨rfl, hb2⟩
    go_wp2_with fail
    refine (CU.out _).mono ?_
    rintro e w3 ⟨a3, c3, rfl, o3, hb3⟩
    go_wp2_with fail
    refine (CB.out a3 c3 _ o3.sl).mono ?_
    rintro e w4 ⟨rfl, hb4⟩
    go_wp2
    go_ret
    exact ⟨ret_int (by rw [HT.out]; omega), (by repeat (first | exact Below.refl _ _ | refine Below.drew ?_ | refine bel_dn ?_ _ | refine bel_al ?_ _ | refine bel_go ?_ hb4 | refine bel_go ?_ hb3 | refine bel_go ?_ hb2 | refine bel_go ?_ hb1 | refine Below.setCell ?_ (by first | omega | (simp; done) | (simp; omega)) _ | refine Below.alloc ?_ (by first | omega | (simp; done) | (simp; omega)) _ | refine Below.trans ?_ (Below.mono hb4 (by first | omega | (simp; done) | (simp; omega))) | refine Below.trans ?_ (Below.mono hb3 (by first | omega | (simp; done) | (simp; omega))) | refine Below.trans ?_ (Below.mono hb2 (by first | omega | (simp; done) | (simp; omega))) | refine Below.trans ?_ (Below.mono hb1 (by first | omega | (simp; done) | (simp; omega)))))⟩
theorem law_TopOf (fm x : Int) (w : World) (hT : Tab w) (x0 : 0 ≤ x) (x1 : x < 18446744073709551616) :
    Calls Tryd.prog 3 #[.int .i64 fm, .int .u64 x] w fun e w' => e = .returned (.bool true) ∧ Below w.heap.size w w' := by
  obtain ⟨t, ht⟩ : ∃ t, t = tpV fm x := ⟨_, rfl⟩
  have CS := hid (fun w' => top_spec fm x w' x0 x1 t ht)
  have CI := hid (fun w' h => top_impl fm x w' h x0 x1 t ht)
  have q1 : (t != t) = false := by simp
  clear ht
  go_enter Tryd.func3, Tryd.ntmps3
  go_wp2_with fail
  refine (CS.out _).mono ?_
  rintro e w1 ⟨rfl, hb1⟩
  go_wp2_with fail
  refine (CI.out _ (hT.below hb1)).mono ?_
  rintro e w2 ⟨rfl, hb2⟩
  go_wp2
  go_ret
  exact ⟨rfl, (by repeat (first | exact Below.refl _ _ | refine Below.drew ?_ | refine bel_dn ?_ _ | refine bel_al ?_ _ | refine bel_go ?_ hb2 | refine bel_go ?_ hb1 | refine Below.setCell ?_ (by first | omega | (simp; done) | (simp; omega)) _ | refine Below.alloc ?_ (by first | omega | (simp; done) | (simp; omega)) _ | refine Below.trans ?_ (Below.mono hb2 (by first | omega | (simp; done) | (simp; omega))) | refine Below.trans ?_ (Below.mono hb1 (by first | omega | (simp; done) | (simp; omega)))))⟩
end Go.Proofs.YtbalefbcpnoieaaDoor
