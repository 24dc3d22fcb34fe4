/-
  Several texts in one: FloatM, RB.
-/
import Derived.Test.YtojcaoccjapdoaaDoorG12
import Derived.Test.YtojcaoccjapdoaaDoorG08
import Derived.Deep.RegionWith
import Derived.Deep.DeepCutAuto
/-
  Floats: the next one down.
-/
namespace Go.Proofs.YtojcaoccjapdoaaDoor
set_option linter.unusedVariables false
set_option linter.unusedSimpArgs false
open Go.RowKit
/-- The next float down. -/
def downF (fm x : Int) : Int := if numB fm x then negF fm (upF fm (negF fm x)) else upF fm x
theorem down_no {fm x : Int} (h : numB fm x = false) : downF fm x = upF fm x := by unfold downF; rw [h]; rfl
theorem down_num {fm x : Int} (h : numB fm x = true) : downF fm x = negF fm (upF fm (negF fm x)) := by unfold downF; rw [h]; rfl
theorem neg_ok {fm x : Int} (h : okF fm x = true) (h0 : 0 ≤ x) (h1 : x < 18446744073709551616) : okF fm (negF fm x) = true ∧ 0 ≤ negF fm x ∧ negF fm x < 18446744073709551616 := by
  rcases okF_cases h with ⟨rfl, hx⟩ | rfl
  · rw [neg32 hx]
    split
    · exact ⟨okF32 (by omega), by omega, by omega⟩
    · exact ⟨okF32 (by omega), by omega, by omega⟩
  · rw [neg64]
    split
    · exact ⟨okF64, by omega, by omega⟩
    · exact ⟨okF64, by omega, by omega⟩
theorem up_ok {fm x : Int} (h : okF fm x = true) (h0 : 0 ≤ x) (h1 : x < 18446744073709551616) : okF fm (upF fm x) = true ∧ 0 ≤ upF fm x ∧ upF fm x < 18446744073709551616 := by
  cases hn : nanB fm x
  rotate_left
  · rw [up_nan h hn]; rcases okF_cases h with ⟨rfl, hx⟩ | rfl <;> exact ⟨by decide, by decide, by decide⟩
  cases hz : (absF fm x == 0)
  rotate_left
  · rw [up_zero h hn hz]; rcases okF_cases h with ⟨rfl, hx⟩ | rfl <;> exact ⟨by decide, by decide, by decide⟩
  cases hs : sigB fm x
  · have bd := up_bd h h0 hn hs
    cases hi : (x == infOf fm)
    · rw [up_pos h hn hz hs hi]
      rcases okF_cases h with ⟨rfl, hx⟩ | rfl
      · unfold nanB infOf at hn; unfold sigB at hs; rw [abs32 hx] at hn hs; simp at hn hs
        exact ⟨okF32 (by omega), by omega, by omega⟩
      · exact ⟨okF64, by omega, by omega⟩
    · rw [up_inf h hn hz hs hi]; exact ⟨h, h0, h1⟩
  · have bd := up_bd' (fm := fm) h0 hs
    rw [up_neg h hn hz hs]
    rcases okF_cases h with ⟨rfl, hx⟩ | rfl
    · exact ⟨okF32 (by omega), by omega, by omega⟩
    · exact ⟨okF64, by omega, by omega⟩
theorem num_ok {fm x : Int} (h : numB fm x = true) : okF fm x = true := by
  cases ho : okF fm x
  · rw [num_no ho] at h; cases h
  · rfl

set_option maxHeartbeats 2000000 in
theorem impl_down (fm x : Int) (w : World) (hT : Tab w) (h0 : 0 ≤ x) (h1 : x < 18446744073709551616) :
    Calls Tryd.prog 22 #[.int .i64 fm, .int .u64 x] w fun e w' => e = .returned (.int .u64 (downF fm x)) ∧ Below w.heap.size w w' := by
  cases hn : numB fm x
  · have HR := hid (down_no hn)
    go_enter Tryd.func22, Tryd.ntmps22
    go_wp2_with fail
    refine (impl_num fm x _ hT h0 h1).mono ?_
    rintro e w1 ⟨rfl, hb1⟩
    go_wp2_with fail
    refine (impl_up fm x _ (hT.below hb1) h0 h1).mono ?_
    rintro e w2 ⟨rfl, hb2⟩
    go_wp2
    go_ret
    exact ⟨ret_int HR.out.symm, (by repeat (first | exact Below.refl _ _ | refine Below.drew ?_ | refine bel_dn ?_ _ | refine bel_al ?_ _ | refine bel_go ?_ hb2 | refine bel_go ?_ hb1 | refine Below.setCell ?_ (by first | omega | (simp; done) | (simp; omega)) _ | refine Below.alloc ?_ (by first | omega | (simp; done) | (simp; omega)) _ | refine Below.trans ?_ (Below.mono hb2 (by first | omega | (simp; done) | (simp; omega))) | refine Below.trans ?_ (Below.mono hb1 (by first | omega | (simp; done) | (simp; omega)))))⟩
  · have HR := hid (down_num hn)
    have ho := num_ok hn
    have ⟨o1, p1, q1⟩ := neg_ok ho h0 h1
    have ⟨o2, p2, q2⟩ := up_ok o1 p1 q1
    go_enter Tryd.func22, Tryd.ntmps22
    go_wp2_with fail
    refine (impl_num fm x _ hT h0 h1).mono ?_
    rintro e w1 ⟨rfl, hb1⟩
    have hT1 := hT.below hb1
    go_wp2_with fail
    refine (impl_neg fm x _ hT1 h0 h1).mono ?_
    rintro e w2 ⟨rfl, hb2⟩
    have hT2 := hT1.below hb2
    go_wp2_with fail
    refine (impl_up fm _ _ hT2 p1 q1).mono ?_
    rintro e w3 ⟨rfl, hb3⟩
    have hT3 := hT2.below hb3
    go_wp2_with fail
    refine (impl_neg fm _ _ hT3 p2 q2).mono ?_
    rintro e w4 ⟨rfl, hb4⟩
    go_wp2
    go_ret
    exact ⟨ret_int HR.out.symm, (by repeat (first | exact Below.refl _ _ | refine Below.drew ?_ | refine bel_dn ?_ _ | refine bel_al ?_ _ | refine bel_go ?_ hb4 | refine bel_go ?_ hb3 | refine bel_go ?_ hb2 | refine bel_go ?_ hb1 | refine Below.setCell ?_ (by first | omega | (simp; done) | (simp; omega)) _ | refine Below.alloc ?_ (by first | omega | (simp; done) | (simp; omega)) _ | refine Below.trans ?_ (Below.mono hb4 (by first | omega | (simp; done) | (simp; omega))) | refine Below.trans ?_ (Below.mono hb3 (by first | omega | (simp; done) | (simp; omega))) | refine Below.trans ?_ (Below.mono hb2 (by first | omega | (simp; done) | (simp; omega))) | refine Below.trans ?_ (Below.mono hb1 (by first | omega | (simp; done) | (simp; omega)))))⟩
theorem spec_sign (fm x : Int) (w : World) (h : okF fm x = true) :
    Calls Tryd.prog 65 #[.int .i64 fm] w fun e w' => e = .returned (.int .u64 (sgOf fm)) ∧ Below w.heap.size w w' := by
  rcases okF_cases h with ⟨rfl, hx⟩ | rfl
  · go_enter Tryd.func65, Tryd.ntmps65
    go_wp2
    go_ret
    exact ⟨rfl, (by repeat (first | exact Below.refl _ _ | refine Below.drew ?_ | refine bel_dn ?_ _ | refine bel_al ?_ _ | refine Below.setCell ?_ (by first | omega | (simp; done) | (simp; omega)) _ | refine Below.alloc ?_ (by first | omega | (simp; done) | (simp; omega)) _))⟩
  · go_enter Tryd.func65, Tryd.ntmps65
    go_wp2
    go_ret
    exact ⟨rfl, (by repeat (first | exact Below.refl _ _ | refine Below.drew ?_ | refine bel_dn ?_ _ | refine bel_al ?_ _ | refine Below.setCell ?_ (by first | omega | (simp; done) | (simp; omega)) _ | refine Below.alloc ?_ (by first | omega | (simp; done) | (simp; omega)) _))⟩
theorem xor_neg {fm x : Int} (h : okF fm x = true) (h0 : 0 ≤ x) (h1 : x < 18446744073709551616) : bits .xor .u64 x (sgOf fm) = negF fm x := by
  rcases okF_cases h with ⟨rfl, hx⟩ | rfl
  · rw [neg32 hx, show sgOf 32 = 2147483648 from rfl, Bt.xor31 x h0 h1]; split <;> split <;> omega
  · rw [neg64, show sgOf 64 = 9223372036854775808 from rfl, Bt.xor63 x h0 h1]; split <;> split <;> omega
set_option maxHeartbeats 2000000 in
theorem spec_down (fm x : Int) (w : World) (h0 : 0 ≤ x) (h1 : x < 18446744073709551616) :
    Calls Tryd.prog 34 #[.int .i64 fm, .int .u64 x] w fun e w' => e = .returned (.int .u64 (downF fm x)) ∧ Below w.heap.size w w' := by
  cases ho : okF fm x
  · have HR : Hid (downF fm x = 0) := hid (by rw [down_no (num_no ho), up_no ho])
    go_enter Tryd.func34, Tryd.ntmps34
    go_wp2_with fail
    refine (spec_ok fm x _).mono ?_
    rintro e w1 ⟨rfl, hb1⟩
    go_wp2
    go_ret
    exact ⟨ret_int HR.out.symm, (by repeat (first | exact Below.refl _ _ | refine Below.drew ?_ | refine bel_dn ?_ _ | refine bel_al ?_ _ | refine bel_go ?_ hb1 | refine Below.setCell ?_ (by first | omega | (simp; done) | (simp; omega)) _ | refine Below.alloc ?_ (by first | omega | (simp; done) | (simp; omega)) _ | refine Below.trans ?_ (Below.mono hb1 (by first | omega | (simp; done) | (simp; omega)))))⟩
  have HO := hid ho
  have NN := hid (num_nan ho)
  cases hn : nanB fm x
  rotate_left
  · have HR : Hid (downF fm x = nanOf fm) := hid (by rw [down_no (by rw [NN.out, hn]; rfl), up_nan ho hn])
    go_enter Tryd.func34, Tryd.ntmps34
    go_wp2_with fail
    refine (spec_ok fm x _).mono ?_
    rintro e w1 ⟨rfl, hb1⟩
    go_wp2_with fail
    refine (spec_nan fm x _ HO.out h0 h1).mono ?_
    rintro e w2 ⟨rfl, hb2⟩
    go_wp2_with fail
    refine (spec_nanG fm x _ HO.out).mono ?_
    rintro e w3 ⟨rfl, hb3⟩
    go_wp2
    go_ret
    exact ⟨ret_int HR.out.symm, (by repeat (first | exact Below.refl _ _ | refine Below.drew ?_ | refine bel_dn ?_ _ | refine bel_al ?_ _ | refine bel_go ?_ hb3 | refine bel_go ?_ hb2 | refine bel_go ?_ hb1 | refine Below.setCell ?_ (by first | omega | (simp; done) | (simp; omega)) _ | refine Below.alloc ?_ (by first | omega | (simp; done) | (simp; omega)) _ | refine Below.trans ?_ (Below.mono hb3 (by first | omega | (simp; done) | (simp; omega))) | refine Below.trans ?_ (Below.mono hb2 (by first | omega | (simp; done) | (simp; omega))) | refine Below.trans ?_ (Below.mono hb1 (by first | omega | (simp; done) | (simp; omega)))))⟩
  · have HR := hid (down_num (show numB fm x = true by rw [NN.out, hn]; rfl))
    have ⟨o1, p1, q1⟩ := neg_ok ho h0 h1
    have ⟨o2, p2, q2⟩ := up_ok o1 p1 q1
    have e1 := xor_neg ho h0 h1
    have e2 := xor_neg o2 p2 q2
    go_enter Tryd.func34, Tryd.ntmps34
    go_wp2_with fail
    refine (spec_ok fm x _).mono ?_
    rintro e w1 ⟨rfl, hb1⟩
    go_wp2_with fail
    refine (spec_nan fm x _ HO.out h0 h1).mono ?_
    rintro e w2 ⟨rfl, hb2⟩
    go_wp2_with fail
    refine (spec_sign fm x _ HO.out).mono ?_
    rintro e w3 ⟨rfl, hb3⟩
    go_wp2_with fail
    refine (spec_up fm _ _ p1 q1).mono ?_
    rintro e w4 ⟨rfl, hb4⟩
    go_wp2_with fail
    refine (spec_sign fm x _ HO.out).mono ?_
    rintro e w5 ⟨rfl, hb5⟩
    go_wp2
    go_ret
    exact ⟨ret_int HR.out.symm, (by repeat (first | exact Below.refl _ _ | refine Below.drew ?_ | refine bel_dn ?_ _ | refine bel_al ?_ _ | refine bel_go ?_ hb5 | refine bel_go ?_ hb4 | refine bel_go ?_ hb3 | refine bel_go ?_ hb2 | refine bel_go ?_ hb1 | refine Below.setCell ?_ (by first | omega | (simp; done) | (simp; omega)) _ | refine Below.alloc ?_ (by first | omega | (simp; done) | (simp; omega)) _ | refine Below.trans ?_ (Below.mono hb5 (by first | omega | (simp; done) | (simp; omega))) | refine Below.trans ?_ (Below.mono hb4 (by first | omega | (simp; done) | (simp; omega))) | refine Below.trans ?_ (Below.mono hb3 (by first | omega | (simp; done) | (simp; omega))) | refine Below.trans ?_ (Below.mono hb2 (by first | omega | (simp; done) | (simp; omega))) | refine Below.trans ?_ (Below.mono hb1 (by first | omega | (simp; done) | (simp; omega)))))⟩
end Go.Proofs.YtojcaoccjapdoaaDoor
/-
  The float of so many units, by the specification.
-/
namespace Go.Proofs.YtojcaoccjapdoaaDoor
set_option linter.unusedVariables false
set_option linter.unusedSimpArgs false
open Go.RowKit Go.Deep
theorem sP_32 (w : World) :
    Calls Tryd.prog 68 #[.int .i64 32] w fun e w' => e = .returned (.int .i64 24) ∧ w' = w := by
  go_enter Tryd.func68, Tryd.ntmps68
  go_wp2
  go_ret
  exact ⟨rfl, rfl⟩
theorem sS_32 (w : World) :
    Calls Tryd.prog 65 #[.int .i64 32] w fun e w' => e = .returned (.int .u64 2147483648) ∧ Below w.heap.size w w' := by
  go_enter Tryd.func65, Tryd.ntmps65
  go_wp2
  go_ret
  exact ⟨rfl, (by repeat (first | exact Below.refl _ _ | refine Below.drew ?_ | refine bel_dn ?_ _ | refine bel_al ?_ _ | refine Below.setCell ?_ (by first | omega | (simp; done) | (simp; omega)) _ | refine Below.alloc ?_ (by first | omega | (simp; done) | (simp; omega)) _))⟩
theorem sQ_32 (w : World) :
    Calls Tryd.prog 90 #[.int .i64 32] w fun e w' => e = .returned (.int .i64 (-149)) ∧ w' = w := by
  go_enter Tryd.func90, Tryd.ntmps90
  go_wp2
  go_ret
  exact ⟨rfl, rfl⟩
theorem sP_64 (w : World) :
    Calls Tryd.prog 68 #[.int .i64 64] w fun e w' => e = .returned (.int .i64 53) ∧ w' = w := by
  go_enter Tryd.func68, Tryd.ntmps68
  go_wp2
  go_ret
  exact ⟨rfl, rfl⟩
theorem sS_64 (w : World) :
    Calls Tryd.prog 65 #[.int .i64 64] w fun e w' => e = .returned (.int .u64 9223372036854775808) ∧ Below w.heap.size w w' := by
  go_enter Tryd.func65, Tryd.ntmps65
  go_wp2
  go_ret
  exact ⟨rfl, (by repeat (first | exact Below.refl _ _ | refine Below.drew ?_ | refine bel_dn ?_ _ | refine bel_al ?_ _ | refine Below.setCell ?_ (by first | omega | (simp; done) | (simp; omega)) _ | refine Below.alloc ?_ (by first | omega | (simp; done) | (simp; omega)) _))⟩
theorem sQ_64 (w : World) :
    Calls Tryd.prog 90 #[.int .i64 64] w fun e w' => e = .returned (.int .i64 (-1074)) ∧ w' = w := by
  go_enter Tryd.func90, Tryd.ntmps90
  go_wp2
  go_ret
  exact ⟨rfl, rfl⟩
set_option maxHeartbeats 1000000 in
theorem with_32 (x : Int) (ng : Bool) (w : World) (h : ng = true → 0 ≤ x ∧ x < 2147483648) :
    Calls Tryd.prog 93 #[.int .i64 32, .int .u64 x, .bool ng] w fun e w' => e = .returned (.int .u64 (sgn 2147483648 x ng)) ∧ Below w.heap.size w w' := by
  cases ng
  · go_enter Tryd.func93, Tryd.ntmps93
    go_wp2
    go_ret
    exact ⟨rfl, (by repeat (first | exact Below.refl _ _ | refine Below.drew ?_ | refine bel_dn ?_ _ | refine bel_al ?_ _ | refine Below.setCell ?_ (by first | omega | (simp; done) | (simp; omega)) _ | refine Below.alloc ?_ (by first | omega | (simp; done) | (simp; omega)) _))⟩
  · obtain ⟨h0, h1⟩ := h rfl
    have e2 := Bt.or31 x h0 h1
    go_enter Tryd.func93, Tryd.ntmps93
    go_wp2_with fail
    refine (sS_32 _).mono ?_
    rintro e w1 ⟨rfl, hb1⟩
    go_wp2
    go_ret
    exact ⟨rfl, (by repeat (first | exact Below.refl _ _ | refine Below.drew ?_ | refine bel_dn ?_ _ | refine bel_al ?_ _ | refine bel_go ?_ hb1 | refine Below.setCell ?_ (by first | omega | (simp; done) | (simp; omega)) _ | refine Below.alloc ?_ (by first | omega | (simp; done) | (simp; omega)) _ | refine Below.trans ?_ (Below.mono hb1 (by first | omega | (simp; done) | (simp; omega)))))⟩
set_option maxHeartbeats 1000000 in
theorem with_64 (x : Int) (ng : Bool) (w : World) (h : ng = true → 0 ≤ x ∧ x < 9223372036854775808) :
    Calls Tryd.prog 93 #[.int .i64 64, .int .u64 x, .bool ng] w fun e w' => e = .returned (.int .u64 (sgn 9223372036854775808 x ng)) ∧ Below w.heap.size w w' := by
  cases ng
  · go_enter Tryd.func93, Tryd.ntmps93
    go_wp2
    go_ret
    exact ⟨rfl, (by repeat (first | exact Below.refl _ _ | refine Below.drew ?_ | refine bel_dn ?_ _ | refine bel_al ?_ _ | refine Below.setCell ?_ (by first | omega | (simp; done) | (simp; omega)) _ | refine Below.alloc ?_ (by first | omega | (simp; done) | (simp; omega)) _))⟩
  · obtain ⟨h0, h1⟩ := h rfl
    have e2 := Bt.or63 x h0 h1
    go_enter Tryd.func93, Tryd.ntmps93
    go_wp2_with fail
    refine (sS_64 _).mono ?_
    rintro e w1 ⟨rfl, hb1⟩
    go_wp2
    go_ret
    exact ⟨rfl, (by repeat (first | exact Below.refl _ _ | refine Below.drew ?_ | refine bel_dn ?_ _ | refine bel_al ?_ _ | refine bel_go ?_ hb1 | refine Below.setCell ?_ (by first | omega | (simp; done) | (simp; omega)) _ | refine Below.alloc ?_ (by first | omega | (simp; done) | (simp; omega)) _ | refine Below.trans ?_ (Below.mono hb1 (by first | omega | (simp; done) | (simp; omega)))))⟩
theorem cmp2_eq {x y : Nat} : Nm.cmp2 x y = 0 ↔ x = y := by unfold Nm.cmp2; split <;> (try split) <;> omega
/-- Two boxes kept, and what lies behind one. -/
theorem box2_below {w w' : World} {b b' : Nat} {v0 v1 u0 u1 : Value} (h : Box w b v0 v1) (k : Box w b' u0 u1) (hb : Below w.heap.size w w') : Box w' b v0 v1 ∧ Box w' b' u0 u1 := ⟨h.below hb, k.below hb⟩
set_option maxHeartbeats 2000000 in
theorem l2f_32A (u : Nat) (a : Option Addr) (c : Nat) (w : World) (hx : Sl .u32 w (.slice a (Nm.lim u).length c) (Nm.lim u)) (hl : bitLen u ≤ 90000) (hc : ((bitLen u : Nat) : Int) - 24 < 0) :
    Calls Tryd.prog 139 #[.int .i64 32, .agg #[.bool false, .slice a (Nm.lim u).length c]] w fun e w' => (∃ x : Int, e = .returned (.tuple #[.int .u64 x, .bool (Nm.flo 24 2139095040 u)]) ∧ (Nm.flo 24 2139095040 u = true → x = (Nm.flb 24 u : Nat))) ∧ Below w.heap.size w w' := by
  obtain ⟨K, hK⟩ : ∃ K, K = bitLen u - 24 := ⟨_, rfl⟩
  obtain ⟨m, hm⟩ : ∃ m, m = u / 2 ^ K := ⟨_, rfl⟩
  have hm64 : m < 18446744073709551616 := by have := Nm.flm_lt 24 u; rw [hm, hK]; omega
  obtain ⟨z, hz⟩ : ∃ z : Int, z = (m : Int) := ⟨_, rfl⟩
  have HZ := hid hz
  have z0 : 0 ≤ z := by omega
  have z1 : z < 16777216 := by have := Nm.flm_lt 24 u; rw [← hK, ← hm] at this; omega
  clear hz
  have HV : Hid ((0 : Int) = (K : Int)) := hid (by omega)
  have HN : Hid ((0 : Int) = -(K : Int)) := hid (by omega)
  have e1 : Nm.sh u (-(K : Int)) = m := by
    unfold Nm.sh; rw [hm]
    by_cases h0 : K = 0
    · subst h0; simp
    · rw [if_pos (by omega)]; simp
  have e2 : Nm.sh m (K : Int) = m * 2 ^ K := by unfold Nm.sh; rw [if_neg (by omega)]; simp
  have HE2 := hid e2
  have HE1 := hid e1
  have hKl : (K : Int) ≤ 90000 := by omega
  clear e1 e2
  by_cases h1 : K ≤ 2100
  · have h1' : (0 : Int) ≤ 2100 := by omega
    have hi : ¬ (0 : Int) > 2100 := by omega
    have HK := hid hK
    have HM := hid hm
    clear hK hm h1
    go_enter Tryd.func139, Tryd.ntmps139
    go_wp2_with fail
    refine (bits_n u false a c _ (hx.alloc _) (by omega)).mono ?_
    rintro e w1 ⟨rfl, hb1⟩
    go_wp2_with fail
    refine (sP_32 _).mono ?_
    rintro e w2 ⟨rfl, rfl⟩
    have x1 := (Box.new w (.bool false) (.slice a (Nm.lim u).length c) 31).below hb1
    obtain ⟨x10, x11⟩ := x1
    have s1 := (hx.alloc _).below hb1
    go_wp2_with fail
    have hsh := shift_n u (0 : Int) a c _ s1 (by omega) (by omega) (by omega)
    rw [HN.out, HE1.out, ← HN.out] at hsh
    refine hsh.mono ?_
    clear hsh
    rintro e w3 ⟨a3, c3, rfl, ho3, hb3⟩
    have x3 := (Box.below ⟨x10, x11⟩ hb3).alloc (.cells #[.bool false, .slice a3 (Nm.lim m).length c3] 31)
    have m3 := Box.new w3 (.bool false) (.slice a3 (Nm.lim m).length c3) 31
    have s3 := (s1.below hb3).alloc (.cells #[.bool false, .slice a3 (Nm.lim m).length c3] 31)
    have o3 := ho3.sl.alloc (.cells #[.bool false, .slice a3 (Nm.lim m).length c3] 31)
    go_upto_region 5 with fail
    go_cut [26] (fun s wx => s = .bool (Nm.cmp2 (m * 2 ^ K) u != 0) ∧ Box wx w.heap.size (.bool false) (.slice a (Nm.lim u).length c) ∧ Box wx w3.heap.size (.bool false) (.slice a3 (Nm.lim m).length c3) ∧ Sl .u32 wx (.slice a3 (Nm.lim m).length c3) (Nm.lim m) ∧ Below w.heap.size w wx)
    case first =>
      have hsh := fun w' h => shift_n m (0 : Int) a3 c3 w' h (by have := Nm.bl_mono (Nat.div_le_self u (2 ^ K)); rw [← HM.out] at this; omega) (by omega) (by omega)
      rw [HV.out, HE2.out, ← HV.out] at hsh
      have hcm := fun a4 c4 w' h h' => cmp_n (m * 2 ^ K) u a4 a c4 c w' h h' (by have := Nm.bl_mono (show m * 2 ^ K ≤ u by rw [HM.out]; exact Nat.div_mul_le_self u _); omega) (by omega)
      have HSH := hid hsh; have HCM := hid hcm
      clear hsh hcm
      have x3' := x3; have m3' := m3
      obtain ⟨x30, x31⟩ := x3
      obtain ⟨m30, m31⟩ := m3
      go_region_with (first
        | (go_at_call 125; refine (HSH.out _ o3.drew).mono ?_; rintro e w4 ⟨a4, c4, rfl, ho4, hb4⟩; have x4 := Box.below (w := (w3.alloc (.cells #[.bool false, .slice a3 (Nm.lim m).length c3] 31)).drew) x3' hb4; have m4 := Box.below (w := (w3.alloc (.cells #[.bool false, .slice a3 (Nm.lim m).length c3] 31)).drew) m3' hb4; have s4 := s3.drew.below hb4; have o4 := o3.drew.below hb4; obtain ⟨x40, x41⟩ := x4; obtain ⟨m40, m41⟩ := m4)
        | (go_at_call 136; refine (HCM.out _ _ _ ho4.sl s4).mono ?_; rintro e w5 ⟨rfl, hb5⟩; have x5 := Box.below ⟨x40, x41⟩ hb5; have m5 := Box.below ⟨m40, m41⟩ hb5; have o5 := o4.below hb5))
      all_goals (go_wp2_with fail; go_meet)
      all_goals exact ⟨rfl, x5, m5, o5, (by repeat (first | exact Below.refl _ _ | refine Below.drew ?_ | refine bel_dn ?_ _ | refine bel_al ?_ _ | refine bel_go ?_ hb5 | refine bel_go ?_ hb4 | refine bel_go ?_ hb3 | refine bel_go ?_ hb1 | refine Below.setCell ?_ (by first | omega | (simp; done) | (simp; omega)) _ | refine Below.alloc ?_ (by first | omega | (simp; done) | (simp; omega)) _ | refine Below.trans ?_ (Below.mono hb5 (by first | omega | (simp; done) | (simp; omega))) | refine Below.trans ?_ (Below.mono hb4 (by first | omega | (simp; done) | (simp; omega))) | refine Below.trans ?_ (Below.mono hb3 (by first | omega | (simp; done) | (simp; omega))) | refine Below.trans ?_ (Below.mono hb1 (by first | omega | (simp; done) | (simp; omega)))))⟩
    case rest =>
    obtain ⟨rfl, ⟨x60, x61⟩, ⟨m60, m61⟩, o6, hbel⟩ := hcut
    by_cases hex : m * 2 ^ K = u
    · have hB : (Nm.cmp2 (m * 2 ^ K) u != 0) = false := by rw [bne_eq_false_iff_eq]; exact cmp2_eq.2 hex
      have HX := hid hex
      clear hex
      go_wp2_with fail
      have hlow := low_n m false a3 c3 _ o6 hm64
      rw [← HZ.out] at hlow
      refine hlow.mono ?_
      clear hlow
      rintro e w7 ⟨rfl, hb7⟩
      obtain ⟨x70, x71⟩ := Box.below ⟨x60, x61⟩ hb7
      have HO : Hid (Nm.flo 24 2139095040 u = decide (Nm.flb 24 u < 2139095040)) := hid (by unfold Nm.flo; rw [← HK.out, ← HM.out, decide_eq_true HX.out, decide_eq_true (show K ≤ 2100 by have := HV.out; omega)]; simp)
      by_cases hL : 8388608 ≤ m
      · have hL' : (8388608 : Int) ≤ z := by have := HZ.out; omega
        have HBt : Hid (((Nm.flb 24 u : Nat) : Int) = z) := hid (by
          have := HV.out; have := HZ.out
          unfold Nm.flb; rw [← HK.out, ← HM.out, if_pos (by simpa using hL)]; simp; omega)
        have hbd : z < 18446744073709551616 := by have := HV.out; omega
        have hbd0 : 0 ≤ z := by have := HV.out; omega
        have HD : Hid (Nm.flo 24 2139095040 u = decide (z < 2139095040)) := hid (by rw [HO.out, ← HBt.out]; exact decide_eq_decide.2 (by omega))
        clear hL
        go_wp2_with fail
        refine (sP_32 _).mono ?_
        rintro e w8 ⟨rfl, rfl⟩
        go_wp2_with fail
        refine (sP_32 _).mono ?_
        rintro e w8 ⟨rfl, rfl⟩
        go_wp2_with fail
        refine (with_32 _ false _ (fun h => by cases h)).mono ?_
        rintro e w9 ⟨rfl, hb9⟩
        go_wp2_with fail
        refine (spec_inf32 _).mono ?_
        rintro e w10 ⟨rfl, hb10⟩
        go_wp2
        go_ret2
        exact ⟨⟨z, by rw [HD.out]; rfl, fun _ => HBt.out.symm⟩, (by repeat (first | exact Below.refl _ _ | refine Below.drew ?_ | refine bel_dn ?_ _ | refine bel_al ?_ _ | refine bel_go ?_ hb10 | refine bel_go ?_ hb9 | refine bel_go ?_ hb7 | refine bel_go ?_ hbel | refine Below.setCell ?_ (by first | omega | (simp; done) | (simp; omega)) _ | refine Below.alloc ?_ (by first | omega | (simp; done) | (simp; omega)) _ | refine Below.trans ?_ (Below.mono hb10 (by first | omega | (simp; done) | (simp; omega))) | refine Below.trans ?_ (Below.mono hb9 (by first | omega | (simp; done) | (simp; omega))) | refine Below.trans ?_ (Below.mono hb7 (by first | omega | (simp; done) | (simp; omega))) | refine Below.trans ?_ (Below.mono hbel (by first | omega | (simp; done) | (simp; omega)))))⟩
      · have hL' : z < (8388608 : Int) := by have := HZ.out; omega
        have HBt : Hid (((Nm.flb 24 u : Nat) : Int) = z) := hid (by
          have := HZ.out
          unfold Nm.flb; rw [← HK.out, ← HM.out, if_neg (by simpa using hL)]; omega)
        have HD : Hid (Nm.flo 24 2139095040 u = decide (z < 2139095040)) := hid (by rw [HO.out, ← HBt.out]; exact decide_eq_decide.2 (by omega))
        clear hL
        go_wp2_with fail
        refine (sP_32 _).mono ?_
        rintro e w8 ⟨rfl, rfl⟩
        go_wp2_with fail
        refine (with_32 _ false _ (fun h => by cases h)).mono ?_
        rintro e w9 ⟨rfl, hb9⟩
        go_wp2_with fail
        refine (spec_inf32 _).mono ?_
        rintro e w10 ⟨rfl, hb10⟩
        go_wp2
        go_ret2
        exact ⟨⟨z, by rw [HD.out]; rfl, fun _ => HBt.out.symm⟩, (by repeat (first | exact Below.refl _ _ | refine Below.drew ?_ | refine bel_dn ?_ _ | refine bel_al ?_ _ | refine bel_go ?_ hb10 | refine bel_go ?_ hb9 | refine bel_go ?_ hb7 | refine bel_go ?_ hbel | refine Below.setCell ?_ (by first | omega | (simp; done) | (simp; omega)) _ | refine Below.alloc ?_ (by first | omega | (simp; done) | (simp; omega)) _ | refine Below.trans ?_ (Below.mono hb10 (by first | omega | (simp; done) | (simp; omega))) | refine Below.trans ?_ (Below.mono hb9 (by first | omega | (simp; done) | (simp; omega))) | refine Below.trans ?_ (Below.mono hb7 (by first | omega | (simp; done) | (simp; omega))) | refine Below.trans ?_ (Below.mono hbel (by first | omega | (simp; done) | (simp; omega)))))⟩
    · have hB : (Nm.cmp2 (m * 2 ^ K) u != 0) = true := by rw [bne_iff_ne]; exact fun h => hex (cmp2_eq.1 h)
      have HF : Hid (Nm.flo 24 2139095040 u = false) := hid (by unfold Nm.flo; rw [← HK.out, ← HM.out, decide_eq_false hex]; simp)
      clear hex
      go_wp2
      go_ret2
      exact ⟨⟨0, by rw [HF.out]; rfl, fun h => by rw [HF.out] at h; cases h⟩, (by repeat (first | exact Below.refl _ _ | refine Below.drew ?_ | refine bel_dn ?_ _ | refine bel_al ?_ _ | refine bel_go ?_ hbel | refine Below.setCell ?_ (by first | omega | (simp; done) | (simp; omega)) _ | refine Below.alloc ?_ (by first | omega | (simp; done) | (simp; omega)) _ | refine Below.trans ?_ (Below.mono hbel (by first | omega | (simp; done) | (simp; omega)))))⟩
  · have HF : Hid (Nm.flo 24 2139095040 u = false) := hid (by unfold Nm.flo; rw [← hK, decide_eq_false h1]; rfl)
    have h1' : 2100 < (0 : Int) := by omega
    have HK := hid hK
    clear hK hm h1
    go_enter Tryd.func139, Tryd.ntmps139
    go_wp2_with fail
    refine (bits_n u false a c _ (hx.alloc _) (by omega)).mono ?_
    rintro e w1 ⟨rfl, hb1⟩
    go_wp2_with fail
    refine (sP_32 _).mono ?_
    rintro e w2 ⟨rfl, rfl⟩
    go_wp2
    go_ret2
    exact ⟨⟨0, by rw [HF.out]; rfl, fun h => by rw [HF.out] at h; cases h⟩, (by repeat (first | exact Below.refl _ _ | refine Below.drew ?_ | refine bel_dn ?_ _ | refine bel_al ?_ _ | refine bel_go ?_ hb1 | refine Below.setCell ?_ (by first | omega | (simp; done) | (simp; omega)) _ | refine Below.alloc ?_ (by first | omega | (simp; done) | (simp; omega)) _ | refine Below.trans ?_ (Below.mono hb1 (by first | omega | (simp; done) | (simp; omega)))))⟩
set_option maxHeartbeats 2000000 in
theorem l2f_32B (u : Nat) (a : Option Addr) (c : Nat) (w : World) (hx : Sl .u32 w (.slice a (Nm.lim u).length c) (Nm.lim u)) (hl : bitLen u ≤ 90000) (hc : 0 ≤ ((bitLen u : Nat) : Int) - 24) :
    Calls Tryd.prog 139 #[.int .i64 32, .agg #[.bool false, .slice a (Nm.lim u).length c]] w fun e w' => (∃ x : Int, e = .returned (.tuple #[.int .u64 x, .bool (Nm.flo 24 2139095040 u)]) ∧ (Nm.flo 24 2139095040 u = true → x = (Nm.flb 24 u : Nat))) ∧ Below w.heap.size w w' := by
  obtain ⟨K, hK⟩ : ∃ K, K = bitLen u - 24 := ⟨_, rfl⟩
  obtain ⟨m, hm⟩ : ∃ m, m = u / 2 ^ K := ⟨_, rfl⟩
  have hm64 : m < 18446744073709551616 := by have := Nm.flm_lt 24 u; rw [hm, hK]; omega
  obtain ⟨z, hz⟩ : ∃ z : Int, z = (m : Int) := ⟨_, rfl⟩
  have HZ := hid hz
  have z0 : 0 ≤ z := by omega
  have z1 : z < 16777216 := by have := Nm.flm_lt 24 u; rw [← hK, ← hm] at this; omega
  clear hz
  have HV : Hid ((((bitLen u : Nat) : Int) - 24) = (K : Int)) := hid (by omega)
  have HN : Hid ((-(((bitLen u : Nat) : Int) - 24)) = -(K : Int)) := hid (by omega)
  have e1 : Nm.sh u (-(K : Int)) = m := by
    unfold Nm.sh; rw [hm]
    by_cases h0 : K = 0
    · subst h0; simp
    · rw [if_pos (by omega)]; simp
  have e2 : Nm.sh m (K : Int) = m * 2 ^ K := by unfold Nm.sh; rw [if_neg (by omega)]; simp
  have HE2 := hid e2
  have HE1 := hid e1
  have hKl : (K : Int) ≤ 90000 := by omega
  clear e1 e2
  by_cases h1 : K ≤ 2100
  · have h1' : (((bitLen u : Nat) : Int) - 24) ≤ 2100 := by omega
    have hi : ¬ (((bitLen u : Nat) : Int) - 24) > 2100 := by omega
    have HK := hid hK
    have HM := hid hm
    clear hK hm h1
    go_enter Tryd.func139, Tryd.ntmps139
    go_wp2_with fail
    refine (bits_n u false a c _ (hx.alloc _) (by omega)).mono ?_
    rintro e w1 ⟨rfl, hb1⟩
    go_wp2_with fail
    refine (sP_32 _).mono ?_
    rintro e w2 ⟨rfl, rfl⟩
    have x1 := (Box.new w (.bool false) (.slice a (Nm.lim u).length c) 31).below hb1
    obtain ⟨x10, x11⟩ := x1
    have s1 := (hx.alloc _).below hb1
    go_wp2_with fail
    have hsh := shift_n u (-(((bitLen u : Nat) : Int) - 24)) a c _ s1 (by omega) (by omega) (by omega)
    rw [HN.out, HE1.out, ← HN.out] at hsh
    refine hsh.mono ?_
    clear hsh
    rintro e w3 ⟨a3, c3, rfl, ho3, hb3⟩
    have x3 := (Box.below ⟨x10, x11⟩ hb3).alloc (.cells #[.bool false, .slice a3 (Nm.lim m).length c3] 31)
    have m3 := Box.new w3 (.bool false) (.slice a3 (Nm.lim m).length c3) 31
    have s3 := (s1.below hb3).alloc (.cells #[.bool false, .slice a3 (Nm.lim m).length c3] 31)
    have o3 := ho3.sl.alloc (.cells #[.bool false, .slice a3 (Nm.lim m).length c3] 31)
    go_upto_region 5 with fail
    go_cut [26] (fun s wx => s = .bool (Nm.cmp2 (m * 2 ^ K) u != 0) ∧ Box wx w.heap.size (.bool false) (.slice a (Nm.lim u).length c) ∧ Box wx w3.heap.size (.bool false) (.slice a3 (Nm.lim m).length c3) ∧ Sl .u32 wx (.slice a3 (Nm.lim m).length c3) (Nm.lim m) ∧ Below w.heap.size w wx)
    case first =>
      have hsh := fun w' h => shift_n m (((bitLen u : Nat) : Int) - 24) a3 c3 w' h (by have := Nm.bl_mono (Nat.div_le_self u (2 ^ K)); rw [← HM.out] at this; omega) (by omega) (by omega)
      rw [HV.out, HE2.out, ← HV.out] at hsh
      have hcm := fun a4 c4 w' h h' => cmp_n (m * 2 ^ K) u a4 a c4 c w' h h' (by have := Nm.bl_mono (show m * 2 ^ K ≤ u by rw [HM.out]; exact Nat.div_mul_le_self u _); omega) (by omega)
      have HSH := hid hsh; have HCM := hid hcm
      clear hsh hcm
      have x3' := x3; have m3' := m3
      obtain ⟨x30, x31⟩ := x3
      obtain ⟨m30, m31⟩ := m3
      go_region_with (first
        | (go_at_call 125; refine (HSH.out _ o3.drew).mono ?_; rintro e w4 ⟨a4, c4, rfl, ho4, hb4⟩; have x4 := Box.below (w := (w3.alloc (.cells #[.bool false, .slice a3 (Nm.lim m).length c3] 31)).drew) x3' hb4; have m4 := Box.below (w := (w3.alloc (.cells #[.bool false, .slice a3 (Nm.lim m).length c3] 31)).drew) m3' hb4; have s4 := s3.drew.below hb4; have o4 := o3.drew.below hb4; obtain ⟨x40, x41⟩ := x4; obtain ⟨m40, m41⟩ := m4)
        | (go_at_call 136; refine (HCM.out _ _ _ ho4.sl s4).mono ?_; rintro e w5 ⟨rfl, hb5⟩; have x5 := Box.below ⟨x40, x41⟩ hb5; have m5 := Box.below ⟨m40, m41⟩ hb5; have o5 := o4.below hb5))
      all_goals (go_wp2_with fail; go_meet)
      all_goals exact ⟨rfl, x5, m5, o5, (by repeat (first | exact Below.refl _ _ | refine Below.drew ?_ | refine bel_dn ?_ _ | refine bel_al ?_ _ | refine bel_go ?_ hb5 | refine bel_go ?_ hb4 | refine bel_go ?_ hb3 | refine bel_go ?_ hb1 | refine Below.setCell ?_ (by first | omega | (simp; done) | (simp; omega)) _ | refine Below.alloc ?_ (by first | omega | (simp; done) | (simp; omega)) _ | refine Below.trans ?_ (Below.mono hb5 (by first | omega | (simp; done) | (simp; omega))) | refine Below.trans ?_ (Below.mono hb4 (by first | omega | (simp; done) | (simp; omega))) | refine Below.trans ?_ (Below.mono hb3 (by first | omega | (simp; done) | (simp; omega))) | refine Below.trans ?_ (Below.mono hb1 (by first | omega | (simp; done) | (simp; omega)))))⟩
    case rest =>
    obtain ⟨rfl, ⟨x60, x61⟩, ⟨m60, m61⟩, o6, hbel⟩ := hcut
    by_cases hex : m * 2 ^ K = u
    · have hB : (Nm.cmp2 (m * 2 ^ K) u != 0) = false := by rw [bne_eq_false_iff_eq]; exact cmp2_eq.2 hex
      have HX := hid hex
      clear hex
      go_wp2_with fail
      have hlow := low_n m false a3 c3 _ o6 hm64
      rw [← HZ.out] at hlow
      refine hlow.mono ?_
      clear hlow
      rintro e w7 ⟨rfl, hb7⟩
      obtain ⟨x70, x71⟩ := Box.below ⟨x60, x61⟩ hb7
      have HO : Hid (Nm.flo 24 2139095040 u = decide (Nm.flb 24 u < 2139095040)) := hid (by unfold Nm.flo; rw [← HK.out, ← HM.out, decide_eq_true HX.out, decide_eq_true (show K ≤ 2100 by have := HV.out; omega)]; simp)
      by_cases hL : 8388608 ≤ m
      · have hL' : (8388608 : Int) ≤ z := by have := HZ.out; omega
        have HBt : Hid (((Nm.flb 24 u : Nat) : Int) = (z + (((bitLen u : Nat) : Int) - 24) * 8388608)) := hid (by
          have := HV.out; have := HZ.out
          unfold Nm.flb; rw [← HK.out, ← HM.out, if_pos (by simpa using hL)]; simp; omega)
        have hbd : (z + (((bitLen u : Nat) : Int) - 24) * 8388608) < 18446744073709551616 := by have := HV.out; omega
        have hbd0 : 0 ≤ (z + (((bitLen u : Nat) : Int) - 24) * 8388608) := by have := HV.out; omega
        have HD : Hid (Nm.flo 24 2139095040 u = decide ((z + (((bitLen u : Nat) : Int) - 24) * 8388608) < 2139095040)) := hid (by rw [HO.out, ← HBt.out]; exact decide_eq_decide.2 (by omega))
        clear hL
        go_wp2_with fail
        refine (sP_32 _).mono ?_
        rintro e w8 ⟨rfl, rfl⟩
        go_wp2_with fail
        refine (sP_32 _).mono ?_
        rintro e w8 ⟨rfl, rfl⟩
        go_wp2_with fail
        refine (with_32 _ false _ (fun h => by cases h)).mono ?_
        rintro e w9 ⟨rfl, hb9⟩
        go_wp2_with fail
        refine (spec_inf32 _).mono ?_
        rintro e w10 ⟨rfl, hb10⟩
        go_wp2
        go_ret2
        exact ⟨⟨(z + (((bitLen u : Nat) : Int) - 24) * 8388608), by rw [HD.out]; rfl, fun _ => HBt.out.symm⟩, (by repeat (first | exact Below.refl _ _ | refine Below.drew ?_ | refine bel_dn ?_ _ | refine bel_al ?_ _ | refine bel_go ?_ hb10 | refine bel_go ?_ hb9 | refine bel_go ?_ hb7 | refine bel_go ?_ hbel | refine Below.setCell ?_ (by first | omega | (simp; done) | (simp; omega)) _ | refine Below.alloc ?_ (by first | omega | (simp; done) | (simp; omega)) _ | refine Below.trans ?_ (Below.mono hb10 (by first | omega | (simp; done) | (simp; omega))) | refine Below.trans ?_ (Below.mono hb9 (by first | omega | (simp; done) | (simp; omega))) | refine Below.trans ?_ (Below.mono hb7 (by first | omega | (simp; done) | (simp; omega))) | refine Below.trans ?_ (Below.mono hbel (by first | omega | (simp; done) | (simp; omega)))))⟩
      · have hL' : z < (8388608 : Int) := by have := HZ.out; omega
        have HBt : Hid (((Nm.flb 24 u : Nat) : Int) = z) := hid (by
          have := HZ.out
          unfold Nm.flb; rw [← HK.out, ← HM.out, if_neg (by simpa using hL)]; omega)
        have HD : Hid (Nm.flo 24 2139095040 u = decide (z < 2139095040)) := hid (by rw [HO.out, ← HBt.out]; exact decide_eq_decide.2 (by omega))
        clear hL
        go_wp2_with fail
        refine (sP_32 _).mono ?_
        rintro e w8 ⟨rfl, rfl⟩
        go_wp2_with fail
        refine (with_32 _ false _ (fun h => by cases h)).mono ?_
        rintro e w9 ⟨rfl, hb9⟩
        go_wp2_with fail
        refine (spec_inf32 _).mono ?_
        rintro e w10 ⟨rfl, hb10⟩
        go_wp2
        go_ret2
        exact ⟨⟨z, by rw [HD.out]; rfl, fun _ => HBt.out.symm⟩, (by repeat (first | exact Below.refl _ _ | refine Below.drew ?_ | refine bel_dn ?_ _ | refine bel_al ?_ _ | refine bel_go ?_ hb10 | refine bel_go ?_ hb9 | refine bel_go ?_ hb7 | refine bel_go ?_ hbel | refine Below.setCell ?_ (by first | omega | (simp; done) | (simp; omega)) _ | refine Below.alloc ?_ (by first | omega | (simp; done) | (simp; omega)) _ | refine Below.trans ?_ (Below.mono hb10 (by first | omega | (simp; done) | (simp; omega))) | refine Below.trans ?_ (Below.mono hb9 (by first | omega | (simp; done) | (simp; omega))) | refine Below.trans ?_ (Below.mono hb7 (by first | omega | (simp; done) | (simp; omega))) | refine Below.trans ?_ (Below.mono hbel (by first | omega | (simp; done) | (simp; omega)))))⟩
    · have hB : (Nm.cmp2 (m * 2 ^ K) u != 0) = true := by rw [bne_iff_ne]; exact fun h => hex (cmp2_eq.1 h)
      have HF : Hid (Nm.flo 24 2139095040 u = false) := hid (by unfold Nm.flo; rw [← HK.out, ← HM.out, decide_eq_false hex]; simp)
      clear hex
      go_wp2
      go_ret2
      exact ⟨⟨0, by rw [HF.out]; rfl, fun h => by rw [HF.out] at h; cases h⟩, (by repeat (first | exact Below.refl _ _ | refine Below.drew ?_ | refine bel_dn ?_ _ | refine bel_al ?_ _ | refine bel_go ?_ hbel | refine Below.setCell ?_ (by first | omega | (simp; done) | (simp; omega)) _ | refine Below.alloc ?_ (by first | omega | (simp; done) | (simp; omega)) _ | refine Below.trans ?_ (Below.mono hbel (by first | omega | (simp; done) | (simp; omega)))))⟩
  · have HF : Hid (Nm.flo 24 2139095040 u = false) := hid (by unfold Nm.flo; rw [← hK, decide_eq_false h1]; rfl)
    have h1' : 2100 < (((bitLen u : Nat) : Int) - 24) := by omega
    have HK := hid hK
    clear hK hm h1
    go_enter Tryd.func139, Tryd.ntmps139
    go_wp2_with fail
    refine (bits_n u false a c _ (hx.alloc _) (by omega)).mono ?_
    rintro e w1 ⟨rfl, hb1⟩
    go_wp2_with fail
    refine (sP_32 _).mono ?_
    rintro e w2 ⟨rfl, rfl⟩
    go_wp2
    go_ret2
    exact ⟨⟨0, by rw [HF.out]; rfl, fun h => by rw [HF.out] at h; cases h⟩, (by repeat (first | exact Below.refl _ _ | refine Below.drew ?_ | refine bel_dn ?_ _ | refine bel_al ?_ _ | refine bel_go ?_ hb1 | refine Below.setCell ?_ (by first | omega | (simp; done) | (simp; omega)) _ | refine Below.alloc ?_ (by first | omega | (simp; done) | (simp; omega)) _ | refine Below.trans ?_ (Below.mono hb1 (by first | omega | (simp; done) | (simp; omega)))))⟩
set_option maxHeartbeats 2000000 in
theorem l2f_64A (u : Nat) (a : Option Addr) (c : Nat) (w : World) (hx : Sl .u32 w (.slice a (Nm.lim u).length c) (Nm.lim u)) (hl : bitLen u ≤ 90000) (hc : ((bitLen u : Nat) : Int) - 53 < 0) :
    Calls Tryd.prog 139 #[.int .i64 64, .agg #[.bool false, .slice a (Nm.lim u).length c]] w fun e w' => (∃ x : Int, e = .returned (.tuple #[.int .u64 x, .bool (Nm.flo 53 9218868437227405312 u)]) ∧ (Nm.flo 53 9218868437227405312 u = true → x = (Nm.flb 53 u : Nat))) ∧ Below w.heap.size w w' := by
  obtain ⟨K, hK⟩ : ∃ K, K = bitLen u - 53 := ⟨_, rfl⟩
  obtain ⟨m, hm⟩ : ∃ m, m = u / 2 ^ K := ⟨_, rfl⟩
  have hm64 : m < 18446744073709551616 := by have := Nm.flm_lt 53 u; rw [hm, hK]; omega
  obtain ⟨z, hz⟩ : ∃ z : Int, z = (m : Int) := ⟨_, rfl⟩
  have HZ := hid hz
  have z0 : 0 ≤ z := by omega
  have z1 : z < 9007199254740992 := by have := Nm.flm_lt 53 u; rw [← hK, ← hm] at this; omega
  clear hz
  have HV : Hid ((0 : Int) = (K : Int)) := hid (by omega)
  have HN : Hid ((0 : Int) = -(K : Int)) := hid (by omega)
  have e1 : Nm.sh u (-(K : Int)) = m := by
    unfold Nm.sh; rw [hm]
    by_cases h0 : K = 0
    · subst h0; simp
    · rw [if_pos (by omega)]; simp
  have e2 : Nm.sh m (K : Int) = m * 2 ^ K := by unfold Nm.sh; rw [if_neg (by omega)]; simp
  have HE2 := hid e2
  have HE1 := hid e1
  have hKl : (K : Int) ≤ 90000 := by omega
  clear e1 e2
  by_cases h1 : K ≤ 2100
  · have h1' : (0 : Int) ≤ 2100 := by omega
    have hi : ¬ (0 : Int) > 2100 := by omega
    have HK := hid hK
    have HM := hid hm
    clear hK hm h1
    go_enter Tryd.func139, Tryd.ntmps139
    go_wp2_with fail
    refine (bits_n u false a c _ (hx.alloc _) (by omega)).mono ?_
    rintro e w1 ⟨rfl, hb1⟩
    go_wp2_with fail
    refine (sP_64 _).mono ?_
    rintro e w2 ⟨rfl, rfl⟩
    have x1 := (Box.new w (.bool false) (.slice a (Nm.lim u).length c) 31).below hb1
    obtain ⟨x10, x11⟩ := x1
    have s1 := (hx.alloc _).below hb1
    go_wp2_with fail
    have hsh := shift_n u (0 : Int) a c _ s1 (by omega) (by omega) (by omega)
    rw [HN.out, HE1.out, ← HN.out] at hsh
    refine hsh.mono ?_
    clear hsh
    rintro e w3 ⟨a3, c3, rfl, ho3, hb3⟩
    have x3 := (Box.below ⟨x10, x11⟩ hb3).alloc (.cells #[.bool false, .slice a3 (Nm.lim m).length c3] 31)
    have m3 := Box.new w3 (.bool false) (.slice a3 (Nm.lim m).length c3) 31
    have s3 := (s1.below hb3).alloc (.cells #[.bool false, .slice a3 (Nm.lim m).length c3] 31)
    have o3 := ho3.sl.alloc (.cells #[.bool false, .slice a3 (Nm.lim m).length c3] 31)
    go_upto_region 5 with fail
    go_cut [26] (fun s wx => s = .bool (Nm.cmp2 (m * 2 ^ K) u != 0) ∧ Box wx w.heap.size (.bool false) (.slice a (Nm.lim u).length c) ∧ Box wx w3.heap.size (.bool false) (.slice a3 (Nm.lim m).length c3) ∧ Sl .u32 wx (.slice a3 (Nm.lim m).length c3) (Nm.lim m) ∧ Below w.heap.size w wx)
    case first =>
      have hsh := fun w' h => shift_n m (0 : Int) a3 c3 w' h (by have := Nm.bl_mono (Nat.div_le_self u (2 ^ K)); rw [← HM.out] at this; omega) (by omega) (by omega)
      rw [HV.out, HE2.out, ← HV.out] at hsh
      have hcm := fun a4 c4 w' h h' => cmp_n (m * 2 ^ K) u a4 a c4 c w' h h' (by have := Nm.bl_mono (show m * 2 ^ K ≤ u by rw [HM.out]; exact Nat.div_mul_le_self u _); omega) (by omega)
      have HSH := hid hsh; have HCM := hid hcm
      clear hsh hcm
      have x3' := x3; have m3' := m3
      obtain ⟨x30, x31⟩ := x3
      obtain ⟨m30, m31⟩ := m3
      go_region_with (first
        | (go_at_call 125; refine (HSH.out _ o3.drew).mono ?_; rintro e w4 ⟨a4, c4, rfl, ho4, hb4⟩; have x4 := Box.below (w := (w3.alloc (.cells #[.bool false, .slice a3 (Nm.lim m).length c3] 31)).drew) x3' hb4; have m4 := Box.below (w := (w3.alloc (.cells #[.bool false, .slice a3 (Nm.lim m).length c3] 31)).drew) m3' hb4; have s4 := s3.drew.below hb4; have o4 := o3.drew.below hb4; obtain ⟨x40, x41⟩ := x4; obtain ⟨m40, m41⟩ := m4)
        | (go_at_call 136; refine (HCM.out _ _ _ ho4.sl s4).mono ?_; rintro e w5 ⟨rfl, hb5⟩; have x5 := Box.below ⟨x40, x41⟩ hb5; have m5 := Box.below ⟨m40, m41⟩ hb5; have o5 := o4.below hb5))
      all_goals (go_wp2_with fail; go_meet)
      all_goals exact ⟨rfl, x5, m5, o5, (by repeat (first | exact Below.refl _ _ | refine Below.drew ?_ | refine bel_dn ?_ _ | refine bel_al ?_ _ | refine bel_go ?_ hb5 | refine bel_go ?_ hb4 | refine bel_go ?_ hb3 | refine bel_go ?_ hb1 | refine Below.setCell ?_ (by first | omega | (simp; done) | (simp; omega)) _ | refine Below.alloc ?_ (by first | omega | (simp; done) | (simp; omega)) _ | refine Below.trans ?_ (Below.mono hb5 (by first | omega | (simp; done) | (simp; omega))) | refine Below.trans ?_ (Below.mono hb4 (by first | omega | (simp; done) | (simp; omega))) | refine Below.trans ?_ (Below.mono hb3 (by first | omega | (simp; done) | (simp; omega))) | refine Below.trans ?_ (Below.mono hb1 (by first | omega | (simp; done) | (simp; omega)))))⟩
    case rest =>
    obtain ⟨rfl, ⟨x60, x61⟩, ⟨m60, m61⟩, o6, hbel⟩ := hcut
    by_cases hex : m * 2 ^ K = u
    · have hB : (Nm.cmp2 (m * 2 ^ K) u != 0) = false := by rw [bne_eq_false_iff_eq]; exact cmp2_eq.2 hex
      have HX := hid hex
      clear hex
      go_wp2_with fail
      have hlow := low_n m false a3 c3 _ o6 hm64
      rw [← HZ.out] at hlow
      refine hlow.mono ?_
      clear hlow
      rintro e w7 ⟨rfl, hb7⟩
      obtain ⟨x70, x71⟩ := Box.below ⟨x60, x61⟩ hb7
      have HO : Hid (Nm.flo 53 9218868437227405312 u = decide (Nm.flb 53 u < 9218868437227405312)) := hid (by unfold Nm.flo; rw [← HK.out, ← HM.out, decide_eq_true HX.out, decide_eq_true (show K ≤ 2100 by have := HV.out; omega)]; simp)
      by_cases hL : 4503599627370496 ≤ m
      · have hL' : (4503599627370496 : Int) ≤ z := by have := HZ.out; omega
        have HBt : Hid (((Nm.flb 53 u : Nat) : Int) = z) := hid (by
          have := HV.out; have := HZ.out
          unfold Nm.flb; rw [← HK.out, ← HM.out, if_pos (by simpa using hL)]; simp; omega)
        have hbd : z < 18446744073709551616 := by have := HV.out; omega
        have hbd0 : 0 ≤ z := by have := HV.out; omega
        have HD : Hid (Nm.flo 53 9218868437227405312 u = decide (z < 9218868437227405312)) := hid (by rw [HO.out, ← HBt.out]; exact decide_eq_decide.2 (by omega))
        clear hL
        go_wp2_with fail
        refine (sP_64 _).mono ?_
        rintro e w8 ⟨rfl, rfl⟩
        go_wp2_with fail
        refine (sP_64 _).mono ?_
        rintro e w8 ⟨rfl, rfl⟩
        go_wp2_with fail
        refine (with_64 _ false _ (fun h => by cases h)).mono ?_
        rintro e w9 ⟨rfl, hb9⟩
        go_wp2_with fail
        refine (spec_inf64 _).mono ?_
        rintro e w10 ⟨rfl, hb10⟩
        go_wp2
        go_ret2
        exact ⟨⟨z, by rw [HD.out]; rfl, fun _ => HBt.out.symm⟩, (by repeat (first | exact Below.refl _ _ | refine Below.drew ?_ | refine bel_dn ?_ _ | refine bel_al ?_ _ | refine bel_go ?_ hb10 | refine bel_go ?_ hb9 | refine bel_go ?_ hb7 | refine bel_go ?_ hbel | refine Below.setCell ?_ (by first | omega | (simp; done) | (simp; omega)) _ | refine Below.alloc ?_ (by first | omega | (simp; done) | (simp; omega)) _ | refine Below.trans ?_ (Below.mono hb10 (by first | omega | (simp; done) | (simp; omega))) | refine Below.trans ?_ (Below.mono hb9 (by first | omega | (simp; done) | (simp; omega))) | refine Below.trans ?_ (Below.mono hb7 (by first | omega | (simp; done) | (simp; omega))) | refine Below.trans ?_ (Below.mono hbel (by first | omega | (simp; done) | (simp; omega)))))⟩
      · have hL' : z < (4503599627370496 : Int) := by have := HZ.out; omega
        have HBt : Hid (((Nm.flb 53 u : Nat) : Int) = z) := hid (by
          have := HZ.out
          unfold Nm.flb; rw [← HK.out, ← HM.out, if_neg (by simpa using hL)]; omega)
        have HD : Hid (Nm.flo 53 9218868437227405312 u = decide (z < 9218868437227405312)) := hid (by rw [HO.out, ← HBt.out]; exact decide_eq_decide.2 (by omega))
        clear hL
        go_wp2_with fail
        refine (sP_64 _).mono ?_
        rintro e w8 ⟨rfl, rfl⟩
        go_wp2_with fail
        refine (with_64 _ false _ (fun h => by cases h)).mono ?_
        rintro e w9 ⟨rfl, hb9⟩
        go_wp2_with fail
        refine (spec_inf64 _).mono ?_
        rintro e w10 ⟨rfl, hb10⟩
        go_wp2
        go_ret2
        exact ⟨⟨z, by rw [HD.out]; rfl, fun _ => HBt.out.symm⟩, (by repeat (first | exact Below.refl _ _ | refine Below.drew ?_ | refine bel_dn ?_ _ | refine bel_al ?_ _ | refine bel_go ?_ hb10 | refine bel_go ?_ hb9 | refine bel_go ?_ hb7 | refine bel_go ?_ hbel | refine Below.setCell ?_ (by first | omega | (simp; done) | (simp; omega)) _ | refine Below.alloc ?_ (by first | omega | (simp; done) | (simp; omega)) _ | refine Below.trans ?_ (Below.mono hb10 (by first | omega | (simp; done) | (simp; omega))) | refine Below.trans ?_ (Below.mono hb9 (by first | omega | (simp; done) | (simp; omega))) | refine Below.trans ?_ (Below.mono hb7 (by first | omega | (simp; done) | (simp; omega))) | refine Below.trans ?_ (Below.mono hbel (by first | omega | (simp; done) | (simp; omega)))))⟩
    · have hB : (Nm.cmp2 (m * 2 ^ K) u != 0) = true := by rw [bne_iff_ne]; exact fun h => hex (cmp2_eq.1 h)
      have HF : Hid (Nm.flo 53 9218868437227405312 u = false) := hid (by unfold Nm.flo; rw [← HK.out, ← HM.out, decide_eq_false hex]; simp)
      clear hex
      go_wp2
      go_ret2
      exact ⟨⟨0, by rw [HF.out]; rfl, fun h => by rw [HF.out] at h; cases h⟩, (by repeat (first | exact Below.refl _ _ | refine Below.drew ?_ | refine bel_dn ?_ _ | refine bel_al ?_ _ | refine bel_go ?_ hbel | refine Below.setCell ?_ (by first | omega | (simp; done) | (simp; omega)) _ | refine Below.alloc ?_ (by first | omega | (simp; done) | (simp; omega)) _ | refine Below.trans ?_ (Below.mono hbel (by first | omega | (simp; done) | (simp; omega)))))⟩
  · have HF : Hid (Nm.flo 53 9218868437227405312 u = false) := hid (by unfold Nm.flo; rw [← hK, decide_eq_false h1]; rfl)
    have h1' : 2100 < (0 : Int) := by omega
    have HK := hid hK
    clear hK hm h1
    go_enter Tryd.func139, Tryd.ntmps139
    go_wp2_with fail
    refine (bits_n u false a c _ (hx.alloc _) (by omega)).mono ?_
    rintro e w1 ⟨rfl, hb1⟩
    go_wp2_with fail
    refine (sP_64 _).mono ?_
    rintro e w2 ⟨rfl, rfl⟩
    go_wp2
    go_ret2
    exact ⟨⟨0, by rw [HF.out]; rfl, fun h => by rw [HF.out] at h; cases h⟩, (by repeat (first | exact Below.refl _ _ | refine Below.drew ?_ | refine bel_dn ?_ _ | refine bel_al ?_ _ | refine bel_go ?_ hb1 | refine Below.setCell ?_ (by first | omega | (simp; done) | (simp; omega)) _ | refine Below.alloc ?_ (by first | omega | (simp; done) | (simp; omega)) _ | refine Below.trans ?_ (Below.mono hb1 (by first | omega | (simp; done) | (simp; omega)))))⟩
set_option maxHeartbeats 2000000 in
theorem l2f_64B (u : Nat) (a : Option Addr) (c : Nat) (w : World) (hx : Sl .u32 w (.slice a (Nm.lim u).length c) (Nm.lim u)) (hl : bitLen u ≤ 90000) (hc : 0 ≤ ((bitLen u : Nat) : Int) - 53) :
    Calls Tryd.prog 139 #[.int .i64 64, .agg #[.bool false, .slice a (Nm.lim u).length c]] w fun e w' => (∃ x : Int, e = .returned (.tuple #[.int .u64 x, .bool (Nm.flo 53 9218868437227405312 u)]) ∧ (Nm.flo 53 9218868437227405312 u = true → x = (Nm.flb 53 u : Nat))) ∧ Below w.heap.size w w' := by
  obtain ⟨K, hK⟩ : ∃ K, K = bitLen u - 53 := ⟨_, rfl⟩
  obtain ⟨m, hm⟩ : ∃ m, m = u / 2 ^ K := ⟨_, rfl⟩
  have hm64 : m < 18446744073709551616 := by have := Nm.flm_lt 53 u; rw [hm, hK]; omega
  obtain ⟨z, hz⟩ : ∃ z : Int, z = (m : Int) := ⟨_, rfl⟩
  have HZ := hid hz
  have z0 : 0 ≤ z := by omega
  have z1 : z < 9007199254740992 := by have := Nm.flm_lt 53 u; rw [← hK, ← hm] at this; omega
  clear hz
  have HV : Hid ((((bitLen u : Nat) : Int) - 53) = (K : Int)) := hid (by omega)
  have HN : Hid ((-(((bitLen u : Nat) : Int) - 53)) = -(K : Int)) := hid (by omega)
  have e1 : Nm.sh u (-(K : Int)) = m := by
    unfold Nm.sh; rw [hm]
    by_cases h0 : K = 0
    · subst h0; simp
    · rw [if_pos (by omega)]; simp
  have e2 : Nm.sh m (K : Int) = m * 2 ^ K := by unfold Nm.sh; rw [if_neg (by omega)]; simp
  have HE2 := hid e2
  have HE1 := hid e1
  have hKl : (K : Int) ≤ 90000 := by omega
  clear e1 e2
  by_cases h1 : K ≤ 2100
  · have h1' : (((bitLen u : Nat) : Int) - 53) ≤ 2100 := by omega
    have hi : ¬ (((bitLen u : Nat) : Int) - 53) > 2100 := by omega
    have HK := hid hK
    have HM := hid hm
    clear hK hm h1
    go_enter Tryd.func139, Tryd.ntmps139
    go_wp2_with fail
    refine (bits_n u false a c _ (hx.alloc _) (by omega)).mono ?_
    rintro e w1 ⟨rfl, hb1⟩
    go_wp2_with fail
    refine (sP_64 _).mono ?_
    rintro e w2 ⟨rfl, rfl⟩
    have x1 := (Box.new w (.bool false) (.slice a (Nm.lim u).length c) 31).below hb1
    obtain ⟨x10, x11⟩ := x1
    have s1 := (hx.alloc _).below hb1
    go_wp2_with fail
    have hsh := shift_n u (-(((bitLen u : Nat) : Int) - 53)) a c _ s1 (by omega) (by omega) (by omega)
    rw [HN.out, HE1.out, ← HN.out] at hsh
    refine hsh.mono ?_
    clear hsh
    rintro e w3 ⟨a3, c3, rfl, ho3, hb3⟩
    have x3 := (Box.below ⟨x10, x11⟩ hb3).alloc (.cells #[.bool false, .slice a3 (Nm.lim m).length c3] 31)
    have m3 := Box.new w3 (.bool false) (.slice a3 (Nm.lim m).length c3) 31
    have s3 := (s1.below hb3).alloc (.cells #[.bool false, .slice a3 (Nm.lim m).length c3] 31)
    have o3 := ho3.sl.alloc (.cells #[.bool false, .slice a3 (Nm.lim m).length c3] 31)
    go_upto_region 5 with fail
    go_cut [26] (fun s wx => s = .bool (Nm.cmp2 (m * 2 ^ K) u != 0) ∧ Box wx w.heap.size (.bool false) (.slice a (Nm.lim u).length c) ∧ Box wx w3.heap.size (.bool false) (.slice a3 (Nm.lim m).length c3) ∧ Sl .u32 wx (.slice a3 (Nm.lim m).length c3) (Nm.lim m) ∧ Below w.heap.size w wx)
    case first =>
      have hsh := fun w' h => shift_n m (((bitLen u : Nat) : Int) - 53) a3 c3 w' h (by have := Nm.bl_mono (Nat.div_le_self u (2 ^ K)); rw [← HM.out] at this; omega) (by omega) (by omega)
      rw [HV.out, HE2.out, ← HV.out] at hsh
      have hcm := fun a4 c4 w' h h' => cmp_n (m * 2 ^ K) u a4 a c4 c w' h h' (by have := Nm.bl_mono (show m * 2 ^ K ≤ u by rw [HM.out]; exact Nat.div_mul_le_self u _); omega) (by omega)
      have HSH := hid hsh; have HCM := hid hcm
      clear hsh hcm
      have x3' := x3; have m3' := m3
      obtain ⟨x30, x31⟩ := x3
      obtain ⟨m30, m31⟩ := m3
      go_region_with (first
        | (go_at_call 125; refine (HSH.out _ o3.drew).mono ?_; rintro e w4 ⟨a4, c4, rfl, ho4, hb4⟩; have x4 := Box.below (w := (w3.alloc (.cells #[.bool false, .slice a3 (Nm.lim m).length c3] 31)).drew) x3' hb4; have m4 := Box.below (w := (w3.alloc (.cells #[.bool false, .slice a3 (Nm.lim m).length c3] 31)).drew) m3' hb4; have s4 := s3.drew.below hb4; have o4 := o3.drew.below hb4; obtain ⟨x40, x41⟩ := x4; obtain ⟨m40, m41⟩ := m4)
        | (go_at_call 136; refine (HCM.out _ _ _ ho4.sl s4).mono ?_; rintro e w5 ⟨rfl, hb5⟩; have x5 := Box.below ⟨x40, x41⟩ hb5; have m5 := Box.below ⟨m40, m41⟩ hb5; have o5 := o4.below hb5))
      all_goals (go_wp2_with fail; go_meet)
      all_goals exact ⟨rfl, x5, m5, o5, (by repeat (first | exact Below.refl _ _ | refine Below.drew ?_ | refine bel_dn ?_ _ | refine bel_al ?_ _ | refine bel_go ?_ hb5 | refine bel_go ?_ hb4 | refine bel_go ?_ hb3 | refine bel_go ?_ hb1 | refine Below.setCell ?_ (by first | omega | (simp; done) | (simp; omega)) _ | refine Below.alloc ?_ (by first | omega | (simp; done) | (simp; omega)) _ | refine Below.trans ?_ (Below.mono hb5 (by first | omega | (simp; done) | (simp; omega))) | refine Below.trans ?_ (Below.mono hb4 (by first | omega | (simp; done) | (simp; omega))) | refine Below.trans ?_ (Below.mono hb3 (by first | omega | (simp; done) | (simp; omega))) | refine Below.trans ?_ (Below.mono hb1 (by first | omega | (simp; done) | (simp; omega)))))⟩
    case rest =>
    obtain ⟨rfl, ⟨x60, x61⟩, ⟨m60, m61⟩, o6, hbel⟩ := hcut
    by_cases hex : m * 2 ^ K = u
    · have hB : (Nm.cmp2 (m * 2 ^ K) u != 0) = false := by rw [bne_eq_false_iff_eq]; exact cmp2_eq.2 hex
      have HX := hid hex
      clear hex
      go_wp2_with fail
      have hlow := low_n m false a3 c3 _ o6 hm64
      rw [← HZ.out] at hlow
      refine hlow.mono ?_
      clear hlow
      rintro e w7 ⟨rfl, hb7⟩
      obtain ⟨x70, x71⟩ := Box.below ⟨x60, x61⟩ hb7
      have HO : Hid (Nm.flo 53 9218868437227405312 u = decide (Nm.flb 53 u < 9218868437227405312)) := hid (by unfold Nm.flo; rw [← HK.out, ← HM.out, decide_eq_true HX.out, decide_eq_true (show K ≤ 2100 by have := HV.out; omega)]; simp)
      by_cases hL : 4503599627370496 ≤ m
      · have hL' : (4503599627370496 : Int) ≤ z := by have := HZ.out; omega
        have HBt : Hid (((Nm.flb 53 u : Nat) : Int) = (z + (((bitLen u : Nat) : Int) - 53) * 4503599627370496)) := hid (by
          have := HV.out; have := HZ.out
          unfold Nm.flb; rw [← HK.out, ← HM.out, if_pos (by simpa using hL)]; simp; omega)
        have hbd : (z + (((bitLen u : Nat) : Int) - 53) * 4503599627370496) < 18446744073709551616 := by have := HV.out; omega
        have hbd0 : 0 ≤ (z + (((bitLen u : Nat) : Int) - 53) * 4503599627370496) := by have := HV.out; omega
        have HD : Hid (Nm.flo 53 9218868437227405312 u = decide ((z + (((bitLen u : Nat) : Int) - 53) * 4503599627370496) < 9218868437227405312)) := hid (by rw [HO.out, ← HBt.out]; exact decide_eq_decide.2 (by omega))
        clear hL
        go_wp2_with fail
        refine (sP_64 _).mono ?_
        rintro e w8 ⟨rfl, rfl⟩
        go_wp2_with fail
        refine (sP_64 _).mono ?_
        rintro e w8 ⟨rfl, rfl⟩
        go_wp2_with fail
        refine (with_64 _ false _ (fun h => by cases h)).mono ?_
        rintro e w9 ⟨rfl, hb9⟩
        go_wp2_with fail
        refine (spec_inf64 _).mono ?_
        rintro e w10 ⟨rfl, hb10⟩
        go_wp2
        go_ret2
        exact ⟨⟨(z + (((bitLen u : Nat) : Int) - 53) * 4503599627370496), by rw [HD.out]; rfl, fun _ => HBt.out.symm⟩, (by repeat (first | exact Below.refl _ _ | refine Below.drew ?_ | refine bel_dn ?_ _ | refine bel_al ?_ _ | refine bel_go ?_ hb10 | refine bel_go ?_ hb9 | refine bel_go ?_ hb7 | refine bel_go ?_ hbel | refine Below.setCell ?_ (by first | omega | (simp; done) | (simp; omega)) _ | refine Below.alloc ?_ (by first | omega | (simp; done) | (simp; omega)) _ | refine Below.trans ?_ (Below.mono hb10 (by first | omega | (simp; done) | (simp; omega))) | refine Below.trans ?_ (Below.mono hb9 (by first | omega | (simp; done) | (simp; omega))) | refine Below.trans ?_ (Below.mono hb7 (by first | omega | (simp; done) | (simp; omega))) | refine Below.trans ?_ (Below.mono hbel (by first | omega | (simp; done) | (simp; omega)))))⟩
      · have hL' : z < (4503599627370496 : Int) := by have := HZ.out; omega
        have HBt : Hid (((Nm.flb 53 u : Nat) : Int) = z) := hid (by
          have := HZ.out
          unfold Nm.flb; rw [← HK.out, ← HM.out, if_neg (by simpa using hL)]; omega)
        have HD : Hid (Nm.flo 53 9218868437227405312 u = decide (z < 9218868437227405312)) := hid (by rw [HO.out, ← HBt.out]; exact decide_eq_decide.2 (by omega))
        clear hL
        go_wp2_with fail
        refine (sP_64 _).mono ?_
        rintro e w8 ⟨rfl, rfl⟩
        go_wp2_with fail
        refine (with_64 _ false _ (fun h => by cases h)).mono ?_
        rintro e w9 ⟨rfl, hb9⟩
        go_wp2_with fail
        refine (spec_inf64 _).mono ?_
        rintro e w10 ⟨rfl, hb10⟩
        go_wp2
        go_ret2
        exact ⟨⟨z, by rw [HD.out]; rfl, fun _ => HBt.out.symm⟩, (by repeat (first | exact Below.refl _ _ | refine Below.drew ?_ | refine bel_dn ?_ _ | refine bel_al ?_ _ | refine bel_go ?_ hb10 | refine bel_go ?_ hb9 | refine bel_go ?_ hb7 | refine bel_go ?_ hbel | refine Below.setCell ?_ (by first | omega | (simp; done) | (simp; omega)) _ | refine Below.alloc ?_ (by first | omega | (simp; done) | (simp; omega)) _ | refine Below.trans ?_ (Below.mono hb10 (by first | omega | (simp; done) | (simp; omega))) | refine Below.trans ?_ (Below.mono hb9 (by first | omega | (simp; done) | (simp; omega))) | refine Below.trans ?_ (Below.mono hb7 (by first | omega | (simp; done) | (simp; omega))) | refine Below.trans ?_ (Below.mono hbel (by first | omega | (simp; done) | (simp; omega)))))⟩
    · have hB : (Nm.cmp2 (m * 2 ^ K) u != 0) = true := by rw [bne_iff_ne]; exact fun h => hex (cmp2_eq.1 h)
      have HF : Hid (Nm.flo 53 9218868437227405312 u = false) := hid (by unfold Nm.flo; rw [← HK.out, ← HM.out, decide_eq_false hex]; simp)
      clear hex
      go_wp2
      go_ret2
      exact ⟨⟨0, by rw [HF.out]; rfl, fun h => by rw [HF.out] at h; cases h⟩, (by repeat (first | exact Below.refl _ _ | refine Below.drew ?_ | refine bel_dn ?_ _ | refine bel_al ?_ _ | refine bel_go ?_ hbel | refine Below.setCell ?_ (by first | omega | (simp; done) | (simp; omega)) _ | refine Below.alloc ?_ (by first | omega | (simp; done) | (simp; omega)) _ | refine Below.trans ?_ (Below.mono hbel (by first | omega | (simp; done) | (simp; omega)))))⟩
  · have HF : Hid (Nm.flo 53 9218868437227405312 u = false) := hid (by unfold Nm.flo; rw [← hK, decide_eq_false h1]; rfl)
    have h1' : 2100 < (((bitLen u : Nat) : Int) - 53) := by omega
    have HK := hid hK
    clear hK hm h1
    go_enter Tryd.func139, Tryd.ntmps139
    go_wp2_with fail
    refine (bits_n u false a c _ (hx.alloc _) (by omega)).mono ?_
    rintro e w1 ⟨rfl, hb1⟩
    go_wp2_with fail
    refine (sP_64 _).mono ?_
    rintro e w2 ⟨rfl, rfl⟩
    go_wp2
    go_ret2
    exact ⟨⟨0, by rw [HF.out]; rfl, fun h => by rw [HF.out] at h; cases h⟩, (by repeat (first | exact Below.refl _ _ | refine Below.drew ?_ | refine bel_dn ?_ _ | refine bel_al ?_ _ | refine bel_go ?_ hb1 | refine Below.setCell ?_ (by first | omega | (simp; done) | (simp; omega)) _ | refine Below.alloc ?_ (by first | omega | (simp; done) | (simp; omega)) _ | refine Below.trans ?_ (Below.mono hb1 (by first | omega | (simp; done) | (simp; omega)))))⟩
theorem l2f_32 (u : Nat) (a : Option Addr) (c : Nat) (w : World) (hx : Sl .u32 w (.slice a (Nm.lim u).length c) (Nm.lim u)) (hl : bitLen u ≤ 90000) :
    Calls Tryd.prog 139 #[.int .i64 32, .agg #[.bool false, .slice a (Nm.lim u).length c]] w fun e w' => (∃ x : Int, e = .returned (.tuple #[.int .u64 x, .bool (Nm.flo 24 2139095040 u)]) ∧ (Nm.flo 24 2139095040 u = true → x = (Nm.flb 24 u : Nat))) ∧ Below w.heap.size w w' := by
  by_cases hc : ((bitLen u : Nat) : Int) - 24 < 0
  · exact l2f_32A u a c w hx hl hc
  · exact l2f_32B u a c w hx hl (by omega)
theorem l2f_64 (u : Nat) (a : Option Addr) (c : Nat) (w : World) (hx : Sl .u32 w (.slice a (Nm.lim u).length c) (Nm.lim u)) (hl : bitLen u ≤ 90000) :
    Calls Tryd.prog 139 #[.int .i64 64, .agg #[.bool false, .slice a (Nm.lim u).length c]] w fun e w' => (∃ x : Int, e = .returned (.tuple #[.int .u64 x, .bool (Nm.flo 53 9218868437227405312 u)]) ∧ (Nm.flo 53 9218868437227405312 u = true → x = (Nm.flb 53 u : Nat))) ∧ Below w.heap.size w w' := by
  by_cases hc : ((bitLen u : Nat) : Int) - 53 < 0
  · exact l2f_64A u a c w hx hl hc
  · exact l2f_64B u a c w hx hl (by omega)
end Go.Proofs.YtojcaoccjapdoaaDoor
