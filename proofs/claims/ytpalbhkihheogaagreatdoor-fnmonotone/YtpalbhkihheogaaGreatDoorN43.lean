/-
  What is needed of FH, DR.
-/
import Derived.Test.YtpalbhkihheogaaGreatDoorN42
set_option maxHeartbeats 16000000
set_option maxRecDepth 1000000
namespace Go.Proofs.YtpalbhkihheogaaGreatDoor
set_option linter.unusedVariables false
set_option linter.unusedSimpArgs false
open Go.RowKit Go.Deep
namespace Fd
/-- Six numbers in a row. -/
def Row6 (S : Int) (w : World) (B : Nat) : Prop := ∀ j, j < 6 → ∃ d : Int, w.cell? ⟨B, j, none⟩ = some (.int .u64 d) ∧ 0 ≤ d ∧ d < S
theorem Row6.rd {S : Int} {w w' : World} {B rb : Nat} (h : Row6 S w B) (hg : w.grownBy w' (some rb)) (hlt : rb < B) (hB : B < w.heap.size) : Row6 S w' B := fun j hj => by
  obtain ⟨d, h1, h2⟩ := h j hj
  have e := hg.block B hB (by simp; omega)
  exact ⟨d, (World.cell?_of_block (a := ⟨B, j, none⟩) e).trans h1, h2⟩
theorem Row6.new {S v0 v1 v2 v3 v4 v5 : Int} {t : TypeId} (w : World) (h : (0 ≤ v0 ∧ v0 < S) ∧ (0 ≤ v1 ∧ v1 < S) ∧ (0 ≤ v2 ∧ v2 < S) ∧ (0 ≤ v3 ∧ v3 < S) ∧ (0 ≤ v4 ∧ v4 < S) ∧ (0 ≤ v5 ∧ v5 < S)) : Row6 S (w.alloc (.cells #[.int .u64 v0, .int .u64 v1, .int .u64 v2, .int .u64 v3, .int .u64 v4, .int .u64 v5] t)) w.heap.size := fun k hk => by
  have q := World.cell?_alloc_new w #[.int .u64 v0, .int .u64 v1, .int .u64 v2, .int .u64 v3, .int .u64 v4, .int .u64 v5] t k
  rw [q]
  obtain ⟨h0, h1, h2, h3, h4, h5⟩ := h
  rcases (show k = 0 ∨ k = 1 ∨ k = 2 ∨ k = 3 ∨ k = 4 ∨ k = 5 by omega) with rfl | rfl | rfl | rfl | rfl | rfl
  · exact ⟨v0, rfl, h0⟩
  · exact ⟨v1, rfl, h1⟩
  · exact ⟨v2, rfl, h2⟩
  · exact ⟨v3, rfl, h3⟩
  · exact ⟨v4, rfl, h4⟩
  · exact ⟨v5, rfl, h5⟩
theorem bl_add {x y : Int} {k : Nat} (hx : bitLen x.natAbs ≤ k) (hy : bitLen y.natAbs ≤ k) : bitLen (x + y).natAbs ≤ k + 1 := by
  have h1 := (Nm.bl_le_iff _ k).1 hx
  have h2 := (Nm.bl_le_iff _ k).1 hy
  refine (Nm.bl_le_iff _ _).2 ?_
  have h3 : (x + y).natAbs ≤ x.natAbs + y.natAbs := Int.natAbs_add_le _ _
  rw [Nat.pow_succ]; omega
theorem bl_shift {x n : Int} {k : Nat} (hx : bitLen x.natAbs ≤ k) : bitLen (Nm.shV (Nm.wn x) (Nm.val (Nm.wl x)) n).natAbs ≤ k + n.toNat := by
  have h1 := (Nm.bl_le_iff _ k).1 hx
  rw [Nm.val_wl, shV_sg]
  have e : (if Nm.wn x = true then -((Nm.sh x.natAbs n : Nat) : Int) else ((Nm.sh x.natAbs n : Nat) : Int)).natAbs = Nm.sh x.natAbs n := by split <;> omega
  rw [e]
  refine (Nm.bl_le_iff _ _).2 ?_
  unfold Nm.sh
  split
  · have := Nat.div_le_self x.natAbs (2 ^ (-n).toNat)
    have h3 : 2 ^ k ≤ 2 ^ (k + n.toNat) := Nat.pow_le_pow_right (by decide) (by omega)
    omega
  · rw [Nat.pow_add]
    exact Nat.mul_lt_mul_of_pos_right h1 (Nat.two_pow_pos _)
theorem wl_k {x : Int} {k : Nat} (hx : bitLen x.natAbs ≤ 32 * k) : (Nm.wl x).length ≤ k := by unfold Nm.wl; exact lim_len hx
theorem bl_small {x : Int} (h0 : -1000000 ≤ x) (h1 : x ≤ 1000000) : bitLen x.natAbs ≤ 20 := (Nm.bl_le_iff _ _).2 (Nat.lt_of_le_of_lt (show x.natAbs ≤ 1000000 by omega) (by decide))
theorem shift_x (x : Int) (a : Option Addr) (cap : Nat) (n : Int) (w : World) (hx : Sl .u32 w (.slice a (Nm.wl x).length cap) (Nm.wl x)) (k : Nat) (hk : bitLen x.natAbs ≤ k) (hk2 : k ≤ 60000) (h0 : -100000 ≤ n) (h1 : n ≤ 100000) :
    Calls Tryz.prog 55 #[.agg #[.bool (Nm.wn x), .slice a (Nm.wl x).length cap], .int .i64 n] w fun e w' => ∃ y : Int, ∃ a' c', e = .returned (.agg #[.bool (Nm.wn y), .slice a' (Nm.wl y).length c']) ∧ bitLen y.natAbs ≤ k + n.toNat ∧ Own w' w.heap.size a' c' (Nm.wl y) ∧ Below w.heap.size w w' := by
  refine (l1shift_any (Nm.wn x) a cap (Nm.wl x) n w hx (Nm.wl_dg x) (by have := wl_k (x := x) (k := 2000) (by omega); omega) (by omega) (by omega) _ rfl).mono ?_
  rintro e w' ⟨a', c', h1, h2, h3⟩
  exact ⟨_, a', c', h1, bl_shift hk, h2, h3⟩
theorem add_x (x y : Int) (a b : Option Addr) (cap cap' : Nat) (w : World) (hx : Sl .u32 w (.slice a (Nm.wl x).length cap) (Nm.wl x)) (hy : Sl .u32 w (.slice b (Nm.wl y).length cap') (Nm.wl y)) (k : Nat) (hk : bitLen x.natAbs ≤ k) (hk' : bitLen y.natAbs ≤ k) (hk2 : k ≤ 60000) :
    Calls Tryz.prog 54 #[.agg #[.bool (Nm.wn x), .slice a (Nm.wl x).length cap], .agg #[.bool (Nm.wn y), .slice b (Nm.wl y).length cap']] w fun e w' => ∃ z : Int, ∃ a' c', e = .returned (.agg #[.bool (Nm.wn z), .slice a' (Nm.wl z).length c']) ∧ bitLen z.natAbs ≤ k + 1 ∧ Own w' w.heap.size a' c' (Nm.wl z) ∧ Below w.heap.size w w' := by
  refine (l1add_any (Nm.wn x) (Nm.wn y) a b cap cap' (Nm.wl x) (Nm.wl y) w hx hy (Nm.wl_dg x) (Nm.wl_dg y) (Nm.wl_nz x) (Nm.wl_nz y) (by have := wl_k (x := x) (k := 2000) (by omega); omega) (by have := wl_k (x := y) (k := 2000) (by omega); omega) (x + y) (by rw [Nm.wv_out, Nm.wv_out])).mono ?_
  rintro e w' ⟨a', c', h1, h2, h3⟩
  exact ⟨_, a', c', h1, bl_add hk hk', h2, h3⟩
theorem of_x (n : Int) (w : World) (h0 : -1000000 ≤ n) (h1 : n ≤ 1000000) :
    Calls Tryz.prog 56 #[.int .i64 n] w fun e w' => ∃ z : Int, ∃ a' c', e = .returned (.agg #[.bool (Nm.wn z), .slice a' (Nm.wl z).length c']) ∧ bitLen z.natAbs ≤ 20 ∧ Own w' w.heap.size a' c' (Nm.wl z) ∧ Below w.heap.size w w' := by
  refine (wof_spec n w (by omega) (by omega)).mono ?_
  rintro e w' ⟨a', c', h2, h3, h4⟩
  exact ⟨n, a', c', h2, bl_small h0 h1, h3, h4⟩
theorem un_bl (fm x : Int) : bitLen (unI fm x).natAbs ≤ 2200 := by
  cases hf : finB fm x
  · rw [un_no hf]; decide
  · have h : (unI fm x).natAbs = Nm.sh (pM fm x).toNat (pE fm x - unQ fm) := by unfold unI; rw [hf, if_pos rfl]; cases pS fm x <;> simp
    rw [h]; exact un_bits hf
theorem unit_x (fm x : Int) (w : World) (hf : finB fm x = true) (x0 : 0 ≤ x) (x1 : x < 18446744073709551616) :
    Calls Tryz.prog 35 #[.int .i64 fm, .int .u64 x] w fun e w' => ∃ z : Int, ∃ a' c', e = .returned (.agg #[.bool (Nm.wn z), .slice a' (Nm.wl z).length c']) ∧ bitLen z.natAbs ≤ 2200 ∧ Own w' w.heap.size a' c' (Nm.wl z) ∧ Below w.heap.size w w' := by
  refine (l2units_any fm x w hf x0 x1).mono ?_
  rintro e w' ⟨a', c', h2, h3, h4⟩
  exact ⟨unI fm x, a', c', h2, un_bl fm x, h3, h4⟩
theorem finite_x (fm : Int) (hf : fmtB fm = true) (rb : Nat) (ca : Option Addr) (cc : Nat) (cs : List Int) (w : World) (hr : RD w rb ca cc cs) :
    Calls Tryz.prog 99 #[.pointer (some ⟨rb, 0, none⟩), .int .i64 fm] w fun e w' => ∃ x : Int, e = .returned (.int .u64 x) ∧ 0 ≤ x ∧ x < 18446744073709551616 ∧ finB fm x = true ∧ RD w' rb ca cc cs ∧ w.grownBy w' (some rb) := by
  rcases fmt_cases hf with rfl | rfl
  · exact (finiteF32 rb ca cc cs w hr).mono fun _ _ ⟨x, h1, h2, h3, h4⟩ => ⟨x, h1, h2.1, by have := h2.2.1; omega, h2.2.2, h3, h4⟩
  · exact (finiteF64 rb ca cc cs w hr).mono fun _ _ ⟨x, h1, h2, h3, h4⟩ => ⟨x, h1, h2.1, h2.2.1, h2.2.2, h3, h4⟩
theorem inf_x (fm : Int) (hf : fmtB fm = true) (w : World) :
    Calls Tryz.prog 84 #[.int .i64 fm] w fun e w' => e = .returned (.int .u64 (infOf fm)) ∧ Below w.heap.size w w' := by
  rcases fmt_cases hf with rfl | rfl
  · exact spec_inf32 w
  · exact spec_inf64 w
theorem p_x (fm : Int) (hf : fmtB fm = true) (w : World) :
    Calls Tryz.prog 61 #[.int .i64 fm] w fun e w' => ∃ p : Int, e = .returned (.int .i64 p) ∧ 24 ≤ p ∧ p ≤ 53 ∧ Below w.heap.size w w' := by
  rcases fmt_cases hf with rfl | rfl
  · exact (spec_P32 w).mono fun _ _ ⟨h1, h2⟩ => ⟨_, h1, by decide, by decide, h2⟩
  · exact (spec_P64 w).mono fun _ _ ⟨h1, h2⟩ => ⟨_, h1, by decide, by decide, h2⟩
theorem fin_mod {fm u : Int} (hf : fmtB fm = true) (h0 : 0 ≤ u) : 0 ≤ u.tmod (infOf fm) ∧ u.tmod (infOf fm) < 18446744073709551616 ∧ finB fm (u.tmod (infOf fm)) = true := by
  rcases fmt_cases hf with rfl | rfl
  · have h := sgn_fin32 (u.tmod 2139095040) false (tmX32 h0)
    have e : sgn 2147483648 (u.tmod 2139095040) false = u.tmod 2139095040 := rfl
    rw [e] at h
    exact ⟨h.1, by have := h.2.1; show u.tmod 2139095040 < _; omega, h.2.2⟩
  · have h := sgn_fin64 (u.tmod 9218868437227405312) false (tmX64 h0)
    have e : sgn 9223372036854775808 (u.tmod 9218868437227405312) false = u.tmod 9218868437227405312 := rfl
    rw [e] at h
    exact ⟨h.1, h.2.1, h.2.2⟩
theorem up_bounds {fm x : Int} (x0 : 0 ≤ x) (x1 : x < 18446744073709551616) : 0 ≤ upF fm x ∧ upF fm x < 18446744073709551616 := by
  cases hok : okF fm x
  · rw [up_no hok]; omega
  · exact (up_ok hok x0 x1).2
theorem great_x (fm : Int) (hf : fmtB fm = true) (ng : Bool) (w : World) :
    Calls Tryz.prog 58 #[.int .i64 fm, .bool ng] w fun e w' => ∃ x : Int, e = .returned (.int .u64 x) ∧ 0 ≤ x ∧ x < 18446744073709551616 ∧ finB fm x = true ∧ Below w.heap.size w w' := by
  rcases fmt_cases hf with rfl | rfl
  · refine (spec_Greatest32 ng w).mono fun _ _ ⟨h1, h2⟩ => ⟨_, h1, ?_, ?_, ?_, h2⟩ <;> cases ng <;> decide +kernel
  · refine (spec_Greatest64 ng w).mono fun _ _ ⟨h1, h2⟩ => ⟨_, h1, ?_, ?_, ?_, h2⟩ <;> cases ng <;> decide +kernel
theorem bits_x (x : Int) (a : Option Addr) (cap : Nat) (w : World) (hx : Sl .u32 w (.slice a (Nm.wl x).length cap) (Nm.wl x)) (k : Nat) (hk : bitLen x.natAbs ≤ k) (hk2 : k ≤ 60000) :
    Calls Tryz.prog 60 #[.agg #[.bool (Nm.wn x), .slice a (Nm.wl x).length cap]] w fun e w' => ∃ n : Int, e = .returned (.int .i64 n) ∧ 0 ≤ n ∧ n ≤ k ∧ Below w.heap.size w w' := by
  refine (l1Bits_any (Nm.wn x) a cap (Nm.wl x) w hx (Nm.wl_dg x) (by have := wl_k (x := x) (k := 2000) (by omega); omega)).mono ?_
  rintro e w' ⟨h1, h2⟩
  have e1 : blL (Nm.wl x) = (bitLen x.natAbs : Int) := by unfold Nm.wl; exact blL_lim _
  rw [e1] at h1
  exact ⟨_, h1, by omega, by omega, h2⟩
theorem near_z (rb : Nat) (ca : Option Addr) (cc : Nat) (cs : List Int) (lo hi : Int) (w : World) (hr : RD w rb ca cc cs) (h0 : -1000000 ≤ lo) (h1 : lo ≤ hi) (h2 : hi ≤ 1000000) :
    Calls Tryz.prog 102 #[.pointer (some ⟨rb, 0, none⟩), .int .i64 lo, .int .i64 hi] w fun e w' => ∃ v : Int, e = .returned (.int .i64 v) ∧ RD w' rb ca cc cs ∧ w.grownBy w' (some rb) := by
  go_enter Tryz.func102, Tryz.ntmps102
  go_wp2_with fail
  refine (below_any rb ca cc cs 8 _ hr (by decide) (by decide)).mono ?_
  rintro e w1 ⟨v, rfl, v0, v1, hr1, hg1⟩
  rcases (show v = 0 ∨ v = 1 ∨ 1 < v by omega) with rfl | rfl | hv
  · go_wp2
    go_ret
    exact ⟨_, rfl, hr1, hg1⟩
  · go_wp2
    go_ret
    exact ⟨_, rfl, hr1, hg1⟩
  · have e0 : (v == 0) = false := by simp; omega
    have e1 : (v == 1) = false := by simp; omega
    have e2 : decide (hi < lo) = false := by simp; omega
    have W1 : IntKind.u64.wrap (hi - lo + 1) = hi - lo + 1 := by rw [IntKind.wrap_u64]; omega
    have W2 : (hi - lo + 1 == 0) = false := by simp; omega
    have CW := hid (word_any rb ca cc cs _ hr1)
    go_wp2_with fail
    refine CW.out.mono ?_
    rintro e w2 ⟨u, rfl, u0, u1, hr2, hg2⟩
    go_wp2
    go_ret
    exact ⟨_, rfl, hr2, grown_trans hg1 hg2⟩
theorem off_z (rb : Nat) (ca : Option Addr) (cc : Nat) (cs : List Int) (lo hi : Int) (w : World) (hr : RD w rb ca cc cs) (h0 : -1000000 ≤ lo) (h1 : lo ≤ hi) (h2 : hi ≤ 1000000) :
    Calls Tryz.prog 51 #[.pointer (some ⟨rb, 0, none⟩), .int .i64 lo, .int .i64 hi] w fun e w' => ∃ v : Int, e = .returned (.int .i64 v) ∧ RD w' rb ca cc cs ∧ w.grownBy w' (some rb) := by
  go_enter Tryz.func51, Tryz.ntmps51
  go_wp2_with fail
  refine (once_any rb ca cc cs 24 _ hr (by decide) (by decide)).mono ?_
  rintro e w1 ⟨v, rfl, hr1, hg1⟩
  cases v
  · go_wp2_with fail
    refine (near_z rb ca cc cs lo hi _ hr1 h0 h1 h2).mono ?_
    rintro e w2 ⟨u, rfl, hr2, hg2⟩
    go_wp2
    go_ret
    exact ⟨_, rfl, hr2, grown_trans hg1 hg2⟩
  · have l1 := hr1.lt
    go_wp2_with fail
    refine (below_any rb ca cc cs 4 _ (hr1.alloc _) (by decide) (by decide)).mono ?_
    rintro e w3 ⟨kz, rfl, k0, k1, hr3, hg3⟩
    obtain ⟨k, rfl⟩ := Int.eq_ofNat_of_zero_le k0
    obtain ⟨d, hd⟩ := TCn.four_cell w1 hg3 l1 k (by omega)
    go_wp2
    go_ret
    exact ⟨d, rfl, hr3, grown_trans (grown_alloc hg1 _) hg3⟩
end Fd
end Go.Proofs.YtpalbhkihheogaaGreatDoor
