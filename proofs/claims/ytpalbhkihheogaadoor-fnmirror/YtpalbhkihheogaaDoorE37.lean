/-
  What is needed of VecA, FH, FP, LR, FF, DR.
-/
import Derived.LoopN
import Derived.Test.YtpalbhkihheogaaDoorE36
set_option maxHeartbeats 16000000
set_option maxRecDepth 1000000
namespace Go.Proofs.YtpalbhkihheogaaDoor
set_option linter.unusedVariables false
set_option linter.unusedSimpArgs false
open Go.RowKit Go.Deep
/-- Numbers of 64 bits. -/
def D64 (xs : List Int) : Prop := ∀ x ∈ xs, 0 ≤ x ∧ x < 18446744073709551616
theorem D64.getD {xs : List Int} (h : D64 xs) (k : Nat) : 0 ≤ xs.getD k 0 ∧ xs.getD k 0 < 18446744073709551616 := by
  rw [List.getD_eq_getElem?_getD]
  by_cases hk : k < xs.length
  · rw [List.getElem?_eq_getElem hk]; exact h _ (List.getElem_mem hk)
  · rw [List.getElem?_eq_none (by omega)]; decide
namespace Fd
/-- Six numbers in a row. -/
def Row6 (S : Int) (w : World) (B : Nat) : Prop := ∀ j, j < 6 → ∃ d : Int, w.cell? ⟨B, j, none⟩ = some (.int .u64 d) ∧ 0 ≤ d ∧ d < S
theorem Row6.rd {S : Int} {w w' : World} {B rb : Nat} (h : Row6 S w B) (hg : w.grownBy w' (some rb)) (hlt : rb < B) (hB : B < w.heap.size) : Row6 S w' B := fun j hj => by
  obtain ⟨d, h1, h2⟩ := h j hj
  have e := hg.block B hB (by simp; omega)
  exact ⟨d, (World.cell?_of_block (a := ⟨B, j, none⟩) e).trans h1, h2⟩
theorem Row6.new {S v0 v1 v2 v3 v4 v5 : Int} {t : TypeId} (w : World) (h : (0 ≤ v0 ∧ v0 < S) ∧ (0 ≤ v1 ∧ v1 < S) ∧ (0 ≤ v2 ∧ v2 < S) ∧ (0 ≤ v3 ∧ v3 < S) ∧ (0 ≤ v4 ∧ v4 < S) ∧ (0 ≤ v5 ∧ v5 < S)) : Row6 S (w.alloc (.cells #[.int .u64 v0, .int .u64 v1, .int .u64 v2, .int .u64 v3, .int .u64 v4, .int .u64 v5] t)) w.heap.size := fun k hk => by
  have q := World.cell?_alloc_new w #[.int .u64 v0, .int .u64 v1, .int .u64 v2, .int .u64 v3, .int .u64 v4, .int .u64 v5] t k
  rw [q]
  obtain ⟨h0, h1, h2, h3, h4, h5⟩ := h
  rcases (show k = 0 ∨ k = 1 ∨ k = 2 ∨ k = 3 ∨ k = 4 ∨ k = 5 by omega) with rfl | rfl | rfl | rfl | rfl | rfl
  · exact ⟨v0, rfl, h0⟩
  · exact ⟨v1, rfl, h1⟩
  · exact ⟨v2, rfl, h2⟩
  · exact ⟨v3, rfl, h3⟩
  · exact ⟨v4, rfl, h4⟩
  · exact ⟨v5, rfl, h5⟩
theorem iNegated (fm x : Int) (w : World) (hT : Tab w) (x0 : 0 ≤ x) (x1 : x < 18446744073709551616) :
    Calls Tryd.prog 38 #[.int .i64 fm, .int .u64 x] w fun e w' => e = .returned (.int .u64 (negF fm x)) ∧ Below w.heap.size w w' := by
  cases ho : okF fm x
  · have C := hid (fun w' h => impl_ok fm x w' h x0 x1)
    have HR := hid (neg_no ho)
    rw [ho] at C
    clear ho
    go_enter Tryd.func38, Tryd.ntmps38
    go_wp2_with fail
    refine (C.out _ hT).mono ?_
    rintro e w1 ⟨rfl, hb1⟩
    go_wp2
    go_ret
    exact ⟨ret_int HR.out.symm, (by repeat (first | exact bz0 _ _ | refine bz1 ?_ | refine bz2 ?_ _ | refine bz3 ?_ _ | refine bz4 ?_ hb1 | refine bz5 ?_ _ | refine bz6 ?_ _ | refine bz7 ?_ hb1))⟩
  · rcases okF_cases ho with ⟨rfl, h⟩ | rfl
    · rw [neg32 h]; exact impl_neg32 x w hT x0 h
    · rw [neg64]; exact impl_neg64 x w hT x0 x1
theorem round_any (fm mode : Int) (ng : Bool) (zs : List Int) (e : Int) (p : Option Addr) (c : Nat) (w : World) (hT : T3 w) (hs : Sl .u32 w (.slice p zs.length c) zs) (hz : Nm.Dg zs) (hl : zs.length ≤ 1048576) :
    Calls Tryd.prog 34 #[.int .i64 fm, .int .i64 mode, .agg #[.bool ng, .slice p zs.length c], .int .i64 e] w fun x w' => x = .returned (.tuple #[.int .u64 (RdB fm mode ng zs e), .int .i64 (RdF fm mode ng zs e), .bool true]) ∧ Below w.heap.size w w' := by
  have CS := hid (fun w' h => rounded_spec fm mode ng zs e p c w' h hz hl)
  have CI := hid (fun w' h h' => rounded_impl fm mode ng zs e p c w' h h' hz hl)
  obtain ⟨b, hb⟩ : ∃ b, b = RdB fm mode ng zs e := ⟨_, rfl⟩
  obtain ⟨f, hf⟩ : ∃ f, f = RdF fm mode ng zs e := ⟨_, rfl⟩
  obtain ⟨o, ho⟩ : ∃ o, o = RdO fm mode ng zs e := ⟨_, rfl⟩
  rw [← hb, ← hf] at CS CI ⊢
  rw [← ho] at CS CI
  clear hb hf ho hz hl
  have q1 : (b == b) = true := by simp
  have q2 : (f == f) = true := by simp
  have q3 : (o == o) = true := by simp
  go_enter Tryd.func34, Tryd.ntmps34
  go_wp2_with fail
  refine (CI.out _ (hT.al _) (hs.alloc _)).mono ?_
  rintro x w1 ⟨rfl, hb1⟩
  have x1 := (Box.new w (.bool ng) (.slice p zs.length c) 30).below hb1
  have hs1 := (hs.alloc _).below hb1
  obtain ⟨x10, x11⟩ := x1
  go_wp2_with fail
  refine (CS.out _ hs1).mono ?_
  rintro x w2 ⟨rfl, hb2⟩
  go_wp2
  go_ret3
  exact ⟨rfl, (by repeat (first | exact bz0 _ _ | refine bz1 ?_ | refine bz2 ?_ _ | refine bz3 ?_ _ | refine bz4 ?_ hb2 | refine bz4 ?_ hb1 | refine bz5 ?_ _ | refine bz6 ?_ _ | refine bz7 ?_ hb2 | refine bz7 ?_ hb1))⟩
theorem goes_any (fm : Int) (ng : Bool) (zs : List Int) (e : Int) (p : Option Addr) (c : Nat) (w : World) (hs : Sl .u32 w (.slice p zs.length c) zs) (hz : Nm.Dg zs) (hl : zs.length ≤ 1048576) :
    Calls Tryd.prog 35 #[.int .i64 fm, .agg #[.bool ng, .slice p zs.length c], .int .i64 e] w fun x w' => x = .returned (.bool (RdO fm 0 ng zs e)) ∧ Below w.heap.size w w' := by
  have CS := hid (fun w' h => rounded_spec fm 0 ng zs e p c w' h hz hl)
  obtain ⟨b, hb⟩ : ∃ b, b = RdB fm 0 ng zs e := ⟨_, rfl⟩
  obtain ⟨f, hf⟩ : ∃ f, f = RdF fm 0 ng zs e := ⟨_, rfl⟩
  obtain ⟨o, ho⟩ : ∃ o, o = RdO fm 0 ng zs e := ⟨_, rfl⟩
  rw [← hb, ← hf, ← ho] at CS
  rw [← ho]
  clear hb hf ho hz hl
  go_enter Tryd.func35, Tryd.ntmps35
  go_wp2_with fail
  refine (CS.out _ (hs.alloc _)).mono ?_
  rintro x w1 ⟨rfl, hb1⟩
  go_wp2
  go_ret
  exact ⟨rfl, (by repeat (first | exact bz0 _ _ | refine bz1 ?_ | refine bz2 ?_ _ | refine bz3 ?_ _ | refine bz4 ?_ hb1 | refine bz5 ?_ _ | refine bz6 ?_ _ | refine bz7 ?_ hb1))⟩
theorem rdb_bd {P I : Nat} {q S mode : Int} {ng : Bool} {a : Nat} {e : Int} (h0 : 0 < I) (h1 : (I : Int) < S) : ∃ v : Int, 0 ≤ v ∧ v ≤ I ∧ v < S ∧ rdB P q I S mode ng a e = sgn S v ng := by
  unfold rdB
  by_cases hf : Nm.flo P I (rdU P q mode ng a e) = true
  · rw [if_pos hf]
    have : Nm.flb P (rdU P q mode ng a e) < I := by
      unfold Nm.flo at hf
      simp only [Bool.and_eq_true, decide_eq_true_eq] at hf
      exact hf.2
    exact ⟨_, by omega, by omega, by omega, rfl⟩
  · rw [if_neg hf]
    split
    · exact ⟨_, by omega, by omega, by omega, rfl⟩
    · exact ⟨_, by omega, by omega, by omega, rfl⟩
theorem Rd_any32 (mode : Int) (ng : Bool) (zs : List Int) (e : Int) (ho : RdO 32 mode ng zs e = true) (hz : ¬ zs.length = 0) :
    RdB 32 mode ng zs e = rdB 24 (-149) 2139095040 2147483648 mode ng (Nm.val zs).toNat e ∧ RdF 32 mode ng zs e = rdF 24 (-149) 2139095040 mode ng (Nm.val zs).toNat e := by
  unfold RdB RdF
  rw [ho, if_pos rfl, if_pos rfl, if_neg hz, if_neg hz, if_pos rfl, if_pos rfl]
  exact ⟨rfl, rfl⟩
theorem sgn_abs32 {v : Int} (h0 : 0 ≤ v) (h1 : v < 2147483648) (ng : Bool) : 0 ≤ sgn 2147483648 v ng ∧ sgn 2147483648 v ng < 4294967296 ∧ absF 32 (sgn 2147483648 v ng) = v := by
  have hb : 0 ≤ sgn 2147483648 v ng ∧ sgn 2147483648 v ng < 4294967296 := by unfold sgn; split <;> omega
  refine ⟨hb.1, hb.2, ?_⟩
  rw [ab32 hb.1 hb.2]
  unfold sgn
  cases ng
  · simp only [Bool.false_eq_true, if_false]; rw [if_pos h1]
  · simp only [if_true]; rw [if_neg (by omega)]; omega
theorem Rd_any64 (mode : Int) (ng : Bool) (zs : List Int) (e : Int) (ho : RdO 64 mode ng zs e = true) (hz : ¬ zs.length = 0) :
    RdB 64 mode ng zs e = rdB 53 (-1074) 9218868437227405312 9223372036854775808 mode ng (Nm.val zs).toNat e ∧ RdF 64 mode ng zs e = rdF 53 (-1074) 9218868437227405312 mode ng (Nm.val zs).toNat e := by
  unfold RdB RdF
  rw [ho, if_pos rfl, if_pos rfl, if_neg hz, if_neg hz, if_neg (show ¬ ((64 : Int) = 32) from by decide), if_neg (show ¬ ((64 : Int) = 32) from by decide)]
  exact ⟨rfl, rfl⟩
theorem sgn_abs64 {v : Int} (h0 : 0 ≤ v) (h1 : v < 9223372036854775808) (ng : Bool) : 0 ≤ sgn 9223372036854775808 v ng ∧ sgn 9223372036854775808 v ng < 18446744073709551616 ∧ absF 64 (sgn 9223372036854775808 v ng) = v := by
  have hb : 0 ≤ sgn 9223372036854775808 v ng ∧ sgn 9223372036854775808 v ng < 18446744073709551616 := by unfold sgn; split <;> omega
  refine ⟨hb.1, hb.2, ?_⟩
  rw [ab64 hb.1 hb.2]
  unfold sgn
  cases ng
  · simp only [Bool.false_eq_true, if_false]; rw [if_pos h1]
  · simp only [if_true]; rw [if_neg (by omega)]; omega
theorem bl_add {x y : Int} {k : Nat} (hx : bitLen x.natAbs ≤ k) (hy : bitLen y.natAbs ≤ k) : bitLen (x + y).natAbs ≤ k + 1 := by
  have h1 := (Nm.bl_le_iff _ k).1 hx
  have h2 := (Nm.bl_le_iff _ k).1 hy
  refine (Nm.bl_le_iff _ _).2 ?_
  have h3 : (x + y).natAbs ≤ x.natAbs + y.natAbs := Int.natAbs_add_le _ _
  rw [Nat.pow_succ]; omega
theorem bl_shift {x n : Int} {k : Nat} (hx : bitLen x.natAbs ≤ k) : bitLen (Nm.shV (Nm.wn x) (Nm.val (Nm.wl x)) n).natAbs ≤ k + n.toNat := by
  have h1 := (Nm.bl_le_iff _ k).1 hx
  rw [Nm.val_wl, shV_sg]
  have e : (if Nm.wn x = true then -((Nm.sh x.natAbs n : Nat) : Int) else ((Nm.sh x.natAbs n : Nat) : Int)).natAbs = Nm.sh x.natAbs n := by split <;> omega
  rw [e]
  refine (Nm.bl_le_iff _ _).2 ?_
  unfold Nm.sh
  split
  · have := Nat.div_le_self x.natAbs (2 ^ (-n).toNat)
    have h3 : 2 ^ k ≤ 2 ^ (k + n.toNat) := Nat.pow_le_pow_right (by decide) (by omega)
    omega
  · rw [Nat.pow_add]
    exact Nat.mul_lt_mul_of_pos_right h1 (Nat.two_pow_pos _)
theorem wl_k {x : Int} {k : Nat} (hx : bitLen x.natAbs ≤ 32 * k) : (Nm.wl x).length ≤ k := by unfold Nm.wl; exact lim_len hx
theorem bl_small {x : Int} (h0 : -1000000 ≤ x) (h1 : x ≤ 1000000) : bitLen x.natAbs ≤ 20 := (Nm.bl_le_iff _ _).2 (Nat.lt_of_le_of_lt (show x.natAbs ≤ 1000000 by omega) (by decide))
theorem shift_x (x : Int) (a : Option Addr) (cap : Nat) (n : Int) (w : World) (hx : Sl .u32 w (.slice a (Nm.wl x).length cap) (Nm.wl x)) (k : Nat) (hk : bitLen x.natAbs ≤ k) (hk2 : k ≤ 60000) (h0 : -100000 ≤ n) (h1 : n ≤ 100000) :
    Calls Tryd.prog 104 #[.agg #[.bool (Nm.wn x), .slice a (Nm.wl x).length cap], .int .i64 n] w fun e w' => ∃ y : Int, ∃ a' c', e = .returned (.agg #[.bool (Nm.wn y), .slice a' (Nm.wl y).length c']) ∧ bitLen y.natAbs ≤ k + n.toNat ∧ Own w' w.heap.size a' c' (Nm.wl y) ∧ Below w.heap.size w w' := by
  refine (l1shift_any (Nm.wn x) a cap (Nm.wl x) n w hx (Nm.wl_dg x) (by have := wl_k (x := x) (k := 2000) (by omega); omega) (by omega) (by omega) _ rfl).mono ?_
  rintro e w' ⟨a', c', h1, h2, h3⟩
  exact ⟨_, a', c', h1, bl_shift hk, h2, h3⟩
theorem add_x (x y : Int) (a b : Option Addr) (cap cap' : Nat) (w : World) (hx : Sl .u32 w (.slice a (Nm.wl x).length cap) (Nm.wl x)) (hy : Sl .u32 w (.slice b (Nm.wl y).length cap') (Nm.wl y)) (k : Nat) (hk : bitLen x.natAbs ≤ k) (hk' : bitLen y.natAbs ≤ k) (hk2 : k ≤ 60000) :
    Calls Tryd.prog 103 #[.agg #[.bool (Nm.wn x), .slice a (Nm.wl x).length cap], .agg #[.bool (Nm.wn y), .slice b (Nm.wl y).length cap']] w fun e w' => ∃ z : Int, ∃ a' c', e = .returned (.agg #[.bool (Nm.wn z), .slice a' (Nm.wl z).length c']) ∧ bitLen z.natAbs ≤ k + 1 ∧ Own w' w.heap.size a' c' (Nm.wl z) ∧ Below w.heap.size w w' := by
  refine (l1add_any (Nm.wn x) (Nm.wn y) a b cap cap' (Nm.wl x) (Nm.wl y) w hx hy (Nm.wl_dg x) (Nm.wl_dg y) (Nm.wl_nz x) (Nm.wl_nz y) (by have := wl_k (x := x) (k := 2000) (by omega); omega) (by have := wl_k (x := y) (k := 2000) (by omega); omega) (x + y) (by rw [Nm.wv_out, Nm.wv_out])).mono ?_
  rintro e w' ⟨a', c', h1, h2, h3⟩
  exact ⟨_, a', c', h1, bl_add hk hk', h2, h3⟩
theorem of_x (n : Int) (w : World) (h0 : -1000000 ≤ n) (h1 : n ≤ 1000000) :
    Calls Tryd.prog 105 #[.int .i64 n] w fun e w' => ∃ z : Int, ∃ a' c', e = .returned (.agg #[.bool (Nm.wn z), .slice a' (Nm.wl z).length c']) ∧ bitLen z.natAbs ≤ 20 ∧ Own w' w.heap.size a' c' (Nm.wl z) ∧ Below w.heap.size w w' := by
  refine (wof_spec n w (by omega) (by omega)).mono ?_
  rintro e w' ⟨a', c', h2, h3, h4⟩
  exact ⟨n, a', c', h2, bl_small h0 h1, h3, h4⟩
theorem un_bl (fm x : Int) : bitLen (unI fm x).natAbs ≤ 2200 := by
  cases hf : finB fm x
  · rw [un_no hf]; decide
  · have h : (unI fm x).natAbs = Nm.sh (pM fm x).toNat (pE fm x - unQ fm) := by unfold unI; rw [hf, if_pos rfl]; cases pS fm x <;> simp
    rw [h]; exact un_bits hf
theorem unit_x (fm x : Int) (w : World) (hf : finB fm x = true) (x0 : 0 ≤ x) (x1 : x < 18446744073709551616) :
    Calls Tryd.prog 106 #[.int .i64 fm, .int .u64 x] w fun e w' => ∃ z : Int, ∃ a' c', e = .returned (.agg #[.bool (Nm.wn z), .slice a' (Nm.wl z).length c']) ∧ bitLen z.natAbs ≤ 2200 ∧ Own w' w.heap.size a' c' (Nm.wl z) ∧ Below w.heap.size w w' := by
  refine (l2units_any fm x w hf x0 x1).mono ?_
  rintro e w' ⟨a', c', h2, h3, h4⟩
  exact ⟨unI fm x, a', c', h2, un_bl fm x, h3, h4⟩
theorem finite_x (fm : Int) (hf : fmtB fm = true) (rb : Nat) (ca : Option Addr) (cc : Nat) (cs : List Int) (w : World) (hr : RD w rb ca cc cs) :
    Calls Tryd.prog 84 #[.pointer (some ⟨rb, 0, none⟩), .int .i64 fm] w fun e w' => ∃ x : Int, e = .returned (.int .u64 x) ∧ 0 ≤ x ∧ x < 18446744073709551616 ∧ finB fm x = true ∧ RD w' rb ca cc cs ∧ w.grownBy w' (some rb) := by
  rcases fmt_cases hf with rfl | rfl
  · exact (finiteF32 rb ca cc cs w hr).mono fun _ _ ⟨x, h1, h2, h3, h4⟩ => ⟨x, h1, h2.1, by have := h2.2.1; omega, h2.2.2, h3, h4⟩
  · exact (finiteF64 rb ca cc cs w hr).mono fun _ _ ⟨x, h1, h2, h3, h4⟩ => ⟨x, h1, h2.1, h2.2.1, h2.2.2, h3, h4⟩
theorem inf_x (fm : Int) (hf : fmtB fm = true) (w : World) :
    Calls Tryd.prog 94 #[.int .i64 fm] w fun e w' => e = .returned (.int .u64 (infOf fm)) ∧ Below w.heap.size w w' := by
  rcases fmt_cases hf with rfl | rfl
  · exact spec_inf32 w
  · exact spec_inf64 w
theorem p_x (fm : Int) (hf : fmtB fm = true) (w : World) :
    Calls Tryd.prog 109 #[.int .i64 fm] w fun e w' => ∃ p : Int, e = .returned (.int .i64 p) ∧ 24 ≤ p ∧ p ≤ 53 ∧ Below w.heap.size w w' := by
  rcases fmt_cases hf with rfl | rfl
  · exact (spec_P32 w).mono fun _ _ ⟨h1, h2⟩ => ⟨_, h1, by decide, by decide, h2⟩
  · exact (spec_P64 w).mono fun _ _ ⟨h1, h2⟩ => ⟨_, h1, by decide, by decide, h2⟩
theorem fin_mod {fm u : Int} (hf : fmtB fm = true) (h0 : 0 ≤ u) : 0 ≤ u.tmod (infOf fm) ∧ u.tmod (infOf fm) < 18446744073709551616 ∧ finB fm (u.tmod (infOf fm)) = true := by
  rcases fmt_cases hf with rfl | rfl
  · have h := sgn_fin32 (u.tmod 2139095040) false (tmX32 h0)
    have e : sgn 2147483648 (u.tmod 2139095040) false = u.tmod 2139095040 := rfl
    rw [e] at h
    exact ⟨h.1, by have := h.2.1; show u.tmod 2139095040 < _; omega, h.2.2⟩
  · have h := sgn_fin64 (u.tmod 9218868437227405312) false (tmX64 h0)
    have e : sgn 9223372036854775808 (u.tmod 9218868437227405312) false = u.tmod 9218868437227405312 := rfl
    rw [e] at h
    exact ⟨h.1, h.2.1, h.2.2⟩
theorem up_bounds {fm x : Int} (x0 : 0 ≤ x) (x1 : x < 18446744073709551616) : 0 ≤ upF fm x ∧ upF fm x < 18446744073709551616 := by
  cases hok : okF fm x
  · rw [up_no hok]; omega
  · exact (up_ok hok x0 x1).2
theorem great_x (fm : Int) (hf : fmtB fm = true) (ng : Bool) (w : World) :
    Calls Tryd.prog 107 #[.int .i64 fm, .bool ng] w fun e w' => ∃ x : Int, e = .returned (.int .u64 x) ∧ 0 ≤ x ∧ x < 18446744073709551616 ∧ finB fm x = true ∧ Below w.heap.size w w' := by
  rcases fmt_cases hf with rfl | rfl
  · refine (spec_Greatest32 ng w).mono fun _ _ ⟨h1, h2⟩ => ⟨_, h1, ?_, ?_, ?_, h2⟩ <;> cases ng <;> decide +kernel
  · refine (spec_Greatest64 ng w).mono fun _ _ ⟨h1, h2⟩ => ⟨_, h1, ?_, ?_, ?_, h2⟩ <;> cases ng <;> decide +kernel
theorem bits_x (x : Int) (a : Option Addr) (cap : Nat) (w : World) (hx : Sl .u32 w (.slice a (Nm.wl x).length cap) (Nm.wl x)) (k : Nat) (hk : bitLen x.natAbs ≤ k) (hk2 : k ≤ 60000) :
    Calls Tryd.prog 108 #[.agg #[.bool (Nm.wn x), .slice a (Nm.wl x).length cap]] w fun e w' => ∃ n : Int, e = .returned (.int .i64 n) ∧ 0 ≤ n ∧ n ≤ k ∧ Below w.heap.size w w' := by
  refine (l1Bits_any (Nm.wn x) a cap (Nm.wl x) w hx (Nm.wl_dg x) (by have := wl_k (x := x) (k := 2000) (by omega); omega)).mono ?_
  rintro e w' ⟨h1, h2⟩
  have e1 : blL (Nm.wl x) = (bitLen x.natAbs : Int) := by unfold Nm.wl; exact blL_lim _
  rw [e1] at h1
  exact ⟨_, h1, by omega, by omega, h2⟩
theorem near_z (rb : Nat) (ca : Option Addr) (cc : Nat) (cs : List Int) (lo hi : Int) (w : World) (hr : RD w rb ca cc cs) (h0 : -1000000 ≤ lo) (h1 : lo ≤ hi) (h2 : hi ≤ 1000000) :
    Calls Tryd.prog 144 #[.pointer (some ⟨rb, 0, none⟩), .int .i64 lo, .int .i64 hi] w fun e w' => ∃ v : Int, e = .returned (.int .i64 v) ∧ RD w' rb ca cc cs ∧ w.grownBy w' (some rb) := by
  go_enter Tryd.func144, Tryd.ntmps144
  go_wp2_with fail
  refine (below_any rb ca cc cs 8 _ hr (by decide) (by decide)).mono ?_
  rintro e w1 ⟨v, rfl, v0, v1, hr1, hg1⟩
  rcases (show v = 0 ∨ v = 1 ∨ 1 < v by omega) with rfl | rfl | hv
  · go_wp2
    go_ret
    exact ⟨_, rfl, hr1, hg1⟩
  · go_wp2
    go_ret
    exact ⟨_, rfl, hr1, hg1⟩
  · have e0 : (v == 0) = false := by simp; omega
    have e1 : (v == 1) = false := by simp; omega
    have e2 : decide (hi < lo) = false := by simp; omega
    have W1 : IntKind.u64.wrap (hi - lo + 1) = hi - lo + 1 := by rw [IntKind.wrap_u64]; omega
    have W2 : (hi - lo + 1 == 0) = false := by simp; omega
    have CW := hid (word_any rb ca cc cs _ hr1)
    go_wp2_with fail
    refine CW.out.mono ?_
    rintro e w2 ⟨u, rfl, u0, u1, hr2, hg2⟩
    go_wp2
    go_ret
    exact ⟨_, rfl, hr2, grown_trans hg1 hg2⟩
theorem off_z (rb : Nat) (ca : Option Addr) (cc : Nat) (cs : List Int) (lo hi : Int) (w : World) (hr : RD w rb ca cc cs) (h0 : -1000000 ≤ lo) (h1 : lo ≤ hi) (h2 : hi ≤ 1000000) :
    Calls Tryd.prog 82 #[.pointer (some ⟨rb, 0, none⟩), .int .i64 lo, .int .i64 hi] w fun e w' => ∃ v : Int, e = .returned (.int .i64 v) ∧ RD w' rb ca cc cs ∧ w.grownBy w' (some rb) := by
  go_enter Tryd.func82, Tryd.ntmps82
  go_wp2_with fail
  refine (once_any rb ca cc cs 24 _ hr (by decide) (by decide)).mono ?_
  rintro e w1 ⟨v, rfl, hr1, hg1⟩
  cases v
  · go_wp2_with fail
    refine (near_z rb ca cc cs lo hi _ hr1 h0 h1 h2).mono ?_
    rintro e w2 ⟨u, rfl, hr2, hg2⟩
    go_wp2
    go_ret
    exact ⟨_, rfl, hr2, grown_trans hg1 hg2⟩
  · have l1 := hr1.lt
    go_wp2_with fail
    refine (below_any rb ca cc cs 4 _ (hr1.alloc _) (by decide) (by decide)).mono ?_
    rintro e w3 ⟨kz, rfl, k0, k1, hr3, hg3⟩
    obtain ⟨k, rfl⟩ := Int.eq_ofNat_of_zero_le k0
    obtain ⟨d, hd⟩ := TCn.four_cell w1 hg3 l1 k (by omega)
    go_wp2
    go_ret
    exact ⟨d, rfl, hr3, grown_trans (grown_alloc hg1 _) hg3⟩
end Fd
end Go.Proofs.YtpalbhkihheogaaDoor
