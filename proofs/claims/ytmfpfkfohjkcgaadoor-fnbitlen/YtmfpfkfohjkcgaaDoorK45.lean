/-
  What is needed of FL, RX, WI, WS.
-/
import Derived.Test.YtmfpfkfohjkcgaaDoorK42
import Derived.Test.YtmfpfkfohjkcgaaDoorK43
import Derived.Test.YtmfpfkfohjkcgaaDoorK44
set_option maxHeartbeats 16000000
set_option maxRecDepth 1000000
namespace Go.Proofs.YtmfpfkfohjkcgaaDoor
set_option linter.unusedVariables false
set_option linter.unusedSimpArgs false
open Go.RowKit Go.Deep
namespace Fd
theorem float_any (fm : Int) (hf : fmtB fm = true) (rb : Nat) (ca : Option Addr) (cc : Nat) (cs : List Int) (w : World) (hr : RD w rb ca cc cs) :
    Calls Tryd.prog 130 #[.pointer (some ⟨rb, 0, none⟩), .int .i64 fm] w fun e w' => ∃ x : Int, e = .returned (.int .u64 x) ∧ 0 ≤ x ∧ x < 18446744073709551616 ∧ RD w' rb ca cc cs ∧ w.grownBy w' (some rb) := by
  rcases fmt_cases hf with rfl | rfl
  · exact float32 rb ca cc cs w hr
  · exact float64 rb ca cc cs w hr
theorem some_any (rb : Nat) (ca : Option Addr) (cc : Nat) (cs : List Int) (w : World) (hr : RD w rb ca cc cs) :
    Calls Tryd.prog 91 #[.pointer (some ⟨rb, 0, none⟩)] w fun e w' => ∃ fm x : Int, e = .returned (.tuple #[.int .i64 fm, .int .u64 x]) ∧ 0 ≤ x ∧ x < 18446744073709551616 ∧ RD w' rb ca cc cs ∧ w.grownBy w' (some rb) := by
  go_enter Tryd.func91, Tryd.ntmps91
  go_wp2_with fail
  refine (format_any rb ca cc cs _ hr).mono ?_
  rintro e w1 ⟨fm, rfl, hf, hr1, hg1⟩
  have CF := hid (fun w' h => float_any fm hf rb ca cc cs w' h)
  clear hf
  go_wp2_with fail
  refine (CF.out _ hr1).mono ?_
  rintro e w2 ⟨x, rfl, x0, x1, hr2, hg2⟩
  go_wp2_with fail
  refine (below_any rb ca cc cs 40 _ hr2 (by decide) (by decide)).mono ?_
  rintro e w3 ⟨v, rfl, v0, v1, hr3, hg3⟩
  have hg := grown_trans (grown_trans hg1 hg2) hg3
  rcases (show v = 0 ∨ v = 1 ∨ 1 < v by omega) with rfl | rfl | hv
  · go_wp2_with fail
    refine (below_any rb ca cc cs 100 _ hr3 (by decide) (by decide)).mono ?_
    rintro e w4 ⟨u, rfl, u0, u1, hr4, hg4⟩
    go_wp2
    go_ret2
    exact ⟨_, _, rfl, x0, x1, hr4, grown_trans hg hg4⟩
  · have lo := bits_lo_u64 .or x 4294967296
    have hi := bits_hi_u64 .or x 4294967296
    go_wp2
    go_ret2
    exact ⟨_, _, rfl, by omega, by omega, hr3, hg⟩
  · have e0 : (v == 0) = false := by simp; omega
    have e1 : (v == 1) = false := by simp; omega
    go_wp2
    go_ret2
    exact ⟨_, _, rfl, x0, x1, hr3, hg⟩
theorem drawOk_any (ca : Option Addr) (cc : Nat) (cs : List Int) (w : World) (hs : Sl .u8 w (.slice ca cs.length cc) cs) (hby : ∀ i, 0 ≤ cs.getD i 0 ∧ cs.getD i 0 ≤ 255) (hl : cs.length ≤ 1048576) :
    Calls Tryd.prog 38 #[.slice ca cs.length cc] w fun e w' => ∃ fm x : Int, e = .returned (.tuple #[.int .i64 fm, .int .u64 x]) ∧ 0 ≤ x ∧ x < 18446744073709551616 ∧ Below w.heap.size w w' := by
  go_enter Tryd.func38, Tryd.ntmps38
  go_wp2_with fail
  refine (open_any ca cc cs _ hs hby hl).mono ?_
  rintro e w1 ⟨rfl, hr1, hb1⟩
  go_wp2_with fail
  refine (some_any w.heap.size ca cc cs _ hr1).mono ?_
  rintro e w2 ⟨fm, x, rfl, x0, x1, hr2, hg2⟩
  go_wp2
  go_ret2
  exact ⟨_, _, rfl, x0, x1, bel_rd hb1 hg2 (Nat.le_refl _)⟩
theorem drawPartsOf_any (ca : Option Addr) (cc : Nat) (cs : List Int) (w : World) (hs : Sl .u8 w (.slice ca cs.length cc) cs) (hby : ∀ i, 0 ≤ cs.getD i 0 ∧ cs.getD i 0 ≤ 255) (hl : cs.length ≤ 1048576) :
    Calls Tryd.prog 10 #[.slice ca cs.length cc] w fun e w' => ∃ fm x : Int, e = .returned (.tuple #[.int .i64 fm, .int .u64 x]) ∧ 0 ≤ x ∧ x < 18446744073709551616 ∧ Below w.heap.size w w' := by
  go_enter Tryd.func10, Tryd.ntmps10
  go_wp2_with fail
  refine (drawOk_any ca cc cs _ hs hby hl).mono ?_
  rintro e w1 ⟨fm, x, rfl, x0, x1, hb1⟩
  go_wp2
  go_ret2
  exact ⟨_, _, rfl, x0, x1, hb1⟩
theorem natAbs_pow (z : Int) (n : Nat) : (z * 2 ^ n).natAbs = z.natAbs * 2 ^ n := by
  rw [Int.natAbs_mul, Int.natAbs_pow]; rfl
theorem wl_abs (x : Int) : Nm.wl ((x.natAbs : Nat) : Int) = Nm.wl x := by unfold Nm.wl; rw [Int.natAbs_natCast]
theorem wn_abs (x : Int) : Nm.wn ((x.natAbs : Nat) : Int) = false := by unfold Nm.wn; exact decide_eq_false (by omega)
theorem fit_k {x : Int} (h : bitLen x.natAbs ≤ 6400) : (Nm.wl x).length ≤ 200 := by unfold Nm.wl; exact lim_len (k := 200) h
theorem bl_shl (x : Int) (n : Nat) : bitLen (x * 2 ^ n).natAbs ≤ bitLen x.natAbs + n := by
  rw [natAbs_pow]
  by_cases h : x.natAbs = 0
  · rw [h, Nat.zero_mul, Nm.bl_zero]; omega
  · rw [Nm.bl_mul h]; exact Nat.le_refl _
/-- Shifted up. -/
theorem shl_w (x : Int) (n : Int) (a : Option Addr) (c : Nat) (w : World) (hs : Sl .u32 w (.slice a (Nm.wl x).length c) (Nm.wl x)) (n0 : 0 ≤ n) (hb : bitLen x.natAbs + n.toNat ≤ 6400) :
    Calls Tryd.prog 15 #[.agg #[.bool (Nm.wn x), .slice a (Nm.wl x).length c], .int .i64 n] w fun r w' => ∃ a' c', r = .returned (.tuple #[.agg #[.bool (Nm.wn (x * 2 ^ n.toNat)), .slice a' (Nm.wl (x * 2 ^ n.toNat)).length c'], .bool true]) ∧ Own w' w.heap.size a' c' (Nm.wl (x * 2 ^ n.toNat)) ∧ Below w.heap.size w w' :=
  wsh_at2 (Nm.wn x) a c (Nm.wl x) n w hs (Nm.wl_dg _) (okB_wl (fit_k (by omega))) (by omega) (by omega) _ (shz x n n0).symm (fit_k (by have := bl_shl x n.toNat; omega))
theorem cmp_w (x y : Int) (a b : Option Addr) (c d : Nat) (w : World) (hx : Sl .u32 w (.slice a (Nm.wl x).length c) (Nm.wl x)) (hy : Sl .u32 w (.slice b (Nm.wl y).length d) (Nm.wl y)) (lx : (Nm.wl x).length ≤ 200) (ly : (Nm.wl y).length ≤ 200) :
    Calls Tryd.prog 37 #[.agg #[.bool false, .slice a (Nm.wl x).length c], .agg #[.bool false, .slice b (Nm.wl y).length d]] w fun e w' => e = .returned (.int .i64 (cmpI (x.natAbs : Nat) (y.natAbs : Nat))) ∧ Below w.heap.size w w' := by
  have h := wcmp_impl (Nm.wn ((x.natAbs : Nat) : Int)) (Nm.wn ((y.natAbs : Nat) : Int)) a b c d (Nm.wl ((x.natAbs : Nat) : Int)) (Nm.wl ((y.natAbs : Nat) : Int)) w (by rw [wl_abs]; exact hx) (by rw [wl_abs]; exact hy) (by rw [wl_abs]; omega) (by rw [wl_abs]; omega)
  rw [wcmp_int (by rw [wl_abs]; exact lx) (by rw [wl_abs]; exact ly)] at h
  rw [wn_abs, wn_abs, wl_abs, wl_abs] at h
  exact h
end Fd
namespace Fw
open Go.Proofs.YtmfpfkfohjkcgaaDoor.Fd (bl_shl fit_k wl_abs wn_abs)
theorem okB_is {ng : Bool} {zs : List Int} (hd : Nm.Dg zs) (h : okB ng zs = true) : ∃ x, ng = Nm.wn x ∧ zs = Nm.wl x ∧ (Nm.wl x).length ≤ 200 := by
  have h1 := (okB_nz h).2
  have h2 := fit_ok hd h ng
  have h3 := fit_out ng hd
  have h5 := ok_fits hd h ng
  have h4 := out_fits h5
  refine ⟨Nm.wv ng zs, ?_, ?_, ?_⟩
  · rw [← h4.2, ← h3.2.1, h2.2.1]
    unfold okB at h
    by_cases h0 : zs.length = 0
    · rw [if_pos h0] at h; simp only [h0, decide_true, Bool.not_true, Bool.and_false]; simpa using h
    · simp only [h0, decide_false, Bool.not_false, Bool.and_true]
  · rw [← h4.1, ← h3.1, h2.1]
  · unfold Nm.fits at h5; simpa using h5
theorem len_bl {x : Int} {k : Nat} (h : (Nm.wl x).length ≤ k) : bitLen x.natAbs ≤ 32 * k := by
  unfold Nm.wl at h
  rw [Nm.lim_length, Nm.pw_two] at h
  exact (Nm.bl_le_iff _ _).2 (Int.ofNat_lt.1 h)
theorem shz_dn (z : Int) (n : Int) (h : 0 ≤ n) : Nm.shV (Nm.wn z) (Nm.val (Nm.wl z)) (-n) = z.tdiv (2 ^ n.toNat) := by
  have e0 : Nm.val (Nm.wl z) = (z.natAbs : Int) := Nm.val_wl z
  rw [e0]
  by_cases h0 : n = 0
  · subst h0
    have e1 : Nm.shM (z.natAbs : Int) (-0) = (z.natAbs : Int) := by unfold Nm.shM; simp
    unfold Nm.shV Nm.wn
    rw [e1, Int.toNat_zero, Int.pow_zero, Int.tdiv_one]
    by_cases hz : z < 0
    · rw [decide_eq_true hz, if_pos rfl]; omega
    · rw [decide_eq_false hz]; simp only [Bool.false_eq_true, if_false]; omega
  · have e1 : Nm.shM (z.natAbs : Int) (-n) = (z.natAbs : Int) / 2 ^ n.toNat := by unfold Nm.shM; rw [if_pos (by omega), Int.neg_neg]
    unfold Nm.shV Nm.wn
    rw [e1]
    by_cases hz : z < 0
    · rw [decide_eq_true hz, if_pos rfl]
      have e2 : z = -(z.natAbs : Int) := by omega
      have e3 : z.tdiv (2 ^ n.toNat) = -((z.natAbs : Int).tdiv (2 ^ n.toNat)) := by
        rw [← Int.neg_tdiv, ← e2]
      rw [e3, Int.tdiv_eq_ediv_of_nonneg (by omega)]
    · rw [decide_eq_false hz]; simp only [Bool.false_eq_true, if_false]
      have e2 : z = (z.natAbs : Int) := by omega
      have e3 : z.tdiv (2 ^ n.toNat) = (z.natAbs : Int).tdiv (2 ^ n.toNat) := by rw [← e2]
      rw [e3, Int.tdiv_eq_ediv_of_nonneg (by omega)]
theorem tdiv_bl (z : Int) (n : Nat) : (z.tdiv (2 ^ n)).natAbs ≤ z.natAbs := by
  rw [Int.natAbs_tdiv]; exact Nat.div_le_self _ _
theorem wl_le {x y : Int} {k : Nat} (h : x.natAbs ≤ y.natAbs) (hl : (Nm.wl y).length ≤ k) : (Nm.wl x).length ≤ k := by
  unfold Nm.wl at *
  rw [Nm.lim_length] at *
  omega
/-- Shifted down. -/
theorem dn_z (x n : Int) (a : Option Addr) (c : Nat) (w : World) (hs : Sl .u32 w (.slice a (Nm.wl x).length c) (Nm.wl x)) (n0 : 0 ≤ n) (n1 : n ≤ 10000) (hl : (Nm.wl x).length ≤ 200) :
    Calls Tryd.prog 15 #[.agg #[.bool (Nm.wn x), .slice a (Nm.wl x).length c], .int .i64 (-n)] w fun r w' => ∃ a' c', r = .returned (.tuple #[.agg #[.bool (Nm.wn (x.tdiv (2 ^ n.toNat))), .slice a' (Nm.wl (x.tdiv (2 ^ n.toNat))).length c'], .bool true]) ∧ Own w' w.heap.size a' c' (Nm.wl (x.tdiv (2 ^ n.toNat))) ∧ Below w.heap.size w w' :=
  wsh_at2 (Nm.wn x) a c (Nm.wl x) (-n) w hs (Nm.wl_dg _) (okB_wl hl) (by omega) (by omega) _ (shz_dn x n n0).symm (wl_le (tdiv_bl x n.toNat) hl)
theorem up_z (x n : Int) (a : Option Addr) (c : Nat) (w : World) (hs : Sl .u32 w (.slice a (Nm.wl x).length c) (Nm.wl x)) (n0 : 0 ≤ n) (hb : bitLen x.natAbs + n.toNat ≤ 6400) :
    Calls Tryd.prog 15 #[.agg #[.bool (Nm.wn x), .slice a (Nm.wl x).length c], .int .i64 n] w fun r w' => ∃ a' c', r = .returned (.tuple #[.agg #[.bool (Nm.wn (x * 2 ^ n.toNat)), .slice a' (Nm.wl (x * 2 ^ n.toNat)).length c'], .bool true]) ∧ Own w' w.heap.size a' c' (Nm.wl (x * 2 ^ n.toNat)) ∧ Below w.heap.size w w' := Fd.shl_w x n a c w hs n0 hb
/-- A sum that may be too long. -/
theorem add_z (x y : Int) (a b : Option Addr) (c d : Nat) (w : World) (hx : Sl .u32 w (.slice a (Nm.wl x).length c) (Nm.wl x)) (hy : Sl .u32 w (.slice b (Nm.wl y).length d) (Nm.wl y)) (lx : (Nm.wl x).length ≤ 200) (ly : (Nm.wl y).length ≤ 200) :
    Calls Tryd.prog 125 #[.agg #[.bool (Nm.wn x), .slice a (Nm.wl x).length c], .agg #[.bool (Nm.wn y), .slice b (Nm.wl y).length d]] w fun e w' => ∃ a' c', e = .returned (.tuple #[.agg #[.bool (Nm.outN (x + y)), .slice a' (Nm.outL (x + y)).length c'], .bool (Nm.fits (x + y))]) ∧ Own w' w.heap.size a' c' (Nm.outL (x + y)) ∧ Below w.heap.size w w' := by
  have h := wadd_impl (Nm.wn x) (Nm.wn y) a b c d (Nm.wl x) (Nm.wl y) w hx hy (Nm.wl_dg _) (Nm.wl_dg _) (by omega) (by omega) (x + y) (by rw [Nm.wv_out, Nm.wv_out])
  rw [okB_wl lx, okB_wl ly, Bool.and_self, (op_yes _).1, (op_yes _).2.1, (op_yes _).2.2] at h
  exact h
theorem cmp_z (x y : Int) (a b : Option Addr) (c d : Nat) (w : World) (hx : Sl .u32 w (.slice a (Nm.wl x).length c) (Nm.wl x)) (hy : Sl .u32 w (.slice b (Nm.wl y).length d) (Nm.wl y)) (lx : (Nm.wl x).length ≤ 200) (ly : (Nm.wl y).length ≤ 200) :
    Calls Tryd.prog 37 #[.agg #[.bool (Nm.wn x), .slice a (Nm.wl x).length c], .agg #[.bool (Nm.wn y), .slice b (Nm.wl y).length d]] w fun e w' => e = .returned (.int .i64 (cmpI x y)) ∧ Below w.heap.size w w' := by
  have h := wcmp_impl (Nm.wn x) (Nm.wn y) a b c d (Nm.wl x) (Nm.wl y) w hx hy (by omega) (by omega)
  rw [Fd.wcmp_int lx ly] at h
  exact h
theorem magc_z (x y : Int) (a b : Option Addr) (c d : Nat) (w : World) (hx : Sl .u32 w (.slice a (Nm.wl x).length c) (Nm.wl x)) (hy : Sl .u32 w (.slice b (Nm.wl y).length d) (Nm.wl y)) (lx : (Nm.wl x).length ≤ 200) (ly : (Nm.wl y).length ≤ 200) :
    Calls Tryd.prog 37 #[.agg #[.bool false, .slice a (Nm.wl x).length c], .agg #[.bool false, .slice b (Nm.wl y).length d]] w fun e w' => e = .returned (.int .i64 (cmpI (x.natAbs : Nat) (y.natAbs : Nat))) ∧ Below w.heap.size w w' := Fd.cmp_w x y a b c d w hx hy lx ly
end Fw
end Go.Proofs.YtmfpfkfohjkcgaaDoor
