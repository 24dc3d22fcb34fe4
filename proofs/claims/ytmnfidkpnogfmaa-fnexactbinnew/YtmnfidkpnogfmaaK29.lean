/-
  What is needed of WideD, CU, PSmB, EO, RX, NO, FA, WI, WS.
-/
import Derived.Test.YtmnfidkpnogfmaaK25
import Derived.Test.YtmnfidkpnogfmaaK27
import Derived.Test.YtmnfidkpnogfmaaK28
set_option maxHeartbeats 16000000
set_option maxRecDepth 1000000
namespace Go.Proofs.Ytmnfidkpnogfmaa
set_option linter.unusedVariables false
set_option linter.unusedSimpArgs false
open Go.RowKit Go.Deep
theorem keep4 {w w' : World} {b b' : Nat} {v0 v1 u0 u1 : Value} (h0 : w.cell? ⟨b, 0, none⟩ = some v0) (h1 : w.cell? ⟨b, 1, none⟩ = some v1) (k0 : w.cell? ⟨b', 0, none⟩ = some u0) (k1 : w.cell? ⟨b', 1, none⟩ = some u1) (hb : Below w.heap.size w w') :
    w'.cell? ⟨b, 0, none⟩ = some v0 ∧ w'.cell? ⟨b, 1, none⟩ = some v1 ∧ w'.cell? ⟨b', 0, none⟩ = some u0 ∧ w'.cell? ⟨b', 1, none⟩ = some u1 :=
  ⟨(Box.below ⟨h0, h1⟩ hb).1, (Box.below ⟨h0, h1⟩ hb).2, (Box.below ⟨k0, k1⟩ hb).1, (Box.below ⟨k0, k1⟩ hb).2⟩
theorem eqW_same (n : Bool) (zs : List Int) : eqW n n zs zs = true := by simp [eqW, eqL]

namespace Fd
theorem wcmp_int {x y : Int} (hx : (Nm.wl x).length ≤ 200) (hy : (Nm.wl y).length ≤ 200) : wcmp (Nm.wn x) (Nm.wn y) (Nm.wl x) (Nm.wl y) = cmpI x y := by
  rw [wcmp_yes (okB_wl hx) (okB_wl hy)]
  unfold Nm.wl Nm.wn
  rw [cmpL_nat, cmpL_nat]
  unfold Nm.cmp2 cmpI
  by_cases h1 : x < 0 <;> by_cases h2 : y < 0 <;> simp only [h1, h2, decide_true, decide_false, Bool.and_true, Bool.and_false, Bool.and_self, if_true, if_false, Bool.false_eq_true] <;> (repeat' split) <;> omega
end Fd
namespace PSm
theorem half {n : Int} (h0 : -9223372036854775808 ≤ n) (h1 : n ≤ 9223372036854775807) : -4611686018427387904 ≤ n.tdiv 2 ∧ n.tdiv 2 ≤ 4611686018427387903 := by
  by_cases h : 0 ≤ n
  · rw [Int.tdiv_eq_ediv_of_nonneg h]; omega
  · have e : n = -(-n) := by omega
    rw [e, Int.neg_tdiv, Int.tdiv_eq_ediv_of_nonneg (by omega)]; omega
theorem fit64 {t : Int} (h0 : -9223372036854775808 ≤ t) (h1 : t ≤ 9223372036854775807) : IntKind.i64.wrap t = t ∧ wrap64 t = t := by
  rw [IntKind.wrap_i64]; unfold wrap64; omega
end PSm
theorem eneg_impl (z : Int) (a : Option Addr) (cap : Nat) (w : World) (hs : Sl .u32 w (.slice a (Nm.wl z).length cap) (Nm.wl z)) (hl : (Nm.wl z).length ≤ 200) :
    Calls Try.prog 64 #[.agg #[.bool (Nm.wn z), .slice a (Nm.wl z).length cap]] w fun e w' => ∃ a' c', e = .returned (.agg #[.bool (Nm.wn (-z)), .slice a' (Nm.wl (-z)).length c']) ∧ Own w' w.heap.size a' c' (Nm.wl (-z)) ∧ Below w.heap.size w w' := by
  have h := wneg_impl (Nm.wn z) a cap (Nm.wl z) w hs (Nm.wl_dg _) (by omega)
  have e : Nm.wv (!Nm.wn z) (Nm.wl z) = -z := by
    have := Nm.wv_out z
    unfold Nm.wv at this ⊢
    cases hn : Nm.wn z <;> rw [hn] at this <;> simp at this ⊢ <;> omega
  unfold negN negL at h
  rw [okB_wl hl, if_pos rfl, if_pos rfl, e] at h
  exact h
namespace Fd
theorem natAbs_pow (z : Int) (n : Nat) : (z * 2 ^ n).natAbs = z.natAbs * 2 ^ n := by
  rw [Int.natAbs_mul, Int.natAbs_pow]; rfl
end Fd
theorem shz (z n : Int) (h : 0 ≤ n) : Nm.shV (Nm.wn z) (Nm.val (Nm.wl z)) n = z * 2 ^ n.toNat := by
  rw [Nm.val_wl, shV_sg]
  have e : ((Nm.sh z.natAbs n : Nat) : Int) = (z.natAbs : Int) * 2 ^ n.toNat := by unfold Nm.sh; rw [if_neg (by omega), Int.natCast_mul, Int.natCast_pow]; rfl
  rw [e]
  unfold Nm.wn
  by_cases hz : z < 0
  · rw [decide_eq_true hz, if_pos rfl, ← Int.neg_mul]; congr 1; omega
  · rw [decide_eq_false hz, if_neg (by decide)]; congr 1; omega
/-- A right wide shifted, where all fits. -/
theorem wsh_at2 (G : Bool) (p : Option Addr) (c : Nat) (L : List Int) (n : Int) (w : World) (hs : Sl .u32 w (.slice p L.length c) L) (d : Nm.Dg L) (ho : okB G L = true) (h0 : -10000 ≤ n) (h1 : n ≤ 10000) (V : Int) (hV : V = Nm.shV G (Nm.val L) n) (hf : (Nm.wl V).length ≤ 200) :
    Calls Try.prog 54 #[.agg #[.bool G, .slice p L.length c], .int .i64 n] w fun r w' => ∃ a' c', r = .returned (.tuple #[.agg #[.bool (Nm.wn V), .slice a' (Nm.wl V).length c'], .bool true]) ∧ Own w' w.heap.size a' c' (Nm.wl V) ∧ Below w.heap.size w w' := by
  have h := wsh_impl G p c L n w hs d (by have := (okB_nz ho).2; omega)
  have e1 : (okB G L && inZ n (-10000) 10000) = true := by rw [ho]; unfold inZ; rw [decide_eq_true h0, decide_eq_true h1]; rfl
  have e3 : Nm.fits V = true := by unfold Nm.fits; exact decide_eq_true hf
  have e4 := out_fits e3
  rw [e1, ← hV, (op_yes _).1, (op_yes _).2.1, (op_yes _).2.2, e3, e4.1, e4.2] at h
  exact h
theorem al_b (w : World) (o : Obj) : Below w.heap.size w (w.alloc o) := (Below.refl _ _).alloc (Nat.le_refl _) _
namespace Fd
theorem wl_abs (x : Int) : Nm.wl ((x.natAbs : Nat) : Int) = Nm.wl x := by unfold Nm.wl; rw [Int.natAbs_natCast]
theorem wn_abs (x : Int) : Nm.wn ((x.natAbs : Nat) : Int) = false := by unfold Nm.wn; exact decide_eq_false (by omega)
theorem fit_k {x : Int} (h : bitLen x.natAbs ≤ 6400) : (Nm.wl x).length ≤ 200 := by unfold Nm.wl; exact lim_len (k := 200) h
theorem bl_neg (x : Int) : bitLen (-x).natAbs = bitLen x.natAbs := by rw [Int.natAbs_neg]
theorem bl_sub {x y : Int} {k : Nat} (hx : bitLen x.natAbs ≤ k) (hy : bitLen y.natAbs ≤ k) : bitLen (x - y).natAbs ≤ k + 1 := by
  rw [Int.sub_eq_add_neg]; exact bl_add hx (by rw [bl_neg]; exact hy)
theorem bl_shl (x : Int) (n : Nat) : bitLen (x * 2 ^ n).natAbs ≤ bitLen x.natAbs + n := by
  rw [natAbs_pow]
  by_cases h : x.natAbs = 0
  · rw [h, Nat.zero_mul, Nm.bl_zero]; omega
  · rw [Nm.bl_mul h]; exact Nat.le_refl _
theorem mag_w (g : Bool) (a : Option Addr) (n c : Nat) (w : World) :
    Calls Try.prog 60 #[.agg #[.bool g, .slice a n c]] w fun e w' => e = .returned (.agg #[.bool false, .slice a n c]) ∧ Below w.heap.size w w' := by
  go_enter Try.func60, Try.ntmps60
  go_wp2
  exact bodyPost_ret (v := .agg #[.bool false, .slice a n c]) (by simp [results, Try.results60, go_sem]) rfl ⟨rfl, by first | exact (by repeat (first | exact bz0 _ _ | refine bz1 ?_ | refine bz2 ?_ _ | refine bz3 ?_ _ | refine bz5 ?_ _ | refine bz6 ?_ _)) | (exact Below.setCell (Below.setCell (by repeat (first | exact bz0 _ _ | refine bz1 ?_ | refine bz2 ?_ _ | refine bz3 ?_ _ | refine bz5 ?_ _ | refine bz6 ?_ _)) (by simp) _) (by simp) _)⟩
/-- Shifted up. -/
theorem shl_w (x : Int) (n : Int) (a : Option Addr) (c : Nat) (w : World) (hs : Sl .u32 w (.slice a (Nm.wl x).length c) (Nm.wl x)) (n0 : 0 ≤ n) (hb : bitLen x.natAbs + n.toNat ≤ 6400) :
    Calls Try.prog 54 #[.agg #[.bool (Nm.wn x), .slice a (Nm.wl x).length c], .int .i64 n] w fun r w' => ∃ a' c', r = .returned (.tuple #[.agg #[.bool (Nm.wn (x * 2 ^ n.toNat)), .slice a' (Nm.wl (x * 2 ^ n.toNat)).length c'], .bool true]) ∧ Own w' w.heap.size a' c' (Nm.wl (x * 2 ^ n.toNat)) ∧ Below w.heap.size w w' :=
  wsh_at2 (Nm.wn x) a c (Nm.wl x) n w hs (Nm.wl_dg _) (okB_wl (fit_k (by omega))) (by omega) (by omega) _ (shz x n n0).symm (fit_k (by have := bl_shl x n.toNat; omega))
theorem cmp_w (x y : Int) (a b : Option Addr) (c d : Nat) (w : World) (hx : Sl .u32 w (.slice a (Nm.wl x).length c) (Nm.wl x)) (hy : Sl .u32 w (.slice b (Nm.wl y).length d) (Nm.wl y)) (lx : (Nm.wl x).length ≤ 200) (ly : (Nm.wl y).length ≤ 200) :
    Calls Try.prog 59 #[.agg #[.bool false, .slice a (Nm.wl x).length c], .agg #[.bool false, .slice b (Nm.wl y).length d]] w fun e w' => e = .returned (.int .i64 (cmpI (x.natAbs : Nat) (y.natAbs : Nat))) ∧ Below w.heap.size w w' := by
  have h := wcmp_impl (Nm.wn ((x.natAbs : Nat) : Int)) (Nm.wn ((y.natAbs : Nat) : Int)) a b c d (Nm.wl ((x.natAbs : Nat) : Int)) (Nm.wl ((y.natAbs : Nat) : Int)) w (by rw [wl_abs]; exact hx) (by rw [wl_abs]; exact hy) (by rw [wl_abs]; omega) (by rw [wl_abs]; omega)
  rw [wcmp_int (by rw [wl_abs]; exact lx) (by rw [wl_abs]; exact ly)] at h
  rw [wn_abs, wn_abs, wl_abs, wl_abs] at h
  exact h
end Fd
namespace Fw
open Go.Proofs.Ytmnfidkpnogfmaa.Fd (bl_shl fit_k wl_abs wn_abs)
theorem okB_is {ng : Bool} {zs : List Int} (hd : Nm.Dg zs) (h : okB ng zs = true) : ∃ x, ng = Nm.wn x ∧ zs = Nm.wl x ∧ (Nm.wl x).length ≤ 200 := by
  have h1 := (okB_nz h).2
  have h2 := fit_ok hd h ng
  have h3 := fit_out ng hd
  have h5 := ok_fits hd h ng
  have h4 := out_fits h5
  refine ⟨Nm.wv ng zs, ?_, ?_, ?_⟩
  · rw [← h4.2, ← h3.2.1, h2.2.1]
    unfold okB at h
    by_cases h0 : zs.length = 0
    · rw [if_pos h0] at h; simp only [h0, decide_true, Bool.not_true, Bool.and_false]; simpa using h
    · simp only [h0, decide_false, Bool.not_false, Bool.and_true]
  · rw [← h4.1, ← h3.1, h2.1]
  · unfold Nm.fits at h5; simpa using h5
theorem len_bl {x : Int} {k : Nat} (h : (Nm.wl x).length ≤ k) : bitLen x.natAbs ≤ 32 * k := by
  unfold Nm.wl at h
  rw [Nm.lim_length, Nm.pw_two] at h
  exact (Nm.bl_le_iff _ _).2 (Int.ofNat_lt.1 h)
theorem shz_dn (z : Int) (n : Int) (h : 0 ≤ n) : Nm.shV (Nm.wn z) (Nm.val (Nm.wl z)) (-n) = z.tdiv (2 ^ n.toNat) := by
  have e0 : Nm.val (Nm.wl z) = (z.natAbs : Int) := Nm.val_wl z
  rw [e0]
  by_cases h0 : n = 0
  · subst h0
    have e1 : Nm.shM (z.natAbs : Int) (-0) = (z.natAbs : Int) := by unfold Nm.shM; simp
    unfold Nm.shV Nm.wn
    rw [e1, Int.toNat_zero, Int.pow_zero, Int.tdiv_one]
    by_cases hz : z < 0
    · rw [decide_eq_true hz, if_pos rfl]; omega
    · rw [decide_eq_false hz]; simp only [Bool.false_eq_true, if_false]; omega
  · have e1 : Nm.shM (z.natAbs : Int) (-n) = (z.natAbs : Int) / 2 ^ n.toNat := by unfold Nm.shM; rw [if_pos (by omega), Int.neg_neg]
    unfold Nm.shV Nm.wn
    rw [e1]
    by_cases hz : z < 0
    · rw [decide_eq_true hz, if_pos rfl]
      have e2 : z = -(z.natAbs : Int) := by omega
      have e3 : z.tdiv (2 ^ n.toNat) = -((z.natAbs : Int).tdiv (2 ^ n.toNat)) := by
        rw [← Int.neg_tdiv, ← e2]
      rw [e3, Int.tdiv_eq_ediv_of_nonneg (by omega)]
    · rw [decide_eq_false hz]; simp only [Bool.false_eq_true, if_false]
      have e2 : z = (z.natAbs : Int) := by omega
      have e3 : z.tdiv (2 ^ n.toNat) = (z.natAbs : Int).tdiv (2 ^ n.toNat) := by rw [← e2]
      rw [e3, Int.tdiv_eq_ediv_of_nonneg (by omega)]
theorem tdiv_bl (z : Int) (n : Nat) : (z.tdiv (2 ^ n)).natAbs ≤ z.natAbs := by
  rw [Int.natAbs_tdiv]; exact Nat.div_le_self _ _
theorem wl_le {x y : Int} {k : Nat} (h : x.natAbs ≤ y.natAbs) (hl : (Nm.wl y).length ≤ k) : (Nm.wl x).length ≤ k := by
  unfold Nm.wl at *
  rw [Nm.lim_length] at *
  omega
/-- Shifted down. -/
theorem dn_z (x n : Int) (a : Option Addr) (c : Nat) (w : World) (hs : Sl .u32 w (.slice a (Nm.wl x).length c) (Nm.wl x)) (n0 : 0 ≤ n) (n1 : n ≤ 10000) (hl : (Nm.wl x).length ≤ 200) :
    Calls Try.prog 54 #[.agg #[.bool (Nm.wn x), .slice a (Nm.wl x).length c], .int .i64 (-n)] w fun r w' => ∃ a' c', r = .returned (.tuple #[.agg #[.bool (Nm.wn (x.tdiv (2 ^ n.toNat))), .slice a' (Nm.wl (x.tdiv (2 ^ n.toNat))).length c'], .bool true]) ∧ Own w' w.heap.size a' c' (Nm.wl (x.tdiv (2 ^ n.toNat))) ∧ Below w.heap.size w w' :=
  wsh_at2 (Nm.wn x) a c (Nm.wl x) (-n) w hs (Nm.wl_dg _) (okB_wl hl) (by omega) (by omega) _ (shz_dn x n n0).symm (wl_le (tdiv_bl x n.toNat) hl)
theorem up_z (x n : Int) (a : Option Addr) (c : Nat) (w : World) (hs : Sl .u32 w (.slice a (Nm.wl x).length c) (Nm.wl x)) (n0 : 0 ≤ n) (hb : bitLen x.natAbs + n.toNat ≤ 6400) :
    Calls Try.prog 54 #[.agg #[.bool (Nm.wn x), .slice a (Nm.wl x).length c], .int .i64 n] w fun r w' => ∃ a' c', r = .returned (.tuple #[.agg #[.bool (Nm.wn (x * 2 ^ n.toNat)), .slice a' (Nm.wl (x * 2 ^ n.toNat)).length c'], .bool true]) ∧ Own w' w.heap.size a' c' (Nm.wl (x * 2 ^ n.toNat)) ∧ Below w.heap.size w w' := Fd.shl_w x n a c w hs n0 hb
theorem mul_z (x y : Int) (a b : Option Addr) (c d : Nat) (w : World) (hx : Sl .u32 w (.slice a (Nm.wl x).length c) (Nm.wl x)) (hy : Sl .u32 w (.slice b (Nm.wl y).length d) (Nm.wl y)) (lx : (Nm.wl x).length ≤ 200) (ly : (Nm.wl y).length ≤ 200) (lz : (Nm.wl (x * y)).length ≤ 200) :
    Calls Try.prog 58 #[.agg #[.bool (Nm.wn x), .slice a (Nm.wl x).length c], .agg #[.bool (Nm.wn y), .slice b (Nm.wl y).length d]] w fun e w' => ∃ a' c', e = .returned (.tuple #[.agg #[.bool (Nm.wn (x * y)), .slice a' (Nm.wl (x * y)).length c'], .bool true]) ∧ Own w' w.heap.size a' c' (Nm.wl (x * y)) ∧ Below w.heap.size w w' := by
  have h := wmul_impl (Nm.wn x) (Nm.wn y) a b c d (Nm.wl x) (Nm.wl y) w hx hy (Nm.wl_dg _) (Nm.wl_dg _) (by omega) (by omega) (x * y) (by rw [Nm.wv_out, Nm.wv_out])
  have hf : Nm.fits (x * y) = true := by unfold Nm.fits; exact decide_eq_true lz
  have e4 := out_fits hf
  rw [okB_wl lx, okB_wl ly, Bool.and_self, (op_yes _).1, (op_yes _).2.1, (op_yes _).2.2, hf, e4.1, e4.2] at h
  exact h
/-- A sum that may be too long. -/
theorem add_z (x y : Int) (a b : Option Addr) (c d : Nat) (w : World) (hx : Sl .u32 w (.slice a (Nm.wl x).length c) (Nm.wl x)) (hy : Sl .u32 w (.slice b (Nm.wl y).length d) (Nm.wl y)) (lx : (Nm.wl x).length ≤ 200) (ly : (Nm.wl y).length ≤ 200) :
    Calls Try.prog 63 #[.agg #[.bool (Nm.wn x), .slice a (Nm.wl x).length c], .agg #[.bool (Nm.wn y), .slice b (Nm.wl y).length d]] w fun e w' => ∃ a' c', e = .returned (.tuple #[.agg #[.bool (Nm.outN (x + y)), .slice a' (Nm.outL (x + y)).length c'], .bool (Nm.fits (x + y))]) ∧ Own w' w.heap.size a' c' (Nm.outL (x + y)) ∧ Below w.heap.size w w' := by
  have h := wadd_impl (Nm.wn x) (Nm.wn y) a b c d (Nm.wl x) (Nm.wl y) w hx hy (Nm.wl_dg _) (Nm.wl_dg _) (by omega) (by omega) (x + y) (by rw [Nm.wv_out, Nm.wv_out])
  rw [okB_wl lx, okB_wl ly, Bool.and_self, (op_yes _).1, (op_yes _).2.1, (op_yes _).2.2] at h
  exact h
theorem neg_z (z : Int) (a : Option Addr) (cap : Nat) (w : World) (hs : Sl .u32 w (.slice a (Nm.wl z).length cap) (Nm.wl z)) (hl : (Nm.wl z).length ≤ 200) :
    Calls Try.prog 64 #[.agg #[.bool (Nm.wn z), .slice a (Nm.wl z).length cap]] w fun e w' => ∃ a' c', e = .returned (.agg #[.bool (Nm.wn (-z)), .slice a' (Nm.wl (-z)).length c']) ∧ Own w' w.heap.size a' c' (Nm.wl (-z)) ∧ Below w.heap.size w w' := eneg_impl z a cap w hs hl
theorem cmp_z (x y : Int) (a b : Option Addr) (c d : Nat) (w : World) (hx : Sl .u32 w (.slice a (Nm.wl x).length c) (Nm.wl x)) (hy : Sl .u32 w (.slice b (Nm.wl y).length d) (Nm.wl y)) (lx : (Nm.wl x).length ≤ 200) (ly : (Nm.wl y).length ≤ 200) :
    Calls Try.prog 59 #[.agg #[.bool (Nm.wn x), .slice a (Nm.wl x).length c], .agg #[.bool (Nm.wn y), .slice b (Nm.wl y).length d]] w fun e w' => e = .returned (.int .i64 (cmpI x y)) ∧ Below w.heap.size w w' := by
  have h := wcmp_impl (Nm.wn x) (Nm.wn y) a b c d (Nm.wl x) (Nm.wl y) w hx hy (by omega) (by omega)
  rw [Fd.wcmp_int lx ly] at h
  exact h
theorem magc_z (x y : Int) (a b : Option Addr) (c d : Nat) (w : World) (hx : Sl .u32 w (.slice a (Nm.wl x).length c) (Nm.wl x)) (hy : Sl .u32 w (.slice b (Nm.wl y).length d) (Nm.wl y)) (lx : (Nm.wl x).length ≤ 200) (ly : (Nm.wl y).length ≤ 200) :
    Calls Try.prog 59 #[.agg #[.bool false, .slice a (Nm.wl x).length c], .agg #[.bool false, .slice b (Nm.wl y).length d]] w fun e w' => e = .returned (.int .i64 (cmpI (x.natAbs : Nat) (y.natAbs : Nat))) ∧ Below w.heap.size w w' := Fd.cmp_w x y a b c d w hx hy lx ly
end Fw
end Go.Proofs.Ytmnfidkpnogfmaa
