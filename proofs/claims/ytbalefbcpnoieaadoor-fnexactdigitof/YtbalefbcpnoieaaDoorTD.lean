/-
  A float's digit in a bin: by the program, by the specification; the law.
-/
import Derived.Test.YtbalefbcpnoieaaDoorTP
import Derived.Test.YtbalefbcpnoieaaDoorG05
namespace Go.Proofs.YtbalefbcpnoieaaDoor
set_option linter.unusedVariables false
set_option linter.unusedSimpArgs false
open Go.RowKit Go.Deep
theorem lim_get0 (n : Nat) : (Nm.lim n).getD 0 0 = ((n % 4294967296 : Nat) : Int) := by
  by_cases h : n = 0
  · subst h; rw [Nm.lim_zero]; rfl
  · rw [Nm.lim_pos h]; rfl
theorem lim_get1 (n : Nat) : (Nm.lim n).getD 1 0 = ((n / 4294967296 % 4294967296 : Nat) : Int) := by
  by_cases h : n = 0
  · subst h; rw [Nm.lim_zero]; rfl
  · rw [Nm.lim_pos h]
    have := lim_get0 (n / 4294967296)
    simpa using this
theorem low16_32 (n : Nat) (h : n < 4294967296) : bits .and .u32 (n : Int) 65535 = ((n % 65536 : Nat) : Int) := by
  have h1 := u32_and_nat n 65535 (by omega) (by decide)
  have h2 := Nat.and_two_pow_sub_one_eq_mod n 16
  simp at h2
  rw [h2] at h1
  exact h1
theorem low16_64 (n : Nat) (h : n < 18446744073709551616) : bits .and .u64 (n : Int) 65535 = ((n % 65536 : Nat) : Int) := by
  have h1 := u64_and_nat n 65535 (by omega) (by decide)
  have h2 := Nat.and_two_pow_sub_one_eq_mod n 16
  simp at h2
  rw [h2] at h1
  exact h1
/-- The digit without its sign. -/
def dgN (z b : Int) : Nat := z.natAbs / 2 ^ (16 * b).toNat % 65536
def dgV (fm x b : Int) : Int := if b < 0 ∨ tpV fm x < b then 0 else if sigB fm x then -(dgN (unI fm x) b : Int) else (dgN (unI fm x) b : Int)
/-- What comes of shifting down. -/
def dwV (z b : Int) : Int := Nm.shV (Nm.wn z) (Nm.val (Nm.wl z)) (-16 * b)
theorem dw_abs (z b : Int) (hb : 0 ≤ b) : (dwV z b).natAbs = z.natAbs / 2 ^ (16 * b).toNat := by
  unfold dwV
  rw [Nm.val_wl, shV_sg]
  have e : Nm.sh z.natAbs (-16 * b) = z.natAbs / 2 ^ (16 * b).toNat := by
    unfold Nm.sh
    by_cases h0 : b = 0
    · subst h0; simp
    · rw [if_pos (by omega), show -(-16 * b) = 16 * b by omega]
  rw [e]
  cases Nm.wn z
  · exact Int.natAbs_natCast _
  · exact (Int.natAbs_neg _).trans (Int.natAbs_natCast _)
theorem dw_len (fm x b : Int) (hb : 0 ≤ b) : (Nm.wl (dwV (unI fm x) b)).length ≤ 200 := by
  unfold Nm.wl
  refine lim_len (k := 200) ?_
  rw [dw_abs _ _ hb]
  have h1 := Nm.bl_mono (Nat.div_le_self (unI fm x).natAbs (2 ^ (16 * b).toNat))
  have h2 := un_bl fm x
  omega
theorem dg_low (z b : Int) (hb : 0 ≤ b) : bits .and .u32 ((Nm.wl (dwV z b)).getD 0 0) 65535 = (dgN z b : Int) := by
  unfold Nm.wl dgN
  rw [dw_abs z b hb, lim_get0, low16_32 _ (by omega)]
  congr 1; omega
theorem dg_low2 (z b : Int) (hb : 0 ≤ b) : bits .and .u64 ((Nm.wl (dwV z b)).getD 0 0 + (Nm.wl (dwV z b)).getD 1 0 * 4294967296) 65535 = (dgN z b : Int) := by
  unfold Nm.wl dgN
  rw [dw_abs z b hb, lim_get0, lim_get1]
  obtain ⟨n, hn⟩ : ∃ n, n = z.natAbs / 2 ^ (16 * b).toNat := ⟨_, rfl⟩
  rw [← hn, show ((n % 4294967296 : Nat) : Int) + ((n / 4294967296 % 4294967296 : Nat) : Int) * 4294967296 = ((n % 4294967296 + n / 4294967296 % 4294967296 * 4294967296 : Nat) : Int) by simp, low16_64 _ (by omega)]
  congr 1; omega
theorem dg_bd (z b : Int) : dgN z b < 65536 := by unfold dgN; omega
theorem dg_high {z b : Int} (hb : 0 ≤ b) (h : ((bitLen z.natAbs : Int) + 15) / 16 - 1 < b) : dgN z b = 0 := by
  unfold dgN
  have h1 : z.natAbs < 2 ^ (16 * b).toNat := (Nm.bl_le_iff _ _).1 (by omega)
  rw [Nat.div_eq_of_lt h1]
theorem tp_un {fm x b : Int} (hb : 0 ≤ b) (h : ¬ tpV fm x < b) : unI fm x ≠ 0 ∧ finB fm x = true := by
  have hz : unI fm x ≠ 0 := by intro e; apply h; unfold tpV; rw [e]; simp [Nm.bl_zero]; omega
  refine ⟨hz, ?_⟩
  cases hf : finB fm x
  · exact absurd (un_no hf) hz
  · rfl
theorem un_wn {fm x : Int} (hf : finB fm x = true) (hz : unI fm x ≠ 0) : Nm.wn (unI fm x) = sigB fm x := by
  have hps : pS fm x = sigB fm x := by unfold pS; rw [hf]; rfl
  rw [← hps]
  unfold Nm.wn
  unfold unI at hz ⊢
  rw [hf, if_pos rfl] at hz ⊢
  cases pS fm x
  · simp
  · simp at hz ⊢; omega
/-- A right wide shifted, where all fits. -/
theorem wsh_go (G : Bool) (p : Option Addr) (c : Nat) (L : List Int) (n : Int) (w : World) (hs : Sl .u32 w (.slice p L.length c) L) (d : Nm.Dg L) (ho : okB G L = true) (h0 : -10000 ≤ n) (h1 : n ≤ 10000) (V : Int) (hV : V = Nm.shV G (Nm.val L) n) (hf : (Nm.wl V).length ≤ 200) :
    Calls Tryd.prog 38 #[.agg #[.bool G, .slice p L.length c], .int .i64 n] w fun r w' => ∃ a' c', r = .returned (.tuple #[.agg #[.bool (Nm.wn V), .slice a' (Nm.wl V).length c'], .bool true]) ∧ Own w' w.heap.size a' c' (Nm.wl V) ∧ Below w.heap.size w w' := by
  have h := wsh_impl G p c L n w hs d (by have := (okB_nz ho).2; omega)
  have e1 : (okB G L && inZ n (-10000) 10000) = true := by rw [ho]; unfold inZ; rw [decide_eq_true h0, decide_eq_true h1]; rfl
  have e3 : Nm.fits V = true := by unfold Nm.fits; exact decide_eq_true hf
  have e4 := out_fits e3
  rw [e1, ← hV, (op_yes _).1, (op_yes _).2.1, (op_yes _).2.2, e3, e4.1, e4.2] at h
  exact h
set_option maxHeartbeats 4000000 in
set_option maxRecDepth 100000 in
theorem dig_impl (fm x b : Int) (w : World) (hT : Tab w) (x0 : 0 ≤ x) (x1 : x < 18446744073709551616) (d : Int) (hd : d = dgV fm x b) :
    Calls Tryd.prog 11 #[.int .i64 fm, .int .u64 x, .int .i64 b] w fun e w' => e = .returned (.int .i64 d) ∧ Below w.heap.size w w' := by
  by_cases hb : b < 0
  · have hd' : d = 0 := by rw [hd]; unfold dgV; rw [if_pos (.inl hb)]
    subst hd'
    clear hd
    go_enter Tryd.func11, Tryd.ntmps11
    go_wp2
    go_ret
    exact ⟨rfl, (by repeat (first | exact Below.refl _ _ | refine Below.drew ?_ | refine bel_dn ?_ _ | refine bel_al ?_ _ | refine Below.setCell ?_ (by first | omega | (simp; done) | (simp; omega)) _ | refine Below.alloc ?_ (by first | omega | (simp; done) | (simp; omega)) _))⟩
  have CT := hid (fun w' h => top_impl fm x w' h x0 x1 _ rfl)
  by_cases ht : tpV fm x < b
  · have hd' : d = 0 := by rw [hd]; unfold dgV; rw [if_pos (.inr ht)]
    subst hd'
    obtain ⟨t, et⟩ : ∃ t, t = tpV fm x := ⟨_, rfl⟩
    rw [← et] at CT ht
    clear hd et
    go_enter Tryd.func11, Tryd.ntmps11
    go_wp2_with fail
    refine (CT.out _ hT).mono ?_
    rintro e w1 ⟨rfl, hb1⟩
    go_wp2
    go_ret
    exact ⟨rfl, (by repeat (first | exact Below.refl _ _ | refine Below.drew ?_ | refine bel_dn ?_ _ | refine bel_al ?_ _ | refine bel_go ?_ hb1 | refine Below.setCell ?_ (by first | omega | (simp; done) | (simp; omega)) _ | refine Below.alloc ?_ (by first | omega | (simp; done) | (simp; omega)) _ | refine Below.trans ?_ (Below.mono hb1 (by first | omega | (simp; done) | (simp; omega)))))⟩
  obtain ⟨hz, hf⟩ := tp_un (by omega) ht
  have hwn := un_wn hf hz
  have CU := hid (fun w' h => units_impl fm x w' h x0 x1)
  have hl := un_len fm x
  have ho := okB_wl hl
  have hbb : b ≤ 200 := by have := un_bl fm x; unfold tpV at ht; omega
  have CS := hid (fun a c w' h => wsh_go (Nm.wn (unI fm x)) a c (Nm.wl (unI fm x)) (-16 * b) w' h (Nm.wl_dg _) ho (by omega) (by omega) (dwV (unI fm x) b) rfl (dw_len fm x b (by omega)))
  have hlow := dg_low (unI fm x) b (by omega)
  have hbd := dg_bd (unI fm x) b
  have hll := dw_len fm x b (by omega)
  have CL := hid (fun a c w' h => limbAt_any a c (Nm.wl (dwV (unI fm x) b)) 0 w' h (by omega) (by decide))
  have hd' : d = if Nm.wn (unI fm x) then -(dgN (unI fm x) b : Int) else (dgN (unI fm x) b : Int) := by rw [hd, hwn]; unfold dgV; rw [if_neg (by omega)]
  unfold Ans at CU
  rw [hf] at CU
  obtain ⟨t, et⟩ : ∃ t, t = tpV fm x := ⟨_, rfl⟩
  obtain ⟨G, hG⟩ : ∃ G, G = Nm.wn (unI fm x) := ⟨_, rfl⟩
  obtain ⟨L, hL⟩ : ∃ L, L = Nm.wl (unI fm x) := ⟨_, rfl⟩
  obtain ⟨G2, hG2⟩ : ∃ G, G = Nm.wn (dwV (unI fm x) b) := ⟨_, rfl⟩
  obtain ⟨L2, hL2⟩ : ∃ L, L = Nm.wl (dwV (unI fm x) b) := ⟨_, rfl⟩
  obtain ⟨g, hg⟩ : ∃ g : Int, g = (dgN (unI fm x) b : Int) := ⟨_, rfl⟩
  obtain ⟨q, hq⟩ : ∃ q : Int, q = (Nm.wl (dwV (unI fm x) b)).getD 0 0 := ⟨_, rfl⟩
  rw [← hq, ← hg] at hlow
  simp only [← hq] at CL
  simp only [← hL2] at CL
  simp only [← hL2, ← hG2, ← hG, ← hL] at CS
  simp only [← hG, ← hL] at CU
  rw [← hG, ← hg] at hd'
  rw [← et] at CT ht
  have g0 : 0 ≤ g := by omega
  have g1 : g < 65536 := by omega
  have hwr : IntKind.i64.wrap (-16 * b) = -16 * b := by rw [IntKind.wrap_i64]; omega
  have HD := hid hd'
  clear hd hd' hq hg hL hG hG2 hL2 et hz hf hwn hl ho hbd hll
  cases G with
  | false =>
    go_enter Tryd.func11, Tryd.ntmps11
    go_wp2_with fail
    refine (CT.out _ hT).mono ?_
    rintro e w1 ⟨rfl, hb1⟩
    go_wp2_with fail
    refine (CU.out _ (hT.below hb1)).mono ?_
    rintro e w2 ⟨a2, c2, rfl, o2, hb2⟩
    have B2 := Box.new w2 (.bool false) (.slice a2 L.length c2) 30
    have B2' := B2
    obtain ⟨b0, b1⟩ := B2'
    go_wp2_with fail
    refine (CS.out a2 c2 _ (o2.alloc _).sl).mono ?_
    rintro e w3 ⟨a3, c3, rfl, o3, hb3⟩
    have B3 := (B2.below hb3).alloc (.cells #[.bool G2, .slice a3 L2.length c3] 30)
    have D3 := Box.new w3 (.bool G2) (.slice a3 L2.length c3) 30
    obtain ⟨d0, d1⟩ := D3
    obtain ⟨e0, e1⟩ := B3
    clear b0 b1
    go_wp2_with fail
    refine (CL.out a3 c3 _ (o3.alloc _).sl).mono ?_
    rintro e w4 ⟨rfl, rfl⟩
    go_wp2
    go_ret
    refine ⟨ret_int (by rw [HD.out]; simp [hlow, wrap64] <;> omega), (by repeat (first | exact Below.refl _ _ | refine Below.drew ?_ | refine bel_dn ?_ _ | refine bel_al ?_ _ | refine bel_go ?_ hb3 | refine bel_go ?_ hb2 | refine bel_go ?_ hb1 | refine Below.setCell ?_ (by first | omega | (simp; done) | (simp; omega)) _ | refine Below.alloc ?_ (by first | omega | (simp; done) | (simp; omega)) _ | refine Below.trans ?_ (Below.mono hb3 (by first | omega | (simp; done) | (simp; omega))) | refine Below.trans ?_ (Below.mono hb2 (by first | omega | (simp; done) | (simp; omega))) | refine Below.trans ?_ (Below.mono hb1 (by first | omega | (simp; done) | (simp; omega)))))⟩
  | true =>
    go_enter Tryd.func11, Tryd.ntmps11
    go_wp2_with fail
    refine (CT.out _ hT).mono ?_
    rintro e w1 ⟨rfl, hb1⟩
    go_wp2_with fail
    refine (CU.out _ (hT.below hb1)).mono ?_
    rintro e w2 ⟨a2, c2, rfl, o2, hb2⟩
    have B2 := Box.new w2 (.bool true) (.slice a2 L.length c2) 30
    have B2' := B2
    obtain ⟨b0, b1⟩ := B2'
    go_wp2_with fail
    refine (CS.out a2 c2 _ (o2.alloc _).sl).mono ?_
    rintro e w3 ⟨a3, c3, rfl, o3, hb3⟩
    have B3 := (B2.below hb3).alloc (.cells #[.bool G2, .slice a3 L2.length c3] 30)
    have D3 := Box.new w3 (.bool G2) (.slice a3 L2.length c3) 30
    obtain ⟨d0, d1⟩ := D3
    obtain ⟨e0, e1⟩ := B3
    clear b0 b1
    go_wp2_with fail
    refine (CL.out a3 c3 _ (o3.alloc _).sl).mono ?_
    rintro e w4 ⟨rfl, rfl⟩
    go_wp2
    go_ret
    refine ⟨ret_int (by rw [HD.out]; simp [hlow, wrap64] <;> omega), (by repeat (first | exact Below.refl _ _ | refine Below.drew ?_ | refine bel_dn ?_ _ | refine bel_al ?_ _ | refine bel_go ?_ hb3 | refine bel_go ?_ hb2 | refine bel_go ?_ hb1 | refine Below.setCell ?_ (by first | omega | (simp; done) | (simp; omega)) _ | refine Below.alloc ?_ (by first | omega | (simp; done) | (simp; omega)) _ | refine Below.trans ?_ (Below.mono hb3 (by first | omega | (simp; done) | (simp; omega))) | refine Below.trans ?_ (Below.mono hb2 (by first | omega | (simp; done) | (simp; omega))) | refine Below.trans ?_ (Below.mono hb1 (by first | omega | (simp; done) | (simp; omega)))))⟩
set_option maxHeartbeats 4000000 in
theorem low_many (ng : Bool) (a : Option Addr) (c : Nat) (zs : List Int) (w : World) (hx : Sl .u32 w (.slice a zs.length c) zs) (hz : Nm.Dg zs) (h2 : ¬ zs.length ≤ 2) (hl : zs.length ≤ 1048576) :
    Calls Tryd.prog 35 #[.agg #[.bool ng, .slice a zs.length c]] w fun e w' => e = .returned (.int .u64 (zs.getD 0 0 + zs.getD 1 0 * 4294967296)) ∧ Below w.heap.size w w' := by
  obtain ⟨-, _, _, hc3⟩ := hx.cells
  obtain ⟨b, off, rfl, hcell⟩ := hc3 (by omega)
  have hx0 := hz.getD 0
  have hy0 := hz.getD 1
  have c0 : w.cell? ⟨b, off, none⟩ = some (.int .u32 (zs.getD 0 0)) := by simpa using hcell 0 (by omega)
  have c1 : w.cell? ⟨b, off + 1, none⟩ = some (.int .u32 (zs.getD 1 0)) := hcell 1 (by omega)
  have hlt := World.block_lt_of_cell? w _ c0
  have e1 := or_zero (zs.getD 0 0) hx0.1 (by omega)
  have e2 := or_shift (zs.getD 0 0) (zs.getD 1 0) hx0.1 hx0.2 hy0.1 hy0.2
  obtain ⟨x, ex⟩ : ∃ x, x = zs.getD 0 0 := ⟨_, rfl⟩
  obtain ⟨y, ey⟩ : ∃ y, y = zs.getD 1 0 := ⟨_, rfl⟩
  obtain ⟨n, en⟩ : ∃ n, n = zs.length := ⟨_, rfl⟩
  rw [← ex] at c0 e1 hx0
  rw [← ex, ← ey] at e2 ⊢
  rw [← ey] at c1 hy0
  rw [← en] at h2 hl ⊢
  clear ex ey en hcell hc3 hx hz
  have l0 : (0 : Int) < n := by omega
  have l1 : (1 : Int) < n := by omega
  have l2 : (2 : Int) < n := by omega
  obtain ⟨hx0, hx1⟩ := hx0
  obtain ⟨hy0, hy1⟩ := hy0
  go_enter Tryd.func35, Tryd.ntmps35
  go_wp2_with fail
  refine wp_loop_rounds 3 ?_
  rw [rounds_succ]
  go_wp2
  rw [rounds_succ]
  go_wp2
  rw [rounds_succ]
  go_wp2
  go_ret
  exact ⟨rfl, (by repeat (first | exact Below.refl _ _ | refine Below.drew ?_ | refine bel_dn ?_ _ | refine bel_al ?_ _ | refine Below.setCell ?_ (by first | omega | (simp; done) | (simp; omega)) _ | refine Below.alloc ?_ (by first | omega | (simp; done) | (simp; omega)) _))⟩
theorem low_all (ng : Bool) (a : Option Addr) (c : Nat) (zs : List Int) (w : World) (hx : Sl .u32 w (.slice a zs.length c) zs) (hz : Nm.Dg zs) (hl : zs.length ≤ 1048576) :
    Calls Tryd.prog 35 #[.agg #[.bool ng, .slice a zs.length c]] w fun e w' => e = .returned (.int .u64 (zs.getD 0 0 + zs.getD 1 0 * 4294967296)) ∧ Below w.heap.size w w' := by
  by_cases h2 : zs.length ≤ 2
  · exact low_any ng a c zs w hx hz h2
  · exact low_many ng a c zs w hx hz h2 hl
set_option maxHeartbeats 4000000 in
set_option maxRecDepth 100000 in
theorem dig_spec (fm x b : Int) (w : World) (x0 : 0 ≤ x) (x1 : x < 18446744073709551616) (d : Int) (hd : d = dgV fm x b) :
    Calls Tryd.prog 10 #[.int .i64 fm, .int .u64 x, .int .i64 b] w fun e w' => e = .returned (.int .i64 d) ∧ Below w.heap.size w w' := by
  have CF := hid (fun w' => spec_fin fm x w' x0 x1)
  cases hf : finB fm x
  · rw [hf] at CF
    have hd' : d = 0 := by rw [hd]; unfold dgV tpV; rw [un_no hf]; simp [Nm.bl_zero]; intro h1 h2; omega
    subst hd'
    clear hf hd
    go_enter Tryd.func10, Tryd.ntmps10
    go_wp2_with fail
    refine (CF.out _).mono ?_
    rintro e w1 ⟨rfl, hb1⟩
    go_wp2
    go_ret
    exact ⟨rfl, (by repeat (first | exact Below.refl _ _ | refine Below.drew ?_ | refine bel_dn ?_ _ | refine bel_al ?_ _ | refine bel_go ?_ hb1 | refine Below.setCell ?_ (by first | omega | (simp; done) | (simp; omega)) _ | refine Below.alloc ?_ (by first | omega | (simp; done) | (simp; omega)) _ | refine Below.trans ?_ (Below.mono hb1 (by first | omega | (simp; done) | (simp; omega)))))⟩
  rw [hf] at CF
  by_cases hb : b < 0
  · have hd' : d = 0 := by rw [hd]; unfold dgV; rw [if_pos (.inl hb)]
    subst hd'
    clear hd hf
    go_enter Tryd.func10, Tryd.ntmps10
    go_wp2_with fail
    refine (CF.out _).mono ?_
    rintro e w1 ⟨rfl, hb1⟩
    go_wp2
    go_ret
    exact ⟨rfl, (by repeat (first | exact Below.refl _ _ | refine Below.drew ?_ | refine bel_dn ?_ _ | refine bel_al ?_ _ | refine bel_go ?_ hb1 | refine Below.setCell ?_ (by first | omega | (simp; done) | (simp; omega)) _ | refine Below.alloc ?_ (by first | omega | (simp; done) | (simp; omega)) _ | refine Below.trans ?_ (Below.mono hb1 (by first | omega | (simp; done) | (simp; omega)))))⟩
  by_cases hb2 : 200 < b
  · have hd' : d = 0 := by rw [hd]; unfold dgV tpV; have := un_bl fm x; rw [if_pos (.inr (by omega))]
    subst hd'
    clear hd hf
    go_enter Tryd.func10, Tryd.ntmps10
    go_wp2_with fail
    refine (CF.out _).mono ?_
    rintro e w1 ⟨rfl, hb1⟩
    go_wp2
    go_ret
    exact ⟨rfl, (by repeat (first | exact Below.refl _ _ | refine Below.drew ?_ | refine bel_dn ?_ _ | refine bel_al ?_ _ | refine bel_go ?_ hb1 | refine Below.setCell ?_ (by first | omega | (simp; done) | (simp; omega)) _ | refine Below.alloc ?_ (by first | omega | (simp; done) | (simp; omega)) _ | refine Below.trans ?_ (Below.mono hb1 (by first | omega | (simp; done) | (simp; omega)))))⟩
  have hx := fin_ok hf
  have CU := hid (fun w' => l2units_any fm x w' hf x0 x1)
  have CN := hid (fun w' => spec_l2neg fm x w' hx x0 x1)
  have hl := un_len fm x
  have CS := hid (fun a c w' h => l1shift_any (Nm.wn (unI fm x)) a c (Nm.wl (unI fm x)) (-16 * b) w' h (Nm.wl_dg _) (by omega) (by omega) (by omega) (dwV (unI fm x) b) rfl)
  have hlow := dg_low2 (unI fm x) b (by omega)
  have hbd := dg_bd (unI fm x) b
  have hll := dw_len fm x b (by omega)
  have CL := hid (fun a c w' h => low_all (Nm.wn (dwV (unI fm x) b)) a c (Nm.wl (dwV (unI fm x) b)) w' h (Nm.wl_dg _) (by omega))
  have hd' : d = if sigB fm x then -(dgN (unI fm x) b : Int) else (dgN (unI fm x) b : Int) := by
    rw [hd]; unfold dgV
    by_cases ht : tpV fm x < b
    · rw [if_pos (.inr ht), dg_high (by omega) ht]; cases sigB fm x <;> simp
    · rw [if_neg (by omega)]
  obtain ⟨G, hG⟩ : ∃ G, G = Nm.wn (unI fm x) := ⟨_, rfl⟩
  obtain ⟨L, hL⟩ : ∃ L, L = Nm.wl (unI fm x) := ⟨_, rfl⟩
  obtain ⟨G2, hG2⟩ : ∃ G, G = Nm.wn (dwV (unI fm x) b) := ⟨_, rfl⟩
  obtain ⟨q, hq⟩ : ∃ q : Int, q = (Nm.wl (dwV (unI fm x) b)).getD 0 0 + (Nm.wl (dwV (unI fm x) b)).getD 1 0 * 4294967296 := ⟨_, rfl⟩
  obtain ⟨L2, hL2⟩ : ∃ L, L = Nm.wl (dwV (unI fm x) b) := ⟨_, rfl⟩
  obtain ⟨g, hg⟩ : ∃ g : Int, g = (dgN (unI fm x) b : Int) := ⟨_, rfl⟩
  obtain ⟨sg, hsg⟩ : ∃ sg, sg = sigB fm x := ⟨_, rfl⟩
  rw [← hq, ← hg] at hlow
  simp only [← hq] at CL
  simp only [← hL2, ← hG2] at CL
  simp only [← hL2, ← hG2, ← hG, ← hL] at CS
  simp only [← hG, ← hL] at CU
  rw [← hsg] at CN
  rw [← hsg, ← hg] at hd'
  have g0 : 0 ≤ g := by omega
  have g1 : g < 65536 := by omega
  have hwr : IntKind.i64.wrap (-16 * b) = -16 * b := by rw [IntKind.wrap_i64]; omega
  have HD := hid hd'
  clear hd hd' hq hg hL hG hG2 hL2 hf hl hbd hll hx hsg
  cases sg
  all_goals
    go_enter Tryd.func10, Tryd.ntmps10
    go_wp2_with fail
    refine (CF.out _).mono ?_
    rintro e w1 ⟨rfl, hb1⟩
    go_wp2_with fail
    refine (CU.out _).mono ?_
    rintro e w2 ⟨a2, c2, rfl, o2, hb2⟩
    go_wp2_with fail
    refine (CS.out a2 c2 _ o2.sl).mono ?_
    rintro e w3 ⟨a3, c3, rfl, o3, hb3⟩
    go_wp2_with fail
    refine (CL.out a3 c3 _ o3.sl).mono ?_
    rintro e w4 ⟨rfl, hb4⟩
    go_wp2_with fail
    refine (CN.out _).mono ?_
    rintro e w5 ⟨rfl, hb5⟩
    go_wp2
    go_ret
    refine ⟨ret_int (by rw [HD.out]; simp [hlow, wrap64] <;> omega), (by repeat (first | exact Below.refl _ _ | refine Below.drew ?_ | refine bel_dn ?_ _ | refine bel_al ?_ _ | refine bel_go ?_ hb5 | refine bel_go ?_ hb4 | refine bel_go ?_ hb3 | refine bel_go ?_ hb2 | refine bel_go ?_ hb1 | refine Below.setCell ?_ (by first | omega | (simp; done) | (simp; omega)) _ | refine Below.alloc ?_ (by first | omega | (simp; done) | (simp; omega)) _ | refine Below.trans ?_ (Below.mono hb5 (by first | omega | (simp; done) | (simp; omega))) | refine Below.trans ?_ (Below.mono hb4 (by first | omega | (simp; done) | (simp; omega))) | refine Below.trans ?_ (Below.mono hb3 (by first | omega | (simp; done) | (simp; omega))) | refine Below.trans ?_ (Below.mono hb2 (by first | omega | (simp; done) | (simp; omega))) | refine Below.trans ?_ (Below.mono hb1 (by first | omega | (simp; done) | (simp; omega)))))⟩
theorem law_DigitOf (fm x b : Int) (w : World) (hT : Tab w) (x0 : 0 ≤ x) (x1 : x < 18446744073709551616) :
    Calls Tryd.prog 4 #[.int .i64 fm, .int .u64 x, .int .i64 b] w fun e w' => e = .returned (.bool true) ∧ Below w.heap.size w w' := by
  obtain ⟨t, ht⟩ : ∃ t, t = dgV fm x b := ⟨_, rfl⟩
  have CS := hid (fun w' => dig_spec fm x b w' x0 x1 t ht)
  have CI := hid (fun w' h => dig_impl fm x b w' h x0 x1 t ht)
  have q1 : (t != t) = false := by simp
  clear ht
  go_enter Tryd.func4, Tryd.ntmps4
  go_wp2_with fail
  refine (CS.out _).mono ?_
  rintro e w1 ⟨rfl, hb1⟩
  go_wp2_with fail
  refine (CI.out _ (hT.below hb1)).mono ?_
  rintro e w2 ⟨rfl, hb2⟩
  go_wp2
  go_ret
  exact ⟨rfl, (by repeat (first | exact Below.refl _ _ | refine Below.drew ?_ | refine bel_dn ?_ _ | refine bel_al ?_ _ | refine bel_go ?_ hb2 | refine bel_go ?_ hb1 | refine Below.setCell ?_ (by first | omega | (simp; done) | (simp; omega)) _ | refine Below.alloc ?_ (by first | omega | (simp; done) | (simp; omega)) _ | refine Below.trans ?_ (Below.mono hb2 (by first | omega | (simp; done) | (simp; omega))) | refine Below.trans ?_ (Below.mono hb1 (by first | omega | (simp; done) | (simp; omega)))))⟩
end Go.Proofs.YtbalefbcpnoieaaDoor
