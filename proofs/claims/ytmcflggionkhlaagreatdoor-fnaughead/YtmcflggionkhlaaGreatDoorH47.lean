/-
  What is needed of AY.
-/
import Derived.Test.YtmcflggionkhlaaGreatDoorH46
set_option maxHeartbeats 16000000
set_option maxRecDepth 1000000
namespace Go.Proofs.YtmcflggionkhlaaGreatDoor
set_option linter.unusedVariables false
set_option linter.unusedSimpArgs false
open Go.RowKit Go.Deep
theorem negF_un2 {fm y : Int} (hy : okF fm y = true) (y0 : 0 ≤ y) (y1 : y < 18446744073709551616) : finB fm (negF fm y) = finB fm y ∧ unI fm (negF fm y) = -unI fm y ∧ okF fm (negF fm y) = true := by
  rcases okF_cases hy with ⟨rfl, hb⟩ | rfl
  · obtain ⟨h1, -, -, -, h2, h3, -⟩ := Fd.sg32 y0 hb _ rfl
    exact ⟨h2, h3, okF32 h1.2⟩
  · obtain ⟨h1, -, -, -, h2, h3, -⟩ := Fd.sg64 y0 y1 _ rfl
    exact ⟨h2, h3, okF64⟩
theorem z_len {z : Int} (h : bitLen z.natAbs ≤ 6400) : (Nm.wl z).length ≤ 200 := by unfold Nm.wl; exact lim_len (k := 200) (by omega)
/-- What a head lacks, in any power of 2 that is low enough. -/
theorem lack_num {fm h z E X : Int} (hok : okF fm h = true) (h0 : 0 ≤ h) (h1 : h < 18446744073709551616) (fh : finB fm h = true) (hX : X = z * 2 ^ (E - 2 * unQ fm).toNat) (e0 : 2 * unQ fm ≤ E) (em v : Int) (hem : em = min E (nE fm (negF fm h))) (hv : v = z * 2 ^ (E - em).toNat + nZ fm (negF fm h) * 2 ^ (nE fm (negF fm h) - em).toNat) :
    auR fm h X = v * 2 ^ (em - 2 * unQ fm).toNat ∧ 2 * unQ fm ≤ em := by
  obtain ⟨n1, n2, n3⟩ := negF_un2 hok h0 h1
  have fn : finB fm (negF fm h) = true := by rw [n1]; exact fh
  have hu := un_nZ n3 fn
  have qy := pE_q fn
  rw [← (fin_facts n3 fn).2.2.2.1] at qy
  have hq := unq_bd fm
  have hem1 : em ≤ E := by omega
  have hem2 : em ≤ nE fm (negF fm h) := by omega
  have hem3 : 2 * unQ fm ≤ em := by omega
  refine ⟨?_, hem3⟩
  unfold auR
  rw [n2] at hu
  have e1 : unI fm h * 2 ^ (-unQ fm).toNat = -(nZ fm (negF fm h) * 2 ^ (nE fm (negF fm h) - em).toNat * 2 ^ (em - 2 * unQ fm).toNat) := by
    have : unI fm h = -(nZ fm (negF fm h) * 2 ^ (nE fm (negF fm h) - unQ fm).toNat) := by omega
    rw [this, Int.neg_mul, Int.mul_assoc, Int.mul_assoc, ← Int.pow_add, ← Int.pow_add]
    rw [show (nE fm (negF fm h) - unQ fm).toNat + (-unQ fm).toNat = (nE fm (negF fm h) - em).toNat + (em - 2 * unQ fm).toNat by omega]
  have e2 : X = z * 2 ^ (E - em).toNat * 2 ^ (em - 2 * unQ fm).toNat := by
    rw [hX, Int.mul_assoc, ← Int.pow_add, show (E - em).toNat + (em - 2 * unQ fm).toNat = (E - 2 * unQ fm).toNat by omega]
  rw [e1, e2, hv, Int.add_mul]; omega
theorem lack_x (fm h t z E X : Int) (sg : Bool) (p : Option Addr) (c : Nat) (u : Value) (w : World) (hE : E3 u w) (hs : Sl .u32 w (.slice p (Nm.wl z).length c) (Nm.wl z)) (hok : okF fm h = true) (h0 : 0 ≤ h) (h1 : h < 18446744073709551616) (fh : finB fm h = true) (hX : X = z * 2 ^ (E - 2 * unQ fm).toNat) (e0 : 2 * unQ fm ≤ E) (e1 : E ≤ 4000) (bz : bitLen z.natAbs + (E - 2 * unQ fm).toNat ≤ 6300) :
    Calls Tryz.prog 212 #[.agg #[.int .u64 h, .int .u64 t], .int .i64 fm, .agg #[.bool sg, .bool false, .bool (Nm.wn z), .slice p (Nm.wl z).length c, .int .i64 E]] w fun r w' => ∃ (a' : Option Addr) (c' : Nat) (s' : Bool) (v e : Int), r = .returned (.agg #[.bool s', .bool false, .bool (Nm.wn v), .slice a' (Nm.wl v).length c', .int .i64 e]) ∧ auR fm h X = v * 2 ^ (e - 2 * unQ fm).toNat ∧ 2 * unQ fm ≤ e ∧ e ≤ 4000 ∧ (Nm.wl v).length ≤ 200 ∧ Sl .u32 w' (.slice a' (Nm.wl v).length c') (Nm.wl v) ∧ Below w.heap.size w w' := by
  obtain ⟨n1, n2, n3⟩ := negF_un2 hok h0 h1
  obtain ⟨m1, m2, m3⟩ := neg_ok hok h0 h1
  have fn : finB fm (negF fm h) = true := by rw [n1]; exact fh
  have hq := unq_bd fm
  obtain ⟨b7, b5, b6⟩ := nZ_bd fm (negF fm h)
  obtain ⟨em, hem⟩ : ∃ em, em = min E (nE fm (negF fm h)) := ⟨_, rfl⟩
  obtain ⟨v, hv⟩ : ∃ v, v = z * 2 ^ (E - em).toNat + nZ fm (negF fm h) * 2 ^ (nE fm (negF fm h) - em).toNat := ⟨_, rfl⟩
  obtain ⟨hR, hem3⟩ := lack_num hok h0 h1 fh hX e0 em v hem hv
  have lx : (Nm.wl (z * 2 ^ (E - em).toNat)).length ≤ 200 := z_len (by have := bl_mulp z (E - em).toNat; omega)
  have lz : (Nm.wl (nZ fm (negF fm h) * 2 ^ (nE fm (negF fm h) - em).toNat)).length ≤ 200 := z_len (by have := bl_mulp (nZ fm (negF fm h)) (nE fm (negF fm h) - em).toNat; have h2 : bitLen (nZ fm (negF fm h)).natAbs ≤ 53 := (Nm.bl_le_iff _ 53).2 b7; omega)
  have bX : bitLen X.natAbs ≤ 6300 := by rw [hX]; have := bl_mulp z (E - 2 * unQ fm).toNat; omega
  have lv : (Nm.wl v).length ≤ 200 := by
    have h2 := auR_bl (fm := fm) (h := h) bX
    have h3 := Nm.bl_mono (sum_abs hR)
    exact z_len (by omega)
  have lzz : (Nm.wl z).length ≤ 200 := z_len (by omega)
  have CG := hid (fun w' hT => neg_i fm h w' hT hok h0 h1)
  have CN := hid (numAt (u := u) n3 m2 m3)
  obtain ⟨-, f2, -, -, f5, -⟩ := fin_facts n3 fn
  have f6 : nB fm (negF fm h) = false := (fin_facts n3 fn).2.2.2.2.2
  rw [f2, f5, f6] at CN
  have CP := hid (fun a1 c1 a2 c2 w' (h1 : Sl .u32 w' (.slice a1 (Nm.wl z).length c1) (Nm.wl z)) (h2 : Sl .u32 w' (.slice a2 (Nm.wl (nZ fm (negF fm h))).length c2) (Nm.wl (nZ fm (negF fm h)))) => plus_fin sg (Nm.wn z) (Nm.wl z) E a1 c1 (nS fm (negF fm h)) (Nm.wn (nZ fm (negF fm h))) (Nm.wl (nZ fm (negF fm h))) (nE fm (negF fm h)) a2 c2 5 w' em hem (by omega) (by omega) h1 h2 (Nm.wn (z * 2 ^ (E - em).toNat)) (Nm.wl (z * 2 ^ (E - em).toNat)) (Nm.wn (nZ fm (negF fm h) * 2 ^ (nE fm (negF fm h) - em).toNat)) (Nm.wl (nZ fm (negF fm h) * 2 ^ (nE fm (negF fm h) - em).toNat)) (Nm.wn v) (Nm.wl v) _ rfl lv
    (fun w' h => wsh_at2 (Nm.wn z) a1 c1 (Nm.wl z) (E - em) w' h (Nm.wl_dg _) (okB_wl lzz) (by omega) (by omega) (z * 2 ^ (E - em).toNat) (shz z (E - em) (by omega)).symm lx)
    (fun w' k => wsh_at2 (Nm.wn (nZ fm (negF fm h))) a2 c2 (Nm.wl (nZ fm (negF fm h))) (nE fm (negF fm h) - em) w' k (Nm.wl_dg _) (okB_wl (nZ_len fm (negF fm h))) (by omega) (by omega) (nZ fm (negF fm h) * 2 ^ (nE fm (negF fm h) - em).toNat) (shz (nZ fm (negF fm h)) (nE fm (negF fm h) - em) (by omega)).symm lz)
    (fun av cv aw cw w' k k' => add_ok av aw cv cw w' k k' (Nm.wl_dg _) (Nm.wl_dg _) (okB_wl lx) (okB_wl lz) v (by rw [Nm.wv_out, Nm.wv_out]; exact hv) (by unfold Nm.fits; exact decide_eq_true lv)))
  obtain ⟨s9, h_s9⟩ : ∃ q, q = plN (decide ((Nm.wl v).length = 0)) sg (nS fm (negF fm h)) (Nm.wn v) 5 := ⟨_, rfl⟩
  obtain ⟨b2, h_b2⟩ : ∃ q, q = nS fm (negF fm h) := ⟨_, rfl⟩
  obtain ⟨g2, h_g2⟩ : ∃ q, q = Nm.wn (nZ fm (negF fm h)) := ⟨_, rfl⟩
  obtain ⟨L2, h_L2⟩ : ∃ q, q = Nm.wl (nZ fm (negF fm h)) := ⟨_, rfl⟩
  obtain ⟨E2, h_E2⟩ : ∃ q, q = nE fm (negF fm h) := ⟨_, rfl⟩
  obtain ⟨ny, h_ny⟩ : ∃ q, q = negF fm h := ⟨_, rfl⟩
  rw [← h_s9, ← h_b2, ← h_g2, ← h_L2, ← h_E2] at CP
  rw [← h_b2, ← h_g2, ← h_L2, ← h_E2, ← h_ny] at CN
  rw [← h_ny] at CG
  have he4 : em ≤ 4000 := by omega
  have FIN := hid (fun (a' : Option Addr) (c' : Nat) (w' : World) (s : Sl .u32 w' (.slice a' (Nm.wl v).length c') (Nm.wl v)) (hb : Below w.heap.size w w') => (⟨a', c', s9, v, em, rfl, hR, hem3, he4, lv, s, hb⟩ : ∃ (a'' : Option Addr) (c'' : Nat) (s' : Bool) (v' e : Int), (Ending.returned (.agg #[.bool s9, .bool false, .bool (Nm.wn v), .slice a' (Nm.wl v).length c', .int .i64 em])) = .returned (.agg #[.bool s', .bool false, .bool (Nm.wn v'), .slice a'' (Nm.wl v').length c'', .int .i64 e]) ∧ auR fm h X = v' * 2 ^ (e - 2 * unQ fm).toNat ∧ 2 * unQ fm ≤ e ∧ e ≤ 4000 ∧ (Nm.wl v').length ≤ 200 ∧ Sl .u32 w' (.slice a'' (Nm.wl v').length c'') (Nm.wl v') ∧ Below w.heap.size w w'))
  clear h_s9 h_b2 h_g2 h_L2 h_E2 h_ny hem hv hR hem3 he4 lx lz bX lv lzz f2 f5 f6 n1 n2 n3 m1 m2 m3 fn hq b7 b5 b6 hok h0 h1 fh hX e0 e1 bz
  obtain ⟨gz, h_gz⟩ : ∃ q, q = Nm.wn z := ⟨_, rfl⟩
  obtain ⟨Z, h_Z⟩ : ∃ q, q = Nm.wl z := ⟨_, rfl⟩
  obtain ⟨gv, h_gv⟩ : ∃ q, q = Nm.wn v := ⟨_, rfl⟩
  obtain ⟨V, h_V⟩ : ∃ q, q = Nm.wl v := ⟨_, rfl⟩
  rw [← h_gz, ← h_Z, ← h_gv, ← h_V] at CP
  rw [← h_gz, ← h_Z]
  rw [← h_Z] at hs
  have FIN2 := hid (fun a' c' w' (s : Sl .u32 w' (.slice a' V.length c') V) hb => by rw [h_gv, h_V] at *; exact FIN.out a' c' w' s hb : ∀ (a' : Option Addr) (c' : Nat) (w' : World), Sl .u32 w' (.slice a' V.length c') V → Below w.heap.size w w' → ∃ (a'' : Option Addr) (c'' : Nat) (s' : Bool) (v' e : Int), (Ending.returned (.agg #[.bool s9, .bool false, .bool gv, .slice a' V.length c', .int .i64 em])) = .returned (.agg #[.bool s', .bool false, .bool (Nm.wn v'), .slice a'' (Nm.wl v').length c'', .int .i64 e]) ∧ auR fm h X = v' * 2 ^ (e - 2 * unQ fm).toNat ∧ 2 * unQ fm ≤ e ∧ e ≤ 4000 ∧ (Nm.wl v').length ≤ 200 ∧ Sl .u32 w' (.slice a'' (Nm.wl v').length c'') (Nm.wl v') ∧ Below w.heap.size w w')
  clear h_gz h_Z h_gv h_V FIN
  have bel := Below.refl w.heap.size w
  go_enter Tryz.func212, Tryz.ntmps212
  replace hs := hs.below (al_b _ (.cells #[.int .u64 h, .int .u64 t] 54))
  replace hE := hE.below (al_b _ (.cells #[.int .u64 h, .int .u64 t] 54))
  replace bel := bel_al bel (.cells #[.int .u64 h, .int .u64 t] 54)
  have Bp := R2.new w (.int .u64 h) (.int .u64 t) 54
  replace hs := hs.below (al_b _ (.cells #[.bool sg, .bool false, .bool gz, .slice p Z.length c, .int .i64 E] 99))
  replace hE := hE.below (al_b _ (.cells #[.bool sg, .bool false, .bool gz, .slice p Z.length c, .int .i64 E] 99))
  replace Bp := Bp.below (al_b _ (.cells #[.bool sg, .bool false, .bool gz, .slice p Z.length c, .int .i64 E] 99))
  replace bel := bel_al bel (.cells #[.bool sg, .bool false, .bool gz, .slice p Z.length c, .int .i64 E] 99)
  have Bx := Q5.new (w.alloc (.cells #[.int .u64 h, .int .u64 t] 54)) (.bool sg) (.bool false) (.bool gz) (.slice p Z.length c) (.int .i64 E) 99
  have hsz : (w.alloc (.cells #[.int .u64 h, .int .u64 t] 54)).heap.size = w.heap.size + 1 := by simp
  rw [hsz] at Bx
  clear hsz
  replace hs := hs.below (al_b _ (.cells #[.bool false, .bool false, .bool false, .slice none 0 0, .int .i64 0] 99))
  replace hE := hE.below (al_b _ (.cells #[.bool false, .bool false, .bool false, .slice none 0 0, .int .i64 0] 99))
  replace Bp := Bp.below (al_b _ (.cells #[.bool false, .bool false, .bool false, .slice none 0 0, .int .i64 0] 99))
  replace Bx := Bx.below (al_b _ (.cells #[.bool false, .bool false, .bool false, .slice none 0 0, .int .i64 0] 99))
  replace bel := bel_al bel (.cells #[.bool false, .bool false, .bool false, .slice none 0 0, .int .i64 0] 99)
  have Br := Q5.new ((w.alloc (.cells #[.int .u64 h, .int .u64 t] 54)).alloc (.cells #[.bool sg, .bool false, .bool gz, .slice p Z.length c, .int .i64 E] 99)) (.bool false) (.bool false) (.bool false) (.slice none 0 0) (.int .i64 0) 99
  have hsz : ((w.alloc (.cells #[.int .u64 h, .int .u64 t] 54)).alloc (.cells #[.bool sg, .bool false, .bool gz, .slice p Z.length c, .int .i64 E] 99)).heap.size = w.heap.size + 1 + 1 := by simp
  rw [hsz] at Br
  clear hsz
  obtain ⟨kp0, kp1, -, -⟩ := id Bp
  obtain ⟨kx0, kx1, kx2, kx3, kx4, -, -, -, -, -⟩ := id Bx
  obtain ⟨kr0, kr1, kr2, kr3, kr4, -, -, -, -, -⟩ := id Br
  go_wp2_with fail
  refine (CG.out _ hE.t.s.f).mono ?_
  rintro r w1 ⟨rfl, hb⟩
  clear kp0 kp1 kx0 kx1 kx2 kx3 kx4 kr0 kr1 kr2 kr3 kr4
  replace bel := bel_go bel hb
  replace hs := hs.below hb
  replace hE := hE.below hb
  replace Bp := Bp.below hb
  replace Bx := Bx.below hb
  replace Br := Br.below hb
  clear hb
  obtain ⟨kp0, kp1, -, -⟩ := id Bp
  obtain ⟨kx0, kx1, kx2, kx3, kx4, -, -, -, -, -⟩ := id Bx
  obtain ⟨kr0, kr1, kr2, kr3, kr4, -, -, -, -, -⟩ := id Br
  go_wp2_with fail
  refine (CN.out _ hE.ee).mono ?_
  rintro r w2 ⟨a2, c2, e2, rfl, k2, o2, hb⟩
  clear kp0 kp1 kx0 kx1 kx2 kx3 kx4 kr0 kr1 kr2 kr3 kr4
  replace bel := bel_go bel hb
  replace hs := hs.below hb
  replace hE := hE.below hb
  replace Bp := Bp.below hb
  replace Bx := Bx.below hb
  replace Br := Br.below hb
  clear hb
  have s2 := o2.sl
  clear o2
  clear k2
  replace hs := hs.below (al_b _ (.cells #[.bool b2, .bool false, .bool g2, .slice a2 L2.length c2, .int .i64 E2] 99))
  replace hE := hE.below (al_b _ (.cells #[.bool b2, .bool false, .bool g2, .slice a2 L2.length c2, .int .i64 E2] 99))
  replace Bp := Bp.below (al_b _ (.cells #[.bool b2, .bool false, .bool g2, .slice a2 L2.length c2, .int .i64 E2] 99))
  replace Bx := Bx.below (al_b _ (.cells #[.bool b2, .bool false, .bool g2, .slice a2 L2.length c2, .int .i64 E2] 99))
  replace Br := Br.below (al_b _ (.cells #[.bool b2, .bool false, .bool g2, .slice a2 L2.length c2, .int .i64 E2] 99))
  replace s2 := s2.below (al_b _ (.cells #[.bool b2, .bool false, .bool g2, .slice a2 L2.length c2, .int .i64 E2] 99))
  replace bel := bel_al bel (.cells #[.bool b2, .bool false, .bool g2, .slice a2 L2.length c2, .int .i64 E2] 99)
  have By := Q5.new w2 (.bool b2) (.bool false) (.bool g2) (.slice a2 L2.length c2) (.int .i64 E2) 99
  obtain ⟨kp0, kp1, -, -⟩ := id Bp
  obtain ⟨kx0, kx1, kx2, kx3, kx4, -, -, -, -, -⟩ := id Bx
  obtain ⟨kr0, kr1, kr2, kr3, kr4, -, -, -, -, -⟩ := id Br
  obtain ⟨ky0, ky1, ky2, ky3, ky4, -, -, -, -, -⟩ := id By
  go_wp2_with fail
  refine (CP.out p c a2 c2 _ hs s2).mono ?_
  rintro r w3 ⟨a3, c3, rfl, o3, hb⟩
  clear kp0 kp1 kx0 kx1 kx2 kx3 kx4 kr0 kr1 kr2 kr3 kr4 ky0 ky1 ky2 ky3 ky4
  replace bel := bel_go bel hb
  replace hs := hs.below hb
  replace hE := hE.below hb
  replace Bp := Bp.below hb
  replace Bx := Bx.below hb
  replace Br := Br.below hb
  replace s2 := s2.below hb
  replace By := By.below hb
  clear hb
  replace hs := hs.below (al_b _ (.cells #[.bool s9, .bool false, .bool gv, .slice a3 V.length c3, .int .i64 em] 99))
  replace hE := hE.below (al_b _ (.cells #[.bool s9, .bool false, .bool gv, .slice a3 V.length c3, .int .i64 em] 99))
  replace Bp := Bp.below (al_b _ (.cells #[.bool s9, .bool false, .bool gv, .slice a3 V.length c3, .int .i64 em] 99))
  replace Bx := Bx.below (al_b _ (.cells #[.bool s9, .bool false, .bool gv, .slice a3 V.length c3, .int .i64 em] 99))
  replace Br := Br.below (al_b _ (.cells #[.bool s9, .bool false, .bool gv, .slice a3 V.length c3, .int .i64 em] 99))
  replace s2 := s2.below (al_b _ (.cells #[.bool s9, .bool false, .bool gv, .slice a3 V.length c3, .int .i64 em] 99))
  replace By := By.below (al_b _ (.cells #[.bool s9, .bool false, .bool gv, .slice a3 V.length c3, .int .i64 em] 99))
  replace o3 := o3.below (al_b _ (.cells #[.bool s9, .bool false, .bool gv, .slice a3 V.length c3, .int .i64 em] 99))
  replace bel := bel_al bel (.cells #[.bool s9, .bool false, .bool gv, .slice a3 V.length c3, .int .i64 em] 99)
  have Bz := Q5.new w3 (.bool s9) (.bool false) (.bool gv) (.slice a3 V.length c3) (.int .i64 em) 99
  have hr0 := own_at o3
  obtain ⟨kp0, kp1, -, -⟩ := id Bp
  obtain ⟨kx0, kx1, kx2, kx3, kx4, -, -, -, -, -⟩ := id Bx
  obtain ⟨kr0, kr1, kr2, kr3, kr4, -, -, -, -, -⟩ := id Br
  obtain ⟨ky0, ky1, ky2, ky3, ky4, -, -, -, -, -⟩ := id By
  obtain ⟨kz0, kz1, kz2, kz3, kz4, -, -, -, -, -⟩ := id Bz
  obtain ⟨-, -, -, -, -, lr0, lr1, lr2, lr3, lr4⟩ := id Br
  have ap : V = [] ∨ ∀ g, a3 = some ⟨g, 0, none⟩ → g ≠ (w.heap.size + 1 + 1) := own_apart o3 _ kr0
  go_wp2
  refine bodyPost_ret (v := .agg #[.bool s9, .bool false, .bool gv, .slice a3 V.length c3, .int .i64 em]) (by simp [results, Tryz.results212, go_sem, kr0, kr1, kr2, kr3, kr4, lr0, lr1, lr2, lr3, lr4, kz0, kz1, kz2, kz3, kz4]) rfl (FIN2.out a3 c3 _ (own_keep o3 ap _ _ _ _ _) (((((bel.setCell (by simp; omega) _).setCell (by simp; omega) _).setCell (by simp; omega) _).setCell (by simp; omega) _).setCell (by simp; omega) _))
end Go.Proofs.YtmcflggionkhlaaGreatDoor
