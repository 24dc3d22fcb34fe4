/-
  What is needed of ZAa, ZAm.
-/
import Derived.Test.YtmcflggionkhlaaGreatDoorF54
import Derived.Test.YtmcflggionkhlaaGreatDoorF58
set_option maxHeartbeats 16000000
set_option maxRecDepth 1000000
namespace Go.Proofs.YtmcflggionkhlaaGreatDoor
set_option linter.unusedVariables false
set_option linter.unusedSimpArgs false
open Go.RowKit Go.Deep
namespace Fd
theorem drawAM_x (ca : Option Addr) (cc : Nat) (cs : List Int) (w : World) (hs : Sl .u8 w (.slice ca cs.length cc) cs) (hby : ∀ i, 0 ≤ cs.getD i 0 ∧ cs.getD i 0 ≤ 255) (hl : cs.length ≤ 1048576) :
    Calls Tryz.prog 48 #[.slice ca cs.length cc] w fun e w' => DrA w w' e := by
  have CD := hid (drawAA_x ca cc cs w hs hby hl)
  clear hs hby hl
  go_enter Tryz.func48, Tryz.ntmps48
  go_wp2_with fail
  refine CD.out.mono ?_
  rintro r w1 ⟨fm, a, b, rfl, a0, a1, b0, b1, bel⟩
  go_wp2
  all_goals go_ret3
  all_goals exact ⟨fm, a, b, rfl, a0, a1, b0, b1, bel⟩
theorem unit_x3 {fm : Int} (k : fmtB fm = true) (w : World) :
    Calls Tryz.prog 37 #[.int .i64 fm] w fun e w' => e = .returned (.int .i64 (unQ fm)) ∧ Below w.heap.size w w' := by
  rcases fmt_cases k with rfl | rfl
  · exact unit32 w
  · exact unit64 w
theorem am_law {fm a b : Int} (a0 : 0 ≤ a) (a1 : a < 18446744073709551616) (b0 : 0 ≤ b) (b1 : b < 18446744073709551616) (hO : muO fm 5 a b = true) :
    (0 ≤ amB fm a b ∧ amB fm a b < 18446744073709551616) ∧ ((finB fm a && finB fm b) = true → amF fm a b = 0 → cls fm (amB fm a b) ≤ 2 → (0 ≤ amT fm a b ∧ amT fm a b < 18446744073709551616) ∧ (finB fm (amB fm a b) && finB fm (amT fm a b)) = true ∧ fmtB fm = true ∧ (unI fm (amB fm a b) + unI fm (amT fm a b)) * 2 ^ (-unQ fm).toNat = amX fm a b ∧ prdM fm a b * 2 ^ (pE fm a + pE fm b - 2 * unQ fm).toNat = amX fm a b ∧ 0 ≤ pE fm a + pE fm b - 2 * unQ fm ∧ bitLen (unI fm (amB fm a b) + unI fm (amT fm a b)).natAbs + (-unQ fm).toNat ≤ 6400 ∧ bitLen (prdM fm a b).natAbs + (pE fm a + pE fm b - 2 * unQ fm).toNat ≤ 6400) := by
  obtain ⟨k1, k2, k3, -⟩ := mu_head (mode := 5) a0 a1 b0 b1 hO
  have e : amB fm a b = muB fm 5 a b := by unfold amB; rw [if_pos hO]
  rw [← e] at k1 k2 k3
  refine ⟨⟨k2, k3⟩, fun hff hf hc => ?_⟩
  have fh := fin_of_cls k1 hc
  obtain ⟨t0, t1, ft, hs⟩ := am_main hO hf fh
  simp only [Bool.and_eq_true] at hff
  obtain ⟨fa, fb⟩ := hff
  have hall : okF fm a = true ∧ okF fm b = true := all2 (by have k := hO; unfold muO at k; simp only [Bool.and_eq_true] at k; exact k.2)
  obtain ⟨p1, p2, p3⟩ := prd_nZ fa fb
  have qx := pE_q fa
  have qy := pE_q fb
  have hq := unq_bd fm
  obtain ⟨-, c0, c1⟩ := nZ_bd fm a
  obtain ⟨-, d0, d1⟩ := nZ_bd fm b
  have hx : prdM fm a b * 2 ^ (pE fm a + pE fm b - 2 * unQ fm).toNat = amX fm a b := by unfold amX; rw [p1, p2, p3]
  have z1 := bz_of hs.symm (amX_bl fm a b) (by omega)
  have z2 := bz_of hx.symm (amX_bl fm a b) (by omega)
  exact ⟨⟨t0, t1⟩, by rw [fh, ft]; rfl, ok_fmt hall.1, hs, hx, by omega, by omega, by omega⟩
theorem amlaw (ca : Option Addr) (cc : Nat) (cs : List Int) (w : World) (hT : EX3 w) (hs : Sl .u8 w (.slice ca cs.length cc) cs) (hby : ∀ i, 0 ≤ cs.getD i 0 ∧ cs.getD i 0 ≤ 255) (hl : cs.length ≤ 1048576) :
    Calls Tryz.prog 12 #[.slice ca cs.length cc] w fun e w' => e = .returned (.bool true) ∧ Below w.heap.size w w' := by
  go_enter Tryz.func12, Tryz.ntmps12
  go_wp2_with fail
  refine (big_any ca cs.length cc _ (by omega) false (by simp; omega)).mono ?_
  rintro r w0 ⟨rfl, rfl⟩
  go_wp2_with fail
  refine (drawAM_x ca cc cs _ hs hby hl).mono ?_
  rintro r w1 ⟨fm, a, b, rfl, a0, a1, b0, b1, bel⟩
  obtain ⟨u, T⟩ := hT.below bel
  clear hs hby hl hT
  have AI := hid (fun w' k => ami_impl fm a b u w' k a0 a1 b0 b1 _ _ _ _ rfl rfl rfl rfl)
  have AS := hid (fun w' => ams_spec fm a b w' a0 a1 b0 b1 _ _ _ _ rfl rfl rfl rfl)
  have SO := hid (fun w' k => product_x fm a b w' k a0 a1 b0 b1)
  have UN := hid (fun (k : fmtB fm = true) w' => unit_x3 k w')
  have CC := hid (fun (k : 0 ≤ amB fm a b ∧ amB fm a b < 18446744073709551616) w' => spec_cls fm (amB fm a b) w' k.1 k.2)
  have S2 := hid (fun (k : 0 ≤ amB fm a b ∧ amB fm a b < 18446744073709551616) (k' : 0 ≤ amT fm a b ∧ amT fm a b < 18446744073709551616) w' h' => sumOf_x fm (amB fm a b) (amT fm a b) w' h' k.1 k.2 k'.1 k'.2)
  have X1 := hid (fun (n0 : 0 ≤ -unQ fm) (hb : bitLen (unI fm (amB fm a b) + unI fm (amT fm a b)).natAbs + (-unQ fm).toNat ≤ 6400) p c w' k => shl_w (unI fm (amB fm a b) + unI fm (amT fm a b)) (-unQ fm) p c w' k n0 hb)
  have X2 := hid (fun (n0 : 0 ≤ pE fm a + pE fm b - 2 * unQ fm) (hb : bitLen (prdM fm a b).natAbs + (pE fm a + pE fm b - 2 * unQ fm).toNat ≤ 6400) p c w' k => shl_w (prdM fm a b) (pE fm a + pE fm b - 2 * unQ fm) p c w' k n0 hb)
  have MN := hid (am_law (fm := fm) a0 a1 b0 b1)
  have hul : (Nm.wl (amX fm a b)).length ≤ 1048576 := by have := fit_k (x := amX fm a b) (by have := amX_bl fm a b; omega); omega
  have hq := unq_bd fm
  have hpe : pE fm a + pE fm b ≤ 10000 := by have := pE_bd fm a; have := pE_bd fm b; omega
  obtain ⟨s, h_s⟩ : ∃ q, q = prdM fm a b := ⟨_, rfl⟩
  obtain ⟨s2, h_s2⟩ : ∃ q, q = unI fm (amB fm a b) + unI fm (amT fm a b) := ⟨_, rfl⟩
  obtain ⟨X, h_X⟩ : ∃ q, q = amX fm a b := ⟨_, rfl⟩
  obtain ⟨E, h_E⟩ : ∃ q, q = pE fm a + pE fm b := ⟨_, rfl⟩
  obtain ⟨q, h_q⟩ : ∃ q, q = unQ fm := ⟨_, rfl⟩
  obtain ⟨ff, h_ff⟩ : ∃ q, q = (finB fm a && finB fm b) := ⟨_, rfl⟩
  obtain ⟨f2, h_f2⟩ : ∃ q, q = (finB fm (amB fm a b) && finB fm (amT fm a b)) := ⟨_, rfl⟩
  obtain ⟨c, h_c⟩ : ∃ q, q = cls fm (amB fm a b) := ⟨_, rfl⟩
  obtain ⟨H, h_H⟩ : ∃ q, q = amB fm a b := ⟨_, rfl⟩
  obtain ⟨Tl, h_Tl⟩ : ∃ q, q = amT fm a b := ⟨_, rfl⟩
  obtain ⟨F, h_F⟩ : ∃ q, q = amF fm a b := ⟨_, rfl⟩
  obtain ⟨O, h_O⟩ : ∃ q, q = muO fm 5 a b := ⟨_, rfl⟩
  rw [← h_s, ← h_ff, ← h_E] at SO
  rw [← h_s2, ← h_f2, ← h_H, ← h_Tl] at S2
  rw [← h_s2, ← h_q] at X1
  rw [← h_s, ← h_E, ← h_q] at X2
  rw [← h_q] at UN hq
  rw [← h_s, ← h_s2, ← h_X, ← h_E, ← h_q, ← h_ff, ← h_f2, ← h_c, ← h_H, ← h_Tl, ← h_F, ← h_O] at MN
  rw [← h_c, ← h_H] at CC
  rw [← h_H, ← h_Tl, ← h_F, ← h_O] at AI AS
  rw [← h_X] at hul
  rw [← h_E] at hpe
  clear h_s h_s2 h_X h_E h_q h_ff h_f2 h_c h_H h_Tl h_F h_O a0 a1 b0 b1
  have ne_H : (H != H) = false := by simp
  have eq_H : (H == H) = true := by simp
  have ne_Tl : (Tl != Tl) = false := by simp
  have eq_Tl : (Tl == Tl) = true := by simp
  have ne_F : (F != F) = false := by simp
  have eq_F : (F == F) = true := by simp
  have ne_O : (O != O) = false := by simp
  have eq_O : (O == O) = true := by simp
  obtain ⟨g, h_g⟩ : ∃ q, q = Nm.wn s := ⟨_, rfl⟩
  obtain ⟨L, h_L⟩ : ∃ q, q = Nm.wl s := ⟨_, rfl⟩
  cases O
  · rw [← h_g, ← h_L] at SO
    clear MN CC S2 X1 X2 UN hul hq hpe
    clear h_g h_L
    go_wp2_with fail
    refine (AI.out _ T).mono ?_
    rintro r w2 ⟨rfl, hb⟩
    replace bel := bel_go bel hb
    replace T := T.below hb
    clear hb
    replace T := T.below (al_b _ (.cells #[.int .u64 H, .int .u64 Tl] 54))
    replace bel := bel_al bel (.cells #[.int .u64 H, .int .u64 Tl] 54)
    have Bp := R2.new w2 (.int .u64 H) (.int .u64 Tl) 54
    obtain ⟨kp0, kp1, -, -⟩ := id Bp
    go_wp2_with fail
    refine (AS.out _).mono ?_
    rintro r w3 ⟨rfl, hb⟩
    clear kp0 kp1
    replace bel := bel_go bel hb
    replace T := T.below hb
    replace Bp := Bp.below hb
    clear hb
    replace T := T.below (al_b _ (.cells #[.int .u64 H, .int .u64 Tl] 54))
    replace Bp := Bp.below (al_b _ (.cells #[.int .u64 H, .int .u64 Tl] 54))
    replace bel := bel_al bel (.cells #[.int .u64 H, .int .u64 Tl] 54)
    have Bq := R2.new w3 (.int .u64 H) (.int .u64 Tl) 54
    obtain ⟨kp0, kp1, -, -⟩ := id Bp
    obtain ⟨kq0, kq1, -, -⟩ := id Bq
    go_wp2_with fail
    refine (SO.out _ T.t.s.f).mono ?_
    rintro r w4 ⟨aS, cS, rfl, sS, hb⟩
    clear kp0 kp1 kq0 kq1
    replace bel := bel_go bel hb
    replace T := T.below hb
    replace Bp := Bp.below hb
    replace Bq := Bq.below hb
    clear hb
    replace T := T.below (al_b _ (.cells #[.bool g, .slice aS L.length cS] 31))
    replace Bp := Bp.below (al_b _ (.cells #[.bool g, .slice aS L.length cS] 31))
    replace Bq := Bq.below (al_b _ (.cells #[.bool g, .slice aS L.length cS] 31))
    replace sS := sS.below (al_b _ (.cells #[.bool g, .slice aS L.length cS] 31))
    replace bel := bel_al bel (.cells #[.bool g, .slice aS L.length cS] 31)
    have Bs := R2.new w4 (.bool g) (.slice aS L.length cS) 31
    obtain ⟨kp0, kp1, -, -⟩ := id Bp
    obtain ⟨kq0, kq1, -, -⟩ := id Bq
    obtain ⟨ks0, ks1, -, -⟩ := id Bs
    go_wp2
    all_goals go_ret
    all_goals exact ⟨rfl, bel⟩
  · cases ff
    · rw [← h_g, ← h_L] at SO
      clear MN CC S2 X1 X2 UN hul hq hpe
      clear h_g h_L
      go_wp2_with fail
      refine (AI.out _ T).mono ?_
      rintro r w2 ⟨rfl, hb⟩
      replace bel := bel_go bel hb
      replace T := T.below hb
      clear hb
      replace T := T.below (al_b _ (.cells #[.int .u64 H, .int .u64 Tl] 54))
      replace bel := bel_al bel (.cells #[.int .u64 H, .int .u64 Tl] 54)
      have Bp := R2.new w2 (.int .u64 H) (.int .u64 Tl) 54
      obtain ⟨kp0, kp1, -, -⟩ := id Bp
      go_wp2_with fail
      refine (AS.out _).mono ?_
      rintro r w3 ⟨rfl, hb⟩
      clear kp0 kp1
      replace bel := bel_go bel hb
      replace T := T.below hb
      replace Bp := Bp.below hb
      clear hb
      replace T := T.below (al_b _ (.cells #[.int .u64 H, .int .u64 Tl] 54))
      replace Bp := Bp.below (al_b _ (.cells #[.int .u64 H, .int .u64 Tl] 54))
      replace bel := bel_al bel (.cells #[.int .u64 H, .int .u64 Tl] 54)
      have Bq := R2.new w3 (.int .u64 H) (.int .u64 Tl) 54
      obtain ⟨kp0, kp1, -, -⟩ := id Bp
      obtain ⟨kq0, kq1, -, -⟩ := id Bq
      go_wp2_with fail
      refine (SO.out _ T.t.s.f).mono ?_
      rintro r w4 ⟨aS, cS, rfl, sS, hb⟩
      clear kp0 kp1 kq0 kq1
      replace bel := bel_go bel hb
      replace T := T.below hb
      replace Bp := Bp.below hb
      replace Bq := Bq.below hb
      clear hb
      replace T := T.below (al_b _ (.cells #[.bool g, .slice aS L.length cS] 31))
      replace Bp := Bp.below (al_b _ (.cells #[.bool g, .slice aS L.length cS] 31))
      replace Bq := Bq.below (al_b _ (.cells #[.bool g, .slice aS L.length cS] 31))
      replace sS := sS.below (al_b _ (.cells #[.bool g, .slice aS L.length cS] 31))
      replace bel := bel_al bel (.cells #[.bool g, .slice aS L.length cS] 31)
      have Bs := R2.new w4 (.bool g) (.slice aS L.length cS) 31
      obtain ⟨kp0, kp1, -, -⟩ := id Bp
      obtain ⟨kq0, kq1, -, -⟩ := id Bq
      obtain ⟨ks0, ks1, -, -⟩ := id Bs
      go_wp2
      all_goals go_ret
      all_goals exact ⟨rfl, bel⟩
    · by_cases hF : F = 0
      · subst hF
        by_cases hc : c ≤ 2
        · rw [← h_g, ← h_L] at SO
          have hg : decide (2 < c) = false := decide_eq_false (by omega)
          have hg2 : ¬ 2 < c := by omega
          obtain ⟨m1, m2⟩ := MN.out rfl
          obtain ⟨m3, m4, m5, m6, m7, m8, m9, m10⟩ := m2 rfl rfl hc
          have CC := hid (CC.out m1)
          have S2 := hid (S2.out m1 m3)
          have UN := hid (UN.out m5)
          have X1 := hid (X1.out (by omega) m9)
          have X2 := hid (X2.out m8 m10)
          have hw1 : IntKind.i64.wrap (2 * q) = 2 * q := by rw [IntKind.wrap_i64]; omega
          have hw2 : wrap64 (2 * q) = 2 * q := by unfold wrap64; omega
          have hw3 : IntKind.i64.wrap (-q) = -q := by rw [IntKind.wrap_i64]; omega
          have hw4 : wrap64 (-q) = -q := by unfold wrap64; omega
          have hw5 : IntKind.i64.wrap (E - 2 * q) = E - 2 * q := by rw [IntKind.wrap_i64]; omega
          have hw6 : wrap64 (E - 2 * q) = E - 2 * q := by unfold wrap64; omega
          rw [m6] at X1
          rw [m7] at X2
          rw [m4] at S2
          obtain ⟨gX, h_gX⟩ : ∃ q, q = Nm.wn X := ⟨_, rfl⟩
          obtain ⟨LX, h_LX⟩ : ∃ q, q = Nm.wl X := ⟨_, rfl⟩
          obtain ⟨gv, h_gv⟩ : ∃ q, q = Nm.wn s2 := ⟨_, rfl⟩
          obtain ⟨V, h_V⟩ : ∃ q, q = Nm.wl s2 := ⟨_, rfl⟩
          rw [← h_gv, ← h_V] at S2
          rw [← h_gX, ← h_LX, ← h_gv, ← h_V] at X1
          rw [← h_gX, ← h_LX, ← h_g, ← h_L] at X2
          rw [← h_LX] at hul
          clear MN m1 m2 m3 m4 m5 m6 m7 m8 m9 m10 hc h_gX h_LX h_gv h_V hq hpe
          clear h_g h_L
          go_wp2_with fail
          refine (AI.out _ T).mono ?_
          rintro r w2 ⟨rfl, hb⟩
          replace bel := bel_go bel hb
          replace T := T.below hb
          clear hb
          replace T := T.below (al_b _ (.cells #[.int .u64 H, .int .u64 Tl] 54))
          replace bel := bel_al bel (.cells #[.int .u64 H, .int .u64 Tl] 54)
          have Bp := R2.new w2 (.int .u64 H) (.int .u64 Tl) 54
          obtain ⟨kp0, kp1, -, -⟩ := id Bp
          go_wp2_with fail
          refine (AS.out _).mono ?_
          rintro r w3 ⟨rfl, hb⟩
          clear kp0 kp1
          replace bel := bel_go bel hb
          replace T := T.below hb
          replace Bp := Bp.below hb
          clear hb
          replace T := T.below (al_b _ (.cells #[.int .u64 H, .int .u64 Tl] 54))
          replace Bp := Bp.below (al_b _ (.cells #[.int .u64 H, .int .u64 Tl] 54))
          replace bel := bel_al bel (.cells #[.int .u64 H, .int .u64 Tl] 54)
          have Bq := R2.new w3 (.int .u64 H) (.int .u64 Tl) 54
          obtain ⟨kp0, kp1, -, -⟩ := id Bp
          obtain ⟨kq0, kq1, -, -⟩ := id Bq
          go_wp2_with fail
          refine (SO.out _ T.t.s.f).mono ?_
          rintro r w4 ⟨aS, cS, rfl, sS, hb⟩
          clear kp0 kp1 kq0 kq1
          replace bel := bel_go bel hb
          replace T := T.below hb
          replace Bp := Bp.below hb
          replace Bq := Bq.below hb
          clear hb
          replace T := T.below (al_b _ (.cells #[.bool g, .slice aS L.length cS] 31))
          replace Bp := Bp.below (al_b _ (.cells #[.bool g, .slice aS L.length cS] 31))
          replace Bq := Bq.below (al_b _ (.cells #[.bool g, .slice aS L.length cS] 31))
          replace sS := sS.below (al_b _ (.cells #[.bool g, .slice aS L.length cS] 31))
          replace bel := bel_al bel (.cells #[.bool g, .slice aS L.length cS] 31)
          have Bs := R2.new w4 (.bool g) (.slice aS L.length cS) 31
          obtain ⟨kp0, kp1, -, -⟩ := id Bp
          obtain ⟨kq0, kq1, -, -⟩ := id Bq
          obtain ⟨ks0, ks1, -, -⟩ := id Bs
          go_wp2_with fail
          refine (CC.out _).mono ?_
          rintro r w5 ⟨rfl, hb⟩
          clear kp0 kp1 kq0 kq1 ks0 ks1
          replace bel := bel_go bel hb
          replace T := T.below hb
          replace Bp := Bp.below hb
          replace Bq := Bq.below hb
          replace sS := sS.below hb
          replace Bs := Bs.below hb
          clear hb
          obtain ⟨kp0, kp1, -, -⟩ := id Bp
          obtain ⟨kq0, kq1, -, -⟩ := id Bq
          obtain ⟨ks0, ks1, -, -⟩ := id Bs
          go_wp2_with fail
          refine (S2.out _ T.t.s.f).mono ?_
          rintro r w6 ⟨aV, cV, rfl, sV, hb⟩
          clear kp0 kp1 kq0 kq1 ks0 ks1
          replace bel := bel_go bel hb
          replace T := T.below hb
          replace Bp := Bp.below hb
          replace Bq := Bq.below hb
          replace sS := sS.below hb
          replace Bs := Bs.below hb
          clear hb
          replace T := T.below (al_b _ (.cells #[.bool gv, .slice aV V.length cV] 31))
          replace Bp := Bp.below (al_b _ (.cells #[.bool gv, .slice aV V.length cV] 31))
          replace Bq := Bq.below (al_b _ (.cells #[.bool gv, .slice aV V.length cV] 31))
          replace sS := sS.below (al_b _ (.cells #[.bool gv, .slice aV V.length cV] 31))
          replace Bs := Bs.below (al_b _ (.cells #[.bool gv, .slice aV V.length cV] 31))
          replace sV := sV.below (al_b _ (.cells #[.bool gv, .slice aV V.length cV] 31))
          replace bel := bel_al bel (.cells #[.bool gv, .slice aV V.length cV] 31)
          have Bv := R2.new w6 (.bool gv) (.slice aV V.length cV) 31
          obtain ⟨kp0, kp1, -, -⟩ := id Bp
          obtain ⟨kq0, kq1, -, -⟩ := id Bq
          obtain ⟨ks0, ks1, -, -⟩ := id Bs
          obtain ⟨kv0, kv1, -, -⟩ := id Bv
          go_wp2_with fail
          refine (UN.out _).mono ?_
          rintro r w7 ⟨rfl, hb⟩
          clear kp0 kp1 kq0 kq1 ks0 ks1 kv0 kv1
          replace bel := bel_go bel hb
          replace T := T.below hb
          replace Bp := Bp.below hb
          replace Bq := Bq.below hb
          replace sS := sS.below hb
          replace Bs := Bs.below hb
          replace sV := sV.below hb
          replace Bv := Bv.below hb
          clear hb
          obtain ⟨kp0, kp1, -, -⟩ := id Bp
          obtain ⟨kq0, kq1, -, -⟩ := id Bq
          obtain ⟨ks0, ks1, -, -⟩ := id Bs
          obtain ⟨kv0, kv1, -, -⟩ := id Bv
          go_wp2_with fail
          refine (X1.out aV cV _ sV).mono ?_
          rintro r w8 ⟨a1, c1, rfl, o1, hb⟩
          clear kp0 kp1 kq0 kq1 ks0 ks1 kv0 kv1
          replace bel := bel_go bel hb
          replace T := T.below hb
          replace Bp := Bp.below hb
          replace Bq := Bq.below hb
          replace sS := sS.below hb
          replace Bs := Bs.below hb
          replace sV := sV.below hb
          replace Bv := Bv.below hb
          clear hb
          have s1 := o1.sl
          clear o1
          replace T := T.below (al_b _ (.cells #[.bool gX, .slice a1 LX.length c1] 31))
          replace Bp := Bp.below (al_b _ (.cells #[.bool gX, .slice a1 LX.length c1] 31))
          replace Bq := Bq.below (al_b _ (.cells #[.bool gX, .slice a1 LX.length c1] 31))
          replace sS := sS.below (al_b _ (.cells #[.bool gX, .slice a1 LX.length c1] 31))
          replace Bs := Bs.below (al_b _ (.cells #[.bool gX, .slice a1 LX.length c1] 31))
          replace sV := sV.below (al_b _ (.cells #[.bool gX, .slice a1 LX.length c1] 31))
          replace Bv := Bv.below (al_b _ (.cells #[.bool gX, .slice a1 LX.length c1] 31))
          replace s1 := s1.below (al_b _ (.cells #[.bool gX, .slice a1 LX.length c1] 31))
          replace bel := bel_al bel (.cells #[.bool gX, .slice a1 LX.length c1] 31)
          have Bx := R2.new w8 (.bool gX) (.slice a1 LX.length c1) 31
          obtain ⟨kp0, kp1, -, -⟩ := id Bp
          obtain ⟨kq0, kq1, -, -⟩ := id Bq
          obtain ⟨ks0, ks1, -, -⟩ := id Bs
          obtain ⟨kv0, kv1, -, -⟩ := id Bv
          obtain ⟨kx0, kx1, -, -⟩ := id Bx
          go_wp2_with fail
          refine (X2.out aS cS _ sS).mono ?_
          rintro r w9 ⟨a2, c2, rfl, o2, hb⟩
          clear kp0 kp1 kq0 kq1 ks0 ks1 kv0 kv1 kx0 kx1
          replace bel := bel_go bel hb
          replace T := T.below hb
          replace Bp := Bp.below hb
          replace Bq := Bq.below hb
          replace sS := sS.below hb
          replace Bs := Bs.below hb
          replace sV := sV.below hb
          replace Bv := Bv.below hb
          replace s1 := s1.below hb
          replace Bx := Bx.below hb
          clear hb
          have s2 := o2.sl
          clear o2
          replace T := T.below (al_b _ (.cells #[.bool gX, .slice a2 LX.length c2] 31))
          replace Bp := Bp.below (al_b _ (.cells #[.bool gX, .slice a2 LX.length c2] 31))
          replace Bq := Bq.below (al_b _ (.cells #[.bool gX, .slice a2 LX.length c2] 31))
          replace sS := sS.below (al_b _ (.cells #[.bool gX, .slice a2 LX.length c2] 31))
          replace Bs := Bs.below (al_b _ (.cells #[.bool gX, .slice a2 LX.length c2] 31))
          replace sV := sV.below (al_b _ (.cells #[.bool gX, .slice a2 LX.length c2] 31))
          replace Bv := Bv.below (al_b _ (.cells #[.bool gX, .slice a2 LX.length c2] 31))
          replace s1 := s1.below (al_b _ (.cells #[.bool gX, .slice a2 LX.length c2] 31))
          replace Bx := Bx.below (al_b _ (.cells #[.bool gX, .slice a2 LX.length c2] 31))
          replace s2 := s2.below (al_b _ (.cells #[.bool gX, .slice a2 LX.length c2] 31))
          replace bel := bel_al bel (.cells #[.bool gX, .slice a2 LX.length c2] 31)
          have By := R2.new w9 (.bool gX) (.slice a2 LX.length c2) 31
          obtain ⟨kp0, kp1, -, -⟩ := id Bp
          obtain ⟨kq0, kq1, -, -⟩ := id Bq
          obtain ⟨ks0, ks1, -, -⟩ := id Bs
          obtain ⟨kv0, kv1, -, -⟩ := id Bv
          obtain ⟨kx0, kx1, -, -⟩ := id Bx
          obtain ⟨ky0, ky1, -, -⟩ := id By
          go_wp2_with fail
          refine (same_yes gX a1 a2 c1 c2 LX _ s1 s2 hul).mono ?_
          rintro r w10 ⟨rfl, hb⟩
          clear kp0 kp1 kq0 kq1 ks0 ks1 kv0 kv1 kx0 kx1 ky0 ky1
          replace bel := bel_go bel hb
          replace T := T.below hb
          replace Bp := Bp.below hb
          replace Bq := Bq.below hb
          replace sS := sS.below hb
          replace Bs := Bs.below hb
          replace sV := sV.below hb
          replace Bv := Bv.below hb
          replace s1 := s1.below hb
          replace Bx := Bx.below hb
          replace s2 := s2.below hb
          replace By := By.below hb
          clear hb
          obtain ⟨kp0, kp1, -, -⟩ := id Bp
          obtain ⟨kq0, kq1, -, -⟩ := id Bq
          obtain ⟨ks0, ks1, -, -⟩ := id Bs
          obtain ⟨kv0, kv1, -, -⟩ := id Bv
          obtain ⟨kx0, kx1, -, -⟩ := id Bx
          obtain ⟨ky0, ky1, -, -⟩ := id By
          go_wp2
          all_goals go_ret
          all_goals exact ⟨rfl, bel⟩
        · rw [← h_g, ← h_L] at SO
          have hg : decide (2 < c) = true := decide_eq_true (by omega)
          have hg2 : 2 < c := by omega
          have CC := hid (CC.out (MN.out rfl).1)
          clear MN hc S2 X1 X2 UN hul hq hpe
          clear h_g h_L
          go_wp2_with fail
          refine (AI.out _ T).mono ?_
          rintro r w2 ⟨rfl, hb⟩
          replace bel := bel_go bel hb
          replace T := T.below hb
          clear hb
          replace T := T.below (al_b _ (.cells #[.int .u64 H, .int .u64 Tl] 54))
          replace bel := bel_al bel (.cells #[.int .u64 H, .int .u64 Tl] 54)
          have Bp := R2.new w2 (.int .u64 H) (.int .u64 Tl) 54
          obtain ⟨kp0, kp1, -, -⟩ := id Bp
          go_wp2_with fail
          refine (AS.out _).mono ?_
          rintro r w3 ⟨rfl, hb⟩
          clear kp0 kp1
          replace bel := bel_go bel hb
          replace T := T.below hb
          replace Bp := Bp.below hb
          clear hb
          replace T := T.below (al_b _ (.cells #[.int .u64 H, .int .u64 Tl] 54))
          replace Bp := Bp.below (al_b _ (.cells #[.int .u64 H, .int .u64 Tl] 54))
          replace bel := bel_al bel (.cells #[.int .u64 H, .int .u64 Tl] 54)
          have Bq := R2.new w3 (.int .u64 H) (.int .u64 Tl) 54
          obtain ⟨kp0, kp1, -, -⟩ := id Bp
          obtain ⟨kq0, kq1, -, -⟩ := id Bq
          go_wp2_with fail
          refine (SO.out _ T.t.s.f).mono ?_
          rintro r w4 ⟨aS, cS, rfl, sS, hb⟩
          clear kp0 kp1 kq0 kq1
          replace bel := bel_go bel hb
          replace T := T.below hb
          replace Bp := Bp.below hb
          replace Bq := Bq.below hb
          clear hb
          replace T := T.below (al_b _ (.cells #[.bool g, .slice aS L.length cS] 31))
          replace Bp := Bp.below (al_b _ (.cells #[.bool g, .slice aS L.length cS] 31))
          replace Bq := Bq.below (al_b _ (.cells #[.bool g, .slice aS L.length cS] 31))
          replace sS := sS.below (al_b _ (.cells #[.bool g, .slice aS L.length cS] 31))
          replace bel := bel_al bel (.cells #[.bool g, .slice aS L.length cS] 31)
          have Bs := R2.new w4 (.bool g) (.slice aS L.length cS) 31
          obtain ⟨kp0, kp1, -, -⟩ := id Bp
          obtain ⟨kq0, kq1, -, -⟩ := id Bq
          obtain ⟨ks0, ks1, -, -⟩ := id Bs
          go_wp2_with fail
          refine (CC.out _).mono ?_
          rintro r w5 ⟨rfl, hb⟩
          clear kp0 kp1 kq0 kq1 ks0 ks1
          replace bel := bel_go bel hb
          replace T := T.below hb
          replace Bp := Bp.below hb
          replace Bq := Bq.below hb
          replace sS := sS.below hb
          replace Bs := Bs.below hb
          clear hb
          obtain ⟨kp0, kp1, -, -⟩ := id Bp
          obtain ⟨kq0, kq1, -, -⟩ := id Bq
          obtain ⟨ks0, ks1, -, -⟩ := id Bs
          go_wp2
          all_goals go_ret
          all_goals exact ⟨rfl, bel⟩
      · rw [← h_g, ← h_L] at SO
        have hF' : (F != 0) = true := by simpa using hF
        clear MN CC S2 X1 X2 UN hul hq hpe
        clear h_g h_L
        go_wp2_with fail
        refine (AI.out _ T).mono ?_
        rintro r w2 ⟨rfl, hb⟩
        replace bel := bel_go bel hb
        replace T := T.below hb
        clear hb
        replace T := T.below (al_b _ (.cells #[.int .u64 H, .int .u64 Tl] 54))
        replace bel := bel_al bel (.cells #[.int .u64 H, .int .u64 Tl] 54)
        have Bp := R2.new w2 (.int .u64 H) (.int .u64 Tl) 54
        obtain ⟨kp0, kp1, -, -⟩ := id Bp
        go_wp2_with fail
        refine (AS.out _).mono ?_
        rintro r w3 ⟨rfl, hb⟩
        clear kp0 kp1
        replace bel := bel_go bel hb
        replace T := T.below hb
        replace Bp := Bp.below hb
        clear hb
        replace T := T.below (al_b _ (.cells #[.int .u64 H, .int .u64 Tl] 54))
        replace Bp := Bp.below (al_b _ (.cells #[.int .u64 H, .int .u64 Tl] 54))
        replace bel := bel_al bel (.cells #[.int .u64 H, .int .u64 Tl] 54)
        have Bq := R2.new w3 (.int .u64 H) (.int .u64 Tl) 54
        obtain ⟨kp0, kp1, -, -⟩ := id Bp
        obtain ⟨kq0, kq1, -, -⟩ := id Bq
        go_wp2_with fail
        refine (SO.out _ T.t.s.f).mono ?_
        rintro r w4 ⟨aS, cS, rfl, sS, hb⟩
        clear kp0 kp1 kq0 kq1
        replace bel := bel_go bel hb
        replace T := T.below hb
        replace Bp := Bp.below hb
        replace Bq := Bq.below hb
        clear hb
        replace T := T.below (al_b _ (.cells #[.bool g, .slice aS L.length cS] 31))
        replace Bp := Bp.below (al_b _ (.cells #[.bool g, .slice aS L.length cS] 31))
        replace Bq := Bq.below (al_b _ (.cells #[.bool g, .slice aS L.length cS] 31))
        replace sS := sS.below (al_b _ (.cells #[.bool g, .slice aS L.length cS] 31))
        replace bel := bel_al bel (.cells #[.bool g, .slice aS L.length cS] 31)
        have Bs := R2.new w4 (.bool g) (.slice aS L.length cS) 31
        obtain ⟨kp0, kp1, -, -⟩ := id Bp
        obtain ⟨kq0, kq1, -, -⟩ := id Bq
        obtain ⟨ks0, ks1, -, -⟩ := id Bs
        go_wp2
        all_goals go_ret
        all_goals exact ⟨rfl, bel⟩
theorem amlaw_all (ca : Option Addr) (cc : Nat) (cs : List Int) (w : World) (hT : EX3 w) (hs : Sl .u8 w (.slice ca cs.length cc) cs) (hby : ∀ i, 0 ≤ cs.getD i 0 ∧ cs.getD i 0 ≤ 255) :
    Calls Tryz.prog 12 #[.slice ca cs.length cc] w fun e w' => e = .returned (.bool true) ∧ Below w.heap.size w w' := by
  by_cases h : cs.length ≤ 1048576
  · exact amlaw ca cc cs w hT hs hby h
  · have hn : cs.length ≤ 9223372036854775807 := by obtain ⟨_, h1, h2, _⟩ := hs.cells; unfold maxLen at h2; omega
    have CB := hid (big_any ca cs.length cc w hn true (by simp; omega))
    clear hs hby h hn
    go_enter Tryz.func12, Tryz.ntmps12
    go_wp2_with fail
    refine CB.out.mono ?_
    rintro e w0 ⟨rfl, rfl⟩
    go_wp2
    go_ret
    exact ⟨rfl, Below.refl _ _⟩
end Fd
end Go.Proofs.YtmcflggionkhlaaGreatDoor
