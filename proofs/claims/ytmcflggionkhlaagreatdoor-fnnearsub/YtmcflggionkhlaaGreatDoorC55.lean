/-
  What is needed of ZNs.
-/
import Derived.Test.YtmcflggionkhlaaGreatDoorC54
set_option maxHeartbeats 16000000
set_option maxRecDepth 1000000
namespace Go.Proofs.YtmcflggionkhlaaGreatDoor
set_option linter.unusedVariables false
set_option linter.unusedSimpArgs false
open Go.RowKit Go.Deep
namespace Fd
theorem fin_y32 {x : Int} (hf : finB 32 x = true) : x < 4294967296 := by
  have := fin_ok hf; unfold okF at this; simpa using this
theorem zero_un (fm : Int) (h : fmtB fm = true) (g : Bool) : 0 ≤ sgn (sgOf fm) 0 g ∧ sgn (sgOf fm) 0 g < 18446744073709551616 ∧ finB fm (sgn (sgOf fm) 0 g) = true ∧ unI fm (sgn (sgOf fm) 0 g) = 0 := by
  rcases fmt_cases h with rfl | rfl <;> cases g <;> decide +kernel
theorem negF_un {fm y : Int} (hy : okF fm y = true) (y0 : 0 ≤ y) (y1 : y < 18446744073709551616) : finB fm (negF fm y) = finB fm y ∧ unI fm (negF fm y) = -unI fm y ∧ okF fm (negF fm y) = true := by
  rcases okF_cases hy with ⟨rfl, hb⟩ | rfl
  · obtain ⟨h1, -, -, -, h2, h3, -⟩ := sg32 y0 hb _ rfl
    exact ⟨h2, h3, okF32 h1.2⟩
  · obtain ⟨h1, -, -, -, h2, h3, -⟩ := sg64 y0 y1 _ rfl
    exact ⟨h2, h3, okF64⟩
/-- A difference of near floats has no flag. -/
theorem ns_main {fm mode a b : Int} (a0 : 0 ≤ a) (a1 : a < 18446744073709551616) (b0 : 0 ≤ b) (b1 : b < 18446744073709551616) (hO : muO fm mode a b = true) (fa : finB fm a = true) (fb : finB fm b = true) (hs : Nm.wn (unI fm a) = Nm.wn (unI fm b)) (h1 : (unI fm b).natAbs ≤ 2 * (unI fm a).natAbs) (h2 : (unI fm a).natAbs ≤ 2 * (unI fm b).natAbs) :
    suF fm mode a b = 0 ∧ 0 ≤ suB fm mode a b ∧ suB fm mode a b < 18446744073709551616 ∧ finB fm (suB fm mode a b) = true ∧ unI fm (suB fm mode a b) = unI fm a - unI fm b := by
  have hO' := hO
  unfold muO at hO'
  simp only [Bool.and_eq_true] at hO'
  obtain ⟨hm, hall⟩ := hO'
  obtain ⟨oa, ob⟩ := all2 hall
  have hfm := ok_fmt oa
  obtain ⟨n1, n2, n3⟩ := negF_un ob b0 b1
  have fn : finB fm (negF fm b) = true := by rw [n1]; exact fb
  obtain ⟨-, ia, -, -, na, -⟩ := fin_facts oa fa
  obtain ⟨-, ib, -, -, nb, -⟩ := fin_facts n3 fn
  have hmO : muO fm mode a (negF fm b) = true := by rw [su_O ob b0 b1]; exact hO
  have e : unI fm a + unI fm (negF fm b) = unI fm a - unI fm b := by rw [n2]; omega
  have hB : suB fm mode a b = if unI fm a - unI fm b = 0 then sgn (sgOf fm) 0 (sigB fm a && sigB fm (negF fm b) || ((sigB fm a != sigB fm (negF fm b)) && decide (mode = 3))) else RdB fm mode (Nm.wn (unI fm a - unI fm b)) (Nm.wl (unI fm a - unI fm b)) (unQ fm) := by
    unfold suB adB aB
    rw [hO, hmO, if_pos rfl, if_pos rfl, na, nb, ia, ib, e]
    simp only [Bool.or_self, Bool.and_self, Bool.false_and, Bool.false_eq_true, if_false]
  have hF : suF fm mode a b = if unI fm a - unI fm b = 0 then 0 else RdF fm mode (Nm.wn (unI fm a - unI fm b)) (Nm.wl (unI fm a - unI fm b)) (unQ fm) := by
    unfold suF adF aF
    rw [hO, hmO, if_pos rfl, if_pos rfl, na, nb, ia, ib, e]
    simp only [Bool.or_self, Bool.and_self, Bool.false_and, Bool.false_eq_true, if_false]
  by_cases hz : unI fm a - unI fm b = 0
  · rw [hB, hF, if_pos hz, if_pos hz, hz]
    obtain ⟨z1, z2, z3, z4⟩ := zero_un fm hfm (sigB fm a && sigB fm (negF fm b) || ((sigB fm a != sigB fm (negF fm b)) && decide (mode = 3)))
    exact ⟨rfl, z1, z2, z3, z4⟩
  · rw [hB, hF, if_neg hz, if_neg hz]
    rcases fmt_cases hfm with rfl | rfl
    · obtain ⟨r1, r2, r3, r4, r5⟩ := nearR_32 a0 (fin_y32 fa) b0 (fin_y32 fb) fa fb hs h1 h2 hz mode hm
      have hq : unQ 32 = -149 := rfl
      rw [hq]
      exact ⟨r1, r2, by omega, r4, r5⟩
    · obtain ⟨r1, r2, r3, r4, r5⟩ := nearR_64 a0 a1 b0 b1 fa fb hs h1 h2 hz mode hm
      have hq : unQ 64 = -1074 := rfl
      rw [hq]
      exact ⟨r1, r2, r3, r4, r5⟩
theorem nslaw (ca : Option Addr) (cc : Nat) (cs : List Int) (w : World) (hT : EX3 w) (hs : Sl .u8 w (.slice ca cs.length cc) cs) (hby : ∀ i, 0 ≤ cs.getD i 0 ∧ cs.getD i 0 ≤ 255) (hl : cs.length ≤ 1048576) :
    Calls Tryz.prog 3 #[.slice ca cs.length cc] w fun e w' => e = .returned (.bool true) ∧ Below w.heap.size w w' := by
  go_enter Tryz.func3, Tryz.ntmps3
  go_wp2_with fail
  refine (big_any ca cs.length cc _ (by omega) false (by simp; omega)).mono ?_
  rintro r w0 ⟨rfl, rfl⟩
  go_wp2_with fail
  refine (drawSub_x ca cc cs _ hs hby hl).mono ?_
  rintro r w1 ⟨fm, mode, a, b, rfl, a0, a1, b0, b1, bel⟩
  obtain ⟨u, T⟩ := hT.below bel
  clear hs hby hl hT
  have SI := hid (fun w' h => subi_all fm mode a b u w' h a0 a1 b0 b1 _ _ _ rfl rfl rfl)
  have SS := hid (fun w' => sub_spec fm mode a b w' a0 a1 b0 b1 _ _ _ rfl rfl rfl)
  have UX := hid (fun w' h => units_impl fm a w' h a0 a1)
  have UY := hid (fun w' h => units_impl fm b w' h b0 b1)
  have UD := hid (fun w' h (h0 : 0 ≤ suB fm mode a b) (h1 : suB fm mode a b < 18446744073709551616) => units_impl fm (suB fm mode a b) w' h h0 h1)
  unfold Ans at UX UY UD
  have MN := hid (ns_main (fm := fm) (mode := mode) a0 a1 b0 b1)
  have bx := un_bl fm a
  have b_y := un_bl fm b
  have bx' : bitLen (((unI fm a).natAbs : Nat) : Int).natAbs ≤ 2200 := by rw [Int.natAbs_natCast]; exact bx
  have by' : bitLen (((unI fm b).natAbs : Nat) : Int).natAbs ≤ 2200 := by rw [Int.natAbs_natCast]; exact b_y
  have hPx : bitLen ((((unI fm a).natAbs : Nat) : Int) * 2 ^ (1 : Int).toNat).natAbs ≤ 2201 := by have := bl_shl (((unI fm a).natAbs : Nat) : Int) (1 : Int).toNat; have h1 : (1 : Int).toNat = 1 := rfl; omega
  have hPy : bitLen ((((unI fm b).natAbs : Nat) : Int) * 2 ^ (1 : Int).toNat).natAbs ≤ 2201 := by have := bl_shl (((unI fm b).natAbs : Nat) : Int) (1 : Int).toNat; have h1 : (1 : Int).toNat = 1 := rfl; omega
  have PX := hid (fun a1 c1 w' h => shl_w (((unI fm a).natAbs : Nat) : Int) 1 a1 c1 w' h (by decide) (by have h1 : (1 : Int).toNat = 1 := rfl; omega))
  have PY := hid (fun a1 c1 w' h => shl_w (((unI fm b).natAbs : Nat) : Int) 1 a1 c1 w' h (by decide) (by have h1 : (1 : Int).toNat = 1 := rfl; omega))
  have C1 := hid (fun p q c d w' h h' => cmp_w ((((unI fm a).natAbs : Nat) : Int) * 2 ^ (1 : Int).toNat) (unI fm b) p q c d w' h h' (fit_k (by omega)) (fit_k (by omega)))
  have C2 := hid (fun p q c d w' h h' => cmp_w ((((unI fm b).natAbs : Nat) : Int) * 2 ^ (1 : Int).toNat) (unI fm a) p q c d w' h h' (fit_k (by omega)) (fit_k (by omega)))
  have LE := hid (fun p q c d w' h h' => less_x (unI fm a) (unI fm b) p q c d w' h h' (by omega) (by omega))
  have nx : Nm.wn ((((unI fm a).natAbs : Nat) : Int) * 2 ^ (1 : Int).toNat) = false := by unfold Nm.wn; apply decide_eq_false; have h1 : (2 : Int) ^ (1 : Int).toNat = 2 := rfl; rw [h1]; omega
  have ny : Nm.wn ((((unI fm b).natAbs : Nat) : Int) * 2 ^ (1 : Int).toNat) = false := by unfold Nm.wn; apply decide_eq_false; have h1 : (2 : Int) ^ (1 : Int).toNat = 2 := rfl; rw [h1]; omega
  rw [wn_abs, wl_abs, nx] at PX
  rw [wn_abs, wl_abs, ny] at PY
  have K1 : ((((unI fm a).natAbs : Nat) : Int) * 2 ^ (1 : Int).toNat).natAbs = 2 * (unI fm a).natAbs := by have h1 : (2 : Int) ^ (1 : Int).toNat = 2 := rfl; rw [h1]; omega
  have K2 : ((((unI fm b).natAbs : Nat) : Int) * 2 ^ (1 : Int).toNat).natAbs = 2 * (unI fm b).natAbs := by have h1 : (2 : Int) ^ (1 : Int).toNat = 2 := rfl; rw [h1]; omega
  rw [K1] at C1
  rw [K2] at C2
  have HL : (Nm.wl (unI fm a - unI fm b)).length ≤ 1048576 := by have := fit_k (x := unI fm a - unI fm b) (by have := bl_sub bx b_y; omega); omega
  clear bx b_y bx' by' hPx hPy nx ny K1 K2
  obtain ⟨Lp, h_Lp⟩ : ∃ q, q = Nm.wl ((((unI fm a).natAbs : Nat) : Int) * 2 ^ (1 : Int).toNat) := ⟨_, rfl⟩
  obtain ⟨Lq, h_Lq⟩ : ∃ q, q = Nm.wl ((((unI fm b).natAbs : Nat) : Int) * 2 ^ (1 : Int).toNat) := ⟨_, rfl⟩
  rw [← h_Lp] at PX C1
  rw [← h_Lq] at PY C2
  clear h_Lp h_Lq
  obtain ⟨k1, h_k1⟩ : ∃ q, q = cmpI ((2 * (unI fm a).natAbs : Nat) : Int) ((unI fm b).natAbs : Nat) := ⟨_, rfl⟩
  obtain ⟨k2, h_k2⟩ : ∃ q, q = cmpI ((2 * (unI fm b).natAbs : Nat) : Int) ((unI fm a).natAbs : Nat) := ⟨_, rfl⟩
  rw [← h_k1] at C1
  rw [← h_k2] at C2
  have M1 : ¬ k1 < 0 → (unI fm b).natAbs ≤ 2 * (unI fm a).natAbs := fun h => by
    rw [h_k1] at h; unfold cmpI at h; split at h <;> omega
  have M2 : ¬ k2 < 0 → (unI fm a).natAbs ≤ 2 * (unI fm b).natAbs := fun h => by
    rw [h_k2] at h; unfold cmpI at h; split at h <;> omega
  clear h_k1 h_k2
  have MN := hid (fun hO fa fb hs h1 h2 => MN.out hO fa fb hs (M1 h1) (M2 h2))
  clear M1 M2
  obtain ⟨B, h_B⟩ : ∃ q, q = suB fm mode a b := ⟨_, rfl⟩
  obtain ⟨F, h_F⟩ : ∃ q, q = suF fm mode a b := ⟨_, rfl⟩
  obtain ⟨O, h_O⟩ : ∃ q, q = muO fm mode a b := ⟨_, rfl⟩
  obtain ⟨fa, h_fa⟩ : ∃ q, q = finB fm a := ⟨_, rfl⟩
  obtain ⟨fb, h_fb⟩ : ∃ q, q = finB fm b := ⟨_, rfl⟩
  rw [← h_B, ← h_F, ← h_O] at SI SS
  rw [← h_fa] at UX
  rw [← h_fb] at UY
  rw [← h_B] at UD
  rw [← h_B, ← h_F, ← h_O, ← h_fa, ← h_fb] at MN
  clear h_B h_F h_O h_fa h_fb
  have ne_B : (B != B) = false := by simp
  have eq_B : (B == B) = true := by simp
  have ne_F : (F != F) = false := by simp
  have eq_F : (F == F) = true := by simp
  have ne_O : (O != O) = false := by simp
  have eq_O : (O == O) = true := by simp
  obtain ⟨ga, h_ga⟩ : ∃ q, q = Nm.wn (unI fm a) := ⟨_, rfl⟩
  obtain ⟨La, h_La⟩ : ∃ q, q = Nm.wl (unI fm a) := ⟨_, rfl⟩
  obtain ⟨gb, h_gb⟩ : ∃ q, q = Nm.wn (unI fm b) := ⟨_, rfl⟩
  obtain ⟨Lb, h_Lb⟩ : ∃ q, q = Nm.wl (unI fm b) := ⟨_, rfl⟩
  obtain ⟨z, h_z⟩ : ∃ q, q = unI fm a - unI fm b := ⟨_, rfl⟩
  obtain ⟨y, h_y⟩ : ∃ q, q = unI fm B := ⟨_, rfl⟩
  rw [← h_ga, ← h_La] at UX LE
  rw [← h_La] at PX C2
  rw [← h_gb, ← h_Lb] at UY LE
  rw [← h_Lb] at PY C1
  rw [← h_z] at LE MN HL
  rw [← h_y] at UD MN
  rw [← h_ga, ← h_gb] at MN
  clear h_ga h_La h_gb h_Lb h_z h_y
  cases O
  · clear MN UD PX PY C1 C2 LE HL
    go_wp2_with fail
    refine (SI.out _ T).mono ?_
    rintro r w2 ⟨rfl, hb⟩
    replace bel := bel_go bel hb
    replace T := T.below hb
    clear hb
    go_wp2_with fail
    refine (SS.out _).mono ?_
    rintro r w3 ⟨rfl, hb⟩
    replace bel := bel_go bel hb
    replace T := T.below hb
    clear hb
    go_wp2_with fail
    refine (UX.out _ T.t.s.f).mono ?_
    rintro r w4 ⟨ax, cx, rfl, ox, hb⟩
    replace bel := bel_go bel hb
    replace T := T.below hb
    clear hb
    have sx := ox.sl
    clear ox
    replace T := T.below (al_b _ (.cells #[.bool ga, .slice ax La.length cx] 31))
    replace sx := sx.below (al_b _ (.cells #[.bool ga, .slice ax La.length cx] 31))
    replace bel := bel_al bel (.cells #[.bool ga, .slice ax La.length cx] 31)
    have Bu := R2.new w4 (.bool ga) (.slice ax La.length cx) 31
    obtain ⟨ku0, ku1, -, -⟩ := id Bu
    go_wp2_with fail
    refine (UY.out _ T.t.s.f).mono ?_
    rintro r w5 ⟨ay, cy, rfl, oy, hb⟩
    clear ku0 ku1
    replace bel := bel_go bel hb
    replace T := T.below hb
    replace sx := sx.below hb
    replace Bu := Bu.below hb
    clear hb
    have sy := oy.sl
    clear oy
    replace T := T.below (al_b _ (.cells #[.bool gb, .slice ay Lb.length cy] 31))
    replace sx := sx.below (al_b _ (.cells #[.bool gb, .slice ay Lb.length cy] 31))
    replace Bu := Bu.below (al_b _ (.cells #[.bool gb, .slice ay Lb.length cy] 31))
    replace sy := sy.below (al_b _ (.cells #[.bool gb, .slice ay Lb.length cy] 31))
    replace bel := bel_al bel (.cells #[.bool gb, .slice ay Lb.length cy] 31)
    have Bv := R2.new w5 (.bool gb) (.slice ay Lb.length cy) 31
    obtain ⟨ku0, ku1, -, -⟩ := id Bu
    obtain ⟨kv0, kv1, -, -⟩ := id Bv
    go_wp2
    all_goals go_ret
    all_goals exact ⟨rfl, bel⟩
  · cases fa
    · clear MN UD PX PY C1 C2 LE HL
      go_wp2_with fail
      refine (SI.out _ T).mono ?_
      rintro r w2 ⟨rfl, hb⟩
      replace bel := bel_go bel hb
      replace T := T.below hb
      clear hb
      go_wp2_with fail
      refine (SS.out _).mono ?_
      rintro r w3 ⟨rfl, hb⟩
      replace bel := bel_go bel hb
      replace T := T.below hb
      clear hb
      go_wp2_with fail
      refine (UX.out _ T.t.s.f).mono ?_
      rintro r w4 ⟨ax, cx, rfl, ox, hb⟩
      replace bel := bel_go bel hb
      replace T := T.below hb
      clear hb
      have sx := ox.sl
      clear ox
      replace T := T.below (al_b _ (.cells #[.bool ga, .slice ax La.length cx] 31))
      replace sx := sx.below (al_b _ (.cells #[.bool ga, .slice ax La.length cx] 31))
      replace bel := bel_al bel (.cells #[.bool ga, .slice ax La.length cx] 31)
      have Bu := R2.new w4 (.bool ga) (.slice ax La.length cx) 31
      obtain ⟨ku0, ku1, -, -⟩ := id Bu
      go_wp2_with fail
      refine (UY.out _ T.t.s.f).mono ?_
      rintro r w5 ⟨ay, cy, rfl, oy, hb⟩
      clear ku0 ku1
      replace bel := bel_go bel hb
      replace T := T.below hb
      replace sx := sx.below hb
      replace Bu := Bu.below hb
      clear hb
      have sy := oy.sl
      clear oy
      replace T := T.below (al_b _ (.cells #[.bool gb, .slice ay Lb.length cy] 31))
      replace sx := sx.below (al_b _ (.cells #[.bool gb, .slice ay Lb.length cy] 31))
      replace Bu := Bu.below (al_b _ (.cells #[.bool gb, .slice ay Lb.length cy] 31))
      replace sy := sy.below (al_b _ (.cells #[.bool gb, .slice ay Lb.length cy] 31))
      replace bel := bel_al bel (.cells #[.bool gb, .slice ay Lb.length cy] 31)
      have Bv := R2.new w5 (.bool gb) (.slice ay Lb.length cy) 31
      obtain ⟨ku0, ku1, -, -⟩ := id Bu
      obtain ⟨kv0, kv1, -, -⟩ := id Bv
      go_wp2
      all_goals go_ret
      all_goals exact ⟨rfl, bel⟩
    · cases fb
      · clear MN UD PX PY C1 C2 LE HL
        go_wp2_with fail
        refine (SI.out _ T).mono ?_
        rintro r w2 ⟨rfl, hb⟩
        replace bel := bel_go bel hb
        replace T := T.below hb
        clear hb
        go_wp2_with fail
        refine (SS.out _).mono ?_
        rintro r w3 ⟨rfl, hb⟩
        replace bel := bel_go bel hb
        replace T := T.below hb
        clear hb
        go_wp2_with fail
        refine (UX.out _ T.t.s.f).mono ?_
        rintro r w4 ⟨ax, cx, rfl, ox, hb⟩
        replace bel := bel_go bel hb
        replace T := T.below hb
        clear hb
        have sx := ox.sl
        clear ox
        replace T := T.below (al_b _ (.cells #[.bool ga, .slice ax La.length cx] 31))
        replace sx := sx.below (al_b _ (.cells #[.bool ga, .slice ax La.length cx] 31))
        replace bel := bel_al bel (.cells #[.bool ga, .slice ax La.length cx] 31)
        have Bu := R2.new w4 (.bool ga) (.slice ax La.length cx) 31
        obtain ⟨ku0, ku1, -, -⟩ := id Bu
        go_wp2_with fail
        refine (UY.out _ T.t.s.f).mono ?_
        rintro r w5 ⟨ay, cy, rfl, oy, hb⟩
        clear ku0 ku1
        replace bel := bel_go bel hb
        replace T := T.below hb
        replace sx := sx.below hb
        replace Bu := Bu.below hb
        clear hb
        have sy := oy.sl
        clear oy
        replace T := T.below (al_b _ (.cells #[.bool gb, .slice ay Lb.length cy] 31))
        replace sx := sx.below (al_b _ (.cells #[.bool gb, .slice ay Lb.length cy] 31))
        replace Bu := Bu.below (al_b _ (.cells #[.bool gb, .slice ay Lb.length cy] 31))
        replace sy := sy.below (al_b _ (.cells #[.bool gb, .slice ay Lb.length cy] 31))
        replace bel := bel_al bel (.cells #[.bool gb, .slice ay Lb.length cy] 31)
        have Bv := R2.new w5 (.bool gb) (.slice ay Lb.length cy) 31
        obtain ⟨ku0, ku1, -, -⟩ := id Bu
        obtain ⟨kv0, kv1, -, -⟩ := id Bv
        go_wp2
        all_goals go_ret
        all_goals exact ⟨rfl, bel⟩
      · by_cases hg : ga = gb
        rotate_left
        · have hg2 : (ga == gb) = false := by simpa using hg
          have hg3 : (ga != gb) = true := by simpa using hg
          clear MN UD PX PY C1 C2 LE HL
          go_wp2_with fail
          refine (SI.out _ T).mono ?_
          rintro r w2 ⟨rfl, hb⟩
          replace bel := bel_go bel hb
          replace T := T.below hb
          clear hb
          go_wp2_with fail
          refine (SS.out _).mono ?_
          rintro r w3 ⟨rfl, hb⟩
          replace bel := bel_go bel hb
          replace T := T.below hb
          clear hb
          go_wp2_with fail
          refine (UX.out _ T.t.s.f).mono ?_
          rintro r w4 ⟨ax, cx, rfl, ox, hb⟩
          replace bel := bel_go bel hb
          replace T := T.below hb
          clear hb
          have sx := ox.sl
          clear ox
          replace T := T.below (al_b _ (.cells #[.bool ga, .slice ax La.length cx] 31))
          replace sx := sx.below (al_b _ (.cells #[.bool ga, .slice ax La.length cx] 31))
          replace bel := bel_al bel (.cells #[.bool ga, .slice ax La.length cx] 31)
          have Bu := R2.new w4 (.bool ga) (.slice ax La.length cx) 31
          obtain ⟨ku0, ku1, -, -⟩ := id Bu
          go_wp2_with fail
          refine (UY.out _ T.t.s.f).mono ?_
          rintro r w5 ⟨ay, cy, rfl, oy, hb⟩
          clear ku0 ku1
          replace bel := bel_go bel hb
          replace T := T.below hb
          replace sx := sx.below hb
          replace Bu := Bu.below hb
          clear hb
          have sy := oy.sl
          clear oy
          replace T := T.below (al_b _ (.cells #[.bool gb, .slice ay Lb.length cy] 31))
          replace sx := sx.below (al_b _ (.cells #[.bool gb, .slice ay Lb.length cy] 31))
          replace Bu := Bu.below (al_b _ (.cells #[.bool gb, .slice ay Lb.length cy] 31))
          replace sy := sy.below (al_b _ (.cells #[.bool gb, .slice ay Lb.length cy] 31))
          replace bel := bel_al bel (.cells #[.bool gb, .slice ay Lb.length cy] 31)
          have Bv := R2.new w5 (.bool gb) (.slice ay Lb.length cy) 31
          obtain ⟨ku0, ku1, -, -⟩ := id Bu
          obtain ⟨kv0, kv1, -, -⟩ := id Bv
          go_wp2
          all_goals go_ret
          all_goals exact ⟨rfl, bel⟩
        · subst hg
          have hgg : (ga != ga) = false := by simp
          have hgg2 : (ga == ga) = true := by simp
          go_wp2_with fail
          refine (SI.out _ T).mono ?_
          rintro r w2 ⟨rfl, hb⟩
          replace bel := bel_go bel hb
          replace T := T.below hb
          clear hb
          go_wp2_with fail
          refine (SS.out _).mono ?_
          rintro r w3 ⟨rfl, hb⟩
          replace bel := bel_go bel hb
          replace T := T.below hb
          clear hb
          go_wp2_with fail
          refine (UX.out _ T.t.s.f).mono ?_
          rintro r w4 ⟨ax, cx, rfl, ox, hb⟩
          replace bel := bel_go bel hb
          replace T := T.below hb
          clear hb
          have sx := ox.sl
          clear ox
          replace T := T.below (al_b _ (.cells #[.bool ga, .slice ax La.length cx] 31))
          replace sx := sx.below (al_b _ (.cells #[.bool ga, .slice ax La.length cx] 31))
          replace bel := bel_al bel (.cells #[.bool ga, .slice ax La.length cx] 31)
          have Bu := R2.new w4 (.bool ga) (.slice ax La.length cx) 31
          obtain ⟨ku0, ku1, -, -⟩ := id Bu
          go_wp2_with fail
          refine (UY.out _ T.t.s.f).mono ?_
          rintro r w5 ⟨ay, cy, rfl, oy, hb⟩
          clear ku0 ku1
          replace bel := bel_go bel hb
          replace T := T.below hb
          replace sx := sx.below hb
          replace Bu := Bu.below hb
          clear hb
          have sy := oy.sl
          clear oy
          replace T := T.below (al_b _ (.cells #[.bool ga, .slice ay Lb.length cy] 31))
          replace sx := sx.below (al_b _ (.cells #[.bool ga, .slice ay Lb.length cy] 31))
          replace Bu := Bu.below (al_b _ (.cells #[.bool ga, .slice ay Lb.length cy] 31))
          replace sy := sy.below (al_b _ (.cells #[.bool ga, .slice ay Lb.length cy] 31))
          replace bel := bel_al bel (.cells #[.bool ga, .slice ay Lb.length cy] 31)
          have Bv := R2.new w5 (.bool ga) (.slice ay Lb.length cy) 31
          obtain ⟨ku0, ku1, -, -⟩ := id Bu
          obtain ⟨kv0, kv1, -, -⟩ := id Bv
          go_wp2_with fail
          refine (mag_w ga ax La.length cx _).mono ?_
          rintro r w6 ⟨rfl, hb⟩
          clear ku0 ku1 kv0 kv1
          replace bel := bel_go bel hb
          replace T := T.below hb
          replace sx := sx.below hb
          replace Bu := Bu.below hb
          replace sy := sy.below hb
          replace Bv := Bv.below hb
          clear hb
          obtain ⟨ku0, ku1, -, -⟩ := id Bu
          obtain ⟨kv0, kv1, -, -⟩ := id Bv
          go_wp2_with fail
          refine (PX.out ax cx _ sx).mono ?_
          rintro r w7 ⟨ap, cp, rfl, op, hb⟩
          clear ku0 ku1 kv0 kv1
          replace bel := bel_go bel hb
          replace T := T.below hb
          replace sx := sx.below hb
          replace Bu := Bu.below hb
          replace sy := sy.below hb
          replace Bv := Bv.below hb
          clear hb
          have sp := op.sl
          clear op
          replace T := T.below (al_b _ (.cells #[.bool false, .slice ap Lp.length cp] 31))
          replace sx := sx.below (al_b _ (.cells #[.bool false, .slice ap Lp.length cp] 31))
          replace Bu := Bu.below (al_b _ (.cells #[.bool false, .slice ap Lp.length cp] 31))
          replace sy := sy.below (al_b _ (.cells #[.bool false, .slice ap Lp.length cp] 31))
          replace Bv := Bv.below (al_b _ (.cells #[.bool false, .slice ap Lp.length cp] 31))
          replace sp := sp.below (al_b _ (.cells #[.bool false, .slice ap Lp.length cp] 31))
          replace bel := bel_al bel (.cells #[.bool false, .slice ap Lp.length cp] 31)
          have Bp := R2.new w7 (.bool false) (.slice ap Lp.length cp) 31
          obtain ⟨ku0, ku1, -, -⟩ := id Bu
          obtain ⟨kv0, kv1, -, -⟩ := id Bv
          obtain ⟨kp0, kp1, -, -⟩ := id Bp
          go_wp2_with fail
          refine (mag_w ga ay Lb.length cy _).mono ?_
          rintro r w8 ⟨rfl, hb⟩
          clear ku0 ku1 kv0 kv1 kp0 kp1
          replace bel := bel_go bel hb
          replace T := T.below hb
          replace sx := sx.below hb
          replace Bu := Bu.below hb
          replace sy := sy.below hb
          replace Bv := Bv.below hb
          replace sp := sp.below hb
          replace Bp := Bp.below hb
          clear hb
          obtain ⟨ku0, ku1, -, -⟩ := id Bu
          obtain ⟨kv0, kv1, -, -⟩ := id Bv
          obtain ⟨kp0, kp1, -, -⟩ := id Bp
          go_wp2_with fail
          refine (PY.out ay cy _ sy).mono ?_
          rintro r w9 ⟨aq, cq, rfl, oq, hb⟩
          clear ku0 ku1 kv0 kv1 kp0 kp1
          replace bel := bel_go bel hb
          replace T := T.below hb
          replace sx := sx.below hb
          replace Bu := Bu.below hb
          replace sy := sy.below hb
          replace Bv := Bv.below hb
          replace sp := sp.below hb
          replace Bp := Bp.below hb
          clear hb
          have sq := oq.sl
          clear oq
          replace T := T.below (al_b _ (.cells #[.bool false, .slice aq Lq.length cq] 31))
          replace sx := sx.below (al_b _ (.cells #[.bool false, .slice aq Lq.length cq] 31))
          replace Bu := Bu.below (al_b _ (.cells #[.bool false, .slice aq Lq.length cq] 31))
          replace sy := sy.below (al_b _ (.cells #[.bool false, .slice aq Lq.length cq] 31))
          replace Bv := Bv.below (al_b _ (.cells #[.bool false, .slice aq Lq.length cq] 31))
          replace sp := sp.below (al_b _ (.cells #[.bool false, .slice aq Lq.length cq] 31))
          replace Bp := Bp.below (al_b _ (.cells #[.bool false, .slice aq Lq.length cq] 31))
          replace sq := sq.below (al_b _ (.cells #[.bool false, .slice aq Lq.length cq] 31))
          replace bel := bel_al bel (.cells #[.bool false, .slice aq Lq.length cq] 31)
          have Bq := R2.new w9 (.bool false) (.slice aq Lq.length cq) 31
          go_upto_region 12 with fail
          generalize (w9.alloc (.cells #[.bool false, .slice aq Lq.length cq] 31)) = W at bel T Bu Bv Bp Bq sx sy sp sq ⊢
          by_cases h1 : k1 < 0
          · have h1' : decide (k1 < 0) = true := decide_eq_true h1
            have belR := Below.drew (Below.refl W.heap.size W)
            refine wp_region_held_drew (S := fun w' => (w'.cell? ⟨w4.heap.size, 0, none⟩ = some (.bool ga) ∧ w'.cell? ⟨w4.heap.size, 1, none⟩ = some (.slice ax La.length cx)) ∧ (w'.cell? ⟨w5.heap.size, 0, none⟩ = some (.bool ga) ∧ w'.cell? ⟨w5.heap.size, 1, none⟩ = some (.slice ay Lb.length cy)) ∧ (w'.cell? ⟨w7.heap.size, 0, none⟩ = some (.bool false) ∧ w'.cell? ⟨w7.heap.size, 1, none⟩ = some (.slice ap Lp.length cp)) ∧ (w'.cell? ⟨w9.heap.size, 0, none⟩ = some (.bool false) ∧ w'.cell? ⟨w9.heap.size, 1, none⟩ = some (.slice aq Lq.length cq))) (by kernel_rfl) ?_ (fun hHeld => ?_)
            · exact ⟨⟨(Bu).c0, (Bu).c1⟩, ⟨(Bv).c0, (Bv).c1⟩, ⟨(Bp).c0, (Bp).c1⟩, ⟨(Bq).c0, (Bq).c1⟩⟩
            generalize W.drew = v0 at belR hHeld ⊢
            refine tk 0 ?_ rfl (Or.inl ⟨by rfl, ?_⟩) ?_
            rotate_left
            · (intro w hSw; (try dsimp only at hSw); obtain ⟨⟨hS0, hS1⟩, ⟨hS2, hS3⟩, ⟨hS4, hS5⟩, hS6, hS7⟩ := hSw; go_simp; try (with_reducible rfl))
            try simp only [Act.put, Ls]
            refine tk 1 ?_ rfl (Or.inl ⟨by rfl, ?_⟩) ?_
            rotate_left
            · (intro w hSw; (try dsimp only at hSw); obtain ⟨⟨hS0, hS1⟩, ⟨hS2, hS3⟩, ⟨hS4, hS5⟩, hS6, hS7⟩ := hSw; go_simp; try (with_reducible rfl))
            try simp only [Act.put, Ls]
            refine rdy 2 rfl (fun K hK => ?_)
            go_simp
            go_at_call 21
            refine (mag_w ga ay Lb.length cy _).mono ?_
            rintro r v1 ⟨rfl, hb'⟩
            have hz' := belR.size
            replace belR := bel_go belR hb'
            clear hb' hz'
            refine hK.out _ _ ?_ (fun hHeld => ?_)
            · exact ⟨⟨(Bu.below belR).c0, (Bu.below belR).c1⟩, ⟨(Bv.below belR).c0, (Bv.below belR).c1⟩, ⟨(Bp.below belR).c0, (Bp.below belR).c1⟩, ⟨(Bq.below belR).c0, (Bq.below belR).c1⟩⟩
            clear hK K
            try simp only [Act.put, Ls]
            refine rdy 3 rfl (fun K hK => ?_)
            go_simp
            go_at_call 22
            refine (C1.out ap ay cp cy _ (sp.below belR) (sy.below belR)).mono ?_
            rintro r v2 ⟨rfl, hb'⟩
            have hz' := belR.size
            replace belR := bel_go belR hb'
            clear hb' hz'
            refine hK.out _ _ ?_ (fun hHeld => ?_)
            · exact ⟨⟨(Bu.below belR).c0, (Bu.below belR).c1⟩, ⟨(Bv.below belR).c0, (Bv.below belR).c1⟩, ⟨(Bp.below belR).c0, (Bp.below belR).c1⟩, ⟨(Bq.below belR).c0, (Bq.below belR).c1⟩⟩
            clear hK K
            try simp only [Act.put, Ls]
            refine tk 4 ?_ rfl (Or.inl ⟨by rfl, ?_⟩) ?_
            rotate_left
            · (intro w hSw; go_simp; try (with_reducible rfl))
            try simp only [Act.put, Ls]
            try rw [h1']
            refine tk 5 ?_ rfl (Or.inl ⟨by rfl, ?_⟩) ?_
            rotate_left
            · (intro w hSw; go_simp; try (with_reducible rfl))
            try simp only [Act.put, Ls]
            refine tk 6 undef rfl (Or.inr ⟨by rfl, rfl⟩) ?_
            try simp only [Act.put, Ls]
            refine tk 7 undef rfl (Or.inr ⟨by rfl, rfl⟩) ?_
            try simp only [Act.put, Ls]
            refine tk 8 undef rfl (Or.inr ⟨by rfl, rfl⟩) ?_
            try simp only [Act.put, Ls]
            refine tk 9 undef rfl (Or.inr ⟨by rfl, rfl⟩) ?_
            try simp only [Act.put, Ls]
            refine tk 10 undef rfl (Or.inr ⟨by rfl, rfl⟩) ?_
            try simp only [Act.put, Ls]
            refine tk 11 ?_ rfl (Or.inl ⟨by rfl, ?_⟩) ?_
            rotate_left
            · (intro w hSw; go_simp; try (with_reducible rfl))
            try simp only [Act.put, Ls]
            refine wpAnyH_done (by kernel_rfl) ?_ _
            replace bel := bel.trans (belR.mono bel.size)
            clear belR
            go_wp2
            all_goals go_ret
            all_goals exact ⟨rfl, bel⟩
          · have h1' : decide (k1 < 0) = false := decide_eq_false h1
            by_cases h2 : k2 < 0
            · have h2' : decide (k2 < 0) = true := decide_eq_true h2
              have belR := Below.drew (Below.refl W.heap.size W)
              refine wp_region_held_drew (S := fun w' => (w'.cell? ⟨w4.heap.size, 0, none⟩ = some (.bool ga) ∧ w'.cell? ⟨w4.heap.size, 1, none⟩ = some (.slice ax La.length cx)) ∧ (w'.cell? ⟨w5.heap.size, 0, none⟩ = some (.bool ga) ∧ w'.cell? ⟨w5.heap.size, 1, none⟩ = some (.slice ay Lb.length cy)) ∧ (w'.cell? ⟨w7.heap.size, 0, none⟩ = some (.bool false) ∧ w'.cell? ⟨w7.heap.size, 1, none⟩ = some (.slice ap Lp.length cp)) ∧ (w'.cell? ⟨w9.heap.size, 0, none⟩ = some (.bool false) ∧ w'.cell? ⟨w9.heap.size, 1, none⟩ = some (.slice aq Lq.length cq))) (by kernel_rfl) ?_ (fun hHeld => ?_)
              · exact ⟨⟨(Bu).c0, (Bu).c1⟩, ⟨(Bv).c0, (Bv).c1⟩, ⟨(Bp).c0, (Bp).c1⟩, ⟨(Bq).c0, (Bq).c1⟩⟩
              generalize W.drew = v0 at belR hHeld ⊢
              refine tk 0 ?_ rfl (Or.inl ⟨by rfl, ?_⟩) ?_
              rotate_left
              · (intro w hSw; (try dsimp only at hSw); obtain ⟨⟨hS0, hS1⟩, ⟨hS2, hS3⟩, ⟨hS4, hS5⟩, hS6, hS7⟩ := hSw; go_simp; try (with_reducible rfl))
              try simp only [Act.put, Ls]
              refine tk 1 ?_ rfl (Or.inl ⟨by rfl, ?_⟩) ?_
              rotate_left
              · (intro w hSw; (try dsimp only at hSw); obtain ⟨⟨hS0, hS1⟩, ⟨hS2, hS3⟩, ⟨hS4, hS5⟩, hS6, hS7⟩ := hSw; go_simp; try (with_reducible rfl))
              try simp only [Act.put, Ls]
              refine rdy 2 rfl (fun K hK => ?_)
              go_simp
              go_at_call 21
              refine (mag_w ga ay Lb.length cy _).mono ?_
              rintro r v1 ⟨rfl, hb'⟩
              have hz' := belR.size
              replace belR := bel_go belR hb'
              clear hb' hz'
              refine hK.out _ _ ?_ (fun hHeld => ?_)
              · exact ⟨⟨(Bu.below belR).c0, (Bu.below belR).c1⟩, ⟨(Bv.below belR).c0, (Bv.below belR).c1⟩, ⟨(Bp.below belR).c0, (Bp.below belR).c1⟩, ⟨(Bq.below belR).c0, (Bq.below belR).c1⟩⟩
              clear hK K
              try simp only [Act.put, Ls]
              refine rdy 3 rfl (fun K hK => ?_)
              go_simp
              go_at_call 22
              refine (C1.out ap ay cp cy _ (sp.below belR) (sy.below belR)).mono ?_
              rintro r v2 ⟨rfl, hb'⟩
              have hz' := belR.size
              replace belR := bel_go belR hb'
              clear hb' hz'
              refine hK.out _ _ ?_ (fun hHeld => ?_)
              · exact ⟨⟨(Bu.below belR).c0, (Bu.below belR).c1⟩, ⟨(Bv.below belR).c0, (Bv.below belR).c1⟩, ⟨(Bp.below belR).c0, (Bp.below belR).c1⟩, ⟨(Bq.below belR).c0, (Bq.below belR).c1⟩⟩
              clear hK K
              try simp only [Act.put, Ls]
              refine tk 4 ?_ rfl (Or.inl ⟨by rfl, ?_⟩) ?_
              rotate_left
              · (intro w hSw; go_simp; try (with_reducible rfl))
              try simp only [Act.put, Ls]
              try rw [h1']
              refine tk 5 ?_ rfl (Or.inl ⟨by rfl, ?_⟩) ?_
              rotate_left
              · (intro w hSw; go_simp; try (with_reducible rfl))
              try simp only [Act.put, Ls]
              refine tk 6 ?_ rfl (Or.inl ⟨by rfl, ?_⟩) ?_
              rotate_left
              · (intro w hSw; (try dsimp only at hSw); obtain ⟨⟨hS0, hS1⟩, ⟨hS2, hS3⟩, ⟨hS4, hS5⟩, hS6, hS7⟩ := hSw; go_simp; try (with_reducible rfl))
              try simp only [Act.put, Ls]
              refine tk 7 ?_ rfl (Or.inl ⟨by rfl, ?_⟩) ?_
              rotate_left
              · (intro w hSw; (try dsimp only at hSw); obtain ⟨⟨hS0, hS1⟩, ⟨hS2, hS3⟩, ⟨hS4, hS5⟩, hS6, hS7⟩ := hSw; go_simp; try (with_reducible rfl))
              try simp only [Act.put, Ls]
              refine rdy 8 rfl (fun K hK => ?_)
              go_simp
              go_at_call 21
              refine (mag_w ga ax La.length cx _).mono ?_
              rintro r v3 ⟨rfl, hb'⟩
              have hz' := belR.size
              replace belR := bel_go belR hb'
              clear hb' hz'
              refine hK.out _ _ ?_ (fun hHeld => ?_)
              · exact ⟨⟨(Bu.below belR).c0, (Bu.below belR).c1⟩, ⟨(Bv.below belR).c0, (Bv.below belR).c1⟩, ⟨(Bp.below belR).c0, (Bp.below belR).c1⟩, ⟨(Bq.below belR).c0, (Bq.below belR).c1⟩⟩
              clear hK K
              try simp only [Act.put, Ls]
              refine rdy 9 rfl (fun K hK => ?_)
              go_simp
              go_at_call 22
              refine (C2.out aq ax cq cx _ (sq.below belR) (sx.below belR)).mono ?_
              rintro r v4 ⟨rfl, hb'⟩
              have hz' := belR.size
              replace belR := bel_go belR hb'
              clear hb' hz'
              refine hK.out _ _ ?_ (fun hHeld => ?_)
              · exact ⟨⟨(Bu.below belR).c0, (Bu.below belR).c1⟩, ⟨(Bv.below belR).c0, (Bv.below belR).c1⟩, ⟨(Bp.below belR).c0, (Bp.below belR).c1⟩, ⟨(Bq.below belR).c0, (Bq.below belR).c1⟩⟩
              clear hK K
              try simp only [Act.put, Ls]
              refine tk 10 ?_ rfl (Or.inl ⟨by rfl, ?_⟩) ?_
              rotate_left
              · (intro w hSw; go_simp; try (with_reducible rfl))
              try simp only [Act.put, Ls]
              try rw [h2']
              refine tk 11 ?_ rfl (Or.inl ⟨by rfl, ?_⟩) ?_
              rotate_left
              · (intro w hSw; go_simp; try (with_reducible rfl))
              try simp only [Act.put, Ls]
              refine wpAnyH_done (by kernel_rfl) ?_ _
              replace bel := bel.trans (belR.mono bel.size)
              clear belR
              go_wp2
              all_goals go_ret
              all_goals exact ⟨rfl, bel⟩
            · have h2' : decide (k2 < 0) = false := decide_eq_false h2
              have belR := Below.drew (Below.refl W.heap.size W)
              refine wp_region_held_drew (S := fun w' => (w'.cell? ⟨w4.heap.size, 0, none⟩ = some (.bool ga) ∧ w'.cell? ⟨w4.heap.size, 1, none⟩ = some (.slice ax La.length cx)) ∧ (w'.cell? ⟨w5.heap.size, 0, none⟩ = some (.bool ga) ∧ w'.cell? ⟨w5.heap.size, 1, none⟩ = some (.slice ay Lb.length cy)) ∧ (w'.cell? ⟨w7.heap.size, 0, none⟩ = some (.bool false) ∧ w'.cell? ⟨w7.heap.size, 1, none⟩ = some (.slice ap Lp.length cp)) ∧ (w'.cell? ⟨w9.heap.size, 0, none⟩ = some (.bool false) ∧ w'.cell? ⟨w9.heap.size, 1, none⟩ = some (.slice aq Lq.length cq))) (by kernel_rfl) ?_ (fun hHeld => ?_)
              · exact ⟨⟨(Bu).c0, (Bu).c1⟩, ⟨(Bv).c0, (Bv).c1⟩, ⟨(Bp).c0, (Bp).c1⟩, ⟨(Bq).c0, (Bq).c1⟩⟩
              generalize W.drew = v0 at belR hHeld ⊢
              refine tk 0 ?_ rfl (Or.inl ⟨by rfl, ?_⟩) ?_
              rotate_left
              · (intro w hSw; (try dsimp only at hSw); obtain ⟨⟨hS0, hS1⟩, ⟨hS2, hS3⟩, ⟨hS4, hS5⟩, hS6, hS7⟩ := hSw; go_simp; try (with_reducible rfl))
              try simp only [Act.put, Ls]
              refine tk 1 ?_ rfl (Or.inl ⟨by rfl, ?_⟩) ?_
              rotate_left
              · (intro w hSw; (try dsimp only at hSw); obtain ⟨⟨hS0, hS1⟩, ⟨hS2, hS3⟩, ⟨hS4, hS5⟩, hS6, hS7⟩ := hSw; go_simp; try (with_reducible rfl))
              try simp only [Act.put, Ls]
              refine rdy 2 rfl (fun K hK => ?_)
              go_simp
              go_at_call 21
              refine (mag_w ga ay Lb.length cy _).mono ?_
              rintro r v1 ⟨rfl, hb'⟩
              have hz' := belR.size
              replace belR := bel_go belR hb'
              clear hb' hz'
              refine hK.out _ _ ?_ (fun hHeld => ?_)
              · exact ⟨⟨(Bu.below belR).c0, (Bu.below belR).c1⟩, ⟨(Bv.below belR).c0, (Bv.below belR).c1⟩, ⟨(Bp.below belR).c0, (Bp.below belR).c1⟩, ⟨(Bq.below belR).c0, (Bq.below belR).c1⟩⟩
              clear hK K
              try simp only [Act.put, Ls]
              refine rdy 3 rfl (fun K hK => ?_)
              go_simp
              go_at_call 22
              refine (C1.out ap ay cp cy _ (sp.below belR) (sy.below belR)).mono ?_
              rintro r v2 ⟨rfl, hb'⟩
              have hz' := belR.size
              replace belR := bel_go belR hb'
              clear hb' hz'
              refine hK.out _ _ ?_ (fun hHeld => ?_)
              · exact ⟨⟨(Bu.below belR).c0, (Bu.below belR).c1⟩, ⟨(Bv.below belR).c0, (Bv.below belR).c1⟩, ⟨(Bp.below belR).c0, (Bp.below belR).c1⟩, ⟨(Bq.below belR).c0, (Bq.below belR).c1⟩⟩
              clear hK K
              try simp only [Act.put, Ls]
              refine tk 4 ?_ rfl (Or.inl ⟨by rfl, ?_⟩) ?_
              rotate_left
              · (intro w hSw; go_simp; try (with_reducible rfl))
              try simp only [Act.put, Ls]
              try rw [h1']
              refine tk 5 ?_ rfl (Or.inl ⟨by rfl, ?_⟩) ?_
              rotate_left
              · (intro w hSw; go_simp; try (with_reducible rfl))
              try simp only [Act.put, Ls]
              refine tk 6 ?_ rfl (Or.inl ⟨by rfl, ?_⟩) ?_
              rotate_left
              · (intro w hSw; (try dsimp only at hSw); obtain ⟨⟨hS0, hS1⟩, ⟨hS2, hS3⟩, ⟨hS4, hS5⟩, hS6, hS7⟩ := hSw; go_simp; try (with_reducible rfl))
              try simp only [Act.put, Ls]
              refine tk 7 ?_ rfl (Or.inl ⟨by rfl, ?_⟩) ?_
              rotate_left
              · (intro w hSw; (try dsimp only at hSw); obtain ⟨⟨hS0, hS1⟩, ⟨hS2, hS3⟩, ⟨hS4, hS5⟩, hS6, hS7⟩ := hSw; go_simp; try (with_reducible rfl))
              try simp only [Act.put, Ls]
              refine rdy 8 rfl (fun K hK => ?_)
              go_simp
              go_at_call 21
              refine (mag_w ga ax La.length cx _).mono ?_
              rintro r v3 ⟨rfl, hb'⟩
              have hz' := belR.size
              replace belR := bel_go belR hb'
              clear hb' hz'
              refine hK.out _ _ ?_ (fun hHeld => ?_)
              · exact ⟨⟨(Bu.below belR).c0, (Bu.below belR).c1⟩, ⟨(Bv.below belR).c0, (Bv.below belR).c1⟩, ⟨(Bp.below belR).c0, (Bp.below belR).c1⟩, ⟨(Bq.below belR).c0, (Bq.below belR).c1⟩⟩
              clear hK K
              try simp only [Act.put, Ls]
              refine rdy 9 rfl (fun K hK => ?_)
              go_simp
              go_at_call 22
              refine (C2.out aq ax cq cx _ (sq.below belR) (sx.below belR)).mono ?_
              rintro r v4 ⟨rfl, hb'⟩
              have hz' := belR.size
              replace belR := bel_go belR hb'
              clear hb' hz'
              refine hK.out _ _ ?_ (fun hHeld => ?_)
              · exact ⟨⟨(Bu.below belR).c0, (Bu.below belR).c1⟩, ⟨(Bv.below belR).c0, (Bv.below belR).c1⟩, ⟨(Bp.below belR).c0, (Bp.below belR).c1⟩, ⟨(Bq.below belR).c0, (Bq.below belR).c1⟩⟩
              clear hK K
              try simp only [Act.put, Ls]
              refine tk 10 ?_ rfl (Or.inl ⟨by rfl, ?_⟩) ?_
              rotate_left
              · (intro w hSw; go_simp; try (with_reducible rfl))
              try simp only [Act.put, Ls]
              try rw [h2']
              refine tk 11 ?_ rfl (Or.inl ⟨by rfl, ?_⟩) ?_
              rotate_left
              · (intro w hSw; go_simp; try (with_reducible rfl))
              try simp only [Act.put, Ls]
              refine wpAnyH_done (by kernel_rfl) ?_ _
              replace bel := bel.trans (belR.mono bel.size)
              replace T := T.below belR
              replace Bu := Bu.below belR
              replace Bv := Bv.below belR
              replace sx := sx.below belR
              replace sy := sy.below belR
              clear belR sp sq Bp Bq
              obtain ⟨m1, m2, m3, m4, m5⟩ := MN.out (by simp) (by simp) (by simp) (by simp) (by omega) (by omega)
              have UD := hid (fun w' h => UD.out w' h m2 m3)
              subst m1
              rw [m4, m5] at UD
              clear MN m2 m3 m4 m5
              obtain ⟨gz, h_gz⟩ : ∃ q, q = Nm.wn z := ⟨_, rfl⟩
              obtain ⟨Z, h_Z⟩ : ∃ q, q = Nm.wl z := ⟨_, rfl⟩
              rw [← h_gz, ← h_Z] at UD LE
              rw [← h_Z] at HL
              clear h_gz h_Z
              obtain ⟨ku0, ku1, -, -⟩ := id Bu
              obtain ⟨kv0, kv1, -, -⟩ := id Bv
              go_wp2_with fail
              refine (UD.out _ T.t.s.f).mono ?_
              rintro r w15 ⟨ad, cd, rfl, od, hb⟩
              clear ku0 ku1 kv0 kv1
              replace bel := bel_go bel hb
              replace T := T.below hb
              replace Bu := Bu.below hb
              replace Bv := Bv.below hb
              replace sx := sx.below hb
              replace sy := sy.below hb
              clear hb
              have sd := od.sl
              clear od
              replace T := T.below (al_b _ (.cells #[.bool gz, .slice ad Z.length cd] 31))
              replace Bu := Bu.below (al_b _ (.cells #[.bool gz, .slice ad Z.length cd] 31))
              replace Bv := Bv.below (al_b _ (.cells #[.bool gz, .slice ad Z.length cd] 31))
              replace sx := sx.below (al_b _ (.cells #[.bool gz, .slice ad Z.length cd] 31))
              replace sy := sy.below (al_b _ (.cells #[.bool gz, .slice ad Z.length cd] 31))
              replace sd := sd.below (al_b _ (.cells #[.bool gz, .slice ad Z.length cd] 31))
              replace bel := bel_al bel (.cells #[.bool gz, .slice ad Z.length cd] 31)
              have Bd := R2.new w15 (.bool gz) (.slice ad Z.length cd) 31
              go_upto_region 15 with fail
              generalize (w15.alloc (.cells #[.bool gz, .slice ad Z.length cd] 31)) = W2 at bel T Bu Bv Bd sx sy sd ⊢
              have belR := Below.drew (Below.refl W2.heap.size W2)
              refine wp_region_held_drew (S := fun w' => (w'.cell? ⟨w4.heap.size, 0, none⟩ = some (.bool ga) ∧ w'.cell? ⟨w4.heap.size, 1, none⟩ = some (.slice ax La.length cx)) ∧ (w'.cell? ⟨w5.heap.size, 0, none⟩ = some (.bool ga) ∧ w'.cell? ⟨w5.heap.size, 1, none⟩ = some (.slice ay Lb.length cy)) ∧ (w'.cell? ⟨w15.heap.size, 0, none⟩ = some (.bool gz) ∧ w'.cell? ⟨w15.heap.size, 1, none⟩ = some (.slice ad Z.length cd))) (by kernel_rfl) ?_ (fun hHeld => ?_)
              · exact ⟨⟨(Bu).c0, (Bu).c1⟩, ⟨(Bv).c0, (Bv).c1⟩, ⟨(Bd).c0, (Bd).c1⟩⟩
              generalize W2.drew = v0 at belR hHeld ⊢
              refine tk 0 ?_ rfl (Or.inl ⟨by rfl, ?_⟩) ?_
              rotate_left
              · (intro w hSw; go_simp; try (with_reducible rfl))
              try simp only [Act.put, Ls]
              refine tk 1 ?_ rfl (Or.inl ⟨by rfl, ?_⟩) ?_
              rotate_left
              · (intro w hSw; go_simp; try (with_reducible rfl))
              try simp only [Act.put, Ls]
              refine tk 2 ?_ rfl (Or.inl ⟨by rfl, ?_⟩) ?_
              rotate_left
              · (intro w hSw; go_simp; try (with_reducible rfl))
              try simp only [Act.put, Ls]
              refine tk 3 ?_ rfl (Or.inl ⟨by rfl, ?_⟩) ?_
              rotate_left
              · (intro w hSw; go_simp; try (with_reducible rfl))
              try simp only [Act.put, Ls]
              refine tk 4 ?_ rfl (Or.inl ⟨by rfl, ?_⟩) ?_
              rotate_left
              · (intro w hSw; go_simp; try (with_reducible rfl))
              try simp only [Act.put, Ls]
              refine tk 5 ?_ rfl (Or.inl ⟨by rfl, ?_⟩) ?_
              rotate_left
              · (intro w hSw; go_simp; try (with_reducible rfl))
              try simp only [Act.put, Ls]
              refine tk 6 ?_ rfl (Or.inl ⟨by rfl, ?_⟩) ?_
              rotate_left
              · (intro w hSw; (try dsimp only at hSw); obtain ⟨⟨hS0, hS1⟩, ⟨hS2, hS3⟩, hS4, hS5⟩ := hSw; go_simp; try (with_reducible rfl))
              try simp only [Act.put, Ls]
              refine tk 7 ?_ rfl (Or.inl ⟨by rfl, ?_⟩) ?_
              rotate_left
              · (intro w hSw; (try dsimp only at hSw); obtain ⟨⟨hS0, hS1⟩, ⟨hS2, hS3⟩, hS4, hS5⟩ := hSw; go_simp; try (with_reducible rfl))
              try simp only [Act.put, Ls]
              refine tk 8 ?_ rfl (Or.inl ⟨by rfl, ?_⟩) ?_
              rotate_left
              · (intro w hSw; (try dsimp only at hSw); obtain ⟨⟨hS0, hS1⟩, ⟨hS2, hS3⟩, hS4, hS5⟩ := hSw; go_simp; try (with_reducible rfl))
              try simp only [Act.put, Ls]
              refine rdy 9 rfl (fun K hK => ?_)
              go_simp
              go_at_call 24
              refine (LE.out ax ay cx cy _ (sx.below belR) (sy.below belR)).mono ?_
              rintro r v1 ⟨a8, c8, rfl, s8, hb'⟩
              have hz' := belR.size
              replace belR := bel_go belR hb'
              clear hb' hz'
              refine hK.out _ _ ?_ (fun hHeld => ?_)
              · exact ⟨⟨(Bu.below belR).c0, (Bu.below belR).c1⟩, ⟨(Bv.below belR).c0, (Bv.below belR).c1⟩, ⟨(Bd.below belR).c0, (Bd.below belR).c1⟩⟩
              clear hK K
              try simp only [Act.put, Ls]
              refine rdy 10 rfl (fun K hK => ?_)
              go_simp
              go_at_call 23
              refine (same_yes gz ad a8 cd c8 Z _ (sd.below belR) s8 HL).mono ?_
              rintro r v2 ⟨rfl, hb'⟩
              have hz' := belR.size
              replace belR := bel_go belR hb'
              clear hb' hz'
              refine hK.out _ _ ?_ (fun hHeld => ?_)
              · exact ⟨⟨(Bu.below belR).c0, (Bu.below belR).c1⟩, ⟨(Bv.below belR).c0, (Bv.below belR).c1⟩, ⟨(Bd.below belR).c0, (Bd.below belR).c1⟩⟩
              clear hK K
              try simp only [Act.put, Ls]
              refine tk 11 ?_ rfl (Or.inl ⟨by rfl, ?_⟩) ?_
              rotate_left
              · (intro w hSw; go_simp; try (with_reducible rfl))
              try simp only [Act.put, Ls]
              refine rdy 12 rfl (fun K hK => ?_)
              go_simp
              refine hK.out _ _ ?_ (fun hHeld => ?_)
              · exact ⟨⟨(Bu.below belR).c0, (Bu.below belR).c1⟩, ⟨(Bv.below belR).c0, (Bv.below belR).c1⟩, ⟨(Bd.below belR).c0, (Bd.below belR).c1⟩⟩
              clear hK K
              try simp only [Act.put, Ls]
              refine wpAnyH_done (by kernel_rfl) ?_ _
              replace bel := bel.trans (belR.mono bel.size)
              clear belR
              go_wp2
              all_goals go_ret
              all_goals exact ⟨rfl, bel⟩
theorem nslaw_all (ca : Option Addr) (cc : Nat) (cs : List Int) (w : World) (hT : EX3 w) (hs : Sl .u8 w (.slice ca cs.length cc) cs) (hby : ∀ i, 0 ≤ cs.getD i 0 ∧ cs.getD i 0 ≤ 255) :
    Calls Tryz.prog 3 #[.slice ca cs.length cc] w fun e w' => e = .returned (.bool true) ∧ Below w.heap.size w w' := by
  by_cases h : cs.length ≤ 1048576
  · exact nslaw ca cc cs w hT hs hby h
  · have hn : cs.length ≤ 9223372036854775807 := by obtain ⟨_, h1, h2, _⟩ := hs.cells; unfold maxLen at h2; omega
    have CB := hid (big_any ca cs.length cc w hn true (by simp; omega))
    clear hs hby h hn
    go_enter Tryz.func3, Tryz.ntmps3
    go_wp2_with fail
    refine CB.out.mono ?_
    rintro e w0 ⟨rfl, rfl⟩
    go_wp2
    go_ret
    exact ⟨rfl, Below.refl _ _⟩
end Fd
end Go.Proofs.YtmcflggionkhlaaGreatDoor
