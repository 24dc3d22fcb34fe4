/-
  What is needed of ZFn.
-/
import Derived.Test.YtmcflggionkhlaaGreatDoorF55
set_option maxHeartbeats 16000000
set_option maxRecDepth 1000000
namespace Go.Proofs.YtmcflggionkhlaaGreatDoor
set_option linter.unusedVariables false
set_option linter.unusedSimpArgs false
open Go.RowKit Go.Deep
namespace Fd
def oneF (fm : Int) : Int := if fm = 32 then 1065353216 else 4607182418800017408
theorem one_facts {fm : Int} (hfm : fmtB fm = true) : (okF fm (oneF fm) = true ∧ finB fm (oneF fm) = true ∧ nI fm (oneF fm) = false ∧ nanB fm (oneF fm) = false ∧ nB fm (oneF fm) = false) ∧ sigB fm (oneF fm) = false ∧ zF fm (oneF fm) = false ∧ unI fm (oneF fm) = 2 ^ (-unQ fm).toNat ∧ 0 ≤ oneF fm ∧ oneF fm < 18446744073709551616 := by
  rcases fmt_cases hfm with rfl | rfl <;> decide +kernel
theorem one_ex {fm : Int} (hfm : fmtB fm = true) : EfB fm (Nm.wn 1) (Nm.wl 1) 0 = oneF fm := by
  rcases fmt_cases hfm with rfl | rfl <;> decide +kernel
theorem inf_facts {fm : Int} (hfm : fmtB fm = true) (g : Bool) : nI fm (sgn (sgOf fm) (infOf fm) g) = true ∧ nI fm (sgn (sgOf fm) 0 g) = false ∧ sigB fm (sgn (sgOf fm) 0 g) = g ∧ nanB fm (sgn (sgOf fm) 0 g) = false ∧ nB fm (sgn (sgOf fm) 0 g) = false := by
  rcases fmt_cases hfm with rfl | rfl <;> cases g <;> decide +kernel
theorem neg_lt {fm x : Int} (hx : okF fm x = true) (x0 : 0 ≤ x) (x1 : x < 18446744073709551616) : decide (negF fm x < x) = sigB fm x := by
  rw [Bool.eq_iff_iff, decide_eq_true_eq]
  unfold sigB
  rw [bne_iff_ne]
  rcases okF_cases hx with ⟨rfl, hb⟩ | rfl
  · rw [neg32 hb, abs32 hb]; split <;> omega
  · rw [neg64, abs64]; split <;> omega
theorem inf_is {fm x : Int} (hx : okF fm x = true) (x0 : 0 ≤ x) (x1 : x < 18446744073709551616) (h : nI fm x = true) : sgn (sgOf fm) (infOf fm) (sigB fm x) = x := by
  have h2 := cls_inf hx x0
  have h3 : (cls fm x == 3) = true := h
  rw [h3] at h2
  have h4 : absF fm x = infOf fm := by simpa using h2.symm
  rw [← h4]
  unfold sigB sgn
  rcases okF_cases hx with ⟨rfl, hb⟩ | rfl
  · rw [abs32 hb]
    have : sgOf 32 = 2147483648 := by decide
    rw [this]
    by_cases k : x = x % 2147483648
    · rw [← k]; simp
    · rw [if_pos (by rw [bne_iff_ne]; exact k)]; omega
  · rw [abs64]
    have : sgOf 64 = 9223372036854775808 := by decide
    rw [this]
    by_cases k : x = x % 9223372036854775808
    · rw [← k]; simp
    · rw [if_pos (by rw [bne_iff_ne]; exact k)]; omega
theorem rd_up {fm mode S e : Int} {d : Nat} (hfm : fmtB fm = true) (hm : modeB mode = true) (hS : S ≠ 0) (l1 : (Nm.wl S).length ≤ 200) (l2 : (Nm.wl (S * 2 ^ d)).length ≤ 200) (e0 : -5000 ≤ e) (e1 : e ≤ 5000) (e2 : -5000 ≤ e - d) (e3 : e - d ≤ 5000) :
    RdB fm mode (Nm.wn (S * 2 ^ d)) (Nm.wl (S * 2 ^ d)) (e - d) = RdB fm mode (Nm.wn S) (Nm.wl S) e ∧ RdF fm mode (Nm.wn (S * 2 ^ d)) (Nm.wl (S * 2 ^ d)) (e - d) = RdF fm mode (Nm.wn S) (Nm.wl S) e := by
  have o1 := rdo_any (fm := fm) (mode := mode) (z := S) (e := e) hfm hm l1 (by omega) (by omega)
  have o2 := rdo_any (fm := fm) (mode := mode) (z := S * 2 ^ d) (e := e - d) hfm hm l2 (by omega) (by omega)
  obtain ⟨q1, q2⟩ := Rd_scale fm mode S d e hS o1 o2
  constructor
  · first | exact q1 | exact q1.symm
  · first | exact q2 | exact q2.symm
theorem pp_one {fm x z : Int} (hfm : fmtB fm = true) (hx : okF fm x = true) (fx : finB fm x = true) : ppI fm x (oneF fm) z = (unI fm x + unI fm z) * 2 ^ (-unQ fm).toNat := by
  obtain ⟨⟨k1, k2, -⟩, -, -, ku, -⟩ := one_facts hfm
  have u1 := un_nZ hx fx
  have u2 := un_nZ k1 k2
  have qx := pE_q fx
  have qy := pE_q k2
  rw [← (fin_facts hx fx).2.2.2.1] at qx
  rw [← (fin_facts k1 k2).2.2.2.1] at qy
  unfold ppI
  rw [Int.add_mul]
  congr 1
  rw [← ku, u2, u1, show (nE fm x + nE fm (oneF fm) - 2 * unQ fm).toNat = (nE fm x - unQ fm).toNat + (nE fm (oneF fm) - unQ fm).toNat by omega, Int.pow_add]
  simp only [Int.mul_assoc, Int.mul_left_comm, Int.mul_comm]
theorem ft_one {fm mode x z : Int} (x0 : 0 ≤ x) (x1 : x < 18446744073709551616) (hm : modeB mode = true) (hx : okF fm x = true) (hz : okF fm z = true) :
    ftB fm mode x (oneF fm) z = adB fm mode x z ∧ ftF fm mode x (oneF fm) z = adF fm mode x z := by
  have hfm := ok_fmt hx
  obtain ⟨⟨k1, k2, k3, k4, k5⟩, k6, k7, -⟩ := one_facts hfm
  have hO : ftO fm mode x (oneF fm) z = true := by unfold ftO allB; simp [hm, hx, hz, k1]
  have hM : muO fm mode x z = true := by unfold muO allB; simp [hm, hx, hz]
  have hod : odd2 fm x (oneF fm) = false := by unfold odd2; rw [k3, k7]; simp
  unfold ftB ftF adB adF
  rw [hO, hM, if_pos rfl, if_pos rfl, if_pos rfl, if_pos rfl, k4, k5, hod]
  simp only [Bool.false_or, Bool.or_false]
  cases hn : (nanB fm x || nanB fm z)
  · simp only [Bool.false_eq_true, if_false]
    unfold ftV ftG
    rw [hod, k3]
    simp only [Bool.or_false, Bool.false_eq_true, if_false]
    obtain ⟨nx, nz⟩ : nanB fm x = false ∧ nanB fm z = false := by simpa using hn
    cases ix : nI fm x
    · simp only [Bool.false_eq_true, if_false]
      have fx := (nan_cases hx nx).resolve_right (by rw [ix]; decide)
      unfold aB aF
      rw [ix]
      simp only [Bool.false_and, Bool.false_or, Bool.false_eq_true, if_false]
      cases iz : nI fm z
      · simp only [Bool.false_eq_true, if_false]
        rw [pp_one hfm hx fx, k6]
        have hul := uu_len fm x z
        have hq := unq_bd fm
        have hpl : (Nm.wl ((unI fm x + unI fm z) * 2 ^ (-unQ fm).toNat)).length ≤ 200 := by rw [← pp_one hfm hx fx]; exact pp_len fm x (oneF fm) z
        by_cases hS : unI fm x + unI fm z = 0
        · rw [hS, Int.zero_mul]; simp
        · have hS2 : ¬ (unI fm x + unI fm z) * 2 ^ (-unQ fm).toNat = 0 := fun h => by
            rcases Int.mul_eq_zero.1 h with h' | h'
            · exact hS h'
            · exact absurd h' (Int.ne_of_gt (Int.pow_pos (by decide)))
          rw [if_neg hS, if_neg hS, if_neg hS2, if_neg hS2]
          have h := rd_up (fm := fm) (mode := mode) (S := unI fm x + unI fm z) (e := unQ fm) (d := (-unQ fm).toNat) hfm hm hS hul hpl (by omega) (by omega) (by omega) (by omega)
          rw [show unQ fm - (((-unQ fm).toNat : Nat) : Int) = 2 * unQ fm by omega] at h
          exact h
      · simp only [if_true]; exact ⟨trivial, trivial⟩
    · simp only [if_true]
      have hi : ftI fm x (oneF fm) = x := by unfold ftI; rw [k6, Bool.bne_false]; exact inf_is hx x0 x1 ix
      rw [hi]; exact ⟨rfl, rfl⟩
  · simp only [if_true]; exact ⟨trivial, trivial⟩
theorem ft_zero {fm mode x y : Int} (x0 : 0 ≤ x) (y0 : 0 ≤ y) (hm : modeB mode = true) (hx : okF fm x = true) (hy : okF fm y = true) :
    ftB fm mode x y (sgn (sgOf fm) 0 (sigB fm x != sigB fm y)) = muB fm mode x y ∧ ftF fm mode x y (sgn (sgOf fm) 0 (sigB fm x != sigB fm y)) = muF fm mode x y := by
  have hfm := ok_fmt hx
  obtain ⟨g, hg⟩ : ∃ g, g = (sigB fm x != sigB fm y) := ⟨_, rfl⟩
  rw [← hg]
  obtain ⟨z0, z1, zf, zu⟩ := zun fm hfm g
  obtain ⟨i1, i2, i3, i4, i5⟩ := inf_facts hfm g
  have hzo := (sg_okF hfm g).1
  have hO : ftO fm mode x y (sgn (sgOf fm) 0 g) = true := by unfold ftO allB; simp [hm, hx, hy, hzo]
  have hM : muO fm mode x y = true := by unfold muO allB; simp [hm, hx, hy]
  unfold ftB ftF muB muF
  rw [hO, hM, if_pos rfl, if_pos rfl, if_pos rfl, if_pos rfl, i4, i5]
  simp only [Bool.or_false]
  cases hn : (nanB fm x || nanB fm y)
  · simp only [Bool.false_eq_true, if_false]
    obtain ⟨nx, ny⟩ : nanB fm x = false ∧ nanB fm y = false := by simpa using hn
    unfold ftV ftG mB mF
    have hoi := odd_iz hx hy
    cases hod : odd2 fm x y
    · rw [hod] at hoi
      rw [← hoi]
      simp only [Bool.false_eq_true, if_false]
      have hI : ftI fm x y = sgn (sgOf fm) (infOf fm) g := by unfold ftI; rw [← hg]
      rw [← hg, i3]
      cases hi : (nI fm x || nI fm y)
      · obtain ⟨ix, iy⟩ : nI fm x = false ∧ nI fm y = false := by simpa using hi
        have fx := (nan_cases hx nx).resolve_right (by rw [ix]; decide)
        have fy := (nan_cases hy ny).resolve_right (by rw [iy]; decide)
        have hpp : ppI fm x y (sgn (sgOf fm) 0 g) = nZ fm x * nZ fm y * 2 ^ (nE fm x + nE fm y - 2 * unQ fm).toNat := by unfold ppI; rw [zu, Int.zero_mul, Int.add_zero]
        have hpl := pp_len fm x y (sgn (sgOf fm) 0 g)
        rw [hpp] at hpl
        rw [hpp, i2]
        have hq := unq_bd fm
        have qx := pE_q fx
        have qy := pE_q fy
        rw [← (fin_facts hx fx).2.2.2.1] at qx
        rw [← (fin_facts hy fy).2.2.2.1] at qy
        obtain ⟨-, a0, a1⟩ := nZ_bd fm x
        obtain ⟨-, b0, b1⟩ := nZ_bd fm y
        have hzl := zlen2 hx hy fx fy
        simp only [Bool.false_or, Bool.false_eq_true, if_false]
        by_cases hS : nZ fm x * nZ fm y = 0
        · have hz : (zF fm x || zF fm y) = true := by rw [← hzl, hS]; have : Nm.wl 0 = [] := Nm.lim_zero; rw [this]; rfl
          rw [hz, hS, Int.zero_mul]; simp
        · have hz : (zF fm x || zF fm y) = false := by rw [← hzl, decide_eq_false_iff_not]; unfold Nm.wl; rw [Nm.lim_length_zero]; omega
          have hS2 : ¬ nZ fm x * nZ fm y * 2 ^ (nE fm x + nE fm y - 2 * unQ fm).toNat = 0 := fun h => by
            rcases Int.mul_eq_zero.1 h with h' | h'
            · exact hS h'
            · exact absurd h' (Int.ne_of_gt (Int.pow_pos (by decide)))
          rw [hz, if_neg hS2, if_neg hS2]
          simp only [Bool.false_eq_true, if_false]
          have h := rd_up (fm := fm) (mode := mode) (S := nZ fm x * nZ fm y) (e := nE fm x + nE fm y) (d := (nE fm x + nE fm y - 2 * unQ fm).toNat) hfm hm hS (nZm_len fm x y) hpl (by omega) (by omega) (by omega) (by omega)
          rw [show nE fm x + nE fm y - (((nE fm x + nE fm y - 2 * unQ fm).toNat : Nat) : Int) = 2 * unQ fm by omega] at h
          exact h
      · simp only [if_true, Bool.true_or]
        unfold aB aF
        rw [hI, i1, i2]
        simp
    · rw [hod] at hoi
      rw [← hoi]
      simp only [if_true]; exact ⟨trivial, trivial⟩
  · have hod := odd_nan hx hy x0 y0 hn
    simp only [if_true]
    rw [hod, Bool.or_false]; exact ⟨trivial, rfl⟩
theorem mode_y (rb : Nat) (ca : Option Addr) (cc : Nat) (cs : List Int) (w : World) (hr : RD w rb ca cc cs) :
    Calls Tryz.prog 81 #[.pointer (some ⟨rb, 0, none⟩)] w fun e w' => ∃ v : Int, e = .returned (.int .i64 v) ∧ 0 ≤ v ∧ v < 6 ∧ RD w' rb ca cc cs ∧ w.grownBy w' (some rb) := by
  go_enter Tryz.func81, Tryz.ntmps81
  go_wp2_with fail
  refine (below_any rb ca cc cs 6 _ hr (by decide) (by decide)).mono ?_
  rintro e w1 ⟨v, rfl, v0, v1, hr1, hg1⟩
  go_wp2
  go_ret
  exact ⟨v, rfl, v0, v1, hr1, hg1⟩
theorem res5 {fn : Func} {t u v x y : Tmp} (h : fn.results = #[.tmp t, .tmp u, .tmp v, .tmp x, .tmp y]) (tmps : Array Value) (P : Program) (w : World) :
    (results fn tmps).run P w = .ok (.tuple #[tmps.getD t undef, tmps.getD u undef, tmps.getD v undef, tmps.getD x undef, tmps.getD y undef]) w := by
  simp [results, h]
theorem drawFma_x (ca : Option Addr) (cc : Nat) (cs : List Int) (w : World) (hs : Sl .u8 w (.slice ca cs.length cc) cs) (hby : ∀ i, 0 ≤ cs.getD i 0 ∧ cs.getD i 0 ≤ 255) (hl : cs.length ≤ 1048576) :
    Calls Tryz.prog 25 #[.slice ca cs.length cc] w fun e w' => ∃ fm mode a b c : Int, e = .returned (.tuple #[.int .i64 fm, .int .i64 mode, .int .u64 a, .int .u64 b, .int .u64 c]) ∧ 0 ≤ a ∧ a < 18446744073709551616 ∧ 0 ≤ b ∧ b < 18446744073709551616 ∧ 0 ≤ c ∧ c < 18446744073709551616 ∧ Below w.heap.size w w' := by
  go_enter Tryz.func25, Tryz.ntmps25
  go_wp2_with fail
  refine (open_any ca cc cs _ hs hby hl).mono ?_
  rintro e w1 ⟨rfl, hr1, hb1⟩
  go_wp2_with fail
  refine (some_any w.heap.size ca cc cs _ hr1).mono ?_
  rintro e w2 ⟨fm, x, rfl, x0, x1, hr2, hg2⟩
  have bel := bel_rd hb1 hg2 (Nat.le_refl _)
  clear hb1 hg2
  go_wp2_with fail
  refine (spec_ok fm x _).mono ?_
  rintro e w3 ⟨rfl, hb3⟩
  have hr3 := hr2.below hb3
  replace bel := bel_go bel hb3
  clear hb3 hr2
  cases hok : okF fm x
  · go_wp2
    ((try simp only [Exit.inBlock, Exit.then]); refine bodyPost_ret (res5 rfl _ _ _) rfl ?_)
    exact ⟨fm, 0, x, x, x, rfl, x0, x1, x0, x1, x0, x1, bel⟩
  · have hf := ok_fmt hok
    have NE := hid (fun w' h => near2_x fm hf x hok x0 x1 w.heap.size ca cc cs w' h)
    have CF := hid (fun w' h => float_any fm hf w.heap.size ca cc cs w' h)
    have CS := hid (fun w' => sign_s fm w' hf)
    have CM := hid (fun m y (k : 0 ≤ y ∧ y < 18446744073709551616) w' => mul_spec fm m x y w' x0 x1 k.1 k.2 _ _ _ rfl rfl rfl)
    clear hok hf
    go_wp2_with fail
    refine (NE.out _ hr3).mono ?_
    rintro e w4 ⟨y, rfl, y0, y1, hr4, hg4⟩
    replace bel := bel_rd bel hg4 (Nat.le_refl _)
    clear hr3 hg4 NE
    go_wp2_with fail
    refine (CF.out _ hr4).mono ?_
    rintro e w5 ⟨z, rfl, z0, z1, hr5, hg5⟩
    replace bel := bel_rd bel hg5 (Nat.le_refl _)
    clear hr4 hg5 CF
    go_wp2_with fail
    refine (once_any w.heap.size ca cc cs 2 _ hr5 (by decide) (by decide)).mono ?_
    rintro e w6 ⟨v, rfl, hr6, hg6⟩
    replace bel := bel_rd bel hg6 (Nat.le_refl _)
    clear hr5 hg6
    cases v
    · go_wp2_with fail
      refine (off_z w.heap.size ca cc cs 0 5 _ hr6 (by decide) (by decide) (by decide)).mono ?_
      rintro e w7 ⟨m, rfl, hr7, hg7⟩
      go_wp2
      ((try simp only [Exit.inBlock, Exit.then]); refine bodyPost_ret (res5 rfl _ _ _) rfl ?_)
      exact ⟨fm, m, x, y, z, rfl, x0, x1, y0, y1, z0, z1, bel_rd bel hg7 (Nat.le_refl _)⟩
    · go_wp2_with fail
      refine (mode_y w.heap.size ca cc cs _ hr6).mono ?_
      rintro e w7 ⟨mo, rfl, -, -, hr7, hg7⟩
      replace bel := bel_rd bel hg7 (Nat.le_refl _)
      clear hr6 hg7
      have CM2 := hid (fun w' => CM.out mo y ⟨y0, y1⟩ w')
      obtain ⟨mB, h_mB⟩ : ∃ q, q = muB fm mo x y := ⟨_, rfl⟩
      obtain ⟨mF, h_mF⟩ : ∃ q, q = muF fm mo x y := ⟨_, rfl⟩
      obtain ⟨mO, h_mO⟩ : ∃ q, q = muO fm mo x y := ⟨_, rfl⟩
      rw [← h_mB, ← h_mF, ← h_mO] at CM2
      clear h_mB h_mF h_mO CM
      go_wp2_with fail
      refine (CM2.out _).mono ?_
      rintro e w8 ⟨rfl, hb8⟩
      have hr8 := hr7.below hb8
      replace bel := bel_go bel hb8
      clear hb8 hr7
      obtain ⟨S, h_S⟩ : ∃ q, q = sgOf fm := ⟨_, rfl⟩
      rw [← h_S] at CS
      clear h_S
      go_wp2_with fail
      refine (CS.out _).mono ?_
      rintro e w9 ⟨rfl, hb9⟩
      have hr9 := hr8.below hb9
      replace bel := bel_go bel hb9
      clear hb9 hr8
      have xb := xor_bd mB S
      go_wp2_with fail
      refine (off_z w.heap.size ca cc cs 0 5 _ hr9 (by decide) (by decide) (by decide)).mono ?_
      rintro e wx ⟨m, rfl, hr10, hg10⟩
      go_wp2
      ((try simp only [Exit.inBlock, Exit.then]); refine bodyPost_ret (res5 rfl _ _ _) rfl ?_)
      exact ⟨fm, m, x, y, _, rfl, x0, x1, y0, y1, xb.1, xb.2, bel_rd bel hg10 (Nat.le_refl _)⟩
theorem fmlaw (ca : Option Addr) (cc : Nat) (cs : List Int) (w : World) (hT : EX3 w) (hs : Sl .u8 w (.slice ca cs.length cc) cs) (hby : ∀ i, 0 ≤ cs.getD i 0 ∧ cs.getD i 0 ≤ 255) (hl : cs.length ≤ 1048576) :
    Calls Tryz.prog 4 #[.slice ca cs.length cc] w fun e w' => e = .returned (.bool true) ∧ Below w.heap.size w w' := by
  go_enter Tryz.func4, Tryz.ntmps4
  go_wp2_with fail
  refine (big_any ca cs.length cc _ (by omega) false (by simp; omega)).mono ?_
  rintro r w0 ⟨rfl, rfl⟩
  go_wp2_with fail
  refine (drawFma_x ca cc cs _ hs hby hl).mono ?_
  rintro r w1 ⟨fm, mode, a, b, c, rfl, a0, a1, b0, b1, c0, c1, bel⟩
  obtain ⟨u, T⟩ := hT.below bel
  clear hs hby hl hT
  have FI := hid (fun w' k => ftf_all fm mode a b c u w' k a0 a1 b0 b1 c0 c1 _ _ _ rfl rfl rfl)
  have FS := hid (fun w' => ft_spec fm mode a b c w' a0 a1 b0 b1 c0 c1 _ _ _ rfl rfl rfl)
  cases hO : ftO fm mode a b c
  · rw [hO] at FI FS
    clear a0 a1 b0 b1 c0 c1 hO
    obtain ⟨B, h_B⟩ : ∃ q, q = ftB fm mode a b c := ⟨_, rfl⟩
    obtain ⟨F, h_F⟩ : ∃ q, q = ftF fm mode a b c := ⟨_, rfl⟩
    rw [← h_B, ← h_F] at FI FS
    clear h_B h_F
    have ne_B : (B != B) = false := by simp
    have eq_B : (B == B) = true := by simp
    have ne_F : (F != F) = false := by simp
    have eq_F : (F == F) = true := by simp
    go_wp2_with fail
    refine (FI.out _ T).mono ?_
    rintro r w2 ⟨rfl, hb⟩
    replace bel := bel_go bel hb
    replace T := T.below hb
    clear hb
    go_wp2_with fail
    refine (FS.out _).mono ?_
    rintro r w3 ⟨rfl, hb⟩
    replace bel := bel_go bel hb
    replace T := T.below hb
    clear hb
    go_wp2
    all_goals go_ret
    all_goals exact ⟨rfl, bel⟩
  · obtain ⟨hm, hall⟩ : modeB mode = true ∧ allB fm [a, b, c] = true := by have k : (modeB mode && allB fm [a, b, c]) = true := hO; simpa using k
    obtain ⟨ha, hb, hc⟩ := all3l hall
    have hfm := ok_fmt ha
    obtain ⟨⟨k1, -⟩, -, -, -, k8, k9⟩ := one_facts hfm
    have zz := zun fm hfm (sigB fm a != sigB fm b)
    have hzo := (sg_okF hfm (sigB fm a != sigB fm b)).1
    obtain ⟨e1, e2⟩ := ft_one (z := c) a0 a1 hm ha hc
    obtain ⟨e3, e4⟩ := ft_zero a0 b0 hm ha hb
    have WO := hid (fun w' => wof_impl_false 1 w' (by decide) (by decide) (by decide))
    have EX := hid (fun p cp w' k (k' : Sl .u32 w' (.slice p (Nm.wl 1).length cp) (Nm.wl 1)) => exact_impl fm (Nm.wn 1) (Nm.wl 1) 0 p cp w' k k' (Nm.wl_dg _) (by decide +kernel))
    have F1 := hid (fun w' k => ftf_all fm mode a (oneF fm) c u w' k a0 a1 k8 k9 c0 c1 _ _ _ rfl rfl rfl)
    have A1 := hid (fun w' k => addf_all fm mode a c u w' k a0 a1 c0 c1 _ _ _ rfl rfl rfl)
    have N1 := hid (fun w' k => iNegated fm a w' k a0 a1)
    have N2 := hid (fun w' k => iNegated fm b w' k b0 b1)
    have n1 := neg_lt ha a0 a1
    have n2 := neg_lt hb b0 b1
    have ZO := hid (fun w' k => zero_i fm hfm (sigB fm a != sigB fm b) w' k)
    have F2 := hid (fun w' k => ftf_all fm mode a b (sgn (sgOf fm) 0 (sigB fm a != sigB fm b)) u w' k a0 a1 b0 b1 zz.1 zz.2.1 _ _ _ rfl rfl rfl)
    have M2 := hid (fun w' k => muli_all fm mode a b u w' k a0 a1 b0 b1 _ _ _ rfl rfl rfl)
    rw [one_ex hfm] at EX
    rw [e1, e2] at F1
    rw [e3, e4] at F2
    rw [hO] at FI FS
    clear e1 e2 e3 e4 hm hall ha hb hc hfm k1 k8 k9 zz hzo hO a0 a1 b0 b1 c0 c1
    obtain ⟨B, h_B⟩ : ∃ q, q = ftB fm mode a b c := ⟨_, rfl⟩
    obtain ⟨F, h_F⟩ : ∃ q, q = ftF fm mode a b c := ⟨_, rfl⟩
    obtain ⟨na, h_na⟩ : ∃ q, q = negF fm a := ⟨_, rfl⟩
    obtain ⟨nb, h_nb⟩ : ∃ q, q = negF fm b := ⟨_, rfl⟩
    obtain ⟨ga, h_ga⟩ : ∃ q, q = sigB fm a := ⟨_, rfl⟩
    obtain ⟨gb, h_gb⟩ : ∃ q, q = sigB fm b := ⟨_, rfl⟩
    obtain ⟨Y, h_Y⟩ : ∃ q, q = adB fm mode a c := ⟨_, rfl⟩
    obtain ⟨Yf, h_Yf⟩ : ∃ q, q = adF fm mode a c := ⟨_, rfl⟩
    obtain ⟨Yo, h_Yo⟩ : ∃ q, q = muO fm mode a c := ⟨_, rfl⟩
    obtain ⟨Yp, h_Yp⟩ : ∃ q, q = ftO fm mode a (oneF fm) c := ⟨_, rfl⟩
    obtain ⟨M, h_M⟩ : ∃ q, q = muB fm mode a b := ⟨_, rfl⟩
    obtain ⟨Mf, h_Mf⟩ : ∃ q, q = muF fm mode a b := ⟨_, rfl⟩
    obtain ⟨Mo, h_Mo⟩ : ∃ q, q = muO fm mode a b := ⟨_, rfl⟩
    obtain ⟨z, h_z⟩ : ∃ q, q = sgn (sgOf fm) 0 (sigB fm a != sigB fm b) := ⟨_, rfl⟩
    obtain ⟨Mp, h_Mp⟩ : ∃ q, q = ftO fm mode a b (sgn (sgOf fm) 0 (sigB fm a != sigB fm b)) := ⟨_, rfl⟩
    obtain ⟨one, h_one⟩ : ∃ q, q = oneF fm := ⟨_, rfl⟩
    obtain ⟨eo, h_eo⟩ : ∃ q, q = EfO fm (Nm.wn 1) (Nm.wl 1) 0 := ⟨_, rfl⟩
    obtain ⟨g1, h_g1⟩ : ∃ q, q = Nm.wn 1 := ⟨_, rfl⟩
    obtain ⟨L1, h_L1⟩ : ∃ q, q = Nm.wl 1 := ⟨_, rfl⟩
    rw [← h_B, ← h_F] at FI FS
    rw [← h_na] at N1 n1
    rw [← h_nb] at N2 n2
    rw [← h_Y, ← h_Yf, ← h_Yp, ← h_one] at F1
    rw [← h_Y, ← h_Yf, ← h_Yo] at A1
    rw [← h_M, ← h_Mf, ← h_Mp, ← h_z] at F2
    rw [← h_M, ← h_Mf, ← h_Mo] at M2
    rw [← h_z] at ZO
    rw [← h_eo, ← h_one, ← h_g1, ← h_L1] at EX
    rw [← h_g1, ← h_L1] at WO
    rw [← h_ga] at n1
    rw [← h_gb] at n2
    rw [← h_ga, ← h_gb] at ZO
    clear h_B h_F h_na h_nb h_ga h_gb h_Y h_Yf h_Yo h_Yp h_M h_Mf h_Mo h_z h_Mp h_one h_eo h_g1 h_L1
    have ne_B : (B != B) = false := by simp
    have eq_B : (B == B) = true := by simp
    have ne_F : (F != F) = false := by simp
    have eq_F : (F == F) = true := by simp
    have ne_Y : (Y != Y) = false := by simp
    have eq_Y : (Y == Y) = true := by simp
    have ne_Yf : (Yf != Yf) = false := by simp
    have eq_Yf : (Yf == Yf) = true := by simp
    have ne_M : (M != M) = false := by simp
    have eq_M : (M == M) = true := by simp
    have ne_Mf : (Mf != Mf) = false := by simp
    have eq_Mf : (Mf == Mf) = true := by simp
    go_wp2_with fail
    refine (FI.out _ T).mono ?_
    rintro r w2 ⟨rfl, hb⟩
    replace bel := bel_go bel hb
    replace T := T.below hb
    clear hb
    go_wp2_with fail
    refine (FS.out _).mono ?_
    rintro r w3 ⟨rfl, hb⟩
    replace bel := bel_go bel hb
    replace T := T.below hb
    clear hb
    go_wp2_with fail
    refine (WO.out _).mono ?_
    rintro r w4 ⟨a1, c1, rfl, o1, hb⟩
    replace bel := bel_go bel hb
    replace T := T.below hb
    clear hb
    have s1 := o1.sl
    clear o1
    go_wp2_with fail
    refine (EX.out a1 c1 _ T.t s1).mono ?_
    rintro r w5 ⟨rfl, hb⟩
    replace bel := bel_go bel hb
    replace T := T.below hb
    replace s1 := s1.below hb
    clear hb
    go_wp2_with fail
    refine (F1.out _ T).mono ?_
    rintro r w6 ⟨rfl, hb⟩
    replace bel := bel_go bel hb
    replace T := T.below hb
    replace s1 := s1.below hb
    clear hb
    go_wp2_with fail
    refine (A1.out _ T).mono ?_
    rintro r w7 ⟨rfl, hb⟩
    replace bel := bel_go bel hb
    replace T := T.below hb
    replace s1 := s1.below hb
    clear hb
    go_wp2_with fail
    refine (N1.out _ T.t.s.f).mono ?_
    rintro r w8 ⟨rfl, hb⟩
    replace bel := bel_go bel hb
    replace T := T.below hb
    replace s1 := s1.below hb
    clear hb
    go_wp2_with fail
    refine (N2.out _ T.t.s.f).mono ?_
    rintro r w9 ⟨rfl, hb⟩
    replace bel := bel_go bel hb
    replace T := T.below hb
    replace s1 := s1.below hb
    clear hb
    go_wp2_with fail
    try rw [n1]
    try rw [n2]
    refine (ZO.out _ T.t.s.f).mono ?_
    rintro r w10 ⟨rfl, hb⟩
    replace bel := bel_go bel hb
    replace T := T.below hb
    replace s1 := s1.below hb
    clear hb
    go_wp2_with fail
    refine (F2.out _ T).mono ?_
    rintro r w11 ⟨rfl, hb⟩
    replace bel := bel_go bel hb
    replace T := T.below hb
    replace s1 := s1.below hb
    clear hb
    go_wp2_with fail
    refine (M2.out _ T).mono ?_
    rintro r w12 ⟨rfl, hb⟩
    replace bel := bel_go bel hb
    replace T := T.below hb
    replace s1 := s1.below hb
    clear hb
    go_wp2
    all_goals go_ret
    all_goals exact ⟨rfl, bel⟩
theorem fmlaw_all (ca : Option Addr) (cc : Nat) (cs : List Int) (w : World) (hT : EX3 w) (hs : Sl .u8 w (.slice ca cs.length cc) cs) (hby : ∀ i, 0 ≤ cs.getD i 0 ∧ cs.getD i 0 ≤ 255) :
    Calls Tryz.prog 4 #[.slice ca cs.length cc] w fun e w' => e = .returned (.bool true) ∧ Below w.heap.size w w' := by
  by_cases h : cs.length ≤ 1048576
  · exact fmlaw ca cc cs w hT hs hby h
  · have hn : cs.length ≤ 9223372036854775807 := by obtain ⟨_, h1, h2, _⟩ := hs.cells; unfold maxLen at h2; omega
    have CB := hid (big_any ca cs.length cc w hn true (by simp; omega))
    clear hs hby h hn
    go_enter Tryz.func4, Tryz.ntmps4
    go_wp2_with fail
    refine CB.out.mono ?_
    rintro e w0 ⟨rfl, rfl⟩
    go_wp2
    go_ret
    exact ⟨rfl, Below.refl _ _⟩
end Fd
end Go.Proofs.YtmcflggionkhlaaGreatDoor
