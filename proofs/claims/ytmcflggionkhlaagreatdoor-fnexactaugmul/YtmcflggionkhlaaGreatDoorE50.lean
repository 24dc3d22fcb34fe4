/-
  What is needed of FO, FT, AW, FU, AX.
-/
import Derived.Test.YtmcflggionkhlaaGreatDoorE44
import Derived.Test.YtmcflggionkhlaaGreatDoorE49
set_option maxHeartbeats 16000000
set_option maxRecDepth 1000000
namespace Go.Proofs.YtmcflggionkhlaaGreatDoor
set_option linter.unusedVariables false
set_option linter.unusedSimpArgs false
open Go.RowKit Go.Deep
theorem zlen {fm x : Int} : decide ((Nm.wl (nZ fm x)).length = 0) = decide (nZ fm x = 0) := by
  rw [Bool.eq_iff_iff, decide_eq_true_eq, decide_eq_true_eq]; unfold Nm.wl; rw [Nm.lim_length_zero]; omega
theorem sz_of {fm x : Int} (hx : okF fm x = true) (h : nanB fm x = false) : (!nI fm x && decide ((Nm.wl (nZ fm x)).length = 0)) = zF fm x := by
  rw [zlen]
  rcases nan_cases hx h with hf | hi
  · rw [zF_fin hx hf, (fin_facts hx hf).2.1]; rfl
  · rw [hi, zF_inf hx hi]; rfl
/-- A product that is invalid. -/
def odd2 (fm x y : Int) : Bool := (nI fm x && zF fm y) || (zF fm x && nI fm y)
theorem inf_pos (fm : Int) : 0 < infOf fm := by unfold infOf; split <;> decide
theorem nan_not {fm x : Int} (hx : okF fm x = true) (x0 : 0 ≤ x) (h : nanB fm x = true) : nI fm x = false ∧ zF fm x = false := by
  have h1 : infOf fm < absF fm x := by unfold nanB at h; simpa using h
  have h2 := cls_inf hx x0
  have h3 := inf_pos fm
  constructor
  · show (cls fm x == 3) = false
    rw [← h2, beq_eq_false_iff_ne]; omega
  · unfold zF; rw [beq_eq_false_iff_ne]; omega
theorem odd_nan {fm x y : Int} (hx : okF fm x = true) (hy : okF fm y = true) (x0 : 0 ≤ x) (y0 : 0 ≤ y) (h : (nanB fm x || nanB fm y) = true) : odd2 fm x y = false := by
  rcases Bool.or_eq_true_iff.1 h with h | h
  · obtain ⟨a, b⟩ := nan_not hx x0 h; unfold odd2; rw [a, b]; rfl
  · obtain ⟨a, b⟩ := nan_not hy y0 h; unfold odd2; rw [a, b]; simp
def amX (fm a b : Int) : Int := nZ fm a * nZ fm b * 2 ^ (nE fm a + nE fm b - 2 * unQ fm).toNat
def amB (fm a b : Int) : Int := if muO fm 5 a b then muB fm 5 a b else 0
def amT (fm a b : Int) : Int := if muO fm 5 a b then auT fm (muB fm 5 a b) (amX fm a b) else 0
def amF (fm a b : Int) : Int := if muO fm 5 a b then auF fm (muB fm 5 a b) (muF fm 5 a b) (amX fm a b) else 0
theorem amX_bl (fm a b : Int) : bitLen (amX fm a b).natAbs ≤ 6300 := by
  have h1 : bitLen (nZ fm a * nZ fm b).natAbs ≤ 106 := (Nm.bl_le_iff _ 106).2 (nZm_bd fm a b)
  have h2 := bl_mulp (nZ fm a * nZ fm b) (nE fm a + nE fm b - 2 * unQ fm).toNat
  have hq := unq_bd fm
  obtain ⟨-, a0, a1⟩ := nZ_bd fm a
  obtain ⟨-, b0, b1⟩ := nZ_bd fm b
  unfold amX; omega
/-- A product, of all floats. -/
theorem prod_all (fm mode x y : Int) (u : Value) (x0 : 0 ≤ x) (x1 : x < 18446744073709551616) (y0 : 0 ≤ y) (y1 : y < 18446744073709551616) (ho : muO fm mode x y = true) :
    ∃ (sg inf G : Bool) (L : List Int) (E : Int), ProdAt u fm x y sg inf G L E (nanB fm x || nanB fm y || odd2 fm x y) (nB fm x || nB fm y || odd2 fm x y) ∧ L.length ≤ 200 ∧ Nm.Dg L ∧ -3000 ≤ E ∧ E ≤ 4000 ∧ ((nanB fm x || nanB fm y || odd2 fm x y) = false → sg = (sigB fm x != sigB fm y) ∧ inf = (nI fm x || nI fm y) ∧ (inf = false → finB fm x = true ∧ finB fm y = true ∧ G = Nm.wn (nZ fm x * nZ fm y) ∧ L = Nm.wl (nZ fm x * nZ fm y) ∧ E = nE fm x + nE fm y)) := by
  obtain ⟨hm, ha⟩ : modeB mode = true ∧ allB fm [x, y] = true := by have : (modeB mode && allB fm [x, y]) = true := ho; simpa using this
  obtain ⟨hx, hy⟩ := all2 ha
  have hfm := ok_fmt hx
  have NX := numAt (u := u) hx x0 x1
  have NY := numAt (u := u) hy y0 y1
  cases hn : (nanB fm x || nanB fm y)
  · obtain ⟨nx, ny⟩ : nanB fm x = false ∧ nanB fm y = false := by simpa using hn
    have sx : nS fm x = sigB fm x := by unfold nS; rw [nx]; rfl
    have sy : nS fm y = sigB fm y := by unfold nS; rw [ny]; rfl
    have zx := sz_of hx nx
    have zy := sz_of hy ny
    have bx : nB fm x = false := by
      have := nan_ofE hx; rw [nx] at this
      unfold nB; rw [beq_eq_false_iff_ne]; intro h; rw [h] at this; exact absurd this (by decide)
    have b_y : nB fm y = false := by
      have := nan_ofE hy; rw [ny] at this
      unfold nB; rw [beq_eq_false_iff_ne]; intro h; rw [h] at this; exact absurd this (by decide)
    have hodd : oddB (nI fm x) (decide ((Nm.wl (nZ fm x)).length = 0)) (nI fm y) (decide ((Nm.wl (nZ fm y)).length = 0)) = odd2 fm x y := by
      unfold oddB odd2; rw [zx, zy]
    rw [bx, b_y]
    cases hod : odd2 fm x y
    · rw [hod] at hodd
      cases hi : (nI fm x || nI fm y)
      · obtain ⟨ix, iy⟩ : nI fm x = false ∧ nI fm y = false := by simpa using hi
        have fx := (nan_cases hx nx).resolve_right (by rw [ix]; decide)
        have fy := (nan_cases hy ny).resolve_right (by rw [iy]; decide)
        have b1 := nZ_bd fm x
        have b2 := nZ_bd fm y
        have hl := nZm_len fm x y
        rw [ix] at NX
        rw [iy] at NY
        have hP := prod_num fm x y u _ _ _ _ _ _ _ _ _ _ _ _ _ _ NX NY hn (nS fm x != nS fm y) false (Nm.wn (nZ fm x * nZ fm y)) (Nm.wl (nZ fm x * nZ fm y)) (nE fm x + nE fm y) false false
          (fun Q a1 c1 a2 c2 w hQ h1 h2 => (times_fin (nS fm x) (Nm.wn (nZ fm x)) (Nm.wl (nZ fm x)) (nE fm x) a1 c1 (nS fm y) (Nm.wn (nZ fm y)) (Nm.wl (nZ fm y)) (nE fm y) a2 c2 w (nS fm x != nS fm y) (Nm.wn (nZ fm x * nZ fm y)) (Nm.wl (nZ fm x * nZ fm y)) (nE fm x + nE fm y) rfl rfl (by omega) (by omega) (nZ_len fm x) (nZ_len fm y) h1.sl h2.sl
            (fun w' h1' h2' => mul_ok a1 a2 c1 c2 w' h1' h2' (Nm.wl_dg _) (Nm.wl_dg _) (okB_wl (nZ_len fm x)) (okB_wl (nZ_len fm y)) (nZ fm x * nZ fm y) (by rw [Nm.wv_out, Nm.wv_out]) (by unfold Nm.fits; exact decide_eq_true hl))).mono fun r w' ⟨a, c, hr, ho, hb⟩ => ⟨a, c, _, hr, EK.no, ho.base hQ, hb⟩)
        exact ⟨_, _, _, _, _, hP, hl, Nm.wl_dg _, by omega, by omega, fun _ => ⟨by rw [sx, sy], rfl, fun _ => ⟨fx, fy, rfl, rfl, rfl⟩⟩⟩
      · have hP := prod_num fm x y u _ _ _ _ _ _ _ _ _ _ _ _ _ _ NX NY hn (nS fm x != nS fm y) true false [] 0 false false
          (fun Q a1 c1 a2 c2 w hQ h1 h2 => (times_inf (nS fm x) (nI fm x) (Nm.wn (nZ fm x)) (Nm.wl (nZ fm x)) (nE fm x) a1 c1 (nS fm y) (nI fm y) (Nm.wn (nZ fm y)) (Nm.wl (nZ fm y)) (nE fm y) a2 c2 w (nZ_len fm x) (nZ_len fm y) hodd hi _ rfl).mono fun r w' ⟨hr, hb⟩ => ⟨none, 0, _, hr, EK.no, Own.nil _ _, hb⟩)
        exact ⟨_, _, _, _, _, hP, by simp, Nm.Dg.nil, by omega, by omega, fun _ => ⟨by rw [sx, sy], rfl, fun h => by cases h⟩⟩
    · rw [hod] at hodd
      have hP := prod_num fm x y u _ _ _ _ _ _ _ _ _ _ _ _ _ _ NX NY hn false false false [] 0 true true
          (fun Q a1 c1 a2 c2 w hQ h1 h2 => (times_odd (nS fm x) (nI fm x) (Nm.wn (nZ fm x)) (Nm.wl (nZ fm x)) (nE fm x) a1 c1 (nS fm y) (nI fm y) (Nm.wn (nZ fm y)) (Nm.wl (nZ fm y)) (nE fm y) a2 c2 w (nZ_len fm x) (nZ_len fm y) hodd).mono fun r w' ⟨s, hr, hb⟩ => ⟨none, 0, _, hr, EK.bad s, Own.nil _ _, hb⟩)
      exact ⟨_, _, _, _, _, hP, by simp, Nm.Dg.nil, by omega, by omega, fun h => by cases h⟩
  · have hod := odd_nan hx hy x0 y0 hn
    have hP := prod_nan fm x y u _ _ _ _ _ _ _ _ _ _ _ _ _ _ NX NY hn _ rfl
    rw [hod, Bool.or_false, Bool.or_false]
    exact ⟨_, _, _, _, _, hP, by simp, Nm.Dg.nil, by omega, by omega, fun h => by cases h⟩
theorem mu_head {fm mode x y : Int} (x0 : 0 ≤ x) (x1 : x < 18446744073709551616) (y0 : 0 ≤ y) (y1 : y < 18446744073709551616) (hO : muO fm mode x y = true) : okF fm (muB fm mode x y) = true ∧ 0 ≤ muB fm mode x y ∧ muB fm mode x y < 18446744073709551616 ∧ (finB fm (muB fm mode x y) = true → finB fm x = true ∧ finB fm y = true) := by
  have hO' := hO
  unfold muO at hO'
  simp only [Bool.and_eq_true] at hO'
  obtain ⟨hm, hall⟩ := hO'
  obtain ⟨hx, hy⟩ := all2 hall
  have hfm := ok_fmt hx
  unfold muB
  rw [if_pos hO]
  cases hn : (nanB fm x || nanB fm y)
  · obtain ⟨nx, ny⟩ : nanB fm x = false ∧ nanB fm y = false := by simpa using hn
    simp only [Bool.false_eq_true, if_false]
    unfold mB
    have hna := Fd.nanOf_bd fm
    cases hi : (nI fm x || nI fm y)
    · obtain ⟨ix, iy⟩ : nI fm x = false ∧ nI fm y = false := by simpa using hi
      have fx := (nan_cases hx nx).resolve_right (by rw [ix]; decide)
      have fy := (nan_cases hy ny).resolve_right (by rw [iy]; decide)
      simp only [Bool.false_and, Bool.false_eq_true, if_false]
      have hsg := Fd.sgn_bd2 fm (sigB fm x != sigB fm y)
      split
      · exact ⟨(sg_okF hfm _).1, hsg.1, hsg.2.1, fun _ => ⟨fx, fy⟩⟩
      · have := Fd.RdB_bd fm mode (nZ fm x * nZ fm y) (nE fm x + nE fm y)
        obtain ⟨-, a0, a1⟩ := nZ_bd fm x
        obtain ⟨-, b0, b1⟩ := nZ_bd fm y
        exact ⟨rd_okF (rdo_any hfm hm (nZm_len fm x y) (by omega) (by omega)), this.1, this.2, fun _ => ⟨fx, fy⟩⟩
    · simp only [Bool.true_and, if_true]
      have hsg := Fd.sgn_bd2 fm (sigB fm x != sigB fm y)
      split
      · exact ⟨(nan_okF hfm).1, hna.1, hna.2, fun h => by rw [(nan_okF hfm).2] at h; cases h⟩
      · exact ⟨(sg_okF hfm _).2.1, hsg.2.2.1, hsg.2.2.2, fun h => by rw [(sg_okF hfm _).2.2] at h; cases h⟩
  · simp only [if_true]
    have := Fd.nanOf_bd fm
    exact ⟨(nan_okF hfm).1, this.1, this.2, fun h => by rw [(nan_okF hfm).2] at h; cases h⟩
theorem ams_spec (fm x y : Int) (w : World) (x0 : 0 ≤ x) (x1 : x < 18446744073709551616) (y0 : 0 ≤ y) (y1 : y < 18446744073709551616) (H T F : Int) (O : Bool) (hH : H = amB fm x y) (hT : T = amT fm x y) (hF : F = amF fm x y) (hO : O = muO fm 5 x y) :
    Calls Tryz.prog 43 #[.int .i64 fm, .int .u64 x, .int .u64 y] w fun r w' => r = .returned (.tuple #[.agg #[.int .u64 H, .int .u64 T], .int .i64 F, .bool O]) ∧ Below w.heap.size w w' := by
  have CA := hid (fun w' => mul_spec fm 5 x y w' x0 x1 y0 y1 _ _ _ rfl rfl rfl)
  cases ho : muO fm 5 x y
  · have e1 : muB fm 5 x y = 0 ∧ muF fm 5 x y = 0 := mu_no ho
    rw [e1.1, e1.2, ho] at CA
    have h1 : H = 0 := by rw [hH]; unfold amB; rw [ho]; rfl
    have h2 : T = 0 := by rw [hT]; unfold amT; rw [ho]; rfl
    have h3 : F = 0 := by rw [hF]; unfold amF; rw [ho]; rfl
    rw [h1, h2, h3, hO, ho]
    clear h1 h2 h3 hH hT hF hO ho e1
    have bel := Below.refl w.heap.size w
    go_enter Tryz.func43, Tryz.ntmps43
    replace bel := bel_al bel (.cells #[.int .u64 0, .int .u64 0] 54)
    have Br := R2.new w (.int .u64 0) (.int .u64 0) 54
    obtain ⟨kr0, kr1, -, -⟩ := id Br
    go_wp2_with fail
    refine (CA.out _).mono ?_
    rintro r w1 ⟨rfl, hb⟩
    clear kr0 kr1
    replace bel := bel_go bel hb
    replace Br := Br.below hb
    clear hb
    obtain ⟨kr0, kr1, -, -⟩ := id Br
    obtain ⟨-, -, lr0, lr1⟩ := id Br
    go_wp2
    refine bodyPost_ret (v := .tuple #[.agg #[.int .u64 0, .int .u64 0], .int .i64 0, .bool false]) (by simp [results, Tryz.results43, go_sem, kr0, kr1, lr0, lr1]) rfl ⟨rfl, ((bel.setCell (by simp) _).setCell (by simp) _)⟩
  · rw [ho] at CA
    rw [hO, ho]
    obtain ⟨k1, k2, k3, k4⟩ := mu_head (mode := 5) x0 x1 y0 y1 ho
    have hfm := ok_fmt (all2 (by have h := ho; unfold muO at h; simp only [Bool.and_eq_true] at h; exact h.2)).1
    have hx := (all2 (by have h := ho; unfold muO at h; simp only [Bool.and_eq_true] at h; exact h.2)).1
    have hy := (all2 (by have h := ho; unfold muO at h; simp only [Bool.and_eq_true] at h; exact h.2)).2
    have h1 : H = muB fm 5 x y := by rw [hH]; unfold amB; rw [if_pos ho]
    have h2 : T = auT fm (muB fm 5 x y) (amX fm x y) := by rw [hT]; unfold amT; rw [if_pos ho]
    have h3 : F = auF fm (muB fm 5 x y) (muF fm 5 x y) (amX fm x y) := by rw [hF]; unfold amF; rw [if_pos ho]
    have CQ := hid (fun w' => sQb fm w' hfm)
    have CF1 := hid (fun w' => spec_fin fm x w' x0 x1)
    have CF2 := hid (fun w' => spec_fin fm y w' y0 y1)
    have hq := unq_bd fm
    have hw1 : IntKind.i64.wrap (2 * unQ fm) = 2 * unQ fm := by rw [IntKind.wrap_i64]; omega
    have hw2 : wrap64 (2 * unQ fm) = 2 * unQ fm := by unfold wrap64; omega
    cases fx : finB fm x
    · rw [fx] at CF1
      have CL := hid (fun p c w' hs => l6r fm (muB fm 5 x y) (muF fm 5 x y) 0 (2 * unQ fm) (amX fm x y) p c w' hs hfm k1 k2 k3 (fun h => absurd (k4 h) (fun h' => by rw [h'.1] at fx; cases fx)) T F h2 h3)
      have e1 : Nm.wl 0 = [] := Nm.lim_zero
      have e2 : Nm.wn 0 = false := by decide
      rw [e1, e2] at CL
      clear e1 e2
      obtain ⟨h, h_h⟩ : ∃ q, q = muB fm 5 x y := ⟨_, rfl⟩
      obtain ⟨f, h_f⟩ : ∃ q, q = muF fm 5 x y := ⟨_, rfl⟩
      obtain ⟨q, h_q⟩ : ∃ q, q = unQ fm := ⟨_, rfl⟩
      rw [← h_h, ← h_f] at CA CL
      rw [← h_q] at CQ CL hw1 hw2
      rw [h1, ← h_h]
      clear hH hT hF hO h1 h2 h3 ho k1 k2 k3 k4 hfm hx hy h_h h_f h_q hq
      clear fx
      have bel := Below.refl w.heap.size w
      go_enter Tryz.func43, Tryz.ntmps43
      replace bel := bel_al bel (.cells #[.int .u64 0, .int .u64 0] 54)
      have Br := R2.new w (.int .u64 0) (.int .u64 0) 54
      obtain ⟨kr0, kr1, -, -⟩ := id Br
      go_wp2_with fail
      refine (CA.out _).mono ?_
      rintro r w1 ⟨rfl, hb⟩
      clear kr0 kr1
      replace bel := bel_go bel hb
      replace Br := Br.below hb
      clear hb
      have hz1 := World.block_lt_of_cell? _ _ Br.c0
      simp only [] at hz1
      replace Br := Br.below (al_b _ (.cells #[.bool false, .slice none 0 0] 31))
      replace bel := bel_al bel (.cells #[.bool false, .slice none 0 0] 31)
      have Bw := R2.new w1 (.bool false) (.slice none 0 0) 31
      obtain ⟨kr0, kr1, -, -⟩ := id Br
      obtain ⟨kw0, kw1, -, -⟩ := id Bw
      go_wp2_with fail
      refine (CQ.out _).mono ?_
      rintro r w2 ⟨rfl, hb⟩
      clear kr0 kr1 kw0 kw1
      replace bel := bel_go bel hb
      replace Br := Br.below hb
      replace Bw := Bw.below hb
      clear hb
      obtain ⟨kr0, kr1, -, -⟩ := id Br
      obtain ⟨kw0, kw1, -, -⟩ := id Bw
      go_wp2_with fail
      refine (CF1.out _).mono ?_
      rintro r w3 ⟨rfl, hb⟩
      clear kr0 kr1 kw0 kw1
      replace bel := bel_go bel hb
      replace Br := Br.below hb
      replace Bw := Bw.below hb
      clear hb
      obtain ⟨kr0, kr1, -, -⟩ := id Br
      obtain ⟨kw0, kw1, -, -⟩ := id Bw
      go_wp2_with fail
      refine (CL.out none 0 _ (Sl.nil _ _)).mono ?_
      rintro r w4 ⟨rfl, hb⟩
      clear kr0 kr1 kw0 kw1
      replace bel := bel_go bel hb
      replace Br := Br.below hb
      replace Bw := Bw.below hb
      clear hb
      obtain ⟨kr0, kr1, -, -⟩ := id Br
      obtain ⟨kw0, kw1, -, -⟩ := id Bw
      obtain ⟨-, -, lr0, lr1⟩ := id Br
      go_wp2
      refine bodyPost_ret (v := .tuple #[.agg #[.int .u64 h, .int .u64 T], .int .i64 F, .bool true]) (by simp [results, Tryz.results43, go_sem, kr0, kr1, kw0, kw1, lr0, lr1]) rfl ⟨rfl, ((bel.setCell (by simp) _).setCell (by simp) _)⟩
    · rw [fx] at CF1
      cases fy : finB fm y
      · rw [fy] at CF2
        have CL := hid (fun p c w' hs => l6r fm (muB fm 5 x y) (muF fm 5 x y) 0 (2 * unQ fm) (amX fm x y) p c w' hs hfm k1 k2 k3 (fun h => absurd (k4 h) (fun h' => by rw [h'.2] at fy; cases fy)) T F h2 h3)
        have e1 : Nm.wl 0 = [] := Nm.lim_zero
        have e2 : Nm.wn 0 = false := by decide
        rw [e1, e2] at CL
        clear e1 e2
        obtain ⟨h, h_h⟩ : ∃ q, q = muB fm 5 x y := ⟨_, rfl⟩
        obtain ⟨f, h_f⟩ : ∃ q, q = muF fm 5 x y := ⟨_, rfl⟩
        obtain ⟨q, h_q⟩ : ∃ q, q = unQ fm := ⟨_, rfl⟩
        rw [← h_h, ← h_f] at CA CL
        rw [← h_q] at CQ CL hw1 hw2
        rw [h1, ← h_h]
        clear hH hT hF hO h1 h2 h3 ho k1 k2 k3 k4 hfm hx hy h_h h_f h_q hq
        clear fx fy
        have bel := Below.refl w.heap.size w
        go_enter Tryz.func43, Tryz.ntmps43
        replace bel := bel_al bel (.cells #[.int .u64 0, .int .u64 0] 54)
        have Br := R2.new w (.int .u64 0) (.int .u64 0) 54
        obtain ⟨kr0, kr1, -, -⟩ := id Br
        go_wp2_with fail
        refine (CA.out _).mono ?_
        rintro r w1 ⟨rfl, hb⟩
        clear kr0 kr1
        replace bel := bel_go bel hb
        replace Br := Br.below hb
        clear hb
        have hz1 := World.block_lt_of_cell? _ _ Br.c0
        simp only [] at hz1
        replace Br := Br.below (al_b _ (.cells #[.bool false, .slice none 0 0] 31))
        replace bel := bel_al bel (.cells #[.bool false, .slice none 0 0] 31)
        have Bw := R2.new w1 (.bool false) (.slice none 0 0) 31
        obtain ⟨kr0, kr1, -, -⟩ := id Br
        obtain ⟨kw0, kw1, -, -⟩ := id Bw
        go_wp2_with fail
        refine (CQ.out _).mono ?_
        rintro r w2 ⟨rfl, hb⟩
        clear kr0 kr1 kw0 kw1
        replace bel := bel_go bel hb
        replace Br := Br.below hb
        replace Bw := Bw.below hb
        clear hb
        obtain ⟨kr0, kr1, -, -⟩ := id Br
        obtain ⟨kw0, kw1, -, -⟩ := id Bw
        go_wp2_with fail
        refine (CF1.out _).mono ?_
        rintro r w3 ⟨rfl, hb⟩
        clear kr0 kr1 kw0 kw1
        replace bel := bel_go bel hb
        replace Br := Br.below hb
        replace Bw := Bw.below hb
        clear hb
        obtain ⟨kr0, kr1, -, -⟩ := id Br
        obtain ⟨kw0, kw1, -, -⟩ := id Bw
        go_wp2_with fail
        refine (CF2.out _).mono ?_
        rintro r w4 ⟨rfl, hb⟩
        clear kr0 kr1 kw0 kw1
        replace bel := bel_go bel hb
        replace Br := Br.below hb
        replace Bw := Bw.below hb
        clear hb
        obtain ⟨kr0, kr1, -, -⟩ := id Br
        obtain ⟨kw0, kw1, -, -⟩ := id Bw
        go_wp2_with fail
        refine (CL.out none 0 _ (Sl.nil _ _)).mono ?_
        rintro r w5 ⟨rfl, hb⟩
        clear kr0 kr1 kw0 kw1
        replace bel := bel_go bel hb
        replace Br := Br.below hb
        replace Bw := Bw.below hb
        clear hb
        obtain ⟨kr0, kr1, -, -⟩ := id Br
        obtain ⟨kw0, kw1, -, -⟩ := id Bw
        obtain ⟨-, -, lr0, lr1⟩ := id Br
        go_wp2
        refine bodyPost_ret (v := .tuple #[.agg #[.int .u64 h, .int .u64 T], .int .i64 F, .bool true]) (by simp [results, Tryz.results43, go_sem, kr0, kr1, kw0, kw1, lr0, lr1]) rfl ⟨rfl, ((bel.setCell (by simp) _).setCell (by simp) _)⟩
      · rw [fy] at CF2
        have CP := hid (fun w' => exact4 fm x y w' fx fy x0 x1 y0 y1 hx hy _ _ _ rfl rfl rfl)
        obtain ⟨-, a0, a1⟩ := nZ_bd fm x
        obtain ⟨-, b0, b1⟩ := nZ_bd fm y
        have qx := pE_q fx
        have qy := pE_q fy
        rw [← (fin_facts hx fx).2.2.2.1] at qx
        rw [← (fin_facts hy fy).2.2.2.1] at qy
        have CL := hid (fun p c w' hs => l6r fm (muB fm 5 x y) (muF fm 5 x y) (nZ fm x * nZ fm y) (nE fm x + nE fm y) (amX fm x y) p c w' hs hfm k1 k2 k3 (fun _ => ⟨rfl, by omega, by omega, by have : bitLen (nZ fm x * nZ fm y).natAbs ≤ 106 := (Nm.bl_le_iff _ 106).2 (nZm_bd fm x y); omega, amX_bl fm x y⟩) T F h2 h3)
        clear a0 a1 b0 b1 qx qy
        obtain ⟨h, h_h⟩ : ∃ q, q = muB fm 5 x y := ⟨_, rfl⟩
        obtain ⟨f, h_f⟩ : ∃ q, q = muF fm 5 x y := ⟨_, rfl⟩
        obtain ⟨q, h_q⟩ : ∃ q, q = unQ fm := ⟨_, rfl⟩
        rw [← h_h, ← h_f] at CA CL
        rw [← h_q] at CQ hw1 hw2
        rw [h1, ← h_h]
        obtain ⟨gs, h_gs⟩ : ∃ q, q = Nm.wn (nZ fm x * nZ fm y) := ⟨_, rfl⟩
        obtain ⟨Ls, h_Ls⟩ : ∃ q, q = Nm.wl (nZ fm x * nZ fm y) := ⟨_, rfl⟩
        obtain ⟨E, h_E⟩ : ∃ q, q = nE fm x + nE fm y := ⟨_, rfl⟩
        rw [← h_gs, ← h_Ls, ← h_E] at CP CL
        clear h_gs h_Ls h_E
        clear hH hT hF hO h1 h2 h3 ho k1 k2 k3 k4 hfm hx hy h_h h_f h_q hq
        clear fx fy
        have bel := Below.refl w.heap.size w
        go_enter Tryz.func43, Tryz.ntmps43
        replace bel := bel_al bel (.cells #[.int .u64 0, .int .u64 0] 54)
        have Br := R2.new w (.int .u64 0) (.int .u64 0) 54
        obtain ⟨kr0, kr1, -, -⟩ := id Br
        go_wp2_with fail
        refine (CA.out _).mono ?_
        rintro r w1 ⟨rfl, hb⟩
        clear kr0 kr1
        replace bel := bel_go bel hb
        replace Br := Br.below hb
        clear hb
        have hz1 := World.block_lt_of_cell? _ _ Br.c0
        simp only [] at hz1
        replace Br := Br.below (al_b _ (.cells #[.bool false, .slice none 0 0] 31))
        replace bel := bel_al bel (.cells #[.bool false, .slice none 0 0] 31)
        have Bw := R2.new w1 (.bool false) (.slice none 0 0) 31
        obtain ⟨kr0, kr1, -, -⟩ := id Br
        obtain ⟨kw0, kw1, -, -⟩ := id Bw
        go_wp2_with fail
        refine (CQ.out _).mono ?_
        rintro r w2 ⟨rfl, hb⟩
        clear kr0 kr1 kw0 kw1
        replace bel := bel_go bel hb
        replace Br := Br.below hb
        replace Bw := Bw.below hb
        clear hb
        obtain ⟨kr0, kr1, -, -⟩ := id Br
        obtain ⟨kw0, kw1, -, -⟩ := id Bw
        go_wp2_with fail
        refine (CF1.out _).mono ?_
        rintro r w3 ⟨rfl, hb⟩
        clear kr0 kr1 kw0 kw1
        replace bel := bel_go bel hb
        replace Br := Br.below hb
        replace Bw := Bw.below hb
        clear hb
        obtain ⟨kr0, kr1, -, -⟩ := id Br
        obtain ⟨kw0, kw1, -, -⟩ := id Bw
        go_wp2_with fail
        refine (CF2.out _).mono ?_
        rintro r w4 ⟨rfl, hb⟩
        clear kr0 kr1 kw0 kw1
        replace bel := bel_go bel hb
        replace Br := Br.below hb
        replace Bw := Bw.below hb
        clear hb
        obtain ⟨kr0, kr1, -, -⟩ := id Br
        obtain ⟨kw0, kw1, -, -⟩ := id Bw
        go_wp2_with fail
        refine (CP.out _).mono ?_
        rintro r w5 ⟨as', cs', rfl, os, hb⟩
        clear kr0 kr1 kw0 kw1
        replace bel := bel_go bel hb
        replace Br := Br.below hb
        replace Bw := Bw.below hb
        clear hb
        have apw := fun (v : Bool) hc => own_apart os (b := w1.heap.size) v hc
        obtain ⟨kr0, kr1, -, -⟩ := id Br
        obtain ⟨kw0, kw1, -, -⟩ := id Bw
        have ap := apw _ kw0
        clear apw
        obtain ⟨-, -, lw0, lw1⟩ := id Bw
        have s9 := own_keep2 os ap (.bool gs) (.slice as' Ls.length cs')
        have Br9 := (Br.other (p := ⟨w1.heap.size, 0, none⟩) (by simp; omega) (.bool gs)).other (p := ⟨w1.heap.size, 1, none⟩) (by simp; omega) (.slice as' Ls.length cs')
        have Bw9 := R2.set Bw (.bool gs) (.slice as' Ls.length cs')
        have bel9 := (bel.setCell (p := ⟨w1.heap.size, 0, none⟩) (by simp; omega) (.bool gs)).setCell (p := ⟨w1.heap.size, 1, none⟩) (by simp; omega) (.slice as' Ls.length cs')
        clear os ap Br bel
        go_upto_region 8 with fail
        clear kr0 kr1 kw0 kw1 lw0 lw1 Bw
        generalize hWv : (w5.setCell ⟨w1.heap.size, 0, none⟩ (.bool gs)).setCell ⟨w1.heap.size, 1, none⟩ (.slice as' Ls.length cs') = W9 at s9 Br9 Bw9 bel9 ⊢
        clear hWv
        have Br := Br9
        have Bw := Bw9
        have bel := bel9
        clear Br9 Bw9 bel9
        obtain ⟨kr0, kr1, -, -⟩ := id Br
        obtain ⟨kw0, kw1, -, -⟩ := id Bw
        go_wp2_with fail
        refine (CL.out as' cs' _ s9).mono ?_
        rintro r w6 ⟨rfl, hb⟩
        clear kr0 kr1 kw0 kw1
        replace bel := bel_go bel hb
        replace Br := Br.below hb
        replace Bw := Bw.below hb
        replace s9 := s9.below hb
        clear hb
        obtain ⟨kr0, kr1, -, -⟩ := id Br
        obtain ⟨kw0, kw1, -, -⟩ := id Bw
        obtain ⟨-, -, lr0, lr1⟩ := id Br
        go_wp2
        refine bodyPost_ret (v := .tuple #[.agg #[.int .u64 h, .int .u64 T], .int .i64 F, .bool true]) (by simp [results, Tryz.results43, go_sem, kr0, kr1, kw0, kw1, lr0, lr1]) rfl ⟨rfl, ((bel.setCell (by simp) _).setCell (by simp) _)⟩
end Go.Proofs.YtmcflggionkhlaaGreatDoor
