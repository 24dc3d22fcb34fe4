/-
  What is needed of AU, WI, FU.
-/
import Derived.Test.YtmcflggionkhlaaGreatDoorH43
set_option maxHeartbeats 16000000
set_option maxRecDepth 1000000
namespace Go.Proofs.YtmcflggionkhlaaGreatDoor
set_option linter.unusedVariables false
set_option linter.unusedSimpArgs false
open Go.RowKit Go.Deep
theorem tot_all (fm mode x y : Int) (u : Value) (x0 : 0 ≤ x) (x1 : x < 18446744073709551616) (y0 : 0 ≤ y) (y1 : y < 18446744073709551616) (ho : muO fm mode x y = true) :
    ∃ (sg inf G : Bool) (L : List Int) (E : Int) (n b : Bool) (rb rf : Int), TotAt u fm mode x y sg inf G L E n b ∧ L.length ≤ 200 ∧ Nm.Dg L ∧ (n = false → inf = false → L.length ≠ 0 → RdO fm mode G L E = true ∧ rb = RdB fm mode G L E ∧ rf = RdF fm mode G L E) ∧ adB fm mode x y = tdB (nanOf fm) (infOf fm) (sgOf fm) n inf (decide (L.length = 0)) sg rb ∧ adF fm mode x y = tdF n b inf (decide (L.length = 0)) rf ∧ ((n = false ∧ inf = false) → finB fm x = true ∧ finB fm y = true ∧ ∃ z, G = Nm.wn z ∧ L = Nm.wl z ∧ (unI fm x + unI fm y) = z * 2 ^ (E - unQ fm).toNat ∧ 0 ≤ E - unQ fm ∧ E ≤ 2000) := by
  obtain ⟨hm, ha⟩ : modeB mode = true ∧ allB fm [x, y] = true := by have : (modeB mode && allB fm [x, y]) = true := ho; simpa using this
  obtain ⟨hx, hy⟩ := all2 ha
  have hfm := ok_fmt hx
  have NX := numAt (u := u) hx x0 x1
  have NY := numAt (u := u) hy y0 y1
  cases hn : (nanB fm x || nanB fm y)
  · obtain ⟨nx, ny⟩ : nanB fm x = false ∧ nanB fm y = false := by simpa using hn
    have hB' : adB fm mode x y = aB fm mode x y := by unfold adB; rw [ho, if_pos rfl, hn]; rfl
    have hF' : adF fm mode x y = aF fm mode x y := by unfold adF; rw [ho, if_pos rfl, hn]; rfl
    have sx : nS fm x = sigB fm x := by unfold nS; rw [nx]; rfl
    have sy : nS fm y = sigB fm y := by unfold nS; rw [ny]; rfl
    unfold aB at hB'
    unfold aF at hF'
    cases ix : nI fm x
    · rw [ix] at hB' hF' NX
      cases iy : nI fm y
      · rw [iy] at hB' hF' NY
        have fx := (nan_cases hx nx).resolve_right (by rw [ix]; decide)
        have fy := (nan_cases hy ny).resolve_right (by rw [iy]; decide)
        have b1 := nZ_bd fm x
        have b2 := nZ_bd fm y
        obtain ⟨em, hem⟩ : ∃ em, em = min (nE fm x) (nE fm y) := ⟨_, rfl⟩
        obtain ⟨z, hz⟩ : ∃ z, z = nZ fm x * 2 ^ (nE fm x - em).toNat + nZ fm y * 2 ^ (nE fm y - em).toNat := ⟨_, rfl⟩
        obtain ⟨hu, hq⟩ := sum_z hx hy fx fy em hem z hz
        have hqb := unq_bd fm
        have hul := uu_len fm x y
        have hzl : (Nm.wl z).length ≤ 200 := by
          have h1 := len_bl (x := (unI fm x + unI fm y).natAbs) (k := 200) hul
          have h2 := Nm.bl_mono (sum_abs hu)
          unfold Nm.wl; exact lim_len (k := 200) (by omega)
        have lx := nzs_len (fm := fm) (x := x) (em := em) (by omega) (by omega)
        have ly := nzs_len (fm := fm) (x := y) (em := em) (by omega) (by omega)
        have hz0 : (unI fm x + unI fm y) = 0 ↔ z = 0 := by
          rw [hu]; constructor
          · intro h
            rcases Int.mul_eq_zero.1 h with h' | h'
            · exact h'
            · exact absurd h' (Int.ne_of_gt (Int.pow_pos (by decide)))
          · intro h; rw [h, Int.zero_mul]
        have hl0 : decide ((Nm.wl z).length = 0) = decide ((unI fm x + unI fm y) = 0) := by
          rw [Bool.eq_iff_iff, decide_eq_true_eq, decide_eq_true_eq, hz0]; unfold Nm.wl; rw [Nm.lim_length_zero]; omega
        have hP := tot_num fm mode x y u _ _ _ _ _ _ _ _ _ _ _ _ _ _ NX NY hn (plN (decide ((Nm.wl z).length = 0)) (nS fm x) (nS fm y) (Nm.wn z) mode) false (Nm.wn z) (Nm.wl z) em false false
          (fun Q a1 c1 a2 c2 w hQ h1 h2 => (plus_fin (nS fm x) (Nm.wn (nZ fm x)) (Nm.wl (nZ fm x)) (nE fm x) a1 c1 (nS fm y) (Nm.wn (nZ fm y)) (Nm.wl (nZ fm y)) (nE fm y) a2 c2 mode w em hem (by omega) (by omega) h1.sl h2.sl (Nm.wn (nZ fm x * 2 ^ (nE fm x - em).toNat)) (Nm.wl (nZ fm x * 2 ^ (nE fm x - em).toNat)) (Nm.wn (nZ fm y * 2 ^ (nE fm y - em).toNat)) (Nm.wl (nZ fm y * 2 ^ (nE fm y - em).toNat)) (Nm.wn z) (Nm.wl z) _ rfl hzl
            (fun w' h => wsh_at2 _ a1 c1 _ (nE fm x - em) w' h (Nm.wl_dg _) (okB_wl (nZ_len fm x)) (by omega) (by omega) _ (shz _ _ (by omega)).symm lx)
            (fun w' h => wsh_at2 _ a2 c2 _ (nE fm y - em) w' h (Nm.wl_dg _) (okB_wl (nZ_len fm y)) (by omega) (by omega) _ (shz _ _ (by omega)).symm ly)
            (fun av cv aw cw w' h h' => add_ok av aw cv cw w' h h' (Nm.wl_dg _) (Nm.wl_dg _) (okB_wl lx) (okB_wl ly) z (by rw [Nm.wv_out, Nm.wv_out]; exact hz) (by unfold Nm.fits; exact decide_eq_true hzl))).mono fun r w' ⟨a, c, hr, ho, hb⟩ => ⟨a, c, _, hr, EK.no, ho.base hQ, hb⟩)
        have hro : z ≠ 0 → RdO fm mode (Nm.wn z) (Nm.wl z) em = true ∧ RdB fm mode (Nm.wn (unI fm x + unI fm y)) (Nm.wl (unI fm x + unI fm y)) (unQ fm) = RdB fm mode (Nm.wn z) (Nm.wl z) em ∧ RdF fm mode (Nm.wn (unI fm x + unI fm y)) (Nm.wl (unI fm x + unI fm y)) (unQ fm) = RdF fm mode (Nm.wn z) (Nm.wl z) em := by
          intro hzz
          have o1 := rdo_any (fm := fm) (mode := mode) (z := z) (e := em) hfm hm hzl (by omega) (by omega)
          have o2 := rdo_any (fm := fm) (mode := mode) (z := (unI fm x + unI fm y)) (e := unQ fm) hfm hm hul (by omega) (by omega)
          have hd : unQ fm = em - ((em - unQ fm).toNat : Nat) := by omega
          rw [hu] at o2 ⊢
          rw [hd] at o2 ⊢
          have e2 : (em - (em - ((em - unQ fm).toNat : Nat))).toNat = (em - unQ fm).toNat := by omega
          rw [e2] at o2 ⊢
          obtain ⟨q1, q2⟩ := Rd_scale fm mode z (em - unQ fm).toNat em hzz o1 o2
          exact ⟨o1, q1, q2⟩
        have hzn : (Nm.wl z).length ≠ 0 → z ≠ 0 := by
          intro h e; apply h; rw [e]; have : Nm.wl 0 = [] := Nm.lim_zero
          rw [this]; rfl
        refine ⟨_, _, _, _, _, _, _, (RdB fm mode (Nm.wn (unI fm x + unI fm y)) (Nm.wl (unI fm x + unI fm y)) (unQ fm)), (RdF fm mode (Nm.wn (unI fm x + unI fm y)) (Nm.wl (unI fm x + unI fm y)) (unQ fm)), hP, hzl, (Nm.wl_dg _), (fun _ _ h => hro (hzn h)), ?_, ?_, ?_⟩
        · rw [hB', hl0, sx, sy]; unfold tdB plN
          by_cases h0 : (unI fm x + unI fm y) = 0
          · rw [decide_eq_true h0]; simp [h0]
          · rw [decide_eq_false h0]; simp [h0]
        · rw [hF', hl0]; unfold tdF
          by_cases h0 : (unI fm x + unI fm y) = 0
          · rw [decide_eq_true h0]; simp [h0]
          · rw [decide_eq_false h0]; simp [h0]
        · exact fun _ => ⟨fx, fy, z, rfl, rfl, hu, hq, by omega⟩
      · rw [iy] at hB' hF' NY
        obtain ⟨-, ey⟩ := inf_eq hy hy y0 y1 y0 y1 iy iy
        have z2 := nI_z hy iy
        have hP := tot_num fm mode x y u _ _ _ _ _ _ _ _ _ _ _ _ _ _ NX NY hn (nS fm y) true (Nm.wn (nZ fm y)) (Nm.wl (nZ fm y)) (nE fm y) false false
          (fun Q a1 c1 a2 c2 w hQ h1 h2 => (plus_inf2 (nS fm x) false (Nm.wn (nZ fm x)) (Nm.wl (nZ fm x)) (nE fm x) a1 c1 (nS fm y) true (Nm.wn (nZ fm y)) (Nm.wl (nZ fm y)) (nE fm y) a2 c2 mode w rfl rfl).mono fun r w' ⟨hr, hb⟩ => ⟨a2, c2, _, hr, EK.no, h2.below hb, hb⟩)
        refine ⟨_, _, _, _, _, _, _, 0, 0, hP, (nZ_len fm y), (Nm.wl_dg _), (fun _ h => by cases h), ?_, ?_, ?_⟩
        · rw [hB', sy]; unfold tdB; simp; exact ey
        · rw [hF']; unfold tdF; simp
        · exact fun h => absurd h (by simp)
    · rw [ix] at hB' hF' NX
      obtain ⟨-, ex⟩ := inf_eq hx hx x0 x1 x0 x1 ix ix
      cases hod : (nI fm y && (x != y))
      · have hor : nI fm y = false ∨ (nS fm x != nS fm y) = false := by
          cases iy : nI fm y
          · exact .inl rfl
          · right
            rw [iy] at hod
            rw [sx, sy, ← (inf_eq hx hy x0 x1 y0 y1 ix iy).1]; simpa using hod
        have hP := tot_num fm mode x y u _ _ _ _ _ _ _ _ _ _ _ _ _ _ NX NY hn (nS fm x) true (Nm.wn (nZ fm x)) (Nm.wl (nZ fm x)) (nE fm x) false false
          (fun Q a1 c1 a2 c2 w hQ h1 h2 => (plus_inf1 (nS fm x) true (Nm.wn (nZ fm x)) (Nm.wl (nZ fm x)) (nE fm x) a1 c1 (nS fm y) (nI fm y) (Nm.wn (nZ fm y)) (Nm.wl (nZ fm y)) (nE fm y) a2 c2 mode w rfl hor).mono fun r w' ⟨hr, hb⟩ => ⟨a1, c1, _, hr, EK.no, h1.below hb, hb⟩)
        refine ⟨_, _, _, _, _, _, _, 0, 0, hP, (nZ_len fm x), (Nm.wl_dg _), (fun _ h => by cases h), ?_, ?_, ?_⟩
        · rw [hB', Bool.true_and, hod, sx]; unfold tdB; simp; exact ex
        · rw [hF', Bool.true_and, hod]; unfold tdF; simp
        · exact fun h => absurd h (by simp)
      · obtain ⟨iy, hxy⟩ : nI fm y = true ∧ (x != y) = true := by rw [Bool.and_eq_true] at hod; exact hod
        rw [iy] at NY
        have hss : (nS fm x != nS fm y) = true := by rw [sx, sy, ← (inf_eq hx hy x0 x1 y0 y1 ix iy).1]; exact hxy
        have hP := tot_num fm mode x y u _ _ _ _ _ _ _ _ _ _ _ _ _ _ NX NY hn false false false [] 0 true true
          (fun Q a1 c1 a2 c2 w hQ h1 h2 => (plus_odd (nS fm x) true (Nm.wn (nZ fm x)) (Nm.wl (nZ fm x)) (nE fm x) a1 c1 (nS fm y) true (Nm.wn (nZ fm y)) (Nm.wl (nZ fm y)) (nE fm y) a2 c2 mode w rfl rfl hss).mono fun r w' ⟨s, hr, hb⟩ => ⟨none, 0, _, hr, EK.bad s, Own.nil _ _, hb⟩)
        refine ⟨_, _, _, _, _, _, _, 0, 0, hP, (by simp), Nm.Dg.nil, (fun h => by cases h), ?_, ?_, ?_⟩
        · rw [hB', Bool.true_and, hod]; rfl
        · rw [hF', Bool.true_and, hod]; rfl
        · exact fun h => absurd h (by simp)
  · have hB' : adB fm mode x y = nanOf fm := by unfold adB; rw [ho, if_pos rfl, hn]; rfl
    have hF' : adF fm mode x y = fl8 (nB fm x || nB fm y) := by unfold adF; rw [ho, if_pos rfl, hn]; rfl
    have hP := tot_nan fm mode x y u _ _ _ _ _ _ _ _ _ _ _ _ _ _ NX NY hn _ rfl
    refine ⟨_, _, _, _, _, _, _, 0, 0, hP, (by simp), Nm.Dg.nil, (fun h => by cases h), ?_, ?_, ?_⟩
    · rw [hB']; rfl
    · rw [hF']; unfold tdF; cases (nB fm x || nB fm y) <;> rfl
    · exact fun h => absurd h (by simp)
theorem al_b (w : World) (o : Obj) : Below w.heap.size w (w.alloc o) := (Below.refl _ _).alloc (Nat.le_refl _) _
namespace Fd
theorem wl_abs (x : Int) : Nm.wl ((x.natAbs : Nat) : Int) = Nm.wl x := by unfold Nm.wl; rw [Int.natAbs_natCast]
theorem wn_abs (x : Int) : Nm.wn ((x.natAbs : Nat) : Int) = false := by unfold Nm.wn; exact decide_eq_false (by omega)
theorem fit_k {x : Int} (h : bitLen x.natAbs ≤ 6400) : (Nm.wl x).length ≤ 200 := by unfold Nm.wl; exact lim_len (k := 200) h
theorem bl_neg (x : Int) : bitLen (-x).natAbs = bitLen x.natAbs := by rw [Int.natAbs_neg]
theorem bl_sub {x y : Int} {k : Nat} (hx : bitLen x.natAbs ≤ k) (hy : bitLen y.natAbs ≤ k) : bitLen (x - y).natAbs ≤ k + 1 := by
  rw [Int.sub_eq_add_neg]; exact bl_add hx (by rw [bl_neg]; exact hy)
theorem bl_shl (x : Int) (n : Nat) : bitLen (x * 2 ^ n).natAbs ≤ bitLen x.natAbs + n := by
  rw [natAbs_pow]
  by_cases h : x.natAbs = 0
  · rw [h, Nat.zero_mul, Nm.bl_zero]; omega
  · rw [Nm.bl_mul h]; exact Nat.le_refl _
theorem mag_w (g : Bool) (a : Option Addr) (n c : Nat) (w : World) :
    Calls Tryz.prog 21 #[.agg #[.bool g, .slice a n c]] w fun e w' => e = .returned (.agg #[.bool false, .slice a n c]) ∧ Below w.heap.size w w' := by
  go_enter Tryz.func21, Tryz.ntmps21
  go_wp2
  exact bodyPost_ret (v := .agg #[.bool false, .slice a n c]) (by simp [results, Tryz.results21, go_sem]) rfl ⟨rfl, by first | exact (by repeat (first | exact bz0 _ _ | refine bz1 ?_ | refine bz2 ?_ _ | refine bz3 ?_ _ | refine bz5 ?_ _ | refine bz6 ?_ _)) | (exact Below.setCell (Below.setCell (by repeat (first | exact bz0 _ _ | refine bz1 ?_ | refine bz2 ?_ _ | refine bz3 ?_ _ | refine bz5 ?_ _ | refine bz6 ?_ _)) (by simp) _) (by simp) _)⟩
/-- Shifted up. -/
theorem shl_w (x : Int) (n : Int) (a : Option Addr) (c : Nat) (w : World) (hs : Sl .u32 w (.slice a (Nm.wl x).length c) (Nm.wl x)) (n0 : 0 ≤ n) (hb : bitLen x.natAbs + n.toNat ≤ 6400) :
    Calls Tryz.prog 20 #[.agg #[.bool (Nm.wn x), .slice a (Nm.wl x).length c], .int .i64 n] w fun r w' => ∃ a' c', r = .returned (.tuple #[.agg #[.bool (Nm.wn (x * 2 ^ n.toNat)), .slice a' (Nm.wl (x * 2 ^ n.toNat)).length c'], .bool true]) ∧ Own w' w.heap.size a' c' (Nm.wl (x * 2 ^ n.toNat)) ∧ Below w.heap.size w w' :=
  wsh_at2 (Nm.wn x) a c (Nm.wl x) n w hs (Nm.wl_dg _) (okB_wl (fit_k (by omega))) (by omega) (by omega) _ (shz x n n0).symm (fit_k (by have := bl_shl x n.toNat; omega))
/-- What a is less b. -/
theorem less_x (x y : Int) (a b : Option Addr) (c d : Nat) (w : World) (hx : Sl .u32 w (.slice a (Nm.wl x).length c) (Nm.wl x)) (hy : Sl .u32 w (.slice b (Nm.wl y).length d) (Nm.wl y)) (lx : bitLen x.natAbs ≤ 6000) (ly : bitLen y.natAbs ≤ 6000) :
    Calls Tryz.prog 24 #[.agg #[.bool (Nm.wn x), .slice a (Nm.wl x).length c], .agg #[.bool (Nm.wn y), .slice b (Nm.wl y).length d]] w fun e w' => ∃ a' c', e = .returned (.agg #[.bool (Nm.wn (x - y)), .slice a' (Nm.wl (x - y)).length c']) ∧ Sl .u32 w' (.slice a' (Nm.wl (x - y)).length c') (Nm.wl (x - y)) ∧ Below w.heap.size w w' := by
  have CN := hid (fun w' h => eneg_impl y b d w' h (fit_k (by omega)))
  have CA := hid (fun a2 c2 w' h h' => eadd_impl x (-y) a a2 c c2 w' h h' (fit_k (by omega)) (fit_k (by rw [bl_neg]; omega)) (fit_k (by have := bl_sub lx ly; rw [← Int.sub_eq_add_neg]; omega)))
  have ex : x + -y = x - y := (Int.sub_eq_add_neg).symm
  rw [ex] at CA
  obtain ⟨gx, hgx⟩ : ∃ g, g = Nm.wn x := ⟨_, rfl⟩
  obtain ⟨gy, hgy⟩ : ∃ g, g = Nm.wn y := ⟨_, rfl⟩
  obtain ⟨gn, hgn⟩ : ∃ g, g = Nm.wn (-y) := ⟨_, rfl⟩
  obtain ⟨gz, hgz⟩ : ∃ g, g = Nm.wn (x - y) := ⟨_, rfl⟩
  obtain ⟨X, hX⟩ : ∃ g, g = Nm.wl x := ⟨_, rfl⟩
  obtain ⟨Y, hY⟩ : ∃ g, g = Nm.wl y := ⟨_, rfl⟩
  obtain ⟨N, hN⟩ : ∃ g, g = Nm.wl (-y) := ⟨_, rfl⟩
  obtain ⟨Z, hZ⟩ : ∃ g, g = Nm.wl (x - y) := ⟨_, rfl⟩
  rw [← hgy, ← hgn, ← hY, ← hN] at CN
  rw [← hgx, ← hgn, ← hgz, ← hX, ← hN, ← hZ] at CA
  rw [← hX] at hx
  rw [← hY] at hy
  rw [← hgx, ← hgy, ← hgz, ← hX, ← hY, ← hZ]
  clear hgx hgy hgn hgz hX hY hN hZ lx ly ex
  go_enter Tryz.func24, Tryz.ntmps24
  go_upto_region 1 with fail
  have bel := Below.refl w.heap.size w
  replace hx := hx.below (al_b _ (.cells #[.bool gx, .slice a X.length c] 31))
  replace hy := hy.below (al_b _ (.cells #[.bool gx, .slice a X.length c] 31))
  replace bel := bel_al bel (.cells #[.bool gx, .slice a X.length c] 31)
  have Bx := R2.new w (.bool gx) (.slice a X.length c) 31
  replace hx := hx.below (al_b _ (.cells #[.bool gy, .slice b Y.length d] 31))
  replace hy := hy.below (al_b _ (.cells #[.bool gy, .slice b Y.length d] 31))
  replace Bx := Bx.below (al_b _ (.cells #[.bool gy, .slice b Y.length d] 31))
  replace bel := bel_al bel (.cells #[.bool gy, .slice b Y.length d] 31)
  have By := R2.new (w.alloc (.cells #[.bool gx, .slice a X.length c] 31)) (.bool gy) (.slice b Y.length d) 31
  replace hx := hx.below (al_b _ (.cells #[.bool false, .slice none 0 0] 31))
  replace hy := hy.below (al_b _ (.cells #[.bool false, .slice none 0 0] 31))
  replace Bx := Bx.below (al_b _ (.cells #[.bool false, .slice none 0 0] 31))
  replace By := By.below (al_b _ (.cells #[.bool false, .slice none 0 0] 31))
  replace bel := bel_al bel (.cells #[.bool false, .slice none 0 0] 31)
  have Br := R2.new ((w.alloc (.cells #[.bool gx, .slice a X.length c] 31)).alloc (.cells #[.bool gy, .slice b Y.length d] 31)) (.bool false) (.slice none 0 0) 31
  have hsz : ((w.alloc (.cells #[.bool gx, .slice a X.length c] 31)).alloc (.cells #[.bool gy, .slice b Y.length d] 31)).heap.size = w.heap.size + 1 + 1 := by simp
  have hsz1 : (w.alloc (.cells #[.bool gx, .slice a X.length c] 31)).heap.size = w.heap.size + 1 := by simp
  rw [hsz] at Br
  rw [hsz1] at By
  generalize ((w.alloc (.cells #[.bool gx, .slice a X.length c] 31)).alloc (.cells #[.bool gy, .slice b Y.length d] 31)).alloc (.cells #[.bool false, .slice none 0 0] 31) = W at hx hy bel Bx By Br ⊢
  have hW : w.heap.size + 3 ≤ W.heap.size := by have := World.block_lt_of_cell? _ _ Br.c0; simp only [] at this; omega
  have belR := Below.drew (Below.refl W.heap.size W)
  refine wp_region_held_drew (S := fun w' => (w'.cell? ⟨w.heap.size, 0, none⟩ = some (.bool gx) ∧ w'.cell? ⟨w.heap.size, 1, none⟩ = some (.slice a X.length c)) ∧ w'.cell? ⟨w.heap.size + 1, 0, none⟩ = some (.bool gy) ∧ w'.cell? ⟨w.heap.size + 1, 1, none⟩ = some (.slice b Y.length d)) (by kernel_rfl) ?_ (fun hHeld => ?_)
  · exact ⟨⟨Bx.c0, Bx.c1⟩, By.c0, By.c1⟩
  generalize W.drew = v0 at belR hHeld ⊢
  refine tk 0 ?_ rfl (Or.inl ⟨by rfl, ?_⟩) ?_
  rotate_left
  · (intro w hSw; (try dsimp only at hSw); obtain ⟨⟨hS0, hS1⟩, hS2, hS3⟩ := hSw; go_simp; try (with_reducible rfl))
  try simp only [Act.put, Ls]
  refine tk 1 ?_ rfl (Or.inl ⟨by rfl, ?_⟩) ?_
  rotate_left
  · (intro w hSw; (try dsimp only at hSw); obtain ⟨⟨hS0, hS1⟩, hS2, hS3⟩ := hSw; go_simp; try (with_reducible rfl))
  try simp only [Act.put, Ls]
  refine wpAnyH_ready (rs := [2, 7]) (by kernel_rfl) (by simp) ?_
  refine AllReadyH.cons (o := _) rfl (fun K hK => ?_) (AllReadyH.cons (o := _) rfl (fun K hK => ?_) AllReadyH.nil)
  · go_simp
    go_at_call 73
    refine (CN.out _ (hy.below belR)).mono ?_
    rintro r v1 ⟨a2, c2, rfl, o2, hb'⟩
    have hz' := belR.size
    replace belR := bel_go belR hb'
    replace o2 := Own.base o2 (B' := W.heap.size) (by omega)
    clear hb' hz'
    refine hK.out _ _ ?_ (fun hHeld => ?_)
    · exact ⟨⟨(Bx.below belR).c0, (Bx.below belR).c1⟩, (By.below belR).c0, (By.below belR).c1⟩
    clear hK K
    try simp only [Act.put, Ls]
    refine wpAnyH_ready (rs := [3, 7]) (by kernel_rfl) (by simp) ?_
    refine AllReadyH.cons (o := _) rfl (fun K hK => ?_) (AllReadyH.cons (o := _) rfl (fun K hK => ?_) AllReadyH.nil)
    · go_simp
      go_at_call 72
      refine (CA.out a2 c2 _ (hx.below belR) o2.sl).mono ?_
      rintro r v2 ⟨a3, c3, rfl, o3, hb'⟩
      replace o2 := o2.below hb'
      have hz' := belR.size
      replace belR := bel_go belR hb'
      replace o3 := Own.base o3 (B' := W.heap.size) (by omega)
      clear hb' hz'
      refine hK.out _ _ ?_ (fun hHeld => ?_)
      · exact ⟨⟨(Bx.below belR).c0, (Bx.below belR).c1⟩, (By.below belR).c0, (By.below belR).c1⟩
      clear hK K
      try simp only [Act.put, Ls]
      refine tk 4 ?_ rfl (Or.inl ⟨by rfl, ?_⟩) ?_
      rotate_left
      · (intro w hSw; go_simp; try (with_reducible rfl))
      try simp only [Act.put, Ls]
      refine tk 5 ?_ rfl (Or.inl ⟨by rfl, ?_⟩) ?_
      rotate_left
      · (intro w hSw; go_simp; try (with_reducible rfl))
      try simp only [Act.put, Ls]
      refine tk 6 ?_ rfl (Or.inl ⟨by rfl, ?_⟩) ?_
      rotate_left
      · (intro w hSw; go_simp; try (with_reducible rfl))
      try simp only [Act.put, Ls]
      refine rdy 7 rfl (fun K hK => ?_)
      go_simp
      refine hK.out _ _ ?_ (fun hHeld => ?_)
      · exact ⟨⟨(Bx.below (bel_al belR (.cells #[.bool false, .slice none 0 0] 31))).c0, (Bx.below (bel_al belR (.cells #[.bool false, .slice none 0 0] 31))).c1⟩, (By.below (bel_al belR (.cells #[.bool false, .slice none 0 0] 31))).c0, (By.below (bel_al belR (.cells #[.bool false, .slice none 0 0] 31))).c1⟩
      clear hK K
      try simp only [Act.put, Ls]
      obtain ⟨b5, h2⟩ : ∃ q, q = v2.heap.size := ⟨_, rfl⟩
      have hb5 : W.heap.size ≤ b5 := by have := belR.size; omega
      have B5 := R2.new v2 (.bool false) (.slice none 0 0) 31
      rw [← h2] at B5 ⊢
      have ng2_5 : ∀ g, a2 = some ⟨g, 0, none⟩ → g ≠ b5 := fun g h => by have := (own_at o2 g h).2; omega
      have ng3_5 : ∀ g, a3 = some ⟨g, 0, none⟩ → g ≠ b5 := fun g h => by have := (own_at o3 g h).2; omega
      replace o2 := o2.below (al_b _ (.cells #[.bool false, .slice none 0 0] 31))
      replace o3 := o3.below (al_b _ (.cells #[.bool false, .slice none 0 0] 31))
      replace belR := bel_al belR (.cells #[.bool false, .slice none 0 0] 31)
      clear h2
      generalize v2.alloc (.cells #[.bool false, .slice none 0 0] 31) = v3 at B5 belR hHeld o2 o3 ⊢
      refine rdy 8 rfl (fun K hK => ?_)
      have ⟨y50, y51, y52, y53⟩ := B5
      go_simp
      have belS := ((belR.setCell (p := ⟨b5, 0, none⟩) (by simpa using hb5) (.bool gz)).setCell (p := ⟨b5, 1, none⟩) (by simpa using hb5) (.slice a3 Z.length c3))
      refine hK.out _ _ ?_ (fun hHeld => ?_)
      · exact ⟨⟨(Bx.below belS).c0, (Bx.below belS).c1⟩, (By.below belS).c0, (By.below belS).c1⟩
      clear hK K
      try simp only [Act.put, Ls]
      refine rdy 9 rfl (fun K hK => ?_)
      go_simp
      refine hK.out _ _ ?_ (fun hHeld => ?_)
      · exact ⟨⟨(Bx.below belS).c0, (Bx.below belS).c1⟩, (By.below belS).c0, (By.below belS).c1⟩
      clear hK K
      try simp only [Act.put, Ls]
      refine wpAnyH_done (by kernel_rfl) ?_ _
      have Br' := Br.below belS
      obtain ⟨kr0, kr1, lr0, lr1⟩ := id Br'
      obtain ⟨kx0, kx1, mx0, mx1⟩ := id (R2.set B5 (.bool gz) (.slice a3 Z.length c3))
      go_wp2
      refine bodyPost_ret (v := .agg #[.bool gz, .slice a3 Z.length c3]) (by simp [results, Tryz.results24, go_sem, kr0, kr1, kx0, kx1]) rfl ⟨a3, c3, rfl, ?_, ?_⟩
      · exact ((((o3.setOther ng3_5 _).setOther ng3_5 _).setOther (fun g h => by have := (own_at o3 g h).1; simp; omega) _).setOther (fun g h => by have := (own_at o3 g h).1; simp; omega) _).sl
      · exact (((bel.trans (belR.mono bel.size)).setCell (p := ⟨b5, 0, none⟩) (by simp; omega) _ |>.setCell (p := ⟨b5, 1, none⟩) (by simp; omega) _).setCell (by simp; omega) _).setCell (by simp; omega) _
    · go_simp
      refine hK.out _ _ ?_ (fun hHeld => ?_)
      · exact ⟨⟨(Bx.below (bel_al belR (.cells #[.bool false, .slice none 0 0] 31))).c0, (Bx.below (bel_al belR (.cells #[.bool false, .slice none 0 0] 31))).c1⟩, (By.below (bel_al belR (.cells #[.bool false, .slice none 0 0] 31))).c0, (By.below (bel_al belR (.cells #[.bool false, .slice none 0 0] 31))).c1⟩
      clear hK K
      try simp only [Act.put, Ls]
      obtain ⟨b5, h2⟩ : ∃ q, q = v1.heap.size := ⟨_, rfl⟩
      have hb5 : W.heap.size ≤ b5 := by have := belR.size; omega
      have B5 := R2.new v1 (.bool false) (.slice none 0 0) 31
      rw [← h2] at B5 ⊢
      have ng2_5 : ∀ g, a2 = some ⟨g, 0, none⟩ → g ≠ b5 := fun g h => by have := (own_at o2 g h).2; omega
      replace o2 := o2.below (al_b _ (.cells #[.bool false, .slice none 0 0] 31))
      replace belR := bel_al belR (.cells #[.bool false, .slice none 0 0] 31)
      clear h2
      generalize v1.alloc (.cells #[.bool false, .slice none 0 0] 31) = v2 at B5 belR hHeld o2 ⊢
      refine rdy 3 rfl (fun K hK => ?_)
      go_simp
      go_at_call 72
      refine (CA.out a2 c2 _ (hx.below belR) o2.sl).mono ?_
      have hl5 : b5 < v2.heap.size := World.block_lt_of_cell? _ _ B5.c0
      rintro r v3 ⟨a3, c3, rfl, o3, hb'⟩
      replace o2 := o2.below hb'
      replace B5 := B5.below hb'
      have hz' := belR.size
      replace belR := bel_go belR hb'
      have ng3_5 : ∀ g, a3 = some ⟨g, 0, none⟩ → g ≠ b5 := fun g h => by have := (own_at o3 g h).1; omega
      replace o3 := Own.base o3 (B' := W.heap.size) (by omega)
      clear hl5
      clear hb' hz'
      refine hK.out _ _ ?_ (fun hHeld => ?_)
      · exact ⟨⟨(Bx.below belR).c0, (Bx.below belR).c1⟩, (By.below belR).c0, (By.below belR).c1⟩
      clear hK K
      try simp only [Act.put, Ls]
      refine tk 4 ?_ rfl (Or.inl ⟨by rfl, ?_⟩) ?_
      rotate_left
      · (intro w hSw; go_simp; try (with_reducible rfl))
      try simp only [Act.put, Ls]
      refine tk 5 ?_ rfl (Or.inl ⟨by rfl, ?_⟩) ?_
      rotate_left
      · (intro w hSw; go_simp; try (with_reducible rfl))
      try simp only [Act.put, Ls]
      refine tk 6 ?_ rfl (Or.inl ⟨by rfl, ?_⟩) ?_
      rotate_left
      · (intro w hSw; go_simp; try (with_reducible rfl))
      try simp only [Act.put, Ls]
      refine rdy 8 rfl (fun K hK => ?_)
      have ⟨y50, y51, y52, y53⟩ := B5
      go_simp
      have belS := ((belR.setCell (p := ⟨b5, 0, none⟩) (by simpa using hb5) (.bool gz)).setCell (p := ⟨b5, 1, none⟩) (by simpa using hb5) (.slice a3 Z.length c3))
      refine hK.out _ _ ?_ (fun hHeld => ?_)
      · exact ⟨⟨(Bx.below belS).c0, (Bx.below belS).c1⟩, (By.below belS).c0, (By.below belS).c1⟩
      clear hK K
      try simp only [Act.put, Ls]
      refine rdy 9 rfl (fun K hK => ?_)
      go_simp
      refine hK.out _ _ ?_ (fun hHeld => ?_)
      · exact ⟨⟨(Bx.below belS).c0, (Bx.below belS).c1⟩, (By.below belS).c0, (By.below belS).c1⟩
      clear hK K
      try simp only [Act.put, Ls]
      refine wpAnyH_done (by kernel_rfl) ?_ _
      have Br' := Br.below belS
      obtain ⟨kr0, kr1, lr0, lr1⟩ := id Br'
      obtain ⟨kx0, kx1, mx0, mx1⟩ := id (R2.set B5 (.bool gz) (.slice a3 Z.length c3))
      go_wp2
      refine bodyPost_ret (v := .agg #[.bool gz, .slice a3 Z.length c3]) (by simp [results, Tryz.results24, go_sem, kr0, kr1, kx0, kx1]) rfl ⟨a3, c3, rfl, ?_, ?_⟩
      · exact ((((o3.setOther ng3_5 _).setOther ng3_5 _).setOther (fun g h => by have := (own_at o3 g h).1; simp; omega) _).setOther (fun g h => by have := (own_at o3 g h).1; simp; omega) _).sl
      · exact (((bel.trans (belR.mono bel.size)).setCell (p := ⟨b5, 0, none⟩) (by simp; omega) _ |>.setCell (p := ⟨b5, 1, none⟩) (by simp; omega) _).setCell (by simp; omega) _).setCell (by simp; omega) _
  · go_simp
    refine hK.out _ _ ?_ (fun hHeld => ?_)
    · exact ⟨⟨(Bx.below (bel_al belR (.cells #[.bool false, .slice none 0 0] 31))).c0, (Bx.below (bel_al belR (.cells #[.bool false, .slice none 0 0] 31))).c1⟩, (By.below (bel_al belR (.cells #[.bool false, .slice none 0 0] 31))).c0, (By.below (bel_al belR (.cells #[.bool false, .slice none 0 0] 31))).c1⟩
    clear hK K
    try simp only [Act.put, Ls]
    obtain ⟨b5, h2⟩ : ∃ q, q = v0.heap.size := ⟨_, rfl⟩
    have hb5 : W.heap.size ≤ b5 := by have := belR.size; omega
    have B5 := R2.new v0 (.bool false) (.slice none 0 0) 31
    rw [← h2] at B5 ⊢
    replace belR := bel_al belR (.cells #[.bool false, .slice none 0 0] 31)
    clear h2
    generalize v0.alloc (.cells #[.bool false, .slice none 0 0] 31) = v1 at B5 belR hHeld ⊢
    refine rdy 2 rfl (fun K hK => ?_)
    go_simp
    go_at_call 73
    refine (CN.out _ (hy.below belR)).mono ?_
    have hl5 : b5 < v1.heap.size := World.block_lt_of_cell? _ _ B5.c0
    rintro r v2 ⟨a2, c2, rfl, o2, hb'⟩
    replace B5 := B5.below hb'
    have hz' := belR.size
    replace belR := bel_go belR hb'
    have ng2_5 : ∀ g, a2 = some ⟨g, 0, none⟩ → g ≠ b5 := fun g h => by have := (own_at o2 g h).1; omega
    replace o2 := Own.base o2 (B' := W.heap.size) (by omega)
    clear hl5
    clear hb' hz'
    refine hK.out _ _ ?_ (fun hHeld => ?_)
    · exact ⟨⟨(Bx.below belR).c0, (Bx.below belR).c1⟩, (By.below belR).c0, (By.below belR).c1⟩
    clear hK K
    try simp only [Act.put, Ls]
    refine rdy 3 rfl (fun K hK => ?_)
    go_simp
    go_at_call 72
    refine (CA.out a2 c2 _ (hx.below belR) o2.sl).mono ?_
    have hl5 : b5 < v2.heap.size := World.block_lt_of_cell? _ _ B5.c0
    rintro r v3 ⟨a3, c3, rfl, o3, hb'⟩
    replace o2 := o2.below hb'
    replace B5 := B5.below hb'
    have hz' := belR.size
    replace belR := bel_go belR hb'
    have ng3_5 : ∀ g, a3 = some ⟨g, 0, none⟩ → g ≠ b5 := fun g h => by have := (own_at o3 g h).1; omega
    replace o3 := Own.base o3 (B' := W.heap.size) (by omega)
    clear hl5
    clear hb' hz'
    refine hK.out _ _ ?_ (fun hHeld => ?_)
    · exact ⟨⟨(Bx.below belR).c0, (Bx.below belR).c1⟩, (By.below belR).c0, (By.below belR).c1⟩
    clear hK K
    try simp only [Act.put, Ls]
    refine tk 4 ?_ rfl (Or.inl ⟨by rfl, ?_⟩) ?_
    rotate_left
    · (intro w hSw; go_simp; try (with_reducible rfl))
    try simp only [Act.put, Ls]
    refine tk 5 ?_ rfl (Or.inl ⟨by rfl, ?_⟩) ?_
    rotate_left
    · (intro w hSw; go_simp; try (with_reducible rfl))
    try simp only [Act.put, Ls]
    refine tk 6 ?_ rfl (Or.inl ⟨by rfl, ?_⟩) ?_
    rotate_left
    · (intro w hSw; go_simp; try (with_reducible rfl))
    try simp only [Act.put, Ls]
    refine rdy 8 rfl (fun K hK => ?_)
    have ⟨y50, y51, y52, y53⟩ := B5
    go_simp
    have belS := ((belR.setCell (p := ⟨b5, 0, none⟩) (by simpa using hb5) (.bool gz)).setCell (p := ⟨b5, 1, none⟩) (by simpa using hb5) (.slice a3 Z.length c3))
    refine hK.out _ _ ?_ (fun hHeld => ?_)
    · exact ⟨⟨(Bx.below belS).c0, (Bx.below belS).c1⟩, (By.below belS).c0, (By.below belS).c1⟩
    clear hK K
    try simp only [Act.put, Ls]
    refine rdy 9 rfl (fun K hK => ?_)
    go_simp
    refine hK.out _ _ ?_ (fun hHeld => ?_)
    · exact ⟨⟨(Bx.below belS).c0, (Bx.below belS).c1⟩, (By.below belS).c0, (By.below belS).c1⟩
    clear hK K
    try simp only [Act.put, Ls]
    refine wpAnyH_done (by kernel_rfl) ?_ _
    have Br' := Br.below belS
    obtain ⟨kr0, kr1, lr0, lr1⟩ := id Br'
    obtain ⟨kx0, kx1, mx0, mx1⟩ := id (R2.set B5 (.bool gz) (.slice a3 Z.length c3))
    go_wp2
    refine bodyPost_ret (v := .agg #[.bool gz, .slice a3 Z.length c3]) (by simp [results, Tryz.results24, go_sem, kr0, kr1, kx0, kx1]) rfl ⟨a3, c3, rfl, ?_, ?_⟩
    · exact ((((o3.setOther ng3_5 _).setOther ng3_5 _).setOther (fun g h => by have := (own_at o3 g h).1; simp; omega) _).setOther (fun g h => by have := (own_at o3 g h).1; simp; omega) _).sl
    · exact (((bel.trans (belR.mono bel.size)).setCell (p := ⟨b5, 0, none⟩) (by simp; omega) _ |>.setCell (p := ⟨b5, 1, none⟩) (by simp; omega) _).setCell (by simp; omega) _).setCell (by simp; omega) _
end Fd
theorem own_apart {w : World} {B : Nat} {a : Option Addr} {c : Nat} {L : List Int} {b : Nat} (ho : Own w B a c L) (v : Bool) (hc : w.cell? ⟨b, 0, none⟩ = some (.bool v)) : L = [] ∨ ∀ g, a = some ⟨g, 0, none⟩ → g ≠ b := by
  by_cases hL : L = []
  · exact .inl hL
  · right
    intro g hg e
    subst e
    obtain ⟨-, -, -, h⟩ := ho.sl.cells
    have hpos : 0 < L.length := List.length_pos_iff.2 hL
    obtain ⟨b', off, h1, h2⟩ := h hpos
    rw [hg] at h1
    cases h1
    have h3 := h2 0 hpos
    rw [hc] at h3
    cases h3
theorem own_keep {w : World} {B : Nat} {a : Option Addr} {c : Nat} {L : List Int} {b : Nat} (ho : Own w B a c L) (ap : L = [] ∨ ∀ g, a = some ⟨g, 0, none⟩ → g ≠ b) (u0 u1 u2 u3 u4 : Value) :
    Sl .u32 (((((w.setCell ⟨b, 0, none⟩ u0).setCell ⟨b, 1, none⟩ u1).setCell ⟨b, 2, none⟩ u2).setCell ⟨b, 3, none⟩ u3).setCell ⟨b, 4, none⟩ u4) (.slice a L.length c) L := by
  rcases ap with rfl | h
  · obtain ⟨a', cap, h1, h2, h3, -⟩ := ho.sl
    exact ⟨a', cap, h1, h2, h3, .inl rfl⟩
  · exact (((((ho.setOther h u0).setOther h u1).setOther h u2).setOther h u3).setOther h u4).sl
end Go.Proofs.YtmcflggionkhlaaGreatDoor
