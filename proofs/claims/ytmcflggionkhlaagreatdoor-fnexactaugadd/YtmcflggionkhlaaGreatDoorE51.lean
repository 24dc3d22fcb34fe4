/-
  What is needed of AU, AZ.
-/
import Derived.Test.YtmcflggionkhlaaGreatDoorE47
import Derived.Test.YtmcflggionkhlaaGreatDoorE48
set_option maxHeartbeats 16000000
set_option maxRecDepth 1000000
namespace Go.Proofs.YtmcflggionkhlaaGreatDoor
set_option linter.unusedVariables false
set_option linter.unusedSimpArgs false
open Go.RowKit Go.Deep
theorem tot_all (fm mode x y : Int) (u : Value) (x0 : 0 ≤ x) (x1 : x < 18446744073709551616) (y0 : 0 ≤ y) (y1 : y < 18446744073709551616) (ho : muO fm mode x y = true) :
    ∃ (sg inf G : Bool) (L : List Int) (E : Int) (n b : Bool) (rb rf : Int), TotAt u fm mode x y sg inf G L E n b ∧ L.length ≤ 200 ∧ Nm.Dg L ∧ (n = false → inf = false → L.length ≠ 0 → RdO fm mode G L E = true ∧ rb = RdB fm mode G L E ∧ rf = RdF fm mode G L E) ∧ adB fm mode x y = tdB (nanOf fm) (infOf fm) (sgOf fm) n inf (decide (L.length = 0)) sg rb ∧ adF fm mode x y = tdF n b inf (decide (L.length = 0)) rf ∧ ((n = false ∧ inf = false) → finB fm x = true ∧ finB fm y = true ∧ ∃ z, G = Nm.wn z ∧ L = Nm.wl z ∧ (unI fm x + unI fm y) = z * 2 ^ (E - unQ fm).toNat ∧ 0 ≤ E - unQ fm ∧ E ≤ 2000) := by
  obtain ⟨hm, ha⟩ : modeB mode = true ∧ allB fm [x, y] = true := by have : (modeB mode && allB fm [x, y]) = true := ho; simpa using this
  obtain ⟨hx, hy⟩ := all2 ha
  have hfm := ok_fmt hx
  have NX := numAt (u := u) hx x0 x1
  have NY := numAt (u := u) hy y0 y1
  cases hn : (nanB fm x || nanB fm y)
  · obtain ⟨nx, ny⟩ : nanB fm x = false ∧ nanB fm y = false := by simpa using hn
    have hB' : adB fm mode x y = aB fm mode x y := by unfold adB; rw [ho, if_pos rfl, hn]; rfl
    have hF' : adF fm mode x y = aF fm mode x y := by unfold adF; rw [ho, if_pos rfl, hn]; rfl
    have sx : nS fm x = sigB fm x := by unfold nS; rw [nx]; rfl
    have sy : nS fm y = sigB fm y := by unfold nS; rw [ny]; rfl
    unfold aB at hB'
    unfold aF at hF'
    cases ix : nI fm x
    · rw [ix] at hB' hF' NX
      cases iy : nI fm y
      · rw [iy] at hB' hF' NY
        have fx := (nan_cases hx nx).resolve_right (by rw [ix]; decide)
        have fy := (nan_cases hy ny).resolve_right (by rw [iy]; decide)
        have b1 := nZ_bd fm x
        have b2 := nZ_bd fm y
        obtain ⟨em, hem⟩ : ∃ em, em = min (nE fm x) (nE fm y) := ⟨_, rfl⟩
        obtain ⟨z, hz⟩ : ∃ z, z = nZ fm x * 2 ^ (nE fm x - em).toNat + nZ fm y * 2 ^ (nE fm y - em).toNat := ⟨_, rfl⟩
        obtain ⟨hu, hq⟩ := sum_z hx hy fx fy em hem z hz
        have hqb := unq_bd fm
        have hul := uu_len fm x y
        have hzl : (Nm.wl z).length ≤ 200 := by
          have h1 := len_bl (x := (unI fm x + unI fm y).natAbs) (k := 200) hul
          have h2 := Nm.bl_mono (sum_abs hu)
          unfold Nm.wl; exact lim_len (k := 200) (by omega)
        have lx := nzs_len (fm := fm) (x := x) (em := em) (by omega) (by omega)
        have ly := nzs_len (fm := fm) (x := y) (em := em) (by omega) (by omega)
        have hz0 : (unI fm x + unI fm y) = 0 ↔ z = 0 := by
          rw [hu]; constructor
          · intro h
            rcases Int.mul_eq_zero.1 h with h' | h'
            · exact h'
            · exact absurd h' (Int.ne_of_gt (Int.pow_pos (by decide)))
          · intro h; rw [h, Int.zero_mul]
        have hl0 : decide ((Nm.wl z).length = 0) = decide ((unI fm x + unI fm y) = 0) := by
          rw [Bool.eq_iff_iff, decide_eq_true_eq, decide_eq_true_eq, hz0]; unfold Nm.wl; rw [Nm.lim_length_zero]; omega
        have hP := tot_num fm mode x y u _ _ _ _ _ _ _ _ _ _ _ _ _ _ NX NY hn (plN (decide ((Nm.wl z).length = 0)) (nS fm x) (nS fm y) (Nm.wn z) mode) false (Nm.wn z) (Nm.wl z) em false false
          (fun Q a1 c1 a2 c2 w hQ h1 h2 => (plus_fin (nS fm x) (Nm.wn (nZ fm x)) (Nm.wl (nZ fm x)) (nE fm x) a1 c1 (nS fm y) (Nm.wn (nZ fm y)) (Nm.wl (nZ fm y)) (nE fm y) a2 c2 mode w em hem (by omega) (by omega) h1.sl h2.sl (Nm.wn (nZ fm x * 2 ^ (nE fm x - em).toNat)) (Nm.wl (nZ fm x * 2 ^ (nE fm x - em).toNat)) (Nm.wn (nZ fm y * 2 ^ (nE fm y - em).toNat)) (Nm.wl (nZ fm y * 2 ^ (nE fm y - em).toNat)) (Nm.wn z) (Nm.wl z) _ rfl hzl
            (fun w' h => wsh_at2 _ a1 c1 _ (nE fm x - em) w' h (Nm.wl_dg _) (okB_wl (nZ_len fm x)) (by omega) (by omega) _ (shz _ _ (by omega)).symm lx)
            (fun w' h => wsh_at2 _ a2 c2 _ (nE fm y - em) w' h (Nm.wl_dg _) (okB_wl (nZ_len fm y)) (by omega) (by omega) _ (shz _ _ (by omega)).symm ly)
            (fun av cv aw cw w' h h' => add_ok av aw cv cw w' h h' (Nm.wl_dg _) (Nm.wl_dg _) (okB_wl lx) (okB_wl ly) z (by rw [Nm.wv_out, Nm.wv_out]; exact hz) (by unfold Nm.fits; exact decide_eq_true hzl))).mono fun r w' ⟨a, c, hr, ho, hb⟩ => ⟨a, c, _, hr, EK.no, ho.base hQ, hb⟩)
        have hro : z ≠ 0 → RdO fm mode (Nm.wn z) (Nm.wl z) em = true ∧ RdB fm mode (Nm.wn (unI fm x + unI fm y)) (Nm.wl (unI fm x + unI fm y)) (unQ fm) = RdB fm mode (Nm.wn z) (Nm.wl z) em ∧ RdF fm mode (Nm.wn (unI fm x + unI fm y)) (Nm.wl (unI fm x + unI fm y)) (unQ fm) = RdF fm mode (Nm.wn z) (Nm.wl z) em := by
          intro hzz
          have o1 := rdo_any (fm := fm) (mode := mode) (z := z) (e := em) hfm hm hzl (by omega) (by omega)
          have o2 := rdo_any (fm := fm) (mode := mode) (z := (unI fm x + unI fm y)) (e := unQ fm) hfm hm hul (by omega) (by omega)
          have hd : unQ fm = em - ((em - unQ fm).toNat : Nat) := by omega
          rw [hu] at o2 ⊢
          rw [hd] at o2 ⊢
          have e2 : (em - (em - ((em - unQ fm).toNat : Nat))).toNat = (em - unQ fm).toNat := by omega
          rw [e2] at o2 ⊢
          obtain ⟨q1, q2⟩ := Rd_scale fm mode z (em - unQ fm).toNat em hzz o1 o2
          exact ⟨o1, q1, q2⟩
        have hzn : (Nm.wl z).length ≠ 0 → z ≠ 0 := by
          intro h e; apply h; rw [e]; have : Nm.wl 0 = [] := Nm.lim_zero
          rw [this]; rfl
        refine ⟨_, _, _, _, _, _, _, (RdB fm mode (Nm.wn (unI fm x + unI fm y)) (Nm.wl (unI fm x + unI fm y)) (unQ fm)), (RdF fm mode (Nm.wn (unI fm x + unI fm y)) (Nm.wl (unI fm x + unI fm y)) (unQ fm)), hP, hzl, (Nm.wl_dg _), (fun _ _ h => hro (hzn h)), ?_, ?_, ?_⟩
        · rw [hB', hl0, sx, sy]; unfold tdB plN
          by_cases h0 : (unI fm x + unI fm y) = 0
          · rw [decide_eq_true h0]; simp [h0]
          · rw [decide_eq_false h0]; simp [h0]
        · rw [hF', hl0]; unfold tdF
          by_cases h0 : (unI fm x + unI fm y) = 0
          · rw [decide_eq_true h0]; simp [h0]
          · rw [decide_eq_false h0]; simp [h0]
        · exact fun _ => ⟨fx, fy, z, rfl, rfl, hu, hq, by omega⟩
      · rw [iy] at hB' hF' NY
        obtain ⟨-, ey⟩ := inf_eq hy hy y0 y1 y0 y1 iy iy
        have z2 := nI_z hy iy
        have hP := tot_num fm mode x y u _ _ _ _ _ _ _ _ _ _ _ _ _ _ NX NY hn (nS fm y) true (Nm.wn (nZ fm y)) (Nm.wl (nZ fm y)) (nE fm y) false false
          (fun Q a1 c1 a2 c2 w hQ h1 h2 => (plus_inf2 (nS fm x) false (Nm.wn (nZ fm x)) (Nm.wl (nZ fm x)) (nE fm x) a1 c1 (nS fm y) true (Nm.wn (nZ fm y)) (Nm.wl (nZ fm y)) (nE fm y) a2 c2 mode w rfl rfl).mono fun r w' ⟨hr, hb⟩ => ⟨a2, c2, _, hr, EK.no, h2.below hb, hb⟩)
        refine ⟨_, _, _, _, _, _, _, 0, 0, hP, (nZ_len fm y), (Nm.wl_dg _), (fun _ h => by cases h), ?_, ?_, ?_⟩
        · rw [hB', sy]; unfold tdB; simp; exact ey
        · rw [hF']; unfold tdF; simp
        · exact fun h => absurd h (by simp)
    · rw [ix] at hB' hF' NX
      obtain ⟨-, ex⟩ := inf_eq hx hx x0 x1 x0 x1 ix ix
      cases hod : (nI fm y && (x != y))
      · have hor : nI fm y = false ∨ (nS fm x != nS fm y) = false := by
          cases iy : nI fm y
          · exact .inl rfl
          · right
            rw [iy] at hod
            rw [sx, sy, ← (inf_eq hx hy x0 x1 y0 y1 ix iy).1]; simpa using hod
        have hP := tot_num fm mode x y u _ _ _ _ _ _ _ _ _ _ _ _ _ _ NX NY hn (nS fm x) true (Nm.wn (nZ fm x)) (Nm.wl (nZ fm x)) (nE fm x) false false
          (fun Q a1 c1 a2 c2 w hQ h1 h2 => (plus_inf1 (nS fm x) true (Nm.wn (nZ fm x)) (Nm.wl (nZ fm x)) (nE fm x) a1 c1 (nS fm y) (nI fm y) (Nm.wn (nZ fm y)) (Nm.wl (nZ fm y)) (nE fm y) a2 c2 mode w rfl hor).mono fun r w' ⟨hr, hb⟩ => ⟨a1, c1, _, hr, EK.no, h1.below hb, hb⟩)
        refine ⟨_, _, _, _, _, _, _, 0, 0, hP, (nZ_len fm x), (Nm.wl_dg _), (fun _ h => by cases h), ?_, ?_, ?_⟩
        · rw [hB', Bool.true_and, hod, sx]; unfold tdB; simp; exact ex
        · rw [hF', Bool.true_and, hod]; unfold tdF; simp
        · exact fun h => absurd h (by simp)
      · obtain ⟨iy, hxy⟩ : nI fm y = true ∧ (x != y) = true := by rw [Bool.and_eq_true] at hod; exact hod
        rw [iy] at NY
        have hss : (nS fm x != nS fm y) = true := by rw [sx, sy, ← (inf_eq hx hy x0 x1 y0 y1 ix iy).1]; exact hxy
        have hP := tot_num fm mode x y u _ _ _ _ _ _ _ _ _ _ _ _ _ _ NX NY hn false false false [] 0 true true
          (fun Q a1 c1 a2 c2 w hQ h1 h2 => (plus_odd (nS fm x) true (Nm.wn (nZ fm x)) (Nm.wl (nZ fm x)) (nE fm x) a1 c1 (nS fm y) true (Nm.wn (nZ fm y)) (Nm.wl (nZ fm y)) (nE fm y) a2 c2 mode w rfl rfl hss).mono fun r w' ⟨s, hr, hb⟩ => ⟨none, 0, _, hr, EK.bad s, Own.nil _ _, hb⟩)
        refine ⟨_, _, _, _, _, _, _, 0, 0, hP, (by simp), Nm.Dg.nil, (fun h => by cases h), ?_, ?_, ?_⟩
        · rw [hB', Bool.true_and, hod]; rfl
        · rw [hF', Bool.true_and, hod]; rfl
        · exact fun h => absurd h (by simp)
  · have hB' : adB fm mode x y = nanOf fm := by unfold adB; rw [ho, if_pos rfl, hn]; rfl
    have hF' : adF fm mode x y = fl8 (nB fm x || nB fm y) := by unfold adF; rw [ho, if_pos rfl, hn]; rfl
    have hP := tot_nan fm mode x y u _ _ _ _ _ _ _ _ _ _ _ _ _ _ NX NY hn _ rfl
    refine ⟨_, _, _, _, _, _, _, 0, 0, hP, (by simp), Nm.Dg.nil, (fun h => by cases h), ?_, ?_, ?_⟩
    · rw [hB']; rfl
    · rw [hF']; unfold tdF; cases (nB fm x || nB fm y) <;> rfl
    · exact fun h => absurd h (by simp)
theorem aai_impl (fm x y : Int) (u : Value) (w : World) (hE : E3 u w) (x0 : 0 ≤ x) (x1 : x < 18446744073709551616) (y0 : 0 ≤ y) (y1 : y < 18446744073709551616) (H T F : Int) (O : Bool) (hH : H = aaB fm x y) (hT : T = aaT fm x y) (hF : F = aaF fm x y) (hO : O = muO fm 5 x y) :
    Calls Tryz.prog 39 #[.int .i64 fm, .int .u64 x, .int .u64 y] w fun r w' => r = .returned (.tuple #[.agg #[.int .u64 H, .int .u64 T], .int .i64 F, .bool O]) ∧ Below w.heap.size w w' := by
  have CF := hid (fun w' k k' => fok_impl fm 5 (some ⟨w.heap.size + 1, 0, none⟩) 2 [x, y] w' k k' (d64_2 x0 x1 y0 y1) (by simp))
  cases ho : muO fm 5 x y
  · have ho' : (modeB 5 && allB fm [x, y]) = false := ho
    rw [ho'] at CF
    have g1 : H = 0 := by rw [hH]; unfold aaB; rw [ho]; rfl
    have g2 : T = 0 := by rw [hT]; unfold aaT; rw [ho]; rfl
    have g3 : F = 0 := by rw [hF]; unfold aaF; rw [ho]; rfl
    rw [g1, g2, g3, hO, ho]
    clear g1 g2 g3 hH hT hF hO ho ho' x0 x1 y0 y1
    have bel := Below.refl w.heap.size w
    go_enter Tryz.func39, Tryz.ntmps39
    replace hE := hE.below (al_b _ (.cells #[.int .u64 0, .int .u64 0] 54))
    replace bel := bel_al bel (.cells #[.int .u64 0, .int .u64 0] 54)
    have Br := R2.new w (.int .u64 0) (.int .u64 0) 54
    have s2 := sl64_2 (w.alloc (.cells #[.int .u64 0, .int .u64 0] 54)) x y 24
    have hsz : (w.alloc (.cells #[.int .u64 0, .int .u64 0] 54)).heap.size = w.heap.size + 1 := by simp
    rw [hsz] at s2
    clear hsz
    replace Br := Br.below (al_b _ (.cells #[.int .u64 x, .int .u64 y] 24))
    replace hE := hE.below (al_b _ (.cells #[.int .u64 x, .int .u64 y] 24))
    replace bel := bel_al bel (.cells #[.int .u64 x, .int .u64 y] 24)
    obtain ⟨kr0, kr1, -, -⟩ := id Br
    go_wp2_with fail
    refine (CF.out _ hE.t.s.f s2).mono ?_
    rintro r w1 ⟨rfl, hb⟩
    clear kr0 kr1
    replace bel := bel_go bel hb
    replace hE := hE.below hb
    replace Br := Br.below hb
    clear hb
    clear s2
    obtain ⟨kr0, kr1, -, -⟩ := id Br
    obtain ⟨-, -, lr0, lr1⟩ := id Br
    go_wp2
    refine bodyPost_ret (v := .tuple #[.agg #[.int .u64 0, .int .u64 0], .int .i64 0, .bool false]) (by simp [results, Tryz.results39, go_sem, kr0, kr1, lr0, lr1]) rfl ⟨rfl, ((bel.setCell (by simp) _).setCell (by simp) _)⟩
  · have ho' : (modeB 5 && allB fm [x, y]) = true := ho
    rw [ho'] at CF
    rw [hO, ho]
    obtain ⟨k1, k2, k3, k4⟩ := ad_head (mode := 5) x0 x1 y0 y1 ho
    have hx := (all2 (by have k := ho; unfold muO at k; simp only [Bool.and_eq_true] at k; exact k.2)).1
    have hy := (all2 (by have k := ho; unfold muO at k; simp only [Bool.and_eq_true] at k; exact k.2)).2
    have hfm := ok_fmt hx
    have hq := unq_bd fm
    have g1 : H = adB fm 5 x y := by rw [hH]; unfold aaB; rw [if_pos ho]
    have g2 : T = auT fm (adB fm 5 x y) (asX fm x y) := by rw [hT]; unfold aaT; rw [if_pos ho]
    have g3 : F = auF fm (adB fm 5 x y) (adF fm 5 x y) (asX fm x y) := by rw [hF]; unfold aaF; rw [if_pos ho]
    rw [← g1] at g2 g3 k1 k2 k3 k4
    obtain ⟨sg, inf, G, L, E, n, b, rb, rf, hp, hl, hd, hro, hB, hF0, hfn⟩ := tot_all fm 5 x y u x0 x1 y0 y1 ho
    rw [← g1] at hB
    have hz : finB fm H = true → inf = false ∧ ∃ z, G = Nm.wn z ∧ L = Nm.wl z ∧ asX fm x y = z * 2 ^ (E - 2 * unQ fm).toNat ∧ 2 * unQ fm ≤ E ∧ E ≤ 4000 ∧ bitLen z.natAbs + (E - 2 * unQ fm).toNat ≤ 6300 := fun k => by
      have ⟨n0, i0⟩ := fin_td hfm n inf (decide (L.length = 0)) sg rb (by rw [← hB]; exact k)
      obtain ⟨-, -, z, q1, q2, q3, q4, q5⟩ := hfn ⟨n0, i0⟩
      have e1 : asX fm x y = z * 2 ^ (E - 2 * unQ fm).toNat := by unfold asX; rw [q3, Int.mul_assoc, ← Int.pow_add, show (E - unQ fm).toNat + (-unQ fm).toNat = (E - 2 * unQ fm).toNat by omega]
      exact ⟨i0, z, q1, q2, e1, by omega, by omega, bz_of e1 (by have := asX_bl fm x y; omega) (by omega)⟩
    have CP := hid hp
    have CG := hid (fun a c ev hk w' k k' => aug_x fm hfm sg inf G L E a c u ev n b hk w' k k' hd hl rb rf hro H (adF fm 5 x y) (asX fm x y) T F hB hF0 k1 k2 k3 hz g2 g3)
    clear hH hT hF hO ho ho' k1 k2 k3 k4 hx hy hfm hq g1 g2 g3 hp hl hd hro hB hF0 hz hfn x0 x1 y0 y1
    have bel := Below.refl w.heap.size w
    go_enter Tryz.func39, Tryz.ntmps39
    replace hE := hE.below (al_b _ (.cells #[.int .u64 0, .int .u64 0] 54))
    replace bel := bel_al bel (.cells #[.int .u64 0, .int .u64 0] 54)
    have Br := R2.new w (.int .u64 0) (.int .u64 0) 54
    have s2 := sl64_2 (w.alloc (.cells #[.int .u64 0, .int .u64 0] 54)) x y 24
    have hsz : (w.alloc (.cells #[.int .u64 0, .int .u64 0] 54)).heap.size = w.heap.size + 1 := by simp
    rw [hsz] at s2
    clear hsz
    replace Br := Br.below (al_b _ (.cells #[.int .u64 x, .int .u64 y] 24))
    replace hE := hE.below (al_b _ (.cells #[.int .u64 x, .int .u64 y] 24))
    replace bel := bel_al bel (.cells #[.int .u64 x, .int .u64 y] 24)
    obtain ⟨kr0, kr1, -, -⟩ := id Br
    go_wp2_with fail
    refine (CF.out _ hE.t.s.f s2).mono ?_
    rintro r w1 ⟨rfl, hb⟩
    clear kr0 kr1
    replace bel := bel_go bel hb
    replace hE := hE.below hb
    replace Br := Br.below hb
    clear hb
    clear s2
    obtain ⟨kr0, kr1, -, -⟩ := id Br
    go_wp2_with fail
    refine (CP.out _ hE.ee).mono ?_
    rintro r w2 ⟨a2, c2, ev, rfl, kv, o2, hb⟩
    clear kr0 kr1
    replace bel := bel_go bel hb
    replace hE := hE.below hb
    replace Br := Br.below hb
    clear hb
    have s2 := o2.sl
    clear o2
    replace hE := hE.below (al_b _ (.cells #[.bool sg, .bool inf, .bool G, .slice a2 L.length c2, .int .i64 E] 99))
    replace Br := Br.below (al_b _ (.cells #[.bool sg, .bool inf, .bool G, .slice a2 L.length c2, .int .i64 E] 99))
    replace s2 := s2.below (al_b _ (.cells #[.bool sg, .bool inf, .bool G, .slice a2 L.length c2, .int .i64 E] 99))
    replace bel := bel_al bel (.cells #[.bool sg, .bool inf, .bool G, .slice a2 L.length c2, .int .i64 E] 99)
    have Bx := Q5.new w2 (.bool sg) (.bool inf) (.bool G) (.slice a2 L.length c2) (.int .i64 E) 99
    obtain ⟨kr0, kr1, -, -⟩ := id Br
    obtain ⟨kx0, kx1, kx2, kx3, kx4, -, -, -, -, -⟩ := id Bx
    go_wp2_with fail
    refine (CG.out a2 c2 ev kv _ hE s2).mono ?_
    rintro r w3 ⟨rfl, hb⟩
    clear kr0 kr1 kx0 kx1 kx2 kx3 kx4
    replace bel := bel_go bel hb
    replace hE := hE.below hb
    replace Br := Br.below hb
    replace s2 := s2.below hb
    replace Bx := Bx.below hb
    clear hb
    obtain ⟨kr0, kr1, -, -⟩ := id Br
    obtain ⟨kx0, kx1, kx2, kx3, kx4, -, -, -, -, -⟩ := id Bx
    obtain ⟨-, -, lr0, lr1⟩ := id Br
    go_wp2
    refine bodyPost_ret (v := .tuple #[.agg #[.int .u64 H, .int .u64 T], .int .i64 F, .bool true]) (by simp [results, Tryz.results39, go_sem, kr0, kr1, kx0, kx1, kx2, kx3, kx4, lr0, lr1]) rfl ⟨rfl, ((bel.setCell (by simp) _).setCell (by simp) _)⟩
end Go.Proofs.YtmcflggionkhlaaGreatDoor
