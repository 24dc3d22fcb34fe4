/-
  What is needed of AZ.
-/
import Derived.Test.YtmcflggionkhlaaGreatDoorE47
import Derived.Test.YtmcflggionkhlaaGreatDoorE50
set_option maxHeartbeats 16000000
set_option maxRecDepth 1000000
namespace Go.Proofs.YtmcflggionkhlaaGreatDoor
set_option linter.unusedVariables false
set_option linter.unusedSimpArgs false
open Go.RowKit Go.Deep
theorem odd_iz {fm x y : Int} (hx : okF fm x = true) (hy : okF fm y = true) : odd2 fm x y = ((nI fm x || nI fm y) && (zF fm x || zF fm y)) := by
  unfold odd2
  cases hi : nI fm x
  · cases hj : nI fm y
    · simp
    · rw [zF_inf hy hj]; simp
  · rw [zF_inf hx hi]; simp
theorem zlen2 {fm x y : Int} (hx : okF fm x = true) (hy : okF fm y = true) (fx : finB fm x = true) (fy : finB fm y = true) : decide ((Nm.wl (nZ fm x * nZ fm y)).length = 0) = (zF fm x || zF fm y) := by
  rw [zF_fin hx fx, zF_fin hy fy, Bool.eq_iff_iff, Bool.or_eq_true, decide_eq_true_eq, decide_eq_true_eq, decide_eq_true_eq, ← Int.mul_eq_zero]
  unfold Nm.wl; rw [Nm.lim_length_zero]; omega
theorem nb_nan {fm x : Int} (hx : okF fm x = true) (h : nanB fm x = false) : nB fm x = false := by
  rcases nan_cases hx h with hf | hi
  · exact (fin_facts hx hf).2.2.2.2.2
  · have h3 : cls fm x = 3 := by simpa [nI] using hi
    unfold nB; rw [h3]; rfl
theorem prod_td {fm x y : Int} (x0 : 0 ≤ x) (x1 : x < 18446744073709551616) (y0 : 0 ≤ y) (y1 : y < 18446744073709551616) (ho : muO fm 5 x y = true) {sg inf G : Bool} {L : List Int} {E : Int} (hl : L.length ≤ 200) (hd : Nm.Dg L) (b0 : -3000 ≤ E) (b1 : E ≤ 4000) (hfn : (nanB fm x || nanB fm y || odd2 fm x y) = false → sg = (sigB fm x != sigB fm y) ∧ inf = (nI fm x || nI fm y) ∧ (inf = false → finB fm x = true ∧ finB fm y = true ∧ G = Nm.wn (nZ fm x * nZ fm y) ∧ L = Nm.wl (nZ fm x * nZ fm y) ∧ E = nE fm x + nE fm y)) :
    ∃ rb rf : Int, ((nanB fm x || nanB fm y || odd2 fm x y) = false → inf = false → L.length ≠ 0 → RdO fm 5 G L E = true ∧ rb = RdB fm 5 G L E ∧ rf = RdF fm 5 G L E) ∧ muB fm 5 x y = tdB (nanOf fm) (infOf fm) (sgOf fm) (nanB fm x || nanB fm y || odd2 fm x y) inf (decide (L.length = 0)) sg rb ∧ muF fm 5 x y = tdF (nanB fm x || nanB fm y || odd2 fm x y) (nB fm x || nB fm y || odd2 fm x y) inf (decide (L.length = 0)) rf := by
  have hall : allB fm [x, y] = true := by have k := ho; unfold muO at k; simp only [Bool.and_eq_true] at k; exact k.2
  obtain ⟨hx, hy⟩ := all2 hall
  have hfm := ok_fmt hx
  refine ⟨RdB fm 5 (Nm.wn (nZ fm x * nZ fm y)) (Nm.wl (nZ fm x * nZ fm y)) (nE fm x + nE fm y), RdF fm 5 (Nm.wn (nZ fm x * nZ fm y)) (Nm.wl (nZ fm x * nZ fm y)) (nE fm x + nE fm y), ?_, ?_, ?_⟩
  · intro n0 i0 hl0
    obtain ⟨fx, fy, rfl, rfl, rfl⟩ := (hfn n0).2.2 i0
    exact ⟨rdo_any hfm (by decide) (nZm_len fm x y) (by omega) (by omega), rfl, rfl⟩
  · unfold muB
    rw [if_pos ho]
    cases hn : (nanB fm x || nanB fm y)
    · obtain ⟨nx, ny⟩ : nanB fm x = false ∧ nanB fm y = false := by simpa using hn
      simp only [Bool.false_eq_true, if_false, Bool.false_or]
      have hoi := odd_iz hx hy
      unfold mB tdB
      cases hd2 : odd2 fm x y
      · rw [hn, hd2] at hfn
        obtain ⟨rfl, rfl, h3⟩ := hfn rfl
        rw [hoi] at hd2
        rw [hd2]
        simp only [Bool.false_eq_true, if_false]
        cases hi : (nI fm x || nI fm y)
        · obtain ⟨fx, fy, rfl, rfl, rfl⟩ := h3 hi
          simp only [Bool.false_eq_true, if_false]
          rw [zlen2 hx hy fx fy]
        · simp only [if_true]
      · rw [hoi] at hd2
        rw [hd2]
        simp only [if_true]
    · simp only [if_true, Bool.true_or]
      unfold tdB
      simp only [if_true]
  · unfold muF
    rw [if_pos ho]
    cases hn : (nanB fm x || nanB fm y)
    · obtain ⟨nx, ny⟩ : nanB fm x = false ∧ nanB fm y = false := by simpa using hn
      simp only [Bool.false_eq_true, if_false, Bool.false_or]
      have hoi := odd_iz hx hy
      have bx : nB fm x = false := nb_nan hx nx
      have bY : nB fm y = false := nb_nan hy ny
      rw [bx, bY]
      unfold mF tdF
      cases hd2 : odd2 fm x y
      · rw [hn, hd2] at hfn
        obtain ⟨rfl, rfl, h3⟩ := hfn rfl
        rw [hoi] at hd2
        rw [hd2]
        simp only [Bool.false_eq_true, if_false, Bool.false_or, Bool.or_false]
        cases hi : (nI fm x || nI fm y)
        · obtain ⟨fx, fy, rfl, rfl, rfl⟩ := h3 hi
          rw [zlen2 hx hy fx fy]
        · simp only [Bool.true_or]
      · rw [hoi] at hd2
        rw [hd2]
        simp only [if_true, Bool.or_true]
    · simp only [if_true]
      unfold tdF fl8
      cases hd2 : odd2 fm x y
      · simp only [Bool.or_false, Bool.true_or]
        cases (nB fm x || nB fm y) <;> simp
      · have : odd2 fm x y = false := odd_nan hx hy x0 y0 hn
        rw [this] at hd2; cases hd2
theorem ami_impl (fm x y : Int) (u : Value) (w : World) (hE : E3 u w) (x0 : 0 ≤ x) (x1 : x < 18446744073709551616) (y0 : 0 ≤ y) (y1 : y < 18446744073709551616) (H T F : Int) (O : Bool) (hH : H = amB fm x y) (hT : T = amT fm x y) (hF : F = amF fm x y) (hO : O = muO fm 5 x y) :
    Calls Tryz.prog 44 #[.int .i64 fm, .int .u64 x, .int .u64 y] w fun r w' => r = .returned (.tuple #[.agg #[.int .u64 H, .int .u64 T], .int .i64 F, .bool O]) ∧ Below w.heap.size w w' := by
  have CF := hid (fun w' k k' => fok_impl fm 5 (some ⟨w.heap.size + 1, 0, none⟩) 2 [x, y] w' k k' (d64_2 x0 x1 y0 y1) (by simp))
  cases ho : muO fm 5 x y
  · have ho' : (modeB 5 && allB fm [x, y]) = false := ho
    rw [ho'] at CF
    have g1 : H = 0 := by rw [hH]; unfold amB; rw [ho]; rfl
    have g2 : T = 0 := by rw [hT]; unfold amT; rw [ho]; rfl
    have g3 : F = 0 := by rw [hF]; unfold amF; rw [ho]; rfl
    rw [g1, g2, g3, hO, ho]
    clear g1 g2 g3 hH hT hF hO ho ho' x0 x1 y0 y1
    have bel := Below.refl w.heap.size w
    go_enter Tryz.func44, Tryz.ntmps44
    replace hE := hE.below (al_b _ (.cells #[.int .u64 0, .int .u64 0] 54))
    replace bel := bel_al bel (.cells #[.int .u64 0, .int .u64 0] 54)
    have Br := R2.new w (.int .u64 0) (.int .u64 0) 54
    have s2 := sl64_2 (w.alloc (.cells #[.int .u64 0, .int .u64 0] 54)) x y 24
    have hsz : (w.alloc (.cells #[.int .u64 0, .int .u64 0] 54)).heap.size = w.heap.size + 1 := by simp
    rw [hsz] at s2
    clear hsz
    replace Br := Br.below (al_b _ (.cells #[.int .u64 x, .int .u64 y] 24))
    replace hE := hE.below (al_b _ (.cells #[.int .u64 x, .int .u64 y] 24))
    replace bel := bel_al bel (.cells #[.int .u64 x, .int .u64 y] 24)
    obtain ⟨kr0, kr1, -, -⟩ := id Br
    go_wp2_with fail
    refine (CF.out _ hE.t.s.f s2).mono ?_
    rintro r w1 ⟨rfl, hb⟩
    clear kr0 kr1
    replace bel := bel_go bel hb
    replace hE := hE.below hb
    replace Br := Br.below hb
    clear hb
    clear s2
    obtain ⟨kr0, kr1, -, -⟩ := id Br
    obtain ⟨-, -, lr0, lr1⟩ := id Br
    go_wp2
    refine bodyPost_ret (v := .tuple #[.agg #[.int .u64 0, .int .u64 0], .int .i64 0, .bool false]) (by simp [results, Tryz.results44, go_sem, kr0, kr1, lr0, lr1]) rfl ⟨rfl, ((bel.setCell (by simp) _).setCell (by simp) _)⟩
  · have ho' : (modeB 5 && allB fm [x, y]) = true := ho
    rw [ho'] at CF
    rw [hO, ho]
    obtain ⟨k1, k2, k3, k4⟩ := mu_head (mode := 5) x0 x1 y0 y1 ho
    have hx := (all2 (by have k := ho; unfold muO at k; simp only [Bool.and_eq_true] at k; exact k.2)).1
    have hy := (all2 (by have k := ho; unfold muO at k; simp only [Bool.and_eq_true] at k; exact k.2)).2
    have hfm := ok_fmt hx
    have hq := unq_bd fm
    have g1 : H = muB fm 5 x y := by rw [hH]; unfold amB; rw [if_pos ho]
    have g2 : T = auT fm (muB fm 5 x y) (amX fm x y) := by rw [hT]; unfold amT; rw [if_pos ho]
    have g3 : F = auF fm (muB fm 5 x y) (muF fm 5 x y) (amX fm x y) := by rw [hF]; unfold amF; rw [if_pos ho]
    rw [← g1] at g2 g3 k1 k2 k3 k4
    obtain ⟨sg, inf, G, L, E, hp, hl, hd, b0, b1, hfn⟩ := prod_all fm 5 x y u x0 x1 y0 y1 ho
    obtain ⟨rb, rf, hro, hB, hF0⟩ := prod_td x0 x1 y0 y1 ho hl hd b0 b1 hfn
    rw [← g1] at hB
    generalize hn : (nanB fm x || nanB fm y || odd2 fm x y) = n at hp hro hB hF0 hfn
    generalize hb : (nB fm x || nB fm y || odd2 fm x y) = b at hp hro hB hF0
    have hz : finB fm H = true → inf = false ∧ ∃ z, G = Nm.wn z ∧ L = Nm.wl z ∧ amX fm x y = z * 2 ^ (E - 2 * unQ fm).toNat ∧ 2 * unQ fm ≤ E ∧ E ≤ 4000 ∧ bitLen z.natAbs + (E - 2 * unQ fm).toNat ≤ 6300 := fun k => by
      have ⟨n0, i0⟩ := fin_td hfm n inf (decide (L.length = 0)) sg rb (by rw [← hB]; exact k)
      obtain ⟨fx, fy, q1, q2, q3⟩ := (hfn n0).2.2 i0
      have qx := pE_q fx
      have qy := pE_q fy
      rw [← (fin_facts hx fx).2.2.2.1] at qx
      rw [← (fin_facts hy fy).2.2.2.1] at qy
      have e1 : amX fm x y = nZ fm x * nZ fm y * 2 ^ (E - 2 * unQ fm).toNat := by unfold amX; rw [q3]
      exact ⟨i0, nZ fm x * nZ fm y, q1, q2, e1, by omega, by omega, bz_of e1 (amX_bl fm x y) (by omega)⟩
    have CP := hid hp
    have CG := hid (fun a c ev hk w' k k' => aug_x fm hfm sg inf G L E a c u ev n b hk w' k k' hd hl rb rf hro H (muF fm 5 x y) (amX fm x y) T F hB hF0 k1 k2 k3 hz g2 g3)
    clear hH hT hF hO ho ho' k1 k2 k3 k4 hx hy hfm hq g1 g2 g3 hp hl hd hro hB hF0 hz hfn b0 b1 hn hb x0 x1 y0 y1
    have bel := Below.refl w.heap.size w
    go_enter Tryz.func44, Tryz.ntmps44
    replace hE := hE.below (al_b _ (.cells #[.int .u64 0, .int .u64 0] 54))
    replace bel := bel_al bel (.cells #[.int .u64 0, .int .u64 0] 54)
    have Br := R2.new w (.int .u64 0) (.int .u64 0) 54
    have s2 := sl64_2 (w.alloc (.cells #[.int .u64 0, .int .u64 0] 54)) x y 24
    have hsz : (w.alloc (.cells #[.int .u64 0, .int .u64 0] 54)).heap.size = w.heap.size + 1 := by simp
    rw [hsz] at s2
    clear hsz
    replace Br := Br.below (al_b _ (.cells #[.int .u64 x, .int .u64 y] 24))
    replace hE := hE.below (al_b _ (.cells #[.int .u64 x, .int .u64 y] 24))
    replace bel := bel_al bel (.cells #[.int .u64 x, .int .u64 y] 24)
    obtain ⟨kr0, kr1, -, -⟩ := id Br
    go_wp2_with fail
    refine (CF.out _ hE.t.s.f s2).mono ?_
    rintro r w1 ⟨rfl, hb⟩
    clear kr0 kr1
    replace bel := bel_go bel hb
    replace hE := hE.below hb
    replace Br := Br.below hb
    clear hb
    clear s2
    obtain ⟨kr0, kr1, -, -⟩ := id Br
    go_wp2_with fail
    refine (CP.out _ hE.ee).mono ?_
    rintro r w2 ⟨a2, c2, ev, rfl, kv, o2, hb⟩
    clear kr0 kr1
    replace bel := bel_go bel hb
    replace hE := hE.below hb
    replace Br := Br.below hb
    clear hb
    have s2 := o2.sl
    clear o2
    replace hE := hE.below (al_b _ (.cells #[.bool sg, .bool inf, .bool G, .slice a2 L.length c2, .int .i64 E] 99))
    replace Br := Br.below (al_b _ (.cells #[.bool sg, .bool inf, .bool G, .slice a2 L.length c2, .int .i64 E] 99))
    replace s2 := s2.below (al_b _ (.cells #[.bool sg, .bool inf, .bool G, .slice a2 L.length c2, .int .i64 E] 99))
    replace bel := bel_al bel (.cells #[.bool sg, .bool inf, .bool G, .slice a2 L.length c2, .int .i64 E] 99)
    have Bx := Q5.new w2 (.bool sg) (.bool inf) (.bool G) (.slice a2 L.length c2) (.int .i64 E) 99
    obtain ⟨kr0, kr1, -, -⟩ := id Br
    obtain ⟨kx0, kx1, kx2, kx3, kx4, -, -, -, -, -⟩ := id Bx
    go_wp2_with fail
    refine (CG.out a2 c2 ev kv _ hE s2).mono ?_
    rintro r w3 ⟨rfl, hb⟩
    clear kr0 kr1 kx0 kx1 kx2 kx3 kx4
    replace bel := bel_go bel hb
    replace hE := hE.below hb
    replace Br := Br.below hb
    replace s2 := s2.below hb
    replace Bx := Bx.below hb
    clear hb
    obtain ⟨kr0, kr1, -, -⟩ := id Br
    obtain ⟨kx0, kx1, kx2, kx3, kx4, -, -, -, -, -⟩ := id Bx
    obtain ⟨-, -, lr0, lr1⟩ := id Br
    go_wp2
    refine bodyPost_ret (v := .tuple #[.agg #[.int .u64 H, .int .u64 T], .int .i64 F, .bool true]) (by simp [results, Tryz.results44, go_sem, kr0, kr1, kx0, kx1, kx2, kx3, kx4, lr0, lr1]) rfl ⟨rfl, ((bel.setCell (by simp) _).setCell (by simp) _)⟩
theorem law_AugMul (fm x y : Int) (w : World) (hT : EX3 w) (x0 : 0 ≤ x) (x1 : x < 18446744073709551616) (y0 : 0 ≤ y) (y1 : y < 18446744073709551616) :
    Calls Tryz.prog 10 #[.int .i64 fm, .int .u64 x, .int .u64 y] w fun e w' => e = .returned (.bool true) ∧ Below w.heap.size w w' := by
  obtain ⟨u, hE⟩ := hT
  obtain ⟨H, h_H⟩ : ∃ q, q = amB fm x y := ⟨_, rfl⟩
  obtain ⟨T, h_T⟩ : ∃ q, q = amT fm x y := ⟨_, rfl⟩
  obtain ⟨F, h_F⟩ : ∃ q, q = amF fm x y := ⟨_, rfl⟩
  obtain ⟨O, h_O⟩ : ∃ q, q = muO fm 5 x y := ⟨_, rfl⟩
  have CS := hid (fun w' => ams_spec fm x y w' x0 x1 y0 y1 H T F O h_H h_T h_F h_O)
  have CI := hid (fun w' k => ami_impl fm x y u w' k x0 x1 y0 y1 H T F O h_H h_T h_F h_O)
  clear h_H h_T h_F h_O
  have bel := Below.refl w.heap.size w
  go_enter Tryz.func10, Tryz.ntmps10
  go_wp2_with fail
  refine (CS.out _).mono ?_
  rintro r w1 ⟨rfl, hb⟩
  replace bel := bel_go bel hb
  replace hE := hE.below hb
  clear hb
  replace hE := hE.below (al_b _ (.cells #[.int .u64 H, .int .u64 T] 54))
  replace bel := bel_al bel (.cells #[.int .u64 H, .int .u64 T] 54)
  have Bs := R2.new w1 (.int .u64 H) (.int .u64 T) 54
  obtain ⟨ks0, ks1, -, -⟩ := id Bs
  go_wp2_with fail
  refine (CI.out _ hE).mono ?_
  rintro r w2 ⟨rfl, hb⟩
  clear ks0 ks1
  replace bel := bel_go bel hb
  replace hE := hE.below hb
  replace Bs := Bs.below hb
  clear hb
  replace hE := hE.below (al_b _ (.cells #[.int .u64 H, .int .u64 T] 54))
  replace Bs := Bs.below (al_b _ (.cells #[.int .u64 H, .int .u64 T] 54))
  replace bel := bel_al bel (.cells #[.int .u64 H, .int .u64 T] 54)
  have Bi := R2.new w2 (.int .u64 H) (.int .u64 T) 54
  obtain ⟨ks0, ks1, -, -⟩ := id Bs
  obtain ⟨ki0, ki1, -, -⟩ := id Bi
  go_wp2_with fail
  refine (eqp H T _).mono ?_
  rintro r w3 ⟨rfl, hb⟩
  clear ks0 ks1 ki0 ki1
  replace bel := bel_go bel hb
  replace hE := hE.below hb
  replace Bs := Bs.below hb
  replace Bi := Bi.below hb
  clear hb
  obtain ⟨ks0, ks1, -, -⟩ := id Bs
  obtain ⟨ki0, ki1, -, -⟩ := id Bi
  go_wp2
  all_goals go_ret
  all_goals exact ⟨rfl, bel⟩
end Go.Proofs.YtmcflggionkhlaaGreatDoor
