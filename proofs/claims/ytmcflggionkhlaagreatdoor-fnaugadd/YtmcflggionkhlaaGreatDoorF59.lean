/-
  What is needed of AZ, ZAa.
-/
import Derived.Test.YtmcflggionkhlaaGreatDoorF48
import Derived.Test.YtmcflggionkhlaaGreatDoorF56
set_option maxHeartbeats 16000000
set_option maxRecDepth 1000000
namespace Go.Proofs.YtmcflggionkhlaaGreatDoor
set_option linter.unusedVariables false
set_option linter.unusedSimpArgs false
open Go.RowKit Go.Deep
theorem aai_impl (fm x y : Int) (u : Value) (w : World) (hE : E3 u w) (x0 : 0 ≤ x) (x1 : x < 18446744073709551616) (y0 : 0 ≤ y) (y1 : y < 18446744073709551616) (H T F : Int) (O : Bool) (hH : H = aaB fm x y) (hT : T = aaT fm x y) (hF : F = aaF fm x y) (hO : O = muO fm 5 x y) :
    Calls Tryz.prog 39 #[.int .i64 fm, .int .u64 x, .int .u64 y] w fun r w' => r = .returned (.tuple #[.agg #[.int .u64 H, .int .u64 T], .int .i64 F, .bool O]) ∧ Below w.heap.size w w' := by
  have CF := hid (fun w' k k' => fok_impl fm 5 (some ⟨w.heap.size + 1, 0, none⟩) 2 [x, y] w' k k' (d64_2 x0 x1 y0 y1) (by simp))
  cases ho : muO fm 5 x y
  · have ho' : (modeB 5 && allB fm [x, y]) = false := ho
    rw [ho'] at CF
    have g1 : H = 0 := by rw [hH]; unfold aaB; rw [ho]; rfl
    have g2 : T = 0 := by rw [hT]; unfold aaT; rw [ho]; rfl
    have g3 : F = 0 := by rw [hF]; unfold aaF; rw [ho]; rfl
    rw [g1, g2, g3, hO, ho]
    clear g1 g2 g3 hH hT hF hO ho ho' x0 x1 y0 y1
    have bel := Below.refl w.heap.size w
    go_enter Tryz.func39, Tryz.ntmps39
    replace hE := hE.below (al_b _ (.cells #[.int .u64 0, .int .u64 0] 54))
    replace bel := bel_al bel (.cells #[.int .u64 0, .int .u64 0] 54)
    have Br := R2.new w (.int .u64 0) (.int .u64 0) 54
    have s2 := sl64_2 (w.alloc (.cells #[.int .u64 0, .int .u64 0] 54)) x y 24
    have hsz : (w.alloc (.cells #[.int .u64 0, .int .u64 0] 54)).heap.size = w.heap.size + 1 := by simp
    rw [hsz] at s2
    clear hsz
    replace Br := Br.below (al_b _ (.cells #[.int .u64 x, .int .u64 y] 24))
    replace hE := hE.below (al_b _ (.cells #[.int .u64 x, .int .u64 y] 24))
    replace bel := bel_al bel (.cells #[.int .u64 x, .int .u64 y] 24)
    obtain ⟨kr0, kr1, -, -⟩ := id Br
    go_wp2_with fail
    refine (CF.out _ hE.t.s.f s2).mono ?_
    rintro r w1 ⟨rfl, hb⟩
    clear kr0 kr1
    replace bel := bel_go bel hb
    replace hE := hE.below hb
    replace Br := Br.below hb
    clear hb
    clear s2
    obtain ⟨kr0, kr1, -, -⟩ := id Br
    obtain ⟨-, -, lr0, lr1⟩ := id Br
    go_wp2
    refine bodyPost_ret (v := .tuple #[.agg #[.int .u64 0, .int .u64 0], .int .i64 0, .bool false]) (by simp [results, Tryz.results39, go_sem, kr0, kr1, lr0, lr1]) rfl ⟨rfl, ((bel.setCell (by simp) _).setCell (by simp) _)⟩
  · have ho' : (modeB 5 && allB fm [x, y]) = true := ho
    rw [ho'] at CF
    rw [hO, ho]
    obtain ⟨k1, k2, k3, k4⟩ := ad_head (mode := 5) x0 x1 y0 y1 ho
    have hx := (all2 (by have k := ho; unfold muO at k; simp only [Bool.and_eq_true] at k; exact k.2)).1
    have hy := (all2 (by have k := ho; unfold muO at k; simp only [Bool.and_eq_true] at k; exact k.2)).2
    have hfm := ok_fmt hx
    have hq := unq_bd fm
    have g1 : H = adB fm 5 x y := by rw [hH]; unfold aaB; rw [if_pos ho]
    have g2 : T = auT fm (adB fm 5 x y) (asX fm x y) := by rw [hT]; unfold aaT; rw [if_pos ho]
    have g3 : F = auF fm (adB fm 5 x y) (adF fm 5 x y) (asX fm x y) := by rw [hF]; unfold aaF; rw [if_pos ho]
    rw [← g1] at g2 g3 k1 k2 k3 k4
    obtain ⟨sg, inf, G, L, E, n, b, rb, rf, hp, hl, hd, hro, hB, hF0, hfn⟩ := tot_all fm 5 x y u x0 x1 y0 y1 ho
    rw [← g1] at hB
    have hz : finB fm H = true → inf = false ∧ ∃ z, G = Nm.wn z ∧ L = Nm.wl z ∧ asX fm x y = z * 2 ^ (E - 2 * unQ fm).toNat ∧ 2 * unQ fm ≤ E ∧ E ≤ 4000 ∧ bitLen z.natAbs + (E - 2 * unQ fm).toNat ≤ 6300 := fun k => by
      have ⟨n0, i0⟩ := fin_td hfm n inf (decide (L.length = 0)) sg rb (by rw [← hB]; exact k)
      obtain ⟨-, -, z, q1, q2, q3, q4, q5⟩ := hfn ⟨n0, i0⟩
      have e1 : asX fm x y = z * 2 ^ (E - 2 * unQ fm).toNat := by unfold asX; rw [q3, Int.mul_assoc, ← Int.pow_add, show (E - unQ fm).toNat + (-unQ fm).toNat = (E - 2 * unQ fm).toNat by omega]
      exact ⟨i0, z, q1, q2, e1, by omega, by omega, bz_of e1 (by have := asX_bl fm x y; omega) (by omega)⟩
    have CP := hid hp
    have CG := hid (fun a c ev hk w' k k' => aug_x fm hfm sg inf G L E a c u ev n b hk w' k k' hd hl rb rf hro H (adF fm 5 x y) (asX fm x y) T F hB hF0 k1 k2 k3 hz g2 g3)
    clear hH hT hF hO ho ho' k1 k2 k3 k4 hx hy hfm hq g1 g2 g3 hp hl hd hro hB hF0 hz hfn x0 x1 y0 y1
    have bel := Below.refl w.heap.size w
    go_enter Tryz.func39, Tryz.ntmps39
    replace hE := hE.below (al_b _ (.cells #[.int .u64 0, .int .u64 0] 54))
    replace bel := bel_al bel (.cells #[.int .u64 0, .int .u64 0] 54)
    have Br := R2.new w (.int .u64 0) (.int .u64 0) 54
    have s2 := sl64_2 (w.alloc (.cells #[.int .u64 0, .int .u64 0] 54)) x y 24
    have hsz : (w.alloc (.cells #[.int .u64 0, .int .u64 0] 54)).heap.size = w.heap.size + 1 := by simp
    rw [hsz] at s2
    clear hsz
    replace Br := Br.below (al_b _ (.cells #[.int .u64 x, .int .u64 y] 24))
    replace hE := hE.below (al_b _ (.cells #[.int .u64 x, .int .u64 y] 24))
    replace bel := bel_al bel (.cells #[.int .u64 x, .int .u64 y] 24)
    obtain ⟨kr0, kr1, -, -⟩ := id Br
    go_wp2_with fail
    refine (CF.out _ hE.t.s.f s2).mono ?_
    rintro r w1 ⟨rfl, hb⟩
    clear kr0 kr1
    replace bel := bel_go bel hb
    replace hE := hE.below hb
    replace Br := Br.below hb
    clear hb
    clear s2
    obtain ⟨kr0, kr1, -, -⟩ := id Br
    go_wp2_with fail
    refine (CP.out _ hE.ee).mono ?_
    rintro r w2 ⟨a2, c2, ev, rfl, kv, o2, hb⟩
    clear kr0 kr1
    replace bel := bel_go bel hb
    replace hE := hE.below hb
    replace Br := Br.below hb
    clear hb
    have s2 := o2.sl
    clear o2
    replace hE := hE.below (al_b _ (.cells #[.bool sg, .bool inf, .bool G, .slice a2 L.length c2, .int .i64 E] 99))
    replace Br := Br.below (al_b _ (.cells #[.bool sg, .bool inf, .bool G, .slice a2 L.length c2, .int .i64 E] 99))
    replace s2 := s2.below (al_b _ (.cells #[.bool sg, .bool inf, .bool G, .slice a2 L.length c2, .int .i64 E] 99))
    replace bel := bel_al bel (.cells #[.bool sg, .bool inf, .bool G, .slice a2 L.length c2, .int .i64 E] 99)
    have Bx := Q5.new w2 (.bool sg) (.bool inf) (.bool G) (.slice a2 L.length c2) (.int .i64 E) 99
    obtain ⟨kr0, kr1, -, -⟩ := id Br
    obtain ⟨kx0, kx1, kx2, kx3, kx4, -, -, -, -, -⟩ := id Bx
    go_wp2_with fail
    refine (CG.out a2 c2 ev kv _ hE s2).mono ?_
    rintro r w3 ⟨rfl, hb⟩
    clear kr0 kr1 kx0 kx1 kx2 kx3 kx4
    replace bel := bel_go bel hb
    replace hE := hE.below hb
    replace Br := Br.below hb
    replace s2 := s2.below hb
    replace Bx := Bx.below hb
    clear hb
    obtain ⟨kr0, kr1, -, -⟩ := id Br
    obtain ⟨kx0, kx1, kx2, kx3, kx4, -, -, -, -, -⟩ := id Bx
    obtain ⟨-, -, lr0, lr1⟩ := id Br
    go_wp2
    refine bodyPost_ret (v := .tuple #[.agg #[.int .u64 H, .int .u64 T], .int .i64 F, .bool true]) (by simp [results, Tryz.results39, go_sem, kr0, kr1, kx0, kx1, kx2, kx3, kx4, lr0, lr1]) rfl ⟨rfl, ((bel.setCell (by simp) _).setCell (by simp) _)⟩
namespace Fd
theorem aa_law {fm a b : Int} (a0 : 0 ≤ a) (a1 : a < 18446744073709551616) (b0 : 0 ≤ b) (b1 : b < 18446744073709551616) (hO : muO fm 5 a b = true) :
    (0 ≤ aaB fm a b ∧ aaB fm a b < 18446744073709551616) ∧ ((finB fm a && finB fm b) = true → cls fm (aaB fm a b) ≤ 2 → (0 ≤ aaT fm a b ∧ aaT fm a b < 18446744073709551616) ∧ (finB fm (aaB fm a b) && finB fm (aaT fm a b)) = true ∧ unI fm (aaB fm a b) + unI fm (aaT fm a b) = unI fm a + unI fm b ∧ aaF fm a b = 0) := by
  obtain ⟨k1, k2, k3, -⟩ := ad_head (mode := 5) a0 a1 b0 b1 hO
  have e : aaB fm a b = adB fm 5 a b := by unfold aaB; rw [if_pos hO]
  rw [← e] at k1 k2 k3
  refine ⟨⟨k2, k3⟩, fun hff hc => ?_⟩
  have fh := fin_of_cls k1 hc
  obtain ⟨t0, t1, ft, hs, hf⟩ := aa_main a0 a1 b0 b1 hO hff fh
  exact ⟨⟨t0, t1⟩, by rw [fh, ft]; rfl, hs, hf⟩
theorem aalaw (ca : Option Addr) (cc : Nat) (cs : List Int) (w : World) (hT : EX3 w) (hs : Sl .u8 w (.slice ca cs.length cc) cs) (hby : ∀ i, 0 ≤ cs.getD i 0 ∧ cs.getD i 0 ≤ 255) (hl : cs.length ≤ 1048576) :
    Calls Tryz.prog 11 #[.slice ca cs.length cc] w fun e w' => e = .returned (.bool true) ∧ Below w.heap.size w w' := by
  go_enter Tryz.func11, Tryz.ntmps11
  go_wp2_with fail
  refine (big_any ca cs.length cc _ (by omega) false (by simp; omega)).mono ?_
  rintro r w0 ⟨rfl, rfl⟩
  go_wp2_with fail
  refine (drawAA_x ca cc cs _ hs hby hl).mono ?_
  rintro r w1 ⟨fm, a, b, rfl, a0, a1, b0, b1, bel⟩
  obtain ⟨u, T⟩ := hT.below bel
  clear hs hby hl hT
  have AI := hid (fun w' k => aai_impl fm a b u w' k a0 a1 b0 b1 _ _ _ _ rfl rfl rfl rfl)
  have AS := hid (fun w' => aas_spec fm a b w' a0 a1 b0 b1 _ _ _ _ rfl rfl rfl rfl)
  have SO := hid (fun w' k => sumOf_x fm a b w' k a0 a1 b0 b1)
  have CC := hid (fun (k : 0 ≤ aaB fm a b ∧ aaB fm a b < 18446744073709551616) w' => spec_cls fm (aaB fm a b) w' k.1 k.2)
  have S2 := hid (fun (k : 0 ≤ aaB fm a b ∧ aaB fm a b < 18446744073709551616) (k' : 0 ≤ aaT fm a b ∧ aaT fm a b < 18446744073709551616) w' h' => sumOf_x fm (aaB fm a b) (aaT fm a b) w' h' k.1 k.2 k'.1 k'.2)
  have MN := hid (aa_law (fm := fm) a0 a1 b0 b1)
  have hul : (Nm.wl (unI fm a + unI fm b)).length ≤ 1048576 := by have := uu_len fm a b; omega
  obtain ⟨s, h_s⟩ : ∃ q, q = unI fm a + unI fm b := ⟨_, rfl⟩
  obtain ⟨s2, h_s2⟩ : ∃ q, q = unI fm (aaB fm a b) + unI fm (aaT fm a b) := ⟨_, rfl⟩
  obtain ⟨ff, h_ff⟩ : ∃ q, q = (finB fm a && finB fm b) := ⟨_, rfl⟩
  obtain ⟨f2, h_f2⟩ : ∃ q, q = (finB fm (aaB fm a b) && finB fm (aaT fm a b)) := ⟨_, rfl⟩
  obtain ⟨c, h_c⟩ : ∃ q, q = cls fm (aaB fm a b) := ⟨_, rfl⟩
  obtain ⟨H, h_H⟩ : ∃ q, q = aaB fm a b := ⟨_, rfl⟩
  obtain ⟨Tl, h_Tl⟩ : ∃ q, q = aaT fm a b := ⟨_, rfl⟩
  obtain ⟨F, h_F⟩ : ∃ q, q = aaF fm a b := ⟨_, rfl⟩
  obtain ⟨O, h_O⟩ : ∃ q, q = muO fm 5 a b := ⟨_, rfl⟩
  rw [← h_s, ← h_ff] at SO
  rw [← h_s2, ← h_f2, ← h_H, ← h_Tl] at S2
  rw [← h_s, ← h_s2, ← h_ff, ← h_f2, ← h_c, ← h_H, ← h_Tl, ← h_F, ← h_O] at MN
  rw [← h_c, ← h_H] at CC
  rw [← h_H, ← h_Tl, ← h_F, ← h_O] at AI AS
  rw [← h_s] at hul
  clear h_s h_s2 h_ff h_f2 h_c h_H h_Tl h_F h_O a0 a1 b0 b1
  have ne_H : (H != H) = false := by simp
  have eq_H : (H == H) = true := by simp
  have ne_Tl : (Tl != Tl) = false := by simp
  have eq_Tl : (Tl == Tl) = true := by simp
  have ne_F : (F != F) = false := by simp
  have eq_F : (F == F) = true := by simp
  have ne_O : (O != O) = false := by simp
  have eq_O : (O == O) = true := by simp
  obtain ⟨g, h_g⟩ : ∃ q, q = Nm.wn s := ⟨_, rfl⟩
  obtain ⟨L, h_L⟩ : ∃ q, q = Nm.wl s := ⟨_, rfl⟩
  cases O
  · rw [← h_g, ← h_L] at SO
    rw [← h_L] at hul
    clear MN CC S2
    clear h_g h_L
    go_wp2_with fail
    refine (AI.out _ T).mono ?_
    rintro r w2 ⟨rfl, hb⟩
    replace bel := bel_go bel hb
    replace T := T.below hb
    clear hb
    replace T := T.below (al_b _ (.cells #[.int .u64 H, .int .u64 Tl] 54))
    replace bel := bel_al bel (.cells #[.int .u64 H, .int .u64 Tl] 54)
    have Bp := R2.new w2 (.int .u64 H) (.int .u64 Tl) 54
    obtain ⟨kp0, kp1, -, -⟩ := id Bp
    go_wp2_with fail
    refine (AS.out _).mono ?_
    rintro r w3 ⟨rfl, hb⟩
    clear kp0 kp1
    replace bel := bel_go bel hb
    replace T := T.below hb
    replace Bp := Bp.below hb
    clear hb
    replace T := T.below (al_b _ (.cells #[.int .u64 H, .int .u64 Tl] 54))
    replace Bp := Bp.below (al_b _ (.cells #[.int .u64 H, .int .u64 Tl] 54))
    replace bel := bel_al bel (.cells #[.int .u64 H, .int .u64 Tl] 54)
    have Bq := R2.new w3 (.int .u64 H) (.int .u64 Tl) 54
    obtain ⟨kp0, kp1, -, -⟩ := id Bp
    obtain ⟨kq0, kq1, -, -⟩ := id Bq
    go_wp2_with fail
    refine (SO.out _ T.t.s.f).mono ?_
    rintro r w4 ⟨aS, cS, rfl, sS, hb⟩
    clear kp0 kp1 kq0 kq1
    replace bel := bel_go bel hb
    replace T := T.below hb
    replace Bp := Bp.below hb
    replace Bq := Bq.below hb
    clear hb
    replace T := T.below (al_b _ (.cells #[.bool g, .slice aS L.length cS] 31))
    replace Bp := Bp.below (al_b _ (.cells #[.bool g, .slice aS L.length cS] 31))
    replace Bq := Bq.below (al_b _ (.cells #[.bool g, .slice aS L.length cS] 31))
    replace sS := sS.below (al_b _ (.cells #[.bool g, .slice aS L.length cS] 31))
    replace bel := bel_al bel (.cells #[.bool g, .slice aS L.length cS] 31)
    have Bs := R2.new w4 (.bool g) (.slice aS L.length cS) 31
    obtain ⟨kp0, kp1, -, -⟩ := id Bp
    obtain ⟨kq0, kq1, -, -⟩ := id Bq
    obtain ⟨ks0, ks1, -, -⟩ := id Bs
    go_wp2
    all_goals go_ret
    all_goals exact ⟨rfl, bel⟩
  · cases ff
    · rw [← h_g, ← h_L] at SO
      rw [← h_L] at hul
      clear MN CC S2
      clear h_g h_L
      go_wp2_with fail
      refine (AI.out _ T).mono ?_
      rintro r w2 ⟨rfl, hb⟩
      replace bel := bel_go bel hb
      replace T := T.below hb
      clear hb
      replace T := T.below (al_b _ (.cells #[.int .u64 H, .int .u64 Tl] 54))
      replace bel := bel_al bel (.cells #[.int .u64 H, .int .u64 Tl] 54)
      have Bp := R2.new w2 (.int .u64 H) (.int .u64 Tl) 54
      obtain ⟨kp0, kp1, -, -⟩ := id Bp
      go_wp2_with fail
      refine (AS.out _).mono ?_
      rintro r w3 ⟨rfl, hb⟩
      clear kp0 kp1
      replace bel := bel_go bel hb
      replace T := T.below hb
      replace Bp := Bp.below hb
      clear hb
      replace T := T.below (al_b _ (.cells #[.int .u64 H, .int .u64 Tl] 54))
      replace Bp := Bp.below (al_b _ (.cells #[.int .u64 H, .int .u64 Tl] 54))
      replace bel := bel_al bel (.cells #[.int .u64 H, .int .u64 Tl] 54)
      have Bq := R2.new w3 (.int .u64 H) (.int .u64 Tl) 54
      obtain ⟨kp0, kp1, -, -⟩ := id Bp
      obtain ⟨kq0, kq1, -, -⟩ := id Bq
      go_wp2_with fail
      refine (SO.out _ T.t.s.f).mono ?_
      rintro r w4 ⟨aS, cS, rfl, sS, hb⟩
      clear kp0 kp1 kq0 kq1
      replace bel := bel_go bel hb
      replace T := T.below hb
      replace Bp := Bp.below hb
      replace Bq := Bq.below hb
      clear hb
      replace T := T.below (al_b _ (.cells #[.bool g, .slice aS L.length cS] 31))
      replace Bp := Bp.below (al_b _ (.cells #[.bool g, .slice aS L.length cS] 31))
      replace Bq := Bq.below (al_b _ (.cells #[.bool g, .slice aS L.length cS] 31))
      replace sS := sS.below (al_b _ (.cells #[.bool g, .slice aS L.length cS] 31))
      replace bel := bel_al bel (.cells #[.bool g, .slice aS L.length cS] 31)
      have Bs := R2.new w4 (.bool g) (.slice aS L.length cS) 31
      obtain ⟨kp0, kp1, -, -⟩ := id Bp
      obtain ⟨kq0, kq1, -, -⟩ := id Bq
      obtain ⟨ks0, ks1, -, -⟩ := id Bs
      go_wp2
      all_goals go_ret
      all_goals exact ⟨rfl, bel⟩
    · by_cases hc : c ≤ 2
      · rw [← h_g, ← h_L] at SO
        rw [← h_L] at hul
        have hg : decide (2 < c) = false := decide_eq_false (by omega)
        have hg2 : ¬ 2 < c := by omega
        obtain ⟨m1, m2⟩ := MN.out rfl
        obtain ⟨m3, m4, m5, m6⟩ := m2 rfl hc
        have CC := hid (CC.out m1)
        have S2 := hid (S2.out m1 m3)
        rw [m5, m4, ← h_g, ← h_L] at S2
        subst m6
        clear MN m1 m2 m3 m4 hc
        clear h_g h_L
        go_wp2_with fail
        refine (AI.out _ T).mono ?_
        rintro r w2 ⟨rfl, hb⟩
        replace bel := bel_go bel hb
        replace T := T.below hb
        clear hb
        replace T := T.below (al_b _ (.cells #[.int .u64 H, .int .u64 Tl] 54))
        replace bel := bel_al bel (.cells #[.int .u64 H, .int .u64 Tl] 54)
        have Bp := R2.new w2 (.int .u64 H) (.int .u64 Tl) 54
        obtain ⟨kp0, kp1, -, -⟩ := id Bp
        go_wp2_with fail
        refine (AS.out _).mono ?_
        rintro r w3 ⟨rfl, hb⟩
        clear kp0 kp1
        replace bel := bel_go bel hb
        replace T := T.below hb
        replace Bp := Bp.below hb
        clear hb
        replace T := T.below (al_b _ (.cells #[.int .u64 H, .int .u64 Tl] 54))
        replace Bp := Bp.below (al_b _ (.cells #[.int .u64 H, .int .u64 Tl] 54))
        replace bel := bel_al bel (.cells #[.int .u64 H, .int .u64 Tl] 54)
        have Bq := R2.new w3 (.int .u64 H) (.int .u64 Tl) 54
        obtain ⟨kp0, kp1, -, -⟩ := id Bp
        obtain ⟨kq0, kq1, -, -⟩ := id Bq
        go_wp2_with fail
        refine (SO.out _ T.t.s.f).mono ?_
        rintro r w4 ⟨aS, cS, rfl, sS, hb⟩
        clear kp0 kp1 kq0 kq1
        replace bel := bel_go bel hb
        replace T := T.below hb
        replace Bp := Bp.below hb
        replace Bq := Bq.below hb
        clear hb
        replace T := T.below (al_b _ (.cells #[.bool g, .slice aS L.length cS] 31))
        replace Bp := Bp.below (al_b _ (.cells #[.bool g, .slice aS L.length cS] 31))
        replace Bq := Bq.below (al_b _ (.cells #[.bool g, .slice aS L.length cS] 31))
        replace sS := sS.below (al_b _ (.cells #[.bool g, .slice aS L.length cS] 31))
        replace bel := bel_al bel (.cells #[.bool g, .slice aS L.length cS] 31)
        have Bs := R2.new w4 (.bool g) (.slice aS L.length cS) 31
        obtain ⟨kp0, kp1, -, -⟩ := id Bp
        obtain ⟨kq0, kq1, -, -⟩ := id Bq
        obtain ⟨ks0, ks1, -, -⟩ := id Bs
        go_wp2_with fail
        refine (CC.out _).mono ?_
        rintro r w5 ⟨rfl, hb⟩
        clear kp0 kp1 kq0 kq1 ks0 ks1
        replace bel := bel_go bel hb
        replace T := T.below hb
        replace Bp := Bp.below hb
        replace Bq := Bq.below hb
        replace sS := sS.below hb
        replace Bs := Bs.below hb
        clear hb
        obtain ⟨kp0, kp1, -, -⟩ := id Bp
        obtain ⟨kq0, kq1, -, -⟩ := id Bq
        obtain ⟨ks0, ks1, -, -⟩ := id Bs
        go_wp2_with fail
        refine (S2.out _ T.t.s.f).mono ?_
        rintro r w6 ⟨aV, cV, rfl, sV, hb⟩
        clear kp0 kp1 kq0 kq1 ks0 ks1
        replace bel := bel_go bel hb
        replace T := T.below hb
        replace Bp := Bp.below hb
        replace Bq := Bq.below hb
        replace sS := sS.below hb
        replace Bs := Bs.below hb
        clear hb
        replace T := T.below (al_b _ (.cells #[.bool g, .slice aV L.length cV] 31))
        replace Bp := Bp.below (al_b _ (.cells #[.bool g, .slice aV L.length cV] 31))
        replace Bq := Bq.below (al_b _ (.cells #[.bool g, .slice aV L.length cV] 31))
        replace sS := sS.below (al_b _ (.cells #[.bool g, .slice aV L.length cV] 31))
        replace Bs := Bs.below (al_b _ (.cells #[.bool g, .slice aV L.length cV] 31))
        replace sV := sV.below (al_b _ (.cells #[.bool g, .slice aV L.length cV] 31))
        replace bel := bel_al bel (.cells #[.bool g, .slice aV L.length cV] 31)
        have Bv := R2.new w6 (.bool g) (.slice aV L.length cV) 31
        obtain ⟨kp0, kp1, -, -⟩ := id Bp
        obtain ⟨kq0, kq1, -, -⟩ := id Bq
        obtain ⟨ks0, ks1, -, -⟩ := id Bs
        obtain ⟨kv0, kv1, -, -⟩ := id Bv
        go_wp2_with fail
        refine (same_yes g aS aV cS cV L _ sS sV hul).mono ?_
        rintro r w7 ⟨rfl, hb⟩
        clear kp0 kp1 kq0 kq1 ks0 ks1 kv0 kv1
        replace bel := bel_go bel hb
        replace T := T.below hb
        replace Bp := Bp.below hb
        replace Bq := Bq.below hb
        replace sS := sS.below hb
        replace Bs := Bs.below hb
        replace sV := sV.below hb
        replace Bv := Bv.below hb
        clear hb
        obtain ⟨kp0, kp1, -, -⟩ := id Bp
        obtain ⟨kq0, kq1, -, -⟩ := id Bq
        obtain ⟨ks0, ks1, -, -⟩ := id Bs
        obtain ⟨kv0, kv1, -, -⟩ := id Bv
        go_wp2
        all_goals go_ret
        all_goals exact ⟨rfl, bel⟩
      · rw [← h_g, ← h_L] at SO
        rw [← h_L] at hul
        have hg : decide (2 < c) = true := decide_eq_true (by omega)
        have hg2 : 2 < c := by omega
        have CC := hid (CC.out (MN.out rfl).1)
        clear MN hc S2
        clear h_g h_L
        go_wp2_with fail
        refine (AI.out _ T).mono ?_
        rintro r w2 ⟨rfl, hb⟩
        replace bel := bel_go bel hb
        replace T := T.below hb
        clear hb
        replace T := T.below (al_b _ (.cells #[.int .u64 H, .int .u64 Tl] 54))
        replace bel := bel_al bel (.cells #[.int .u64 H, .int .u64 Tl] 54)
        have Bp := R2.new w2 (.int .u64 H) (.int .u64 Tl) 54
        obtain ⟨kp0, kp1, -, -⟩ := id Bp
        go_wp2_with fail
        refine (AS.out _).mono ?_
        rintro r w3 ⟨rfl, hb⟩
        clear kp0 kp1
        replace bel := bel_go bel hb
        replace T := T.below hb
        replace Bp := Bp.below hb
        clear hb
        replace T := T.below (al_b _ (.cells #[.int .u64 H, .int .u64 Tl] 54))
        replace Bp := Bp.below (al_b _ (.cells #[.int .u64 H, .int .u64 Tl] 54))
        replace bel := bel_al bel (.cells #[.int .u64 H, .int .u64 Tl] 54)
        have Bq := R2.new w3 (.int .u64 H) (.int .u64 Tl) 54
        obtain ⟨kp0, kp1, -, -⟩ := id Bp
        obtain ⟨kq0, kq1, -, -⟩ := id Bq
        go_wp2_with fail
        refine (SO.out _ T.t.s.f).mono ?_
        rintro r w4 ⟨aS, cS, rfl, sS, hb⟩
        clear kp0 kp1 kq0 kq1
        replace bel := bel_go bel hb
        replace T := T.below hb
        replace Bp := Bp.below hb
        replace Bq := Bq.below hb
        clear hb
        replace T := T.below (al_b _ (.cells #[.bool g, .slice aS L.length cS] 31))
        replace Bp := Bp.below (al_b _ (.cells #[.bool g, .slice aS L.length cS] 31))
        replace Bq := Bq.below (al_b _ (.cells #[.bool g, .slice aS L.length cS] 31))
        replace sS := sS.below (al_b _ (.cells #[.bool g, .slice aS L.length cS] 31))
        replace bel := bel_al bel (.cells #[.bool g, .slice aS L.length cS] 31)
        have Bs := R2.new w4 (.bool g) (.slice aS L.length cS) 31
        obtain ⟨kp0, kp1, -, -⟩ := id Bp
        obtain ⟨kq0, kq1, -, -⟩ := id Bq
        obtain ⟨ks0, ks1, -, -⟩ := id Bs
        go_wp2_with fail
        refine (CC.out _).mono ?_
        rintro r w5 ⟨rfl, hb⟩
        clear kp0 kp1 kq0 kq1 ks0 ks1
        replace bel := bel_go bel hb
        replace T := T.below hb
        replace Bp := Bp.below hb
        replace Bq := Bq.below hb
        replace sS := sS.below hb
        replace Bs := Bs.below hb
        clear hb
        obtain ⟨kp0, kp1, -, -⟩ := id Bp
        obtain ⟨kq0, kq1, -, -⟩ := id Bq
        obtain ⟨ks0, ks1, -, -⟩ := id Bs
        go_wp2
        all_goals go_ret
        all_goals exact ⟨rfl, bel⟩
theorem aalaw_all (ca : Option Addr) (cc : Nat) (cs : List Int) (w : World) (hT : EX3 w) (hs : Sl .u8 w (.slice ca cs.length cc) cs) (hby : ∀ i, 0 ≤ cs.getD i 0 ∧ cs.getD i 0 ≤ 255) :
    Calls Tryz.prog 11 #[.slice ca cs.length cc] w fun e w' => e = .returned (.bool true) ∧ Below w.heap.size w w' := by
  by_cases h : cs.length ≤ 1048576
  · exact aalaw ca cc cs w hT hs hby h
  · have hn : cs.length ≤ 9223372036854775807 := by obtain ⟨_, h1, h2, _⟩ := hs.cells; unfold maxLen at h2; omega
    have CB := hid (big_any ca cs.length cc w hn true (by simp; omega))
    clear hs hby h hn
    go_enter Tryz.func11, Tryz.ntmps11
    go_wp2_with fail
    refine CB.out.mono ?_
    rintro e w0 ⟨rfl, rfl⟩
    go_wp2
    go_ret
    exact ⟨rfl, Below.refl _ _⟩
end Fd
end Go.Proofs.YtmcflggionkhlaaGreatDoor
