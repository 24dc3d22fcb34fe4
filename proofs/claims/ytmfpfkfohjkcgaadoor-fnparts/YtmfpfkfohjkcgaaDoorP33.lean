/-
  What is needed of PL.
-/
import Derived.Test.YtmfpfkfohjkcgaaDoorP31
import Derived.Test.YtmfpfkfohjkcgaaDoorP32
set_option maxHeartbeats 16000000
set_option maxRecDepth 1000000
namespace Go.Proofs.YtmfpfkfohjkcgaaDoor
set_option linter.unusedVariables false
set_option linter.unusedSimpArgs false
open Go.RowKit Go.Deep
namespace Fd
theorem fin_32' {x : Int} (hf : finB 32 x = true) : x < 4294967296 := by
  cases h : okF 32 x
  · unfold finB at hf; rw [cls_no h] at hf; simp at hf
  · unfold okF at h; simp at h; exact h
theorem own_at' {w : World} {B : Nat} {a : Option Addr} {c : Nat} {zs : List Int} (h : Own w B a c zs) : ∀ g, a = some ⟨g, 0, none⟩ → B ≤ g ∧ g < w.heap.size := fun g hg => by
  rcases h.block with ⟨h1, -, -⟩ | ⟨g', h1, h2, h3⟩
  · rw [h1] at hg; cases hg
  · rw [h1] at hg; cases hg; exact ⟨h2, h3⟩
theorem mag_any (g : Bool) (a : Option Addr) (n c : Nat) (w : World) :
    Calls Tryd.prog 18 #[.agg #[.bool g, .slice a n c]] w fun e w' => e = .returned (.agg #[.bool false, .slice a n c]) ∧ Below w.heap.size w w' := by
  go_enter Tryd.func18, Tryd.ntmps18
  go_wp2
  exact bodyPost_ret (v := .agg #[.bool false, .slice a n c]) (by simp [results, Tryd.results18, go_sem]) rfl ⟨rfl, by first | exact (by repeat (first | exact bz0 _ _ | refine bz1 ?_ | refine bz2 ?_ _ | refine bz3 ?_ _ | refine bz5 ?_ _ | refine bz6 ?_ _)) | (exact Below.setCell (Below.setCell (by repeat (first | exact bz0 _ _ | refine bz1 ?_ | refine bz2 ?_ _ | refine bz3 ?_ _ | refine bz5 ?_ _ | refine bz6 ?_ _)) (by simp) _) (by simp) _)⟩
theorem sh_parts32 {x : Int} (h0 : 0 ≤ x) (h1 : x < 4294967296) (hf : finB 32 x = true) (a : Option Addr) (c : Nat) (w : World) (hs : Sl .u32 w (.slice a (Nm.wl (pM 32 x)).length c) (Nm.wl (pM 32 x))) :
    Calls Tryd.prog 15 #[.agg #[.bool (Nm.wn (pM 32 x)), .slice a (Nm.wl (pM 32 x)).length c], .int .i64 (IntKind.i64.wrap (pE 32 x - (-149)))] w fun e w' => ∃ a' c', e = .returned (.tuple #[.agg #[.bool false, .slice a' (Nm.wl (unI 32 x)).length c'], .bool true]) ∧ Own w' w.heap.size a' c' (Nm.wl (unI 32 x)) ∧ Below w.heap.size w w' := by
  obtain ⟨-, -, hun, hM, -⟩ := fp_parts32 h0 h1 hf
  obtain ⟨-, e0, e1, hb⟩ := pM_uf32 h0 h1 hf
  have hm2 : (pM 32 x).natAbs = (pM 32 x).toNat := by omega
  have hl : (Nm.wl (pM 32 x)).length ≤ 200 := by unfold Nm.wl; rw [hm2]; exact lim_len (k := 200) (by omega)
  have hwr : IntKind.i64.wrap (pE 32 x - (-149)) = pE 32 x - (-149) := by rw [IntKind.wrap_i64]; omega
  have hin : inZ (pE 32 x - (-149)) (-10000) 10000 = true := by unfold inZ; simp; omega
  have hv : Nm.shV (Nm.wn (pM 32 x)) (Nm.val (Nm.wl (pM 32 x))) (pE 32 x - (-149)) = ((unI 32 x).natAbs : Int) := by
    rw [Nm.val_wl, shV_sg, hun]
    have : Nm.wn (pM 32 x) = false := by unfold Nm.wn; exact decide_eq_false (by omega)
    rw [this, hm2]
    simp only [Bool.false_eq_true, if_false]
    unfold Nm.sh
    rw [if_neg (by omega)]
  have hwl : Nm.wl (((unI 32 x).natAbs : Nat) : Int) = Nm.wl (unI 32 x) := by unfold Nm.wl; rw [Int.natAbs_natCast]
  have hwn : Nm.wn (((unI 32 x).natAbs : Nat) : Int) = false := by unfold Nm.wn; exact decide_eq_false (by omega)
  have hfit : Nm.fits (((unI 32 x).natAbs : Nat) : Int) = true := by unfold Nm.fits; rw [hwl]; exact decide_eq_true (un_len _ _ hf)
  have C := wsh_impl (Nm.wn (pM 32 x)) a c (Nm.wl (pM 32 x)) (IntKind.i64.wrap (pE 32 x - (-149))) w hs (Nm.wl_dg _) (by omega)
  rw [hwr] at C ⊢
  rw [okB_wl hl, hin, hv, Bool.and_self, (op_yes _).1, (op_yes _).2.1, (op_yes _).2.2, (out_fits hfit).1, (out_fits hfit).2, hfit, hwl, hwn] at C
  exact C
theorem sh_parts64 {x : Int} (h0 : 0 ≤ x) (h1 : x < 18446744073709551616) (hf : finB 64 x = true) (a : Option Addr) (c : Nat) (w : World) (hs : Sl .u32 w (.slice a (Nm.wl (pM 64 x)).length c) (Nm.wl (pM 64 x))) :
    Calls Tryd.prog 15 #[.agg #[.bool (Nm.wn (pM 64 x)), .slice a (Nm.wl (pM 64 x)).length c], .int .i64 (IntKind.i64.wrap (pE 64 x - (-1074)))] w fun e w' => ∃ a' c', e = .returned (.tuple #[.agg #[.bool false, .slice a' (Nm.wl (unI 64 x)).length c'], .bool true]) ∧ Own w' w.heap.size a' c' (Nm.wl (unI 64 x)) ∧ Below w.heap.size w w' := by
  obtain ⟨-, -, hun, hM, -⟩ := fp_parts64 h0 h1 hf
  obtain ⟨-, e0, e1, hb⟩ := pM_uf64 h0 h1 hf
  have hm2 : (pM 64 x).natAbs = (pM 64 x).toNat := by omega
  have hl : (Nm.wl (pM 64 x)).length ≤ 200 := by unfold Nm.wl; rw [hm2]; exact lim_len (k := 200) (by omega)
  have hwr : IntKind.i64.wrap (pE 64 x - (-1074)) = pE 64 x - (-1074) := by rw [IntKind.wrap_i64]; omega
  have hin : inZ (pE 64 x - (-1074)) (-10000) 10000 = true := by unfold inZ; simp; omega
  have hv : Nm.shV (Nm.wn (pM 64 x)) (Nm.val (Nm.wl (pM 64 x))) (pE 64 x - (-1074)) = ((unI 64 x).natAbs : Int) := by
    rw [Nm.val_wl, shV_sg, hun]
    have : Nm.wn (pM 64 x) = false := by unfold Nm.wn; exact decide_eq_false (by omega)
    rw [this, hm2]
    simp only [Bool.false_eq_true, if_false]
    unfold Nm.sh
    rw [if_neg (by omega)]
  have hwl : Nm.wl (((unI 64 x).natAbs : Nat) : Int) = Nm.wl (unI 64 x) := by unfold Nm.wl; rw [Int.natAbs_natCast]
  have hwn : Nm.wn (((unI 64 x).natAbs : Nat) : Int) = false := by unfold Nm.wn; exact decide_eq_false (by omega)
  have hfit : Nm.fits (((unI 64 x).natAbs : Nat) : Int) = true := by unfold Nm.fits; rw [hwl]; exact decide_eq_true (un_len _ _ hf)
  have C := wsh_impl (Nm.wn (pM 64 x)) a c (Nm.wl (pM 64 x)) (IntKind.i64.wrap (pE 64 x - (-1074))) w hs (Nm.wl_dg _) (by omega)
  rw [hwr] at C ⊢
  rw [okB_wl hl, hin, hv, Bool.and_self, (op_yes _).1, (op_yes _).2.1, (op_yes _).2.2, (out_fits hfit).1, (out_fits hfit).2, hfit, hwl, hwn] at C
  exact C
theorem palaw (ca : Option Addr) (cc : Nat) (cs : List Int) (w : World) (hT : Ts w) (hs : Sl .u8 w (.slice ca cs.length cc) cs) (hby : ∀ i, 0 ≤ cs.getD i 0 ∧ cs.getD i 0 ≤ 255) (hl : cs.length ≤ 1048576) :
    Calls Tryd.prog 3 #[.slice ca cs.length cc] w fun e w' => e = .returned (.bool true) ∧ Below w.heap.size w w' := by
  go_enter Tryd.func3, Tryd.ntmps3
  go_wp2_with fail
  refine (big_any ca cs.length cc _ (by omega) false (by simp; omega)).mono ?_
  rintro e w0 ⟨rfl, rfl⟩
  go_wp2_with fail
  refine (drawPartsOf_any ca cc cs _ hs hby hl).mono ?_
  rintro e w1 ⟨fm, x, rfl, x0, x1, bel⟩
  clear hs hby hl
  have T := hT.below bel
  have IP := hid (fun w' h => impl_parts fm x w' h x0 x1)
  have SP := hid (fun w' => spec_parts fm x w' x0 x1)
  obtain ⟨s, hs⟩ : ∃ q, q = pS fm x := ⟨_, rfl⟩
  obtain ⟨m, hm⟩ : ∃ q, q = pM fm x := ⟨_, rfl⟩
  obtain ⟨E, hE⟩ : ∃ q, q = pE fm x := ⟨_, rfl⟩
  rw [← hs, ← hm, ← hE] at IP SP
  have rs : (s == s) = true := by simp
  have rm : (m == m) = true := by simp
  have rE : (E == E) = true := by simp
  have HS := hid hs
  have HM := hid hm
  have HE := hid hE
  clear hs hm hE
  cases hf : finB fm x
  · rw [hf] at IP SP
    clear hf HS HM HE
    go_wp2_with fail
    refine (IP.out _ T.f).mono ?_
    rintro r w2 ⟨rfl, hb⟩
    replace bel := bel_al (bel_go bel hb) (.cells #[.bool s, .int .i64 m, .int .i64 E] 28)
    replace T := (T.below hb).al (.cells #[.bool s, .int .i64 m, .int .i64 E] 28)
    have A := R3.new w2 (.bool s) (.int .i64 m) (.int .i64 E) 28
    clear hb
    go_wp2_with fail
    refine (SP.out _).mono ?_
    rintro r w3 ⟨rfl, hb⟩
    replace bel := bel_al (bel_go bel hb) (.cells #[.bool s, .int .i64 m, .int .i64 E] 28)
    replace T := (T.below hb).al (.cells #[.bool s, .int .i64 m, .int .i64 E] 28)
    replace A := (A.below hb).al (.cells #[.bool s, .int .i64 m, .int .i64 E] 28)
    have B := R3.new w3 (.bool s) (.int .i64 m) (.int .i64 E) 28
    clear hb
    obtain ⟨a0, a1, a2, af0, af1, af2⟩ := id A
    obtain ⟨p0, p1, p2, pf0, pf1, pf2⟩ := id B
    go_wp2
    all_goals go_ret
    all_goals exact ⟨rfl, bel⟩
  · have hfm := fin_fmt hf
    rw [hf] at IP SP
    rcases fmt_cases hfm with rfl | rfl
    · clear hfm
      have hx1 : x < 4294967296 := fin_32' hf
      obtain ⟨f1, f2, f3, f4, f5⟩ := fp_parts32 x0 hx1 hf
      have FI := hid (fun w' h => parts_impl 32 (pS 32 x) (pM 32 x) (pE 32 x) w' h (by have := (pM_bd 32 x).2; omega))
      have eO : FpO 32 (pM 32 x) (pE 32 x) = true := f1
      have eB : FpB 32 (pS 32 x) (pM 32 x) (pE 32 x) = x := f2
      rw [eO, eB, ← HS.out, ← HM.out, ← HE.out] at FI
      have UI := hid (fun w' h => units_impl 32 x w' h x0 x1)
      unfold Ans at UI
      rw [hf] at UI
      have SH := hid (fun a c w' h => sh_parts32 x0 hx1 hf a c w' h)
      rw [← HM.out, ← HE.out] at SH
      have S0 := hid (fun w' => spec_parts 32 0 w' (by decide) (by decide))
      have g1 : finB 32 0 = true := by decide +kernel
      have g2 : pS 32 0 = false := by decide +kernel
      have g3 : pM 32 0 = 0 := by decide +kernel
      have g4 : pE 32 0 = (-149) := by decide +kernel
      rw [g1, g2, g3, g4] at S0
      have WO' := hid (fun w' => wof_impl m w' (by rw [HM.out]; omega) (by rw [HM.out]; have := (pM_bd 32 x).2; omega))
      have hL : (Nm.wl (unI 32 x)).length ≤ 1048576 := by have := un_len 32 x hf; omega
      rw [← HS.out, ← HM.out] at f5
      obtain ⟨g, hg⟩ : ∃ q, q = Nm.wn (unI 32 x) := ⟨_, rfl⟩
      obtain ⟨LU, hLU⟩ : ∃ q, q = Nm.wl (unI 32 x) := ⟨_, rfl⟩
      rw [← hg, ← hLU] at UI
      rw [← hLU] at SH hL
      rw [← hg] at f5
      have rx : (x == x) = true := by simp
      have HF := hid f5
      clear f1 f2 f3 f4 f5 eO eB g1 g2 g3 g4 hg hLU hf HS HM HE
      go_wp2_with fail
      refine (IP.out _ T.f).mono ?_
      rintro r w2 ⟨rfl, hb⟩
      replace bel := bel_al (bel_go bel hb) (.cells #[.bool s, .int .i64 m, .int .i64 E] 28)
      replace T := (T.below hb).al (.cells #[.bool s, .int .i64 m, .int .i64 E] 28)
      have A := R3.new w2 (.bool s) (.int .i64 m) (.int .i64 E) 28
      clear hb
      go_wp2_with fail
      refine (SP.out _).mono ?_
      rintro r w3 ⟨rfl, hb⟩
      replace bel := bel_al (bel_go bel hb) (.cells #[.bool s, .int .i64 m, .int .i64 E] 28)
      replace T := (T.below hb).al (.cells #[.bool s, .int .i64 m, .int .i64 E] 28)
      replace A := (A.below hb).al (.cells #[.bool s, .int .i64 m, .int .i64 E] 28)
      have B := R3.new w3 (.bool s) (.int .i64 m) (.int .i64 E) 28
      clear hb
      obtain ⟨a0, a1, a2, af0, af1, af2⟩ := id A
      obtain ⟨p0, p1, p2, pf0, pf1, pf2⟩ := id B
      go_wp2_with fail
      refine (FI.out _ T).mono ?_
      rintro r w4 ⟨rfl, hb⟩
      replace bel := bel_go bel hb
      replace T := T.below hb
      replace A := A.below hb
      clear hb a0 a1 a2 af0 af1 af2 p0 p1 p2 pf0 pf1 pf2 B
      go_wp2_with fail
      refine (UI.out _ T.f).mono ?_
      rintro r w5 ⟨au, cu, rfl, ou, hb⟩
      replace bel := bel_al (bel_go bel hb) (.cells #[.bool g, .slice au LU.length cu] 35)
      replace T := (T.below hb).al (.cells #[.bool g, .slice au LU.length cu] 35)
      replace A := (A.below hb).al (.cells #[.bool g, .slice au LU.length cu] 35)
      have U := R2.new w5 (.bool g) (.slice au LU.length cu) 35
      have su := ou.sl.alloc (.cells #[.bool g, .slice au LU.length cu] 35)
      clear hb ou
      go_wp2_with fail
      refine (S0.out _).mono ?_
      rintro r w6 ⟨rfl, hb⟩
      replace bel := bel_al (bel_go bel hb) (.cells #[.bool false, .int .i64 0, .int .i64 (-149)] 28)
      replace T := (T.below hb).al (.cells #[.bool false, .int .i64 0, .int .i64 (-149)] 28)
      replace A := (A.below hb).al (.cells #[.bool false, .int .i64 0, .int .i64 (-149)] 28)
      replace U := (U.below hb).alloc (.cells #[.bool false, .int .i64 0, .int .i64 (-149)] 28)
      replace su := (su.below hb).alloc (.cells #[.bool false, .int .i64 0, .int .i64 (-149)] 28)
      have Z := R3.new w6 (.bool false) (.int .i64 0) (.int .i64 (-149)) 28
      clear hb
      go_upto_region 11 with fail
      generalize w6.alloc (.cells #[.bool false, .int .i64 0, .int .i64 (-149)] 28) = W at bel T A U su Z ⊢
      go_cut [15, 16] (fun s15 s16 wx => ∃ (bw : Nat) (aw : Option Addr) (cw : Nat), s15 = .pointer (some ⟨bw, 0, none⟩) ∧ s16 = .bool true ∧ R2 wx bw (.bool false) (.slice aw LU.length cw) ∧ Sl .u32 wx (.slice aw LU.length cw) LU ∧ Below W.heap.size W wx)
      case first =>
        have belR := Below.drew (Below.refl W.heap.size W)
        refine wp_region_held_drew (S := fun w' => w'.cell? ⟨w2.heap.size, 1, none⟩ = some (.int .i64 m) ∧ w'.cell? ⟨w2.heap.size, 2, none⟩ = some (.int .i64 E) ∧ w'.cell? ⟨w6.heap.size, 2, none⟩ = some (.int .i64 (-149))) (by kernel_rfl) ?_ (fun hHeld => ?_)
        · exact ⟨A.c1, A.c2, Z.c2⟩
        generalize W.drew = v0 at belR hHeld ⊢
        refine tk 0 ?_ rfl (Or.inl ⟨by rfl, ?_⟩) ?_
        rotate_left
        · (intro w hSw; go_simp; try (with_reducible rfl))
        try simp only [Act.put, Ls]
        refine tk 1 ?_ rfl (Or.inl ⟨by rfl, ?_⟩) ?_
        rotate_left
        · (intro w hSw; (try dsimp only at hSw); obtain ⟨hS0, hS1, hS2⟩ := hSw; go_simp; try (with_reducible rfl))
        try simp only [Act.put, Ls]
        refine tk 3 ?_ rfl (Or.inl ⟨by rfl, ?_⟩) ?_
        rotate_left
        · (intro w hSw; go_simp; try (with_reducible rfl))
        try simp only [Act.put, Ls]
        refine tk 4 ?_ rfl (Or.inl ⟨by rfl, ?_⟩) ?_
        rotate_left
        · (intro w hSw; (try dsimp only at hSw); obtain ⟨hS0, hS1, hS2⟩ := hSw; go_simp; try (with_reducible rfl))
        try simp only [Act.put, Ls]
        refine tk 5 ?_ rfl (Or.inl ⟨by rfl, ?_⟩) ?_
        rotate_left
        · (intro w hSw; go_simp; try (with_reducible rfl))
        try simp only [Act.put, Ls]
        refine tk 6 ?_ rfl (Or.inl ⟨by rfl, ?_⟩) ?_
        rotate_left
        · (intro w hSw; (try dsimp only at hSw); obtain ⟨hS0, hS1, hS2⟩ := hSw; go_simp; try (with_reducible rfl))
        try simp only [Act.put, Ls]
        refine tk 7 ?_ rfl (Or.inl ⟨by rfl, ?_⟩) ?_
        rotate_left
        · (intro w hSw; go_simp; try (with_reducible rfl))
        try simp only [Act.put, Ls]
        refine wpAnyH_ready (rs := [2, 12]) (by kernel_rfl) (by simp) ?_
        refine AllReadyH.cons (o := _) rfl (fun K hK => ?_) (AllReadyH.cons (o := _) rfl (fun K hK => ?_) AllReadyH.nil)
        · go_simp
          go_at_call 16
          refine (WO'.out _).mono ?_
          rintro r v1 ⟨a2, c2, rfl, o2, hb'⟩
          replace belR := bel_go belR hb'
          clear hb'
          refine hK.out _ _ ?_ (fun hHeld => ?_)
          · exact ⟨(A.below belR).c1, (A.below belR).c2, (Z.below belR).c2⟩
          clear hK K
          try simp only [Act.put, Ls]
          refine wpAnyH_ready (rs := [8, 12]) (by kernel_rfl) (by simp) ?_
          refine AllReadyH.cons (o := _) rfl (fun K hK => ?_) (AllReadyH.cons (o := _) rfl (fun K hK => ?_) AllReadyH.nil)
          · go_simp
            go_at_call 15
            refine (SH.out a2 c2 _ o2.sl).mono ?_
            rintro r v2 ⟨aw, cw, rfl, o3, hb'⟩
            replace belR := bel_go belR hb'
            clear o2
            clear hb'
            refine hK.out _ _ ?_ (fun hHeld => ?_)
            · exact ⟨(A.below belR).c1, (A.below belR).c2, (Z.below belR).c2⟩
            clear hK K
            try simp only [Act.put, Ls]
            refine tk 9 ?_ rfl (Or.inl ⟨by rfl, ?_⟩) ?_
            rotate_left
            · (intro w hSw; go_simp; try (with_reducible rfl))
            try simp only [Act.put, Ls]
            refine tk 10 ?_ rfl (Or.inl ⟨by rfl, ?_⟩) ?_
            rotate_left
            · (intro w hSw; go_simp; try (with_reducible rfl))
            try simp only [Act.put, Ls]
            refine tk 11 ?_ rfl (Or.inl ⟨by rfl, ?_⟩) ?_
            rotate_left
            · (intro w hSw; go_simp; try (with_reducible rfl))
            try simp only [Act.put, Ls]
            refine rdy 12 rfl (fun K hK => ?_)
            go_simp
            refine hK.out _ _ ?_ (fun hHeld => ?_)
            · exact ⟨(A.below (bel_al belR (.cells #[.bool false, .slice none 0 0] 35))).c1, (A.below (bel_al belR (.cells #[.bool false, .slice none 0 0] 35))).c2, (Z.below (bel_al belR (.cells #[.bool false, .slice none 0 0] 35))).c2⟩
            clear hK K
            try simp only [Act.put, Ls]
            obtain ⟨bw, h2⟩ : ∃ q, q = v2.heap.size := ⟨_, rfl⟩
            have hb2 : W.heap.size ≤ bw := by have := belR.size; omega
            have Y := R2.new v2 (.bool false) (.slice none 0 0) 35
            rw [← h2] at Y ⊢
            have ng3 : ∀ g, aw = some ⟨g, 0, none⟩ → g ≠ bw := fun g h => by have := (own_at' o3 g h).2; omega
            replace o3 := o3.alloc (.cells #[.bool false, .slice none 0 0] 35)
            replace belR := bel_al belR (.cells #[.bool false, .slice none 0 0] 35)
            clear h2
            generalize v2.alloc (.cells #[.bool false, .slice none 0 0] 35) = v3 at Y belR hHeld o3 ⊢
            refine rdy 13 rfl (fun K hK => ?_)
            have ⟨yc0, yc1, yf0, yf1⟩ := Y
            go_simp
            refine hK.out _ _ ?_ (fun hHeld => ?_)
            · exact ⟨(A.below ((belR.setCell (p := ⟨bw, 0, none⟩) (by simpa using hb2) (.bool false)).setCell (p := ⟨bw, 1, none⟩) (by simpa using hb2) (.slice aw LU.length cw))).c1, (A.below ((belR.setCell (p := ⟨bw, 0, none⟩) (by simpa using hb2) (.bool false)).setCell (p := ⟨bw, 1, none⟩) (by simpa using hb2) (.slice aw LU.length cw))).c2, (Z.below ((belR.setCell (p := ⟨bw, 0, none⟩) (by simpa using hb2) (.bool false)).setCell (p := ⟨bw, 1, none⟩) (by simpa using hb2) (.slice aw LU.length cw))).c2⟩
            clear hK K
            try simp only [Act.put, Ls]
            refine rdy 14 rfl (fun K hK => ?_)
            go_simp
            refine hK.out _ _ ?_ (fun hHeld => ?_)
            · exact ⟨(A.below ((belR.setCell (p := ⟨bw, 0, none⟩) (by simpa using hb2) (.bool false)).setCell (p := ⟨bw, 1, none⟩) (by simpa using hb2) (.slice aw LU.length cw))).c1, (A.below ((belR.setCell (p := ⟨bw, 0, none⟩) (by simpa using hb2) (.bool false)).setCell (p := ⟨bw, 1, none⟩) (by simpa using hb2) (.slice aw LU.length cw))).c2, (Z.below ((belR.setCell (p := ⟨bw, 0, none⟩) (by simpa using hb2) (.bool false)).setCell (p := ⟨bw, 1, none⟩) (by simpa using hb2) (.slice aw LU.length cw))).c2⟩
            clear hK K
            try simp only [Act.put, Ls]
            refine wpAnyH_done (by kernel_rfl) ?_ _
            go_wp2_with fail
            go_meet
            exact ⟨bw, aw, cw, rfl, rfl, R2.set Y _ _, ((o3.setOther ng3 _).setOther ng3 _).sl, ((belR.setCell (p := ⟨bw, 0, none⟩) (by simpa using hb2) (.bool false)).setCell (p := ⟨bw, 1, none⟩) (by simpa using hb2) (.slice aw LU.length cw))⟩
          · go_simp
            refine hK.out _ _ ?_ (fun hHeld => ?_)
            · exact ⟨(A.below (bel_al belR (.cells #[.bool false, .slice none 0 0] 35))).c1, (A.below (bel_al belR (.cells #[.bool false, .slice none 0 0] 35))).c2, (Z.below (bel_al belR (.cells #[.bool false, .slice none 0 0] 35))).c2⟩
            clear hK K
            try simp only [Act.put, Ls]
            obtain ⟨bw, h2⟩ : ∃ q, q = v1.heap.size := ⟨_, rfl⟩
            have hb2 : W.heap.size ≤ bw := by have := belR.size; omega
            have Y := R2.new v1 (.bool false) (.slice none 0 0) 35
            rw [← h2] at Y ⊢
            replace o2 := o2.alloc (.cells #[.bool false, .slice none 0 0] 35)
            replace belR := bel_al belR (.cells #[.bool false, .slice none 0 0] 35)
            clear h2
            generalize v1.alloc (.cells #[.bool false, .slice none 0 0] 35) = v2 at Y belR hHeld o2 ⊢
            refine rdy 8 rfl (fun K hK => ?_)
            go_simp
            go_at_call 15
            refine (SH.out a2 c2 _ o2.sl).mono ?_
            have hY : bw < v2.heap.size := World.block_lt_of_cell? _ _ Y.c0
            rintro r v3 ⟨aw, cw, rfl, o3, hb'⟩
            replace Y := Y.below hb'
            replace belR := bel_go belR hb'
            clear o2
            have ng3 : ∀ g, aw = some ⟨g, 0, none⟩ → g ≠ bw := fun g h => by have := (own_at' o3 g h).1; omega
            clear hY
            clear hb'
            refine hK.out _ _ ?_ (fun hHeld => ?_)
            · exact ⟨(A.below belR).c1, (A.below belR).c2, (Z.below belR).c2⟩
            clear hK K
            try simp only [Act.put, Ls]
            refine tk 9 ?_ rfl (Or.inl ⟨by rfl, ?_⟩) ?_
            rotate_left
            · (intro w hSw; go_simp; try (with_reducible rfl))
            try simp only [Act.put, Ls]
            refine tk 10 ?_ rfl (Or.inl ⟨by rfl, ?_⟩) ?_
            rotate_left
            · (intro w hSw; go_simp; try (with_reducible rfl))
            try simp only [Act.put, Ls]
            refine tk 11 ?_ rfl (Or.inl ⟨by rfl, ?_⟩) ?_
            rotate_left
            · (intro w hSw; go_simp; try (with_reducible rfl))
            try simp only [Act.put, Ls]
            refine rdy 13 rfl (fun K hK => ?_)
            have ⟨yc0, yc1, yf0, yf1⟩ := Y
            go_simp
            refine hK.out _ _ ?_ (fun hHeld => ?_)
            · exact ⟨(A.below ((belR.setCell (p := ⟨bw, 0, none⟩) (by simpa using hb2) (.bool false)).setCell (p := ⟨bw, 1, none⟩) (by simpa using hb2) (.slice aw LU.length cw))).c1, (A.below ((belR.setCell (p := ⟨bw, 0, none⟩) (by simpa using hb2) (.bool false)).setCell (p := ⟨bw, 1, none⟩) (by simpa using hb2) (.slice aw LU.length cw))).c2, (Z.below ((belR.setCell (p := ⟨bw, 0, none⟩) (by simpa using hb2) (.bool false)).setCell (p := ⟨bw, 1, none⟩) (by simpa using hb2) (.slice aw LU.length cw))).c2⟩
            clear hK K
            try simp only [Act.put, Ls]
            refine rdy 14 rfl (fun K hK => ?_)
            go_simp
            refine hK.out _ _ ?_ (fun hHeld => ?_)
            · exact ⟨(A.below ((belR.setCell (p := ⟨bw, 0, none⟩) (by simpa using hb2) (.bool false)).setCell (p := ⟨bw, 1, none⟩) (by simpa using hb2) (.slice aw LU.length cw))).c1, (A.below ((belR.setCell (p := ⟨bw, 0, none⟩) (by simpa using hb2) (.bool false)).setCell (p := ⟨bw, 1, none⟩) (by simpa using hb2) (.slice aw LU.length cw))).c2, (Z.below ((belR.setCell (p := ⟨bw, 0, none⟩) (by simpa using hb2) (.bool false)).setCell (p := ⟨bw, 1, none⟩) (by simpa using hb2) (.slice aw LU.length cw))).c2⟩
            clear hK K
            try simp only [Act.put, Ls]
            refine wpAnyH_done (by kernel_rfl) ?_ _
            go_wp2_with fail
            go_meet
            exact ⟨bw, aw, cw, rfl, rfl, R2.set Y _ _, ((o3.setOther ng3 _).setOther ng3 _).sl, ((belR.setCell (p := ⟨bw, 0, none⟩) (by simpa using hb2) (.bool false)).setCell (p := ⟨bw, 1, none⟩) (by simpa using hb2) (.slice aw LU.length cw))⟩
        · go_simp
          refine hK.out _ _ ?_ (fun hHeld => ?_)
          · exact ⟨(A.below (bel_al belR (.cells #[.bool false, .slice none 0 0] 35))).c1, (A.below (bel_al belR (.cells #[.bool false, .slice none 0 0] 35))).c2, (Z.below (bel_al belR (.cells #[.bool false, .slice none 0 0] 35))).c2⟩
          clear hK K
          try simp only [Act.put, Ls]
          obtain ⟨bw, h2⟩ : ∃ q, q = v0.heap.size := ⟨_, rfl⟩
          have hb2 : W.heap.size ≤ bw := by have := belR.size; omega
          have Y := R2.new v0 (.bool false) (.slice none 0 0) 35
          rw [← h2] at Y ⊢
          replace belR := bel_al belR (.cells #[.bool false, .slice none 0 0] 35)
          clear h2
          generalize v0.alloc (.cells #[.bool false, .slice none 0 0] 35) = v1 at Y belR hHeld ⊢
          refine rdy 2 rfl (fun K hK => ?_)
          go_simp
          go_at_call 16
          refine (WO'.out _).mono ?_
          rintro r v2 ⟨a2, c2, rfl, o2, hb'⟩
          replace Y := Y.below hb'
          replace belR := bel_go belR hb'
          clear hb'
          refine hK.out _ _ ?_ (fun hHeld => ?_)
          · exact ⟨(A.below belR).c1, (A.below belR).c2, (Z.below belR).c2⟩
          clear hK K
          try simp only [Act.put, Ls]
          refine rdy 8 rfl (fun K hK => ?_)
          go_simp
          go_at_call 15
          refine (SH.out a2 c2 _ o2.sl).mono ?_
          have hY : bw < v2.heap.size := World.block_lt_of_cell? _ _ Y.c0
          rintro r v3 ⟨aw, cw, rfl, o3, hb'⟩
          replace Y := Y.below hb'
          replace belR := bel_go belR hb'
          clear o2
          have ng3 : ∀ g, aw = some ⟨g, 0, none⟩ → g ≠ bw := fun g h => by have := (own_at' o3 g h).1; omega
          clear hY
          clear hb'
          refine hK.out _ _ ?_ (fun hHeld => ?_)
          · exact ⟨(A.below belR).c1, (A.below belR).c2, (Z.below belR).c2⟩
          clear hK K
          try simp only [Act.put, Ls]
          refine tk 9 ?_ rfl (Or.inl ⟨by rfl, ?_⟩) ?_
          rotate_left
          · (intro w hSw; go_simp; try (with_reducible rfl))
          try simp only [Act.put, Ls]
          refine tk 10 ?_ rfl (Or.inl ⟨by rfl, ?_⟩) ?_
          rotate_left
          · (intro w hSw; go_simp; try (with_reducible rfl))
          try simp only [Act.put, Ls]
          refine tk 11 ?_ rfl (Or.inl ⟨by rfl, ?_⟩) ?_
          rotate_left
          · (intro w hSw; go_simp; try (with_reducible rfl))
          try simp only [Act.put, Ls]
          refine rdy 13 rfl (fun K hK => ?_)
          have ⟨yc0, yc1, yf0, yf1⟩ := Y
          go_simp
          refine hK.out _ _ ?_ (fun hHeld => ?_)
          · exact ⟨(A.below ((belR.setCell (p := ⟨bw, 0, none⟩) (by simpa using hb2) (.bool false)).setCell (p := ⟨bw, 1, none⟩) (by simpa using hb2) (.slice aw LU.length cw))).c1, (A.below ((belR.setCell (p := ⟨bw, 0, none⟩) (by simpa using hb2) (.bool false)).setCell (p := ⟨bw, 1, none⟩) (by simpa using hb2) (.slice aw LU.length cw))).c2, (Z.below ((belR.setCell (p := ⟨bw, 0, none⟩) (by simpa using hb2) (.bool false)).setCell (p := ⟨bw, 1, none⟩) (by simpa using hb2) (.slice aw LU.length cw))).c2⟩
          clear hK K
          try simp only [Act.put, Ls]
          refine rdy 14 rfl (fun K hK => ?_)
          go_simp
          refine hK.out _ _ ?_ (fun hHeld => ?_)
          · exact ⟨(A.below ((belR.setCell (p := ⟨bw, 0, none⟩) (by simpa using hb2) (.bool false)).setCell (p := ⟨bw, 1, none⟩) (by simpa using hb2) (.slice aw LU.length cw))).c1, (A.below ((belR.setCell (p := ⟨bw, 0, none⟩) (by simpa using hb2) (.bool false)).setCell (p := ⟨bw, 1, none⟩) (by simpa using hb2) (.slice aw LU.length cw))).c2, (Z.below ((belR.setCell (p := ⟨bw, 0, none⟩) (by simpa using hb2) (.bool false)).setCell (p := ⟨bw, 1, none⟩) (by simpa using hb2) (.slice aw LU.length cw))).c2⟩
          clear hK K
          try simp only [Act.put, Ls]
          refine wpAnyH_done (by kernel_rfl) ?_ _
          go_wp2_with fail
          go_meet
          exact ⟨bw, aw, cw, rfl, rfl, R2.set Y _ _, ((o3.setOther ng3 _).setOther ng3 _).sl, ((belR.setCell (p := ⟨bw, 0, none⟩) (by simpa using hb2) (.bool false)).setCell (p := ⟨bw, 1, none⟩) (by simpa using hb2) (.slice aw LU.length cw))⟩
      case rest =>
      obtain ⟨bw, aw, cw, rfl, rfl, Y, sw, belR⟩ := hcut
      replace A := A.below belR
      replace U := U.below belR
      replace su := su.below belR
      replace bel := bel.trans (belR.mono bel.size)
      clear belR Z T
      go_upto_region 12 with fail
      replace A := A.dr
      replace U := U.drew
      replace Y := Y.drew
      replace su := su.drew
      replace sw := sw.drew
      replace bel := Below.drew bel
      cases s <;> cases g
      · refine wp_region_held_drew (S := fun w' => (w'.cell? ⟨w5.heap.size, 0, none⟩ = some (.bool false) ∧ w'.cell? ⟨w5.heap.size, 1, none⟩ = some (.slice au LU.length cu)) ∧ (w'.cell? ⟨bw, 0, none⟩ = some (.bool false) ∧ w'.cell? ⟨bw, 1, none⟩ = some (.slice aw LU.length cw)) ∧ w'.cell? ⟨w2.heap.size, 0, none⟩ = some (.bool false) ∧ w'.cell? ⟨w2.heap.size, 1, none⟩ = some (.int .i64 m)) (by kernel_rfl) ?_ (fun hHeld => ?_)
        · exact ⟨⟨U.c0, U.c1⟩, ⟨Y.c0, Y.c1⟩, A.c0, A.c1⟩
        refine tk 0 ?_ rfl (Or.inl ⟨by rfl, ?_⟩) ?_
        rotate_left
        · (intro w hSw; go_simp; try (with_reducible rfl))
        try simp only [Act.put, Ls]
        refine tk 1 ?_ rfl (Or.inl ⟨by rfl, ?_⟩) ?_
        rotate_left
        · (intro w hSw; go_simp; try (with_reducible rfl))
        try simp only [Act.put, Ls]
        refine tk 2 ?_ rfl (Or.inl ⟨by rfl, ?_⟩) ?_
        rotate_left
        · (intro w hSw; go_simp; try (with_reducible rfl))
        try simp only [Act.put, Ls]
        refine tk 3 ?_ rfl (Or.inl ⟨by rfl, ?_⟩) ?_
        rotate_left
        · (intro w hSw; go_simp; try (with_reducible rfl))
        try simp only [Act.put, Ls]
        refine tk 4 ?_ rfl (Or.inl ⟨by rfl, ?_⟩) ?_
        rotate_left
        · (intro w hSw; go_simp; try (with_reducible rfl))
        try simp only [Act.put, Ls]
        refine tk 5 ?_ rfl (Or.inl ⟨by rfl, ?_⟩) ?_
        rotate_left
        · (intro w hSw; go_simp; try (with_reducible rfl))
        try simp only [Act.put, Ls]
        refine tk 6 ?_ rfl (Or.inl ⟨by rfl, ?_⟩) ?_
        rotate_left
        · (intro w hSw; go_simp; try (with_reducible rfl))
        try simp only [Act.put, Ls]
        refine tk 7 ?_ rfl (Or.inl ⟨by rfl, ?_⟩) ?_
        rotate_left
        · (intro w hSw; go_simp; try (with_reducible rfl))
        try simp only [Act.put, Ls]
        refine tk 8 ?_ rfl (Or.inl ⟨by rfl, ?_⟩) ?_
        rotate_left
        · (intro w hSw; go_simp; try (with_reducible rfl))
        try simp only [Act.put, Ls]
        refine tk 9 ?_ rfl (Or.inl ⟨by rfl, ?_⟩) ?_
        rotate_left
        · (intro w hSw; go_simp; try (with_reducible rfl))
        try simp only [Act.put, Ls]
        refine tk 10 ?_ rfl (Or.inl ⟨by rfl, ?_⟩) ?_
        rotate_left
        · (intro w hSw; go_simp; try (with_reducible rfl))
        try simp only [Act.put, Ls]
        refine tk 11 ?_ rfl (Or.inl ⟨by rfl, ?_⟩) ?_
        rotate_left
        · (intro w hSw; go_simp; try (with_reducible rfl))
        try simp only [Act.put, Ls]
        refine tk 12 ?_ rfl (Or.inl ⟨by rfl, ?_⟩) ?_
        rotate_left
        · (intro w hSw; go_simp; try (with_reducible rfl))
        try simp only [Act.put, Ls]
        refine tk 13 ?_ rfl (Or.inl ⟨by rfl, ?_⟩) ?_
        rotate_left
        · (intro w hSw; (try dsimp only at hSw); obtain ⟨⟨hS0, hS1⟩, ⟨hS2, hS3⟩, hS4, hS5⟩ := hSw; go_simp; try (with_reducible rfl))
        try simp only [Act.put, Ls]
        refine tk 15 ?_ rfl (Or.inl ⟨by rfl, ?_⟩) ?_
        rotate_left
        · (intro w hSw; (try dsimp only at hSw); obtain ⟨⟨hS0, hS1⟩, ⟨hS2, hS3⟩, hS4, hS5⟩ := hSw; go_simp; try (with_reducible rfl))
        try simp only [Act.put, Ls]
        refine rdy 14 rfl (fun K hK => ?_)
        go_simp
        go_at_call 18
        refine (mag_any false au LU.length cu _).mono ?_
        rintro r W1 ⟨rfl, hb⟩
        replace A := A.below hb
        replace U := U.below hb
        replace Y := Y.below hb
        replace su := su.below hb
        replace sw := sw.below hb
        replace bel := bel_go bel hb
        clear hb
        refine hK.out _ _ ?_ (fun hHeld => ?_)
        · exact ⟨⟨U.c0, U.c1⟩, ⟨Y.c0, Y.c1⟩, A.c0, A.c1⟩
        clear hK K
        try simp only [Act.put, Ls]
        refine rdy 16 rfl (fun K hK => ?_)
        go_simp
        go_at_call 17
        refine (same_yes false au aw cu cw LU _ su sw hL).mono ?_
        rintro r W2 ⟨rfl, hb⟩
        replace A := A.below hb
        replace U := U.below hb
        replace Y := Y.below hb
        replace su := su.below hb
        replace sw := sw.below hb
        replace bel := bel_go bel hb
        clear hb
        refine hK.out _ _ ?_ (fun hHeld => ?_)
        · exact ⟨⟨U.c0, U.c1⟩, ⟨Y.c0, Y.c1⟩, A.c0, A.c1⟩
        clear hK K
        try simp only [Act.put, Ls]
        refine tk 17 ?_ rfl (Or.inl ⟨by rfl, ?_⟩) ?_
        rotate_left
        · (intro w hSw; go_simp; try (with_reducible rfl))
        try simp only [Act.put, Ls]
        refine tk 18 ?_ rfl (Or.inl ⟨by rfl, ?_⟩) ?_
        rotate_left
        · (intro w hSw; go_simp; try (with_reducible rfl))
        try simp only [Act.put, Ls]
        refine tk 19 ?_ rfl (Or.inl ⟨by rfl, ?_⟩) ?_
        rotate_left
        · (intro w hSw; go_simp; try (with_reducible rfl))
        try simp only [Act.put, Ls]
        refine tk 20 ?_ rfl (Or.inl ⟨by rfl, ?_⟩) ?_
        rotate_left
        · (intro w hSw; (try dsimp only at hSw); obtain ⟨⟨hS0, hS1⟩, ⟨hS2, hS3⟩, hS4, hS5⟩ := hSw; go_simp; try (with_reducible rfl))
        try simp only [Act.put, Ls]
        refine tk 21 ?_ rfl (Or.inl ⟨by rfl, ?_⟩) ?_
        rotate_left
        · (intro w hSw; go_simp; try (with_reducible rfl))
        try simp only [Act.put, Ls]
        refine tk 22 ?_ rfl (Or.inl ⟨by rfl, ?_⟩) ?_
        rotate_left
        · (intro w hSw; (try dsimp only at hSw); obtain ⟨⟨hS0, hS1⟩, ⟨hS2, hS3⟩, hS4, hS5⟩ := hSw; go_simp; try (with_reducible rfl))
        try simp only [Act.put, Ls]
        refine tk 23 ?_ rfl (Or.inl ⟨by rfl, ?_⟩) ?_
        rotate_left
        · (intro w hSw; go_simp; try (with_reducible rfl))
        try simp only [Act.put, Ls]
        refine tk 24 ?_ rfl (Or.inl ⟨by rfl, ?_⟩) ?_
        rotate_left
        · (intro w hSw; go_simp; try (with_reducible rfl))
        try simp only [Act.put, Ls]
        refine tk 25 undef rfl (Or.inr ⟨by rfl, rfl⟩) ?_
        try simp only [Act.put, Ls]
        refine tk 26 undef rfl (Or.inr ⟨by rfl, rfl⟩) ?_
        try simp only [Act.put, Ls]
        refine tk 27 undef rfl (Or.inr ⟨by rfl, rfl⟩) ?_
        try simp only [Act.put, Ls]
        refine tk 28 ?_ rfl (Or.inl ⟨by rfl, ?_⟩) ?_
        rotate_left
        · (intro w hSw; go_simp; try (with_reducible rfl))
        try simp only [Act.put, Ls]
        refine tk 29 ?_ rfl (Or.inl ⟨by rfl, ?_⟩) ?_
        rotate_left
        · (intro w hSw; go_simp; try (with_reducible rfl))
        try simp only [Act.put, Ls]
        refine rdy 30 rfl (fun K hK => ?_)
        go_simp
        refine hK.out _ _ ?_ (fun hHeld => ?_)
        · exact ⟨⟨U.c0, U.c1⟩, ⟨Y.c0, Y.c1⟩, A.c0, A.c1⟩
        clear hK K
        try simp only [Act.put, Ls]
        refine wpAnyH_done (by kernel_rfl) ?_ _
        go_wp2
        all_goals go_ret
        all_goals exact ⟨rfl, bel⟩
      · have hm0 : m = 0 := by have := HF.out; simpa using this
        subst hm0
        refine wp_region_held_drew (S := fun w' => (w'.cell? ⟨w5.heap.size, 0, none⟩ = some (.bool true) ∧ w'.cell? ⟨w5.heap.size, 1, none⟩ = some (.slice au LU.length cu)) ∧ (w'.cell? ⟨bw, 0, none⟩ = some (.bool false) ∧ w'.cell? ⟨bw, 1, none⟩ = some (.slice aw LU.length cw)) ∧ w'.cell? ⟨w2.heap.size, 0, none⟩ = some (.bool false) ∧ w'.cell? ⟨w2.heap.size, 1, none⟩ = some (.int .i64 0)) (by kernel_rfl) ?_ (fun hHeld => ?_)
        · exact ⟨⟨U.c0, U.c1⟩, ⟨Y.c0, Y.c1⟩, A.c0, A.c1⟩
        refine tk 0 ?_ rfl (Or.inl ⟨by rfl, ?_⟩) ?_
        rotate_left
        · (intro w hSw; go_simp; try (with_reducible rfl))
        try simp only [Act.put, Ls]
        refine tk 1 ?_ rfl (Or.inl ⟨by rfl, ?_⟩) ?_
        rotate_left
        · (intro w hSw; go_simp; try (with_reducible rfl))
        try simp only [Act.put, Ls]
        refine tk 2 ?_ rfl (Or.inl ⟨by rfl, ?_⟩) ?_
        rotate_left
        · (intro w hSw; go_simp; try (with_reducible rfl))
        try simp only [Act.put, Ls]
        refine tk 3 ?_ rfl (Or.inl ⟨by rfl, ?_⟩) ?_
        rotate_left
        · (intro w hSw; go_simp; try (with_reducible rfl))
        try simp only [Act.put, Ls]
        refine tk 4 ?_ rfl (Or.inl ⟨by rfl, ?_⟩) ?_
        rotate_left
        · (intro w hSw; go_simp; try (with_reducible rfl))
        try simp only [Act.put, Ls]
        refine tk 5 ?_ rfl (Or.inl ⟨by rfl, ?_⟩) ?_
        rotate_left
        · (intro w hSw; go_simp; try (with_reducible rfl))
        try simp only [Act.put, Ls]
        refine tk 6 ?_ rfl (Or.inl ⟨by rfl, ?_⟩) ?_
        rotate_left
        · (intro w hSw; go_simp; try (with_reducible rfl))
        try simp only [Act.put, Ls]
        refine tk 7 ?_ rfl (Or.inl ⟨by rfl, ?_⟩) ?_
        rotate_left
        · (intro w hSw; go_simp; try (with_reducible rfl))
        try simp only [Act.put, Ls]
        refine tk 8 ?_ rfl (Or.inl ⟨by rfl, ?_⟩) ?_
        rotate_left
        · (intro w hSw; go_simp; try (with_reducible rfl))
        try simp only [Act.put, Ls]
        refine tk 9 ?_ rfl (Or.inl ⟨by rfl, ?_⟩) ?_
        rotate_left
        · (intro w hSw; go_simp; try (with_reducible rfl))
        try simp only [Act.put, Ls]
        refine tk 10 ?_ rfl (Or.inl ⟨by rfl, ?_⟩) ?_
        rotate_left
        · (intro w hSw; go_simp; try (with_reducible rfl))
        try simp only [Act.put, Ls]
        refine tk 11 ?_ rfl (Or.inl ⟨by rfl, ?_⟩) ?_
        rotate_left
        · (intro w hSw; go_simp; try (with_reducible rfl))
        try simp only [Act.put, Ls]
        refine tk 12 ?_ rfl (Or.inl ⟨by rfl, ?_⟩) ?_
        rotate_left
        · (intro w hSw; go_simp; try (with_reducible rfl))
        try simp only [Act.put, Ls]
        refine tk 13 ?_ rfl (Or.inl ⟨by rfl, ?_⟩) ?_
        rotate_left
        · (intro w hSw; (try dsimp only at hSw); obtain ⟨⟨hS0, hS1⟩, ⟨hS2, hS3⟩, hS4, hS5⟩ := hSw; go_simp; try (with_reducible rfl))
        try simp only [Act.put, Ls]
        refine tk 15 ?_ rfl (Or.inl ⟨by rfl, ?_⟩) ?_
        rotate_left
        · (intro w hSw; (try dsimp only at hSw); obtain ⟨⟨hS0, hS1⟩, ⟨hS2, hS3⟩, hS4, hS5⟩ := hSw; go_simp; try (with_reducible rfl))
        try simp only [Act.put, Ls]
        refine rdy 14 rfl (fun K hK => ?_)
        go_simp
        go_at_call 18
        refine (mag_any true au LU.length cu _).mono ?_
        rintro r W1 ⟨rfl, hb⟩
        replace A := A.below hb
        replace U := U.below hb
        replace Y := Y.below hb
        replace su := su.below hb
        replace sw := sw.below hb
        replace bel := bel_go bel hb
        clear hb
        refine hK.out _ _ ?_ (fun hHeld => ?_)
        · exact ⟨⟨U.c0, U.c1⟩, ⟨Y.c0, Y.c1⟩, A.c0, A.c1⟩
        clear hK K
        try simp only [Act.put, Ls]
        refine rdy 16 rfl (fun K hK => ?_)
        go_simp
        go_at_call 17
        refine (same_yes false au aw cu cw LU _ su sw hL).mono ?_
        rintro r W2 ⟨rfl, hb⟩
        replace A := A.below hb
        replace U := U.below hb
        replace Y := Y.below hb
        replace su := su.below hb
        replace sw := sw.below hb
        replace bel := bel_go bel hb
        clear hb
        refine hK.out _ _ ?_ (fun hHeld => ?_)
        · exact ⟨⟨U.c0, U.c1⟩, ⟨Y.c0, Y.c1⟩, A.c0, A.c1⟩
        clear hK K
        try simp only [Act.put, Ls]
        refine tk 17 ?_ rfl (Or.inl ⟨by rfl, ?_⟩) ?_
        rotate_left
        · (intro w hSw; go_simp; try (with_reducible rfl))
        try simp only [Act.put, Ls]
        refine tk 18 ?_ rfl (Or.inl ⟨by rfl, ?_⟩) ?_
        rotate_left
        · (intro w hSw; go_simp; try (with_reducible rfl))
        try simp only [Act.put, Ls]
        refine tk 19 ?_ rfl (Or.inl ⟨by rfl, ?_⟩) ?_
        rotate_left
        · (intro w hSw; go_simp; try (with_reducible rfl))
        try simp only [Act.put, Ls]
        refine tk 20 ?_ rfl (Or.inl ⟨by rfl, ?_⟩) ?_
        rotate_left
        · (intro w hSw; (try dsimp only at hSw); obtain ⟨⟨hS0, hS1⟩, ⟨hS2, hS3⟩, hS4, hS5⟩ := hSw; go_simp; try (with_reducible rfl))
        try simp only [Act.put, Ls]
        refine tk 21 ?_ rfl (Or.inl ⟨by rfl, ?_⟩) ?_
        rotate_left
        · (intro w hSw; go_simp; try (with_reducible rfl))
        try simp only [Act.put, Ls]
        refine tk 22 ?_ rfl (Or.inl ⟨by rfl, ?_⟩) ?_
        rotate_left
        · (intro w hSw; (try dsimp only at hSw); obtain ⟨⟨hS0, hS1⟩, ⟨hS2, hS3⟩, hS4, hS5⟩ := hSw; go_simp; try (with_reducible rfl))
        try simp only [Act.put, Ls]
        refine tk 23 ?_ rfl (Or.inl ⟨by rfl, ?_⟩) ?_
        rotate_left
        · (intro w hSw; go_simp; try (with_reducible rfl))
        try simp only [Act.put, Ls]
        refine tk 24 ?_ rfl (Or.inl ⟨by rfl, ?_⟩) ?_
        rotate_left
        · (intro w hSw; go_simp; try (with_reducible rfl))
        try simp only [Act.put, Ls]
        refine tk 25 ?_ rfl (Or.inl ⟨by rfl, ?_⟩) ?_
        rotate_left
        · (intro w hSw; go_simp; try (with_reducible rfl))
        try simp only [Act.put, Ls]
        refine tk 26 ?_ rfl (Or.inl ⟨by rfl, ?_⟩) ?_
        rotate_left
        · (intro w hSw; (try dsimp only at hSw); obtain ⟨⟨hS0, hS1⟩, ⟨hS2, hS3⟩, hS4, hS5⟩ := hSw; go_simp; try (with_reducible rfl))
        try simp only [Act.put, Ls]
        refine tk 27 ?_ rfl (Or.inl ⟨by rfl, ?_⟩) ?_
        rotate_left
        · (intro w hSw; go_simp; try (with_reducible rfl))
        try simp only [Act.put, Ls]
        refine tk 28 ?_ rfl (Or.inl ⟨by rfl, ?_⟩) ?_
        rotate_left
        · (intro w hSw; go_simp; try (with_reducible rfl))
        try simp only [Act.put, Ls]
        refine tk 29 ?_ rfl (Or.inl ⟨by rfl, ?_⟩) ?_
        rotate_left
        · (intro w hSw; go_simp; try (with_reducible rfl))
        try simp only [Act.put, Ls]
        refine rdy 30 rfl (fun K hK => ?_)
        go_simp
        refine hK.out _ _ ?_ (fun hHeld => ?_)
        · exact ⟨⟨U.c0, U.c1⟩, ⟨Y.c0, Y.c1⟩, A.c0, A.c1⟩
        clear hK K
        try simp only [Act.put, Ls]
        refine wpAnyH_done (by kernel_rfl) ?_ _
        go_wp2
        all_goals go_ret
        all_goals exact ⟨rfl, bel⟩
      · have hm0 : m = 0 := by have := HF.out; simpa using this
        subst hm0
        refine wp_region_held_drew (S := fun w' => (w'.cell? ⟨w5.heap.size, 0, none⟩ = some (.bool false) ∧ w'.cell? ⟨w5.heap.size, 1, none⟩ = some (.slice au LU.length cu)) ∧ (w'.cell? ⟨bw, 0, none⟩ = some (.bool false) ∧ w'.cell? ⟨bw, 1, none⟩ = some (.slice aw LU.length cw)) ∧ w'.cell? ⟨w2.heap.size, 0, none⟩ = some (.bool true) ∧ w'.cell? ⟨w2.heap.size, 1, none⟩ = some (.int .i64 0)) (by kernel_rfl) ?_ (fun hHeld => ?_)
        · exact ⟨⟨U.c0, U.c1⟩, ⟨Y.c0, Y.c1⟩, A.c0, A.c1⟩
        refine tk 0 ?_ rfl (Or.inl ⟨by rfl, ?_⟩) ?_
        rotate_left
        · (intro w hSw; go_simp; try (with_reducible rfl))
        try simp only [Act.put, Ls]
        refine tk 1 ?_ rfl (Or.inl ⟨by rfl, ?_⟩) ?_
        rotate_left
        · (intro w hSw; go_simp; try (with_reducible rfl))
        try simp only [Act.put, Ls]
        refine tk 2 ?_ rfl (Or.inl ⟨by rfl, ?_⟩) ?_
        rotate_left
        · (intro w hSw; go_simp; try (with_reducible rfl))
        try simp only [Act.put, Ls]
        refine tk 3 ?_ rfl (Or.inl ⟨by rfl, ?_⟩) ?_
        rotate_left
        · (intro w hSw; go_simp; try (with_reducible rfl))
        try simp only [Act.put, Ls]
        refine tk 4 ?_ rfl (Or.inl ⟨by rfl, ?_⟩) ?_
        rotate_left
        · (intro w hSw; go_simp; try (with_reducible rfl))
        try simp only [Act.put, Ls]
        refine tk 5 ?_ rfl (Or.inl ⟨by rfl, ?_⟩) ?_
        rotate_left
        · (intro w hSw; go_simp; try (with_reducible rfl))
        try simp only [Act.put, Ls]
        refine tk 6 ?_ rfl (Or.inl ⟨by rfl, ?_⟩) ?_
        rotate_left
        · (intro w hSw; go_simp; try (with_reducible rfl))
        try simp only [Act.put, Ls]
        refine tk 7 ?_ rfl (Or.inl ⟨by rfl, ?_⟩) ?_
        rotate_left
        · (intro w hSw; go_simp; try (with_reducible rfl))
        try simp only [Act.put, Ls]
        refine tk 8 ?_ rfl (Or.inl ⟨by rfl, ?_⟩) ?_
        rotate_left
        · (intro w hSw; go_simp; try (with_reducible rfl))
        try simp only [Act.put, Ls]
        refine tk 9 ?_ rfl (Or.inl ⟨by rfl, ?_⟩) ?_
        rotate_left
        · (intro w hSw; go_simp; try (with_reducible rfl))
        try simp only [Act.put, Ls]
        refine tk 10 ?_ rfl (Or.inl ⟨by rfl, ?_⟩) ?_
        rotate_left
        · (intro w hSw; go_simp; try (with_reducible rfl))
        try simp only [Act.put, Ls]
        refine tk 11 ?_ rfl (Or.inl ⟨by rfl, ?_⟩) ?_
        rotate_left
        · (intro w hSw; go_simp; try (with_reducible rfl))
        try simp only [Act.put, Ls]
        refine tk 12 ?_ rfl (Or.inl ⟨by rfl, ?_⟩) ?_
        rotate_left
        · (intro w hSw; go_simp; try (with_reducible rfl))
        try simp only [Act.put, Ls]
        refine tk 13 ?_ rfl (Or.inl ⟨by rfl, ?_⟩) ?_
        rotate_left
        · (intro w hSw; (try dsimp only at hSw); obtain ⟨⟨hS0, hS1⟩, ⟨hS2, hS3⟩, hS4, hS5⟩ := hSw; go_simp; try (with_reducible rfl))
        try simp only [Act.put, Ls]
        refine tk 15 ?_ rfl (Or.inl ⟨by rfl, ?_⟩) ?_
        rotate_left
        · (intro w hSw; (try dsimp only at hSw); obtain ⟨⟨hS0, hS1⟩, ⟨hS2, hS3⟩, hS4, hS5⟩ := hSw; go_simp; try (with_reducible rfl))
        try simp only [Act.put, Ls]
        refine rdy 14 rfl (fun K hK => ?_)
        go_simp
        go_at_call 18
        refine (mag_any false au LU.length cu _).mono ?_
        rintro r W1 ⟨rfl, hb⟩
        replace A := A.below hb
        replace U := U.below hb
        replace Y := Y.below hb
        replace su := su.below hb
        replace sw := sw.below hb
        replace bel := bel_go bel hb
        clear hb
        refine hK.out _ _ ?_ (fun hHeld => ?_)
        · exact ⟨⟨U.c0, U.c1⟩, ⟨Y.c0, Y.c1⟩, A.c0, A.c1⟩
        clear hK K
        try simp only [Act.put, Ls]
        refine rdy 16 rfl (fun K hK => ?_)
        go_simp
        go_at_call 17
        refine (same_yes false au aw cu cw LU _ su sw hL).mono ?_
        rintro r W2 ⟨rfl, hb⟩
        replace A := A.below hb
        replace U := U.below hb
        replace Y := Y.below hb
        replace su := su.below hb
        replace sw := sw.below hb
        replace bel := bel_go bel hb
        clear hb
        refine hK.out _ _ ?_ (fun hHeld => ?_)
        · exact ⟨⟨U.c0, U.c1⟩, ⟨Y.c0, Y.c1⟩, A.c0, A.c1⟩
        clear hK K
        try simp only [Act.put, Ls]
        refine tk 17 ?_ rfl (Or.inl ⟨by rfl, ?_⟩) ?_
        rotate_left
        · (intro w hSw; go_simp; try (with_reducible rfl))
        try simp only [Act.put, Ls]
        refine tk 18 ?_ rfl (Or.inl ⟨by rfl, ?_⟩) ?_
        rotate_left
        · (intro w hSw; go_simp; try (with_reducible rfl))
        try simp only [Act.put, Ls]
        refine tk 19 ?_ rfl (Or.inl ⟨by rfl, ?_⟩) ?_
        rotate_left
        · (intro w hSw; go_simp; try (with_reducible rfl))
        try simp only [Act.put, Ls]
        refine tk 20 ?_ rfl (Or.inl ⟨by rfl, ?_⟩) ?_
        rotate_left
        · (intro w hSw; (try dsimp only at hSw); obtain ⟨⟨hS0, hS1⟩, ⟨hS2, hS3⟩, hS4, hS5⟩ := hSw; go_simp; try (with_reducible rfl))
        try simp only [Act.put, Ls]
        refine tk 21 ?_ rfl (Or.inl ⟨by rfl, ?_⟩) ?_
        rotate_left
        · (intro w hSw; go_simp; try (with_reducible rfl))
        try simp only [Act.put, Ls]
        refine tk 22 ?_ rfl (Or.inl ⟨by rfl, ?_⟩) ?_
        rotate_left
        · (intro w hSw; (try dsimp only at hSw); obtain ⟨⟨hS0, hS1⟩, ⟨hS2, hS3⟩, hS4, hS5⟩ := hSw; go_simp; try (with_reducible rfl))
        try simp only [Act.put, Ls]
        refine tk 23 ?_ rfl (Or.inl ⟨by rfl, ?_⟩) ?_
        rotate_left
        · (intro w hSw; go_simp; try (with_reducible rfl))
        try simp only [Act.put, Ls]
        refine tk 24 ?_ rfl (Or.inl ⟨by rfl, ?_⟩) ?_
        rotate_left
        · (intro w hSw; go_simp; try (with_reducible rfl))
        try simp only [Act.put, Ls]
        refine tk 25 ?_ rfl (Or.inl ⟨by rfl, ?_⟩) ?_
        rotate_left
        · (intro w hSw; go_simp; try (with_reducible rfl))
        try simp only [Act.put, Ls]
        refine tk 26 ?_ rfl (Or.inl ⟨by rfl, ?_⟩) ?_
        rotate_left
        · (intro w hSw; (try dsimp only at hSw); obtain ⟨⟨hS0, hS1⟩, ⟨hS2, hS3⟩, hS4, hS5⟩ := hSw; go_simp; try (with_reducible rfl))
        try simp only [Act.put, Ls]
        refine tk 27 ?_ rfl (Or.inl ⟨by rfl, ?_⟩) ?_
        rotate_left
        · (intro w hSw; go_simp; try (with_reducible rfl))
        try simp only [Act.put, Ls]
        refine tk 28 ?_ rfl (Or.inl ⟨by rfl, ?_⟩) ?_
        rotate_left
        · (intro w hSw; go_simp; try (with_reducible rfl))
        try simp only [Act.put, Ls]
        refine tk 29 ?_ rfl (Or.inl ⟨by rfl, ?_⟩) ?_
        rotate_left
        · (intro w hSw; go_simp; try (with_reducible rfl))
        try simp only [Act.put, Ls]
        refine rdy 30 rfl (fun K hK => ?_)
        go_simp
        refine hK.out _ _ ?_ (fun hHeld => ?_)
        · exact ⟨⟨U.c0, U.c1⟩, ⟨Y.c0, Y.c1⟩, A.c0, A.c1⟩
        clear hK K
        try simp only [Act.put, Ls]
        refine wpAnyH_done (by kernel_rfl) ?_ _
        go_wp2
        all_goals go_ret
        all_goals exact ⟨rfl, bel⟩
      · refine wp_region_held_drew (S := fun w' => (w'.cell? ⟨w5.heap.size, 0, none⟩ = some (.bool true) ∧ w'.cell? ⟨w5.heap.size, 1, none⟩ = some (.slice au LU.length cu)) ∧ (w'.cell? ⟨bw, 0, none⟩ = some (.bool false) ∧ w'.cell? ⟨bw, 1, none⟩ = some (.slice aw LU.length cw)) ∧ w'.cell? ⟨w2.heap.size, 0, none⟩ = some (.bool true) ∧ w'.cell? ⟨w2.heap.size, 1, none⟩ = some (.int .i64 m)) (by kernel_rfl) ?_ (fun hHeld => ?_)
        · exact ⟨⟨U.c0, U.c1⟩, ⟨Y.c0, Y.c1⟩, A.c0, A.c1⟩
        refine tk 0 ?_ rfl (Or.inl ⟨by rfl, ?_⟩) ?_
        rotate_left
        · (intro w hSw; go_simp; try (with_reducible rfl))
        try simp only [Act.put, Ls]
        refine tk 1 ?_ rfl (Or.inl ⟨by rfl, ?_⟩) ?_
        rotate_left
        · (intro w hSw; go_simp; try (with_reducible rfl))
        try simp only [Act.put, Ls]
        refine tk 2 ?_ rfl (Or.inl ⟨by rfl, ?_⟩) ?_
        rotate_left
        · (intro w hSw; go_simp; try (with_reducible rfl))
        try simp only [Act.put, Ls]
        refine tk 3 ?_ rfl (Or.inl ⟨by rfl, ?_⟩) ?_
        rotate_left
        · (intro w hSw; go_simp; try (with_reducible rfl))
        try simp only [Act.put, Ls]
        refine tk 4 ?_ rfl (Or.inl ⟨by rfl, ?_⟩) ?_
        rotate_left
        · (intro w hSw; go_simp; try (with_reducible rfl))
        try simp only [Act.put, Ls]
        refine tk 5 ?_ rfl (Or.inl ⟨by rfl, ?_⟩) ?_
        rotate_left
        · (intro w hSw; go_simp; try (with_reducible rfl))
        try simp only [Act.put, Ls]
        refine tk 6 ?_ rfl (Or.inl ⟨by rfl, ?_⟩) ?_
        rotate_left
        · (intro w hSw; go_simp; try (with_reducible rfl))
        try simp only [Act.put, Ls]
        refine tk 7 ?_ rfl (Or.inl ⟨by rfl, ?_⟩) ?_
        rotate_left
        · (intro w hSw; go_simp; try (with_reducible rfl))
        try simp only [Act.put, Ls]
        refine tk 8 ?_ rfl (Or.inl ⟨by rfl, ?_⟩) ?_
        rotate_left
        · (intro w hSw; go_simp; try (with_reducible rfl))
        try simp only [Act.put, Ls]
        refine tk 9 ?_ rfl (Or.inl ⟨by rfl, ?_⟩) ?_
        rotate_left
        · (intro w hSw; go_simp; try (with_reducible rfl))
        try simp only [Act.put, Ls]
        refine tk 10 ?_ rfl (Or.inl ⟨by rfl, ?_⟩) ?_
        rotate_left
        · (intro w hSw; go_simp; try (with_reducible rfl))
        try simp only [Act.put, Ls]
        refine tk 11 ?_ rfl (Or.inl ⟨by rfl, ?_⟩) ?_
        rotate_left
        · (intro w hSw; go_simp; try (with_reducible rfl))
        try simp only [Act.put, Ls]
        refine tk 12 ?_ rfl (Or.inl ⟨by rfl, ?_⟩) ?_
        rotate_left
        · (intro w hSw; go_simp; try (with_reducible rfl))
        try simp only [Act.put, Ls]
        refine tk 13 ?_ rfl (Or.inl ⟨by rfl, ?_⟩) ?_
        rotate_left
        · (intro w hSw; (try dsimp only at hSw); obtain ⟨⟨hS0, hS1⟩, ⟨hS2, hS3⟩, hS4, hS5⟩ := hSw; go_simp; try (with_reducible rfl))
        try simp only [Act.put, Ls]
        refine tk 15 ?_ rfl (Or.inl ⟨by rfl, ?_⟩) ?_
        rotate_left
        · (intro w hSw; (try dsimp only at hSw); obtain ⟨⟨hS0, hS1⟩, ⟨hS2, hS3⟩, hS4, hS5⟩ := hSw; go_simp; try (with_reducible rfl))
        try simp only [Act.put, Ls]
        refine rdy 14 rfl (fun K hK => ?_)
        go_simp
        go_at_call 18
        refine (mag_any true au LU.length cu _).mono ?_
        rintro r W1 ⟨rfl, hb⟩
        replace A := A.below hb
        replace U := U.below hb
        replace Y := Y.below hb
        replace su := su.below hb
        replace sw := sw.below hb
        replace bel := bel_go bel hb
        clear hb
        refine hK.out _ _ ?_ (fun hHeld => ?_)
        · exact ⟨⟨U.c0, U.c1⟩, ⟨Y.c0, Y.c1⟩, A.c0, A.c1⟩
        clear hK K
        try simp only [Act.put, Ls]
        refine rdy 16 rfl (fun K hK => ?_)
        go_simp
        go_at_call 17
        refine (same_yes false au aw cu cw LU _ su sw hL).mono ?_
        rintro r W2 ⟨rfl, hb⟩
        replace A := A.below hb
        replace U := U.below hb
        replace Y := Y.below hb
        replace su := su.below hb
        replace sw := sw.below hb
        replace bel := bel_go bel hb
        clear hb
        refine hK.out _ _ ?_ (fun hHeld => ?_)
        · exact ⟨⟨U.c0, U.c1⟩, ⟨Y.c0, Y.c1⟩, A.c0, A.c1⟩
        clear hK K
        try simp only [Act.put, Ls]
        refine tk 17 ?_ rfl (Or.inl ⟨by rfl, ?_⟩) ?_
        rotate_left
        · (intro w hSw; go_simp; try (with_reducible rfl))
        try simp only [Act.put, Ls]
        refine tk 18 ?_ rfl (Or.inl ⟨by rfl, ?_⟩) ?_
        rotate_left
        · (intro w hSw; go_simp; try (with_reducible rfl))
        try simp only [Act.put, Ls]
        refine tk 19 ?_ rfl (Or.inl ⟨by rfl, ?_⟩) ?_
        rotate_left
        · (intro w hSw; go_simp; try (with_reducible rfl))
        try simp only [Act.put, Ls]
        refine tk 20 ?_ rfl (Or.inl ⟨by rfl, ?_⟩) ?_
        rotate_left
        · (intro w hSw; (try dsimp only at hSw); obtain ⟨⟨hS0, hS1⟩, ⟨hS2, hS3⟩, hS4, hS5⟩ := hSw; go_simp; try (with_reducible rfl))
        try simp only [Act.put, Ls]
        refine tk 21 ?_ rfl (Or.inl ⟨by rfl, ?_⟩) ?_
        rotate_left
        · (intro w hSw; go_simp; try (with_reducible rfl))
        try simp only [Act.put, Ls]
        refine tk 22 ?_ rfl (Or.inl ⟨by rfl, ?_⟩) ?_
        rotate_left
        · (intro w hSw; (try dsimp only at hSw); obtain ⟨⟨hS0, hS1⟩, ⟨hS2, hS3⟩, hS4, hS5⟩ := hSw; go_simp; try (with_reducible rfl))
        try simp only [Act.put, Ls]
        refine tk 23 ?_ rfl (Or.inl ⟨by rfl, ?_⟩) ?_
        rotate_left
        · (intro w hSw; go_simp; try (with_reducible rfl))
        try simp only [Act.put, Ls]
        refine tk 24 ?_ rfl (Or.inl ⟨by rfl, ?_⟩) ?_
        rotate_left
        · (intro w hSw; go_simp; try (with_reducible rfl))
        try simp only [Act.put, Ls]
        refine tk 25 undef rfl (Or.inr ⟨by rfl, rfl⟩) ?_
        try simp only [Act.put, Ls]
        refine tk 26 undef rfl (Or.inr ⟨by rfl, rfl⟩) ?_
        try simp only [Act.put, Ls]
        refine tk 27 undef rfl (Or.inr ⟨by rfl, rfl⟩) ?_
        try simp only [Act.put, Ls]
        refine tk 28 ?_ rfl (Or.inl ⟨by rfl, ?_⟩) ?_
        rotate_left
        · (intro w hSw; go_simp; try (with_reducible rfl))
        try simp only [Act.put, Ls]
        refine tk 29 ?_ rfl (Or.inl ⟨by rfl, ?_⟩) ?_
        rotate_left
        · (intro w hSw; go_simp; try (with_reducible rfl))
        try simp only [Act.put, Ls]
        refine rdy 30 rfl (fun K hK => ?_)
        go_simp
        refine hK.out _ _ ?_ (fun hHeld => ?_)
        · exact ⟨⟨U.c0, U.c1⟩, ⟨Y.c0, Y.c1⟩, A.c0, A.c1⟩
        clear hK K
        try simp only [Act.put, Ls]
        refine wpAnyH_done (by kernel_rfl) ?_ _
        go_wp2
        all_goals go_ret
        all_goals exact ⟨rfl, bel⟩
    · clear hfm
      have hx1 : x < 18446744073709551616 := x1
      obtain ⟨f1, f2, f3, f4, f5⟩ := fp_parts64 x0 hx1 hf
      have FI := hid (fun w' h => parts_impl 64 (pS 64 x) (pM 64 x) (pE 64 x) w' h (by have := (pM_bd 64 x).2; omega))
      have eO : FpO 64 (pM 64 x) (pE 64 x) = true := f1
      have eB : FpB 64 (pS 64 x) (pM 64 x) (pE 64 x) = x := f2
      rw [eO, eB, ← HS.out, ← HM.out, ← HE.out] at FI
      have UI := hid (fun w' h => units_impl 64 x w' h x0 x1)
      unfold Ans at UI
      rw [hf] at UI
      have SH := hid (fun a c w' h => sh_parts64 x0 hx1 hf a c w' h)
      rw [← HM.out, ← HE.out] at SH
      have S0 := hid (fun w' => spec_parts 64 0 w' (by decide) (by decide))
      have g1 : finB 64 0 = true := by decide +kernel
      have g2 : pS 64 0 = false := by decide +kernel
      have g3 : pM 64 0 = 0 := by decide +kernel
      have g4 : pE 64 0 = (-1074) := by decide +kernel
      rw [g1, g2, g3, g4] at S0
      have WO' := hid (fun w' => wof_impl m w' (by rw [HM.out]; omega) (by rw [HM.out]; have := (pM_bd 64 x).2; omega))
      have hL : (Nm.wl (unI 64 x)).length ≤ 1048576 := by have := un_len 64 x hf; omega
      rw [← HS.out, ← HM.out] at f5
      obtain ⟨g, hg⟩ : ∃ q, q = Nm.wn (unI 64 x) := ⟨_, rfl⟩
      obtain ⟨LU, hLU⟩ : ∃ q, q = Nm.wl (unI 64 x) := ⟨_, rfl⟩
      rw [← hg, ← hLU] at UI
      rw [← hLU] at SH hL
      rw [← hg] at f5
      have rx : (x == x) = true := by simp
      have HF := hid f5
      clear f1 f2 f3 f4 f5 eO eB g1 g2 g3 g4 hg hLU hf HS HM HE
      go_wp2_with fail
      refine (IP.out _ T.f).mono ?_
      rintro r w2 ⟨rfl, hb⟩
      replace bel := bel_al (bel_go bel hb) (.cells #[.bool s, .int .i64 m, .int .i64 E] 28)
      replace T := (T.below hb).al (.cells #[.bool s, .int .i64 m, .int .i64 E] 28)
      have A := R3.new w2 (.bool s) (.int .i64 m) (.int .i64 E) 28
      clear hb
      go_wp2_with fail
      refine (SP.out _).mono ?_
      rintro r w3 ⟨rfl, hb⟩
      replace bel := bel_al (bel_go bel hb) (.cells #[.bool s, .int .i64 m, .int .i64 E] 28)
      replace T := (T.below hb).al (.cells #[.bool s, .int .i64 m, .int .i64 E] 28)
      replace A := (A.below hb).al (.cells #[.bool s, .int .i64 m, .int .i64 E] 28)
      have B := R3.new w3 (.bool s) (.int .i64 m) (.int .i64 E) 28
      clear hb
      obtain ⟨a0, a1, a2, af0, af1, af2⟩ := id A
      obtain ⟨p0, p1, p2, pf0, pf1, pf2⟩ := id B
      go_wp2_with fail
      refine (FI.out _ T).mono ?_
      rintro r w4 ⟨rfl, hb⟩
      replace bel := bel_go bel hb
      replace T := T.below hb
      replace A := A.below hb
      clear hb a0 a1 a2 af0 af1 af2 p0 p1 p2 pf0 pf1 pf2 B
      go_wp2_with fail
      refine (UI.out _ T.f).mono ?_
      rintro r w5 ⟨au, cu, rfl, ou, hb⟩
      replace bel := bel_al (bel_go bel hb) (.cells #[.bool g, .slice au LU.length cu] 35)
      replace T := (T.below hb).al (.cells #[.bool g, .slice au LU.length cu] 35)
      replace A := (A.below hb).al (.cells #[.bool g, .slice au LU.length cu] 35)
      have U := R2.new w5 (.bool g) (.slice au LU.length cu) 35
      have su := ou.sl.alloc (.cells #[.bool g, .slice au LU.length cu] 35)
      clear hb ou
      go_wp2_with fail
      refine (S0.out _).mono ?_
      rintro r w6 ⟨rfl, hb⟩
      replace bel := bel_al (bel_go bel hb) (.cells #[.bool false, .int .i64 0, .int .i64 (-1074)] 28)
      replace T := (T.below hb).al (.cells #[.bool false, .int .i64 0, .int .i64 (-1074)] 28)
      replace A := (A.below hb).al (.cells #[.bool false, .int .i64 0, .int .i64 (-1074)] 28)
      replace U := (U.below hb).alloc (.cells #[.bool false, .int .i64 0, .int .i64 (-1074)] 28)
      replace su := (su.below hb).alloc (.cells #[.bool false, .int .i64 0, .int .i64 (-1074)] 28)
      have Z := R3.new w6 (.bool false) (.int .i64 0) (.int .i64 (-1074)) 28
      clear hb
      go_upto_region 11 with fail
      generalize w6.alloc (.cells #[.bool false, .int .i64 0, .int .i64 (-1074)] 28) = W at bel T A U su Z ⊢
      go_cut [15, 16] (fun s15 s16 wx => ∃ (bw : Nat) (aw : Option Addr) (cw : Nat), s15 = .pointer (some ⟨bw, 0, none⟩) ∧ s16 = .bool true ∧ R2 wx bw (.bool false) (.slice aw LU.length cw) ∧ Sl .u32 wx (.slice aw LU.length cw) LU ∧ Below W.heap.size W wx)
      case first =>
        have belR := Below.drew (Below.refl W.heap.size W)
        refine wp_region_held_drew (S := fun w' => w'.cell? ⟨w2.heap.size, 1, none⟩ = some (.int .i64 m) ∧ w'.cell? ⟨w2.heap.size, 2, none⟩ = some (.int .i64 E) ∧ w'.cell? ⟨w6.heap.size, 2, none⟩ = some (.int .i64 (-1074))) (by kernel_rfl) ?_ (fun hHeld => ?_)
        · exact ⟨A.c1, A.c2, Z.c2⟩
        generalize W.drew = v0 at belR hHeld ⊢
        refine tk 0 ?_ rfl (Or.inl ⟨by rfl, ?_⟩) ?_
        rotate_left
        · (intro w hSw; go_simp; try (with_reducible rfl))
        try simp only [Act.put, Ls]
        refine tk 1 ?_ rfl (Or.inl ⟨by rfl, ?_⟩) ?_
        rotate_left
        · (intro w hSw; (try dsimp only at hSw); obtain ⟨hS0, hS1, hS2⟩ := hSw; go_simp; try (with_reducible rfl))
        try simp only [Act.put, Ls]
        refine tk 3 ?_ rfl (Or.inl ⟨by rfl, ?_⟩) ?_
        rotate_left
        · (intro w hSw; go_simp; try (with_reducible rfl))
        try simp only [Act.put, Ls]
        refine tk 4 ?_ rfl (Or.inl ⟨by rfl, ?_⟩) ?_
        rotate_left
        · (intro w hSw; (try dsimp only at hSw); obtain ⟨hS0, hS1, hS2⟩ := hSw; go_simp; try (with_reducible rfl))
        try simp only [Act.put, Ls]
        refine tk 5 ?_ rfl (Or.inl ⟨by rfl, ?_⟩) ?_
        rotate_left
        · (intro w hSw; go_simp; try (with_reducible rfl))
        try simp only [Act.put, Ls]
        refine tk 6 ?_ rfl (Or.inl ⟨by rfl, ?_⟩) ?_
        rotate_left
        · (intro w hSw; (try dsimp only at hSw); obtain ⟨hS0, hS1, hS2⟩ := hSw; go_simp; try (with_reducible rfl))
        try simp only [Act.put, Ls]
        refine tk 7 ?_ rfl (Or.inl ⟨by rfl, ?_⟩) ?_
        rotate_left
        · (intro w hSw; go_simp; try (with_reducible rfl))
        try simp only [Act.put, Ls]
        refine wpAnyH_ready (rs := [2, 12]) (by kernel_rfl) (by simp) ?_
        refine AllReadyH.cons (o := _) rfl (fun K hK => ?_) (AllReadyH.cons (o := _) rfl (fun K hK => ?_) AllReadyH.nil)
        · go_simp
          go_at_call 16
          refine (WO'.out _).mono ?_
          rintro r v1 ⟨a2, c2, rfl, o2, hb'⟩
          replace belR := bel_go belR hb'
          clear hb'
          refine hK.out _ _ ?_ (fun hHeld => ?_)
          · exact ⟨(A.below belR).c1, (A.below belR).c2, (Z.below belR).c2⟩
          clear hK K
          try simp only [Act.put, Ls]
          refine wpAnyH_ready (rs := [8, 12]) (by kernel_rfl) (by simp) ?_
          refine AllReadyH.cons (o := _) rfl (fun K hK => ?_) (AllReadyH.cons (o := _) rfl (fun K hK => ?_) AllReadyH.nil)
          · go_simp
            go_at_call 15
            refine (SH.out a2 c2 _ o2.sl).mono ?_
            rintro r v2 ⟨aw, cw, rfl, o3, hb'⟩
            replace belR := bel_go belR hb'
            clear o2
            clear hb'
            refine hK.out _ _ ?_ (fun hHeld => ?_)
            · exact ⟨(A.below belR).c1, (A.below belR).c2, (Z.below belR).c2⟩
            clear hK K
            try simp only [Act.put, Ls]
            refine tk 9 ?_ rfl (Or.inl ⟨by rfl, ?_⟩) ?_
            rotate_left
            · (intro w hSw; go_simp; try (with_reducible rfl))
            try simp only [Act.put, Ls]
            refine tk 10 ?_ rfl (Or.inl ⟨by rfl, ?_⟩) ?_
            rotate_left
            · (intro w hSw; go_simp; try (with_reducible rfl))
            try simp only [Act.put, Ls]
            refine tk 11 ?_ rfl (Or.inl ⟨by rfl, ?_⟩) ?_
            rotate_left
            · (intro w hSw; go_simp; try (with_reducible rfl))
            try simp only [Act.put, Ls]
            refine rdy 12 rfl (fun K hK => ?_)
            go_simp
            refine hK.out _ _ ?_ (fun hHeld => ?_)
            · exact ⟨(A.below (bel_al belR (.cells #[.bool false, .slice none 0 0] 35))).c1, (A.below (bel_al belR (.cells #[.bool false, .slice none 0 0] 35))).c2, (Z.below (bel_al belR (.cells #[.bool false, .slice none 0 0] 35))).c2⟩
            clear hK K
            try simp only [Act.put, Ls]
            obtain ⟨bw, h2⟩ : ∃ q, q = v2.heap.size := ⟨_, rfl⟩
            have hb2 : W.heap.size ≤ bw := by have := belR.size; omega
            have Y := R2.new v2 (.bool false) (.slice none 0 0) 35
            rw [← h2] at Y ⊢
            have ng3 : ∀ g, aw = some ⟨g, 0, none⟩ → g ≠ bw := fun g h => by have := (own_at' o3 g h).2; omega
            replace o3 := o3.alloc (.cells #[.bool false, .slice none 0 0] 35)
            replace belR := bel_al belR (.cells #[.bool false, .slice none 0 0] 35)
            clear h2
            generalize v2.alloc (.cells #[.bool false, .slice none 0 0] 35) = v3 at Y belR hHeld o3 ⊢
            refine rdy 13 rfl (fun K hK => ?_)
            have ⟨yc0, yc1, yf0, yf1⟩ := Y
            go_simp
            refine hK.out _ _ ?_ (fun hHeld => ?_)
            · exact ⟨(A.below ((belR.setCell (p := ⟨bw, 0, none⟩) (by simpa using hb2) (.bool false)).setCell (p := ⟨bw, 1, none⟩) (by simpa using hb2) (.slice aw LU.length cw))).c1, (A.below ((belR.setCell (p := ⟨bw, 0, none⟩) (by simpa using hb2) (.bool false)).setCell (p := ⟨bw, 1, none⟩) (by simpa using hb2) (.slice aw LU.length cw))).c2, (Z.below ((belR.setCell (p := ⟨bw, 0, none⟩) (by simpa using hb2) (.bool false)).setCell (p := ⟨bw, 1, none⟩) (by simpa using hb2) (.slice aw LU.length cw))).c2⟩
            clear hK K
            try simp only [Act.put, Ls]
            refine rdy 14 rfl (fun K hK => ?_)
            go_simp
            refine hK.out _ _ ?_ (fun hHeld => ?_)
            · exact ⟨(A.below ((belR.setCell (p := ⟨bw, 0, none⟩) (by simpa using hb2) (.bool false)).setCell (p := ⟨bw, 1, none⟩) (by simpa using hb2) (.slice aw LU.length cw))).c1, (A.below ((belR.setCell (p := ⟨bw, 0, none⟩) (by simpa using hb2) (.bool false)).setCell (p := ⟨bw, 1, none⟩) (by simpa using hb2) (.slice aw LU.length cw))).c2, (Z.below ((belR.setCell (p := ⟨bw, 0, none⟩) (by simpa using hb2) (.bool false)).setCell (p := ⟨bw, 1, none⟩) (by simpa using hb2) (.slice aw LU.length cw))).c2⟩
            clear hK K
            try simp only [Act.put, Ls]
            refine wpAnyH_done (by kernel_rfl) ?_ _
            go_wp2_with fail
            go_meet
            exact ⟨bw, aw, cw, rfl, rfl, R2.set Y _ _, ((o3.setOther ng3 _).setOther ng3 _).sl, ((belR.setCell (p := ⟨bw, 0, none⟩) (by simpa using hb2) (.bool false)).setCell (p := ⟨bw, 1, none⟩) (by simpa using hb2) (.slice aw LU.length cw))⟩
          · go_simp
            refine hK.out _ _ ?_ (fun hHeld => ?_)
            · exact ⟨(A.below (bel_al belR (.cells #[.bool false, .slice none 0 0] 35))).c1, (A.below (bel_al belR (.cells #[.bool false, .slice none 0 0] 35))).c2, (Z.below (bel_al belR (.cells #[.bool false, .slice none 0 0] 35))).c2⟩
            clear hK K
            try simp only [Act.put, Ls]
            obtain ⟨bw, h2⟩ : ∃ q, q = v1.heap.size := ⟨_, rfl⟩
            have hb2 : W.heap.size ≤ bw := by have := belR.size; omega
            have Y := R2.new v1 (.bool false) (.slice none 0 0) 35
            rw [← h2] at Y ⊢
            replace o2 := o2.alloc (.cells #[.bool false, .slice none 0 0] 35)
            replace belR := bel_al belR (.cells #[.bool false, .slice none 0 0] 35)
            clear h2
            generalize v1.alloc (.cells #[.bool false, .slice none 0 0] 35) = v2 at Y belR hHeld o2 ⊢
            refine rdy 8 rfl (fun K hK => ?_)
            go_simp
            go_at_call 15
            refine (SH.out a2 c2 _ o2.sl).mono ?_
            have hY : bw < v2.heap.size := World.block_lt_of_cell? _ _ Y.c0
            rintro r v3 ⟨aw, cw, rfl, o3, hb'⟩
            replace Y := Y.below hb'
            replace belR := bel_go belR hb'
            clear o2
            have ng3 : ∀ g, aw = some ⟨g, 0, none⟩ → g ≠ bw := fun g h => by have := (own_at' o3 g h).1; omega
            clear hY
            clear hb'
            refine hK.out _ _ ?_ (fun hHeld => ?_)
            · exact ⟨(A.below belR).c1, (A.below belR).c2, (Z.below belR).c2⟩
            clear hK K
            try simp only [Act.put, Ls]
            refine tk 9 ?_ rfl (Or.inl ⟨by rfl, ?_⟩) ?_
            rotate_left
            · (intro w hSw; go_simp; try (with_reducible rfl))
            try simp only [Act.put, Ls]
            refine tk 10 ?_ rfl (Or.inl ⟨by rfl, ?_⟩) ?_
            rotate_left
            · (intro w hSw; go_simp; try (with_reducible rfl))
            try simp only [Act.put, Ls]
            refine tk 11 ?_ rfl (Or.inl ⟨by rfl, ?_⟩) ?_
            rotate_left
            · (intro w hSw; go_simp; try (with_reducible rfl))
            try simp only [Act.put, Ls]
            refine rdy 13 rfl (fun K hK => ?_)
            have ⟨yc0, yc1, yf0, yf1⟩ := Y
            go_simp
            refine hK.out _ _ ?_ (fun hHeld => ?_)
            · exact ⟨(A.below ((belR.setCell (p := ⟨bw, 0, none⟩) (by simpa using hb2) (.bool false)).setCell (p := ⟨bw, 1, none⟩) (by simpa using hb2) (.slice aw LU.length cw))).c1, (A.below ((belR.setCell (p := ⟨bw, 0, none⟩) (by simpa using hb2) (.bool false)).setCell (p := ⟨bw, 1, none⟩) (by simpa using hb2) (.slice aw LU.length cw))).c2, (Z.below ((belR.setCell (p := ⟨bw, 0, none⟩) (by simpa using hb2) (.bool false)).setCell (p := ⟨bw, 1, none⟩) (by simpa using hb2) (.slice aw LU.length cw))).c2⟩
            clear hK K
            try simp only [Act.put, Ls]
            refine rdy 14 rfl (fun K hK => ?_)
            go_simp
            refine hK.out _ _ ?_ (fun hHeld => ?_)
            · exact ⟨(A.below ((belR.setCell (p := ⟨bw, 0, none⟩) (by simpa using hb2) (.bool false)).setCell (p := ⟨bw, 1, none⟩) (by simpa using hb2) (.slice aw LU.length cw))).c1, (A.below ((belR.setCell (p := ⟨bw, 0, none⟩) (by simpa using hb2) (.bool false)).setCell (p := ⟨bw, 1, none⟩) (by simpa using hb2) (.slice aw LU.length cw))).c2, (Z.below ((belR.setCell (p := ⟨bw, 0, none⟩) (by simpa using hb2) (.bool false)).setCell (p := ⟨bw, 1, none⟩) (by simpa using hb2) (.slice aw LU.length cw))).c2⟩
            clear hK K
            try simp only [Act.put, Ls]
            refine wpAnyH_done (by kernel_rfl) ?_ _
            go_wp2_with fail
            go_meet
            exact ⟨bw, aw, cw, rfl, rfl, R2.set Y _ _, ((o3.setOther ng3 _).setOther ng3 _).sl, ((belR.setCell (p := ⟨bw, 0, none⟩) (by simpa using hb2) (.bool false)).setCell (p := ⟨bw, 1, none⟩) (by simpa using hb2) (.slice aw LU.length cw))⟩
        · go_simp
          refine hK.out _ _ ?_ (fun hHeld => ?_)
          · exact ⟨(A.below (bel_al belR (.cells #[.bool false, .slice none 0 0] 35))).c1, (A.below (bel_al belR (.cells #[.bool false, .slice none 0 0] 35))).c2, (Z.below (bel_al belR (.cells #[.bool false, .slice none 0 0] 35))).c2⟩
          clear hK K
          try simp only [Act.put, Ls]
          obtain ⟨bw, h2⟩ : ∃ q, q = v0.heap.size := ⟨_, rfl⟩
          have hb2 : W.heap.size ≤ bw := by have := belR.size; omega
          have Y := R2.new v0 (.bool false) (.slice none 0 0) 35
          rw [← h2] at Y ⊢
          replace belR := bel_al belR (.cells #[.bool false, .slice none 0 0] 35)
          clear h2
          generalize v0.alloc (.cells #[.bool false, .slice none 0 0] 35) = v1 at Y belR hHeld ⊢
          refine rdy 2 rfl (fun K hK => ?_)
          go_simp
          go_at_call 16
          refine (WO'.out _).mono ?_
          rintro r v2 ⟨a2, c2, rfl, o2, hb'⟩
          replace Y := Y.below hb'
          replace belR := bel_go belR hb'
          clear hb'
          refine hK.out _ _ ?_ (fun hHeld => ?_)
          · exact ⟨(A.below belR).c1, (A.below belR).c2, (Z.below belR).c2⟩
          clear hK K
          try simp only [Act.put, Ls]
          refine rdy 8 rfl (fun K hK => ?_)
          go_simp
          go_at_call 15
          refine (SH.out a2 c2 _ o2.sl).mono ?_
          have hY : bw < v2.heap.size := World.block_lt_of_cell? _ _ Y.c0
          rintro r v3 ⟨aw, cw, rfl, o3, hb'⟩
          replace Y := Y.below hb'
          replace belR := bel_go belR hb'
          clear o2
          have ng3 : ∀ g, aw = some ⟨g, 0, none⟩ → g ≠ bw := fun g h => by have := (own_at' o3 g h).1; omega
          clear hY
          clear hb'
          refine hK.out _ _ ?_ (fun hHeld => ?_)
          · exact ⟨(A.below belR).c1, (A.below belR).c2, (Z.below belR).c2⟩
          clear hK K
          try simp only [Act.put, Ls]
          refine tk 9 ?_ rfl (Or.inl ⟨by rfl, ?_⟩) ?_
          rotate_left
          · (intro w hSw; go_simp; try (with_reducible rfl))
          try simp only [Act.put, Ls]
          refine tk 10 ?_ rfl (Or.inl ⟨by rfl, ?_⟩) ?_
          rotate_left
          · (intro w hSw; go_simp; try (with_reducible rfl))
          try simp only [Act.put, Ls]
          refine tk 11 ?_ rfl (Or.inl ⟨by rfl, ?_⟩) ?_
          rotate_left
          · (intro w hSw; go_simp; try (with_reducible rfl))
          try simp only [Act.put, Ls]
          refine rdy 13 rfl (fun K hK => ?_)
          have ⟨yc0, yc1, yf0, yf1⟩ := Y
          go_simp
          refine hK.out _ _ ?_ (fun hHeld => ?_)
          · exact ⟨(A.below ((belR.setCell (p := ⟨bw, 0, none⟩) (by simpa using hb2) (.bool false)).setCell (p := ⟨bw, 1, none⟩) (by simpa using hb2) (.slice aw LU.length cw))).c1, (A.below ((belR.setCell (p := ⟨bw, 0, none⟩) (by simpa using hb2) (.bool false)).setCell (p := ⟨bw, 1, none⟩) (by simpa using hb2) (.slice aw LU.length cw))).c2, (Z.below ((belR.setCell (p := ⟨bw, 0, none⟩) (by simpa using hb2) (.bool false)).setCell (p := ⟨bw, 1, none⟩) (by simpa using hb2) (.slice aw LU.length cw))).c2⟩
          clear hK K
          try simp only [Act.put, Ls]
          refine rdy 14 rfl (fun K hK => ?_)
          go_simp
          refine hK.out _ _ ?_ (fun hHeld => ?_)
          · exact ⟨(A.below ((belR.setCell (p := ⟨bw, 0, none⟩) (by simpa using hb2) (.bool false)).setCell (p := ⟨bw, 1, none⟩) (by simpa using hb2) (.slice aw LU.length cw))).c1, (A.below ((belR.setCell (p := ⟨bw, 0, none⟩) (by simpa using hb2) (.bool false)).setCell (p := ⟨bw, 1, none⟩) (by simpa using hb2) (.slice aw LU.length cw))).c2, (Z.below ((belR.setCell (p := ⟨bw, 0, none⟩) (by simpa using hb2) (.bool false)).setCell (p := ⟨bw, 1, none⟩) (by simpa using hb2) (.slice aw LU.length cw))).c2⟩
          clear hK K
          try simp only [Act.put, Ls]
          refine wpAnyH_done (by kernel_rfl) ?_ _
          go_wp2_with fail
          go_meet
          exact ⟨bw, aw, cw, rfl, rfl, R2.set Y _ _, ((o3.setOther ng3 _).setOther ng3 _).sl, ((belR.setCell (p := ⟨bw, 0, none⟩) (by simpa using hb2) (.bool false)).setCell (p := ⟨bw, 1, none⟩) (by simpa using hb2) (.slice aw LU.length cw))⟩
      case rest =>
      obtain ⟨bw, aw, cw, rfl, rfl, Y, sw, belR⟩ := hcut
      replace A := A.below belR
      replace U := U.below belR
      replace su := su.below belR
      replace bel := bel.trans (belR.mono bel.size)
      clear belR Z T
      go_upto_region 12 with fail
      replace A := A.dr
      replace U := U.drew
      replace Y := Y.drew
      replace su := su.drew
      replace sw := sw.drew
      replace bel := Below.drew bel
      cases s <;> cases g
      · refine wp_region_held_drew (S := fun w' => (w'.cell? ⟨w5.heap.size, 0, none⟩ = some (.bool false) ∧ w'.cell? ⟨w5.heap.size, 1, none⟩ = some (.slice au LU.length cu)) ∧ (w'.cell? ⟨bw, 0, none⟩ = some (.bool false) ∧ w'.cell? ⟨bw, 1, none⟩ = some (.slice aw LU.length cw)) ∧ w'.cell? ⟨w2.heap.size, 0, none⟩ = some (.bool false) ∧ w'.cell? ⟨w2.heap.size, 1, none⟩ = some (.int .i64 m)) (by kernel_rfl) ?_ (fun hHeld => ?_)
        · exact ⟨⟨U.c0, U.c1⟩, ⟨Y.c0, Y.c1⟩, A.c0, A.c1⟩
        refine tk 0 ?_ rfl (Or.inl ⟨by rfl, ?_⟩) ?_
        rotate_left
        · (intro w hSw; go_simp; try (with_reducible rfl))
        try simp only [Act.put, Ls]
        refine tk 1 ?_ rfl (Or.inl ⟨by rfl, ?_⟩) ?_
        rotate_left
        · (intro w hSw; go_simp; try (with_reducible rfl))
        try simp only [Act.put, Ls]
        refine tk 2 ?_ rfl (Or.inl ⟨by rfl, ?_⟩) ?_
        rotate_left
        · (intro w hSw; go_simp; try (with_reducible rfl))
        try simp only [Act.put, Ls]
        refine tk 3 ?_ rfl (Or.inl ⟨by rfl, ?_⟩) ?_
        rotate_left
        · (intro w hSw; go_simp; try (with_reducible rfl))
        try simp only [Act.put, Ls]
        refine tk 4 ?_ rfl (Or.inl ⟨by rfl, ?_⟩) ?_
        rotate_left
        · (intro w hSw; go_simp; try (with_reducible rfl))
        try simp only [Act.put, Ls]
        refine tk 5 ?_ rfl (Or.inl ⟨by rfl, ?_⟩) ?_
        rotate_left
        · (intro w hSw; go_simp; try (with_reducible rfl))
        try simp only [Act.put, Ls]
        refine tk 6 ?_ rfl (Or.inl ⟨by rfl, ?_⟩) ?_
        rotate_left
        · (intro w hSw; go_simp; try (with_reducible rfl))
        try simp only [Act.put, Ls]
        refine tk 7 ?_ rfl (Or.inl ⟨by rfl, ?_⟩) ?_
        rotate_left
        · (intro w hSw; go_simp; try (with_reducible rfl))
        try simp only [Act.put, Ls]
        refine tk 8 ?_ rfl (Or.inl ⟨by rfl, ?_⟩) ?_
        rotate_left
        · (intro w hSw; go_simp; try (with_reducible rfl))
        try simp only [Act.put, Ls]
        refine tk 9 ?_ rfl (Or.inl ⟨by rfl, ?_⟩) ?_
        rotate_left
        · (intro w hSw; go_simp; try (with_reducible rfl))
        try simp only [Act.put, Ls]
        refine tk 10 ?_ rfl (Or.inl ⟨by rfl, ?_⟩) ?_
        rotate_left
        · (intro w hSw; go_simp; try (with_reducible rfl))
        try simp only [Act.put, Ls]
        refine tk 11 ?_ rfl (Or.inl ⟨by rfl, ?_⟩) ?_
        rotate_left
        · (intro w hSw; go_simp; try (with_reducible rfl))
        try simp only [Act.put, Ls]
        refine tk 12 ?_ rfl (Or.inl ⟨by rfl, ?_⟩) ?_
        rotate_left
        · (intro w hSw; go_simp; try (with_reducible rfl))
        try simp only [Act.put, Ls]
        refine tk 13 ?_ rfl (Or.inl ⟨by rfl, ?_⟩) ?_
        rotate_left
        · (intro w hSw; (try dsimp only at hSw); obtain ⟨⟨hS0, hS1⟩, ⟨hS2, hS3⟩, hS4, hS5⟩ := hSw; go_simp; try (with_reducible rfl))
        try simp only [Act.put, Ls]
        refine tk 15 ?_ rfl (Or.inl ⟨by rfl, ?_⟩) ?_
        rotate_left
        · (intro w hSw; (try dsimp only at hSw); obtain ⟨⟨hS0, hS1⟩, ⟨hS2, hS3⟩, hS4, hS5⟩ := hSw; go_simp; try (with_reducible rfl))
        try simp only [Act.put, Ls]
        refine rdy 14 rfl (fun K hK => ?_)
        go_simp
        go_at_call 18
        refine (mag_any false au LU.length cu _).mono ?_
        rintro r W1 ⟨rfl, hb⟩
        replace A := A.below hb
        replace U := U.below hb
        replace Y := Y.below hb
        replace su := su.below hb
        replace sw := sw.below hb
        replace bel := bel_go bel hb
        clear hb
        refine hK.out _ _ ?_ (fun hHeld => ?_)
        · exact ⟨⟨U.c0, U.c1⟩, ⟨Y.c0, Y.c1⟩, A.c0, A.c1⟩
        clear hK K
        try simp only [Act.put, Ls]
        refine rdy 16 rfl (fun K hK => ?_)
        go_simp
        go_at_call 17
        refine (same_yes false au aw cu cw LU _ su sw hL).mono ?_
        rintro r W2 ⟨rfl, hb⟩
        replace A := A.below hb
        replace U := U.below hb
        replace Y := Y.below hb
        replace su := su.below hb
        replace sw := sw.below hb
        replace bel := bel_go bel hb
        clear hb
        refine hK.out _ _ ?_ (fun hHeld => ?_)
        · exact ⟨⟨U.c0, U.c1⟩, ⟨Y.c0, Y.c1⟩, A.c0, A.c1⟩
        clear hK K
        try simp only [Act.put, Ls]
        refine tk 17 ?_ rfl (Or.inl ⟨by rfl, ?_⟩) ?_
        rotate_left
        · (intro w hSw; go_simp; try (with_reducible rfl))
        try simp only [Act.put, Ls]
        refine tk 18 ?_ rfl (Or.inl ⟨by rfl, ?_⟩) ?_
        rotate_left
        · (intro w hSw; go_simp; try (with_reducible rfl))
        try simp only [Act.put, Ls]
        refine tk 19 ?_ rfl (Or.inl ⟨by rfl, ?_⟩) ?_
        rotate_left
        · (intro w hSw; go_simp; try (with_reducible rfl))
        try simp only [Act.put, Ls]
        refine tk 20 ?_ rfl (Or.inl ⟨by rfl, ?_⟩) ?_
        rotate_left
        · (intro w hSw; (try dsimp only at hSw); obtain ⟨⟨hS0, hS1⟩, ⟨hS2, hS3⟩, hS4, hS5⟩ := hSw; go_simp; try (with_reducible rfl))
        try simp only [Act.put, Ls]
        refine tk 21 ?_ rfl (Or.inl ⟨by rfl, ?_⟩) ?_
        rotate_left
        · (intro w hSw; go_simp; try (with_reducible rfl))
        try simp only [Act.put, Ls]
        refine tk 22 ?_ rfl (Or.inl ⟨by rfl, ?_⟩) ?_
        rotate_left
        · (intro w hSw; (try dsimp only at hSw); obtain ⟨⟨hS0, hS1⟩, ⟨hS2, hS3⟩, hS4, hS5⟩ := hSw; go_simp; try (with_reducible rfl))
        try simp only [Act.put, Ls]
        refine tk 23 ?_ rfl (Or.inl ⟨by rfl, ?_⟩) ?_
        rotate_left
        · (intro w hSw; go_simp; try (with_reducible rfl))
        try simp only [Act.put, Ls]
        refine tk 24 ?_ rfl (Or.inl ⟨by rfl, ?_⟩) ?_
        rotate_left
        · (intro w hSw; go_simp; try (with_reducible rfl))
        try simp only [Act.put, Ls]
        refine tk 25 undef rfl (Or.inr ⟨by rfl, rfl⟩) ?_
        try simp only [Act.put, Ls]
        refine tk 26 undef rfl (Or.inr ⟨by rfl, rfl⟩) ?_
        try simp only [Act.put, Ls]
        refine tk 27 undef rfl (Or.inr ⟨by rfl, rfl⟩) ?_
        try simp only [Act.put, Ls]
        refine tk 28 ?_ rfl (Or.inl ⟨by rfl, ?_⟩) ?_
        rotate_left
        · (intro w hSw; go_simp; try (with_reducible rfl))
        try simp only [Act.put, Ls]
        refine tk 29 ?_ rfl (Or.inl ⟨by rfl, ?_⟩) ?_
        rotate_left
        · (intro w hSw; go_simp; try (with_reducible rfl))
        try simp only [Act.put, Ls]
        refine rdy 30 rfl (fun K hK => ?_)
        go_simp
        refine hK.out _ _ ?_ (fun hHeld => ?_)
        · exact ⟨⟨U.c0, U.c1⟩, ⟨Y.c0, Y.c1⟩, A.c0, A.c1⟩
        clear hK K
        try simp only [Act.put, Ls]
        refine wpAnyH_done (by kernel_rfl) ?_ _
        go_wp2
        all_goals go_ret
        all_goals exact ⟨rfl, bel⟩
      · have hm0 : m = 0 := by have := HF.out; simpa using this
        subst hm0
        refine wp_region_held_drew (S := fun w' => (w'.cell? ⟨w5.heap.size, 0, none⟩ = some (.bool true) ∧ w'.cell? ⟨w5.heap.size, 1, none⟩ = some (.slice au LU.length cu)) ∧ (w'.cell? ⟨bw, 0, none⟩ = some (.bool false) ∧ w'.cell? ⟨bw, 1, none⟩ = some (.slice aw LU.length cw)) ∧ w'.cell? ⟨w2.heap.size, 0, none⟩ = some (.bool false) ∧ w'.cell? ⟨w2.heap.size, 1, none⟩ = some (.int .i64 0)) (by kernel_rfl) ?_ (fun hHeld => ?_)
        · exact ⟨⟨U.c0, U.c1⟩, ⟨Y.c0, Y.c1⟩, A.c0, A.c1⟩
        refine tk 0 ?_ rfl (Or.inl ⟨by rfl, ?_⟩) ?_
        rotate_left
        · (intro w hSw; go_simp; try (with_reducible rfl))
        try simp only [Act.put, Ls]
        refine tk 1 ?_ rfl (Or.inl ⟨by rfl, ?_⟩) ?_
        rotate_left
        · (intro w hSw; go_simp; try (with_reducible rfl))
        try simp only [Act.put, Ls]
        refine tk 2 ?_ rfl (Or.inl ⟨by rfl, ?_⟩) ?_
        rotate_left
        · (intro w hSw; go_simp; try (with_reducible rfl))
        try simp only [Act.put, Ls]
        refine tk 3 ?_ rfl (Or.inl ⟨by rfl, ?_⟩) ?_
        rotate_left
        · (intro w hSw; go_simp; try (with_reducible rfl))
        try simp only [Act.put, Ls]
        refine tk 4 ?_ rfl (Or.inl ⟨by rfl, ?_⟩) ?_
        rotate_left
        · (intro w hSw; go_simp; try (with_reducible rfl))
        try simp only [Act.put, Ls]
        refine tk 5 ?_ rfl (Or.inl ⟨by rfl, ?_⟩) ?_
        rotate_left
        · (intro w hSw; go_simp; try (with_reducible rfl))
        try simp only [Act.put, Ls]
        refine tk 6 ?_ rfl (Or.inl ⟨by rfl, ?_⟩) ?_
        rotate_left
        · (intro w hSw; go_simp; try (with_reducible rfl))
        try simp only [Act.put, Ls]
        refine tk 7 ?_ rfl (Or.inl ⟨by rfl, ?_⟩) ?_
        rotate_left
        · (intro w hSw; go_simp; try (with_reducible rfl))
        try simp only [Act.put, Ls]
        refine tk 8 ?_ rfl (Or.inl ⟨by rfl, ?_⟩) ?_
        rotate_left
        · (intro w hSw; go_simp; try (with_reducible rfl))
        try simp only [Act.put, Ls]
        refine tk 9 ?_ rfl (Or.inl ⟨by rfl, ?_⟩) ?_
        rotate_left
        · (intro w hSw; go_simp; try (with_reducible rfl))
        try simp only [Act.put, Ls]
        refine tk 10 ?_ rfl (Or.inl ⟨by rfl, ?_⟩) ?_
        rotate_left
        · (intro w hSw; go_simp; try (with_reducible rfl))
        try simp only [Act.put, Ls]
        refine tk 11 ?_ rfl (Or.inl ⟨by rfl, ?_⟩) ?_
        rotate_left
        · (intro w hSw; go_simp; try (with_reducible rfl))
        try simp only [Act.put, Ls]
        refine tk 12 ?_ rfl (Or.inl ⟨by rfl, ?_⟩) ?_
        rotate_left
        · (intro w hSw; go_simp; try (with_reducible rfl))
        try simp only [Act.put, Ls]
        refine tk 13 ?_ rfl (Or.inl ⟨by rfl, ?_⟩) ?_
        rotate_left
        · (intro w hSw; (try dsimp only at hSw); obtain ⟨⟨hS0, hS1⟩, ⟨hS2, hS3⟩, hS4, hS5⟩ := hSw; go_simp; try (with_reducible rfl))
        try simp only [Act.put, Ls]
        refine tk 15 ?_ rfl (Or.inl ⟨by rfl, ?_⟩) ?_
        rotate_left
        · (intro w hSw; (try dsimp only at hSw); obtain ⟨⟨hS0, hS1⟩, ⟨hS2, hS3⟩, hS4, hS5⟩ := hSw; go_simp; try (with_reducible rfl))
        try simp only [Act.put, Ls]
        refine rdy 14 rfl (fun K hK => ?_)
        go_simp
        go_at_call 18
        refine (mag_any true au LU.length cu _).mono ?_
        rintro r W1 ⟨rfl, hb⟩
        replace A := A.below hb
        replace U := U.below hb
        replace Y := Y.below hb
        replace su := su.below hb
        replace sw := sw.below hb
        replace bel := bel_go bel hb
        clear hb
        refine hK.out _ _ ?_ (fun hHeld => ?_)
        · exact ⟨⟨U.c0, U.c1⟩, ⟨Y.c0, Y.c1⟩, A.c0, A.c1⟩
        clear hK K
        try simp only [Act.put, Ls]
        refine rdy 16 rfl (fun K hK => ?_)
        go_simp
        go_at_call 17
        refine (same_yes false au aw cu cw LU _ su sw hL).mono ?_
        rintro r W2 ⟨rfl, hb⟩
        replace A := A.below hb
        replace U := U.below hb
        replace Y := Y.below hb
        replace su := su.below hb
        replace sw := sw.below hb
        replace bel := bel_go bel hb
        clear hb
        refine hK.out _ _ ?_ (fun hHeld => ?_)
        · exact ⟨⟨U.c0, U.c1⟩, ⟨Y.c0, Y.c1⟩, A.c0, A.c1⟩
        clear hK K
        try simp only [Act.put, Ls]
        refine tk 17 ?_ rfl (Or.inl ⟨by rfl, ?_⟩) ?_
        rotate_left
        · (intro w hSw; go_simp; try (with_reducible rfl))
        try simp only [Act.put, Ls]
        refine tk 18 ?_ rfl (Or.inl ⟨by rfl, ?_⟩) ?_
        rotate_left
        · (intro w hSw; go_simp; try (with_reducible rfl))
        try simp only [Act.put, Ls]
        refine tk 19 ?_ rfl (Or.inl ⟨by rfl, ?_⟩) ?_
        rotate_left
        · (intro w hSw; go_simp; try (with_reducible rfl))
        try simp only [Act.put, Ls]
        refine tk 20 ?_ rfl (Or.inl ⟨by rfl, ?_⟩) ?_
        rotate_left
        · (intro w hSw; (try dsimp only at hSw); obtain ⟨⟨hS0, hS1⟩, ⟨hS2, hS3⟩, hS4, hS5⟩ := hSw; go_simp; try (with_reducible rfl))
        try simp only [Act.put, Ls]
        refine tk 21 ?_ rfl (Or.inl ⟨by rfl, ?_⟩) ?_
        rotate_left
        · (intro w hSw; go_simp; try (with_reducible rfl))
        try simp only [Act.put, Ls]
        refine tk 22 ?_ rfl (Or.inl ⟨by rfl, ?_⟩) ?_
        rotate_left
        · (intro w hSw; (try dsimp only at hSw); obtain ⟨⟨hS0, hS1⟩, ⟨hS2, hS3⟩, hS4, hS5⟩ := hSw; go_simp; try (with_reducible rfl))
        try simp only [Act.put, Ls]
        refine tk 23 ?_ rfl (Or.inl ⟨by rfl, ?_⟩) ?_
        rotate_left
        · (intro w hSw; go_simp; try (with_reducible rfl))
        try simp only [Act.put, Ls]
        refine tk 24 ?_ rfl (Or.inl ⟨by rfl, ?_⟩) ?_
        rotate_left
        · (intro w hSw; go_simp; try (with_reducible rfl))
        try simp only [Act.put, Ls]
        refine tk 25 ?_ rfl (Or.inl ⟨by rfl, ?_⟩) ?_
        rotate_left
        · (intro w hSw; go_simp; try (with_reducible rfl))
        try simp only [Act.put, Ls]
        refine tk 26 ?_ rfl (Or.inl ⟨by rfl, ?_⟩) ?_
        rotate_left
        · (intro w hSw; (try dsimp only at hSw); obtain ⟨⟨hS0, hS1⟩, ⟨hS2, hS3⟩, hS4, hS5⟩ := hSw; go_simp; try (with_reducible rfl))
        try simp only [Act.put, Ls]
        refine tk 27 ?_ rfl (Or.inl ⟨by rfl, ?_⟩) ?_
        rotate_left
        · (intro w hSw; go_simp; try (with_reducible rfl))
        try simp only [Act.put, Ls]
        refine tk 28 ?_ rfl (Or.inl ⟨by rfl, ?_⟩) ?_
        rotate_left
        · (intro w hSw; go_simp; try (with_reducible rfl))
        try simp only [Act.put, Ls]
        refine tk 29 ?_ rfl (Or.inl ⟨by rfl, ?_⟩) ?_
        rotate_left
        · (intro w hSw; go_simp; try (with_reducible rfl))
        try simp only [Act.put, Ls]
        refine rdy 30 rfl (fun K hK => ?_)
        go_simp
        refine hK.out _ _ ?_ (fun hHeld => ?_)
        · exact ⟨⟨U.c0, U.c1⟩, ⟨Y.c0, Y.c1⟩, A.c0, A.c1⟩
        clear hK K
        try simp only [Act.put, Ls]
        refine wpAnyH_done (by kernel_rfl) ?_ _
        go_wp2
        all_goals go_ret
        all_goals exact ⟨rfl, bel⟩
      · have hm0 : m = 0 := by have := HF.out; simpa using this
        subst hm0
        refine wp_region_held_drew (S := fun w' => (w'.cell? ⟨w5.heap.size, 0, none⟩ = some (.bool false) ∧ w'.cell? ⟨w5.heap.size, 1, none⟩ = some (.slice au LU.length cu)) ∧ (w'.cell? ⟨bw, 0, none⟩ = some (.bool false) ∧ w'.cell? ⟨bw, 1, none⟩ = some (.slice aw LU.length cw)) ∧ w'.cell? ⟨w2.heap.size, 0, none⟩ = some (.bool true) ∧ w'.cell? ⟨w2.heap.size, 1, none⟩ = some (.int .i64 0)) (by kernel_rfl) ?_ (fun hHeld => ?_)
        · exact ⟨⟨U.c0, U.c1⟩, ⟨Y.c0, Y.c1⟩, A.c0, A.c1⟩
        refine tk 0 ?_ rfl (Or.inl ⟨by rfl, ?_⟩) ?_
        rotate_left
        · (intro w hSw; go_simp; try (with_reducible rfl))
        try simp only [Act.put, Ls]
        refine tk 1 ?_ rfl (Or.inl ⟨by rfl, ?_⟩) ?_
        rotate_left
        · (intro w hSw; go_simp; try (with_reducible rfl))
        try simp only [Act.put, Ls]
        refine tk 2 ?_ rfl (Or.inl ⟨by rfl, ?_⟩) ?_
        rotate_left
        · (intro w hSw; go_simp; try (with_reducible rfl))
        try simp only [Act.put, Ls]
        refine tk 3 ?_ rfl (Or.inl ⟨by rfl, ?_⟩) ?_
        rotate_left
        · (intro w hSw; go_simp; try (with_reducible rfl))
        try simp only [Act.put, Ls]
        refine tk 4 ?_ rfl (Or.inl ⟨by rfl, ?_⟩) ?_
        rotate_left
        · (intro w hSw; go_simp; try (with_reducible rfl))
        try simp only [Act.put, Ls]
        refine tk 5 ?_ rfl (Or.inl ⟨by rfl, ?_⟩) ?_
        rotate_left
        · (intro w hSw; go_simp; try (with_reducible rfl))
        try simp only [Act.put, Ls]
        refine tk 6 ?_ rfl (Or.inl ⟨by rfl, ?_⟩) ?_
        rotate_left
        · (intro w hSw; go_simp; try (with_reducible rfl))
        try simp only [Act.put, Ls]
        refine tk 7 ?_ rfl (Or.inl ⟨by rfl, ?_⟩) ?_
        rotate_left
        · (intro w hSw; go_simp; try (with_reducible rfl))
        try simp only [Act.put, Ls]
        refine tk 8 ?_ rfl (Or.inl ⟨by rfl, ?_⟩) ?_
        rotate_left
        · (intro w hSw; go_simp; try (with_reducible rfl))
        try simp only [Act.put, Ls]
        refine tk 9 ?_ rfl (Or.inl ⟨by rfl, ?_⟩) ?_
        rotate_left
        · (intro w hSw; go_simp; try (with_reducible rfl))
        try simp only [Act.put, Ls]
        refine tk 10 ?_ rfl (Or.inl ⟨by rfl, ?_⟩) ?_
        rotate_left
        · (intro w hSw; go_simp; try (with_reducible rfl))
        try simp only [Act.put, Ls]
        refine tk 11 ?_ rfl (Or.inl ⟨by rfl, ?_⟩) ?_
        rotate_left
        · (intro w hSw; go_simp; try (with_reducible rfl))
        try simp only [Act.put, Ls]
        refine tk 12 ?_ rfl (Or.inl ⟨by rfl, ?_⟩) ?_
        rotate_left
        · (intro w hSw; go_simp; try (with_reducible rfl))
        try simp only [Act.put, Ls]
        refine tk 13 ?_ rfl (Or.inl ⟨by rfl, ?_⟩) ?_
        rotate_left
        · (intro w hSw; (try dsimp only at hSw); obtain ⟨⟨hS0, hS1⟩, ⟨hS2, hS3⟩, hS4, hS5⟩ := hSw; go_simp; try (with_reducible rfl))
        try simp only [Act.put, Ls]
        refine tk 15 ?_ rfl (Or.inl ⟨by rfl, ?_⟩) ?_
        rotate_left
        · (intro w hSw; (try dsimp only at hSw); obtain ⟨⟨hS0, hS1⟩, ⟨hS2, hS3⟩, hS4, hS5⟩ := hSw; go_simp; try (with_reducible rfl))
        try simp only [Act.put, Ls]
        refine rdy 14 rfl (fun K hK => ?_)
        go_simp
        go_at_call 18
        refine (mag_any false au LU.length cu _).mono ?_
        rintro r W1 ⟨rfl, hb⟩
        replace A := A.below hb
        replace U := U.below hb
        replace Y := Y.below hb
        replace su := su.below hb
        replace sw := sw.below hb
        replace bel := bel_go bel hb
        clear hb
        refine hK.out _ _ ?_ (fun hHeld => ?_)
        · exact ⟨⟨U.c0, U.c1⟩, ⟨Y.c0, Y.c1⟩, A.c0, A.c1⟩
        clear hK K
        try simp only [Act.put, Ls]
        refine rdy 16 rfl (fun K hK => ?_)
        go_simp
        go_at_call 17
        refine (same_yes false au aw cu cw LU _ su sw hL).mono ?_
        rintro r W2 ⟨rfl, hb⟩
        replace A := A.below hb
        replace U := U.below hb
        replace Y := Y.below hb
        replace su := su.below hb
        replace sw := sw.below hb
        replace bel := bel_go bel hb
        clear hb
        refine hK.out _ _ ?_ (fun hHeld => ?_)
        · exact ⟨⟨U.c0, U.c1⟩, ⟨Y.c0, Y.c1⟩, A.c0, A.c1⟩
        clear hK K
        try simp only [Act.put, Ls]
        refine tk 17 ?_ rfl (Or.inl ⟨by rfl, ?_⟩) ?_
        rotate_left
        · (intro w hSw; go_simp; try (with_reducible rfl))
        try simp only [Act.put, Ls]
        refine tk 18 ?_ rfl (Or.inl ⟨by rfl, ?_⟩) ?_
        rotate_left
        · (intro w hSw; go_simp; try (with_reducible rfl))
        try simp only [Act.put, Ls]
        refine tk 19 ?_ rfl (Or.inl ⟨by rfl, ?_⟩) ?_
        rotate_left
        · (intro w hSw; go_simp; try (with_reducible rfl))
        try simp only [Act.put, Ls]
        refine tk 20 ?_ rfl (Or.inl ⟨by rfl, ?_⟩) ?_
        rotate_left
        · (intro w hSw; (try dsimp only at hSw); obtain ⟨⟨hS0, hS1⟩, ⟨hS2, hS3⟩, hS4, hS5⟩ := hSw; go_simp; try (with_reducible rfl))
        try simp only [Act.put, Ls]
        refine tk 21 ?_ rfl (Or.inl ⟨by rfl, ?_⟩) ?_
        rotate_left
        · (intro w hSw; go_simp; try (with_reducible rfl))
        try simp only [Act.put, Ls]
        refine tk 22 ?_ rfl (Or.inl ⟨by rfl, ?_⟩) ?_
        rotate_left
        · (intro w hSw; (try dsimp only at hSw); obtain ⟨⟨hS0, hS1⟩, ⟨hS2, hS3⟩, hS4, hS5⟩ := hSw; go_simp; try (with_reducible rfl))
        try simp only [Act.put, Ls]
        refine tk 23 ?_ rfl (Or.inl ⟨by rfl, ?_⟩) ?_
        rotate_left
        · (intro w hSw; go_simp; try (with_reducible rfl))
        try simp only [Act.put, Ls]
        refine tk 24 ?_ rfl (Or.inl ⟨by rfl, ?_⟩) ?_
        rotate_left
        · (intro w hSw; go_simp; try (with_reducible rfl))
        try simp only [Act.put, Ls]
        refine tk 25 ?_ rfl (Or.inl ⟨by rfl, ?_⟩) ?_
        rotate_left
        · (intro w hSw; go_simp; try (with_reducible rfl))
        try simp only [Act.put, Ls]
        refine tk 26 ?_ rfl (Or.inl ⟨by rfl, ?_⟩) ?_
        rotate_left
        · (intro w hSw; (try dsimp only at hSw); obtain ⟨⟨hS0, hS1⟩, ⟨hS2, hS3⟩, hS4, hS5⟩ := hSw; go_simp; try (with_reducible rfl))
        try simp only [Act.put, Ls]
        refine tk 27 ?_ rfl (Or.inl ⟨by rfl, ?_⟩) ?_
        rotate_left
        · (intro w hSw; go_simp; try (with_reducible rfl))
        try simp only [Act.put, Ls]
        refine tk 28 ?_ rfl (Or.inl ⟨by rfl, ?_⟩) ?_
        rotate_left
        · (intro w hSw; go_simp; try (with_reducible rfl))
        try simp only [Act.put, Ls]
        refine tk 29 ?_ rfl (Or.inl ⟨by rfl, ?_⟩) ?_
        rotate_left
        · (intro w hSw; go_simp; try (with_reducible rfl))
        try simp only [Act.put, Ls]
        refine rdy 30 rfl (fun K hK => ?_)
        go_simp
        refine hK.out _ _ ?_ (fun hHeld => ?_)
        · exact ⟨⟨U.c0, U.c1⟩, ⟨Y.c0, Y.c1⟩, A.c0, A.c1⟩
        clear hK K
        try simp only [Act.put, Ls]
        refine wpAnyH_done (by kernel_rfl) ?_ _
        go_wp2
        all_goals go_ret
        all_goals exact ⟨rfl, bel⟩
      · refine wp_region_held_drew (S := fun w' => (w'.cell? ⟨w5.heap.size, 0, none⟩ = some (.bool true) ∧ w'.cell? ⟨w5.heap.size, 1, none⟩ = some (.slice au LU.length cu)) ∧ (w'.cell? ⟨bw, 0, none⟩ = some (.bool false) ∧ w'.cell? ⟨bw, 1, none⟩ = some (.slice aw LU.length cw)) ∧ w'.cell? ⟨w2.heap.size, 0, none⟩ = some (.bool true) ∧ w'.cell? ⟨w2.heap.size, 1, none⟩ = some (.int .i64 m)) (by kernel_rfl) ?_ (fun hHeld => ?_)
        · exact ⟨⟨U.c0, U.c1⟩, ⟨Y.c0, Y.c1⟩, A.c0, A.c1⟩
        refine tk 0 ?_ rfl (Or.inl ⟨by rfl, ?_⟩) ?_
        rotate_left
        · (intro w hSw; go_simp; try (with_reducible rfl))
        try simp only [Act.put, Ls]
        refine tk 1 ?_ rfl (Or.inl ⟨by rfl, ?_⟩) ?_
        rotate_left
        · (intro w hSw; go_simp; try (with_reducible rfl))
        try simp only [Act.put, Ls]
        refine tk 2 ?_ rfl (Or.inl ⟨by rfl, ?_⟩) ?_
        rotate_left
        · (intro w hSw; go_simp; try (with_reducible rfl))
        try simp only [Act.put, Ls]
        refine tk 3 ?_ rfl (Or.inl ⟨by rfl, ?_⟩) ?_
        rotate_left
        · (intro w hSw; go_simp; try (with_reducible rfl))
        try simp only [Act.put, Ls]
        refine tk 4 ?_ rfl (Or.inl ⟨by rfl, ?_⟩) ?_
        rotate_left
        · (intro w hSw; go_simp; try (with_reducible rfl))
        try simp only [Act.put, Ls]
        refine tk 5 ?_ rfl (Or.inl ⟨by rfl, ?_⟩) ?_
        rotate_left
        · (intro w hSw; go_simp; try (with_reducible rfl))
        try simp only [Act.put, Ls]
        refine tk 6 ?_ rfl (Or.inl ⟨by rfl, ?_⟩) ?_
        rotate_left
        · (intro w hSw; go_simp; try (with_reducible rfl))
        try simp only [Act.put, Ls]
        refine tk 7 ?_ rfl (Or.inl ⟨by rfl, ?_⟩) ?_
        rotate_left
        · (intro w hSw; go_simp; try (with_reducible rfl))
        try simp only [Act.put, Ls]
        refine tk 8 ?_ rfl (Or.inl ⟨by rfl, ?_⟩) ?_
        rotate_left
        · (intro w hSw; go_simp; try (with_reducible rfl))
        try simp only [Act.put, Ls]
        refine tk 9 ?_ rfl (Or.inl ⟨by rfl, ?_⟩) ?_
        rotate_left
        · (intro w hSw; go_simp; try (with_reducible rfl))
        try simp only [Act.put, Ls]
        refine tk 10 ?_ rfl (Or.inl ⟨by rfl, ?_⟩) ?_
        rotate_left
        · (intro w hSw; go_simp; try (with_reducible rfl))
        try simp only [Act.put, Ls]
        refine tk 11 ?_ rfl (Or.inl ⟨by rfl, ?_⟩) ?_
        rotate_left
        · (intro w hSw; go_simp; try (with_reducible rfl))
        try simp only [Act.put, Ls]
        refine tk 12 ?_ rfl (Or.inl ⟨by rfl, ?_⟩) ?_
        rotate_left
        · (intro w hSw; go_simp; try (with_reducible rfl))
        try simp only [Act.put, Ls]
        refine tk 13 ?_ rfl (Or.inl ⟨by rfl, ?_⟩) ?_
        rotate_left
        · (intro w hSw; (try dsimp only at hSw); obtain ⟨⟨hS0, hS1⟩, ⟨hS2, hS3⟩, hS4, hS5⟩ := hSw; go_simp; try (with_reducible rfl))
        try simp only [Act.put, Ls]
        refine tk 15 ?_ rfl (Or.inl ⟨by rfl, ?_⟩) ?_
        rotate_left
        · (intro w hSw; (try dsimp only at hSw); obtain ⟨⟨hS0, hS1⟩, ⟨hS2, hS3⟩, hS4, hS5⟩ := hSw; go_simp; try (with_reducible rfl))
        try simp only [Act.put, Ls]
        refine rdy 14 rfl (fun K hK => ?_)
        go_simp
        go_at_call 18
        refine (mag_any true au LU.length cu _).mono ?_
        rintro r W1 ⟨rfl, hb⟩
        replace A := A.below hb
        replace U := U.below hb
        replace Y := Y.below hb
        replace su := su.below hb
        replace sw := sw.below hb
        replace bel := bel_go bel hb
        clear hb
        refine hK.out _ _ ?_ (fun hHeld => ?_)
        · exact ⟨⟨U.c0, U.c1⟩, ⟨Y.c0, Y.c1⟩, A.c0, A.c1⟩
        clear hK K
        try simp only [Act.put, Ls]
        refine rdy 16 rfl (fun K hK => ?_)
        go_simp
        go_at_call 17
        refine (same_yes false au aw cu cw LU _ su sw hL).mono ?_
        rintro r W2 ⟨rfl, hb⟩
        replace A := A.below hb
        replace U := U.below hb
        replace Y := Y.below hb
        replace su := su.below hb
        replace sw := sw.below hb
        replace bel := bel_go bel hb
        clear hb
        refine hK.out _ _ ?_ (fun hHeld => ?_)
        · exact ⟨⟨U.c0, U.c1⟩, ⟨Y.c0, Y.c1⟩, A.c0, A.c1⟩
        clear hK K
        try simp only [Act.put, Ls]
        refine tk 17 ?_ rfl (Or.inl ⟨by rfl, ?_⟩) ?_
        rotate_left
        · (intro w hSw; go_simp; try (with_reducible rfl))
        try simp only [Act.put, Ls]
        refine tk 18 ?_ rfl (Or.inl ⟨by rfl, ?_⟩) ?_
        rotate_left
        · (intro w hSw; go_simp; try (with_reducible rfl))
        try simp only [Act.put, Ls]
        refine tk 19 ?_ rfl (Or.inl ⟨by rfl, ?_⟩) ?_
        rotate_left
        · (intro w hSw; go_simp; try (with_reducible rfl))
        try simp only [Act.put, Ls]
        refine tk 20 ?_ rfl (Or.inl ⟨by rfl, ?_⟩) ?_
        rotate_left
        · (intro w hSw; (try dsimp only at hSw); obtain ⟨⟨hS0, hS1⟩, ⟨hS2, hS3⟩, hS4, hS5⟩ := hSw; go_simp; try (with_reducible rfl))
        try simp only [Act.put, Ls]
        refine tk 21 ?_ rfl (Or.inl ⟨by rfl, ?_⟩) ?_
        rotate_left
        · (intro w hSw; go_simp; try (with_reducible rfl))
        try simp only [Act.put, Ls]
        refine tk 22 ?_ rfl (Or.inl ⟨by rfl, ?_⟩) ?_
        rotate_left
        · (intro w hSw; (try dsimp only at hSw); obtain ⟨⟨hS0, hS1⟩, ⟨hS2, hS3⟩, hS4, hS5⟩ := hSw; go_simp; try (with_reducible rfl))
        try simp only [Act.put, Ls]
        refine tk 23 ?_ rfl (Or.inl ⟨by rfl, ?_⟩) ?_
        rotate_left
        · (intro w hSw; go_simp; try (with_reducible rfl))
        try simp only [Act.put, Ls]
        refine tk 24 ?_ rfl (Or.inl ⟨by rfl, ?_⟩) ?_
        rotate_left
        · (intro w hSw; go_simp; try (with_reducible rfl))
        try simp only [Act.put, Ls]
        refine tk 25 undef rfl (Or.inr ⟨by rfl, rfl⟩) ?_
        try simp only [Act.put, Ls]
        refine tk 26 undef rfl (Or.inr ⟨by rfl, rfl⟩) ?_
        try simp only [Act.put, Ls]
        refine tk 27 undef rfl (Or.inr ⟨by rfl, rfl⟩) ?_
        try simp only [Act.put, Ls]
        refine tk 28 ?_ rfl (Or.inl ⟨by rfl, ?_⟩) ?_
        rotate_left
        · (intro w hSw; go_simp; try (with_reducible rfl))
        try simp only [Act.put, Ls]
        refine tk 29 ?_ rfl (Or.inl ⟨by rfl, ?_⟩) ?_
        rotate_left
        · (intro w hSw; go_simp; try (with_reducible rfl))
        try simp only [Act.put, Ls]
        refine rdy 30 rfl (fun K hK => ?_)
        go_simp
        refine hK.out _ _ ?_ (fun hHeld => ?_)
        · exact ⟨⟨U.c0, U.c1⟩, ⟨Y.c0, Y.c1⟩, A.c0, A.c1⟩
        clear hK K
        try simp only [Act.put, Ls]
        refine wpAnyH_done (by kernel_rfl) ?_ _
        go_wp2
        all_goals go_ret
        all_goals exact ⟨rfl, bel⟩
theorem palaw_all (ca : Option Addr) (cc : Nat) (cs : List Int) (w : World) (hT : Ts w) (hs : Sl .u8 w (.slice ca cs.length cc) cs) (hby : ∀ i, 0 ≤ cs.getD i 0 ∧ cs.getD i 0 ≤ 255) :
    Calls Tryd.prog 3 #[.slice ca cs.length cc] w fun e w' => e = .returned (.bool true) ∧ Below w.heap.size w w' := by
  by_cases h : cs.length ≤ 1048576
  · exact palaw ca cc cs w hT hs hby h
  · have hn : cs.length ≤ 9223372036854775807 := by obtain ⟨_, h1, h2, _⟩ := hs.cells; unfold maxLen at h2; omega
    have CB := hid (big_any ca cs.length cc w hn true (by simp; omega))
    clear hs hby h hn
    go_enter Tryd.func3, Tryd.ntmps3
    go_wp2_with fail
    refine CB.out.mono ?_
    rintro e w0 ⟨rfl, rfl⟩
    go_wp2
    go_ret
    exact ⟨rfl, Below.refl _ _⟩
end Fd
end Go.Proofs.YtmfpfkfohjkcgaaDoor
