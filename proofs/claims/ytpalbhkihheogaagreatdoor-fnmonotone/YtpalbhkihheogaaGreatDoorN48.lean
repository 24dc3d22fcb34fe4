/-
  What is needed of MN.
-/
import Derived.Test.YtpalbhkihheogaaGreatDoorN46
import Derived.Test.YtpalbhkihheogaaGreatDoorN47
set_option maxHeartbeats 16000000
set_option maxRecDepth 1000000
namespace Go.Proofs.YtpalbhkihheogaaGreatDoor
set_option linter.unusedVariables false
set_option linter.unusedSimpArgs false
open Go.RowKit Go.Deep
namespace Fd
/-- A little more: what it is, where it fits. -/
def MnP (ng : Bool) (L : List Int) (G : Bool) (LL : List Int) (O : Bool) : Prop := ∃ bt : Int, 0 ≤ bt ∧ bt ≤ 255 ∧ ∃ ok : Bool, ok = (okB ng L && okB (Nm.wn (1 + bt)) (Nm.wl (1 + bt))) ∧ G = opN ok (Nm.wv ng L + (1 + bt)) ∧ LL = opL ok (Nm.wv ng L + (1 + bt)) ∧ O = opO ok (Nm.wv ng L + (1 + bt))
theorem mnp_200 {ng : Bool} {L : List Int} {G : Bool} {LL : List Int} {O : Bool} (h : MnP ng L G LL O) : LL.length ≤ 1048576 ∧ Nm.Dg LL := by
  obtain ⟨bt, -, -, ok, -, -, rfl, -⟩ := h
  have := op_200 ok (Nm.wv ng L + (1 + bt))
  exact ⟨by omega, this.2⟩
theorem wl_bt {bt : Int} (h0 : 0 ≤ bt) (h1 : bt ≤ 255) : (Nm.wl (1 + bt)).length ≤ 1 := wl_k (x := 1 + bt) (k := 1) (by have := bl_small (x := 1 + bt) (by omega) (by omega); omega)
theorem mn_add (ng : Bool) (a : Option Addr) (c : Nat) (L : List Int) (hd : Nm.Dg L) (hL' : L.length ≤ 1048576) (bt : Int) (h0 : 0 ≤ bt) (h1 : bt ≤ 255) (a2 : Option Addr) (c2 : Nat) (w' : World) (h : Sl .u32 w' (.slice a L.length c) L) (h' : Sl .u32 w' (.slice a2 (Nm.wl (1 + bt)).length c2) (Nm.wl (1 + bt))) :
    Calls Tryz.prog 18 #[.agg #[.bool ng, .slice a L.length c], .agg #[.bool (Nm.wn (1 + bt)), .slice a2 (Nm.wl (1 + bt)).length c2]] w' fun e w'' => ∃ (a3 : Option Addr) (c3 : Nat) (G : Bool) (LL : List Int) (O : Bool), e = .returned (.tuple #[.agg #[.bool G, .slice a3 LL.length c3], .bool O]) ∧ MnP ng L G LL O ∧ Own w'' w'.heap.size a3 c3 LL ∧ Below w'.heap.size w' w'' := by
  refine (wadd_impl ng (Nm.wn (1 + bt)) a a2 c c2 L (Nm.wl (1 + bt)) w' h h' hd (Nm.wl_dg _) hL' (by have := wl_bt h0 h1; omega) (Nm.wv ng L + (1 + bt)) (by rw [Nm.wv_out])).mono ?_
  rintro e w'' ⟨a3, c3, h1', h2, h3⟩
  exact ⟨a3, c3, _, _, _, h1', ⟨bt, h0, h1, _, rfl, rfl, rfl, rfl⟩, h2, h3⟩
theorem mn_main {fm : Int} (hfm : fmtB fm = true) {mode : Int} {ng : Bool} {L : List Int} {G : Bool} {LL : List Int} {e : Int} (hd : Nm.Dg L) (hP : MnP ng L G LL true) (hO : RdO fm 0 ng L e = true) (hm : modeB mode = true) :
    0 ≤ RdB fm mode ng L e ∧ RdB fm mode ng L e < 18446744073709551616 ∧ 0 ≤ RdB fm mode G LL e ∧ RdB fm mode G LL e < 18446744073709551616 ∧ cmpF fm (RdB fm mode ng L e) (RdB fm mode G LL e) ≤ 0 := by
  obtain ⟨bt, b0, b1, ok, hok, rfl, rfl, ho⟩ := hP
  have hok' : okB ng L = true := by have := hO; unfold RdO at this; simp at this; exact this.1.2
  have hokn : okB (Nm.wn (1 + bt)) (Nm.wl (1 + bt)) = true := okB_wl (by have := wl_bt b0 b1; omega)
  have hokt : ok = true := by rw [hok, hok', hokn]; rfl
  rw [hokt, (op_yes _).2.2] at ho
  have hfit : Nm.fits (Nm.wv ng L + (1 + bt)) = true := ho.symm
  have hmc := mono_c hfm mode ng L hd e (1 + bt) hO hm (by omega) hfit
  rw [hokt, (op_yes _).1, (op_yes _).2.1, (out_fits hfit).1, (out_fits hfit).2]
  exact ⟨hmc.1, hmc.2.1, hmc.2.2.1, hmc.2.2.2.1, hmc.2.2.2.2.1⟩
theorem mnlaw (ca : Option Addr) (cc : Nat) (cs : List Int) (w : World) (hT : T3 w) (hs : Sl .u8 w (.slice ca cs.length cc) cs) (hby : ∀ i, 0 ≤ cs.getD i 0 ∧ cs.getD i 0 ≤ 255) (hl : cs.length ≤ 1048576) :
    Calls Tryz.prog 4 #[.slice ca cs.length cc] w fun e w' => e = .returned (.bool true) ∧ Below w.heap.size w w' := by
  go_enter Tryz.func4, Tryz.ntmps4
  go_wp2_with fail
  refine (big_any ca cs.length cc _ (by omega) false (by simp; omega)).mono ?_
  rintro r w0 ⟨rfl, rfl⟩
  go_wp2_with fail
  refine (drawRounded_x ca cc cs _ hs hby hl).mono ?_
  rintro r w1 ⟨fm, mode, ng, L, a, c, e, rfl, hfm, hL, hd, hs1, bel1⟩
  have hsc := (hs.below bel1).alloc (.cells #[.bool ng, .slice a L.length c] 29)
  clear hs
  have T := (hT.below bel1).al (.cells #[.bool ng, .slice a L.length c] 29)
  have bel := bel_al bel1 (.cells #[.bool ng, .slice a L.length c] 29)
  have X := R2.new w1 (.bool ng) (.slice a L.length c) 29
  have hs := hs1.alloc (.cells #[.bool ng, .slice a L.length c] 29)
  clear hs1 bel1
  have hL' : L.length ≤ 1048576 := by omega
  have RN := hid (fun w' h h' => round_any fm mode ng L e a c w' h h' hd hL')
  have GO := hid (fun w' h => goes_any fm ng L e a c w' h hd hL')
  obtain ⟨b, hb⟩ : ∃ q, q = RdB fm mode ng L e := ⟨_, rfl⟩
  obtain ⟨f, hf⟩ : ∃ q, q = RdF fm mode ng L e := ⟨_, rfl⟩
  obtain ⟨g, hg⟩ : ∃ q, q = RdO fm 0 ng L e := ⟨_, rfl⟩
  rw [← hb, ← hf] at RN
  rw [← hg] at GO
  clear hf
  have HB := hid hb
  have HG := hid hg
  clear hb hg
  have HX := hid X
  go_wp2_with fail
  refine (RN.out _ T hs).mono ?_
  rintro r w2 ⟨rfl, hb2⟩
  replace bel := bel_go bel hb2
  replace X := HX.out.below hb2
  clear HX
  replace hs := hs.below hb2
  replace hsc := hsc.below hb2
  replace T := T.below hb2
  clear hb2
  go_upto_region 5 with fail
  go_cut [10, 11] (fun s10 s11 wx => ∃ (b2 : Nat) (a3 : Option Addr) (c3 : Nat) (G : Bool) (LL : List Int) (O : Bool), s10 = .pointer (some ⟨b2, 0, none⟩) ∧ s11 = .bool O ∧ R2 wx b2 (.bool G) (.slice a3 LL.length c3) ∧ Sl .u32 wx (.slice a3 LL.length c3) LL ∧ Below w2.heap.size w2 wx ∧ MnP ng L G LL O)
  case first =>
    have CW := fun (bt : Int) (h0 : 0 ≤ bt) (h1 : bt ≤ 255) (w' : World) => wof_impl (1 + bt) w' (by omega) (by omega)
    have HW := fun (bt : Int) (h0 : 0 ≤ bt) (h1 : bt ≤ 255) => (by rw [IntKind.wrap_i64]; omega : IntKind.i64.wrap (1 + bt) = 1 + bt)
    have CA := fun (bt : Int) (h0 : 0 ≤ bt) (h1 : bt ≤ 255) (a2 : Option Addr) (c2 : Nat) (w' : World) h h' => mn_add ng a c L hd hL' bt h0 h1 a2 c2 w' h h'
    have belR := Below.drew (Below.refl w2.heap.size w2)
    refine wp_region_held_drew (S := fun w' => w'.cell? ⟨w1.heap.size, 0, none⟩ = some (.bool ng) ∧ w'.cell? ⟨w1.heap.size, 1, none⟩ = some (.slice a L.length c)) (by kernel_rfl) ?_ (fun hHeld => ?_)
    · exact ⟨X.c0, X.c1⟩
    generalize w2.drew = v0 at belR hHeld ⊢
    refine tk 0 ?_ rfl (Or.inl ⟨by rfl, ?_⟩) ?_
    rotate_left
    · (intro w hSw; (try dsimp only at hSw); obtain ⟨hS0, hS1⟩ := hSw; go_simp; try (with_reducible rfl))
    try simp only [Act.put, Ls]
    refine tk 1 ?_ rfl (Or.inl ⟨by rfl, ?_⟩) ?_
    rotate_left
    · (intro w hSw; go_simp; try (with_reducible rfl))
    try simp only [Act.put, Ls]
    refine wpAnyH_ready (rs := [2, 9]) (by kernel_rfl) (by simp) ?_
    refine AllReadyH.cons (o := _) rfl (fun K hK => ?_) (AllReadyH.cons (o := _) rfl (fun K hK => ?_) AllReadyH.nil)
    · go_simp
      go_at_call 13
      refine (byteOf_any ca cc cs 4 (by decide) (by decide) _ (hsc.below belR) hby hl).mono ?_
      rintro r v1 ⟨bt, rfl, bt0, bt1, hb'⟩
      replace belR := bel_go belR hb'
      clear hb'
      refine hK.out _ _ ?_ (fun hHeld => ?_)
      · exact ⟨(X.below belR).c0, (X.below belR).c1⟩
      clear hK K
      try simp only [Act.put, Ls]
      have hw1 := HW bt bt0 bt1
      refine tk 3 ?_ rfl (Or.inl ⟨by rfl, ?_⟩) ?_
      rotate_left
      · (intro w hSw; go_simp; try (with_reducible rfl))
      try simp only [Act.put, Ls]
      try rw [hw1]
      refine wpAnyH_ready (rs := [4, 9]) (by kernel_rfl) (by simp) ?_
      refine AllReadyH.cons (o := _) rfl (fun K hK => ?_) (AllReadyH.cons (o := _) rfl (fun K hK => ?_) AllReadyH.nil)
      · go_simp
        go_at_call 19
        refine (CW bt bt0 bt1 _).mono ?_
        rintro r v2 ⟨a2, c2, rfl, o2, hb'⟩
        replace belR := bel_go belR hb'
        clear hb'
        refine hK.out _ _ ?_ (fun hHeld => ?_)
        · exact ⟨(X.below belR).c0, (X.below belR).c1⟩
        clear hK K
        try simp only [Act.put, Ls]
        refine wpAnyH_ready (rs := [5, 9]) (by kernel_rfl) (by simp) ?_
        refine AllReadyH.cons (o := _) rfl (fun K hK => ?_) (AllReadyH.cons (o := _) rfl (fun K hK => ?_) AllReadyH.nil)
        · go_simp
          go_at_call 18
          refine (CA bt bt0 bt1 a2 c2 _ (hs.below belR) o2.sl).mono ?_
          rintro r v3 ⟨a3, c3, G, LL, O, rfl, hP, o3, hb'⟩
          replace o2 := o2.below hb'
          replace belR := bel_go belR hb'
          clear hb'
          refine hK.out _ _ ?_ (fun hHeld => ?_)
          · exact ⟨(X.below belR).c0, (X.below belR).c1⟩
          clear hK K
          try simp only [Act.put, Ls]
          clear o2
          refine tk 6 ?_ rfl (Or.inl ⟨by rfl, ?_⟩) ?_
          rotate_left
          · (intro w hSw; go_simp; try (with_reducible rfl))
          try simp only [Act.put, Ls]
          refine tk 7 ?_ rfl (Or.inl ⟨by rfl, ?_⟩) ?_
          rotate_left
          · (intro w hSw; go_simp; try (with_reducible rfl))
          try simp only [Act.put, Ls]
          refine tk 8 ?_ rfl (Or.inl ⟨by rfl, ?_⟩) ?_
          rotate_left
          · (intro w hSw; go_simp; try (with_reducible rfl))
          try simp only [Act.put, Ls]
          refine rdy 9 rfl (fun K hK => ?_)
          go_simp
          refine hK.out _ _ ?_ (fun hHeld => ?_)
          · exact ⟨(X.below (bel_al belR (.cells #[.bool false, .slice none 0 0] 29))).c0, (X.below (bel_al belR (.cells #[.bool false, .slice none 0 0] 29))).c1⟩
          clear hK K
          try simp only [Act.put, Ls]
          obtain ⟨b2, h2⟩ : ∃ q, q = v3.heap.size := ⟨_, rfl⟩
          have hb2 : w2.heap.size ≤ b2 := by have := belR.size; omega
          have Y := R2.new v3 (.bool false) (.slice none 0 0) 29
          rw [← h2] at Y ⊢
          have ng3 : ∀ g, a3 = some ⟨g, 0, none⟩ → g ≠ b2 := fun g h => by have := (own_at o3 g h).2; omega
          replace o3 := o3.alloc (.cells #[.bool false, .slice none 0 0] 29)
          replace belR := bel_al belR (.cells #[.bool false, .slice none 0 0] 29)
          clear h2
          generalize v3.alloc (.cells #[.bool false, .slice none 0 0] 29) = v4 at Y belR hHeld o3 ⊢
          refine rdy 10 rfl (fun K hK => ?_)
          have ⟨yc0, yc1, yf0, yf1⟩ := Y
          go_simp
          refine hK.out _ _ ?_ (fun hHeld => ?_)
          · exact ⟨(X.below ((belR.setCell (p := ⟨b2, 0, none⟩) (by simpa using hb2) (.bool G)).setCell (p := ⟨b2, 1, none⟩) (by simpa using hb2) (.slice a3 LL.length c3))).c0, (X.below ((belR.setCell (p := ⟨b2, 0, none⟩) (by simpa using hb2) (.bool G)).setCell (p := ⟨b2, 1, none⟩) (by simpa using hb2) (.slice a3 LL.length c3))).c1⟩
          clear hK K
          try simp only [Act.put, Ls]
          refine rdy 11 rfl (fun K hK => ?_)
          go_simp
          refine hK.out _ _ ?_ (fun hHeld => ?_)
          · exact ⟨(X.below ((belR.setCell (p := ⟨b2, 0, none⟩) (by simpa using hb2) (.bool G)).setCell (p := ⟨b2, 1, none⟩) (by simpa using hb2) (.slice a3 LL.length c3))).c0, (X.below ((belR.setCell (p := ⟨b2, 0, none⟩) (by simpa using hb2) (.bool G)).setCell (p := ⟨b2, 1, none⟩) (by simpa using hb2) (.slice a3 LL.length c3))).c1⟩
          clear hK K
          try simp only [Act.put, Ls]
          refine wpAnyH_done (by kernel_rfl) ?_ _
          go_wp2_with fail
          go_meet
          exact ⟨b2, a3, c3, G, LL, O, rfl, rfl, R2.set Y _ _, ((o3.setOther ng3 _).setOther ng3 _).sl, ((belR.setCell (p := ⟨b2, 0, none⟩) (by simpa using hb2) (.bool G)).setCell (p := ⟨b2, 1, none⟩) (by simpa using hb2) (.slice a3 LL.length c3)), hP⟩
        · go_simp
          refine hK.out _ _ ?_ (fun hHeld => ?_)
          · exact ⟨(X.below (bel_al belR (.cells #[.bool false, .slice none 0 0] 29))).c0, (X.below (bel_al belR (.cells #[.bool false, .slice none 0 0] 29))).c1⟩
          clear hK K
          try simp only [Act.put, Ls]
          obtain ⟨b2, h2⟩ : ∃ q, q = v2.heap.size := ⟨_, rfl⟩
          have hb2 : w2.heap.size ≤ b2 := by have := belR.size; omega
          have Y := R2.new v2 (.bool false) (.slice none 0 0) 29
          rw [← h2] at Y ⊢
          replace o2 := o2.alloc (.cells #[.bool false, .slice none 0 0] 29)
          replace belR := bel_al belR (.cells #[.bool false, .slice none 0 0] 29)
          clear h2
          generalize v2.alloc (.cells #[.bool false, .slice none 0 0] 29) = v3 at Y belR hHeld o2 ⊢
          refine rdy 5 rfl (fun K hK => ?_)
          go_simp
          go_at_call 18
          refine (CA bt bt0 bt1 a2 c2 _ (hs.below belR) o2.sl).mono ?_
          have hY : b2 < v3.heap.size := World.block_lt_of_cell? _ _ Y.c0
          rintro r v4 ⟨a3, c3, G, LL, O, rfl, hP, o3, hb'⟩
          replace o2 := o2.below hb'
          replace Y := Y.below hb'
          replace belR := bel_go belR hb'
          have ng3 : ∀ g, a3 = some ⟨g, 0, none⟩ → g ≠ b2 := fun g h => by have := (own_at o3 g h).1; omega
          clear hY
          clear hb'
          refine hK.out _ _ ?_ (fun hHeld => ?_)
          · exact ⟨(X.below belR).c0, (X.below belR).c1⟩
          clear hK K
          try simp only [Act.put, Ls]
          clear o2
          refine tk 6 ?_ rfl (Or.inl ⟨by rfl, ?_⟩) ?_
          rotate_left
          · (intro w hSw; go_simp; try (with_reducible rfl))
          try simp only [Act.put, Ls]
          refine tk 7 ?_ rfl (Or.inl ⟨by rfl, ?_⟩) ?_
          rotate_left
          · (intro w hSw; go_simp; try (with_reducible rfl))
          try simp only [Act.put, Ls]
          refine tk 8 ?_ rfl (Or.inl ⟨by rfl, ?_⟩) ?_
          rotate_left
          · (intro w hSw; go_simp; try (with_reducible rfl))
          try simp only [Act.put, Ls]
          refine rdy 10 rfl (fun K hK => ?_)
          have ⟨yc0, yc1, yf0, yf1⟩ := Y
          go_simp
          refine hK.out _ _ ?_ (fun hHeld => ?_)
          · exact ⟨(X.below ((belR.setCell (p := ⟨b2, 0, none⟩) (by simpa using hb2) (.bool G)).setCell (p := ⟨b2, 1, none⟩) (by simpa using hb2) (.slice a3 LL.length c3))).c0, (X.below ((belR.setCell (p := ⟨b2, 0, none⟩) (by simpa using hb2) (.bool G)).setCell (p := ⟨b2, 1, none⟩) (by simpa using hb2) (.slice a3 LL.length c3))).c1⟩
          clear hK K
          try simp only [Act.put, Ls]
          refine rdy 11 rfl (fun K hK => ?_)
          go_simp
          refine hK.out _ _ ?_ (fun hHeld => ?_)
          · exact ⟨(X.below ((belR.setCell (p := ⟨b2, 0, none⟩) (by simpa using hb2) (.bool G)).setCell (p := ⟨b2, 1, none⟩) (by simpa using hb2) (.slice a3 LL.length c3))).c0, (X.below ((belR.setCell (p := ⟨b2, 0, none⟩) (by simpa using hb2) (.bool G)).setCell (p := ⟨b2, 1, none⟩) (by simpa using hb2) (.slice a3 LL.length c3))).c1⟩
          clear hK K
          try simp only [Act.put, Ls]
          refine wpAnyH_done (by kernel_rfl) ?_ _
          go_wp2_with fail
          go_meet
          exact ⟨b2, a3, c3, G, LL, O, rfl, rfl, R2.set Y _ _, ((o3.setOther ng3 _).setOther ng3 _).sl, ((belR.setCell (p := ⟨b2, 0, none⟩) (by simpa using hb2) (.bool G)).setCell (p := ⟨b2, 1, none⟩) (by simpa using hb2) (.slice a3 LL.length c3)), hP⟩
      · go_simp
        refine hK.out _ _ ?_ (fun hHeld => ?_)
        · exact ⟨(X.below (bel_al belR (.cells #[.bool false, .slice none 0 0] 29))).c0, (X.below (bel_al belR (.cells #[.bool false, .slice none 0 0] 29))).c1⟩
        clear hK K
        try simp only [Act.put, Ls]
        obtain ⟨b2, h2⟩ : ∃ q, q = v1.heap.size := ⟨_, rfl⟩
        have hb2 : w2.heap.size ≤ b2 := by have := belR.size; omega
        have Y := R2.new v1 (.bool false) (.slice none 0 0) 29
        rw [← h2] at Y ⊢
        replace belR := bel_al belR (.cells #[.bool false, .slice none 0 0] 29)
        clear h2
        generalize v1.alloc (.cells #[.bool false, .slice none 0 0] 29) = v2 at Y belR hHeld ⊢
        refine rdy 4 rfl (fun K hK => ?_)
        go_simp
        go_at_call 19
        refine (CW bt bt0 bt1 _).mono ?_
        rintro r v3 ⟨a2, c2, rfl, o2, hb'⟩
        replace Y := Y.below hb'
        replace belR := bel_go belR hb'
        clear hb'
        refine hK.out _ _ ?_ (fun hHeld => ?_)
        · exact ⟨(X.below belR).c0, (X.below belR).c1⟩
        clear hK K
        try simp only [Act.put, Ls]
        refine rdy 5 rfl (fun K hK => ?_)
        go_simp
        go_at_call 18
        refine (CA bt bt0 bt1 a2 c2 _ (hs.below belR) o2.sl).mono ?_
        have hY : b2 < v3.heap.size := World.block_lt_of_cell? _ _ Y.c0
        rintro r v4 ⟨a3, c3, G, LL, O, rfl, hP, o3, hb'⟩
        replace o2 := o2.below hb'
        replace Y := Y.below hb'
        replace belR := bel_go belR hb'
        have ng3 : ∀ g, a3 = some ⟨g, 0, none⟩ → g ≠ b2 := fun g h => by have := (own_at o3 g h).1; omega
        clear hY
        clear hb'
        refine hK.out _ _ ?_ (fun hHeld => ?_)
        · exact ⟨(X.below belR).c0, (X.below belR).c1⟩
        clear hK K
        try simp only [Act.put, Ls]
        clear o2
        refine tk 6 ?_ rfl (Or.inl ⟨by rfl, ?_⟩) ?_
        rotate_left
        · (intro w hSw; go_simp; try (with_reducible rfl))
        try simp only [Act.put, Ls]
        refine tk 7 ?_ rfl (Or.inl ⟨by rfl, ?_⟩) ?_
        rotate_left
        · (intro w hSw; go_simp; try (with_reducible rfl))
        try simp only [Act.put, Ls]
        refine tk 8 ?_ rfl (Or.inl ⟨by rfl, ?_⟩) ?_
        rotate_left
        · (intro w hSw; go_simp; try (with_reducible rfl))
        try simp only [Act.put, Ls]
        refine rdy 10 rfl (fun K hK => ?_)
        have ⟨yc0, yc1, yf0, yf1⟩ := Y
        go_simp
        refine hK.out _ _ ?_ (fun hHeld => ?_)
        · exact ⟨(X.below ((belR.setCell (p := ⟨b2, 0, none⟩) (by simpa using hb2) (.bool G)).setCell (p := ⟨b2, 1, none⟩) (by simpa using hb2) (.slice a3 LL.length c3))).c0, (X.below ((belR.setCell (p := ⟨b2, 0, none⟩) (by simpa using hb2) (.bool G)).setCell (p := ⟨b2, 1, none⟩) (by simpa using hb2) (.slice a3 LL.length c3))).c1⟩
        clear hK K
        try simp only [Act.put, Ls]
        refine rdy 11 rfl (fun K hK => ?_)
        go_simp
        refine hK.out _ _ ?_ (fun hHeld => ?_)
        · exact ⟨(X.below ((belR.setCell (p := ⟨b2, 0, none⟩) (by simpa using hb2) (.bool G)).setCell (p := ⟨b2, 1, none⟩) (by simpa using hb2) (.slice a3 LL.length c3))).c0, (X.below ((belR.setCell (p := ⟨b2, 0, none⟩) (by simpa using hb2) (.bool G)).setCell (p := ⟨b2, 1, none⟩) (by simpa using hb2) (.slice a3 LL.length c3))).c1⟩
        clear hK K
        try simp only [Act.put, Ls]
        refine wpAnyH_done (by kernel_rfl) ?_ _
        go_wp2_with fail
        go_meet
        exact ⟨b2, a3, c3, G, LL, O, rfl, rfl, R2.set Y _ _, ((o3.setOther ng3 _).setOther ng3 _).sl, ((belR.setCell (p := ⟨b2, 0, none⟩) (by simpa using hb2) (.bool G)).setCell (p := ⟨b2, 1, none⟩) (by simpa using hb2) (.slice a3 LL.length c3)), hP⟩
    · go_simp
      refine hK.out _ _ ?_ (fun hHeld => ?_)
      · exact ⟨(X.below (bel_al belR (.cells #[.bool false, .slice none 0 0] 29))).c0, (X.below (bel_al belR (.cells #[.bool false, .slice none 0 0] 29))).c1⟩
      clear hK K
      try simp only [Act.put, Ls]
      obtain ⟨b2, h2⟩ : ∃ q, q = v0.heap.size := ⟨_, rfl⟩
      have hb2 : w2.heap.size ≤ b2 := by have := belR.size; omega
      have Y := R2.new v0 (.bool false) (.slice none 0 0) 29
      rw [← h2] at Y ⊢
      replace belR := bel_al belR (.cells #[.bool false, .slice none 0 0] 29)
      clear h2
      generalize v0.alloc (.cells #[.bool false, .slice none 0 0] 29) = v1 at Y belR hHeld ⊢
      refine rdy 2 rfl (fun K hK => ?_)
      go_simp
      go_at_call 13
      refine (byteOf_any ca cc cs 4 (by decide) (by decide) _ (hsc.below belR) hby hl).mono ?_
      rintro r v2 ⟨bt, rfl, bt0, bt1, hb'⟩
      replace Y := Y.below hb'
      replace belR := bel_go belR hb'
      clear hb'
      refine hK.out _ _ ?_ (fun hHeld => ?_)
      · exact ⟨(X.below belR).c0, (X.below belR).c1⟩
      clear hK K
      try simp only [Act.put, Ls]
      have hw1 := HW bt bt0 bt1
      refine tk 3 ?_ rfl (Or.inl ⟨by rfl, ?_⟩) ?_
      rotate_left
      · (intro w hSw; go_simp; try (with_reducible rfl))
      try simp only [Act.put, Ls]
      try rw [hw1]
      refine rdy 4 rfl (fun K hK => ?_)
      go_simp
      go_at_call 19
      refine (CW bt bt0 bt1 _).mono ?_
      rintro r v3 ⟨a2, c2, rfl, o2, hb'⟩
      replace Y := Y.below hb'
      replace belR := bel_go belR hb'
      clear hb'
      refine hK.out _ _ ?_ (fun hHeld => ?_)
      · exact ⟨(X.below belR).c0, (X.below belR).c1⟩
      clear hK K
      try simp only [Act.put, Ls]
      refine rdy 5 rfl (fun K hK => ?_)
      go_simp
      go_at_call 18
      refine (CA bt bt0 bt1 a2 c2 _ (hs.below belR) o2.sl).mono ?_
      have hY : b2 < v3.heap.size := World.block_lt_of_cell? _ _ Y.c0
      rintro r v4 ⟨a3, c3, G, LL, O, rfl, hP, o3, hb'⟩
      replace o2 := o2.below hb'
      replace Y := Y.below hb'
      replace belR := bel_go belR hb'
      have ng3 : ∀ g, a3 = some ⟨g, 0, none⟩ → g ≠ b2 := fun g h => by have := (own_at o3 g h).1; omega
      clear hY
      clear hb'
      refine hK.out _ _ ?_ (fun hHeld => ?_)
      · exact ⟨(X.below belR).c0, (X.below belR).c1⟩
      clear hK K
      try simp only [Act.put, Ls]
      clear o2
      refine tk 6 ?_ rfl (Or.inl ⟨by rfl, ?_⟩) ?_
      rotate_left
      · (intro w hSw; go_simp; try (with_reducible rfl))
      try simp only [Act.put, Ls]
      refine tk 7 ?_ rfl (Or.inl ⟨by rfl, ?_⟩) ?_
      rotate_left
      · (intro w hSw; go_simp; try (with_reducible rfl))
      try simp only [Act.put, Ls]
      refine tk 8 ?_ rfl (Or.inl ⟨by rfl, ?_⟩) ?_
      rotate_left
      · (intro w hSw; go_simp; try (with_reducible rfl))
      try simp only [Act.put, Ls]
      refine rdy 10 rfl (fun K hK => ?_)
      have ⟨yc0, yc1, yf0, yf1⟩ := Y
      go_simp
      refine hK.out _ _ ?_ (fun hHeld => ?_)
      · exact ⟨(X.below ((belR.setCell (p := ⟨b2, 0, none⟩) (by simpa using hb2) (.bool G)).setCell (p := ⟨b2, 1, none⟩) (by simpa using hb2) (.slice a3 LL.length c3))).c0, (X.below ((belR.setCell (p := ⟨b2, 0, none⟩) (by simpa using hb2) (.bool G)).setCell (p := ⟨b2, 1, none⟩) (by simpa using hb2) (.slice a3 LL.length c3))).c1⟩
      clear hK K
      try simp only [Act.put, Ls]
      refine rdy 11 rfl (fun K hK => ?_)
      go_simp
      refine hK.out _ _ ?_ (fun hHeld => ?_)
      · exact ⟨(X.below ((belR.setCell (p := ⟨b2, 0, none⟩) (by simpa using hb2) (.bool G)).setCell (p := ⟨b2, 1, none⟩) (by simpa using hb2) (.slice a3 LL.length c3))).c0, (X.below ((belR.setCell (p := ⟨b2, 0, none⟩) (by simpa using hb2) (.bool G)).setCell (p := ⟨b2, 1, none⟩) (by simpa using hb2) (.slice a3 LL.length c3))).c1⟩
      clear hK K
      try simp only [Act.put, Ls]
      refine wpAnyH_done (by kernel_rfl) ?_ _
      go_wp2_with fail
      go_meet
      exact ⟨b2, a3, c3, G, LL, O, rfl, rfl, R2.set Y _ _, ((o3.setOther ng3 _).setOther ng3 _).sl, ((belR.setCell (p := ⟨b2, 0, none⟩) (by simpa using hb2) (.bool G)).setCell (p := ⟨b2, 1, none⟩) (by simpa using hb2) (.slice a3 LL.length c3)), hP⟩
  case rest =>
  obtain ⟨b2, a3, c3, G, LL, O, rfl, rfl, Y, hs3, belR, hP⟩ := hcut
  replace X := X.below belR
  replace hs := hs.below belR
  replace bel := bel.trans (belR.mono bel.size)
  have T := hT.below bel
  clear hsc hby hl belR
  have hLd := mnp_200 hP
  have RN2 := hid (fun w' h h' => round_any fm mode G LL e a3 c3 w' h h' hLd.2 hLd.1)
  have HP := hid hP
  clear hP hLd
  obtain ⟨x0', x1', -, -⟩ := id X
  obtain ⟨y0', y1', -, -⟩ := id Y
  cases g
  · clear HB HG hd HP RN2
    go_wp2_with fail
    refine (GO.out _ hs).mono ?_
    rintro r u2 ⟨rfl, hb'⟩
    replace bel := bel_go bel hb'
    replace X := X.below hb'
    replace Y := Y.below hb'
    replace hs := hs.below hb'
    replace hs3 := hs3.below hb'
    replace T := T.below hb'
    clear hb'
    obtain ⟨x0', x1', -, -⟩ := id X
    obtain ⟨y0', y1', -, -⟩ := id Y
    go_wp2
    all_goals go_ret
    all_goals exact ⟨rfl, bel⟩
  · by_cases hm : modeB mode = true
    · have m1 : decide (mode < 0) = false := by unfold modeB at hm; simp at hm ⊢; omega
      have m2 : decide (5 < mode) = false := by unfold modeB at hm; simp at hm ⊢; omega
      have mm1 : ¬ mode < 0 := by simpa using m1
      have mm2 : ¬ 5 < mode := by simpa using m2
      cases O
      · clear HB HG hd HP hm RN2
        go_wp2_with fail
        refine (GO.out _ hs).mono ?_
        rintro r u2 ⟨rfl, hb'⟩
        replace bel := bel_go bel hb'
        replace X := X.below hb'
        replace Y := Y.below hb'
        replace hs := hs.below hb'
        replace hs3 := hs3.below hb'
        replace T := T.below hb'
        clear hb'
        obtain ⟨x0', x1', -, -⟩ := id X
        obtain ⟨y0', y1', -, -⟩ := id Y
        go_wp2
        all_goals go_ret
        all_goals exact ⟨rfl, bel⟩
      · obtain ⟨p0, p1, r0, r1, hle⟩ := mn_main hfm hd HP.out HG.out.symm hm
        rw [← HB.out] at p0 p1 hle
        have IC := hid (fun w' h => impl_cmp fm b (RdB fm mode G LL e) w' h p0 p1 r0 r1)
        obtain ⟨k, hk⟩ : ∃ q, q = cmpF fm b (RdB fm mode G LL e) := ⟨_, rfl⟩
        rw [← hk] at IC hle
        obtain ⟨B, hB⟩ : ∃ q, q = RdB fm mode G LL e := ⟨_, rfl⟩
        obtain ⟨F, hF⟩ : ∃ q, q = RdF fm mode G LL e := ⟨_, rfl⟩
        rw [← hB] at IC RN2
        rw [← hF] at RN2
        have hle' : decide (k ≤ 0) = true := decide_eq_true hle
        clear HB HG hd HP hm hk hB hF p0 p1 r0 r1
        go_wp2_with fail
        refine (GO.out _ hs).mono ?_
        rintro r u2 ⟨rfl, hb'⟩
        replace bel := bel_go bel hb'
        replace X := X.below hb'
        replace Y := Y.below hb'
        replace hs := hs.below hb'
        replace hs3 := hs3.below hb'
        replace T := T.below hb'
        clear hb'
        obtain ⟨x0', x1', -, -⟩ := id X
        obtain ⟨y0', y1', -, -⟩ := id Y
        go_wp2_with fail
        refine (RN2.out _ T hs3).mono ?_
        rintro r u3 ⟨rfl, hb'⟩
        replace bel := bel_go bel hb'
        replace X := X.below hb'
        replace Y := Y.below hb'
        replace hs := hs.below hb'
        replace hs3 := hs3.below hb'
        replace T := T.below hb'
        clear hb'
        obtain ⟨x0', x1', -, -⟩ := id X
        obtain ⟨y0', y1', -, -⟩ := id Y
        go_wp2_with fail
        refine (IC.out _ T.s.f).mono ?_
        rintro r u4 ⟨rfl, hb'⟩
        replace bel := bel_go bel hb'
        replace X := X.below hb'
        replace Y := Y.below hb'
        replace hs := hs.below hb'
        replace hs3 := hs3.below hb'
        replace T := T.below hb'
        clear hb'
        obtain ⟨x0', x1', -, -⟩ := id X
        obtain ⟨y0', y1', -, -⟩ := id Y
        go_wp2
        all_goals go_ret
        all_goals exact ⟨rfl, bel⟩
    · have hm' : decide (mode < 0) = true ∨ (decide (mode < 0) = false ∧ decide (5 < mode) = true) := by
        unfold modeB at hm; simp at hm ⊢; omega
      clear HB HG hd hm HP RN2
      rcases hm' with h | ⟨h, h'⟩
      · have h2 : mode < 0 := by simpa using h
        go_wp2_with fail
        refine (GO.out _ hs).mono ?_
        rintro r u2 ⟨rfl, hb'⟩
        replace bel := bel_go bel hb'
        replace X := X.below hb'
        replace Y := Y.below hb'
        replace hs := hs.below hb'
        replace hs3 := hs3.below hb'
        replace T := T.below hb'
        clear hb'
        obtain ⟨x0', x1', -, -⟩ := id X
        obtain ⟨y0', y1', -, -⟩ := id Y
        go_wp2
        all_goals go_ret
        all_goals exact ⟨rfl, bel⟩
      · have h2 : ¬ mode < 0 := by simpa using h
        have h3 : 5 < mode := by simpa using h'
        go_wp2_with fail
        refine (GO.out _ hs).mono ?_
        rintro r u2 ⟨rfl, hb'⟩
        replace bel := bel_go bel hb'
        replace X := X.below hb'
        replace Y := Y.below hb'
        replace hs := hs.below hb'
        replace hs3 := hs3.below hb'
        replace T := T.below hb'
        clear hb'
        obtain ⟨x0', x1', -, -⟩ := id X
        obtain ⟨y0', y1', -, -⟩ := id Y
        go_wp2
        all_goals go_ret
        all_goals exact ⟨rfl, bel⟩
theorem mnlaw_all (ca : Option Addr) (cc : Nat) (cs : List Int) (w : World) (hT : T3 w) (hs : Sl .u8 w (.slice ca cs.length cc) cs) (hby : ∀ i, 0 ≤ cs.getD i 0 ∧ cs.getD i 0 ≤ 255) :
    Calls Tryz.prog 4 #[.slice ca cs.length cc] w fun e w' => e = .returned (.bool true) ∧ Below w.heap.size w w' := by
  by_cases h : cs.length ≤ 1048576
  · exact mnlaw ca cc cs w hT hs hby h
  · have hn : cs.length ≤ 9223372036854775807 := by obtain ⟨_, h1, h2, _⟩ := hs.cells; unfold maxLen at h2; omega
    have CB := hid (big_any ca cs.length cc w hn true (by simp; omega))
    clear hs hby h hn
    go_enter Tryz.func4, Tryz.ntmps4
    go_wp2_with fail
    refine CB.out.mono ?_
    rintro e w0 ⟨rfl, rfl⟩
    go_wp2
    go_ret
    exact ⟨rfl, Below.refl _ _⟩
end Fd
end Go.Proofs.YtpalbhkihheogaaGreatDoor
