/-
  What is needed of AZ, ZAa.
-/
import Derived.Test.YtmcflggionkhlaaGreatDoorH47
set_option maxHeartbeats 16000000
set_option maxRecDepth 1000000
namespace Go.Proofs.YtmcflggionkhlaaGreatDoor
set_option linter.unusedVariables false
set_option linter.unusedSimpArgs false
open Go.RowKit Go.Deep
theorem bz_of {z X : Int} {n : Nat} (hX : X = z * 2 ^ n) (bX : bitLen X.natAbs ≤ 6300) (hn : n ≤ 6300) : bitLen z.natAbs + n ≤ 6300 := by
  by_cases hz : z = 0
  · rw [hz]; have : bitLen (0 : Int).natAbs = 0 := Nm.bl_zero; omega
  · have e : X.natAbs = z.natAbs * 2 ^ n := by rw [hX, Int.natAbs_mul, Int.natAbs_pow]; rfl
    rw [e, Nm.bl_mul (by omega)] at bX
    exact bX
theorem isz_any (b s G : Bool) (a : Option Addr) (n c : Nat) (e : Int) (w : World) (hn : n ≤ 200) (k : decide (n = 0) = b) :
    Calls Tryz.prog 162 #[.agg #[.bool s, .bool false, .bool G, .slice a n c, .int .i64 e]] w fun r w' => r = .returned (.bool b) ∧ Below w.heap.size w w' := by
  subst k
  exact (zero_any s false G a n c e w (by omega)).mono fun r w' ⟨hr, hb⟩ => ⟨by rw [hr]; rfl, hb⟩
theorem zero_i (fm : Int) (hfm : fmtB fm = true) (ng : Bool) (w : World) (hT : Tab w) :
    Calls Tryz.prog 31 #[.int .i64 fm, .bool ng] w fun e w' => e = .returned (.int .u64 (sgn (sgOf fm) 0 ng)) ∧ Below w.heap.size w w' := by
  rcases fmt_cases hfm with rfl | rfl
  · exact impl_Zero32 ng w hT
  · exact impl_Zero64 ng w hT
theorem tail_z {v : Int} {d : Nat} (k : (0 : Int) = v * 2 ^ d) : decide ((Nm.wl v).length = 0) = true := by
  have hv : v = 0 := by
    rcases Int.mul_eq_zero.1 k.symm with h' | h'
    · exact h'
    · exact absurd h' (Int.ne_of_gt (Int.pow_pos (by decide)))
  rw [hv]; exact decide_eq_true (by have : Nm.wl 0 = [] := Nm.lim_zero; rw [this]; rfl)
theorem tail_num {fm h X v e T F f : Int} (hfm : fmtB fm = true) (fh : finB fm h = true) (hr : auR fm h X ≠ 0) (hR : auR fm h X = v * 2 ^ (e - 2 * unQ fm).toNat) (e0 : 2 * unQ fm ≤ e) (e1 : e ≤ 4000) (lv : (Nm.wl v).length ≤ 200) (lR : (Nm.wl (auR fm h X)).length ≤ 200) (hT : T = auT fm h X) (hF : F = auF fm h f X) :
    RdO fm 5 (Nm.wn v) (Nm.wl v) e = true ∧ RdB fm 5 (Nm.wn v) (Nm.wl v) e = T ∧ RdF fm 5 (Nm.wn v) (Nm.wl v) e = F ∧ decide ((Nm.wl v).length = 0) = false := by
  have hq := unq_bd fm
  have hv : v ≠ 0 := fun k => hr (by rw [hR, k, Int.zero_mul])
  have o1 := rdo_any (fm := fm) (mode := 5) (z := v) (e := e) hfm (by decide) lv (by omega) (by omega)
  have o2 := rdo_any (fm := fm) (mode := 5) (z := auR fm h X) (e := 2 * unQ fm) hfm (by decide) lR (by omega) (by omega)
  have hT' : T = RdB fm 5 (Nm.wn (auR fm h X)) (Nm.wl (auR fm h X)) (2 * unQ fm) := by rw [hT]; unfold auT; rw [if_pos fh, if_neg hr]
  have hF' : F = RdF fm 5 (Nm.wn (auR fm h X)) (Nm.wl (auR fm h X)) (2 * unQ fm) := by rw [hF]; unfold auF; rw [if_pos fh, if_neg hr]
  clear hT hF
  have hdd : 2 * unQ fm = e - ((e - 2 * unQ fm).toNat : Nat) := by omega
  rw [hR] at o2 hT' hF'
  generalize hn : (e - 2 * unQ fm).toNat = n at *
  rw [hdd] at o2 hT' hF'
  obtain ⟨q1, q2⟩ := Rd_scale fm 5 v n e hv o1 o2
  refine ⟨o1, ?_, ?_, ?_⟩
  · rw [hT']; first | exact q1 | exact q1.symm
  · rw [hF']; first | exact q2 | exact q2.symm
  · rw [decide_eq_false_iff_not]; unfold Nm.wl; rw [Nm.lim_length_zero]; omega
theorem rnd_tail {fm v e T F : Int} (p : Option Addr) (c : Nat) (w : World) (hT : T3 w) (hs : Sl .u32 w (.slice p (Nm.wl v).length c) (Nm.wl v)) (lv : (Nm.wl v).length ≤ 200) (o : RdO fm 5 (Nm.wn v) (Nm.wl v) e = true) (b : RdB fm 5 (Nm.wn v) (Nm.wl v) e = T) (f : RdF fm 5 (Nm.wn v) (Nm.wl v) e = F) :
    Calls Tryz.prog 104 #[.int .i64 fm, .int .i64 5, .agg #[.bool (Nm.wn v), .slice p (Nm.wl v).length c], .int .i64 e] w fun r w' => r = .returned (.tuple #[.int .u64 T, .int .i64 F, .bool true]) ∧ Below w.heap.size w w' := by
  have h := rounded_impl fm 5 (Nm.wn v) (Nm.wl v) e p c w hT hs (Nm.wl_dg _) (by omega)
  rw [o, b, f] at h
  exact h
theorem fin_td {fm : Int} (hfm : fmtB fm = true) (n i z g : Bool) (rb : Int) (hf : finB fm (tdB (nanOf fm) (infOf fm) (sgOf fm) n i z g rb) = true) : n = false ∧ i = false := by
  unfold tdB at hf
  cases n
  · cases i
    · exact ⟨rfl, rfl⟩
    · simp only [Bool.false_eq_true, if_false, if_true] at hf
      rw [(sg_okF hfm g).2.2] at hf; cases hf
  · simp only [if_true] at hf
    rw [(nan_okF hfm).2] at hf; cases hf
theorem tailed_x (fm h t f z E X T F : Int) (sg : Bool) (p : Option Addr) (c : Nat) (u : Value) (w : World) (hE : E3 u w) (hs : Sl .u32 w (.slice p (Nm.wl z).length c) (Nm.wl z)) (hok : okF fm h = true) (h0 : 0 ≤ h) (h1 : h < 18446744073709551616) (fh : finB fm h = true) (hX : X = z * 2 ^ (E - 2 * unQ fm).toNat) (e0 : 2 * unQ fm ≤ E) (e1 : E ≤ 4000) (bz : bitLen z.natAbs + (E - 2 * unQ fm).toNat ≤ 6300) (hT : T = auT fm h X) (hF : F = auF fm h f X) :
    Calls Tryz.prog 188 #[.agg #[.int .u64 h, .int .u64 t], .int .i64 fm, .agg #[.bool sg, .bool false, .bool (Nm.wn z), .slice p (Nm.wl z).length c, .int .i64 E]] w fun r w' => r = .returned (.tuple #[.agg #[.int .u64 h, .int .u64 T], .int .i64 F]) ∧ Below w.heap.size w w' := by
  have CL := hid (fun w' k k' => lack_x fm h t z E X sg p c u w' k k' hok h0 h1 fh hX e0 e1 bz)
  have hfm := ok_fmt hok
  have bX : bitLen X.natAbs ≤ 6300 := by rw [hX]; have := bl_mulp z (E - 2 * unQ fm).toNat; omega
  have lR := auR_len (fm := fm) (h := h) (X := X) bX
  by_cases hr : auR fm h X = 0
  · have hT2 : T = sgn (sgOf fm) 0 (sigB fm h) := by rw [hT]; unfold auT; rw [if_pos fh, if_pos hr]
    have hF2 : F = 0 := by rw [hF]; unfold auF; rw [if_pos fh, if_pos hr]
    have HZ := hid (fun (v e : Int) (k : auR fm h X = v * 2 ^ (e - 2 * unQ fm).toNat) => tail_z (hr.symm.trans k))
    have CS := hid (fun w' k => impl_sig fm h w' k h0 h1)
    have CW := hid (fun w' k => zero_i fm hfm (sigB fm h) w' k)
    rw [← hT2] at CW
    rw [hF2]
    obtain ⟨s9, h_s9⟩ : ∃ q, q = sigB fm h := ⟨_, rfl⟩
    rw [← h_s9] at CS CW
    clear h_s9 hT2 hF2 lR
    obtain ⟨gz, h_gz⟩ : ∃ q, q = Nm.wn z := ⟨_, rfl⟩
    obtain ⟨Z, h_Z⟩ : ∃ q, q = Nm.wl z := ⟨_, rfl⟩
    rw [← h_gz, ← h_Z] at CL ⊢
    rw [← h_Z] at hs
    clear h_gz h_Z hr hT hF hok h0 h1 fh hX e0 e1 bz bX hfm
    have bel := Below.refl w.heap.size w
    go_enter Tryz.func188, Tryz.ntmps188
    replace hs := hs.below (al_b _ (.cells #[.int .u64 h, .int .u64 t] 54))
    replace hE := hE.below (al_b _ (.cells #[.int .u64 h, .int .u64 t] 54))
    replace bel := bel_al bel (.cells #[.int .u64 h, .int .u64 t] 54)
    have Bp := R2.new w (.int .u64 h) (.int .u64 t) 54
    replace hs := hs.below (al_b _ (.cells #[.bool sg, .bool false, .bool gz, .slice p Z.length c, .int .i64 E] 99))
    replace hE := hE.below (al_b _ (.cells #[.bool sg, .bool false, .bool gz, .slice p Z.length c, .int .i64 E] 99))
    replace Bp := Bp.below (al_b _ (.cells #[.bool sg, .bool false, .bool gz, .slice p Z.length c, .int .i64 E] 99))
    replace bel := bel_al bel (.cells #[.bool sg, .bool false, .bool gz, .slice p Z.length c, .int .i64 E] 99)
    have Bx := Q5.new (w.alloc (.cells #[.int .u64 h, .int .u64 t] 54)) (.bool sg) (.bool false) (.bool gz) (.slice p Z.length c) (.int .i64 E) 99
    have hsz : (w.alloc (.cells #[.int .u64 h, .int .u64 t] 54)).heap.size = w.heap.size + 1 := by simp
    rw [hsz] at Bx
    clear hsz
    replace hs := hs.below (al_b _ (.cells #[.int .u64 0, .int .u64 0] 54))
    replace hE := hE.below (al_b _ (.cells #[.int .u64 0, .int .u64 0] 54))
    replace Bp := Bp.below (al_b _ (.cells #[.int .u64 0, .int .u64 0] 54))
    replace Bx := Bx.below (al_b _ (.cells #[.int .u64 0, .int .u64 0] 54))
    replace bel := bel_al bel (.cells #[.int .u64 0, .int .u64 0] 54)
    have Br := R2.new ((w.alloc (.cells #[.int .u64 h, .int .u64 t] 54)).alloc (.cells #[.bool sg, .bool false, .bool gz, .slice p Z.length c, .int .i64 E] 99)) (.int .u64 0) (.int .u64 0) 54
    have hsz : ((w.alloc (.cells #[.int .u64 h, .int .u64 t] 54)).alloc (.cells #[.bool sg, .bool false, .bool gz, .slice p Z.length c, .int .i64 E] 99)).heap.size = w.heap.size + 1 + 1 := by simp
    rw [hsz] at Br
    clear hsz
    obtain ⟨kp0, kp1, -, -⟩ := id Bp
    obtain ⟨kx0, kx1, kx2, kx3, kx4, -, -, -, -, -⟩ := id Bx
    obtain ⟨kr0, kr1, -, -⟩ := id Br
    go_wp2_with fail
    refine (CL.out _ hE hs).mono ?_
    rintro r w1 ⟨a2, c2, b2, v, e, rfl, hR, q0, q1, lv, s2, hb⟩
    clear kp0 kp1 kx0 kx1 kx2 kx3 kx4 kr0 kr1
    replace bel := bel_go bel hb
    replace hs := hs.below hb
    replace hE := hE.below hb
    replace Bp := Bp.below hb
    replace Bx := Bx.below hb
    replace Br := Br.below hb
    clear hb
    have hz := HZ.out v e hR
    obtain ⟨gv, h_gv⟩ : ∃ q, q = Nm.wn v := ⟨_, rfl⟩
    obtain ⟨V, h_V⟩ : ∃ q, q = Nm.wl v := ⟨_, rfl⟩
    rw [← h_V] at hz lv s2
    rw [← h_gv, ← h_V]
    clear h_gv h_V hR q0 q1 HZ hs
    replace hE := hE.below (al_b _ (.cells #[.bool b2, .bool false, .bool gv, .slice a2 V.length c2, .int .i64 e] 99))
    replace Bp := Bp.below (al_b _ (.cells #[.bool b2, .bool false, .bool gv, .slice a2 V.length c2, .int .i64 e] 99))
    replace Bx := Bx.below (al_b _ (.cells #[.bool b2, .bool false, .bool gv, .slice a2 V.length c2, .int .i64 e] 99))
    replace Br := Br.below (al_b _ (.cells #[.bool b2, .bool false, .bool gv, .slice a2 V.length c2, .int .i64 e] 99))
    replace s2 := s2.below (al_b _ (.cells #[.bool b2, .bool false, .bool gv, .slice a2 V.length c2, .int .i64 e] 99))
    replace bel := bel_al bel (.cells #[.bool b2, .bool false, .bool gv, .slice a2 V.length c2, .int .i64 e] 99)
    have Bs := Q5.new w1 (.bool b2) (.bool false) (.bool gv) (.slice a2 V.length c2) (.int .i64 e) 99
    obtain ⟨kp0, kp1, -, -⟩ := id Bp
    obtain ⟨kx0, kx1, kx2, kx3, kx4, -, -, -, -, -⟩ := id Bx
    obtain ⟨kr0, kr1, -, -⟩ := id Br
    obtain ⟨ks0, ks1, ks2, ks3, ks4, -, -, -, -, -⟩ := id Bs
    go_wp2_with fail
    refine (isz_any true b2 gv a2 V.length c2 e _ lv hz).mono ?_
    rintro r w2 ⟨rfl, hb⟩
    clear kp0 kp1 kx0 kx1 kx2 kx3 kx4 kr0 kr1 ks0 ks1 ks2 ks3 ks4
    replace bel := bel_go bel hb
    replace hE := hE.below hb
    replace Bp := Bp.below hb
    replace Bx := Bx.below hb
    replace Br := Br.below hb
    replace s2 := s2.below hb
    replace Bs := Bs.below hb
    clear hb
    go_upto_region 3 with fail
    generalize hWW : w2 = WW at bel Bp Br hE ⊢
    clear hWW
    have belR := Below.drew (Below.refl WW.heap.size WW)
    refine wp_region_held_drew (S := fun w' => (w'.cell? ⟨w.heap.size, 0, none⟩ = some (.int .u64 h) ∧ w'.cell? ⟨w.heap.size, 1, none⟩ = some (.int .u64 t))) (by kernel_rfl) ?_ (fun hHeld => ?_)
    · exact ⟨(Bp).c0, (Bp).c1⟩
    generalize WW.drew = v0 at belR hHeld ⊢
    refine tk 0 ?_ rfl (Or.inl ⟨by rfl, ?_⟩) ?_
    rotate_left
    · (intro w hSw; go_simp; try (with_reducible rfl))
    try simp only [Act.put, Ls]
    refine tk 1 ?_ rfl (Or.inl ⟨by rfl, ?_⟩) ?_
    rotate_left
    · (intro w hSw; (try dsimp only at hSw); obtain ⟨hS0, hS1⟩ := hSw; go_simp; try (with_reducible rfl))
    try simp only [Act.put, Ls]
    refine tk 2 ?_ rfl (Or.inl ⟨by rfl, ?_⟩) ?_
    rotate_left
    · (intro w hSw; go_simp; try (with_reducible rfl))
    try simp only [Act.put, Ls]
    refine tk 3 ?_ rfl (Or.inl ⟨by rfl, ?_⟩) ?_
    rotate_left
    · (intro w hSw; go_simp; try (with_reducible rfl))
    try simp only [Act.put, Ls]
    refine tk 4 ?_ rfl (Or.inl ⟨by rfl, ?_⟩) ?_
    rotate_left
    · (intro w hSw; go_simp; try (with_reducible rfl))
    try simp only [Act.put, Ls]
    refine tk 5 ?_ rfl (Or.inl ⟨by rfl, ?_⟩) ?_
    rotate_left
    · (intro w hSw; (try dsimp only at hSw); obtain ⟨hS0, hS1⟩ := hSw; go_simp; try (with_reducible rfl))
    try simp only [Act.put, Ls]
    refine rdy 6 rfl (fun K hK => ?_)
    go_simp
    go_at_call 133
    refine (CS.out _ (hE.t.s.f.below belR)).mono ?_
    rintro r v1 ⟨rfl, hb'⟩
    have hz' := belR.size
    replace belR := bel_go belR hb'
    clear hb' hz'
    refine hK.out _ _ ?_ (fun hHeld => ?_)
    · exact ⟨(Bp.below belR).c0, (Bp.below belR).c1⟩
    clear hK K
    try simp only [Act.put, Ls]
    refine rdy 7 rfl (fun K hK => ?_)
    go_simp
    go_at_call 31
    refine (CW.out _ (hE.t.s.f.below belR)).mono ?_
    rintro r v2 ⟨rfl, hb'⟩
    have hz' := belR.size
    replace belR := bel_go belR hb'
    clear hb' hz'
    refine hK.out _ _ ?_ (fun hHeld => ?_)
    · exact ⟨(Bp.below belR).c0, (Bp.below belR).c1⟩
    clear hK K
    try simp only [Act.put, Ls]
    refine tk 8 ?_ rfl (Or.inl ⟨by rfl, ?_⟩) ?_
    rotate_left
    · (intro w hSw; go_simp; try (with_reducible rfl))
    try simp only [Act.put, Ls]
    refine rdy 9 rfl (fun K hK => ?_)
    have Br' := Br.below belR
    have ⟨y0, y1, y2, y3⟩ := Br'
    have Bp' := Bp.below belR
    go_simp
    have hne : w.heap.size ≠ (w.heap.size + 1 + 1) := by omega
    have Bp9 := (Bp'.other (p := ⟨(w.heap.size + 1 + 1), 0, none⟩) hne (.int .u64 h)).other (p := ⟨(w.heap.size + 1 + 1), 1, none⟩) hne (.int .u64 T)
    refine hK.out _ _ ?_ (fun hHeld => ?_)
    · exact ⟨Bp9.c0, Bp9.c1⟩
    clear hK K
    try simp only [Act.put, Ls]
    refine rdy 10 rfl (fun K hK => ?_)
    go_simp
    refine hK.out _ _ ?_ (fun hHeld => ?_)
    · exact ⟨Bp9.c0, Bp9.c1⟩
    clear hK K
    try simp only [Act.put, Ls]
    refine wpAnyH_done (by kernel_rfl) ?_ _
    obtain ⟨z0, z1, -, -⟩ := R2.set Br' (.int .u64 h) (.int .u64 T)
    go_wp2
    refine bodyPost_ret (v := .tuple #[.agg #[.int .u64 h, .int .u64 T], .int .i64 0]) (by simp [results, Tryz.results188, go_sem, z0, z1]) rfl ⟨rfl, ((bel.trans (belR.mono bel.size)).setCell (by simp; omega) _).setCell (by simp; omega) _⟩
  · have HZ := hid (fun (v e : Int) (k : auR fm h X = v * 2 ^ (e - 2 * unQ fm).toNat) q0 q1 lv => (tail_num (f := f) hfm fh hr k q0 q1 lv lR hT hF).2.2.2)
    have CR := hid (fun (v e : Int) (k : auR fm h X = v * 2 ^ (e - 2 * unQ fm).toNat) q0 q1 lv a c w' k1 k2 => rnd_tail a c w' k1 k2 lv (tail_num (f := f) hfm fh hr k q0 q1 lv lR hT hF).1 (tail_num (f := f) hfm fh hr k q0 q1 lv lR hT hF).2.1 (tail_num (f := f) hfm fh hr k q0 q1 lv lR hT hF).2.2.1)
    clear lR
    obtain ⟨gz, h_gz⟩ : ∃ q, q = Nm.wn z := ⟨_, rfl⟩
    obtain ⟨Z, h_Z⟩ : ∃ q, q = Nm.wl z := ⟨_, rfl⟩
    rw [← h_gz, ← h_Z] at CL ⊢
    rw [← h_Z] at hs
    clear h_gz h_Z hr hT hF hok h0 h1 fh hX e0 e1 bz bX hfm
    have bel := Below.refl w.heap.size w
    go_enter Tryz.func188, Tryz.ntmps188
    replace hs := hs.below (al_b _ (.cells #[.int .u64 h, .int .u64 t] 54))
    replace hE := hE.below (al_b _ (.cells #[.int .u64 h, .int .u64 t] 54))
    replace bel := bel_al bel (.cells #[.int .u64 h, .int .u64 t] 54)
    have Bp := R2.new w (.int .u64 h) (.int .u64 t) 54
    replace hs := hs.below (al_b _ (.cells #[.bool sg, .bool false, .bool gz, .slice p Z.length c, .int .i64 E] 99))
    replace hE := hE.below (al_b _ (.cells #[.bool sg, .bool false, .bool gz, .slice p Z.length c, .int .i64 E] 99))
    replace Bp := Bp.below (al_b _ (.cells #[.bool sg, .bool false, .bool gz, .slice p Z.length c, .int .i64 E] 99))
    replace bel := bel_al bel (.cells #[.bool sg, .bool false, .bool gz, .slice p Z.length c, .int .i64 E] 99)
    have Bx := Q5.new (w.alloc (.cells #[.int .u64 h, .int .u64 t] 54)) (.bool sg) (.bool false) (.bool gz) (.slice p Z.length c) (.int .i64 E) 99
    have hsz : (w.alloc (.cells #[.int .u64 h, .int .u64 t] 54)).heap.size = w.heap.size + 1 := by simp
    rw [hsz] at Bx
    clear hsz
    replace hs := hs.below (al_b _ (.cells #[.int .u64 0, .int .u64 0] 54))
    replace hE := hE.below (al_b _ (.cells #[.int .u64 0, .int .u64 0] 54))
    replace Bp := Bp.below (al_b _ (.cells #[.int .u64 0, .int .u64 0] 54))
    replace Bx := Bx.below (al_b _ (.cells #[.int .u64 0, .int .u64 0] 54))
    replace bel := bel_al bel (.cells #[.int .u64 0, .int .u64 0] 54)
    have Br := R2.new ((w.alloc (.cells #[.int .u64 h, .int .u64 t] 54)).alloc (.cells #[.bool sg, .bool false, .bool gz, .slice p Z.length c, .int .i64 E] 99)) (.int .u64 0) (.int .u64 0) 54
    have hsz : ((w.alloc (.cells #[.int .u64 h, .int .u64 t] 54)).alloc (.cells #[.bool sg, .bool false, .bool gz, .slice p Z.length c, .int .i64 E] 99)).heap.size = w.heap.size + 1 + 1 := by simp
    rw [hsz] at Br
    clear hsz
    obtain ⟨kp0, kp1, -, -⟩ := id Bp
    obtain ⟨kx0, kx1, kx2, kx3, kx4, -, -, -, -, -⟩ := id Bx
    obtain ⟨kr0, kr1, -, -⟩ := id Br
    go_wp2_with fail
    refine (CL.out _ hE hs).mono ?_
    rintro r w1 ⟨a2, c2, b2, v, e, rfl, hR, q0, q1, lv, s2, hb⟩
    clear kp0 kp1 kx0 kx1 kx2 kx3 kx4 kr0 kr1
    replace bel := bel_go bel hb
    replace hs := hs.below hb
    replace hE := hE.below hb
    replace Bp := Bp.below hb
    replace Bx := Bx.below hb
    replace Br := Br.below hb
    clear hb
    have hz := HZ.out v e hR q0 q1 lv
    have CR2 := hid (fun a c w' k1 k2 => CR.out v e hR q0 q1 lv a c w' k1 k2)
    obtain ⟨gv, h_gv⟩ : ∃ q, q = Nm.wn v := ⟨_, rfl⟩
    obtain ⟨V, h_V⟩ : ∃ q, q = Nm.wl v := ⟨_, rfl⟩
    rw [← h_V] at hz lv s2
    rw [← h_gv, ← h_V]
    rw [← h_gv, ← h_V] at CR2
    clear h_gv h_V hR q0 q1 HZ hs CR
    replace hE := hE.below (al_b _ (.cells #[.bool b2, .bool false, .bool gv, .slice a2 V.length c2, .int .i64 e] 99))
    replace Bp := Bp.below (al_b _ (.cells #[.bool b2, .bool false, .bool gv, .slice a2 V.length c2, .int .i64 e] 99))
    replace Bx := Bx.below (al_b _ (.cells #[.bool b2, .bool false, .bool gv, .slice a2 V.length c2, .int .i64 e] 99))
    replace Br := Br.below (al_b _ (.cells #[.bool b2, .bool false, .bool gv, .slice a2 V.length c2, .int .i64 e] 99))
    replace s2 := s2.below (al_b _ (.cells #[.bool b2, .bool false, .bool gv, .slice a2 V.length c2, .int .i64 e] 99))
    replace bel := bel_al bel (.cells #[.bool b2, .bool false, .bool gv, .slice a2 V.length c2, .int .i64 e] 99)
    have Bs := Q5.new w1 (.bool b2) (.bool false) (.bool gv) (.slice a2 V.length c2) (.int .i64 e) 99
    obtain ⟨kp0, kp1, -, -⟩ := id Bp
    obtain ⟨kx0, kx1, kx2, kx3, kx4, -, -, -, -, -⟩ := id Bx
    obtain ⟨kr0, kr1, -, -⟩ := id Br
    obtain ⟨ks0, ks1, ks2, ks3, ks4, -, -, -, -, -⟩ := id Bs
    go_wp2_with fail
    refine (isz_any false b2 gv a2 V.length c2 e _ lv hz).mono ?_
    rintro r w2 ⟨rfl, hb⟩
    clear kp0 kp1 kx0 kx1 kx2 kx3 kx4 kr0 kr1 ks0 ks1 ks2 ks3 ks4
    replace bel := bel_go bel hb
    replace hE := hE.below hb
    replace Bp := Bp.below hb
    replace Bx := Bx.below hb
    replace Br := Br.below hb
    replace s2 := s2.below hb
    replace Bs := Bs.below hb
    clear hb
    obtain ⟨kp0, kp1, -, -⟩ := id Bp
    obtain ⟨kx0, kx1, kx2, kx3, kx4, -, -, -, -, -⟩ := id Bx
    obtain ⟨kr0, kr1, -, -⟩ := id Br
    obtain ⟨ks0, ks1, ks2, ks3, ks4, -, -, -, -, -⟩ := id Bs
    go_wp2_with fail
    refine (CR2.out a2 c2 _ hE.t s2).mono ?_
    rintro r w3 ⟨rfl, hb⟩
    clear kp0 kp1 kx0 kx1 kx2 kx3 kx4 kr0 kr1 ks0 ks1 ks2 ks3 ks4
    replace bel := bel_go bel hb
    replace hE := hE.below hb
    replace Bp := Bp.below hb
    replace Bx := Bx.below hb
    replace Br := Br.below hb
    replace s2 := s2.below hb
    replace Bs := Bs.below hb
    clear hb
    obtain ⟨kp0, kp1, -, -⟩ := id Bp
    obtain ⟨kx0, kx1, kx2, kx3, kx4, -, -, -, -, -⟩ := id Bx
    obtain ⟨kr0, kr1, -, -⟩ := id Br
    obtain ⟨ks0, ks1, ks2, ks3, ks4, -, -, -, -, -⟩ := id Bs
    obtain ⟨-, -, lr0, lr1⟩ := id Br
    go_wp2
    refine bodyPost_ret (v := .tuple #[.agg #[.int .u64 h, .int .u64 T], .int .i64 F]) (by simp [results, Tryz.results188, go_sem, kp0, kp1, kx0, kx1, kx2, kx3, kx4, kr0, kr1, ks0, ks1, ks2, ks3, ks4, lr0, lr1]) rfl ⟨rfl, ((bel.setCell (by simp; omega) _).setCell (by simp; omega) _)⟩
theorem aug_x (fm : Int) (hfm : fmtB fm = true) (sg inf G : Bool) (L : List Int) (E : Int) (p : Option Addr) (c : Nat) (u ev : Value) (n b : Bool) (hk : EK u ev n b) (w : World) (hE : E3 u w) (hs : Sl .u32 w (.slice p L.length c) L) (hd : Nm.Dg L) (hl : L.length ≤ 200) (rb rf : Int) (hro : n = false → inf = false → L.length ≠ 0 → RdO fm 5 G L E = true ∧ rb = RdB fm 5 G L E ∧ rf = RdF fm 5 G L E) (h f X T F : Int) (hB : h = tdB (nanOf fm) (infOf fm) (sgOf fm) n inf (decide (L.length = 0)) sg rb) (hF0 : f = tdF n b inf (decide (L.length = 0)) rf) (hok : okF fm h = true) (h0 : 0 ≤ h) (h1 : h < 18446744073709551616)
    (hz : finB fm h = true → inf = false ∧ ∃ z, G = Nm.wn z ∧ L = Nm.wl z ∧ X = z * 2 ^ (E - 2 * unQ fm).toNat ∧ 2 * unQ fm ≤ E ∧ E ≤ 4000 ∧ bitLen z.natAbs + (E - 2 * unQ fm).toNat ≤ 6300) (hT : T = auT fm h X) (hF : F = auF fm h f X) :
    Calls Tryz.prog 124 #[.int .i64 fm, .agg #[.bool sg, .bool inf, .bool G, .slice p L.length c, .int .i64 E], ev] w fun r w' => r = .returned (.tuple #[.agg #[.int .u64 h, .int .u64 T], .int .i64 F, .bool true]) ∧ Below w.heap.size w w' := by
  have CT := hid (fun w' k1 k2 k3 => told_any fm 5 hfm sg inf G L E p c u ev n b hk w' k1 k2 k3 hd hl rb rf hro h f hB hF0)
  have CF := hid (fun w' k => impl_fin fm h w' k h0 h1)
  cases fh : finB fm h
  · rw [fh] at CF
    have hT2 : T = h := by rw [hT]; unfold auT; rw [fh]; rfl
    have hF2 : F = f := by rw [hF]; unfold auF; rw [fh]; rfl
    rw [hT2, hF2]
    clear hT hF hT2 hF2 hz hB hF0 fh hro hok h0 h1 hk hd hl
    have bel := Below.refl w.heap.size w
    go_enter Tryz.func124, Tryz.ntmps124
    replace hs := hs.below (al_b _ (.cells #[.bool sg, .bool inf, .bool G, .slice p L.length c, .int .i64 E] 99))
    replace hE := hE.below (al_b _ (.cells #[.bool sg, .bool inf, .bool G, .slice p L.length c, .int .i64 E] 99))
    replace bel := bel_al bel (.cells #[.bool sg, .bool inf, .bool G, .slice p L.length c, .int .i64 E] 99)
    have Bx := Q5.new w (.bool sg) (.bool inf) (.bool G) (.slice p L.length c) (.int .i64 E) 99
    replace hs := hs.below (al_b _ (.cells #[.int .u64 0, .int .u64 0] 54))
    replace hE := hE.below (al_b _ (.cells #[.int .u64 0, .int .u64 0] 54))
    replace Bx := Bx.below (al_b _ (.cells #[.int .u64 0, .int .u64 0] 54))
    replace bel := bel_al bel (.cells #[.int .u64 0, .int .u64 0] 54)
    have Br := R2.new (w.alloc (.cells #[.bool sg, .bool inf, .bool G, .slice p L.length c, .int .i64 E] 99)) (.int .u64 0) (.int .u64 0) 54
    have hsz : (w.alloc (.cells #[.bool sg, .bool inf, .bool G, .slice p L.length c, .int .i64 E] 99)).heap.size = w.heap.size + 1 := by simp
    rw [hsz] at Br
    clear hsz
    obtain ⟨kx0, kx1, kx2, kx3, kx4, -, -, -, -, -⟩ := id Bx
    obtain ⟨kr0, kr1, -, -⟩ := id Br
    go_wp2_with fail
    refine (CT.out _ hE.t hE.g hs).mono ?_
    rintro r w1 ⟨rfl, hb⟩
    clear kx0 kx1 kx2 kx3 kx4 kr0 kr1
    replace bel := bel_go bel hb
    replace hs := hs.below hb
    replace hE := hE.below hb
    replace Bx := Bx.below hb
    replace Br := Br.below hb
    clear hb
    have hz1 := World.block_lt_of_cell? _ _ Br.c0
    simp only [] at hz1
    replace hs := hs.below (al_b _ (.cells #[.int .u64 h, .int .u64 h] 54))
    replace hE := hE.below (al_b _ (.cells #[.int .u64 h, .int .u64 h] 54))
    replace Bx := Bx.below (al_b _ (.cells #[.int .u64 h, .int .u64 h] 54))
    replace Br := Br.below (al_b _ (.cells #[.int .u64 h, .int .u64 h] 54))
    replace bel := bel_al bel (.cells #[.int .u64 h, .int .u64 h] 54)
    have Bp := R2.new w1 (.int .u64 h) (.int .u64 h) 54
    obtain ⟨kx0, kx1, kx2, kx3, kx4, -, -, -, -, -⟩ := id Bx
    obtain ⟨kr0, kr1, -, -⟩ := id Br
    obtain ⟨kp0, kp1, -, -⟩ := id Bp
    go_wp2_with fail
    refine (CF.out _ hE.t.s.f).mono ?_
    rintro r w2 ⟨rfl, hb⟩
    clear kx0 kx1 kx2 kx3 kx4 kr0 kr1 kp0 kp1
    replace bel := bel_go bel hb
    replace hs := hs.below hb
    replace hE := hE.below hb
    replace Bx := Bx.below hb
    replace Br := Br.below hb
    replace Bp := Bp.below hb
    clear hb
    obtain ⟨kx0, kx1, kx2, kx3, kx4, -, -, -, -, -⟩ := id Bx
    obtain ⟨kr0, kr1, -, -⟩ := id Br
    obtain ⟨kp0, kp1, -, -⟩ := id Bp
    obtain ⟨-, -, lr0, lr1⟩ := id Br
    go_wp2
    refine bodyPost_ret (v := .tuple #[.agg #[.int .u64 h, .int .u64 h], .int .i64 f, .bool true]) (by simp [results, Tryz.results124, go_sem, kx0, kx1, kx2, kx3, kx4, kr0, kr1, kp0, kp1, lr0, lr1]) rfl ⟨rfl, ((bel.setCell (by simp) _).setCell (by simp) _)⟩
  · rw [fh] at CF
    obtain ⟨rfl, z, hG, hL, hX, e0, e1, bz⟩ := hz fh
    have CD := hid (fun w' k (k' : Sl .u32 w' (.slice p (Nm.wl z).length c) (Nm.wl z)) => tailed_x fm h h f z E X T F sg p c u w' k k' hok h0 h1 fh hX e0 e1 bz hT hF)
    rw [← hG, ← hL] at CD
    clear hT hF hz hB hF0 fh hro hok h0 h1 hk hd hl hG hL hX e0 e1 bz
    have bel := Below.refl w.heap.size w
    go_enter Tryz.func124, Tryz.ntmps124
    replace hs := hs.below (al_b _ (.cells #[.bool sg, .bool false, .bool G, .slice p L.length c, .int .i64 E] 99))
    replace hE := hE.below (al_b _ (.cells #[.bool sg, .bool false, .bool G, .slice p L.length c, .int .i64 E] 99))
    replace bel := bel_al bel (.cells #[.bool sg, .bool false, .bool G, .slice p L.length c, .int .i64 E] 99)
    have Bx := Q5.new w (.bool sg) (.bool false) (.bool G) (.slice p L.length c) (.int .i64 E) 99
    replace hs := hs.below (al_b _ (.cells #[.int .u64 0, .int .u64 0] 54))
    replace hE := hE.below (al_b _ (.cells #[.int .u64 0, .int .u64 0] 54))
    replace Bx := Bx.below (al_b _ (.cells #[.int .u64 0, .int .u64 0] 54))
    replace bel := bel_al bel (.cells #[.int .u64 0, .int .u64 0] 54)
    have Br := R2.new (w.alloc (.cells #[.bool sg, .bool false, .bool G, .slice p L.length c, .int .i64 E] 99)) (.int .u64 0) (.int .u64 0) 54
    have hsz : (w.alloc (.cells #[.bool sg, .bool false, .bool G, .slice p L.length c, .int .i64 E] 99)).heap.size = w.heap.size + 1 := by simp
    rw [hsz] at Br
    clear hsz
    obtain ⟨kx0, kx1, kx2, kx3, kx4, -, -, -, -, -⟩ := id Bx
    obtain ⟨kr0, kr1, -, -⟩ := id Br
    go_wp2_with fail
    refine (CT.out _ hE.t hE.g hs).mono ?_
    rintro r w1 ⟨rfl, hb⟩
    clear kx0 kx1 kx2 kx3 kx4 kr0 kr1
    replace bel := bel_go bel hb
    replace hs := hs.below hb
    replace hE := hE.below hb
    replace Bx := Bx.below hb
    replace Br := Br.below hb
    clear hb
    have hz1 := World.block_lt_of_cell? _ _ Br.c0
    simp only [] at hz1
    replace hs := hs.below (al_b _ (.cells #[.int .u64 h, .int .u64 h] 54))
    replace hE := hE.below (al_b _ (.cells #[.int .u64 h, .int .u64 h] 54))
    replace Bx := Bx.below (al_b _ (.cells #[.int .u64 h, .int .u64 h] 54))
    replace Br := Br.below (al_b _ (.cells #[.int .u64 h, .int .u64 h] 54))
    replace bel := bel_al bel (.cells #[.int .u64 h, .int .u64 h] 54)
    have Bp := R2.new w1 (.int .u64 h) (.int .u64 h) 54
    obtain ⟨kx0, kx1, kx2, kx3, kx4, -, -, -, -, -⟩ := id Bx
    obtain ⟨kr0, kr1, -, -⟩ := id Br
    obtain ⟨kp0, kp1, -, -⟩ := id Bp
    go_wp2_with fail
    refine (CF.out _ hE.t.s.f).mono ?_
    rintro r w2 ⟨rfl, hb⟩
    clear kx0 kx1 kx2 kx3 kx4 kr0 kr1 kp0 kp1
    replace bel := bel_go bel hb
    replace hs := hs.below hb
    replace hE := hE.below hb
    replace Bx := Bx.below hb
    replace Br := Br.below hb
    replace Bp := Bp.below hb
    clear hb
    obtain ⟨kx0, kx1, kx2, kx3, kx4, -, -, -, -, -⟩ := id Bx
    obtain ⟨kr0, kr1, -, -⟩ := id Br
    obtain ⟨kp0, kp1, -, -⟩ := id Bp
    go_wp2_with fail
    refine (CD.out _ hE hs).mono ?_
    rintro r w3 ⟨rfl, hb⟩
    clear kx0 kx1 kx2 kx3 kx4 kr0 kr1 kp0 kp1
    replace bel := bel_go bel hb
    replace hs := hs.below hb
    replace hE := hE.below hb
    replace Bx := Bx.below hb
    replace Br := Br.below hb
    replace Bp := Bp.below hb
    clear hb
    obtain ⟨kx0, kx1, kx2, kx3, kx4, -, -, -, -, -⟩ := id Bx
    obtain ⟨kr0, kr1, -, -⟩ := id Br
    obtain ⟨kp0, kp1, -, -⟩ := id Bp
    have Br9 := (Br.other (p := ⟨w1.heap.size, 0, none⟩) (by simp; omega) (.int .u64 h)).other (p := ⟨w1.heap.size, 1, none⟩) (by simp; omega) (.int .u64 T)
    have Bp9 := R2.set Bp (.int .u64 h) (.int .u64 T)
    have bel9 := (bel.setCell (p := ⟨w1.heap.size, 0, none⟩) (by simp; omega) (.int .u64 h)).setCell (p := ⟨w1.heap.size, 1, none⟩) (by simp; omega) (.int .u64 T)
    obtain ⟨-, -, lp0, lp1⟩ := id Bp
    clear Br bel
    go_upto_region 5 with fail
    clear kx0 kx1 kx2 kx3 kx4 kr0 kr1 kp0 kp1 lp0 lp1 Bp Bx hs hE
    generalize hWv : (w3.setCell ⟨w1.heap.size, 0, none⟩ (.int .u64 h)).setCell ⟨w1.heap.size, 1, none⟩ (.int .u64 T) = W9 at Br9 Bp9 bel9 ⊢
    clear hWv
    have Br := Br9
    have Bp := Bp9
    have bel := bel9
    clear Br9 Bp9 bel9
    obtain ⟨kr0, kr1, -, -⟩ := id Br
    obtain ⟨kp0, kp1, -, -⟩ := id Bp
    obtain ⟨-, -, lr0, lr1⟩ := id Br
    go_wp2
    refine bodyPost_ret (v := .tuple #[.agg #[.int .u64 h, .int .u64 T], .int .i64 F, .bool true]) (by simp [results, Tryz.results124, go_sem, kr0, kr1, kp0, kp1, lr0, lr1]) rfl ⟨rfl, ((bel.setCell (by simp) _).setCell (by simp) _)⟩
theorem aai_impl (fm x y : Int) (u : Value) (w : World) (hE : E3 u w) (x0 : 0 ≤ x) (x1 : x < 18446744073709551616) (y0 : 0 ≤ y) (y1 : y < 18446744073709551616) (H T F : Int) (O : Bool) (hH : H = aaB fm x y) (hT : T = aaT fm x y) (hF : F = aaF fm x y) (hO : O = muO fm 5 x y) :
    Calls Tryz.prog 39 #[.int .i64 fm, .int .u64 x, .int .u64 y] w fun r w' => r = .returned (.tuple #[.agg #[.int .u64 H, .int .u64 T], .int .i64 F, .bool O]) ∧ Below w.heap.size w w' := by
  have CF := hid (fun w' k k' => fok_impl fm 5 (some ⟨w.heap.size + 1, 0, none⟩) 2 [x, y] w' k k' (d64_2 x0 x1 y0 y1) (by simp))
  cases ho : muO fm 5 x y
  · have ho' : (modeB 5 && allB fm [x, y]) = false := ho
    rw [ho'] at CF
    have g1 : H = 0 := by rw [hH]; unfold aaB; rw [ho]; rfl
    have g2 : T = 0 := by rw [hT]; unfold aaT; rw [ho]; rfl
    have g3 : F = 0 := by rw [hF]; unfold aaF; rw [ho]; rfl
    rw [g1, g2, g3, hO, ho]
    clear g1 g2 g3 hH hT hF hO ho ho' x0 x1 y0 y1
    have bel := Below.refl w.heap.size w
    go_enter Tryz.func39, Tryz.ntmps39
    replace hE := hE.below (al_b _ (.cells #[.int .u64 0, .int .u64 0] 54))
    replace bel := bel_al bel (.cells #[.int .u64 0, .int .u64 0] 54)
    have Br := R2.new w (.int .u64 0) (.int .u64 0) 54
    have s2 := sl64_2 (w.alloc (.cells #[.int .u64 0, .int .u64 0] 54)) x y 24
    have hsz : (w.alloc (.cells #[.int .u64 0, .int .u64 0] 54)).heap.size = w.heap.size + 1 := by simp
    rw [hsz] at s2
    clear hsz
    replace Br := Br.below (al_b _ (.cells #[.int .u64 x, .int .u64 y] 24))
    replace hE := hE.below (al_b _ (.cells #[.int .u64 x, .int .u64 y] 24))
    replace bel := bel_al bel (.cells #[.int .u64 x, .int .u64 y] 24)
    obtain ⟨kr0, kr1, -, -⟩ := id Br
    go_wp2_with fail
    refine (CF.out _ hE.t.s.f s2).mono ?_
    rintro r w1 ⟨rfl, hb⟩
    clear kr0 kr1
    replace bel := bel_go bel hb
    replace hE := hE.below hb
    replace Br := Br.below hb
    clear hb
    clear s2
    obtain ⟨kr0, kr1, -, -⟩ := id Br
    obtain ⟨-, -, lr0, lr1⟩ := id Br
    go_wp2
    refine bodyPost_ret (v := .tuple #[.agg #[.int .u64 0, .int .u64 0], .int .i64 0, .bool false]) (by simp [results, Tryz.results39, go_sem, kr0, kr1, lr0, lr1]) rfl ⟨rfl, ((bel.setCell (by simp) _).setCell (by simp) _)⟩
  · have ho' : (modeB 5 && allB fm [x, y]) = true := ho
    rw [ho'] at CF
    rw [hO, ho]
    obtain ⟨k1, k2, k3, k4⟩ := ad_head (mode := 5) x0 x1 y0 y1 ho
    have hx := (all2 (by have k := ho; unfold muO at k; simp only [Bool.and_eq_true] at k; exact k.2)).1
    have hy := (all2 (by have k := ho; unfold muO at k; simp only [Bool.and_eq_true] at k; exact k.2)).2
    have hfm := ok_fmt hx
    have hq := unq_bd fm
    have g1 : H = adB fm 5 x y := by rw [hH]; unfold aaB; rw [if_pos ho]
    have g2 : T = auT fm (adB fm 5 x y) (asX fm x y) := by rw [hT]; unfold aaT; rw [if_pos ho]
    have g3 : F = auF fm (adB fm 5 x y) (adF fm 5 x y) (asX fm x y) := by rw [hF]; unfold aaF; rw [if_pos ho]
    rw [← g1] at g2 g3 k1 k2 k3 k4
    obtain ⟨sg, inf, G, L, E, n, b, rb, rf, hp, hl, hd, hro, hB, hF0, hfn⟩ := tot_all fm 5 x y u x0 x1 y0 y1 ho
    rw [← g1] at hB
    have hz : finB fm H = true → inf = false ∧ ∃ z, G = Nm.wn z ∧ L = Nm.wl z ∧ asX fm x y = z * 2 ^ (E - 2 * unQ fm).toNat ∧ 2 * unQ fm ≤ E ∧ E ≤ 4000 ∧ bitLen z.natAbs + (E - 2 * unQ fm).toNat ≤ 6300 := fun k => by
      have ⟨n0, i0⟩ := fin_td hfm n inf (decide (L.length = 0)) sg rb (by rw [← hB]; exact k)
      obtain ⟨-, -, z, q1, q2, q3, q4, q5⟩ := hfn ⟨n0, i0⟩
      have e1 : asX fm x y = z * 2 ^ (E - 2 * unQ fm).toNat := by unfold asX; rw [q3, Int.mul_assoc, ← Int.pow_add, show (E - unQ fm).toNat + (-unQ fm).toNat = (E - 2 * unQ fm).toNat by omega]
      exact ⟨i0, z, q1, q2, e1, by omega, by omega, bz_of e1 (by have := asX_bl fm x y; omega) (by omega)⟩
    have CP := hid hp
    have CG := hid (fun a c ev hk w' k k' => aug_x fm hfm sg inf G L E a c u ev n b hk w' k k' hd hl rb rf hro H (adF fm 5 x y) (asX fm x y) T F hB hF0 k1 k2 k3 hz g2 g3)
    clear hH hT hF hO ho ho' k1 k2 k3 k4 hx hy hfm hq g1 g2 g3 hp hl hd hro hB hF0 hz hfn x0 x1 y0 y1
    have bel := Below.refl w.heap.size w
    go_enter Tryz.func39, Tryz.ntmps39
    replace hE := hE.below (al_b _ (.cells #[.int .u64 0, .int .u64 0] 54))
    replace bel := bel_al bel (.cells #[.int .u64 0, .int .u64 0] 54)
    have Br := R2.new w (.int .u64 0) (.int .u64 0) 54
    have s2 := sl64_2 (w.alloc (.cells #[.int .u64 0, .int .u64 0] 54)) x y 24
    have hsz : (w.alloc (.cells #[.int .u64 0, .int .u64 0] 54)).heap.size = w.heap.size + 1 := by simp
    rw [hsz] at s2
    clear hsz
    replace Br := Br.below (al_b _ (.cells #[.int .u64 x, .int .u64 y] 24))
    replace hE := hE.below (al_b _ (.cells #[.int .u64 x, .int .u64 y] 24))
    replace bel := bel_al bel (.cells #[.int .u64 x, .int .u64 y] 24)
    obtain ⟨kr0, kr1, -, -⟩ := id Br
    go_wp2_with fail
    refine (CF.out _ hE.t.s.f s2).mono ?_
    rintro r w1 ⟨rfl, hb⟩
    clear kr0 kr1
    replace bel := bel_go bel hb
    replace hE := hE.below hb
    replace Br := Br.below hb
    clear hb
    clear s2
    obtain ⟨kr0, kr1, -, -⟩ := id Br
    go_wp2_with fail
    refine (CP.out _ hE.ee).mono ?_
    rintro r w2 ⟨a2, c2, ev, rfl, kv, o2, hb⟩
    clear kr0 kr1
    replace bel := bel_go bel hb
    replace hE := hE.below hb
    replace Br := Br.below hb
    clear hb
    have s2 := o2.sl
    clear o2
    replace hE := hE.below (al_b _ (.cells #[.bool sg, .bool inf, .bool G, .slice a2 L.length c2, .int .i64 E] 99))
    replace Br := Br.below (al_b _ (.cells #[.bool sg, .bool inf, .bool G, .slice a2 L.length c2, .int .i64 E] 99))
    replace s2 := s2.below (al_b _ (.cells #[.bool sg, .bool inf, .bool G, .slice a2 L.length c2, .int .i64 E] 99))
    replace bel := bel_al bel (.cells #[.bool sg, .bool inf, .bool G, .slice a2 L.length c2, .int .i64 E] 99)
    have Bx := Q5.new w2 (.bool sg) (.bool inf) (.bool G) (.slice a2 L.length c2) (.int .i64 E) 99
    obtain ⟨kr0, kr1, -, -⟩ := id Br
    obtain ⟨kx0, kx1, kx2, kx3, kx4, -, -, -, -, -⟩ := id Bx
    go_wp2_with fail
    refine (CG.out a2 c2 ev kv _ hE s2).mono ?_
    rintro r w3 ⟨rfl, hb⟩
    clear kr0 kr1 kx0 kx1 kx2 kx3 kx4
    replace bel := bel_go bel hb
    replace hE := hE.below hb
    replace Br := Br.below hb
    replace s2 := s2.below hb
    replace Bx := Bx.below hb
    clear hb
    obtain ⟨kr0, kr1, -, -⟩ := id Br
    obtain ⟨kx0, kx1, kx2, kx3, kx4, -, -, -, -, -⟩ := id Bx
    obtain ⟨-, -, lr0, lr1⟩ := id Br
    go_wp2
    refine bodyPost_ret (v := .tuple #[.agg #[.int .u64 H, .int .u64 T], .int .i64 F, .bool true]) (by simp [results, Tryz.results39, go_sem, kr0, kr1, kx0, kx1, kx2, kx3, kx4, lr0, lr1]) rfl ⟨rfl, ((bel.setCell (by simp) _).setCell (by simp) _)⟩
theorem asi_impl (fm x y : Int) (u : Value) (w : World) (hE : E3 u w) (x0 : 0 ≤ x) (x1 : x < 18446744073709551616) (y0 : 0 ≤ y) (y1 : y < 18446744073709551616) (H T F : Int) (O : Bool) (hH : H = asB fm x y) (hT : T = asT fm x y) (hF : F = asF fm x y) (hO : O = asO fm x y) :
    Calls Tryz.prog 42 #[.int .i64 fm, .int .u64 x, .int .u64 y] w fun r w' => r = .returned (.tuple #[.agg #[.int .u64 H, .int .u64 T], .int .i64 F, .bool O]) ∧ Below w.heap.size w w' := by
  have CK := hid (fun w' k => impl_ok fm y w' k y0 y1)
  cases hy : okF fm y
  · rw [hy] at CK
    have g1 : H = 0 := by rw [hH]; unfold asB; rw [hy]; rfl
    have g2 : T = 0 := by rw [hT]; unfold asT; rw [hy]; rfl
    have g3 : F = 0 := by rw [hF]; unfold asF; rw [hy]; rfl
    have g4 : O = false := by rw [hO]; unfold asO; rw [hy]; rfl
    rw [g1, g2, g3, g4]
    clear g1 g2 g3 g4 hH hT hF hO hy
    have bel := Below.refl w.heap.size w
    go_enter Tryz.func42, Tryz.ntmps42
    replace hE := hE.below (al_b _ (.cells #[.int .u64 0, .int .u64 0] 54))
    replace bel := bel_al bel (.cells #[.int .u64 0, .int .u64 0] 54)
    have Br := R2.new w (.int .u64 0) (.int .u64 0) 54
    obtain ⟨kr0, kr1, -, -⟩ := id Br
    go_wp2_with fail
    refine (CK.out _ hE.t.s.f).mono ?_
    rintro r w1 ⟨rfl, hb⟩
    clear kr0 kr1
    replace bel := bel_go bel hb
    replace hE := hE.below hb
    replace Br := Br.below hb
    clear hb
    obtain ⟨kr0, kr1, -, -⟩ := id Br
    obtain ⟨-, -, lr0, lr1⟩ := id Br
    go_wp2
    refine bodyPost_ret (v := .tuple #[.agg #[.int .u64 0, .int .u64 0], .int .i64 0, .bool false]) (by simp [results, Tryz.results42, go_sem, kr0, kr1, lr0, lr1]) rfl ⟨rfl, ((bel.setCell (by simp) _).setCell (by simp) _)⟩
  · rw [hy] at CK
    obtain ⟨n1, n2, n3⟩ := neg_ok hy y0 y1
    have g1 : H = aaB fm x (negF fm y) := by rw [hH]; unfold asB; rw [if_pos hy]
    have g2 : T = aaT fm x (negF fm y) := by rw [hT]; unfold asT; rw [if_pos hy]
    have g3 : F = aaF fm x (negF fm y) := by rw [hF]; unfold asF; rw [if_pos hy]
    have g4 : O = muO fm 5 x (negF fm y) := by rw [hO]; unfold asO; rw [hy]; rfl
    have CG := hid (fun w' k => neg_i fm y w' k hy y0 y1)
    have CA := hid (fun w' k => aai_impl fm x (negF fm y) u w' k x0 x1 n2 n3 H T F O g1 g2 g3 g4)
    obtain ⟨ny, h_ny⟩ : ∃ q, q = negF fm y := ⟨_, rfl⟩
    rw [← h_ny] at CG CA
    clear g1 g2 g3 g4 hH hT hF hO hy n1 n2 n3 h_ny
    have bel := Below.refl w.heap.size w
    go_enter Tryz.func42, Tryz.ntmps42
    replace hE := hE.below (al_b _ (.cells #[.int .u64 0, .int .u64 0] 54))
    replace bel := bel_al bel (.cells #[.int .u64 0, .int .u64 0] 54)
    have Br := R2.new w (.int .u64 0) (.int .u64 0) 54
    obtain ⟨kr0, kr1, -, -⟩ := id Br
    go_wp2_with fail
    refine (CK.out _ hE.t.s.f).mono ?_
    rintro r w1 ⟨rfl, hb⟩
    clear kr0 kr1
    replace bel := bel_go bel hb
    replace hE := hE.below hb
    replace Br := Br.below hb
    clear hb
    obtain ⟨kr0, kr1, -, -⟩ := id Br
    go_wp2_with fail
    refine (CG.out _ hE.t.s.f).mono ?_
    rintro r w2 ⟨rfl, hb⟩
    clear kr0 kr1
    replace bel := bel_go bel hb
    replace hE := hE.below hb
    replace Br := Br.below hb
    clear hb
    obtain ⟨kr0, kr1, -, -⟩ := id Br
    go_wp2_with fail
    refine (CA.out _ hE).mono ?_
    rintro r w3 ⟨rfl, hb⟩
    clear kr0 kr1
    replace bel := bel_go bel hb
    replace hE := hE.below hb
    replace Br := Br.below hb
    clear hb
    obtain ⟨kr0, kr1, -, -⟩ := id Br
    obtain ⟨-, -, lr0, lr1⟩ := id Br
    go_wp2
    refine bodyPost_ret (v := .tuple #[.agg #[.int .u64 H, .int .u64 T], .int .i64 F, .bool O]) (by simp [results, Tryz.results42, go_sem, kr0, kr1, lr0, lr1]) rfl ⟨rfl, ((bel.setCell (by simp) _).setCell (by simp) _)⟩
namespace Fd
theorem fin_of_cls {fm h : Int} (ok : okF fm h = true) (hc : cls fm h ≤ 2) : finB fm h = true := by
  cases hn : nanB fm h
  · rcases nan_cases ok hn with hf | hi
    · exact hf
    · have : cls fm h = 3 := by simpa [nI] using hi
      omega
  · rw [nan_ofE ok] at hn; simp at hn; omega
def DrA (w w' : World) (e : Ending) : Prop := ∃ fm a b : Int, e = .returned (.tuple #[.int .i64 fm, .int .u64 a, .int .u64 b]) ∧ 0 ≤ a ∧ a < 18446744073709551616 ∧ 0 ≤ b ∧ b < 18446744073709551616 ∧ Below w.heap.size w w'
theorem drawAA_x (ca : Option Addr) (cc : Nat) (cs : List Int) (w : World) (hs : Sl .u8 w (.slice ca cs.length cc) cs) (hby : ∀ i, 0 ≤ cs.getD i 0 ∧ cs.getD i 0 ≤ 255) (hl : cs.length ≤ 1048576) :
    Calls Tryz.prog 45 #[.slice ca cs.length cc] w fun e w' => DrA w w' e := by
  have CD := hid (drawAdd_x ca cc cs w hs hby hl)
  clear hs hby hl
  go_enter Tryz.func45, Tryz.ntmps45
  go_wp2_with fail
  refine CD.out.mono ?_
  rintro r w1 ⟨fm, mode, a, b, rfl, a0, a1, b0, b1, bel⟩
  go_wp2
  go_ret3
  exact ⟨fm, a, b, rfl, a0, a1, b0, b1, bel⟩
end Fd
end Go.Proofs.YtmcflggionkhlaaGreatDoor
