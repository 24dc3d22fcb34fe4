/-
  What is needed of AX.
-/
import Derived.Test.YtmcflggionkhlaaGreatDoorF43
set_option maxHeartbeats 16000000
set_option maxRecDepth 1000000
namespace Go.Proofs.YtmcflggionkhlaaGreatDoor
set_option linter.unusedVariables false
set_option linter.unusedSimpArgs false
open Go.RowKit Go.Deep
theorem wv_neg (g : Bool) (zs : List Int) : Nm.wv (!g) zs = -Nm.wv g zs := by unfold Nm.wv; cases g <;> simp
/-- What a head lacks, by the specification. -/
theorem l6r (fm h f z E X : Int) (p : Option Addr) (c : Nat) (w : World) (hs : Sl .u32 w (.slice p (Nm.wl z).length c) (Nm.wl z)) (hfm : fmtB fm = true) (ho : okF fm h = true) (h0 : 0 ≤ h) (h1 : h < 18446744073709551616) (hz : finB fm h = true → X = z * 2 ^ (E - 2 * unQ fm).toNat ∧ 2 * unQ fm ≤ E ∧ E ≤ 5000 ∧ bitLen z.natAbs ≤ 6300 ∧ bitLen X.natAbs ≤ 6300) (B F : Int) (hB : B = auT fm h X) (hF : F = auF fm h f X) :
    Calls Tryz.prog 123 #[.int .i64 fm, .int .u64 h, .int .i64 f, .agg #[.bool (Nm.wn z), .slice p (Nm.wl z).length c], .int .i64 E] w fun r w' => r = .returned (.tuple #[.agg #[.int .u64 h, .int .u64 B], .int .i64 F, .bool true]) ∧ Below w.heap.size w w' := by
  have CF := hid (fun w' => spec_fin fm h w' h0 h1)
  cases fh : finB fm h
  · rw [fh] at CF
    have hB2 : B = h := by rw [hB]; unfold auT; rw [fh]; rfl
    have hF2 : F = f := by rw [hF]; unfold auF; rw [fh]; rfl
    rw [hB2, hF2]
    obtain ⟨gz, h_gz⟩ : ∃ q, q = Nm.wn z := ⟨_, rfl⟩
    obtain ⟨Z, h_Z⟩ : ∃ q, q = Nm.wl z := ⟨_, rfl⟩
    rw [← h_gz, ← h_Z]
    rw [← h_Z] at hs
    clear hB hF hB2 hF2 hz h_gz h_Z fh ho hfm h0 h1
    have bel := Below.refl w.heap.size w
    go_enter Tryz.func123, Tryz.ntmps123
    replace bel := bel_al bel (.cells #[.bool gz, .slice p Z.length c] 31)
    have Bw := R2.new w (.bool gz) (.slice p Z.length c) 31
    replace Bw := Bw.below (al_b _ (.cells #[.int .u64 0, .int .u64 0] 54))
    replace bel := bel_al bel (.cells #[.int .u64 0, .int .u64 0] 54)
    have Br := R2.new (w.alloc (.cells #[.bool gz, .slice p Z.length c] 31)) (.int .u64 0) (.int .u64 0) 54
    have hsz : (w.alloc (.cells #[.bool gz, .slice p Z.length c] 31)).heap.size = w.heap.size + 1 := by simp
    rw [hsz] at Br
    clear hsz
    obtain ⟨kw0, kw1, -, -⟩ := id Bw
    obtain ⟨kr0, kr1, -, -⟩ := id Br
    go_wp2_with fail
    refine (CF.out _).mono ?_
    rintro r w1 ⟨rfl, hb⟩
    clear kw0 kw1 kr0 kr1
    replace bel := bel_go bel hb
    replace Bw := Bw.below hb
    replace Br := Br.below hb
    clear hb
    obtain ⟨kw0, kw1, -, -⟩ := id Bw
    obtain ⟨kr0, kr1, -, -⟩ := id Br
    obtain ⟨-, -, lr0, lr1⟩ := id Br
    go_wp2
    refine bodyPost_ret (v := .tuple #[.agg #[.int .u64 h, .int .u64 h], .int .i64 f, .bool true]) (by simp [results, Tryz.results123, go_sem, kw0, kw1, kr0, kr1, lr0, lr1]) rfl ⟨rfl, ((bel.setCell (by simp) _).setCell (by simp) _)⟩
  · rw [fh] at CF
    obtain ⟨hX, e0, e1, bz, bX⟩ := hz fh
    have hq := unq_bd fm
    have bu := un_blA fm h
    have CQ := hid (fun w' => sQb fm w' hfm)
    have CU := hid (fun w' => l2units_any fm h w' fh h0 h1)
    have lz : (Nm.wl z).length ≤ 200 := by unfold Nm.wl; exact lim_len (k := 200) (by omega)
    have CSh1 := hid (fun a c w' h' => l1shift_any (Nm.wn z) a c (Nm.wl z) (E - 2 * unQ fm) w' h' (Nm.wl_dg _) (by omega) (by omega) (by omega) X (by rw [hX]; exact (shz _ _ (by omega)).symm))
    have CSh2 := hid (fun a c w' h' => l1shift_any (Nm.wn (unI fm h)) a c (Nm.wl (unI fm h)) (-unQ fm) w' h' (Nm.wl_dg _) (by have := un_lenA fm h; omega) (by omega) (by omega) (unI fm h * 2 ^ (-unQ fm).toNat) (shz _ _ (by omega)).symm)
    have b2 := bl_mulp (unI fm h) (-unQ fm).toNat
    have l2 : (Nm.wl (unI fm h * 2 ^ (-unQ fm).toNat)).length ≤ 200 := by unfold Nm.wl; exact lim_len (k := 200) (by omega)
    have l3 : (Nm.wl (-(unI fm h * 2 ^ (-unQ fm).toNat))).length ≤ 200 := by unfold Nm.wl; rw [Int.natAbs_neg]; exact l2
    have lX : (Nm.wl X).length ≤ 200 := by unfold Nm.wl; exact lim_len (k := 200) (by omega)
    have CN := hid (fun a c w' h' => l1neg_v (Nm.wn (unI fm h * 2 ^ (-unQ fm).toNat)) a c (Nm.wl (unI fm h * 2 ^ (-unQ fm).toNat)) w' h' (Nm.wl_dg _) (by omega) (-(unI fm h * 2 ^ (-unQ fm).toNat)) (by rw [wv_neg, Nm.wv_out]))
    have CA := hid (fun a c b d w' h' h'' => l1add_any (Nm.wn X) (Nm.wn (-(unI fm h * 2 ^ (-unQ fm).toNat))) a b c d (Nm.wl X) (Nm.wl (-(unI fm h * 2 ^ (-unQ fm).toNat))) w' h' h'' (Nm.wl_dg _) (Nm.wl_dg _) (Nm.wl_nz _) (Nm.wl_nz _) (by omega) (by omega) (auR fm h X) (by rw [Nm.wv_out, Nm.wv_out]; unfold auR; omega))
    have CS := hid (fun w' => spec_l2neg fm h w' ho h0 h1)
    have CW := hid (fun w' => with_s fm 0 (sigB fm h) w' hfm (by decide) (.inl (by decide)))
    have lR := auR_len (fm := fm) (h := h) (X := X) bX
    have CR := hid (fun (hr : auR fm h X ≠ 0) p c w' h' => l3r_any fm 5 (auR fm h X) (2 * unQ fm) p c w' h' hr (rdo_any hfm (by decide) lR (by omega) (by omega)))
    have hw1 : IntKind.i64.wrap (2 * unQ fm) = 2 * unQ fm := by rw [IntKind.wrap_i64]; omega
    have hw2 : IntKind.i64.wrap (E - 2 * unQ fm) = E - 2 * unQ fm := by rw [IntKind.wrap_i64]; omega
    have hw3 : IntKind.i64.wrap (-unQ fm) = -unQ fm := by rw [IntKind.wrap_i64]; omega
    have hw4 : wrap64 (2 * unQ fm) = 2 * unQ fm := by unfold wrap64; omega
    have hw5 : wrap64 (E - 2 * unQ fm) = E - 2 * unQ fm := by unfold wrap64; omega
    have hw6 : wrap64 (-unQ fm) = -unQ fm := by unfold wrap64; omega
    clear hX e0 e1 bz bX bu b2 l2 l3 lX hz
    by_cases hr : auR fm h X = 0
    · have hB2 : B = sgn (sgOf fm) 0 (sigB fm h) := by rw [hB]; unfold auT; rw [if_pos fh, if_pos hr]
      have hF2 : F = 0 := by rw [hF]; unfold auF; rw [if_pos fh, if_pos hr]
      rw [← hB2] at CW
      rw [hF2]
      have hw0 : Nm.wl 0 = [] := Nm.lim_zero
      have hn0 : Nm.wn 0 = false := by decide
      rw [hr, hw0, hn0] at CA
      clear hw0 hn0 hB2 hF2 CR lR
      obtain ⟨s9, h_s9⟩ : ∃ q, q = sigB fm h := ⟨_, rfl⟩
      rw [← h_s9] at CS CW
      clear h_s9
      obtain ⟨q, h_q⟩ : ∃ q, q = unQ fm := ⟨_, rfl⟩
      obtain ⟨gz, h_gz⟩ : ∃ q, q = Nm.wn z := ⟨_, rfl⟩
      obtain ⟨Z, h_Z⟩ : ∃ q, q = Nm.wl z := ⟨_, rfl⟩
      obtain ⟨gu, h_gu⟩ : ∃ q, q = Nm.wn (unI fm h) := ⟨_, rfl⟩
      obtain ⟨Lu, h_Lu⟩ : ∃ q, q = Nm.wl (unI fm h) := ⟨_, rfl⟩
      obtain ⟨gx, h_gx⟩ : ∃ q, q = Nm.wn X := ⟨_, rfl⟩
      obtain ⟨LX, h_LX⟩ : ∃ q, q = Nm.wl X := ⟨_, rfl⟩
      obtain ⟨g2, h_g2⟩ : ∃ q, q = Nm.wn (unI fm h * 2 ^ (-unQ fm).toNat) := ⟨_, rfl⟩
      obtain ⟨L2, h_L2⟩ : ∃ q, q = Nm.wl (unI fm h * 2 ^ (-unQ fm).toNat) := ⟨_, rfl⟩
      obtain ⟨g3, h_g3⟩ : ∃ q, q = Nm.wn (-(unI fm h * 2 ^ (-unQ fm).toNat)) := ⟨_, rfl⟩
      obtain ⟨L3, h_L3⟩ : ∃ q, q = Nm.wl (-(unI fm h * 2 ^ (-unQ fm).toNat)) := ⟨_, rfl⟩
      rw [← h_gz, ← h_Z]
      rw [← h_Z] at hs
      rw [← h_gz, ← h_Z, ← h_gx, ← h_LX, ← h_q] at CSh1
      rw [← h_gu, ← h_Lu, ← h_g2, ← h_L2, ← h_q] at CSh2
      rw [← h_gu, ← h_Lu] at CU
      rw [← h_g2, ← h_L2, ← h_g3, ← h_L3] at CN
      rw [← h_gx, ← h_LX, ← h_g3, ← h_L3] at CA
      rw [← h_q] at CQ hw1 hw2 hw3 hw4 hw5 hw6
      clear hB hF hr h_q h_gz h_Z h_gu h_Lu h_gx h_LX h_g2 h_L2 h_g3 h_L3 hq fh ho hfm h0 h1
      have bel := Below.refl w.heap.size w
      go_enter Tryz.func123, Tryz.ntmps123
      replace hs := hs.below (al_b _ (.cells #[.bool gz, .slice p Z.length c] 31))
      replace bel := bel_al bel (.cells #[.bool gz, .slice p Z.length c] 31)
      have Bw := R2.new w (.bool gz) (.slice p Z.length c) 31
      replace hs := hs.below (al_b _ (.cells #[.int .u64 0, .int .u64 0] 54))
      replace Bw := Bw.below (al_b _ (.cells #[.int .u64 0, .int .u64 0] 54))
      replace bel := bel_al bel (.cells #[.int .u64 0, .int .u64 0] 54)
      have Br := R2.new (w.alloc (.cells #[.bool gz, .slice p Z.length c] 31)) (.int .u64 0) (.int .u64 0) 54
      have hsz : (w.alloc (.cells #[.bool gz, .slice p Z.length c] 31)).heap.size = w.heap.size + 1 := by simp
      rw [hsz] at Br
      clear hsz
      obtain ⟨kw0, kw1, -, -⟩ := id Bw
      obtain ⟨kr0, kr1, -, -⟩ := id Br
      go_wp2_with fail
      refine (CF.out _).mono ?_
      rintro r w1 ⟨rfl, hb⟩
      clear kw0 kw1 kr0 kr1
      replace bel := bel_go bel hb
      replace hs := hs.below hb
      replace Bw := Bw.below hb
      replace Br := Br.below hb
      clear hb
      obtain ⟨kw0, kw1, -, -⟩ := id Bw
      obtain ⟨kr0, kr1, -, -⟩ := id Br
      go_wp2_with fail
      refine (CQ.out _).mono ?_
      rintro r w2 ⟨rfl, hb⟩
      clear kw0 kw1 kr0 kr1
      replace bel := bel_go bel hb
      replace hs := hs.below hb
      replace Bw := Bw.below hb
      replace Br := Br.below hb
      clear hb
      obtain ⟨kw0, kw1, -, -⟩ := id Bw
      obtain ⟨kr0, kr1, -, -⟩ := id Br
      go_wp2_with fail
      refine (CSh1.out p c _ hs).mono ?_
      rintro r w3 ⟨a1, c1, rfl, o1, hb⟩
      clear kw0 kw1 kr0 kr1
      replace bel := bel_go bel hb
      replace hs := hs.below hb
      replace Bw := Bw.below hb
      replace Br := Br.below hb
      clear hb
      have s1 := o1.sl
      clear o1
      obtain ⟨kw0, kw1, -, -⟩ := id Bw
      obtain ⟨kr0, kr1, -, -⟩ := id Br
      go_wp2_with fail
      refine (CU.out _).mono ?_
      rintro r w4 ⟨au, cu, rfl, ou, hb⟩
      clear kw0 kw1 kr0 kr1
      replace bel := bel_go bel hb
      replace hs := hs.below hb
      replace Bw := Bw.below hb
      replace Br := Br.below hb
      replace s1 := s1.below hb
      clear hb
      have su := ou.sl
      clear ou
      obtain ⟨kw0, kw1, -, -⟩ := id Bw
      obtain ⟨kr0, kr1, -, -⟩ := id Br
      go_wp2_with fail
      refine (CSh2.out au cu _ su).mono ?_
      rintro r w5 ⟨a2, c2, rfl, o2, hb⟩
      clear kw0 kw1 kr0 kr1
      replace bel := bel_go bel hb
      replace hs := hs.below hb
      replace Bw := Bw.below hb
      replace Br := Br.below hb
      replace s1 := s1.below hb
      replace su := su.below hb
      clear hb
      have s2 := o2.sl
      clear o2
      obtain ⟨kw0, kw1, -, -⟩ := id Bw
      obtain ⟨kr0, kr1, -, -⟩ := id Br
      go_wp2_with fail
      refine (CN.out a2 c2 _ s2).mono ?_
      rintro r w6 ⟨a3, c3, rfl, o3, hb⟩
      clear kw0 kw1 kr0 kr1
      replace bel := bel_go bel hb
      replace hs := hs.below hb
      replace Bw := Bw.below hb
      replace Br := Br.below hb
      replace s1 := s1.below hb
      replace su := su.below hb
      replace s2 := s2.below hb
      clear hb
      have s3 := o3.sl
      clear o3
      obtain ⟨kw0, kw1, -, -⟩ := id Bw
      obtain ⟨kr0, kr1, -, -⟩ := id Br
      go_wp2_with fail
      refine (CA.out a1 c1 a3 c3 _ s1 s3).mono ?_
      rintro r w7 ⟨a6, c6, rfl, o6, hb⟩
      clear kw0 kw1 kr0 kr1
      replace bel := bel_go bel hb
      replace hs := hs.below hb
      replace Bw := Bw.below hb
      replace Br := Br.below hb
      replace s1 := s1.below hb
      replace su := su.below hb
      replace s2 := s2.below hb
      replace s3 := s3.below hb
      clear hb
      have s6 := o6.sl
      clear o6
      replace hs := hs.below (al_b _ (.cells #[.bool false, .slice a6 0 c6] 31))
      replace Bw := Bw.below (al_b _ (.cells #[.bool false, .slice a6 0 c6] 31))
      replace Br := Br.below (al_b _ (.cells #[.bool false, .slice a6 0 c6] 31))
      replace s1 := s1.below (al_b _ (.cells #[.bool false, .slice a6 0 c6] 31))
      replace su := su.below (al_b _ (.cells #[.bool false, .slice a6 0 c6] 31))
      replace s2 := s2.below (al_b _ (.cells #[.bool false, .slice a6 0 c6] 31))
      replace s3 := s3.below (al_b _ (.cells #[.bool false, .slice a6 0 c6] 31))
      replace s6 := s6.below (al_b _ (.cells #[.bool false, .slice a6 0 c6] 31))
      replace bel := bel_al bel (.cells #[.bool false, .slice a6 0 c6] 31)
      have Bs := R2.new w7 (.bool false) (.slice a6 0 c6) 31
      obtain ⟨kw0, kw1, -, -⟩ := id Bw
      obtain ⟨kr0, kr1, -, -⟩ := id Br
      obtain ⟨ks0, ks1, -, -⟩ := id Bs
      go_wp2_with fail
      refine (CS.out _).mono ?_
      rintro r w8 ⟨rfl, hb⟩
      clear kw0 kw1 kr0 kr1 ks0 ks1
      replace bel := bel_go bel hb
      replace hs := hs.below hb
      replace Bw := Bw.below hb
      replace Br := Br.below hb
      replace s1 := s1.below hb
      replace su := su.below hb
      replace s2 := s2.below hb
      replace s3 := s3.below hb
      replace s6 := s6.below hb
      replace Bs := Bs.below hb
      clear hb
      obtain ⟨kw0, kw1, -, -⟩ := id Bw
      obtain ⟨kr0, kr1, -, -⟩ := id Br
      obtain ⟨ks0, ks1, -, -⟩ := id Bs
      go_wp2_with fail
      refine (CW.out _).mono ?_
      rintro r w9 ⟨rfl, hb⟩
      clear kw0 kw1 kr0 kr1 ks0 ks1
      replace bel := bel_go bel hb
      replace hs := hs.below hb
      replace Bw := Bw.below hb
      replace Br := Br.below hb
      replace s1 := s1.below hb
      replace su := su.below hb
      replace s2 := s2.below hb
      replace s3 := s3.below hb
      replace s6 := s6.below hb
      replace Bs := Bs.below hb
      clear hb
      obtain ⟨kw0, kw1, -, -⟩ := id Bw
      obtain ⟨kr0, kr1, -, -⟩ := id Br
      obtain ⟨ks0, ks1, -, -⟩ := id Bs
      obtain ⟨-, -, lr0, lr1⟩ := id Br
      go_wp2
      refine bodyPost_ret (v := .tuple #[.agg #[.int .u64 h, .int .u64 B], .int .i64 0, .bool true]) (by simp [results, Tryz.results123, go_sem, kw0, kw1, kr0, kr1, ks0, ks1, lr0, lr1]) rfl ⟨rfl, ((bel.setCell (by simp) _).setCell (by simp) _)⟩
    · have hB2 : B = RdB fm 5 (Nm.wn (auR fm h X)) (Nm.wl (auR fm h X)) (2 * unQ fm) := by rw [hB]; unfold auT; rw [if_pos fh, if_neg hr]
      have hF2 : F = RdF fm 5 (Nm.wn (auR fm h X)) (Nm.wl (auR fm h X)) (2 * unQ fm) := by rw [hF]; unfold auF; rw [if_pos fh, if_neg hr]
      have CR := hid (CR.out hr)
      simp only [← hB2, ← hF2] at CR
      have hb0 : (((Nm.wl (auR fm h X)).length : Int) == 0) = false := by
        have : (Nm.wl (auR fm h X)).length ≠ 0 := by unfold Nm.wl; rw [Ne, Nm.lim_length_zero]; omega
        rw [beq_eq_false_iff_ne]; omega
      clear hB2 hF2 CS CW
      obtain ⟨q, h_q⟩ : ∃ q, q = unQ fm := ⟨_, rfl⟩
      obtain ⟨gz, h_gz⟩ : ∃ q, q = Nm.wn z := ⟨_, rfl⟩
      obtain ⟨Z, h_Z⟩ : ∃ q, q = Nm.wl z := ⟨_, rfl⟩
      obtain ⟨gu, h_gu⟩ : ∃ q, q = Nm.wn (unI fm h) := ⟨_, rfl⟩
      obtain ⟨Lu, h_Lu⟩ : ∃ q, q = Nm.wl (unI fm h) := ⟨_, rfl⟩
      obtain ⟨gx, h_gx⟩ : ∃ q, q = Nm.wn X := ⟨_, rfl⟩
      obtain ⟨LX, h_LX⟩ : ∃ q, q = Nm.wl X := ⟨_, rfl⟩
      obtain ⟨g2, h_g2⟩ : ∃ q, q = Nm.wn (unI fm h * 2 ^ (-unQ fm).toNat) := ⟨_, rfl⟩
      obtain ⟨L2, h_L2⟩ : ∃ q, q = Nm.wl (unI fm h * 2 ^ (-unQ fm).toNat) := ⟨_, rfl⟩
      obtain ⟨g3, h_g3⟩ : ∃ q, q = Nm.wn (-(unI fm h * 2 ^ (-unQ fm).toNat)) := ⟨_, rfl⟩
      obtain ⟨L3, h_L3⟩ : ∃ q, q = Nm.wl (-(unI fm h * 2 ^ (-unQ fm).toNat)) := ⟨_, rfl⟩
      obtain ⟨G, h_G⟩ : ∃ q, q = Nm.wn (auR fm h X) := ⟨_, rfl⟩
      obtain ⟨L, h_L⟩ : ∃ q, q = Nm.wl (auR fm h X) := ⟨_, rfl⟩
      rw [← h_gz, ← h_Z]
      rw [← h_Z] at hs
      rw [← h_gz, ← h_Z, ← h_gx, ← h_LX, ← h_q] at CSh1
      rw [← h_gu, ← h_Lu, ← h_g2, ← h_L2, ← h_q] at CSh2
      rw [← h_gu, ← h_Lu] at CU
      rw [← h_g2, ← h_L2, ← h_g3, ← h_L3] at CN
      rw [← h_gx, ← h_LX, ← h_g3, ← h_L3, ← h_G, ← h_L] at CA
      rw [← h_q] at CQ hw1 hw2 hw3 hw4 hw5 hw6
      rw [← h_G, ← h_L, ← h_q] at CR
      rw [← h_L] at hb0 lR
      clear hB hF hr h_q h_gz h_Z h_gu h_Lu h_gx h_LX h_g2 h_L2 h_g3 h_L3 hq fh ho hfm h0 h1 h_G h_L
      have bel := Below.refl w.heap.size w
      go_enter Tryz.func123, Tryz.ntmps123
      replace hs := hs.below (al_b _ (.cells #[.bool gz, .slice p Z.length c] 31))
      replace bel := bel_al bel (.cells #[.bool gz, .slice p Z.length c] 31)
      have Bw := R2.new w (.bool gz) (.slice p Z.length c) 31
      replace hs := hs.below (al_b _ (.cells #[.int .u64 0, .int .u64 0] 54))
      replace Bw := Bw.below (al_b _ (.cells #[.int .u64 0, .int .u64 0] 54))
      replace bel := bel_al bel (.cells #[.int .u64 0, .int .u64 0] 54)
      have Br := R2.new (w.alloc (.cells #[.bool gz, .slice p Z.length c] 31)) (.int .u64 0) (.int .u64 0) 54
      have hsz : (w.alloc (.cells #[.bool gz, .slice p Z.length c] 31)).heap.size = w.heap.size + 1 := by simp
      rw [hsz] at Br
      clear hsz
      obtain ⟨kw0, kw1, -, -⟩ := id Bw
      obtain ⟨kr0, kr1, -, -⟩ := id Br
      go_wp2_with fail
      refine (CF.out _).mono ?_
      rintro r w1 ⟨rfl, hb⟩
      clear kw0 kw1 kr0 kr1
      replace bel := bel_go bel hb
      replace hs := hs.below hb
      replace Bw := Bw.below hb
      replace Br := Br.below hb
      clear hb
      obtain ⟨kw0, kw1, -, -⟩ := id Bw
      obtain ⟨kr0, kr1, -, -⟩ := id Br
      go_wp2_with fail
      refine (CQ.out _).mono ?_
      rintro r w2 ⟨rfl, hb⟩
      clear kw0 kw1 kr0 kr1
      replace bel := bel_go bel hb
      replace hs := hs.below hb
      replace Bw := Bw.below hb
      replace Br := Br.below hb
      clear hb
      obtain ⟨kw0, kw1, -, -⟩ := id Bw
      obtain ⟨kr0, kr1, -, -⟩ := id Br
      go_wp2_with fail
      refine (CSh1.out p c _ hs).mono ?_
      rintro r w3 ⟨a1, c1, rfl, o1, hb⟩
      clear kw0 kw1 kr0 kr1
      replace bel := bel_go bel hb
      replace hs := hs.below hb
      replace Bw := Bw.below hb
      replace Br := Br.below hb
      clear hb
      have s1 := o1.sl
      clear o1
      obtain ⟨kw0, kw1, -, -⟩ := id Bw
      obtain ⟨kr0, kr1, -, -⟩ := id Br
      go_wp2_with fail
      refine (CU.out _).mono ?_
      rintro r w4 ⟨au, cu, rfl, ou, hb⟩
      clear kw0 kw1 kr0 kr1
      replace bel := bel_go bel hb
      replace hs := hs.below hb
      replace Bw := Bw.below hb
      replace Br := Br.below hb
      replace s1 := s1.below hb
      clear hb
      have su := ou.sl
      clear ou
      obtain ⟨kw0, kw1, -, -⟩ := id Bw
      obtain ⟨kr0, kr1, -, -⟩ := id Br
      go_wp2_with fail
      refine (CSh2.out au cu _ su).mono ?_
      rintro r w5 ⟨a2, c2, rfl, o2, hb⟩
      clear kw0 kw1 kr0 kr1
      replace bel := bel_go bel hb
      replace hs := hs.below hb
      replace Bw := Bw.below hb
      replace Br := Br.below hb
      replace s1 := s1.below hb
      replace su := su.below hb
      clear hb
      have s2 := o2.sl
      clear o2
      obtain ⟨kw0, kw1, -, -⟩ := id Bw
      obtain ⟨kr0, kr1, -, -⟩ := id Br
      go_wp2_with fail
      refine (CN.out a2 c2 _ s2).mono ?_
      rintro r w6 ⟨a3, c3, rfl, o3, hb⟩
      clear kw0 kw1 kr0 kr1
      replace bel := bel_go bel hb
      replace hs := hs.below hb
      replace Bw := Bw.below hb
      replace Br := Br.below hb
      replace s1 := s1.below hb
      replace su := su.below hb
      replace s2 := s2.below hb
      clear hb
      have s3 := o3.sl
      clear o3
      obtain ⟨kw0, kw1, -, -⟩ := id Bw
      obtain ⟨kr0, kr1, -, -⟩ := id Br
      go_wp2_with fail
      refine (CA.out a1 c1 a3 c3 _ s1 s3).mono ?_
      rintro r w7 ⟨a6, c6, rfl, o6, hb⟩
      clear kw0 kw1 kr0 kr1
      replace bel := bel_go bel hb
      replace hs := hs.below hb
      replace Bw := Bw.below hb
      replace Br := Br.below hb
      replace s1 := s1.below hb
      replace su := su.below hb
      replace s2 := s2.below hb
      replace s3 := s3.below hb
      clear hb
      have s6 := o6.sl
      clear o6
      replace hs := hs.below (al_b _ (.cells #[.bool G, .slice a6 L.length c6] 31))
      replace Bw := Bw.below (al_b _ (.cells #[.bool G, .slice a6 L.length c6] 31))
      replace Br := Br.below (al_b _ (.cells #[.bool G, .slice a6 L.length c6] 31))
      replace s1 := s1.below (al_b _ (.cells #[.bool G, .slice a6 L.length c6] 31))
      replace su := su.below (al_b _ (.cells #[.bool G, .slice a6 L.length c6] 31))
      replace s2 := s2.below (al_b _ (.cells #[.bool G, .slice a6 L.length c6] 31))
      replace s3 := s3.below (al_b _ (.cells #[.bool G, .slice a6 L.length c6] 31))
      replace s6 := s6.below (al_b _ (.cells #[.bool G, .slice a6 L.length c6] 31))
      replace bel := bel_al bel (.cells #[.bool G, .slice a6 L.length c6] 31)
      have Bs := R2.new w7 (.bool G) (.slice a6 L.length c6) 31
      obtain ⟨kw0, kw1, -, -⟩ := id Bw
      obtain ⟨kr0, kr1, -, -⟩ := id Br
      obtain ⟨ks0, ks1, -, -⟩ := id Bs
      go_wp2_with fail
      refine (CR.out a6 c6 _ s6).mono ?_
      rintro r w8 ⟨rfl, hb⟩
      clear kw0 kw1 kr0 kr1 ks0 ks1
      replace bel := bel_go bel hb
      replace hs := hs.below hb
      replace Bw := Bw.below hb
      replace Br := Br.below hb
      replace s1 := s1.below hb
      replace su := su.below hb
      replace s2 := s2.below hb
      replace s3 := s3.below hb
      replace s6 := s6.below hb
      replace Bs := Bs.below hb
      clear hb
      obtain ⟨kw0, kw1, -, -⟩ := id Bw
      obtain ⟨kr0, kr1, -, -⟩ := id Br
      obtain ⟨ks0, ks1, -, -⟩ := id Bs
      obtain ⟨-, -, lr0, lr1⟩ := id Br
      go_wp2
      refine bodyPost_ret (v := .tuple #[.agg #[.int .u64 h, .int .u64 B], .int .i64 F, .bool true]) (by simp [results, Tryz.results123, go_sem, kw0, kw1, kr0, kr1, ks0, ks1, lr0, lr1]) rfl ⟨rfl, ((bel.setCell (by simp) _).setCell (by simp) _)⟩
theorem rd_okF {fm mode z e : Int} (hO : RdO fm mode (Nm.wn z) (Nm.wl z) e = true) : okF fm (RdB fm mode (Nm.wn z) (Nm.wl z) e) = true := by
  have hfm : fmtB fm = true := by unfold RdO at hO; simp at hO; exact hO.1.1.1
  rcases fmt_cases hfm with rfl | rfl
  · obtain ⟨-, h1, -⟩ := Fd.ord_R32 mode z e hO
    unfold okF; simpa using h1
  · rfl
theorem nan_okF {fm : Int} (h : fmtB fm = true) : okF fm (nanOf fm) = true ∧ finB fm (nanOf fm) = false := by
  rcases fmt_cases h with rfl | rfl <;> decide +kernel
theorem own_keep2 {w : World} {B : Nat} {a : Option Addr} {c : Nat} {L : List Int} {b : Nat} (ho : Own w B a c L) (ap : L = [] ∨ ∀ g, a = some ⟨g, 0, none⟩ → g ≠ b) (u0 u1 : Value) :
    Sl .u32 ((w.setCell ⟨b, 0, none⟩ u0).setCell ⟨b, 1, none⟩ u1) (.slice a L.length c) L := by
  rcases ap with rfl | h
  · obtain ⟨a', cap, h1, h2, h3, -⟩ := ho.sl
    exact ⟨a', cap, h1, h2, h3, .inl rfl⟩
  · exact ((ho.setOther h u0).setOther h u1).sl
end Go.Proofs.YtmcflggionkhlaaGreatDoor
