/-
  What is needed of AX.
-/
import Derived.Test.YtmcflggionkhlaaGreatDoorH44
import Derived.Test.YtmcflggionkhlaaGreatDoorH45
set_option maxHeartbeats 16000000
set_option maxRecDepth 1000000
namespace Go.Proofs.YtmcflggionkhlaaGreatDoor
set_option linter.unusedVariables false
set_option linter.unusedSimpArgs false
open Go.RowKit Go.Deep
theorem wv_neg (g : Bool) (zs : List Int) : Nm.wv (!g) zs = -Nm.wv g zs := by unfold Nm.wv; cases g <;> simp
/-- What a head lacks, by the specification. -/
theorem l6r (fm h f z E X : Int) (p : Option Addr) (c : Nat) (w : World) (hs : Sl .u32 w (.slice p (Nm.wl z).length c) (Nm.wl z)) (hfm : fmtB fm = true) (ho : okF fm h = true) (h0 : 0 ≤ h) (h1 : h < 18446744073709551616) (hz : finB fm h = true → X = z * 2 ^ (E - 2 * unQ fm).toNat ∧ 2 * unQ fm ≤ E ∧ E ≤ 5000 ∧ bitLen z.natAbs ≤ 6300 ∧ bitLen X.natAbs ≤ 6300) (B F : Int) (hB : B = auT fm h X) (hF : F = auF fm h f X) :
    Calls Tryz.prog 123 #[.int .i64 fm, .int .u64 h, .int .i64 f, .agg #[.bool (Nm.wn z), .slice p (Nm.wl z).length c], .int .i64 E] w fun r w' => r = .returned (.tuple #[.agg #[.int .u64 h, .int .u64 B], .int .i64 F, .bool true]) ∧ Below w.heap.size w w' := by
  have CF := hid (fun w' => spec_fin fm h w' h0 h1)
  cases fh : finB fm h
  · rw [fh] at CF
    have hB2 : B = h := by rw [hB]; unfold auT; rw [fh]; rfl
    have hF2 : F = f := by rw [hF]; unfold auF; rw [fh]; rfl
    rw [hB2, hF2]
    obtain ⟨gz, h_gz⟩ : ∃ q, q = Nm.wn z := ⟨_, rfl⟩
    obtain ⟨Z, h_Z⟩ : ∃ q, q = Nm.wl z := ⟨_, rfl⟩
    rw [← h_gz, ← h_Z]
    rw [← h_Z] at hs
    clear hB hF hB2 hF2 hz h_gz h_Z fh ho hfm h0 h1
    have bel := Below.refl w.heap.size w
    go_enter Tryz.func123, Tryz.ntmps123
    replace bel := bel_al bel (.cells #[.bool gz, .slice p Z.length c] 31)
    have Bw := R2.new w (.bool gz) (.slice p Z.length c) 31
    replace Bw := Bw.below (al_b _ (.cells #[.int .u64 0, .int .u64 0] 54))
    replace bel := bel_al bel (.cells #[.int .u64 0, .int .u64 0] 54)
    have Br := R2.new (w.alloc (.cells #[.bool gz, .slice p Z.length c] 31)) (.int .u64 0) (.int .u64 0) 54
    have hsz : (w.alloc (.cells #[.bool gz, .slice p Z.length c] 31)).heap.size = w.heap.size + 1 := by simp
    rw [hsz] at Br
    clear hsz
    obtain ⟨kw0, kw1, -, -⟩ := id Bw
    obtain ⟨kr0, kr1, -, -⟩ := id Br
    go_wp2_with fail
    refine (CF.out _).mono ?_
    rintro r w1 ⟨rfl, hb⟩
    clear kw0 kw1 kr0 kr1
    replace bel := bel_go bel hb
    replace Bw := Bw.below hb
    replace Br := Br.below hb
    clear hb
    obtain ⟨kw0, kw1, -, -⟩ := id Bw
    obtain ⟨kr0, kr1, -, -⟩ := id Br
    obtain ⟨-, -, lr0, lr1⟩ := id Br
    go_wp2
    refine bodyPost_ret (v := .tuple #[.agg #[.int .u64 h, .int .u64 h], .int .i64 f, .bool true]) (by simp [results, Tryz.results123, go_sem, kw0, kw1, kr0, kr1, lr0, lr1]) rfl ⟨rfl, ((bel.setCell (by simp) _).setCell (by simp) _)⟩
  · rw [fh] at CF
    obtain ⟨hX, e0, e1, bz, bX⟩ := hz fh
    have hq := unq_bd fm
    have bu := un_blA fm h
    have CQ := hid (fun w' => sQb fm w' hfm)
    have CU := hid (fun w' => l2units_any fm h w' fh h0 h1)
    have lz : (Nm.wl z).length ≤ 200 := by unfold Nm.wl; exact lim_len (k := 200) (by omega)
    have CSh1 := hid (fun a c w' h' => l1shift_any (Nm.wn z) a c (Nm.wl z) (E - 2 * unQ fm) w' h' (Nm.wl_dg _) (by omega) (by omega) (by omega) X (by rw [hX]; exact (shz _ _ (by omega)).symm))
    have CSh2 := hid (fun a c w' h' => l1shift_any (Nm.wn (unI fm h)) a c (Nm.wl (unI fm h)) (-unQ fm) w' h' (Nm.wl_dg _) (by have := un_lenA fm h; omega) (by omega) (by omega) (unI fm h * 2 ^ (-unQ fm).toNat) (shz _ _ (by omega)).symm)
    have b2 := bl_mulp (unI fm h) (-unQ fm).toNat
    have l2 : (Nm.wl (unI fm h * 2 ^ (-unQ fm).toNat)).length ≤ 200 := by unfold Nm.wl; exact lim_len (k := 200) (by omega)
    have l3 : (Nm.wl (-(unI fm h * 2 ^ (-unQ fm).toNat))).length ≤ 200 := by unfold Nm.wl; rw [Int.natAbs_neg]; exact l2
    have lX : (Nm.wl X).length ≤ 200 := by unfold Nm.wl; exact lim_len (k := 200) (by omega)
    have CN := hid (fun a c w' h' => l1neg_v (Nm.wn (unI fm h * 2 ^ (-unQ fm).toNat)) a c (Nm.wl (unI fm h * 2 ^ (-unQ fm).toNat)) w' h' (Nm.wl_dg _) (by omega) (-(unI fm h * 2 ^ (-unQ fm).toNat)) (by rw [wv_neg, Nm.wv_out]))
    have CA := hid (fun a c b d w' h' h'' => l1add_any (Nm.wn X) (Nm.wn (-(unI fm h * 2 ^ (-unQ fm).toNat))) a b c d (Nm.wl X) (Nm.wl (-(unI fm h * 2 ^ (-unQ fm).toNat))) w' h' h'' (Nm.wl_dg _) (Nm.wl_dg _) (Nm.wl_nz _) (Nm.wl_nz _) (by omega) (by omega) (auR fm h X) (by rw [Nm.wv_out, Nm.wv_out]; unfold auR; omega))
    have CS := hid (fun w' => spec_l2neg fm h w' ho h0 h1)
    have CW := hid (fun w' => with_s fm 0 (sigB fm h) w' hfm (by decide) (.inl (by decide)))
    have lR := auR_len (fm := fm) (h := h) (X := X) bX
    have CR := hid (fun (hr : auR fm h X ≠ 0) p c w' h' => l3r_any fm 5 (auR fm h X) (2 * unQ fm) p c w' h' hr (rdo_any hfm (by decide) lR (by omega) (by omega)))
    have hw1 : IntKind.i64.wrap (2 * unQ fm) = 2 * unQ fm := by rw [IntKind.wrap_i64]; omega
    have hw2 : IntKind.i64.wrap (E - 2 * unQ fm) = E - 2 * unQ fm := by rw [IntKind.wrap_i64]; omega
    have hw3 : IntKind.i64.wrap (-unQ fm) = -unQ fm := by rw [IntKind.wrap_i64]; omega
    have hw4 : wrap64 (2 * unQ fm) = 2 * unQ fm := by unfold wrap64; omega
    have hw5 : wrap64 (E - 2 * unQ fm) = E - 2 * unQ fm := by unfold wrap64; omega
    have hw6 : wrap64 (-unQ fm) = -unQ fm := by unfold wrap64; omega
    clear hX e0 e1 bz bX bu b2 l2 l3 lX hz
    by_cases hr : auR fm h X = 0
    · have hB2 : B = sgn (sgOf fm) 0 (sigB fm h) := by rw [hB]; unfold auT; rw [if_pos fh, if_pos hr]
      have hF2 : F = 0 := by rw [hF]; unfold auF; rw [if_pos fh, if_pos hr]
      rw [← hB2] at CW
      rw [hF2]
      have hw0 : Nm.wl 0 = [] := Nm.lim_zero
      have hn0 : Nm.wn 0 = false := by decide
      rw [hr, hw0, hn0] at CA
      clear hw0 hn0 hB2 hF2 CR lR
      obtain ⟨s9, h_s9⟩ : ∃ q, q = sigB fm h := ⟨_, rfl⟩
      rw [← h_s9] at CS CW
      clear h_s9
      obtain ⟨q, h_q⟩ : ∃ q, q = unQ fm := ⟨_, rfl⟩
      obtain ⟨gz, h_gz⟩ : ∃ q, q = Nm.wn z := ⟨_, rfl⟩
      obtain ⟨Z, h_Z⟩ : ∃ q, q = Nm.wl z := ⟨_, rfl⟩
      obtain ⟨gu, h_gu⟩ : ∃ q, q = Nm.wn (unI fm h) := ⟨_, rfl⟩
      obtain ⟨Lu, h_Lu⟩ : ∃ q, q = Nm.wl (unI fm h) := ⟨_, rfl⟩
      obtain ⟨gx, h_gx⟩ : ∃ q, q = Nm.wn X := ⟨_, rfl⟩
      obtain ⟨LX, h_LX⟩ : ∃ q, q = Nm.wl X := ⟨_, rfl⟩
      obtain ⟨g2, h_g2⟩ : ∃ q, q = Nm.wn (unI fm h * 2 ^ (-unQ fm).toNat) := ⟨_, rfl⟩
      obtain ⟨L2, h_L2⟩ : ∃ q, q = Nm.wl (unI fm h * 2 ^ (-unQ fm).toNat) := ⟨_, rfl⟩
      obtain ⟨g3, h_g3⟩ : ∃ q, q = Nm.wn (-(unI fm h * 2 ^ (-unQ fm).toNat)) := ⟨_, rfl⟩
      obtain ⟨L3, h_L3⟩ : ∃ q, q = Nm.wl (-(unI fm h * 2 ^ (-unQ fm).toNat)) := ⟨_, rfl⟩
      rw [← h_gz, ← h_Z]
      rw [← h_Z] at hs
      rw [← h_gz, ← h_Z, ← h_gx, ← h_LX, ← h_q] at CSh1
      rw [← h_gu, ← h_Lu, ← h_g2, ← h_L2, ← h_q] at CSh2
      rw [← h_gu, ← h_Lu] at CU
      rw [← h_g2, ← h_L2, ← h_g3, ← h_L3] at CN
      rw [← h_gx, ← h_LX, ← h_g3, ← h_L3] at CA
      rw [← h_q] at CQ hw1 hw2 hw3 hw4 hw5 hw6
      clear hB hF hr h_q h_gz h_Z h_gu h_Lu h_gx h_LX h_g2 h_L2 h_g3 h_L3 hq fh ho hfm h0 h1
      have bel := Below.refl w.heap.size w
      go_enter Tryz.func123, Tryz.ntmps123
      replace hs := hs.below (al_b _ (.cells #[.bool gz, .slice p Z.length c] 31))
      replace bel := bel_al bel (.cells #[.bool gz, .slice p Z.length c] 31)
      have Bw := R2.new w (.bool gz) (.slice p Z.length c) 31
      replace hs := hs.below (al_b _ (.cells #[.int .u64 0, .int .u64 0] 54))
      replace Bw := Bw.below (al_b _ (.cells #[.int .u64 0, .int .u64 0] 54))
      replace bel := bel_al bel (.cells #[.int .u64 0, .int .u64 0] 54)
      have Br := R2.new (w.alloc (.cells #[.bool gz, .slice p Z.length c] 31)) (.int .u64 0) (.int .u64 0) 54
      have hsz : (w.alloc (.cells #[.bool gz, .slice p Z.length c] 31)).heap.size = w.heap.size + 1 := by simp
      rw [hsz] at Br
      clear hsz
      obtain ⟨kw0, kw1, -, -⟩ := id Bw
      obtain ⟨kr0, kr1, -, -⟩ := id Br
      go_wp2_with fail
      refine (CF.out _).mono ?_
      rintro r w1 ⟨rfl, hb⟩
      clear kw0 kw1 kr0 kr1
      replace bel := bel_go bel hb
      replace hs := hs.below hb
      replace Bw := Bw.below hb
      replace Br := Br.below hb
      clear hb
      obtain ⟨kw0, kw1, -, -⟩ := id Bw
      obtain ⟨kr0, kr1, -, -⟩ := id Br
      go_wp2_with fail
      refine (CQ.out _).mono ?_
      rintro r w2 ⟨rfl, hb⟩
      clear kw0 kw1 kr0 kr1
      replace bel := bel_go bel hb
      replace hs := hs.below hb
      replace Bw := Bw.below hb
      replace Br := Br.below hb
      clear hb
      obtain ⟨kw0, kw1, -, -⟩ := id Bw
      obtain ⟨kr0, kr1, -, -⟩ := id Br
      go_wp2_with fail
      refine (CSh1.out p c _ hs).mono ?_
      rintro r w3 ⟨a1, c1, rfl, o1, hb⟩
      clear kw0 kw1 kr0 kr1
      replace bel := bel_go bel hb
      replace hs := hs.below hb
      replace Bw := Bw.below hb
      replace Br := Br.below hb
      clear hb
      have s1 := o1.sl
      clear o1
      obtain ⟨kw0, kw1, -, -⟩ := id Bw
      obtain ⟨kr0, kr1, -, -⟩ := id Br
      go_wp2_with fail
      refine (CU.out _).mono ?_
      rintro r w4 ⟨au, cu, rfl, ou, hb⟩
      clear kw0 kw1 kr0 kr1
      replace bel := bel_go bel hb
      replace hs := hs.below hb
      replace Bw := Bw.below hb
      replace Br := Br.below hb
      replace s1 := s1.below hb
      clear hb
      have su := ou.sl
      clear ou
      obtain ⟨kw0, kw1, -, -⟩ := id Bw
      obtain ⟨kr0, kr1, -, -⟩ := id Br
      go_wp2_with fail
      refine (CSh2.out au cu _ su).mono ?_
      rintro r w5 ⟨a2, c2, rfl, o2, hb⟩
      clear kw0 kw1 kr0 kr1
      replace bel := bel_go bel hb
      replace hs := hs.below hb
      replace Bw := Bw.below hb
      replace Br := Br.below hb
      replace s1 := s1.below hb
      replace su := su.below hb
      clear hb
      have s2 := o2.sl
      clear o2
      obtain ⟨kw0, kw1, -, -⟩ := id Bw
      obtain ⟨kr0, kr1, -, -⟩ := id Br
      go_wp2_with fail
      refine (CN.out a2 c2 _ s2).mono ?_
      rintro r w6 ⟨a3, c3, rfl, o3, hb⟩
      clear kw0 kw1 kr0 kr1
      replace bel := bel_go bel hb
      replace hs := hs.below hb
      replace Bw := Bw.below hb
      replace Br := Br.below hb
      replace s1 := s1.below hb
      replace su := su.below hb
      replace s2 := s2.below hb
      clear hb
      have s3 := o3.sl
      clear o3
      obtain ⟨kw0, kw1, -, -⟩ := id Bw
      obtain ⟨kr0, kr1, -, -⟩ := id Br
      go_wp2_with fail
      refine (CA.out a1 c1 a3 c3 _ s1 s3).mono ?_
      rintro r w7 ⟨a6, c6, rfl, o6, hb⟩
      clear kw0 kw1 kr0 kr1
      replace bel := bel_go bel hb
      replace hs := hs.below hb
      replace Bw := Bw.below hb
      replace Br := Br.below hb
      replace s1 := s1.below hb
      replace su := su.below hb
      replace s2 := s2.below hb
      replace s3 := s3.below hb
      clear hb
      have s6 := o6.sl
      clear o6
      replace hs := hs.below (al_b _ (.cells #[.bool false, .slice a6 0 c6] 31))
      replace Bw := Bw.below (al_b _ (.cells #[.bool false, .slice a6 0 c6] 31))
      replace Br := Br.below (al_b _ (.cells #[.bool false, .slice a6 0 c6] 31))
      replace s1 := s1.below (al_b _ (.cells #[.bool false, .slice a6 0 c6] 31))
      replace su := su.below (al_b _ (.cells #[.bool false, .slice a6 0 c6] 31))
      replace s2 := s2.below (al_b _ (.cells #[.bool false, .slice a6 0 c6] 31))
      replace s3 := s3.below (al_b _ (.cells #[.bool false, .slice a6 0 c6] 31))
      replace s6 := s6.below (al_b _ (.cells #[.bool false, .slice a6 0 c6] 31))
      replace bel := bel_al bel (.cells #[.bool false, .slice a6 0 c6] 31)
      have Bs := R2.new w7 (.bool false) (.slice a6 0 c6) 31
      obtain ⟨kw0, kw1, -, -⟩ := id Bw
      obtain ⟨kr0, kr1, -, -⟩ := id Br
      obtain ⟨ks0, ks1, -, -⟩ := id Bs
      go_wp2_with fail
      refine (CS.out _).mono ?_
      rintro r w8 ⟨rfl, hb⟩
      clear kw0 kw1 kr0 kr1 ks0 ks1
      replace bel := bel_go bel hb
      replace hs := hs.below hb
      replace Bw := Bw.below hb
      replace Br := Br.below hb
      replace s1 := s1.below hb
      replace su := su.below hb
      replace s2 := s2.below hb
      replace s3 := s3.below hb
      replace s6 := s6.below hb
      replace Bs := Bs.below hb
      clear hb
      obtain ⟨kw0, kw1, -, -⟩ := id Bw
      obtain ⟨kr0, kr1, -, -⟩ := id Br
      obtain ⟨ks0, ks1, -, -⟩ := id Bs
      go_wp2_with fail
      refine (CW.out _).mono ?_
      rintro r w9 ⟨rfl, hb⟩
      clear kw0 kw1 kr0 kr1 ks0 ks1
      replace bel := bel_go bel hb
      replace hs := hs.below hb
      replace Bw := Bw.below hb
      replace Br := Br.below hb
      replace s1 := s1.below hb
      replace su := su.below hb
      replace s2 := s2.below hb
      replace s3 := s3.below hb
      replace s6 := s6.below hb
      replace Bs := Bs.below hb
      clear hb
      obtain ⟨kw0, kw1, -, -⟩ := id Bw
      obtain ⟨kr0, kr1, -, -⟩ := id Br
      obtain ⟨ks0, ks1, -, -⟩ := id Bs
      obtain ⟨-, -, lr0, lr1⟩ := id Br
      go_wp2
      refine bodyPost_ret (v := .tuple #[.agg #[.int .u64 h, .int .u64 B], .int .i64 0, .bool true]) (by simp [results, Tryz.results123, go_sem, kw0, kw1, kr0, kr1, ks0, ks1, lr0, lr1]) rfl ⟨rfl, ((bel.setCell (by simp) _).setCell (by simp) _)⟩
    · have hB2 : B = RdB fm 5 (Nm.wn (auR fm h X)) (Nm.wl (auR fm h X)) (2 * unQ fm) := by rw [hB]; unfold auT; rw [if_pos fh, if_neg hr]
      have hF2 : F = RdF fm 5 (Nm.wn (auR fm h X)) (Nm.wl (auR fm h X)) (2 * unQ fm) := by rw [hF]; unfold auF; rw [if_pos fh, if_neg hr]
      have CR := hid (CR.out hr)
      simp only [← hB2, ← hF2] at CR
      have hb0 : (((Nm.wl (auR fm h X)).length : Int) == 0) = false := by
        have : (Nm.wl (auR fm h X)).length ≠ 0 := by unfold Nm.wl; rw [Ne, Nm.lim_length_zero]; omega
        rw [beq_eq_false_iff_ne]; omega
      clear hB2 hF2 CS CW
      obtain ⟨q, h_q⟩ : ∃ q, q = unQ fm := ⟨_, rfl⟩
      obtain ⟨gz, h_gz⟩ : ∃ q, q = Nm.wn z := ⟨_, rfl⟩
      obtain ⟨Z, h_Z⟩ : ∃ q, q = Nm.wl z := ⟨_, rfl⟩
      obtain ⟨gu, h_gu⟩ : ∃ q, q = Nm.wn (unI fm h) := ⟨_, rfl⟩
      obtain ⟨Lu, h_Lu⟩ : ∃ q, q = Nm.wl (unI fm h) := ⟨_, rfl⟩
      obtain ⟨gx, h_gx⟩ : ∃ q, q = Nm.wn X := ⟨_, rfl⟩
      obtain ⟨LX, h_LX⟩ : ∃ q, q = Nm.wl X := ⟨_, rfl⟩
      obtain ⟨g2, h_g2⟩ : ∃ q, q = Nm.wn (unI fm h * 2 ^ (-unQ fm).toNat) := ⟨_, rfl⟩
      obtain ⟨L2, h_L2⟩ : ∃ q, q = Nm.wl (unI fm h * 2 ^ (-unQ fm).toNat) := ⟨_, rfl⟩
      obtain ⟨g3, h_g3⟩ : ∃ q, q = Nm.wn (-(unI fm h * 2 ^ (-unQ fm).toNat)) := ⟨_, rfl⟩
      obtain ⟨L3, h_L3⟩ : ∃ q, q = Nm.wl (-(unI fm h * 2 ^ (-unQ fm).toNat)) := ⟨_, rfl⟩
      obtain ⟨G, h_G⟩ : ∃ q, q = Nm.wn (auR fm h X) := ⟨_, rfl⟩
      obtain ⟨L, h_L⟩ : ∃ q, q = Nm.wl (auR fm h X) := ⟨_, rfl⟩
      rw [← h_gz, ← h_Z]
      rw [← h_Z] at hs
      rw [← h_gz, ← h_Z, ← h_gx, ← h_LX, ← h_q] at CSh1
      rw [← h_gu, ← h_Lu, ← h_g2, ← h_L2, ← h_q] at CSh2
      rw [← h_gu, ← h_Lu] at CU
      rw [← h_g2, ← h_L2, ← h_g3, ← h_L3] at CN
      rw [← h_gx, ← h_LX, ← h_g3, ← h_L3, ← h_G, ← h_L] at CA
      rw [← h_q] at CQ hw1 hw2 hw3 hw4 hw5 hw6
      rw [← h_G, ← h_L, ← h_q] at CR
      rw [← h_L] at hb0 lR
      clear hB hF hr h_q h_gz h_Z h_gu h_Lu h_gx h_LX h_g2 h_L2 h_g3 h_L3 hq fh ho hfm h0 h1 h_G h_L
      have bel := Below.refl w.heap.size w
      go_enter Tryz.func123, Tryz.ntmps123
      replace hs := hs.below (al_b _ (.cells #[.bool gz, .slice p Z.length c] 31))
      replace bel := bel_al bel (.cells #[.bool gz, .slice p Z.length c] 31)
      have Bw := R2.new w (.bool gz) (.slice p Z.length c) 31
      replace hs := hs.below (al_b _ (.cells #[.int .u64 0, .int .u64 0] 54))
      replace Bw := Bw.below (al_b _ (.cells #[.int .u64 0, .int .u64 0] 54))
      replace bel := bel_al bel (.cells #[.int .u64 0, .int .u64 0] 54)
      have Br := R2.new (w.alloc (.cells #[.bool gz, .slice p Z.length c] 31)) (.int .u64 0) (.int .u64 0) 54
      have hsz : (w.alloc (.cells #[.bool gz, .slice p Z.length c] 31)).heap.size = w.heap.size + 1 := by simp
      rw [hsz] at Br
      clear hsz
      obtain ⟨kw0, kw1, -, -⟩ := id Bw
      obtain ⟨kr0, kr1, -, -⟩ := id Br
      go_wp2_with fail
      refine (CF.out _).mono ?_
      rintro r w1 ⟨rfl, hb⟩
      clear kw0 kw1 kr0 kr1
      replace bel := bel_go bel hb
      replace hs := hs.below hb
      replace Bw := Bw.below hb
      replace Br := Br.below hb
      clear hb
      obtain ⟨kw0, kw1, -, -⟩ := id Bw
      obtain ⟨kr0, kr1, -, -⟩ := id Br
      go_wp2_with fail
      refine (CQ.out _).mono ?_
      rintro r w2 ⟨rfl, hb⟩
      clear kw0 kw1 kr0 kr1
      replace bel := bel_go bel hb
      replace hs := hs.below hb
      replace Bw := Bw.below hb
      replace Br := Br.below hb
      clear hb
      obtain ⟨kw0, kw1, -, -⟩ := id Bw
      obtain ⟨kr0, kr1, -, -⟩ := id Br
      go_wp2_with fail
      refine (CSh1.out p c _ hs).mono ?_
      rintro r w3 ⟨a1, c1, rfl, o1, hb⟩
      clear kw0 kw1 kr0 kr1
      replace bel := bel_go bel hb
      replace hs := hs.below hb
      replace Bw := Bw.below hb
      replace Br := Br.below hb
      clear hb
      have s1 := o1.sl
      clear o1
      obtain ⟨kw0, kw1, -, -⟩ := id Bw
      obtain ⟨kr0, kr1, -, -⟩ := id Br
      go_wp2_with fail
      refine (CU.out _).mono ?_
      rintro r w4 ⟨au, cu, rfl, ou, hb⟩
      clear kw0 kw1 kr0 kr1
      replace bel := bel_go bel hb
      replace hs := hs.below hb
      replace Bw := Bw.below hb
      replace Br := Br.below hb
      replace s1 := s1.below hb
      clear hb
      have su := ou.sl
      clear ou
      obtain ⟨kw0, kw1, -, -⟩ := id Bw
      obtain ⟨kr0, kr1, -, -⟩ := id Br
      go_wp2_with fail
      refine (CSh2.out au cu _ su).mono ?_
      rintro r w5 ⟨a2, c2, rfl, o2, hb⟩
      clear kw0 kw1 kr0 kr1
      replace bel := bel_go bel hb
      replace hs := hs.below hb
      replace Bw := Bw.below hb
      replace Br := Br.below hb
      replace s1 := s1.below hb
      replace su := su.below hb
      clear hb
      have s2 := o2.sl
      clear o2
      obtain ⟨kw0, kw1, -, -⟩ := id Bw
      obtain ⟨kr0, kr1, -, -⟩ := id Br
      go_wp2_with fail
      refine (CN.out a2 c2 _ s2).mono ?_
      rintro r w6 ⟨a3, c3, rfl, o3, hb⟩
      clear kw0 kw1 kr0 kr1
      replace bel := bel_go bel hb
      replace hs := hs.below hb
      replace Bw := Bw.below hb
      replace Br := Br.below hb
      replace s1 := s1.below hb
      replace su := su.below hb
      replace s2 := s2.below hb
      clear hb
      have s3 := o3.sl
      clear o3
      obtain ⟨kw0, kw1, -, -⟩ := id Bw
      obtain ⟨kr0, kr1, -, -⟩ := id Br
      go_wp2_with fail
      refine (CA.out a1 c1 a3 c3 _ s1 s3).mono ?_
      rintro r w7 ⟨a6, c6, rfl, o6, hb⟩
      clear kw0 kw1 kr0 kr1
      replace bel := bel_go bel hb
      replace hs := hs.below hb
      replace Bw := Bw.below hb
      replace Br := Br.below hb
      replace s1 := s1.below hb
      replace su := su.below hb
      replace s2 := s2.below hb
      replace s3 := s3.below hb
      clear hb
      have s6 := o6.sl
      clear o6
      replace hs := hs.below (al_b _ (.cells #[.bool G, .slice a6 L.length c6] 31))
      replace Bw := Bw.below (al_b _ (.cells #[.bool G, .slice a6 L.length c6] 31))
      replace Br := Br.below (al_b _ (.cells #[.bool G, .slice a6 L.length c6] 31))
      replace s1 := s1.below (al_b _ (.cells #[.bool G, .slice a6 L.length c6] 31))
      replace su := su.below (al_b _ (.cells #[.bool G, .slice a6 L.length c6] 31))
      replace s2 := s2.below (al_b _ (.cells #[.bool G, .slice a6 L.length c6] 31))
      replace s3 := s3.below (al_b _ (.cells #[.bool G, .slice a6 L.length c6] 31))
      replace s6 := s6.below (al_b _ (.cells #[.bool G, .slice a6 L.length c6] 31))
      replace bel := bel_al bel (.cells #[.bool G, .slice a6 L.length c6] 31)
      have Bs := R2.new w7 (.bool G) (.slice a6 L.length c6) 31
      obtain ⟨kw0, kw1, -, -⟩ := id Bw
      obtain ⟨kr0, kr1, -, -⟩ := id Br
      obtain ⟨ks0, ks1, -, -⟩ := id Bs
      go_wp2_with fail
      refine (CR.out a6 c6 _ s6).mono ?_
      rintro r w8 ⟨rfl, hb⟩
      clear kw0 kw1 kr0 kr1 ks0 ks1
      replace bel := bel_go bel hb
      replace hs := hs.below hb
      replace Bw := Bw.below hb
      replace Br := Br.below hb
      replace s1 := s1.below hb
      replace su := su.below hb
      replace s2 := s2.below hb
      replace s3 := s3.below hb
      replace s6 := s6.below hb
      replace Bs := Bs.below hb
      clear hb
      obtain ⟨kw0, kw1, -, -⟩ := id Bw
      obtain ⟨kr0, kr1, -, -⟩ := id Br
      obtain ⟨ks0, ks1, -, -⟩ := id Bs
      obtain ⟨-, -, lr0, lr1⟩ := id Br
      go_wp2
      refine bodyPost_ret (v := .tuple #[.agg #[.int .u64 h, .int .u64 B], .int .i64 F, .bool true]) (by simp [results, Tryz.results123, go_sem, kw0, kw1, kr0, kr1, ks0, ks1, lr0, lr1]) rfl ⟨rfl, ((bel.setCell (by simp) _).setCell (by simp) _)⟩
theorem rd_okF {fm mode z e : Int} (hO : RdO fm mode (Nm.wn z) (Nm.wl z) e = true) : okF fm (RdB fm mode (Nm.wn z) (Nm.wl z) e) = true := by
  have hfm : fmtB fm = true := by unfold RdO at hO; simp at hO; exact hO.1.1.1
  rcases fmt_cases hfm with rfl | rfl
  · obtain ⟨-, h1, -⟩ := Fd.ord_R32 mode z e hO
    unfold okF; simpa using h1
  · rfl
theorem nan_okF {fm : Int} (h : fmtB fm = true) : okF fm (nanOf fm) = true ∧ finB fm (nanOf fm) = false := by
  rcases fmt_cases h with rfl | rfl <;> decide +kernel
theorem sg_okF {fm : Int} (h : fmtB fm = true) (g : Bool) : okF fm (sgn (sgOf fm) 0 g) = true ∧ okF fm (sgn (sgOf fm) (infOf fm) g) = true ∧ finB fm (sgn (sgOf fm) (infOf fm) g) = false := by
  rcases fmt_cases h with rfl | rfl <;> cases g <;> decide +kernel
theorem inf_nfin {fm x : Int} (h : nI fm x = true) : finB fm x = false := by
  have h3 : cls fm x = 3 := by simpa [nI] using h
  unfold finB; rw [h3]; decide
theorem ad_head {fm mode x y : Int} (x0 : 0 ≤ x) (x1 : x < 18446744073709551616) (y0 : 0 ≤ y) (y1 : y < 18446744073709551616) (hO : muO fm mode x y = true) : okF fm (adB fm mode x y) = true ∧ 0 ≤ adB fm mode x y ∧ adB fm mode x y < 18446744073709551616 ∧ (finB fm (adB fm mode x y) = true → finB fm x = true ∧ finB fm y = true) := by
  have hO' := hO
  unfold muO at hO'
  simp only [Bool.and_eq_true] at hO'
  obtain ⟨hm, hall⟩ := hO'
  obtain ⟨hx, hy⟩ := all2 hall
  have hfm := ok_fmt hx
  unfold adB
  rw [if_pos hO]
  cases hn : (nanB fm x || nanB fm y)
  · obtain ⟨nx, ny⟩ : nanB fm x = false ∧ nanB fm y = false := by simpa using hn
    simp only [Bool.false_eq_true, if_false]
    unfold aB
    cases ix : nI fm x
    · cases iy : nI fm y
      · have fx := (nan_cases hx nx).resolve_right (by rw [ix]; decide)
        have fy := (nan_cases hy ny).resolve_right (by rw [iy]; decide)
        simp only [Bool.false_and, Bool.false_eq_true, if_false]
        by_cases hz : unI fm x + unI fm y = 0
        · rw [if_pos hz]
          have := Fd.sgn_bd2 fm (sigB fm x && sigB fm y || ((sigB fm x != sigB fm y) && decide (mode = 3)))
          exact ⟨(sg_okF hfm _).1, this.1, this.2.1, fun _ => ⟨fx, fy⟩⟩
        · rw [if_neg hz]
          have := Fd.RdB_bd fm mode (unI fm x + unI fm y) (unQ fm)
          exact ⟨rd_okF (rdo_any hfm hm (uu_len fm x y) (by have := unq_bd fm; omega) (by have := unq_bd fm; omega)), this.1, this.2, fun _ => ⟨fx, fy⟩⟩
      · simp only [Bool.false_and, Bool.false_eq_true, if_false, if_true]
        exact ⟨hy, y0, y1, fun h => by rw [inf_nfin iy] at h; cases h⟩
    · simp only [Bool.true_and, if_true]
      split
      · have := Fd.nanOf_bd fm
        exact ⟨(nan_okF hfm).1, this.1, this.2, fun h => by rw [(nan_okF hfm).2] at h; cases h⟩
      · exact ⟨hx, x0, x1, fun h => by rw [inf_nfin ix] at h; cases h⟩
  · simp only [if_true]
    have := Fd.nanOf_bd fm
    exact ⟨(nan_okF hfm).1, this.1, this.2, fun h => by rw [(nan_okF hfm).2] at h; cases h⟩
theorem own_keep2 {w : World} {B : Nat} {a : Option Addr} {c : Nat} {L : List Int} {b : Nat} (ho : Own w B a c L) (ap : L = [] ∨ ∀ g, a = some ⟨g, 0, none⟩ → g ≠ b) (u0 u1 : Value) :
    Sl .u32 ((w.setCell ⟨b, 0, none⟩ u0).setCell ⟨b, 1, none⟩ u1) (.slice a L.length c) L := by
  rcases ap with rfl | h
  · obtain ⟨a', cap, h1, h2, h3, -⟩ := ho.sl
    exact ⟨a', cap, h1, h2, h3, .inl rfl⟩
  · exact ((ho.setOther h u0).setOther h u1).sl
theorem aas_spec (fm x y : Int) (w : World) (x0 : 0 ≤ x) (x1 : x < 18446744073709551616) (y0 : 0 ≤ y) (y1 : y < 18446744073709551616) (H T F : Int) (O : Bool) (hH : H = aaB fm x y) (hT : T = aaT fm x y) (hF : F = aaF fm x y) (hO : O = muO fm 5 x y) :
    Calls Tryz.prog 38 #[.int .i64 fm, .int .u64 x, .int .u64 y] w fun r w' => r = .returned (.tuple #[.agg #[.int .u64 H, .int .u64 T], .int .i64 F, .bool O]) ∧ Below w.heap.size w w' := by
  have CA := hid (fun w' => add_spec fm 5 x y w' x0 x1 y0 y1 _ _ _ rfl rfl rfl)
  cases ho : muO fm 5 x y
  · have e1 : adB fm 5 x y = 0 ∧ adF fm 5 x y = 0 := ad_no ho
    rw [e1.1, e1.2, ho] at CA
    have h1 : H = 0 := by rw [hH]; unfold aaB; rw [ho]; rfl
    have h2 : T = 0 := by rw [hT]; unfold aaT; rw [ho]; rfl
    have h3 : F = 0 := by rw [hF]; unfold aaF; rw [ho]; rfl
    rw [h1, h2, h3, hO, ho]
    clear h1 h2 h3 hH hT hF hO ho e1
    have bel := Below.refl w.heap.size w
    go_enter Tryz.func38, Tryz.ntmps38
    replace bel := bel_al bel (.cells #[.int .u64 0, .int .u64 0] 54)
    have Br := R2.new w (.int .u64 0) (.int .u64 0) 54
    obtain ⟨kr0, kr1, -, -⟩ := id Br
    go_wp2_with fail
    refine (CA.out _).mono ?_
    rintro r w1 ⟨rfl, hb⟩
    clear kr0 kr1
    replace bel := bel_go bel hb
    replace Br := Br.below hb
    clear hb
    obtain ⟨kr0, kr1, -, -⟩ := id Br
    obtain ⟨-, -, lr0, lr1⟩ := id Br
    go_wp2
    refine bodyPost_ret (v := .tuple #[.agg #[.int .u64 0, .int .u64 0], .int .i64 0, .bool false]) (by simp [results, Tryz.results38, go_sem, kr0, kr1, lr0, lr1]) rfl ⟨rfl, ((bel.setCell (by simp) _).setCell (by simp) _)⟩
  · rw [ho] at CA
    rw [hO, ho]
    obtain ⟨k1, k2, k3, k4⟩ := ad_head (mode := 5) x0 x1 y0 y1 ho
    have hfm := ok_fmt (all2 (by have h := ho; unfold muO at h; simp only [Bool.and_eq_true] at h; exact h.2)).1
    have hx := (all2 (by have h := ho; unfold muO at h; simp only [Bool.and_eq_true] at h; exact h.2)).1
    have hy := (all2 (by have h := ho; unfold muO at h; simp only [Bool.and_eq_true] at h; exact h.2)).2
    have h1 : H = adB fm 5 x y := by rw [hH]; unfold aaB; rw [if_pos ho]
    have h2 : T = auT fm (adB fm 5 x y) (asX fm x y) := by rw [hT]; unfold aaT; rw [if_pos ho]
    have h3 : F = auF fm (adB fm 5 x y) (adF fm 5 x y) (asX fm x y) := by rw [hF]; unfold aaF; rw [if_pos ho]
    have CQ := hid (fun w' => sQb fm w' hfm)
    have CF1 := hid (fun w' => spec_fin fm x w' x0 x1)
    have CF2 := hid (fun w' => spec_fin fm y w' y0 y1)
    have hq := unq_bd fm
    have hw1 : IntKind.i64.wrap (2 * unQ fm) = 2 * unQ fm := by rw [IntKind.wrap_i64]; omega
    have hw2 : wrap64 (2 * unQ fm) = 2 * unQ fm := by unfold wrap64; omega
    cases fx : finB fm x
    · rw [fx] at CF1
      have CL := hid (fun p c w' hs => l6r fm (adB fm 5 x y) (adF fm 5 x y) 0 (unQ fm) (asX fm x y) p c w' hs hfm k1 k2 k3 (fun h => absurd (k4 h) (fun h' => by rw [h'.1] at fx; cases fx)) T F h2 h3)
      have e1 : Nm.wl 0 = [] := Nm.lim_zero
      have e2 : Nm.wn 0 = false := by decide
      rw [e1, e2] at CL
      clear e1 e2
      obtain ⟨h, h_h⟩ : ∃ q, q = adB fm 5 x y := ⟨_, rfl⟩
      obtain ⟨f, h_f⟩ : ∃ q, q = adF fm 5 x y := ⟨_, rfl⟩
      obtain ⟨q, h_q⟩ : ∃ q, q = unQ fm := ⟨_, rfl⟩
      rw [← h_h, ← h_f] at CA CL
      rw [← h_q] at CQ CL hw1 hw2
      rw [h1, ← h_h]
      clear hH hT hF hO h1 h2 h3 ho k1 k2 k3 k4 hfm hx hy h_h h_f h_q hq
      clear fx
      have bel := Below.refl w.heap.size w
      go_enter Tryz.func38, Tryz.ntmps38
      replace bel := bel_al bel (.cells #[.int .u64 0, .int .u64 0] 54)
      have Br := R2.new w (.int .u64 0) (.int .u64 0) 54
      obtain ⟨kr0, kr1, -, -⟩ := id Br
      go_wp2_with fail
      refine (CA.out _).mono ?_
      rintro r w1 ⟨rfl, hb⟩
      clear kr0 kr1
      replace bel := bel_go bel hb
      replace Br := Br.below hb
      clear hb
      have hz1 := World.block_lt_of_cell? _ _ Br.c0
      simp only [] at hz1
      replace Br := Br.below (al_b _ (.cells #[.bool false, .slice none 0 0] 31))
      replace bel := bel_al bel (.cells #[.bool false, .slice none 0 0] 31)
      have Bw := R2.new w1 (.bool false) (.slice none 0 0) 31
      obtain ⟨kr0, kr1, -, -⟩ := id Br
      obtain ⟨kw0, kw1, -, -⟩ := id Bw
      go_wp2_with fail
      refine (CF1.out _).mono ?_
      rintro r w2 ⟨rfl, hb⟩
      clear kr0 kr1 kw0 kw1
      replace bel := bel_go bel hb
      replace Br := Br.below hb
      replace Bw := Bw.below hb
      clear hb
      go_upto_region 7 with fail
      generalize hWW : w2 = WW at bel Br Bw ⊢
      clear hWW
      have belR := Below.drew (Below.refl WW.heap.size WW)
      refine wp_region_held_drew (S := fun w' => (w'.cell? ⟨w1.heap.size, 0, none⟩ = some (.bool false) ∧ w'.cell? ⟨w1.heap.size, 1, none⟩ = some (.slice none 0 0))) (by kernel_rfl) ?_ (fun hHeld => ?_)
      · exact ⟨(Bw).c0, (Bw).c1⟩
      generalize WW.drew = v0 at belR hHeld ⊢
      refine tk 0 ?_ rfl (Or.inl ⟨by rfl, ?_⟩) ?_
      rotate_left
      · (intro w hSw; go_simp; try (with_reducible rfl))
      try simp only [Act.put, Ls]
      refine tk 1 ?_ rfl (Or.inl ⟨by rfl, ?_⟩) ?_
      rotate_left
      · (intro w hSw; go_simp; try (with_reducible rfl))
      try simp only [Act.put, Ls]
      refine tk 2 ?_ rfl (Or.inl ⟨by rfl, ?_⟩) ?_
      rotate_left
      · (intro w hSw; go_simp; try (with_reducible rfl))
      try simp only [Act.put, Ls]
      refine tk 3 ?_ rfl (Or.inl ⟨by rfl, ?_⟩) ?_
      rotate_left
      · (intro w hSw; (try dsimp only at hSw); obtain ⟨hS0, hS1⟩ := hSw; go_simp; try (with_reducible rfl))
      try simp only [Act.put, Ls]
      refine tk 4 ?_ rfl (Or.inl ⟨by rfl, ?_⟩) ?_
      rotate_left
      · (intro w hSw; go_simp; try (with_reducible rfl))
      try simp only [Act.put, Ls]
      refine rdy 5 rfl (fun K hK => ?_)
      go_simp
      go_at_call 98
      refine (CQ.out _).mono ?_
      rintro r v1 ⟨rfl, hb'⟩
      have hz' := belR.size
      replace belR := bel_go belR hb'
      clear hb' hz'
      refine hK.out _ _ ?_ (fun hHeld => ?_)
      · exact ⟨(Bw.below belR).c0, (Bw.below belR).c1⟩
      clear hK K
      try simp only [Act.put, Ls]
      refine rdy 6 rfl (fun K hK => ?_)
      go_simp
      go_at_call 123
      refine (CL.out none 0 _ (Sl.nil _ _)).mono ?_
      rintro r v2 ⟨rfl, hb'⟩
      have hz' := belR.size
      replace belR := bel_go belR hb'
      clear hb' hz'
      refine hK.out _ _ ?_ (fun hHeld => ?_)
      · exact ⟨(Bw.below belR).c0, (Bw.below belR).c1⟩
      clear hK K
      try simp only [Act.put, Ls]
      refine tk 7 ?_ rfl (Or.inl ⟨by rfl, ?_⟩) ?_
      rotate_left
      · (intro w hSw; go_simp; try (with_reducible rfl))
      try simp only [Act.put, Ls]
      refine tk 8 ?_ rfl (Or.inl ⟨by rfl, ?_⟩) ?_
      rotate_left
      · (intro w hSw; go_simp; try (with_reducible rfl))
      try simp only [Act.put, Ls]
      refine tk 9 ?_ rfl (Or.inl ⟨by rfl, ?_⟩) ?_
      rotate_left
      · (intro w hSw; go_simp; try (with_reducible rfl))
      try simp only [Act.put, Ls]
      refine rdy 10 rfl (fun K hK => ?_)
      have Br' := Br.below belR
      have ⟨y0, y1, y2, y3⟩ := Br'
      have Bw' := Bw.below belR
      go_simp
      have hne : w1.heap.size ≠ w.heap.size := by omega
      have Bw9 := (Bw'.other (p := ⟨w.heap.size, 0, none⟩) hne (.int .u64 h)).other (p := ⟨w.heap.size, 1, none⟩) hne (.int .u64 T)
      refine hK.out _ _ ?_ (fun hHeld => ?_)
      · exact ⟨Bw9.c0, Bw9.c1⟩
      clear hK K
      try simp only [Act.put, Ls]
      refine rdy 11 rfl (fun K hK => ?_)
      go_simp
      refine hK.out _ _ ?_ (fun hHeld => ?_)
      · exact ⟨Bw9.c0, Bw9.c1⟩
      clear hK K
      try simp only [Act.put, Ls]
      refine rdy 12 rfl (fun K hK => ?_)
      go_simp
      refine hK.out _ _ ?_ (fun hHeld => ?_)
      · exact ⟨Bw9.c0, Bw9.c1⟩
      clear hK K
      try simp only [Act.put, Ls]
      refine wpAnyH_done (by kernel_rfl) ?_ _
      obtain ⟨z0, z1, -, -⟩ := R2.set Br' (.int .u64 h) (.int .u64 T)
      go_wp2
      refine bodyPost_ret (v := .tuple #[.agg #[.int .u64 h, .int .u64 T], .int .i64 F, .bool true]) (by simp [results, Tryz.results38, go_sem, z0, z1]) rfl ⟨rfl, ((bel.trans (belR.mono bel.size)).setCell (by simp) _).setCell (by simp) _⟩
    · rw [fx] at CF1
      cases fy : finB fm y
      · rw [fy] at CF2
        have CL := hid (fun p c w' hs => l6r fm (adB fm 5 x y) (adF fm 5 x y) 0 (unQ fm) (asX fm x y) p c w' hs hfm k1 k2 k3 (fun h => absurd (k4 h) (fun h' => by rw [h'.2] at fy; cases fy)) T F h2 h3)
        have e1 : Nm.wl 0 = [] := Nm.lim_zero
        have e2 : Nm.wn 0 = false := by decide
        rw [e1, e2] at CL
        clear e1 e2
        obtain ⟨h, h_h⟩ : ∃ q, q = adB fm 5 x y := ⟨_, rfl⟩
        obtain ⟨f, h_f⟩ : ∃ q, q = adF fm 5 x y := ⟨_, rfl⟩
        obtain ⟨q, h_q⟩ : ∃ q, q = unQ fm := ⟨_, rfl⟩
        rw [← h_h, ← h_f] at CA CL
        rw [← h_q] at CQ CL hw1 hw2
        rw [h1, ← h_h]
        clear hH hT hF hO h1 h2 h3 ho k1 k2 k3 k4 hfm hx hy h_h h_f h_q hq
        clear fx fy
        have bel := Below.refl w.heap.size w
        go_enter Tryz.func38, Tryz.ntmps38
        replace bel := bel_al bel (.cells #[.int .u64 0, .int .u64 0] 54)
        have Br := R2.new w (.int .u64 0) (.int .u64 0) 54
        obtain ⟨kr0, kr1, -, -⟩ := id Br
        go_wp2_with fail
        refine (CA.out _).mono ?_
        rintro r w1 ⟨rfl, hb⟩
        clear kr0 kr1
        replace bel := bel_go bel hb
        replace Br := Br.below hb
        clear hb
        have hz1 := World.block_lt_of_cell? _ _ Br.c0
        simp only [] at hz1
        replace Br := Br.below (al_b _ (.cells #[.bool false, .slice none 0 0] 31))
        replace bel := bel_al bel (.cells #[.bool false, .slice none 0 0] 31)
        have Bw := R2.new w1 (.bool false) (.slice none 0 0) 31
        obtain ⟨kr0, kr1, -, -⟩ := id Br
        obtain ⟨kw0, kw1, -, -⟩ := id Bw
        go_wp2_with fail
        refine (CF1.out _).mono ?_
        rintro r w2 ⟨rfl, hb⟩
        clear kr0 kr1 kw0 kw1
        replace bel := bel_go bel hb
        replace Br := Br.below hb
        replace Bw := Bw.below hb
        clear hb
        obtain ⟨kr0, kr1, -, -⟩ := id Br
        obtain ⟨kw0, kw1, -, -⟩ := id Bw
        go_wp2_with fail
        refine (CF2.out _).mono ?_
        rintro r w3 ⟨rfl, hb⟩
        clear kr0 kr1 kw0 kw1
        replace bel := bel_go bel hb
        replace Br := Br.below hb
        replace Bw := Bw.below hb
        clear hb
        go_upto_region 7 with fail
        generalize hWW : w3 = WW at bel Br Bw ⊢
        clear hWW
        have belR := Below.drew (Below.refl WW.heap.size WW)
        refine wp_region_held_drew (S := fun w' => (w'.cell? ⟨w1.heap.size, 0, none⟩ = some (.bool false) ∧ w'.cell? ⟨w1.heap.size, 1, none⟩ = some (.slice none 0 0))) (by kernel_rfl) ?_ (fun hHeld => ?_)
        · exact ⟨(Bw).c0, (Bw).c1⟩
        generalize WW.drew = v0 at belR hHeld ⊢
        refine tk 0 ?_ rfl (Or.inl ⟨by rfl, ?_⟩) ?_
        rotate_left
        · (intro w hSw; go_simp; try (with_reducible rfl))
        try simp only [Act.put, Ls]
        refine tk 1 ?_ rfl (Or.inl ⟨by rfl, ?_⟩) ?_
        rotate_left
        · (intro w hSw; go_simp; try (with_reducible rfl))
        try simp only [Act.put, Ls]
        refine tk 2 ?_ rfl (Or.inl ⟨by rfl, ?_⟩) ?_
        rotate_left
        · (intro w hSw; go_simp; try (with_reducible rfl))
        try simp only [Act.put, Ls]
        refine tk 3 ?_ rfl (Or.inl ⟨by rfl, ?_⟩) ?_
        rotate_left
        · (intro w hSw; (try dsimp only at hSw); obtain ⟨hS0, hS1⟩ := hSw; go_simp; try (with_reducible rfl))
        try simp only [Act.put, Ls]
        refine tk 4 ?_ rfl (Or.inl ⟨by rfl, ?_⟩) ?_
        rotate_left
        · (intro w hSw; go_simp; try (with_reducible rfl))
        try simp only [Act.put, Ls]
        refine rdy 5 rfl (fun K hK => ?_)
        go_simp
        go_at_call 98
        refine (CQ.out _).mono ?_
        rintro r v1 ⟨rfl, hb'⟩
        have hz' := belR.size
        replace belR := bel_go belR hb'
        clear hb' hz'
        refine hK.out _ _ ?_ (fun hHeld => ?_)
        · exact ⟨(Bw.below belR).c0, (Bw.below belR).c1⟩
        clear hK K
        try simp only [Act.put, Ls]
        refine rdy 6 rfl (fun K hK => ?_)
        go_simp
        go_at_call 123
        refine (CL.out none 0 _ (Sl.nil _ _)).mono ?_
        rintro r v2 ⟨rfl, hb'⟩
        have hz' := belR.size
        replace belR := bel_go belR hb'
        clear hb' hz'
        refine hK.out _ _ ?_ (fun hHeld => ?_)
        · exact ⟨(Bw.below belR).c0, (Bw.below belR).c1⟩
        clear hK K
        try simp only [Act.put, Ls]
        refine tk 7 ?_ rfl (Or.inl ⟨by rfl, ?_⟩) ?_
        rotate_left
        · (intro w hSw; go_simp; try (with_reducible rfl))
        try simp only [Act.put, Ls]
        refine tk 8 ?_ rfl (Or.inl ⟨by rfl, ?_⟩) ?_
        rotate_left
        · (intro w hSw; go_simp; try (with_reducible rfl))
        try simp only [Act.put, Ls]
        refine tk 9 ?_ rfl (Or.inl ⟨by rfl, ?_⟩) ?_
        rotate_left
        · (intro w hSw; go_simp; try (with_reducible rfl))
        try simp only [Act.put, Ls]
        refine rdy 10 rfl (fun K hK => ?_)
        have Br' := Br.below belR
        have ⟨y0, y1, y2, y3⟩ := Br'
        have Bw' := Bw.below belR
        go_simp
        have hne : w1.heap.size ≠ w.heap.size := by omega
        have Bw9 := (Bw'.other (p := ⟨w.heap.size, 0, none⟩) hne (.int .u64 h)).other (p := ⟨w.heap.size, 1, none⟩) hne (.int .u64 T)
        refine hK.out _ _ ?_ (fun hHeld => ?_)
        · exact ⟨Bw9.c0, Bw9.c1⟩
        clear hK K
        try simp only [Act.put, Ls]
        refine rdy 11 rfl (fun K hK => ?_)
        go_simp
        refine hK.out _ _ ?_ (fun hHeld => ?_)
        · exact ⟨Bw9.c0, Bw9.c1⟩
        clear hK K
        try simp only [Act.put, Ls]
        refine rdy 12 rfl (fun K hK => ?_)
        go_simp
        refine hK.out _ _ ?_ (fun hHeld => ?_)
        · exact ⟨Bw9.c0, Bw9.c1⟩
        clear hK K
        try simp only [Act.put, Ls]
        refine wpAnyH_done (by kernel_rfl) ?_ _
        obtain ⟨z0, z1, -, -⟩ := R2.set Br' (.int .u64 h) (.int .u64 T)
        go_wp2
        refine bodyPost_ret (v := .tuple #[.agg #[.int .u64 h, .int .u64 T], .int .i64 F, .bool true]) (by simp [results, Tryz.results38, go_sem, z0, z1]) rfl ⟨rfl, ((bel.trans (belR.mono bel.size)).setCell (by simp) _).setCell (by simp) _⟩
      · rw [fy] at CF2
        have CU1 := hid (fun w' => l2units_any fm x w' fx x0 x1)
        have CU2 := hid (fun w' => l2units_any fm y w' fy y0 y1)
        have CP := hid (fun a c b d w' h h' => l1add_any (Nm.wn (unI fm x)) (Nm.wn (unI fm y)) a b c d (Nm.wl (unI fm x)) (Nm.wl (unI fm y)) w' h h' (Nm.wl_dg _) (Nm.wl_dg _) (Nm.wl_nz _) (Nm.wl_nz _) (by have := un_lenA fm x; omega) (by have := un_lenA fm y; omega) (unI fm x + unI fm y) (by rw [Nm.wv_out, Nm.wv_out]))
        have CL := hid (fun p c w' hs => l6r fm (adB fm 5 x y) (adF fm 5 x y) (unI fm x + unI fm y) (unQ fm) (asX fm x y) p c w' hs hfm k1 k2 k3 (fun _ => ⟨by unfold asX; rw [show unQ fm - 2 * unQ fm = -unQ fm by omega], by omega, by omega, by have := bl_add2 (un_blA fm x) (un_blA fm y); omega, by have := asX_bl fm x y; omega⟩) T F h2 h3)
        obtain ⟨h, h_h⟩ : ∃ q, q = adB fm 5 x y := ⟨_, rfl⟩
        obtain ⟨f, h_f⟩ : ∃ q, q = adF fm 5 x y := ⟨_, rfl⟩
        obtain ⟨q, h_q⟩ : ∃ q, q = unQ fm := ⟨_, rfl⟩
        rw [← h_h, ← h_f] at CA CL
        rw [← h_q] at CQ CL hw1 hw2
        rw [h1, ← h_h]
        obtain ⟨gx, h_gx⟩ : ∃ q, q = Nm.wn (unI fm x) := ⟨_, rfl⟩
        obtain ⟨Lx, h_Lx⟩ : ∃ q, q = Nm.wl (unI fm x) := ⟨_, rfl⟩
        obtain ⟨gy, h_gy⟩ : ∃ q, q = Nm.wn (unI fm y) := ⟨_, rfl⟩
        obtain ⟨Ly, h_Ly⟩ : ∃ q, q = Nm.wl (unI fm y) := ⟨_, rfl⟩
        obtain ⟨gs, h_gs⟩ : ∃ q, q = Nm.wn (unI fm x + unI fm y) := ⟨_, rfl⟩
        obtain ⟨Ls, h_Ls⟩ : ∃ q, q = Nm.wl (unI fm x + unI fm y) := ⟨_, rfl⟩
        rw [← h_gx, ← h_Lx] at CU1 CP
        rw [← h_gy, ← h_Ly] at CU2 CP
        rw [← h_gs, ← h_Ls] at CP CL
        clear h_gx h_Lx h_gy h_Ly h_gs h_Ls
        clear hH hT hF hO h1 h2 h3 ho k1 k2 k3 k4 hfm hx hy h_h h_f h_q hq
        clear fx fy
        have bel := Below.refl w.heap.size w
        go_enter Tryz.func38, Tryz.ntmps38
        replace bel := bel_al bel (.cells #[.int .u64 0, .int .u64 0] 54)
        have Br := R2.new w (.int .u64 0) (.int .u64 0) 54
        obtain ⟨kr0, kr1, -, -⟩ := id Br
        go_wp2_with fail
        refine (CA.out _).mono ?_
        rintro r w1 ⟨rfl, hb⟩
        clear kr0 kr1
        replace bel := bel_go bel hb
        replace Br := Br.below hb
        clear hb
        have hz1 := World.block_lt_of_cell? _ _ Br.c0
        simp only [] at hz1
        replace Br := Br.below (al_b _ (.cells #[.bool false, .slice none 0 0] 31))
        replace bel := bel_al bel (.cells #[.bool false, .slice none 0 0] 31)
        have Bw := R2.new w1 (.bool false) (.slice none 0 0) 31
        obtain ⟨kr0, kr1, -, -⟩ := id Br
        obtain ⟨kw0, kw1, -, -⟩ := id Bw
        go_wp2_with fail
        refine (CF1.out _).mono ?_
        rintro r w2 ⟨rfl, hb⟩
        clear kr0 kr1 kw0 kw1
        replace bel := bel_go bel hb
        replace Br := Br.below hb
        replace Bw := Bw.below hb
        clear hb
        obtain ⟨kr0, kr1, -, -⟩ := id Br
        obtain ⟨kw0, kw1, -, -⟩ := id Bw
        go_wp2_with fail
        refine (CF2.out _).mono ?_
        rintro r w3 ⟨rfl, hb⟩
        clear kr0 kr1 kw0 kw1
        replace bel := bel_go bel hb
        replace Br := Br.below hb
        replace Bw := Bw.below hb
        clear hb
        obtain ⟨kr0, kr1, -, -⟩ := id Br
        obtain ⟨kw0, kw1, -, -⟩ := id Bw
        go_wp2_with fail
        refine (CU1.out _).mono ?_
        rintro r w4 ⟨ax, cx, rfl, ox, hb⟩
        clear kr0 kr1 kw0 kw1
        replace bel := bel_go bel hb
        replace Br := Br.below hb
        replace Bw := Bw.below hb
        clear hb
        have sx := ox.sl
        clear ox
        obtain ⟨kr0, kr1, -, -⟩ := id Br
        obtain ⟨kw0, kw1, -, -⟩ := id Bw
        go_wp2_with fail
        refine (CU2.out _).mono ?_
        rintro r w5 ⟨ay, cy, rfl, oy, hb⟩
        clear kr0 kr1 kw0 kw1
        replace bel := bel_go bel hb
        replace Br := Br.below hb
        replace Bw := Bw.below hb
        replace sx := sx.below hb
        clear hb
        have sy := oy.sl
        clear oy
        obtain ⟨kr0, kr1, -, -⟩ := id Br
        obtain ⟨kw0, kw1, -, -⟩ := id Bw
        go_wp2_with fail
        refine (CP.out ax cx ay cy _ sx sy).mono ?_
        rintro r w6 ⟨as', cs', rfl, os, hb⟩
        clear kr0 kr1 kw0 kw1
        replace bel := bel_go bel hb
        replace Br := Br.below hb
        replace Bw := Bw.below hb
        replace sx := sx.below hb
        replace sy := sy.below hb
        clear hb
        have apw := fun (v : Bool) hc => own_apart os (b := w1.heap.size) v hc
        obtain ⟨kr0, kr1, -, -⟩ := id Br
        obtain ⟨kw0, kw1, -, -⟩ := id Bw
        have ap := apw _ kw0
        clear apw
        obtain ⟨-, -, lw0, lw1⟩ := id Bw
        have s9 := own_keep2 os ap (.bool gs) (.slice as' Ls.length cs')
        have Br9 := (Br.other (p := ⟨w1.heap.size, 0, none⟩) (by simp; omega) (.bool gs)).other (p := ⟨w1.heap.size, 1, none⟩) (by simp; omega) (.slice as' Ls.length cs')
        have Bw9 := R2.set Bw (.bool gs) (.slice as' Ls.length cs')
        have bel9 := (bel.setCell (p := ⟨w1.heap.size, 0, none⟩) (by simp; omega) (.bool gs)).setCell (p := ⟨w1.heap.size, 1, none⟩) (by simp; omega) (.slice as' Ls.length cs')
        clear os ap Br bel
        go_upto_region 7 with fail
        clear kr0 kr1 kw0 kw1 lw0 lw1 Bw
        generalize hWv : (w6.setCell ⟨w1.heap.size, 0, none⟩ (.bool gs)).setCell ⟨w1.heap.size, 1, none⟩ (.slice as' Ls.length cs') = W9 at s9 Br9 Bw9 bel9 ⊢
        clear hWv
        have Br := Br9
        have Bw := Bw9
        have bel := bel9
        clear Br9 Bw9 bel9
        go_upto_region 7 with fail
        generalize hWW : W9 = WW at bel Br Bw s9 ⊢
        clear hWW
        have belR := Below.drew (Below.refl WW.heap.size WW)
        refine wp_region_held_drew (S := fun w' => (w'.cell? ⟨w1.heap.size, 0, none⟩ = some (.bool gs) ∧ w'.cell? ⟨w1.heap.size, 1, none⟩ = some (.slice as' Ls.length cs'))) (by kernel_rfl) ?_ (fun hHeld => ?_)
        · exact ⟨(Bw).c0, (Bw).c1⟩
        generalize WW.drew = v0 at belR hHeld ⊢
        refine tk 0 ?_ rfl (Or.inl ⟨by rfl, ?_⟩) ?_
        rotate_left
        · (intro w hSw; go_simp; try (with_reducible rfl))
        try simp only [Act.put, Ls]
        refine tk 1 ?_ rfl (Or.inl ⟨by rfl, ?_⟩) ?_
        rotate_left
        · (intro w hSw; go_simp; try (with_reducible rfl))
        try simp only [Act.put, Ls]
        refine tk 2 ?_ rfl (Or.inl ⟨by rfl, ?_⟩) ?_
        rotate_left
        · (intro w hSw; go_simp; try (with_reducible rfl))
        try simp only [Act.put, Ls]
        refine tk 3 ?_ rfl (Or.inl ⟨by rfl, ?_⟩) ?_
        rotate_left
        · (intro w hSw; (try dsimp only at hSw); obtain ⟨hS0, hS1⟩ := hSw; go_simp; try (with_reducible rfl))
        try simp only [Act.put, Ls]
        refine tk 4 ?_ rfl (Or.inl ⟨by rfl, ?_⟩) ?_
        rotate_left
        · (intro w hSw; go_simp; try (with_reducible rfl))
        try simp only [Act.put, Ls]
        refine rdy 5 rfl (fun K hK => ?_)
        go_simp
        go_at_call 98
        refine (CQ.out _).mono ?_
        rintro r v1 ⟨rfl, hb'⟩
        have hz' := belR.size
        replace belR := bel_go belR hb'
        clear hb' hz'
        refine hK.out _ _ ?_ (fun hHeld => ?_)
        · exact ⟨(Bw.below belR).c0, (Bw.below belR).c1⟩
        clear hK K
        try simp only [Act.put, Ls]
        refine rdy 6 rfl (fun K hK => ?_)
        go_simp
        go_at_call 123
        refine (CL.out as' cs' _ (s9.below belR)).mono ?_
        rintro r v2 ⟨rfl, hb'⟩
        have hz' := belR.size
        replace belR := bel_go belR hb'
        clear hb' hz'
        refine hK.out _ _ ?_ (fun hHeld => ?_)
        · exact ⟨(Bw.below belR).c0, (Bw.below belR).c1⟩
        clear hK K
        try simp only [Act.put, Ls]
        refine tk 7 ?_ rfl (Or.inl ⟨by rfl, ?_⟩) ?_
        rotate_left
        · (intro w hSw; go_simp; try (with_reducible rfl))
        try simp only [Act.put, Ls]
        refine tk 8 ?_ rfl (Or.inl ⟨by rfl, ?_⟩) ?_
        rotate_left
        · (intro w hSw; go_simp; try (with_reducible rfl))
        try simp only [Act.put, Ls]
        refine tk 9 ?_ rfl (Or.inl ⟨by rfl, ?_⟩) ?_
        rotate_left
        · (intro w hSw; go_simp; try (with_reducible rfl))
        try simp only [Act.put, Ls]
        refine rdy 10 rfl (fun K hK => ?_)
        have Br' := Br.below belR
        have ⟨y0, y1, y2, y3⟩ := Br'
        have Bw' := Bw.below belR
        go_simp
        have hne : w1.heap.size ≠ w.heap.size := by omega
        have Bw9 := (Bw'.other (p := ⟨w.heap.size, 0, none⟩) hne (.int .u64 h)).other (p := ⟨w.heap.size, 1, none⟩) hne (.int .u64 T)
        refine hK.out _ _ ?_ (fun hHeld => ?_)
        · exact ⟨Bw9.c0, Bw9.c1⟩
        clear hK K
        try simp only [Act.put, Ls]
        refine rdy 11 rfl (fun K hK => ?_)
        go_simp
        refine hK.out _ _ ?_ (fun hHeld => ?_)
        · exact ⟨Bw9.c0, Bw9.c1⟩
        clear hK K
        try simp only [Act.put, Ls]
        refine rdy 12 rfl (fun K hK => ?_)
        go_simp
        refine hK.out _ _ ?_ (fun hHeld => ?_)
        · exact ⟨Bw9.c0, Bw9.c1⟩
        clear hK K
        try simp only [Act.put, Ls]
        refine wpAnyH_done (by kernel_rfl) ?_ _
        obtain ⟨z0, z1, -, -⟩ := R2.set Br' (.int .u64 h) (.int .u64 T)
        go_wp2
        refine bodyPost_ret (v := .tuple #[.agg #[.int .u64 h, .int .u64 T], .int .i64 F, .bool true]) (by simp [results, Tryz.results38, go_sem, z0, z1]) rfl ⟨rfl, ((bel.trans (belR.mono bel.size)).setCell (by simp) _).setCell (by simp) _⟩
theorem asub_spec (fm x y : Int) (w : World) (x0 : 0 ≤ x) (x1 : x < 18446744073709551616) (y0 : 0 ≤ y) (y1 : y < 18446744073709551616) (H T F : Int) (O : Bool) (hH : H = asB fm x y) (hT : T = asT fm x y) (hF : F = asF fm x y) (hO : O = asO fm x y) :
    Calls Tryz.prog 41 #[.int .i64 fm, .int .u64 x, .int .u64 y] w fun r w' => r = .returned (.tuple #[.agg #[.int .u64 H, .int .u64 T], .int .i64 F, .bool O]) ∧ Below w.heap.size w w' := by
  have CK := hid (fun w' => spec_ok fm y w')
  cases hy : okF fm y
  · rw [hy] at CK
    have h1 : H = 0 := by rw [hH]; unfold asB; rw [hy]; rfl
    have h2 : T = 0 := by rw [hT]; unfold asT; rw [hy]; rfl
    have h3 : F = 0 := by rw [hF]; unfold asF; rw [hy]; rfl
    have h4 : O = false := by rw [hO]; unfold asO; rw [hy]; rfl
    rw [h1, h2, h3, h4]
    clear h1 h2 h3 h4 hH hT hF hO hy
    have bel := Below.refl w.heap.size w
    go_enter Tryz.func41, Tryz.ntmps41
    replace bel := bel_al bel (.cells #[.int .u64 0, .int .u64 0] 54)
    have Br := R2.new w (.int .u64 0) (.int .u64 0) 54
    obtain ⟨kr0, kr1, -, -⟩ := id Br
    go_wp2_with fail
    refine (CK.out _).mono ?_
    rintro r w1 ⟨rfl, hb⟩
    clear kr0 kr1
    replace bel := bel_go bel hb
    replace Br := Br.below hb
    clear hb
    obtain ⟨kr0, kr1, -, -⟩ := id Br
    obtain ⟨-, -, lr0, lr1⟩ := id Br
    go_wp2
    refine bodyPost_ret (v := .tuple #[.agg #[.int .u64 0, .int .u64 0], .int .i64 0, .bool false]) (by simp [results, Tryz.results41, go_sem, kr0, kr1, lr0, lr1]) rfl ⟨rfl, ((bel.setCell (by simp) _).setCell (by simp) _)⟩
  · rw [hy] at CK
    obtain ⟨n1, n2, n3⟩ := neg_ok hy y0 y1
    have h1 : H = aaB fm x (negF fm y) := by rw [hH]; unfold asB; rw [if_pos hy]
    have h2 : T = aaT fm x (negF fm y) := by rw [hT]; unfold asT; rw [if_pos hy]
    have h3 : F = aaF fm x (negF fm y) := by rw [hF]; unfold asF; rw [if_pos hy]
    have h4 : O = muO fm 5 x (negF fm y) := by rw [hO]; unfold asO; rw [hy]; rfl
    have CA := hid (fun w' => aas_spec fm x (negF fm y) w' x0 x1 n2 n3 H T F O h1 h2 h3 h4)
    have CS := hid (fun w' => sign_s fm w' (ok_fmt hy))
    have hxr := xor_negB hy y0 y1
    obtain ⟨S, h_S⟩ : ∃ q, q = sgOf fm := ⟨_, rfl⟩
    obtain ⟨ny, h_ny⟩ : ∃ q, q = negF fm y := ⟨_, rfl⟩
    rw [← h_S] at CS hxr
    rw [← h_ny] at hxr CA
    clear h1 h2 h3 h4 hH hT hF hO hy n1 n2 n3 h_S h_ny
    have bel := Below.refl w.heap.size w
    go_enter Tryz.func41, Tryz.ntmps41
    replace bel := bel_al bel (.cells #[.int .u64 0, .int .u64 0] 54)
    have Br := R2.new w (.int .u64 0) (.int .u64 0) 54
    obtain ⟨kr0, kr1, -, -⟩ := id Br
    go_wp2_with fail
    refine (CK.out _).mono ?_
    rintro r w1 ⟨rfl, hb⟩
    clear kr0 kr1
    replace bel := bel_go bel hb
    replace Br := Br.below hb
    clear hb
    obtain ⟨kr0, kr1, -, -⟩ := id Br
    go_wp2_with fail
    refine (CS.out _).mono ?_
    rintro r w2 ⟨rfl, hb⟩
    clear kr0 kr1
    replace bel := bel_go bel hb
    replace Br := Br.below hb
    clear hb

    obtain ⟨kr0, kr1, -, -⟩ := id Br
    go_wp2_with fail
    try rw [hxr]
    clear kr0 kr1
    obtain ⟨kr0, kr1, -, -⟩ := id Br
    refine (CA.out _).mono ?_
    rintro r w3 ⟨rfl, hb⟩
    clear kr0 kr1
    replace bel := bel_go bel hb
    replace Br := Br.below hb
    clear hb
    obtain ⟨kr0, kr1, -, -⟩ := id Br
    obtain ⟨-, -, lr0, lr1⟩ := id Br
    go_wp2
    refine bodyPost_ret (v := .tuple #[.agg #[.int .u64 H, .int .u64 T], .int .i64 F, .bool O]) (by simp [results, Tryz.results41, go_sem, kr0, kr1, lr0, lr1]) rfl ⟨rfl, ((bel.setCell (by simp) _).setCell (by simp) _)⟩
end Go.Proofs.YtmcflggionkhlaaGreatDoor
