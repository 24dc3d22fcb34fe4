/-
  What is needed of RI, RJ.
-/
import Derived.Test.YtpalbhkihheogaaDoorC32
import Derived.Test.YtpalbhkihheogaaDoorC42
set_option maxHeartbeats 16000000
set_option maxRecDepth 1000000
namespace Go.Proofs.YtpalbhkihheogaaDoor
set_option linter.unusedVariables false
set_option linter.unusedSimpArgs false
open Go.RowKit Go.Deep
theorem sparts_any (fm x : Int) (w : World) (hf : finB fm x = true) (h0 : 0 ≤ x) (h1 : x < 18446744073709551616) :
    Calls Tryd.prog 73 #[.int .i64 fm, .int .u64 x] w fun e w' => e = .returned (.agg #[.bool (pS fm x), .int .i64 (pM fm x), .int .i64 (pE fm x)]) ∧ Below w.heap.size w w' := by
  have ho : okF fm x = true := by
    cases ho : okF fm x
    · rw [fin_no ho] at hf; cases hf
    · rfl
  rcases okF_cases ho with ⟨rfl, hx⟩ | rfl
  · refine (spec_l2Parts32 x w h0 hx).mono ?_
    rintro e w1 ⟨rfl, hb1⟩
    exact ⟨ret_p3 (by unfold pS; rw [hf]; rfl) (by unfold pM; rw [hf]; rfl) (by unfold pE; rw [hf]; rfl), hb1⟩
  · refine (spec_l2Parts64 x w h0 h1).mono ?_
    rintro e w1 ⟨rfl, hb1⟩
    exact ⟨ret_p3 (by unfold pS; rw [hf]; rfl) (by unfold pM; rw [hf]; rfl) (by unfold pE; rw [hf]; rfl), hb1⟩
theorem pM_pos {fm x : Int} (h : cls fm x = 1 ∨ cls fm x = 2) : finB fm x = true ∧ 0 < pM fm x := by
  have hf : finB fm x = true := by unfold finB; exact decide_eq_true (by omega)
  have ho : okF fm x = true := by
    cases ho : okF fm x
    · rw [fin_no ho] at hf; cases hf
    · rfl
  refine ⟨hf, ?_⟩
  unfold pM
  rw [hf, if_pos rfl]
  rcases okF_cases ho with ⟨rfl, hx⟩ | rfl
  · rw [cls32 hx] at h
    rw [if_pos rfl]
    unfold clsY at h; unfold parM
    split at h
    · omega
    · split <;> omega
  · rw [cls64] at h
    rw [if_neg (by decide)]
    unfold clsY at h; unfold parM
    split at h
    · omega
    · split <;> omega
theorem signedM_n (ng : Bool) (m : Nat) (E : Int) (w : World) (h0 : m ≠ 0) (h1 : m < 9223372036854775808) :
    Calls Tryd.prog 63 #[.agg #[.bool ng, .int .i64 (m : Nat), .int .i64 E]] w fun e w' => ∃ a' c', e = .returned (.agg #[.bool ng, .slice a' (Nm.lim m).length c']) ∧ Own w' w.heap.size a' c' (Nm.lim m) ∧ Below w.heap.size w w' := by
  obtain ⟨z, hz⟩ : ∃ z : Int, z = (m : Int) := ⟨_, rfl⟩
  have z0 : 0 < z := by omega
  have z1 : z < 9223372036854775808 := by omega
  have e1 : Nm.wn (-z) = true := by unfold Nm.wn; exact decide_eq_true (by omega)
  have e2 : Nm.wl (-z) = Nm.lim m := by unfold Nm.wl; rw [hz]; simp
  have e3 : Nm.wn z = false := by unfold Nm.wn; exact decide_eq_false (by omega)
  have e4 : Nm.wl z = Nm.lim m := by unfold Nm.wl; rw [hz]; simp
  have CN := hid (fun w' => wof_impl (-z) w' (by omega) (by omega))
  have CP := hid (fun w' => wof_impl z w' (by omega) (by omega))
  rw [e1, e2] at CN; rw [e3, e4] at CP
  rw [← hz]
  clear e1 e2 e3 e4 hz
  cases ng with
  | true =>
    go_enter Tryd.func63, Tryd.ntmps63
    go_wp2_with fail
    refine (CN.out _).mono ?_
    rintro e w1 ⟨a', c', rfl, ho, hb⟩
    obtain ⟨r0, r1, f0, f1⟩ := (R2.new2 w (.cells #[.bool true, .int .i64 z, .int .i64 E] 39) (.bool false) (.slice none 0 0) 30).below hb
    have ho : Own w1 (w.heap.size + 1 + 1) a' c' (Nm.lim m) := by simpa using ho
    go_wp2
    refine bodyPost_ret (v := .agg #[.bool true, .slice a' (Nm.lim m).length c']) (by simp [results, Tryd.results63, go_sem, r0, r1]) rfl ⟨a', c', rfl, ?_, (by repeat (first | exact bz0 _ _ | refine bz1 ?_ | refine bz2 ?_ _ | refine bz3 ?_ _ | refine bz4 ?_ hb | refine bz5 ?_ _ | refine bz6 ?_ _ | refine bz7 ?_ hb))⟩
    exact Own.base ((ho.setBelow (by simp) _).setBelow (by simp) _) (by omega)
  | false =>
    go_enter Tryd.func63, Tryd.ntmps63
    go_wp2_with fail
    refine (CP.out _).mono ?_
    rintro e w1 ⟨a', c', rfl, ho, hb⟩
    obtain ⟨r0, r1, f0, f1⟩ := (R2.new2 w (.cells #[.bool false, .int .i64 z, .int .i64 E] 39) (.bool false) (.slice none 0 0) 30).below hb
    have ho : Own w1 (w.heap.size + 1 + 1) a' c' (Nm.lim m) := by simpa using ho
    go_wp2
    refine bodyPost_ret (v := .agg #[.bool false, .slice a' (Nm.lim m).length c']) (by simp [results, Tryd.results63, go_sem, r0, r1]) rfl ⟨a', c', rfl, ?_, (by repeat (first | exact bz0 _ _ | refine bz1 ?_ | refine bz2 ?_ _ | refine bz3 ?_ _ | refine bz4 ?_ hb | refine bz5 ?_ _ | refine bz6 ?_ _ | refine bz7 ?_ hb))⟩
    exact Own.base ((ho.setBelow (by simp) _).setBelow (by simp) _) (by omega)
def CvO (fr tt mode x : Int) : Bool := fmtB tt && modeB mode && okF fr x
def CvB (fr tt mode x : Int) : Int := if CvO fr tt mode x then (if cls fr x = 0 then sgn (sgOf tt) 0 (sigB fr x) else if cls fr x = 3 then sgn (sgOf tt) (infOf tt) (sigB fr x) else if cls fr x = 4 then nanOf tt else if cls fr x = 5 then nanOf tt else if tt = 32 then rdB 24 (-149) 2139095040 2147483648 mode (sigB fr x) (pM fr x).toNat (pE fr x) else rdB 53 (-1074) 9218868437227405312 9223372036854775808 mode (sigB fr x) (pM fr x).toNat (pE fr x)) else 0
def CvF (fr tt mode x : Int) : Int := if CvO fr tt mode x then (if cls fr x = 0 then 0 else if cls fr x = 3 then 0 else if cls fr x = 4 then 0 else if cls fr x = 5 then 8 else if tt = 32 then rdF 24 (-149) 2139095040 mode (sigB fr x) (pM fr x).toNat (pE fr x) else rdF 53 (-1074) 9218868437227405312 mode (sigB fr x) (pM fr x).toNat (pE fr x)) else 0
theorem Cv_no {fr tt mode x : Int} (h : CvO fr tt mode x = false) : CvB fr tt mode x = 0 ∧ CvF fr tt mode x = 0 := by unfold CvB CvF; rw [h]; exact ⟨rfl, rfl⟩
theorem cls_cases {fm x : Int} (h : okF fm x = true) : cls fm x = 0 ∨ cls fm x = 3 ∨ cls fm x = 4 ∨ cls fm x = 5 ∨ (cls fm x = 1 ∨ cls fm x = 2) := by
  have hr := cls_rng fm x
  have : cls fm x ≠ -1 := by
    intro h1
    rcases okF_cases h with ⟨rfl, hx⟩ | rfl
    · rw [cls32 hx] at h1; have := clsY_rng 8388608 2139095040 4194304 (x % 2147483648); omega
    · rw [cls64] at h1; have := clsY_rng 4503599627370496 9218868437227405312 2251799813685248 (x % 9223372036854775808); omega
  omega
theorem conv_impl (fr tt mode x : Int) (w : World) (hT : T3 w) (x0 : 0 ≤ x) (x1 : x < 18446744073709551616) :
    Calls Tryd.prog 29 #[.int .i64 fr, .int .i64 tt, .int .i64 mode, .int .u64 x] w fun r w' => r = .returned (.tuple #[.int .u64 (CvB fr tt mode x), .int .i64 (CvF fr tt mode x), .bool (CvO fr tt mode x)]) ∧ Below w.heap.size w w' := by
  have CM := hid (fun w' => mode_impl mode w')
  have CK := hid (fun w' h => impl_ok fr x w' h x0 x1)
  have CS := hid (fun w' h => impl_sig fr x w' h x0 x1)
  have CC := hid (fun w' h => impl_cls fr x w' h x0 x1)
  have CP := hid (fun w' h => impl_parts fr x w' h x0 x1)
  cases k1 : fmtB tt
  · obtain ⟨f1, f2⟩ := fmt_no k1
    have HO : Hid (CvO fr tt mode x = false) := hid (by unfold CvO; rw [k1]; rfl)
    have HR := hid (Cv_no HO.out)
    clear k1
    go_enter Tryd.func29, Tryd.ntmps29
    go_wp2_with fail
    refine (sizes0 tt _ hT.s.f f1 f2).mono ?_
    rintro r w1 ⟨rfl, hb1⟩
    go_wp2
    go_ret3
    exact ⟨ret_uib2 HR.out.1.symm HR.out.2.symm HO.out.symm, (by repeat (first | exact bz0 _ _ | refine bz1 ?_ | refine bz2 ?_ _ | refine bz3 ?_ _ | refine bz4 ?_ hb1 | refine bz5 ?_ _ | refine bz6 ?_ _ | refine bz7 ?_ hb1))⟩
  rcases fmt_cases k1 with rfl | rfl
  · cases k2 : modeB mode
    · have HO : Hid (CvO fr 32 mode x = false) := hid (by unfold CvO; rw [k2]; simp)
      have HR := hid (Cv_no HO.out)
      rw [k2] at CM
      clear k1 k2
      go_enter Tryd.func29, Tryd.ntmps29
      go_wp2_with fail
      refine (sizes32 _ hT.s.f).mono ?_
      rintro r w1 ⟨rfl, hb1⟩
      go_wp2_with fail
      refine (CM.out _).mono ?_
      rintro r w2 ⟨rfl, rfl⟩
      go_wp2
      go_ret3
      exact ⟨ret_uib2 HR.out.1.symm HR.out.2.symm HO.out.symm, (by repeat (first | exact bz0 _ _ | refine bz1 ?_ | refine bz2 ?_ _ | refine bz3 ?_ _ | refine bz4 ?_ hb1 | refine bz5 ?_ _ | refine bz6 ?_ _ | refine bz7 ?_ hb1))⟩
    rw [k2] at CM
    cases k3 : okF fr x
    · have HO : Hid (CvO fr 32 mode x = false) := hid (by unfold CvO; rw [k3]; simp)
      have HR := hid (Cv_no HO.out)
      rw [k3] at CK
      clear k1 k2 k3
      go_enter Tryd.func29, Tryd.ntmps29
      go_wp2_with fail
      refine (sizes32 _ hT.s.f).mono ?_
      rintro r w1 ⟨rfl, hb1⟩
      go_wp2_with fail
      refine (CM.out _).mono ?_
      rintro r w2 ⟨rfl, rfl⟩
      go_wp2_with fail
      refine (CK.out _ ((hT.s.f.below hb1).al _)).mono ?_
      rintro r w3 ⟨rfl, hb3⟩
      go_wp2
      go_ret3
      exact ⟨ret_uib2 HR.out.1.symm HR.out.2.symm HO.out.symm, (by repeat (first | exact bz0 _ _ | refine bz1 ?_ | refine bz2 ?_ _ | refine bz3 ?_ _ | refine bz4 ?_ hb3 | refine bz4 ?_ hb1 | refine bz5 ?_ _ | refine bz6 ?_ _ | refine bz7 ?_ hb3 | refine bz7 ?_ hb1))⟩
    have hO : CvO fr 32 mode x = true := by unfold CvO; rw [k1, k2, k3]; rfl
    have HO := hid hO
    rw [k3] at CK
    obtain ⟨sg, hsg⟩ : ∃ sg, sg = sigB fr x := ⟨_, rfl⟩
    rw [← hsg] at CS
    have HMD := hid k2
    rcases cls_cases k3 with hc | hc | hc | hc | hc
    · have HB : Hid (CvB fr 32 mode x = sgn 2147483648 0 sg) := hid (by unfold CvB; rw [hO, if_pos rfl, if_pos hc, ← hsg]; rfl)
      have HF : Hid (CvF fr 32 mode x = 0) := hid (by unfold CvF; rw [hO, if_pos rfl, if_pos hc])
      rw [hc] at CC
      clear k1 k2 k3 hO hsg hc
      go_enter Tryd.func29, Tryd.ntmps29
      go_wp2_with fail
      refine (sizes32 _ hT.s.f).mono ?_
      rintro r w1 ⟨rfl, hb1⟩
      go_wp2_with fail
      refine (CM.out _).mono ?_
      rintro r w2 ⟨rfl, rfl⟩
      have T2 := (hT.below hb1).al (.cells #[.int .u64 23, .int .u64 255, .int .i64 (-149)] 84)
      go_wp2_with fail
      refine (CK.out _ T2.s.f).mono ?_
      rintro r w3 ⟨rfl, hb3⟩
      have T3' := T2.below hb3
      go_wp2_with fail
      refine (CS.out _ T3'.s.f).mono ?_
      rintro r w4 ⟨rfl, hb4⟩
      have T4 := T3'.below hb4
      go_wp2_with fail
      refine (CC.out _ T4.s.f).mono ?_
      rintro r w5 ⟨rfl, hb5⟩
      have T5 := T4.below hb5
      have bel5 : Below w.heap.size w w5 := (by repeat (first | exact bz0 _ _ | refine bz1 ?_ | refine bz2 ?_ _ | refine bz3 ?_ _ | refine bz4 ?_ hb5 | refine bz4 ?_ hb4 | refine bz4 ?_ hb3 | refine bz4 ?_ hb1 | refine bz5 ?_ _ | refine bz6 ?_ _ | refine bz7 ?_ hb5 | refine bz7 ?_ hb4 | refine bz7 ?_ hb3 | refine bz7 ?_ hb1))
      clear hb1 hb3 hb4 hb5 T2 T3' T4
      go_wp2_with fail
      refine (impl_Zero32 sg _ T5.s.f).mono ?_
      rintro r w6 ⟨rfl, hb6⟩
      go_wp2
      go_ret3
      exact ⟨ret_uib2 HB.out.symm HF.out.symm HO.out.symm, (by repeat (first | exact bz0 _ _ | refine bz1 ?_ | refine bz2 ?_ _ | refine bz3 ?_ _ | refine bz4 ?_ hb6 | refine bz4 ?_ bel5 | refine bz5 ?_ _ | refine bz6 ?_ _ | refine bz7 ?_ hb6 | refine bz7 ?_ bel5))⟩
    · have HB : Hid (CvB fr 32 mode x = sgn 2147483648 2139095040 sg) := hid (by unfold CvB; rw [hO, if_pos rfl, if_neg (by omega), if_pos hc, ← hsg]; rfl)
      have HF : Hid (CvF fr 32 mode x = 0) := hid (by unfold CvF; rw [hO, if_pos rfl, if_neg (by omega), if_pos hc])
      rw [hc] at CC
      clear k1 k2 k3 hO hsg hc
      go_enter Tryd.func29, Tryd.ntmps29
      go_wp2_with fail
      refine (sizes32 _ hT.s.f).mono ?_
      rintro r w1 ⟨rfl, hb1⟩
      go_wp2_with fail
      refine (CM.out _).mono ?_
      rintro r w2 ⟨rfl, rfl⟩
      have T2 := (hT.below hb1).al (.cells #[.int .u64 23, .int .u64 255, .int .i64 (-149)] 84)
      go_wp2_with fail
      refine (CK.out _ T2.s.f).mono ?_
      rintro r w3 ⟨rfl, hb3⟩
      have T3' := T2.below hb3
      go_wp2_with fail
      refine (CS.out _ T3'.s.f).mono ?_
      rintro r w4 ⟨rfl, hb4⟩
      have T4 := T3'.below hb4
      go_wp2_with fail
      refine (CC.out _ T4.s.f).mono ?_
      rintro r w5 ⟨rfl, hb5⟩
      have T5 := T4.below hb5
      have bel5 : Below w.heap.size w w5 := (by repeat (first | exact bz0 _ _ | refine bz1 ?_ | refine bz2 ?_ _ | refine bz3 ?_ _ | refine bz4 ?_ hb5 | refine bz4 ?_ hb4 | refine bz4 ?_ hb3 | refine bz4 ?_ hb1 | refine bz5 ?_ _ | refine bz6 ?_ _ | refine bz7 ?_ hb5 | refine bz7 ?_ hb4 | refine bz7 ?_ hb3 | refine bz7 ?_ hb1))
      clear hb1 hb3 hb4 hb5 T2 T3' T4
      go_wp2_with fail
      refine (impl_Inf32 sg _ T5.s.f).mono ?_
      rintro r w6 ⟨rfl, hb6⟩
      go_wp2
      go_ret3
      exact ⟨ret_uib2 HB.out.symm HF.out.symm HO.out.symm, (by repeat (first | exact bz0 _ _ | refine bz1 ?_ | refine bz2 ?_ _ | refine bz3 ?_ _ | refine bz4 ?_ hb6 | refine bz4 ?_ bel5 | refine bz5 ?_ _ | refine bz6 ?_ _ | refine bz7 ?_ hb6 | refine bz7 ?_ bel5))⟩
    · have HB : Hid (CvB fr 32 mode x = 2143289344) := hid (by unfold CvB; rw [hO, if_pos rfl, if_neg (by omega), if_neg (by omega), if_pos hc]; rfl)
      have HF : Hid (CvF fr 32 mode x = 0) := hid (by unfold CvF; rw [hO, if_pos rfl, if_neg (by omega), if_neg (by omega), if_pos hc])
      rw [hc] at CC
      clear k1 k2 k3 hO hsg hc
      go_enter Tryd.func29, Tryd.ntmps29
      go_wp2_with fail
      refine (sizes32 _ hT.s.f).mono ?_
      rintro r w1 ⟨rfl, hb1⟩
      go_wp2_with fail
      refine (CM.out _).mono ?_
      rintro r w2 ⟨rfl, rfl⟩
      have T2 := (hT.below hb1).al (.cells #[.int .u64 23, .int .u64 255, .int .i64 (-149)] 84)
      go_wp2_with fail
      refine (CK.out _ T2.s.f).mono ?_
      rintro r w3 ⟨rfl, hb3⟩
      have T3' := T2.below hb3
      go_wp2_with fail
      refine (CS.out _ T3'.s.f).mono ?_
      rintro r w4 ⟨rfl, hb4⟩
      have T4 := T3'.below hb4
      go_wp2_with fail
      refine (CC.out _ T4.s.f).mono ?_
      rintro r w5 ⟨rfl, hb5⟩
      have T5 := T4.below hb5
      have bel5 : Below w.heap.size w w5 := (by repeat (first | exact bz0 _ _ | refine bz1 ?_ | refine bz2 ?_ _ | refine bz3 ?_ _ | refine bz4 ?_ hb5 | refine bz4 ?_ hb4 | refine bz4 ?_ hb3 | refine bz4 ?_ hb1 | refine bz5 ?_ _ | refine bz6 ?_ _ | refine bz7 ?_ hb5 | refine bz7 ?_ hb4 | refine bz7 ?_ hb3 | refine bz7 ?_ hb1))
      clear hb1 hb3 hb4 hb5 T2 T3' T4
      go_wp2_with fail
      refine (impl_nan32 _ T5.s.f).mono ?_
      rintro r w6 ⟨rfl, hb6⟩
      go_wp2
      go_ret3
      exact ⟨ret_uib2 HB.out.symm HF.out.symm HO.out.symm, (by repeat (first | exact bz0 _ _ | refine bz1 ?_ | refine bz2 ?_ _ | refine bz3 ?_ _ | refine bz4 ?_ hb6 | refine bz4 ?_ bel5 | refine bz5 ?_ _ | refine bz6 ?_ _ | refine bz7 ?_ hb6 | refine bz7 ?_ bel5))⟩
    · have HB : Hid (CvB fr 32 mode x = 2143289344) := hid (by unfold CvB; rw [hO, if_pos rfl, if_neg (by omega), if_neg (by omega), if_neg (by omega), if_pos hc]; rfl)
      have HF : Hid (CvF fr 32 mode x = 8) := hid (by unfold CvF; rw [hO, if_pos rfl, if_neg (by omega), if_neg (by omega), if_neg (by omega), if_pos hc])
      rw [hc] at CC
      clear k1 k2 k3 hO hsg hc
      go_enter Tryd.func29, Tryd.ntmps29
      go_wp2_with fail
      refine (sizes32 _ hT.s.f).mono ?_
      rintro r w1 ⟨rfl, hb1⟩
      go_wp2_with fail
      refine (CM.out _).mono ?_
      rintro r w2 ⟨rfl, rfl⟩
      have T2 := (hT.below hb1).al (.cells #[.int .u64 23, .int .u64 255, .int .i64 (-149)] 84)
      go_wp2_with fail
      refine (CK.out _ T2.s.f).mono ?_
      rintro r w3 ⟨rfl, hb3⟩
      have T3' := T2.below hb3
      go_wp2_with fail
      refine (CS.out _ T3'.s.f).mono ?_
      rintro r w4 ⟨rfl, hb4⟩
      have T4 := T3'.below hb4
      go_wp2_with fail
      refine (CC.out _ T4.s.f).mono ?_
      rintro r w5 ⟨rfl, hb5⟩
      have T5 := T4.below hb5
      have bel5 : Below w.heap.size w w5 := (by repeat (first | exact bz0 _ _ | refine bz1 ?_ | refine bz2 ?_ _ | refine bz3 ?_ _ | refine bz4 ?_ hb5 | refine bz4 ?_ hb4 | refine bz4 ?_ hb3 | refine bz4 ?_ hb1 | refine bz5 ?_ _ | refine bz6 ?_ _ | refine bz7 ?_ hb5 | refine bz7 ?_ hb4 | refine bz7 ?_ hb3 | refine bz7 ?_ hb1))
      clear hb1 hb3 hb4 hb5 T2 T3' T4
      go_wp2_with fail
      refine (impl_nan32 _ T5.s.f).mono ?_
      rintro r w6 ⟨rfl, hb6⟩
      go_wp2
      go_ret3
      exact ⟨ret_uib2 HB.out.symm HF.out.symm HO.out.symm, (by repeat (first | exact bz0 _ _ | refine bz1 ?_ | refine bz2 ?_ _ | refine bz3 ?_ _ | refine bz4 ?_ hb6 | refine bz4 ?_ bel5 | refine bz5 ?_ _ | refine bz6 ?_ _ | refine bz7 ?_ hb6 | refine bz7 ?_ bel5))⟩
    · obtain ⟨hfin, hpos⟩ := pM_pos hc
      have hbd := pM_bd fr x
      have hbe := pE_bd fr x
      obtain ⟨m, hm⟩ : ∃ m : Nat, pM fr x = m := ⟨(pM fr x).toNat, by omega⟩
      have hm0 : m ≠ 0 := by omega
      have hbl : bitLen m ≤ 64 := (Nm.bl_le_iff m 64).2 (by omega)
      obtain ⟨E, hE⟩ : ∃ E : Int, E = pE fr x := ⟨_, rfl⟩
      have hps : pS fr x = sg := by unfold pS; rw [hfin, if_pos rfl, hsg]
      have HB : Hid (CvB fr 32 mode x = rdB 24 (-149) 2139095040 2147483648 mode sg m E) := hid (by unfold CvB; rw [hO, if_pos rfl, if_neg (by omega), if_neg (by omega), if_neg (by omega), if_neg (by omega), ← hsg, hm, Int.toNat_natCast, ← hE]; rfl)
      have HF : Hid (CvF fr 32 mode x = rdF 24 (-149) 2139095040 mode sg m E) := hid (by unfold CvF; rw [hO, if_pos rfl, if_neg (by omega), if_neg (by omega), if_neg (by omega), if_neg (by omega), ← hsg, hm, Int.toNat_natCast, ← hE]; rfl)
      rw [hfin, hps, hm, ← hE] at CP
      have CG := hid (fun w' => signedM_n sg m E w' hm0 (by omega))
      have CR := hid (fun a c w' h h' => rnd_32 mode sg m E a c w' h h' HMD.out hm0 (by omega) (by omega) (by omega))
      rw [← HB.out, ← HF.out] at CR
      obtain ⟨z, hz⟩ : ∃ z : Int, z = ((m : Nat) : Int) := ⟨_, rfl⟩
      rw [← hz] at CG CP
      obtain ⟨cc, hcc⟩ : ∃ cc, cc = cls fr x := ⟨_, rfl⟩
      rw [← hcc] at CC
      have hc' : cc = 1 ∨ cc = 2 := by rw [hcc]; exact hc
      have HM := hid hm
      clear k1 k2 k3 hO hsg hc hfin hpos hbd hm0 hbl hps hm hz hcc
      have g0 : (cc == 0) = false := by rw [beq_eq_false_iff_ne]; omega
      have g3 : (cc == 3) = false := by rw [beq_eq_false_iff_ne]; omega
      have g4 : (cc == 4) = false := by rw [beq_eq_false_iff_ne]; omega
      have g5 : (cc == 5) = false := by rw [beq_eq_false_iff_ne]; omega
      clear hc' hbe hE
      go_enter Tryd.func29, Tryd.ntmps29
      go_wp2_with fail
      refine (sizes32 _ hT.s.f).mono ?_
      rintro r w1 ⟨rfl, hb1⟩
      go_wp2_with fail
      refine (CM.out _).mono ?_
      rintro r w2 ⟨rfl, rfl⟩
      have T2 := (hT.below hb1).al (.cells #[.int .u64 23, .int .u64 255, .int .i64 (-149)] 84)
      go_wp2_with fail
      refine (CK.out _ T2.s.f).mono ?_
      rintro r w3 ⟨rfl, hb3⟩
      have T3' := T2.below hb3
      go_wp2_with fail
      refine (CS.out _ T3'.s.f).mono ?_
      rintro r w4 ⟨rfl, hb4⟩
      have T4 := T3'.below hb4
      go_wp2_with fail
      refine (CC.out _ T4.s.f).mono ?_
      rintro r w5 ⟨rfl, hb5⟩
      have T5 := T4.below hb5
      have bel5 : Below w.heap.size w w5 := (by repeat (first | exact bz0 _ _ | refine bz1 ?_ | refine bz2 ?_ _ | refine bz3 ?_ _ | refine bz4 ?_ hb5 | refine bz4 ?_ hb4 | refine bz4 ?_ hb3 | refine bz4 ?_ hb1 | refine bz5 ?_ _ | refine bz6 ?_ _ | refine bz7 ?_ hb5 | refine bz7 ?_ hb4 | refine bz7 ?_ hb3 | refine bz7 ?_ hb1))
      clear hb1 hb3 hb4 hb5 T2 T3' T4
      go_wp2_with fail
      refine (CP.out _ T5.s.f).mono ?_
      rintro r w6 ⟨rfl, hb6⟩
      have T6 := (T5.below hb6).al (.cells #[.bool sg, .int .i64 z, .int .i64 E] 39)
      have bel6 := bel_al (bel_go bel5 hb6) (.cells #[.bool sg, .int .i64 z, .int .i64 E] 39)
      obtain ⟨r20, r21, r22, r2f, r2g, r2h⟩ := R3.new w6 (.bool sg) (.int .i64 z) (.int .i64 E) 39
      go_wp2_with fail
      go_region_held3 (fun w' => w'.cell? ⟨w6.heap.size, 0, none⟩ = some (.bool sg) ∧ w'.cell? ⟨w6.heap.size, 1, none⟩ = some (.int .i64 z) ∧ w'.cell? ⟨w6.heap.size, 2, none⟩ = some (.int .i64 E))
        (first
          | assumption
          | exact ⟨r20, r21, r22⟩
          | exact ⟨rr1.c0, rr1.c1, rr1.c2⟩
          | exact ⟨rr2.c0, rr2.c1, rr2.c2⟩)
        (first
          | (go_at_call 63; refine (CG.out _).mono ?_; rintro r q1 ⟨d1, f1, rfl, hp1, hq1⟩; have rr1 := R3.below (R3.dr ⟨r20, r21, r22, r2f, r2g, r2h⟩) hq1; have T7 := T6.dr.below hq1)
          | (go_at_call 36; refine (CR.out d1 f1 _ T7 hp1.sl).mono ?_; rintro r q2 ⟨rfl, hq2⟩; have rr2 := R3.below rr1 hq2))
      go_wp2
      go_ret3
      exact ⟨ret_uib2 rfl rfl HO.out.symm, (by repeat (first | exact bz0 _ _ | refine bz1 ?_ | refine bz2 ?_ _ | refine bz3 ?_ _ | refine bz4 ?_ hq2 | refine bz4 ?_ hq1 | refine bz4 ?_ hb6 | refine bz4 ?_ bel5 | refine bz5 ?_ _ | refine bz6 ?_ _ | refine bz7 ?_ hq2 | refine bz7 ?_ hq1 | refine bz7 ?_ hb6 | refine bz7 ?_ bel5))⟩
  · cases k2 : modeB mode
    · have HO : Hid (CvO fr 64 mode x = false) := hid (by unfold CvO; rw [k2]; simp)
      have HR := hid (Cv_no HO.out)
      rw [k2] at CM
      clear k1 k2
      go_enter Tryd.func29, Tryd.ntmps29
      go_wp2_with fail
      refine (sizes64 _ hT.s.f).mono ?_
      rintro r w1 ⟨rfl, hb1⟩
      go_wp2_with fail
      refine (CM.out _).mono ?_
      rintro r w2 ⟨rfl, rfl⟩
      go_wp2
      go_ret3
      exact ⟨ret_uib2 HR.out.1.symm HR.out.2.symm HO.out.symm, (by repeat (first | exact bz0 _ _ | refine bz1 ?_ | refine bz2 ?_ _ | refine bz3 ?_ _ | refine bz4 ?_ hb1 | refine bz5 ?_ _ | refine bz6 ?_ _ | refine bz7 ?_ hb1))⟩
    rw [k2] at CM
    cases k3 : okF fr x
    · have HO : Hid (CvO fr 64 mode x = false) := hid (by unfold CvO; rw [k3]; simp)
      have HR := hid (Cv_no HO.out)
      rw [k3] at CK
      clear k1 k2 k3
      go_enter Tryd.func29, Tryd.ntmps29
      go_wp2_with fail
      refine (sizes64 _ hT.s.f).mono ?_
      rintro r w1 ⟨rfl, hb1⟩
      go_wp2_with fail
      refine (CM.out _).mono ?_
      rintro r w2 ⟨rfl, rfl⟩
      go_wp2_with fail
      refine (CK.out _ ((hT.s.f.below hb1).al _)).mono ?_
      rintro r w3 ⟨rfl, hb3⟩
      go_wp2
      go_ret3
      exact ⟨ret_uib2 HR.out.1.symm HR.out.2.symm HO.out.symm, (by repeat (first | exact bz0 _ _ | refine bz1 ?_ | refine bz2 ?_ _ | refine bz3 ?_ _ | refine bz4 ?_ hb3 | refine bz4 ?_ hb1 | refine bz5 ?_ _ | refine bz6 ?_ _ | refine bz7 ?_ hb3 | refine bz7 ?_ hb1))⟩
    have hO : CvO fr 64 mode x = true := by unfold CvO; rw [k1, k2, k3]; rfl
    have HO := hid hO
    rw [k3] at CK
    obtain ⟨sg, hsg⟩ : ∃ sg, sg = sigB fr x := ⟨_, rfl⟩
    rw [← hsg] at CS
    have HMD := hid k2
    rcases cls_cases k3 with hc | hc | hc | hc | hc
    · have HB : Hid (CvB fr 64 mode x = sgn 9223372036854775808 0 sg) := hid (by unfold CvB; rw [hO, if_pos rfl, if_pos hc, ← hsg]; rfl)
      have HF : Hid (CvF fr 64 mode x = 0) := hid (by unfold CvF; rw [hO, if_pos rfl, if_pos hc])
      rw [hc] at CC
      clear k1 k2 k3 hO hsg hc
      go_enter Tryd.func29, Tryd.ntmps29
      go_wp2_with fail
      refine (sizes64 _ hT.s.f).mono ?_
      rintro r w1 ⟨rfl, hb1⟩
      go_wp2_with fail
      refine (CM.out _).mono ?_
      rintro r w2 ⟨rfl, rfl⟩
      have T2 := (hT.below hb1).al (.cells #[.int .u64 52, .int .u64 2047, .int .i64 (-1074)] 84)
      go_wp2_with fail
      refine (CK.out _ T2.s.f).mono ?_
      rintro r w3 ⟨rfl, hb3⟩
      have T3' := T2.below hb3
      go_wp2_with fail
      refine (CS.out _ T3'.s.f).mono ?_
      rintro r w4 ⟨rfl, hb4⟩
      have T4 := T3'.below hb4
      go_wp2_with fail
      refine (CC.out _ T4.s.f).mono ?_
      rintro r w5 ⟨rfl, hb5⟩
      have T5 := T4.below hb5
      have bel5 : Below w.heap.size w w5 := (by repeat (first | exact bz0 _ _ | refine bz1 ?_ | refine bz2 ?_ _ | refine bz3 ?_ _ | refine bz4 ?_ hb5 | refine bz4 ?_ hb4 | refine bz4 ?_ hb3 | refine bz4 ?_ hb1 | refine bz5 ?_ _ | refine bz6 ?_ _ | refine bz7 ?_ hb5 | refine bz7 ?_ hb4 | refine bz7 ?_ hb3 | refine bz7 ?_ hb1))
      clear hb1 hb3 hb4 hb5 T2 T3' T4
      go_wp2_with fail
      refine (impl_Zero64 sg _ T5.s.f).mono ?_
      rintro r w6 ⟨rfl, hb6⟩
      go_wp2
      go_ret3
      exact ⟨ret_uib2 HB.out.symm HF.out.symm HO.out.symm, (by repeat (first | exact bz0 _ _ | refine bz1 ?_ | refine bz2 ?_ _ | refine bz3 ?_ _ | refine bz4 ?_ hb6 | refine bz4 ?_ bel5 | refine bz5 ?_ _ | refine bz6 ?_ _ | refine bz7 ?_ hb6 | refine bz7 ?_ bel5))⟩
    · have HB : Hid (CvB fr 64 mode x = sgn 9223372036854775808 9218868437227405312 sg) := hid (by unfold CvB; rw [hO, if_pos rfl, if_neg (by omega), if_pos hc, ← hsg]; rfl)
      have HF : Hid (CvF fr 64 mode x = 0) := hid (by unfold CvF; rw [hO, if_pos rfl, if_neg (by omega), if_pos hc])
      rw [hc] at CC
      clear k1 k2 k3 hO hsg hc
      go_enter Tryd.func29, Tryd.ntmps29
      go_wp2_with fail
      refine (sizes64 _ hT.s.f).mono ?_
      rintro r w1 ⟨rfl, hb1⟩
      go_wp2_with fail
      refine (CM.out _).mono ?_
      rintro r w2 ⟨rfl, rfl⟩
      have T2 := (hT.below hb1).al (.cells #[.int .u64 52, .int .u64 2047, .int .i64 (-1074)] 84)
      go_wp2_with fail
      refine (CK.out _ T2.s.f).mono ?_
      rintro r w3 ⟨rfl, hb3⟩
      have T3' := T2.below hb3
      go_wp2_with fail
      refine (CS.out _ T3'.s.f).mono ?_
      rintro r w4 ⟨rfl, hb4⟩
      have T4 := T3'.below hb4
      go_wp2_with fail
      refine (CC.out _ T4.s.f).mono ?_
      rintro r w5 ⟨rfl, hb5⟩
      have T5 := T4.below hb5
      have bel5 : Below w.heap.size w w5 := (by repeat (first | exact bz0 _ _ | refine bz1 ?_ | refine bz2 ?_ _ | refine bz3 ?_ _ | refine bz4 ?_ hb5 | refine bz4 ?_ hb4 | refine bz4 ?_ hb3 | refine bz4 ?_ hb1 | refine bz5 ?_ _ | refine bz6 ?_ _ | refine bz7 ?_ hb5 | refine bz7 ?_ hb4 | refine bz7 ?_ hb3 | refine bz7 ?_ hb1))
      clear hb1 hb3 hb4 hb5 T2 T3' T4
      go_wp2_with fail
      refine (impl_Inf64 sg _ T5.s.f).mono ?_
      rintro r w6 ⟨rfl, hb6⟩
      go_wp2
      go_ret3
      exact ⟨ret_uib2 HB.out.symm HF.out.symm HO.out.symm, (by repeat (first | exact bz0 _ _ | refine bz1 ?_ | refine bz2 ?_ _ | refine bz3 ?_ _ | refine bz4 ?_ hb6 | refine bz4 ?_ bel5 | refine bz5 ?_ _ | refine bz6 ?_ _ | refine bz7 ?_ hb6 | refine bz7 ?_ bel5))⟩
    · have HB : Hid (CvB fr 64 mode x = 9221120237041090560) := hid (by unfold CvB; rw [hO, if_pos rfl, if_neg (by omega), if_neg (by omega), if_pos hc]; rfl)
      have HF : Hid (CvF fr 64 mode x = 0) := hid (by unfold CvF; rw [hO, if_pos rfl, if_neg (by omega), if_neg (by omega), if_pos hc])
      rw [hc] at CC
      clear k1 k2 k3 hO hsg hc
      go_enter Tryd.func29, Tryd.ntmps29
      go_wp2_with fail
      refine (sizes64 _ hT.s.f).mono ?_
      rintro r w1 ⟨rfl, hb1⟩
      go_wp2_with fail
      refine (CM.out _).mono ?_
      rintro r w2 ⟨rfl, rfl⟩
      have T2 := (hT.below hb1).al (.cells #[.int .u64 52, .int .u64 2047, .int .i64 (-1074)] 84)
      go_wp2_with fail
      refine (CK.out _ T2.s.f).mono ?_
      rintro r w3 ⟨rfl, hb3⟩
      have T3' := T2.below hb3
      go_wp2_with fail
      refine (CS.out _ T3'.s.f).mono ?_
      rintro r w4 ⟨rfl, hb4⟩
      have T4 := T3'.below hb4
      go_wp2_with fail
      refine (CC.out _ T4.s.f).mono ?_
      rintro r w5 ⟨rfl, hb5⟩
      have T5 := T4.below hb5
      have bel5 : Below w.heap.size w w5 := (by repeat (first | exact bz0 _ _ | refine bz1 ?_ | refine bz2 ?_ _ | refine bz3 ?_ _ | refine bz4 ?_ hb5 | refine bz4 ?_ hb4 | refine bz4 ?_ hb3 | refine bz4 ?_ hb1 | refine bz5 ?_ _ | refine bz6 ?_ _ | refine bz7 ?_ hb5 | refine bz7 ?_ hb4 | refine bz7 ?_ hb3 | refine bz7 ?_ hb1))
      clear hb1 hb3 hb4 hb5 T2 T3' T4
      go_wp2_with fail
      refine (impl_nan64 _ T5.s.f).mono ?_
      rintro r w6 ⟨rfl, hb6⟩
      go_wp2
      go_ret3
      exact ⟨ret_uib2 HB.out.symm HF.out.symm HO.out.symm, (by repeat (first | exact bz0 _ _ | refine bz1 ?_ | refine bz2 ?_ _ | refine bz3 ?_ _ | refine bz4 ?_ hb6 | refine bz4 ?_ bel5 | refine bz5 ?_ _ | refine bz6 ?_ _ | refine bz7 ?_ hb6 | refine bz7 ?_ bel5))⟩
    · have HB : Hid (CvB fr 64 mode x = 9221120237041090560) := hid (by unfold CvB; rw [hO, if_pos rfl, if_neg (by omega), if_neg (by omega), if_neg (by omega), if_pos hc]; rfl)
      have HF : Hid (CvF fr 64 mode x = 8) := hid (by unfold CvF; rw [hO, if_pos rfl, if_neg (by omega), if_neg (by omega), if_neg (by omega), if_pos hc])
      rw [hc] at CC
      clear k1 k2 k3 hO hsg hc
      go_enter Tryd.func29, Tryd.ntmps29
      go_wp2_with fail
      refine (sizes64 _ hT.s.f).mono ?_
      rintro r w1 ⟨rfl, hb1⟩
      go_wp2_with fail
      refine (CM.out _).mono ?_
      rintro r w2 ⟨rfl, rfl⟩
      have T2 := (hT.below hb1).al (.cells #[.int .u64 52, .int .u64 2047, .int .i64 (-1074)] 84)
      go_wp2_with fail
      refine (CK.out _ T2.s.f).mono ?_
      rintro r w3 ⟨rfl, hb3⟩
      have T3' := T2.below hb3
      go_wp2_with fail
      refine (CS.out _ T3'.s.f).mono ?_
      rintro r w4 ⟨rfl, hb4⟩
      have T4 := T3'.below hb4
      go_wp2_with fail
      refine (CC.out _ T4.s.f).mono ?_
      rintro r w5 ⟨rfl, hb5⟩
      have T5 := T4.below hb5
      have bel5 : Below w.heap.size w w5 := (by repeat (first | exact bz0 _ _ | refine bz1 ?_ | refine bz2 ?_ _ | refine bz3 ?_ _ | refine bz4 ?_ hb5 | refine bz4 ?_ hb4 | refine bz4 ?_ hb3 | refine bz4 ?_ hb1 | refine bz5 ?_ _ | refine bz6 ?_ _ | refine bz7 ?_ hb5 | refine bz7 ?_ hb4 | refine bz7 ?_ hb3 | refine bz7 ?_ hb1))
      clear hb1 hb3 hb4 hb5 T2 T3' T4
      go_wp2_with fail
      refine (impl_nan64 _ T5.s.f).mono ?_
      rintro r w6 ⟨rfl, hb6⟩
      go_wp2
      go_ret3
      exact ⟨ret_uib2 HB.out.symm HF.out.symm HO.out.symm, (by repeat (first | exact bz0 _ _ | refine bz1 ?_ | refine bz2 ?_ _ | refine bz3 ?_ _ | refine bz4 ?_ hb6 | refine bz4 ?_ bel5 | refine bz5 ?_ _ | refine bz6 ?_ _ | refine bz7 ?_ hb6 | refine bz7 ?_ bel5))⟩
    · obtain ⟨hfin, hpos⟩ := pM_pos hc
      have hbd := pM_bd fr x
      have hbe := pE_bd fr x
      obtain ⟨m, hm⟩ : ∃ m : Nat, pM fr x = m := ⟨(pM fr x).toNat, by omega⟩
      have hm0 : m ≠ 0 := by omega
      have hbl : bitLen m ≤ 64 := (Nm.bl_le_iff m 64).2 (by omega)
      obtain ⟨E, hE⟩ : ∃ E : Int, E = pE fr x := ⟨_, rfl⟩
      have hps : pS fr x = sg := by unfold pS; rw [hfin, if_pos rfl, hsg]
      have HB : Hid (CvB fr 64 mode x = rdB 53 (-1074) 9218868437227405312 9223372036854775808 mode sg m E) := hid (by unfold CvB; rw [hO, if_pos rfl, if_neg (by omega), if_neg (by omega), if_neg (by omega), if_neg (by omega), ← hsg, hm, Int.toNat_natCast, ← hE]; rfl)
      have HF : Hid (CvF fr 64 mode x = rdF 53 (-1074) 9218868437227405312 mode sg m E) := hid (by unfold CvF; rw [hO, if_pos rfl, if_neg (by omega), if_neg (by omega), if_neg (by omega), if_neg (by omega), ← hsg, hm, Int.toNat_natCast, ← hE]; rfl)
      rw [hfin, hps, hm, ← hE] at CP
      have CG := hid (fun w' => signedM_n sg m E w' hm0 (by omega))
      have CR := hid (fun a c w' h h' => rnd_64 mode sg m E a c w' h h' HMD.out hm0 (by omega) (by omega) (by omega))
      rw [← HB.out, ← HF.out] at CR
      obtain ⟨z, hz⟩ : ∃ z : Int, z = ((m : Nat) : Int) := ⟨_, rfl⟩
      rw [← hz] at CG CP
      obtain ⟨cc, hcc⟩ : ∃ cc, cc = cls fr x := ⟨_, rfl⟩
      rw [← hcc] at CC
      have hc' : cc = 1 ∨ cc = 2 := by rw [hcc]; exact hc
      have HM := hid hm
      clear k1 k2 k3 hO hsg hc hfin hpos hbd hm0 hbl hps hm hz hcc
      have g0 : (cc == 0) = false := by rw [beq_eq_false_iff_ne]; omega
      have g3 : (cc == 3) = false := by rw [beq_eq_false_iff_ne]; omega
      have g4 : (cc == 4) = false := by rw [beq_eq_false_iff_ne]; omega
      have g5 : (cc == 5) = false := by rw [beq_eq_false_iff_ne]; omega
      clear hc' hbe hE
      go_enter Tryd.func29, Tryd.ntmps29
      go_wp2_with fail
      refine (sizes64 _ hT.s.f).mono ?_
      rintro r w1 ⟨rfl, hb1⟩
      go_wp2_with fail
      refine (CM.out _).mono ?_
      rintro r w2 ⟨rfl, rfl⟩
      have T2 := (hT.below hb1).al (.cells #[.int .u64 52, .int .u64 2047, .int .i64 (-1074)] 84)
      go_wp2_with fail
      refine (CK.out _ T2.s.f).mono ?_
      rintro r w3 ⟨rfl, hb3⟩
      have T3' := T2.below hb3
      go_wp2_with fail
      refine (CS.out _ T3'.s.f).mono ?_
      rintro r w4 ⟨rfl, hb4⟩
      have T4 := T3'.below hb4
      go_wp2_with fail
      refine (CC.out _ T4.s.f).mono ?_
      rintro r w5 ⟨rfl, hb5⟩
      have T5 := T4.below hb5
      have bel5 : Below w.heap.size w w5 := (by repeat (first | exact bz0 _ _ | refine bz1 ?_ | refine bz2 ?_ _ | refine bz3 ?_ _ | refine bz4 ?_ hb5 | refine bz4 ?_ hb4 | refine bz4 ?_ hb3 | refine bz4 ?_ hb1 | refine bz5 ?_ _ | refine bz6 ?_ _ | refine bz7 ?_ hb5 | refine bz7 ?_ hb4 | refine bz7 ?_ hb3 | refine bz7 ?_ hb1))
      clear hb1 hb3 hb4 hb5 T2 T3' T4
      go_wp2_with fail
      refine (CP.out _ T5.s.f).mono ?_
      rintro r w6 ⟨rfl, hb6⟩
      have T6 := (T5.below hb6).al (.cells #[.bool sg, .int .i64 z, .int .i64 E] 39)
      have bel6 := bel_al (bel_go bel5 hb6) (.cells #[.bool sg, .int .i64 z, .int .i64 E] 39)
      obtain ⟨r20, r21, r22, r2f, r2g, r2h⟩ := R3.new w6 (.bool sg) (.int .i64 z) (.int .i64 E) 39
      go_wp2_with fail
      go_region_held3 (fun w' => w'.cell? ⟨w6.heap.size, 0, none⟩ = some (.bool sg) ∧ w'.cell? ⟨w6.heap.size, 1, none⟩ = some (.int .i64 z) ∧ w'.cell? ⟨w6.heap.size, 2, none⟩ = some (.int .i64 E))
        (first
          | assumption
          | exact ⟨r20, r21, r22⟩
          | exact ⟨rr1.c0, rr1.c1, rr1.c2⟩
          | exact ⟨rr2.c0, rr2.c1, rr2.c2⟩)
        (first
          | (go_at_call 63; refine (CG.out _).mono ?_; rintro r q1 ⟨d1, f1, rfl, hp1, hq1⟩; have rr1 := R3.below (R3.dr ⟨r20, r21, r22, r2f, r2g, r2h⟩) hq1; have T7 := T6.dr.below hq1)
          | (go_at_call 36; refine (CR.out d1 f1 _ T7 hp1.sl).mono ?_; rintro r q2 ⟨rfl, hq2⟩; have rr2 := R3.below rr1 hq2))
      go_wp2
      go_ret3
      exact ⟨ret_uib2 rfl rfl HO.out.symm, (by repeat (first | exact bz0 _ _ | refine bz1 ?_ | refine bz2 ?_ _ | refine bz3 ?_ _ | refine bz4 ?_ hq2 | refine bz4 ?_ hq1 | refine bz4 ?_ hb6 | refine bz4 ?_ bel5 | refine bz5 ?_ _ | refine bz6 ?_ _ | refine bz7 ?_ hq2 | refine bz7 ?_ hq1 | refine bz7 ?_ hb6 | refine bz7 ?_ bel5))⟩
theorem conv_spec (fr tt mode x : Int) (w : World) (x0 : 0 ≤ x) (x1 : x < 18446744073709551616) :
    Calls Tryd.prog 30 #[.int .i64 fr, .int .i64 tt, .int .i64 mode, .int .u64 x] w fun r w' => r = .returned (.tuple #[.int .u64 (CvB fr tt mode x), .int .i64 (CvF fr tt mode x), .bool (CvO fr tt mode x)]) ∧ Below w.heap.size w w' := by
  have CM := hid (fun w' => mode_spec mode w')
  have CK := hid (fun w' => spec_ok fr x w')
  have CT := hid (fun w' => fmt_spec tt w')
  have CC := hid (fun w' => spec_cls fr x w' x0 x1)
  cases k3 : okF fr x
  · have HO : Hid (CvO fr tt mode x = false) := hid (by unfold CvO; rw [k3]; simp)
    have HR := hid (Cv_no HO.out)
    rw [k3] at CK
    clear k3
    go_enter Tryd.func30, Tryd.ntmps30
    go_wp2_with fail
    refine (CK.out _).mono ?_
    rintro r w1 ⟨rfl, hb1⟩
    go_wp2
    go_ret3
    exact ⟨ret_uib2 HR.out.1.symm HR.out.2.symm HO.out.symm, (by repeat (first | exact bz0 _ _ | refine bz1 ?_ | refine bz2 ?_ _ | refine bz3 ?_ _ | refine bz4 ?_ hb1 | refine bz5 ?_ _ | refine bz6 ?_ _ | refine bz7 ?_ hb1))⟩
  rw [k3] at CK
  have CS := hid (fun w' => spec_l2neg fr x w' k3 x0 x1)
  cases k1 : fmtB tt
  · have HO : Hid (CvO fr tt mode x = false) := hid (by unfold CvO; rw [k1]; rfl)
    have HR := hid (Cv_no HO.out)
    rw [k1] at CT
    clear k1 k3
    go_enter Tryd.func30, Tryd.ntmps30
    go_wp2_with fail
    refine (CK.out _).mono ?_
    rintro r w1 ⟨rfl, hb1⟩
    go_wp2_with fail
    refine (CT.out _).mono ?_
    rintro r w2 ⟨rfl, rfl⟩
    go_wp2
    go_ret3
    exact ⟨ret_uib2 HR.out.1.symm HR.out.2.symm HO.out.symm, (by repeat (first | exact bz0 _ _ | refine bz1 ?_ | refine bz2 ?_ _ | refine bz3 ?_ _ | refine bz4 ?_ hb1 | refine bz5 ?_ _ | refine bz6 ?_ _ | refine bz7 ?_ hb1))⟩
  rw [k1] at CT
  cases k2 : modeB mode
  · have HO : Hid (CvO fr tt mode x = false) := hid (by unfold CvO; rw [k2]; simp)
    have HR := hid (Cv_no HO.out)
    rw [k2] at CM
    clear k1 k2 k3
    go_enter Tryd.func30, Tryd.ntmps30
    go_wp2_with fail
    refine (CK.out _).mono ?_
    rintro r w1 ⟨rfl, hb1⟩
    go_wp2_with fail
    refine (CT.out _).mono ?_
    rintro r w2 ⟨rfl, rfl⟩
    go_wp2_with fail
    refine (CM.out _).mono ?_
    rintro r w3 ⟨rfl, rfl⟩
    go_wp2
    go_ret3
    exact ⟨ret_uib2 HR.out.1.symm HR.out.2.symm HO.out.symm, (by repeat (first | exact bz0 _ _ | refine bz1 ?_ | refine bz2 ?_ _ | refine bz3 ?_ _ | refine bz4 ?_ hb1 | refine bz5 ?_ _ | refine bz6 ?_ _ | refine bz7 ?_ hb1))⟩
  rw [k2] at CM
  have hO : CvO fr tt mode x = true := by unfold CvO; rw [k1, k2, k3]; rfl
  have HO := hid hO
  obtain ⟨sg, hsg⟩ : ∃ sg, sg = sigB fr x := ⟨_, rfl⟩
  rw [← hsg] at CS
  have HMD := hid k2
  rcases fmt_cases k1 with rfl | rfl
  · rcases cls_cases k3 with hc | hc | hc | hc | hc
    · have HB : Hid (CvB fr 32 mode x = sgn 2147483648 0 sg) := hid (by unfold CvB; rw [hO, if_pos rfl, if_pos hc, ← hsg]; rfl)
      have HF : Hid (CvF fr 32 mode x = 0) := hid (by unfold CvF; rw [hO, if_pos rfl, if_pos hc])
      rw [hc] at CC
      clear k1 k2 k3 hO hsg hc
      go_enter Tryd.func30, Tryd.ntmps30
      go_wp2_with fail
      refine (CK.out _).mono ?_
      rintro r w1 ⟨rfl, hb1⟩
      go_wp2_with fail
      refine (CT.out _).mono ?_
      rintro r w2 ⟨rfl, rfl⟩
      go_wp2_with fail
      refine (CM.out _).mono ?_
      rintro r w3 ⟨rfl, rfl⟩
      go_wp2_with fail
      refine (CS.out _).mono ?_
      rintro r w4 ⟨rfl, hb4⟩
      go_wp2_with fail
      refine (CC.out _).mono ?_
      rintro r w5 ⟨rfl, hb5⟩
      have bel5 : Below w.heap.size w w5 := (by repeat (first | exact bz0 _ _ | refine bz1 ?_ | refine bz2 ?_ _ | refine bz3 ?_ _ | refine bz4 ?_ hb5 | refine bz4 ?_ hb4 | refine bz4 ?_ hb1 | refine bz5 ?_ _ | refine bz6 ?_ _ | refine bz7 ?_ hb5 | refine bz7 ?_ hb4 | refine bz7 ?_ hb1))
      clear hb1 hb4 hb5
      go_wp2_with fail
      refine (with_32 0 sg _ (fun _ => ⟨by decide, by decide⟩)).mono ?_
      rintro r w6 ⟨rfl, hb6⟩
      go_wp2
      go_ret3
      exact ⟨ret_uib2 HB.out.symm HF.out.symm HO.out.symm, (by repeat (first | exact bz0 _ _ | refine bz1 ?_ | refine bz2 ?_ _ | refine bz3 ?_ _ | refine bz4 ?_ hb6 | refine bz4 ?_ bel5 | refine bz5 ?_ _ | refine bz6 ?_ _ | refine bz7 ?_ hb6 | refine bz7 ?_ bel5))⟩
    · have HB : Hid (CvB fr 32 mode x = sgn 2147483648 2139095040 sg) := hid (by unfold CvB; rw [hO, if_pos rfl, if_neg (by omega), if_pos hc, ← hsg]; rfl)
      have HF : Hid (CvF fr 32 mode x = 0) := hid (by unfold CvF; rw [hO, if_pos rfl, if_neg (by omega), if_pos hc])
      rw [hc] at CC
      have hinf : infOf 32 = 2139095040 := rfl
      have CI := hid (fun w' => spec_inf32 w')
      rw [hinf] at CI
      clear k1 k2 k3 hO hsg hc hinf
      go_enter Tryd.func30, Tryd.ntmps30
      go_wp2_with fail
      refine (CK.out _).mono ?_
      rintro r w1 ⟨rfl, hb1⟩
      go_wp2_with fail
      refine (CT.out _).mono ?_
      rintro r w2 ⟨rfl, rfl⟩
      go_wp2_with fail
      refine (CM.out _).mono ?_
      rintro r w3 ⟨rfl, rfl⟩
      go_wp2_with fail
      refine (CS.out _).mono ?_
      rintro r w4 ⟨rfl, hb4⟩
      go_wp2_with fail
      refine (CC.out _).mono ?_
      rintro r w5 ⟨rfl, hb5⟩
      have bel5 : Below w.heap.size w w5 := (by repeat (first | exact bz0 _ _ | refine bz1 ?_ | refine bz2 ?_ _ | refine bz3 ?_ _ | refine bz4 ?_ hb5 | refine bz4 ?_ hb4 | refine bz4 ?_ hb1 | refine bz5 ?_ _ | refine bz6 ?_ _ | refine bz7 ?_ hb5 | refine bz7 ?_ hb4 | refine bz7 ?_ hb1))
      clear hb1 hb4 hb5
      go_wp2_with fail
      refine (CI.out _).mono ?_
      rintro r w6 ⟨rfl, hb6⟩
      go_wp2_with fail
      refine (with_32 2139095040 sg _ (fun _ => ⟨by decide, by decide⟩)).mono ?_
      rintro r w7 ⟨rfl, hb7⟩
      go_wp2
      go_ret3
      exact ⟨ret_uib2 HB.out.symm HF.out.symm HO.out.symm, (by repeat (first | exact bz0 _ _ | refine bz1 ?_ | refine bz2 ?_ _ | refine bz3 ?_ _ | refine bz4 ?_ hb7 | refine bz4 ?_ hb6 | refine bz4 ?_ bel5 | refine bz5 ?_ _ | refine bz6 ?_ _ | refine bz7 ?_ hb7 | refine bz7 ?_ hb6 | refine bz7 ?_ bel5))⟩
    · have HB : Hid (CvB fr 32 mode x = 2143289344) := hid (by unfold CvB; rw [hO, if_pos rfl, if_neg (by omega), if_neg (by omega), if_pos hc]; rfl)
      have HF : Hid (CvF fr 32 mode x = 0) := hid (by unfold CvF; rw [hO, if_pos rfl, if_neg (by omega), if_neg (by omega), if_pos hc])
      rw [hc] at CC
      clear k1 k2 k3 hO hsg hc
      go_enter Tryd.func30, Tryd.ntmps30
      go_wp2_with fail
      refine (CK.out _).mono ?_
      rintro r w1 ⟨rfl, hb1⟩
      go_wp2_with fail
      refine (CT.out _).mono ?_
      rintro r w2 ⟨rfl, rfl⟩
      go_wp2_with fail
      refine (CM.out _).mono ?_
      rintro r w3 ⟨rfl, rfl⟩
      go_wp2_with fail
      refine (CS.out _).mono ?_
      rintro r w4 ⟨rfl, hb4⟩
      go_wp2_with fail
      refine (CC.out _).mono ?_
      rintro r w5 ⟨rfl, hb5⟩
      have bel5 : Below w.heap.size w w5 := (by repeat (first | exact bz0 _ _ | refine bz1 ?_ | refine bz2 ?_ _ | refine bz3 ?_ _ | refine bz4 ?_ hb5 | refine bz4 ?_ hb4 | refine bz4 ?_ hb1 | refine bz5 ?_ _ | refine bz6 ?_ _ | refine bz7 ?_ hb5 | refine bz7 ?_ hb4 | refine bz7 ?_ hb1))
      clear hb1 hb4 hb5
      go_wp2_with fail
      refine (snan_32 _).mono ?_
      rintro r w6 ⟨rfl, hb6⟩
      go_wp2
      go_ret3
      exact ⟨ret_uib2 HB.out.symm HF.out.symm HO.out.symm, (by repeat (first | exact bz0 _ _ | refine bz1 ?_ | refine bz2 ?_ _ | refine bz3 ?_ _ | refine bz4 ?_ hb6 | refine bz4 ?_ bel5 | refine bz5 ?_ _ | refine bz6 ?_ _ | refine bz7 ?_ hb6 | refine bz7 ?_ bel5))⟩
    · have HB : Hid (CvB fr 32 mode x = 2143289344) := hid (by unfold CvB; rw [hO, if_pos rfl, if_neg (by omega), if_neg (by omega), if_neg (by omega), if_pos hc]; rfl)
      have HF : Hid (CvF fr 32 mode x = 8) := hid (by unfold CvF; rw [hO, if_pos rfl, if_neg (by omega), if_neg (by omega), if_neg (by omega), if_pos hc])
      rw [hc] at CC
      clear k1 k2 k3 hO hsg hc
      go_enter Tryd.func30, Tryd.ntmps30
      go_wp2_with fail
      refine (CK.out _).mono ?_
      rintro r w1 ⟨rfl, hb1⟩
      go_wp2_with fail
      refine (CT.out _).mono ?_
      rintro r w2 ⟨rfl, rfl⟩
      go_wp2_with fail
      refine (CM.out _).mono ?_
      rintro r w3 ⟨rfl, rfl⟩
      go_wp2_with fail
      refine (CS.out _).mono ?_
      rintro r w4 ⟨rfl, hb4⟩
      go_wp2_with fail
      refine (CC.out _).mono ?_
      rintro r w5 ⟨rfl, hb5⟩
      have bel5 : Below w.heap.size w w5 := (by repeat (first | exact bz0 _ _ | refine bz1 ?_ | refine bz2 ?_ _ | refine bz3 ?_ _ | refine bz4 ?_ hb5 | refine bz4 ?_ hb4 | refine bz4 ?_ hb1 | refine bz5 ?_ _ | refine bz6 ?_ _ | refine bz7 ?_ hb5 | refine bz7 ?_ hb4 | refine bz7 ?_ hb1))
      clear hb1 hb4 hb5
      go_wp2_with fail
      refine (snan_32 _).mono ?_
      rintro r w6 ⟨rfl, hb6⟩
      go_wp2
      go_ret3
      exact ⟨ret_uib2 HB.out.symm HF.out.symm HO.out.symm, (by repeat (first | exact bz0 _ _ | refine bz1 ?_ | refine bz2 ?_ _ | refine bz3 ?_ _ | refine bz4 ?_ hb6 | refine bz4 ?_ bel5 | refine bz5 ?_ _ | refine bz6 ?_ _ | refine bz7 ?_ hb6 | refine bz7 ?_ bel5))⟩
    · obtain ⟨hfin, hpos⟩ := pM_pos hc
      have hbd := pM_bd fr x
      have hbe := pE_bd fr x
      obtain ⟨m, hm⟩ : ∃ m : Nat, pM fr x = m := ⟨(pM fr x).toNat, by omega⟩
      have hm0 : m ≠ 0 := by omega
      have hbl : bitLen m ≤ 64 := (Nm.bl_le_iff m 64).2 (by omega)
      obtain ⟨E, hE⟩ : ∃ E : Int, E = pE fr x := ⟨_, rfl⟩
      have hps : pS fr x = sg := by unfold pS; rw [hfin, if_pos rfl, hsg]
      have HB : Hid (CvB fr 32 mode x = rdB 24 (-149) 2139095040 2147483648 mode sg m E) := hid (by unfold CvB; rw [hO, if_pos rfl, if_neg (by omega), if_neg (by omega), if_neg (by omega), if_neg (by omega), ← hsg, hm, Int.toNat_natCast, ← hE]; rfl)
      have HF : Hid (CvF fr 32 mode x = rdF 24 (-149) 2139095040 mode sg m E) := hid (by unfold CvF; rw [hO, if_pos rfl, if_neg (by omega), if_neg (by omega), if_neg (by omega), if_neg (by omega), ← hsg, hm, Int.toNat_natCast, ← hE]; rfl)
      have CP := hid (fun w' => sparts_any fr x w' hfin x0 x1)
      rw [hps, hm, ← hE] at CP
      have CG := hid (fun w' => uint_n m sg w' hm0 (by omega))
      have CR := hid (fun a c w' h => l3r_32 mode sg m E a c w' h HMD.out hm0 (by omega) (by omega) (by omega))
      rw [← HB.out, ← HF.out] at CR
      obtain ⟨z, hz⟩ : ∃ z : Int, z = ((m : Nat) : Int) := ⟨_, rfl⟩
      have hzw : IntKind.u64.wrap z = z := by rw [IntKind.wrap_u64]; omega
      rw [← hz] at CG CP
      obtain ⟨cc, hcc⟩ : ∃ cc, cc = cls fr x := ⟨_, rfl⟩
      rw [← hcc] at CC
      have hc' : cc = 1 ∨ cc = 2 := by rw [hcc]; exact hc
      clear k1 k2 k3 hO hsg hc hfin hpos hbd hm0 hbl hps hm hz hcc
      have g0 : (cc == 0) = false := by rw [beq_eq_false_iff_ne]; omega
      have g3 : (cc == 3) = false := by rw [beq_eq_false_iff_ne]; omega
      have g4 : (cc == 4) = false := by rw [beq_eq_false_iff_ne]; omega
      have g5 : (cc == 5) = false := by rw [beq_eq_false_iff_ne]; omega
      clear hc' hbe hE
      go_enter Tryd.func30, Tryd.ntmps30
      go_wp2_with fail
      refine (CK.out _).mono ?_
      rintro r w1 ⟨rfl, hb1⟩
      go_wp2_with fail
      refine (CT.out _).mono ?_
      rintro r w2 ⟨rfl, rfl⟩
      go_wp2_with fail
      refine (CM.out _).mono ?_
      rintro r w3 ⟨rfl, rfl⟩
      go_wp2_with fail
      refine (CS.out _).mono ?_
      rintro r w4 ⟨rfl, hb4⟩
      go_wp2_with fail
      refine (CC.out _).mono ?_
      rintro r w5 ⟨rfl, hb5⟩
      have bel5 : Below w.heap.size w w5 := (by repeat (first | exact bz0 _ _ | refine bz1 ?_ | refine bz2 ?_ _ | refine bz3 ?_ _ | refine bz4 ?_ hb5 | refine bz4 ?_ hb4 | refine bz4 ?_ hb1 | refine bz5 ?_ _ | refine bz6 ?_ _ | refine bz7 ?_ hb5 | refine bz7 ?_ hb4 | refine bz7 ?_ hb1))
      clear hb1 hb4 hb5
      go_wp2_with fail
      refine (CP.out _).mono ?_
      rintro r w6 ⟨rfl, hb6⟩
      have bel6 := bel_al (bel_go bel5 hb6) (.cells #[.bool sg, .int .i64 z, .int .i64 E] 39)
      obtain ⟨r20, r21, r22, r2f, r2g, r2h⟩ := R3.new w6 (.bool sg) (.int .i64 z) (.int .i64 E) 39
      go_wp2_with fail
      go_region_held3 (fun w' => w'.cell? ⟨w6.heap.size, 0, none⟩ = some (.bool sg) ∧ w'.cell? ⟨w6.heap.size, 1, none⟩ = some (.int .i64 z) ∧ w'.cell? ⟨w6.heap.size, 2, none⟩ = some (.int .i64 E))
        (first
          | assumption
          | exact ⟨r20, r21, r22⟩
          | exact ⟨rr1.c0, rr1.c1, rr1.c2⟩
          | exact ⟨rr2.c0, rr2.c1, rr2.c2⟩)
        (first
          | (go_at_call 88; refine (CG.out _).mono ?_; rintro r q1 ⟨d1, f1, rfl, hp1, hq1⟩; have rr1 := R3.below (R3.dr ⟨r20, r21, r22, r2f, r2g, r2h⟩) hq1)
          | (go_at_call 96; refine (CR.out d1 f1 _ hp1.sl).mono ?_; rintro r q2 ⟨rfl, hq2⟩; have rr2 := R3.below rr1 hq2))
      go_wp2
      go_ret3
      exact ⟨ret_uib2 rfl rfl HO.out.symm, (by repeat (first | exact bz0 _ _ | refine bz1 ?_ | refine bz2 ?_ _ | refine bz3 ?_ _ | refine bz4 ?_ hq2 | refine bz4 ?_ hq1 | refine bz4 ?_ hb6 | refine bz4 ?_ bel5 | refine bz5 ?_ _ | refine bz6 ?_ _ | refine bz7 ?_ hq2 | refine bz7 ?_ hq1 | refine bz7 ?_ hb6 | refine bz7 ?_ bel5))⟩
  · rcases cls_cases k3 with hc | hc | hc | hc | hc
    · have HB : Hid (CvB fr 64 mode x = sgn 9223372036854775808 0 sg) := hid (by unfold CvB; rw [hO, if_pos rfl, if_pos hc, ← hsg]; rfl)
      have HF : Hid (CvF fr 64 mode x = 0) := hid (by unfold CvF; rw [hO, if_pos rfl, if_pos hc])
      rw [hc] at CC
      clear k1 k2 k3 hO hsg hc
      go_enter Tryd.func30, Tryd.ntmps30
      go_wp2_with fail
      refine (CK.out _).mono ?_
      rintro r w1 ⟨rfl, hb1⟩
      go_wp2_with fail
      refine (CT.out _).mono ?_
      rintro r w2 ⟨rfl, rfl⟩
      go_wp2_with fail
      refine (CM.out _).mono ?_
      rintro r w3 ⟨rfl, rfl⟩
      go_wp2_with fail
      refine (CS.out _).mono ?_
      rintro r w4 ⟨rfl, hb4⟩
      go_wp2_with fail
      refine (CC.out _).mono ?_
      rintro r w5 ⟨rfl, hb5⟩
      have bel5 : Below w.heap.size w w5 := (by repeat (first | exact bz0 _ _ | refine bz1 ?_ | refine bz2 ?_ _ | refine bz3 ?_ _ | refine bz4 ?_ hb5 | refine bz4 ?_ hb4 | refine bz4 ?_ hb1 | refine bz5 ?_ _ | refine bz6 ?_ _ | refine bz7 ?_ hb5 | refine bz7 ?_ hb4 | refine bz7 ?_ hb1))
      clear hb1 hb4 hb5
      go_wp2_with fail
      refine (with_64 0 sg _ (fun _ => ⟨by decide, by decide⟩)).mono ?_
      rintro r w6 ⟨rfl, hb6⟩
      go_wp2
      go_ret3
      exact ⟨ret_uib2 HB.out.symm HF.out.symm HO.out.symm, (by repeat (first | exact bz0 _ _ | refine bz1 ?_ | refine bz2 ?_ _ | refine bz3 ?_ _ | refine bz4 ?_ hb6 | refine bz4 ?_ bel5 | refine bz5 ?_ _ | refine bz6 ?_ _ | refine bz7 ?_ hb6 | refine bz7 ?_ bel5))⟩
    · have HB : Hid (CvB fr 64 mode x = sgn 9223372036854775808 9218868437227405312 sg) := hid (by unfold CvB; rw [hO, if_pos rfl, if_neg (by omega), if_pos hc, ← hsg]; rfl)
      have HF : Hid (CvF fr 64 mode x = 0) := hid (by unfold CvF; rw [hO, if_pos rfl, if_neg (by omega), if_pos hc])
      rw [hc] at CC
      have hinf : infOf 64 = 9218868437227405312 := rfl
      have CI := hid (fun w' => spec_inf64 w')
      rw [hinf] at CI
      clear k1 k2 k3 hO hsg hc hinf
      go_enter Tryd.func30, Tryd.ntmps30
      go_wp2_with fail
      refine (CK.out _).mono ?_
      rintro r w1 ⟨rfl, hb1⟩
      go_wp2_with fail
      refine (CT.out _).mono ?_
      rintro r w2 ⟨rfl, rfl⟩
      go_wp2_with fail
      refine (CM.out _).mono ?_
      rintro r w3 ⟨rfl, rfl⟩
      go_wp2_with fail
      refine (CS.out _).mono ?_
      rintro r w4 ⟨rfl, hb4⟩
      go_wp2_with fail
      refine (CC.out _).mono ?_
      rintro r w5 ⟨rfl, hb5⟩
      have bel5 : Below w.heap.size w w5 := (by repeat (first | exact bz0 _ _ | refine bz1 ?_ | refine bz2 ?_ _ | refine bz3 ?_ _ | refine bz4 ?_ hb5 | refine bz4 ?_ hb4 | refine bz4 ?_ hb1 | refine bz5 ?_ _ | refine bz6 ?_ _ | refine bz7 ?_ hb5 | refine bz7 ?_ hb4 | refine bz7 ?_ hb1))
      clear hb1 hb4 hb5
      go_wp2_with fail
      refine (CI.out _).mono ?_
      rintro r w6 ⟨rfl, hb6⟩
      go_wp2_with fail
      refine (with_64 9218868437227405312 sg _ (fun _ => ⟨by decide, by decide⟩)).mono ?_
      rintro r w7 ⟨rfl, hb7⟩
      go_wp2
      go_ret3
      exact ⟨ret_uib2 HB.out.symm HF.out.symm HO.out.symm, (by repeat (first | exact bz0 _ _ | refine bz1 ?_ | refine bz2 ?_ _ | refine bz3 ?_ _ | refine bz4 ?_ hb7 | refine bz4 ?_ hb6 | refine bz4 ?_ bel5 | refine bz5 ?_ _ | refine bz6 ?_ _ | refine bz7 ?_ hb7 | refine bz7 ?_ hb6 | refine bz7 ?_ bel5))⟩
    · have HB : Hid (CvB fr 64 mode x = 9221120237041090560) := hid (by unfold CvB; rw [hO, if_pos rfl, if_neg (by omega), if_neg (by omega), if_pos hc]; rfl)
      have HF : Hid (CvF fr 64 mode x = 0) := hid (by unfold CvF; rw [hO, if_pos rfl, if_neg (by omega), if_neg (by omega), if_pos hc])
      rw [hc] at CC
      clear k1 k2 k3 hO hsg hc
      go_enter Tryd.func30, Tryd.ntmps30
      go_wp2_with fail
      refine (CK.out _).mono ?_
      rintro r w1 ⟨rfl, hb1⟩
      go_wp2_with fail
      refine (CT.out _).mono ?_
      rintro r w2 ⟨rfl, rfl⟩
      go_wp2_with fail
      refine (CM.out _).mono ?_
      rintro r w3 ⟨rfl, rfl⟩
      go_wp2_with fail
      refine (CS.out _).mono ?_
      rintro r w4 ⟨rfl, hb4⟩
      go_wp2_with fail
      refine (CC.out _).mono ?_
      rintro r w5 ⟨rfl, hb5⟩
      have bel5 : Below w.heap.size w w5 := (by repeat (first | exact bz0 _ _ | refine bz1 ?_ | refine bz2 ?_ _ | refine bz3 ?_ _ | refine bz4 ?_ hb5 | refine bz4 ?_ hb4 | refine bz4 ?_ hb1 | refine bz5 ?_ _ | refine bz6 ?_ _ | refine bz7 ?_ hb5 | refine bz7 ?_ hb4 | refine bz7 ?_ hb1))
      clear hb1 hb4 hb5
      go_wp2_with fail
      refine (snan_64 _).mono ?_
      rintro r w6 ⟨rfl, hb6⟩
      go_wp2
      go_ret3
      exact ⟨ret_uib2 HB.out.symm HF.out.symm HO.out.symm, (by repeat (first | exact bz0 _ _ | refine bz1 ?_ | refine bz2 ?_ _ | refine bz3 ?_ _ | refine bz4 ?_ hb6 | refine bz4 ?_ bel5 | refine bz5 ?_ _ | refine bz6 ?_ _ | refine bz7 ?_ hb6 | refine bz7 ?_ bel5))⟩
    · have HB : Hid (CvB fr 64 mode x = 9221120237041090560) := hid (by unfold CvB; rw [hO, if_pos rfl, if_neg (by omega), if_neg (by omega), if_neg (by omega), if_pos hc]; rfl)
      have HF : Hid (CvF fr 64 mode x = 8) := hid (by unfold CvF; rw [hO, if_pos rfl, if_neg (by omega), if_neg (by omega), if_neg (by omega), if_pos hc])
      rw [hc] at CC
      clear k1 k2 k3 hO hsg hc
      go_enter Tryd.func30, Tryd.ntmps30
      go_wp2_with fail
      refine (CK.out _).mono ?_
      rintro r w1 ⟨rfl, hb1⟩
      go_wp2_with fail
      refine (CT.out _).mono ?_
      rintro r w2 ⟨rfl, rfl⟩
      go_wp2_with fail
      refine (CM.out _).mono ?_
      rintro r w3 ⟨rfl, rfl⟩
      go_wp2_with fail
      refine (CS.out _).mono ?_
      rintro r w4 ⟨rfl, hb4⟩
      go_wp2_with fail
      refine (CC.out _).mono ?_
      rintro r w5 ⟨rfl, hb5⟩
      have bel5 : Below w.heap.size w w5 := (by repeat (first | exact bz0 _ _ | refine bz1 ?_ | refine bz2 ?_ _ | refine bz3 ?_ _ | refine bz4 ?_ hb5 | refine bz4 ?_ hb4 | refine bz4 ?_ hb1 | refine bz5 ?_ _ | refine bz6 ?_ _ | refine bz7 ?_ hb5 | refine bz7 ?_ hb4 | refine bz7 ?_ hb1))
      clear hb1 hb4 hb5
      go_wp2_with fail
      refine (snan_64 _).mono ?_
      rintro r w6 ⟨rfl, hb6⟩
      go_wp2
      go_ret3
      exact ⟨ret_uib2 HB.out.symm HF.out.symm HO.out.symm, (by repeat (first | exact bz0 _ _ | refine bz1 ?_ | refine bz2 ?_ _ | refine bz3 ?_ _ | refine bz4 ?_ hb6 | refine bz4 ?_ bel5 | refine bz5 ?_ _ | refine bz6 ?_ _ | refine bz7 ?_ hb6 | refine bz7 ?_ bel5))⟩
    · obtain ⟨hfin, hpos⟩ := pM_pos hc
      have hbd := pM_bd fr x
      have hbe := pE_bd fr x
      obtain ⟨m, hm⟩ : ∃ m : Nat, pM fr x = m := ⟨(pM fr x).toNat, by omega⟩
      have hm0 : m ≠ 0 := by omega
      have hbl : bitLen m ≤ 64 := (Nm.bl_le_iff m 64).2 (by omega)
      obtain ⟨E, hE⟩ : ∃ E : Int, E = pE fr x := ⟨_, rfl⟩
      have hps : pS fr x = sg := by unfold pS; rw [hfin, if_pos rfl, hsg]
      have HB : Hid (CvB fr 64 mode x = rdB 53 (-1074) 9218868437227405312 9223372036854775808 mode sg m E) := hid (by unfold CvB; rw [hO, if_pos rfl, if_neg (by omega), if_neg (by omega), if_neg (by omega), if_neg (by omega), ← hsg, hm, Int.toNat_natCast, ← hE]; rfl)
      have HF : Hid (CvF fr 64 mode x = rdF 53 (-1074) 9218868437227405312 mode sg m E) := hid (by unfold CvF; rw [hO, if_pos rfl, if_neg (by omega), if_neg (by omega), if_neg (by omega), if_neg (by omega), ← hsg, hm, Int.toNat_natCast, ← hE]; rfl)
      have CP := hid (fun w' => sparts_any fr x w' hfin x0 x1)
      rw [hps, hm, ← hE] at CP
      have CG := hid (fun w' => uint_n m sg w' hm0 (by omega))
      have CR := hid (fun a c w' h => l3r_64 mode sg m E a c w' h HMD.out hm0 (by omega) (by omega) (by omega))
      rw [← HB.out, ← HF.out] at CR
      obtain ⟨z, hz⟩ : ∃ z : Int, z = ((m : Nat) : Int) := ⟨_, rfl⟩
      have hzw : IntKind.u64.wrap z = z := by rw [IntKind.wrap_u64]; omega
      rw [← hz] at CG CP
      obtain ⟨cc, hcc⟩ : ∃ cc, cc = cls fr x := ⟨_, rfl⟩
      rw [← hcc] at CC
      have hc' : cc = 1 ∨ cc = 2 := by rw [hcc]; exact hc
      clear k1 k2 k3 hO hsg hc hfin hpos hbd hm0 hbl hps hm hz hcc
      have g0 : (cc == 0) = false := by rw [beq_eq_false_iff_ne]; omega
      have g3 : (cc == 3) = false := by rw [beq_eq_false_iff_ne]; omega
      have g4 : (cc == 4) = false := by rw [beq_eq_false_iff_ne]; omega
      have g5 : (cc == 5) = false := by rw [beq_eq_false_iff_ne]; omega
      clear hc' hbe hE
      go_enter Tryd.func30, Tryd.ntmps30
      go_wp2_with fail
      refine (CK.out _).mono ?_
      rintro r w1 ⟨rfl, hb1⟩
      go_wp2_with fail
      refine (CT.out _).mono ?_
      rintro r w2 ⟨rfl, rfl⟩
      go_wp2_with fail
      refine (CM.out _).mono ?_
      rintro r w3 ⟨rfl, rfl⟩
      go_wp2_with fail
      refine (CS.out _).mono ?_
      rintro r w4 ⟨rfl, hb4⟩
      go_wp2_with fail
      refine (CC.out _).mono ?_
      rintro r w5 ⟨rfl, hb5⟩
      have bel5 : Below w.heap.size w w5 := (by repeat (first | exact bz0 _ _ | refine bz1 ?_ | refine bz2 ?_ _ | refine bz3 ?_ _ | refine bz4 ?_ hb5 | refine bz4 ?_ hb4 | refine bz4 ?_ hb1 | refine bz5 ?_ _ | refine bz6 ?_ _ | refine bz7 ?_ hb5 | refine bz7 ?_ hb4 | refine bz7 ?_ hb1))
      clear hb1 hb4 hb5
      go_wp2_with fail
      refine (CP.out _).mono ?_
      rintro r w6 ⟨rfl, hb6⟩
      have bel6 := bel_al (bel_go bel5 hb6) (.cells #[.bool sg, .int .i64 z, .int .i64 E] 39)
      obtain ⟨r20, r21, r22, r2f, r2g, r2h⟩ := R3.new w6 (.bool sg) (.int .i64 z) (.int .i64 E) 39
      go_wp2_with fail
      go_region_held3 (fun w' => w'.cell? ⟨w6.heap.size, 0, none⟩ = some (.bool sg) ∧ w'.cell? ⟨w6.heap.size, 1, none⟩ = some (.int .i64 z) ∧ w'.cell? ⟨w6.heap.size, 2, none⟩ = some (.int .i64 E))
        (first
          | assumption
          | exact ⟨r20, r21, r22⟩
          | exact ⟨rr1.c0, rr1.c1, rr1.c2⟩
          | exact ⟨rr2.c0, rr2.c1, rr2.c2⟩)
        (first
          | (go_at_call 88; refine (CG.out _).mono ?_; rintro r q1 ⟨d1, f1, rfl, hp1, hq1⟩; have rr1 := R3.below (R3.dr ⟨r20, r21, r22, r2f, r2g, r2h⟩) hq1)
          | (go_at_call 96; refine (CR.out d1 f1 _ hp1.sl).mono ?_; rintro r q2 ⟨rfl, hq2⟩; have rr2 := R3.below rr1 hq2))
      go_wp2
      go_ret3
      exact ⟨ret_uib2 rfl rfl HO.out.symm, (by repeat (first | exact bz0 _ _ | refine bz1 ?_ | refine bz2 ?_ _ | refine bz3 ?_ _ | refine bz4 ?_ hq2 | refine bz4 ?_ hq1 | refine bz4 ?_ hb6 | refine bz4 ?_ bel5 | refine bz5 ?_ _ | refine bz6 ?_ _ | refine bz7 ?_ hq2 | refine bz7 ?_ hq1 | refine bz7 ?_ hb6 | refine bz7 ?_ bel5))⟩
end Go.Proofs.YtpalbhkihheogaaDoor
