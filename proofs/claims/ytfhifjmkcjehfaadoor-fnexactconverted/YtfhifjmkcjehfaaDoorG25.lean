/-
  Several texts in one: RI, RJ, RK, RL.
-/
import Derived.Test.YtfhifjmkcjehfaaDoorG24
import Derived.Deep.RegionHeld3
import Derived.Test.YtfhifjmkcjehfaaDoorG06
/-
  A float of one format as one of another, by both; the law.
-/
namespace Go.Proofs.YtfhifjmkcjehfaaDoor
set_option linter.unusedVariables false
set_option linter.unusedSimpArgs false
open Go.RowKit Go.Deep
theorem sparts_any (fm x : Int) (w : World) (hf : finB fm x = true) (h0 : 0 ≤ x) (h1 : x < 18446744073709551616) :
    Calls Tryd.prog 57 #[.int .i64 fm, .int .u64 x] w fun e w' => e = .returned (.agg #[.bool (pS fm x), .int .i64 (pM fm x), .int .i64 (pE fm x)]) ∧ Below w.heap.size w w' := by
  have ho : okF fm x = true := by
    cases ho : okF fm x
    · rw [fin_no ho] at hf; cases hf
    · rfl
  rcases okF_cases ho with ⟨rfl, hx⟩ | rfl
  · refine (spec_l2Parts32 x w h0 hx).mono ?_
    rintro e w1 ⟨rfl, hb1⟩
    exact ⟨ret_p3 (by unfold pS; rw [hf]; rfl) (by unfold pM; rw [hf]; rfl) (by unfold pE; rw [hf]; rfl), hb1⟩
  · refine (spec_l2Parts64 x w h0 h1).mono ?_
    rintro e w1 ⟨rfl, hb1⟩
    exact ⟨ret_p3 (by unfold pS; rw [hf]; rfl) (by unfold pM; rw [hf]; rfl) (by unfold pE; rw [hf]; rfl), hb1⟩
theorem snan_32 (w : World) :
    Calls Tryd.prog 56 #[.int .i64 32] w fun e w' => e = .returned (.int .u64 2143289344) ∧ Below w.heap.size w w' := by
  go_enter Tryd.func56, Tryd.ntmps56
  go_wp2
  go_ret
  exact ⟨rfl, (by repeat (first | exact Below.refl _ _ | refine Below.drew ?_ | refine bel_dn ?_ _ | refine bel_al ?_ _ | refine Below.setCell ?_ (by first | omega | (simp; done) | (simp; omega)) _ | refine Below.alloc ?_ (by first | omega | (simp; done) | (simp; omega)) _))⟩
theorem snan_64 (w : World) :
    Calls Tryd.prog 56 #[.int .i64 64] w fun e w' => e = .returned (.int .u64 9221120237041090560) ∧ Below w.heap.size w w' := by
  go_enter Tryd.func56, Tryd.ntmps56
  go_wp2
  go_ret
  exact ⟨rfl, (by repeat (first | exact Below.refl _ _ | refine Below.drew ?_ | refine bel_dn ?_ _ | refine bel_al ?_ _ | refine Below.setCell ?_ (by first | omega | (simp; done) | (simp; omega)) _ | refine Below.alloc ?_ (by first | omega | (simp; done) | (simp; omega)) _))⟩
/-- The bounds of a finite float's parts. -/
theorem par_bd {L y : Int} (h0 : 0 ≤ y) (hL : 0 < L) : 0 ≤ parM L y ∧ parM L y < 2 * L := by
  have h1 := Int.emod_nonneg y (show L ≠ 0 by omega)
  have h2 := Int.emod_lt_of_pos y hL
  unfold parM; split <;> omega
theorem pM_bd (fm x : Int) : 0 ≤ pM fm x ∧ pM fm x < 9007199254740992 := by
  unfold pM
  split
  · split
    · have := par_bd (L := 8388608) (y := x % 2147483648) (by omega) (by decide); omega
    · have := par_bd (L := 4503599627370496) (y := x % 9223372036854775808) (by omega) (by decide); omega
  · omega
theorem pE_bd (fm x : Int) : -1074 ≤ pE fm x ∧ pE fm x ≤ 2000 := by
  unfold pE parE
  split
  · split
    · split <;> omega
    · split <;> omega
  · omega
theorem pM_pos {fm x : Int} (h : cls fm x = 1 ∨ cls fm x = 2) : finB fm x = true ∧ 0 < pM fm x := by
  have hf : finB fm x = true := by unfold finB; exact decide_eq_true (by omega)
  have ho : okF fm x = true := by
    cases ho : okF fm x
    · rw [fin_no ho] at hf; cases hf
    · rfl
  refine ⟨hf, ?_⟩
  unfold pM
  rw [hf, if_pos rfl]
  rcases okF_cases ho with ⟨rfl, hx⟩ | rfl
  · rw [cls32 hx] at h
    rw [if_pos rfl]
    unfold clsY at h; unfold parM
    split at h
    · omega
    · split <;> omega
  · rw [cls64] at h
    rw [if_neg (by decide)]
    unfold clsY at h; unfold parM
    split at h
    · omega
    · split <;> omega
set_option maxHeartbeats 2000000 in
theorem signedM_n (ng : Bool) (m : Nat) (E : Int) (w : World) (h0 : m ≠ 0) (h1 : m < 9223372036854775808) :
    Calls Tryd.prog 29 #[.agg #[.bool ng, .int .i64 (m : Nat), .int .i64 E]] w fun e w' => ∃ a' c', e = .returned (.agg #[.bool ng, .slice a' (Nm.lim m).length c']) ∧ Own w' w.heap.size a' c' (Nm.lim m) ∧ Below w.heap.size w w' := by
  obtain ⟨z, hz⟩ : ∃ z : Int, z = (m : Int) := ⟨_, rfl⟩
  have z0 : 0 < z := by omega
  have z1 : z < 9223372036854775808 := by omega
  have e1 : Nm.wn (-z) = true := by unfold Nm.wn; exact decide_eq_true (by omega)
  have e2 : Nm.wl (-z) = Nm.lim m := by unfold Nm.wl; rw [hz]; simp
  have e3 : Nm.wn z = false := by unfold Nm.wn; exact decide_eq_false (by omega)
  have e4 : Nm.wl z = Nm.lim m := by unfold Nm.wl; rw [hz]; simp
  have CN := hid (fun w' => wof_impl (-z) w' (by omega) (by omega))
  have CP := hid (fun w' => wof_impl z w' (by omega) (by omega))
  rw [e1, e2] at CN; rw [e3, e4] at CP
  rw [← hz]
  clear e1 e2 e3 e4 hz
  cases ng with
  | true =>
    go_enter Tryd.func29, Tryd.ntmps29
    go_wp2_with fail
    refine (CN.out _).mono ?_
    rintro e w1 ⟨a', c', rfl, ho, hb⟩
    obtain ⟨r0, r1, f0, f1⟩ := (R2.new2 w (.cells #[.bool true, .int .i64 z, .int .i64 E] 43) (.bool false) (.slice none 0 0) 25).below hb
    have ho : Own w1 (w.heap.size + 1 + 1) a' c' (Nm.lim m) := by simpa using ho
    go_wp2
    refine bodyPost_ret (v := .agg #[.bool true, .slice a' (Nm.lim m).length c']) (by simp [results, Tryd.results29, go_sem, r0, r1]) rfl ⟨a', c', rfl, ?_, (by repeat (first | exact Below.refl _ _ | refine Below.drew ?_ | refine bel_dn ?_ _ | refine bel_al ?_ _ | refine bel_go ?_ hb | refine Below.setCell ?_ (by first | omega | (simp; done) | (simp; omega)) _ | refine Below.alloc ?_ (by first | omega | (simp; done) | (simp; omega)) _ | refine Below.trans ?_ (Below.mono hb (by first | omega | (simp; done) | (simp; omega)))))⟩
    exact Own.base ((ho.setBelow (by simp) _).setBelow (by simp) _) (by omega)
  | false =>
    go_enter Tryd.func29, Tryd.ntmps29
    go_wp2_with fail
    refine (CP.out _).mono ?_
    rintro e w1 ⟨a', c', rfl, ho, hb⟩
    obtain ⟨r0, r1, f0, f1⟩ := (R2.new2 w (.cells #[.bool false, .int .i64 z, .int .i64 E] 43) (.bool false) (.slice none 0 0) 25).below hb
    have ho : Own w1 (w.heap.size + 1 + 1) a' c' (Nm.lim m) := by simpa using ho
    go_wp2
    refine bodyPost_ret (v := .agg #[.bool false, .slice a' (Nm.lim m).length c']) (by simp [results, Tryd.results29, go_sem, r0, r1]) rfl ⟨a', c', rfl, ?_, (by repeat (first | exact Below.refl _ _ | refine Below.drew ?_ | refine bel_dn ?_ _ | refine bel_al ?_ _ | refine bel_go ?_ hb | refine Below.setCell ?_ (by first | omega | (simp; done) | (simp; omega)) _ | refine Below.alloc ?_ (by first | omega | (simp; done) | (simp; omega)) _ | refine Below.trans ?_ (Below.mono hb (by first | omega | (simp; done) | (simp; omega)))))⟩
    exact Own.base ((ho.setBelow (by simp) _).setBelow (by simp) _) (by omega)
end Go.Proofs.YtfhifjmkcjehfaaDoor
/-
  A float of one format as one of another, by both; the law.
-/
namespace Go.Proofs.YtfhifjmkcjehfaaDoor
set_option linter.unusedVariables false
set_option linter.unusedSimpArgs false
open Go.RowKit Go.Deep
def CvO (fr tt mode x : Int) : Bool := fmtB tt && modeB mode && okF fr x
def CvB (fr tt mode x : Int) : Int := if CvO fr tt mode x then (if cls fr x = 0 then sgn (sgOf tt) 0 (sigB fr x) else if cls fr x = 3 then sgn (sgOf tt) (infOf tt) (sigB fr x) else if cls fr x = 4 then nanOf tt else if cls fr x = 5 then nanOf tt else if tt = 32 then rdB 24 (-149) 2139095040 2147483648 mode (sigB fr x) (pM fr x).toNat (pE fr x) else rdB 53 (-1074) 9218868437227405312 9223372036854775808 mode (sigB fr x) (pM fr x).toNat (pE fr x)) else 0
def CvF (fr tt mode x : Int) : Int := if CvO fr tt mode x then (if cls fr x = 0 then 0 else if cls fr x = 3 then 0 else if cls fr x = 4 then 0 else if cls fr x = 5 then 8 else if tt = 32 then rdF 24 (-149) 2139095040 mode (sigB fr x) (pM fr x).toNat (pE fr x) else rdF 53 (-1074) 9218868437227405312 mode (sigB fr x) (pM fr x).toNat (pE fr x)) else 0
theorem Cv_no {fr tt mode x : Int} (h : CvO fr tt mode x = false) : CvB fr tt mode x = 0 ∧ CvF fr tt mode x = 0 := by unfold CvB CvF; rw [h]; exact ⟨rfl, rfl⟩
theorem cls_cases {fm x : Int} (h : okF fm x = true) : cls fm x = 0 ∨ cls fm x = 3 ∨ cls fm x = 4 ∨ cls fm x = 5 ∨ (cls fm x = 1 ∨ cls fm x = 2) := by
  have hr := cls_rng fm x
  have : cls fm x ≠ -1 := by
    intro h1
    rcases okF_cases h with ⟨rfl, hx⟩ | rfl
    · rw [cls32 hx] at h1; have := clsY_rng 8388608 2139095040 4194304 (x % 2147483648); omega
    · rw [cls64] at h1; have := clsY_rng 4503599627370496 9218868437227405312 2251799813685248 (x % 9223372036854775808); omega
  omega
set_option maxHeartbeats 8000000 in
set_option maxRecDepth 100000 in
theorem conv_impl (fr tt mode x : Int) (w : World) (hT : T3 w) (x0 : 0 ≤ x) (x1 : x < 18446744073709551616) :
    Calls Tryd.prog 23 #[.int .i64 fr, .int .i64 tt, .int .i64 mode, .int .u64 x] w fun r w' => r = .returned (.tuple #[.int .u64 (CvB fr tt mode x), .int .i64 (CvF fr tt mode x), .bool (CvO fr tt mode x)]) ∧ Below w.heap.size w w' := by
  have CM := hid (fun w' => mode_impl mode w')
  have CK := hid (fun w' h => impl_ok fr x w' h x0 x1)
  have CS := hid (fun w' h => impl_sig fr x w' h x0 x1)
  have CC := hid (fun w' h => impl_cls fr x w' h x0 x1)
  have CP := hid (fun w' h => impl_parts fr x w' h x0 x1)
  cases k1 : fmtB tt
  · obtain ⟨f1, f2⟩ := fmt_no k1
    have HO : Hid (CvO fr tt mode x = false) := hid (by unfold CvO; rw [k1]; rfl)
    have HR := hid (Cv_no HO.out)
    clear k1
    go_enter Tryd.func23, Tryd.ntmps23
    go_wp2_with fail
    refine (sizes0 tt _ hT.s.f f1 f2).mono ?_
    rintro r w1 ⟨rfl, hb1⟩
    go_wp2
    go_ret3
    exact ⟨ret_uib2 HR.out.1.symm HR.out.2.symm HO.out.symm, (by repeat (first | exact Below.refl _ _ | refine Below.drew ?_ | refine bel_dn ?_ _ | refine bel_al ?_ _ | refine bel_go ?_ hb1 | refine Below.setCell ?_ (by first | omega | (simp; done) | (simp; omega)) _ | refine Below.alloc ?_ (by first | omega | (simp; done) | (simp; omega)) _ | refine Below.trans ?_ (Below.mono hb1 (by first | omega | (simp; done) | (simp; omega)))))⟩
  rcases fmt_cases k1 with rfl | rfl
  · cases k2 : modeB mode
    · have HO : Hid (CvO fr 32 mode x = false) := hid (by unfold CvO; rw [k2]; simp)
      have HR := hid (Cv_no HO.out)
      rw [k2] at CM
      clear k1 k2
      go_enter Tryd.func23, Tryd.ntmps23
      go_wp2_with fail
      refine (sizes32 _ hT.s.f).mono ?_
      rintro r w1 ⟨rfl, hb1⟩
      go_wp2_with fail
      refine (CM.out _).mono ?_
      rintro r w2 ⟨rfl, rfl⟩
      go_wp2
      go_ret3
      exact ⟨ret_uib2 HR.out.1.symm HR.out.2.symm HO.out.symm, (by repeat (first | exact Below.refl _ _ | refine Below.drew ?_ | refine bel_dn ?_ _ | refine bel_al ?_ _ | refine bel_go ?_ hb1 | refine Below.setCell ?_ (by first | omega | (simp; done) | (simp; omega)) _ | refine Below.alloc ?_ (by first | omega | (simp; done) | (simp; omega)) _ | refine Below.trans ?_ (Below.mono hb1 (by first | omega | (simp; done) | (simp; omega)))))⟩
    rw [k2] at CM
    cases k3 : okF fr x
    · have HO : Hid (CvO fr 32 mode x = false) := hid (by unfold CvO; rw [k3]; simp)
      have HR := hid (Cv_no HO.out)
      rw [k3] at CK
      clear k1 k2 k3
      go_enter Tryd.func23, Tryd.ntmps23
      go_wp2_with fail
      refine (sizes32 _ hT.s.f).mono ?_
      rintro r w1 ⟨rfl, hb1⟩
      go_wp2_with fail
      refine (CM.out _).mono ?_
      rintro r w2 ⟨rfl, rfl⟩
      go_wp2_with fail
      refine (CK.out _ ((hT.s.f.below hb1).al _)).mono ?_
      rintro r w3 ⟨rfl, hb3⟩
      go_wp2
      go_ret3
      exact ⟨ret_uib2 HR.out.1.symm HR.out.2.symm HO.out.symm, (by repeat (first | exact Below.refl _ _ | refine Below.drew ?_ | refine bel_dn ?_ _ | refine bel_al ?_ _ | refine bel_go ?_ hb3 | refine bel_go ?_ hb1 | refine Below.setCell ?_ (by first | omega | (simp; done) | (simp; omega)) _ | refine Below.alloc ?_ (by first | omega | (simp; done) | (simp; omega)) _ | refine Below.trans ?_ (Below.mono hb3 (by first | omega | (simp; done) | (simp; omega))) | refine Below.trans ?_ (Below.mono hb1 (by first | omega | (simp; done) | (simp; omega)))))⟩
    have hO : CvO fr 32 mode x = true := by unfold CvO; rw [k1, k2, k3]; rfl
    have HO := hid hO
    rw [k3] at CK
    obtain ⟨sg, hsg⟩ : ∃ sg, sg = sigB fr x := ⟨_, rfl⟩
    rw [← hsg] at CS
    have HMD := hid k2
    rcases cls_cases k3 with hc | hc | hc | hc | hc
    · have HB : Hid (CvB fr 32 mode x = sgn 2147483648 0 sg) := hid (by unfold CvB; rw [hO, if_pos rfl, if_pos hc, ← hsg]; rfl)
      have HF : Hid (CvF fr 32 mode x = 0) := hid (by unfold CvF; rw [hO, if_pos rfl, if_pos hc])
      rw [hc] at CC
      clear k1 k2 k3 hO hsg hc
      go_enter Tryd.func23, Tryd.ntmps23
      go_wp2_with fail
      refine (sizes32 _ hT.s.f).mono ?_
      rintro r w1 ⟨rfl, hb1⟩
      go_wp2_with fail
      refine (CM.out _).mono ?_
      rintro r w2 ⟨rfl, rfl⟩
      have T2 := (hT.below hb1).al (.cells #[.int .u64 23, .int .u64 255, .int .i64 (-149)] 52)
      go_wp2_with fail
      refine (CK.out _ T2.s.f).mono ?_
      rintro r w3 ⟨rfl, hb3⟩
      have T3' := T2.below hb3
      go_wp2_with fail
      refine (CS.out _ T3'.s.f).mono ?_
      rintro r w4 ⟨rfl, hb4⟩
      have T4 := T3'.below hb4
      go_wp2_with fail
      refine (CC.out _ T4.s.f).mono ?_
      rintro r w5 ⟨rfl, hb5⟩
      have T5 := T4.below hb5
      have bel5 : Below w.heap.size w w5 := (by repeat (first | exact Below.refl _ _ | refine Below.drew ?_ | refine bel_dn ?_ _ | refine bel_al ?_ _ | refine bel_go ?_ hb5 | refine bel_go ?_ hb4 | refine bel_go ?_ hb3 | refine bel_go ?_ hb1 | refine Below.setCell ?_ (by first | omega | (simp; done) | (simp; omega)) _ | refine Below.alloc ?_ (by first | omega | (simp; done) | (simp; omega)) _ | refine Below.trans ?_ (Below.mono hb5 (by first | omega | (simp; done) | (simp; omega))) | refine Below.trans ?_ (Below.mono hb4 (by first | omega | (simp; done) | (simp; omega))) | refine Below.trans ?_ (Below.mono hb3 (by first | omega | (simp; done) | (simp; omega))) | refine Below.trans ?_ (Below.mono hb1 (by first | omega | (simp; done) | (simp; omega)))))
      clear hb1 hb3 hb4 hb5 T2 T3' T4
      go_wp2_with fail
      refine (impl_Zero32 sg _ T5.s.f).mono ?_
      rintro r w6 ⟨rfl, hb6⟩
      go_wp2
      go_ret3
      exact ⟨ret_uib2 HB.out.symm HF.out.symm HO.out.symm, (by repeat (first | exact Below.refl _ _ | refine Below.drew ?_ | refine bel_dn ?_ _ | refine bel_al ?_ _ | refine bel_go ?_ hb6 | refine bel_go ?_ bel5 | refine Below.setCell ?_ (by first | omega | (simp; done) | (simp; omega)) _ | refine Below.alloc ?_ (by first | omega | (simp; done) | (simp; omega)) _ | refine Below.trans ?_ (Below.mono hb6 (by first | omega | (simp; done) | (simp; omega))) | refine Below.trans ?_ (Below.mono bel5 (by first | omega | (simp; done) | (simp; omega)))))⟩
    · have HB : Hid (CvB fr 32 mode x = sgn 2147483648 2139095040 sg) := hid (by unfold CvB; rw [hO, if_pos rfl, if_neg (by omega), if_pos hc, ← hsg]; rfl)
      have HF : Hid (CvF fr 32 mode x = 0) := hid (by unfold CvF; rw [hO, if_pos rfl, if_neg (by omega), if_pos hc])
      rw [hc] at CC
      clear k1 k2 k3 hO hsg hc
      go_enter Tryd.func23, Tryd.ntmps23
      go_wp2_with fail
      refine (sizes32 _ hT.s.f).mono ?_
      rintro r w1 ⟨rfl, hb1⟩
      go_wp2_with fail
      refine (CM.out _).mono ?_
      rintro r w2 ⟨rfl, rfl⟩
      have T2 := (hT.below hb1).al (.cells #[.int .u64 23, .int .u64 255, .int .i64 (-149)] 52)
      go_wp2_with fail
      refine (CK.out _ T2.s.f).mono ?_
      rintro r w3 ⟨rfl, hb3⟩
      have T3' := T2.below hb3
      go_wp2_with fail
      refine (CS.out _ T3'.s.f).mono ?_
      rintro r w4 ⟨rfl, hb4⟩
      have T4 := T3'.below hb4
      go_wp2_with fail
      refine (CC.out _ T4.s.f).mono ?_
      rintro r w5 ⟨rfl, hb5⟩
      have T5 := T4.below hb5
      have bel5 : Below w.heap.size w w5 := (by repeat (first | exact Below.refl _ _ | refine Below.drew ?_ | refine bel_dn ?_ _ | refine bel_al ?_ _ | refine bel_go ?_ hb5 | refine bel_go ?_ hb4 | refine bel_go ?_ hb3 | refine bel_go ?_ hb1 | refine Below.setCell ?_ (by first | omega | (simp; done) | (simp; omega)) _ | refine Below.alloc ?_ (by first | omega | (simp; done) | (simp; omega)) _ | refine Below.trans ?_ (Below.mono hb5 (by first | omega | (simp; done) | (simp; omega))) | refine Below.trans ?_ (Below.mono hb4 (by first | omega | (simp; done) | (simp; omega))) | refine Below.trans ?_ (Below.mono hb3 (by first | omega | (simp; done) | (simp; omega))) | refine Below.trans ?_ (Below.mono hb1 (by first | omega | (simp; done) | (simp; omega)))))
      clear hb1 hb3 hb4 hb5 T2 T3' T4
      go_wp2_with fail
      refine (impl_Inf32 sg _ T5.s.f).mono ?_
      rintro r w6 ⟨rfl, hb6⟩
      go_wp2
      go_ret3
      exact ⟨ret_uib2 HB.out.symm HF.out.symm HO.out.symm, (by repeat (first | exact Below.refl _ _ | refine Below.drew ?_ | refine bel_dn ?_ _ | refine bel_al ?_ _ | refine bel_go ?_ hb6 | refine bel_go ?_ bel5 | refine Below.setCell ?_ (by first | omega | (simp; done) | (simp; omega)) _ | refine Below.alloc ?_ (by first | omega | (simp; done) | (simp; omega)) _ | refine Below.trans ?_ (Below.mono hb6 (by first | omega | (simp; done) | (simp; omega))) | refine Below.trans ?_ (Below.mono bel5 (by first | omega | (simp; done) | (simp; omega)))))⟩
    · have HB : Hid (CvB fr 32 mode x = 2143289344) := hid (by unfold CvB; rw [hO, if_pos rfl, if_neg (by omega), if_neg (by omega), if_pos hc]; rfl)
      have HF : Hid (CvF fr 32 mode x = 0) := hid (by unfold CvF; rw [hO, if_pos rfl, if_neg (by omega), if_neg (by omega), if_pos hc])
      rw [hc] at CC
      clear k1 k2 k3 hO hsg hc
      go_enter Tryd.func23, Tryd.ntmps23
      go_wp2_with fail
      refine (sizes32 _ hT.s.f).mono ?_
      rintro r w1 ⟨rfl, hb1⟩
      go_wp2_with fail
      refine (CM.out _).mono ?_
      rintro r w2 ⟨rfl, rfl⟩
      have T2 := (hT.below hb1).al (.cells #[.int .u64 23, .int .u64 255, .int .i64 (-149)] 52)
      go_wp2_with fail
      refine (CK.out _ T2.s.f).mono ?_
      rintro r w3 ⟨rfl, hb3⟩
      have T3' := T2.below hb3
      go_wp2_with fail
      refine (CS.out _ T3'.s.f).mono ?_
      rintro r w4 ⟨rfl, hb4⟩
      have T4 := T3'.below hb4
      go_wp2_with fail
      refine (CC.out _ T4.s.f).mono ?_
      rintro r w5 ⟨rfl, hb5⟩
      have T5 := T4.below hb5
      have bel5 : Below w.heap.size w w5 := (by repeat (first | exact Below.refl _ _ | refine Below.drew ?_ | refine bel_dn ?_ _ | refine bel_al ?_ _ | refine bel_go ?_ hb5 | refine bel_go ?_ hb4 | refine bel_go ?_ hb3 | refine bel_go ?_ hb1 | refine Below.setCell ?_ (by first | omega | (simp; done) | (simp; omega)) _ | refine Below.alloc ?_ (by first | omega | (simp; done) | (simp; omega)) _ | refine Below.trans ?_ (Below.mono hb5 (by first | omega | (simp; done) | (simp; omega))) | refine Below.trans ?_ (Below.mono hb4 (by first | omega | (simp; done) | (simp; omega))) | refine Below.trans ?_ (Below.mono hb3 (by first | omega | (simp; done) | (simp; omega))) | refine Below.trans ?_ (Below.mono hb1 (by first | omega | (simp; done) | (simp; omega)))))
      clear hb1 hb3 hb4 hb5 T2 T3' T4
      go_wp2_with fail
      refine (impl_nan32 _ T5.s.f).mono ?_
      rintro r w6 ⟨rfl, hb6⟩
      go_wp2
      go_ret3
      exact ⟨ret_uib2 HB.out.symm HF.out.symm HO.out.symm, (by repeat (first | exact Below.refl _ _ | refine Below.drew ?_ | refine bel_dn ?_ _ | refine bel_al ?_ _ | refine bel_go ?_ hb6 | refine bel_go ?_ bel5 | refine Below.setCell ?_ (by first | omega | (simp; done) | (simp; omega)) _ | refine Below.alloc ?_ (by first | omega | (simp; done) | (simp; omega)) _ | refine Below.trans ?_ (Below.mono hb6 (by first | omega | (simp; done) | (simp; omega))) | refine Below.trans ?_ (Below.mono bel5 (by first | omega | (simp; done) | (simp; omega)))))⟩
    · have HB : Hid (CvB fr 32 mode x = 2143289344) := hid (by unfold CvB; rw [hO, if_pos rfl, if_neg (by omega), if_neg (by omega), if_neg (by omega), if_pos hc]; rfl)
      have HF : Hid (CvF fr 32 mode x = 8) := hid (by unfold CvF; rw [hO, if_pos rfl, if_neg (by omega), if_neg (by omega), if_neg (by omega), if_pos hc])
      rw [hc] at CC
      clear k1 k2 k3 hO hsg hc
      go_enter Tryd.func23, Tryd.ntmps23
      go_wp2_with fail
      refine (sizes32 _ hT.s.f).mono ?_
      rintro r w1 ⟨rfl, hb1⟩
      go_wp2_with fail
      refine (CM.out _).mono ?_
      rintro r w2 ⟨rfl, rfl⟩
      have T2 := (hT.below hb1).al (.cells #[.int .u64 23, .int .u64 255, .int .i64 (-149)] 52)
      go_wp2_with fail
      refine (CK.out _ T2.s.f).mono ?_
      rintro r w3 ⟨rfl, hb3⟩
      have T3' := T2.below hb3
      go_wp2_with fail
      refine (CS.out _ T3'.s.f).mono ?_
      rintro r w4 ⟨rfl, hb4⟩
      have T4 := T3'.below hb4
      go_wp2_with fail
      refine (CC.out _ T4.s.f).mono ?_
      rintro r w5 ⟨rfl, hb5⟩
      have T5 := T4.below hb5
      have bel5 : Below w.heap.size w w5 := (by repeat (first | exact Below.refl _ _ | refine Below.drew ?_ | refine bel_dn ?_ _ | refine bel_al ?_ _ | refine bel_go ?_ hb5 | refine bel_go ?_ hb4 | refine bel_go ?_ hb3 | refine bel_go ?_ hb1 | refine Below.setCell ?_ (by first | omega | (simp; done) | (simp; omega)) _ | refine Below.alloc ?_ (by first | omega | (simp; done) | (simp; omega)) _ | refine Below.trans ?_ (Below.mono hb5 (by first | omega | (simp; done) | (simp; omega))) | refine Below.trans ?_ (Below.mono hb4 (by first | omega | (simp; done) | (simp; omega))) | refine Below.trans ?_ (Below.mono hb3 (by first | omega | (simp; done) | (simp; omega))) | refine Below.trans ?_ (Below.mono hb1 (by first | omega | (simp; done) | (simp; omega)))))
      clear hb1 hb3 hb4 hb5 T2 T3' T4
      go_wp2_with fail
      refine (impl_nan32 _ T5.s.f).mono ?_
      rintro r w6 ⟨rfl, hb6⟩
      go_wp2
      go_ret3
      exact ⟨ret_uib2 HB.out.symm HF.out.symm HO.out.symm, (by repeat (first | exact Below.refl _ _ | refine Below.drew ?_ | refine bel_dn ?_ _ | refine bel_al ?_ _ | refine bel_go ?_ hb6 | refine bel_go ?_ bel5 | refine Below.setCell ?_ (by first | omega | (simp; done) | (simp; omega)) _ | refine Below.alloc ?_ (by first | omega | (simp; done) | (simp; omega)) _ | refine Below.trans ?_ (Below.mono hb6 (by first | omega | (simp; done) | (simp; omega))) | refine Below.trans ?_ (Below.mono bel5 (by first | omega | (simp; done) | (simp; omega)))))⟩
    · obtain ⟨hfin, hpos⟩ := pM_pos hc
      have hbd := pM_bd fr x
      have hbe := pE_bd fr x
      obtain ⟨m, hm⟩ : ∃ m : Nat, pM fr x = m := ⟨(pM fr x).toNat, by omega⟩
      have hm0 : m ≠ 0 := by omega
      have hbl : bitLen m ≤ 64 := (Nm.bl_le_iff m 64).2 (by omega)
      obtain ⟨E, hE⟩ : ∃ E : Int, E = pE fr x := ⟨_, rfl⟩
      have hps : pS fr x = sg := by unfold pS; rw [hfin, if_pos rfl, hsg]
      have HB : Hid (CvB fr 32 mode x = rdB 24 (-149) 2139095040 2147483648 mode sg m E) := hid (by unfold CvB; rw [hO, if_pos rfl, if_neg (by omega), if_neg (by omega), if_neg (by omega), if_neg (by omega), ← hsg, hm, Int.toNat_natCast, ← hE]; rfl)
      have HF : Hid (CvF fr 32 mode x = rdF 24 (-149) 2139095040 mode sg m E) := hid (by unfold CvF; rw [hO, if_pos rfl, if_neg (by omega), if_neg (by omega), if_neg (by omega), if_neg (by omega), ← hsg, hm, Int.toNat_natCast, ← hE]; rfl)
      rw [hfin, hps, hm, ← hE] at CP
      have CG := hid (fun w' => signedM_n sg m E w' hm0 (by omega))
      have CR := hid (fun a c w' h h' => rnd_32 mode sg m E a c w' h h' HMD.out hm0 (by omega) (by omega) (by omega))
      rw [← HB.out, ← HF.out] at CR
      obtain ⟨z, hz⟩ : ∃ z : Int, z = ((m : Nat) : Int) := ⟨_, rfl⟩
      rw [← hz] at CG CP
      obtain ⟨cc, hcc⟩ : ∃ cc, cc = cls fr x := ⟨_, rfl⟩
      rw [← hcc] at CC
      have hc' : cc = 1 ∨ cc = 2 := by rw [hcc]; exact hc
      have HM := hid hm
      clear k1 k2 k3 hO hsg hc hfin hpos hbd hm0 hbl hps hm hz hcc
      have g0 : (cc == 0) = false := by rw [beq_eq_false_iff_ne]; omega
      have g3 : (cc == 3) = false := by rw [beq_eq_false_iff_ne]; omega
      have g4 : (cc == 4) = false := by rw [beq_eq_false_iff_ne]; omega
      have g5 : (cc == 5) = false := by rw [beq_eq_false_iff_ne]; omega
      clear hc' hbe hE
      go_enter Tryd.func23, Tryd.ntmps23
      go_wp2_with fail
      refine (sizes32 _ hT.s.f).mono ?_
      rintro r w1 ⟨rfl, hb1⟩
      go_wp2_with fail
      refine (CM.out _).mono ?_
      rintro r w2 ⟨rfl, rfl⟩
      have T2 := (hT.below hb1).al (.cells #[.int .u64 23, .int .u64 255, .int .i64 (-149)] 52)
      go_wp2_with fail
      refine (CK.out _ T2.s.f).mono ?_
      rintro r w3 ⟨rfl, hb3⟩
      have T3' := T2.below hb3
      go_wp2_with fail
      refine (CS.out _ T3'.s.f).mono ?_
      rintro r w4 ⟨rfl, hb4⟩
      have T4 := T3'.below hb4
      go_wp2_with fail
      refine (CC.out _ T4.s.f).mono ?_
      rintro r w5 ⟨rfl, hb5⟩
      have T5 := T4.below hb5
      have bel5 : Below w.heap.size w w5 := (by repeat (first | exact Below.refl _ _ | refine Below.drew ?_ | refine bel_dn ?_ _ | refine bel_al ?_ _ | refine bel_go ?_ hb5 | refine bel_go ?_ hb4 | refine bel_go ?_ hb3 | refine bel_go ?_ hb1 | refine Below.setCell ?_ (by first | omega | (simp; done) | (simp; omega)) _ | refine Below.alloc ?_ (by first | omega | (simp; done) | (simp; omega)) _ | refine Below.trans ?_ (Below.mono hb5 (by first | omega | (simp; done) | (simp; omega))) | refine Below.trans ?_ (Below.mono hb4 (by first | omega | (simp; done) | (simp; omega))) | refine Below.trans ?_ (Below.mono hb3 (by first | omega | (simp; done) | (simp; omega))) | refine Below.trans ?_ (Below.mono hb1 (by first | omega | (simp; done) | (simp; omega)))))
      clear hb1 hb3 hb4 hb5 T2 T3' T4
      go_wp2_with fail
      refine (CP.out _ T5.s.f).mono ?_
      rintro r w6 ⟨rfl, hb6⟩
      have T6 := (T5.below hb6).al (.cells #[.bool sg, .int .i64 z, .int .i64 E] 43)
      have bel6 := bel_al (bel_go bel5 hb6) (.cells #[.bool sg, .int .i64 z, .int .i64 E] 43)
      obtain ⟨r20, r21, r22, r2f, r2g, r2h⟩ := R3.new w6 (.bool sg) (.int .i64 z) (.int .i64 E) 43
      go_wp2_with fail
      go_region_held3 (fun w' => w'.cell? ⟨w6.heap.size, 0, none⟩ = some (.bool sg) ∧ w'.cell? ⟨w6.heap.size, 1, none⟩ = some (.int .i64 z) ∧ w'.cell? ⟨w6.heap.size, 2, none⟩ = some (.int .i64 E))
        (first
          | assumption
          | exact ⟨r20, r21, r22⟩
          | exact ⟨rr1.c0, rr1.c1, rr1.c2⟩
          | exact ⟨rr2.c0, rr2.c1, rr2.c2⟩)
        (first
          | (go_at_call 29; refine (CG.out _).mono ?_; rintro r q1 ⟨d1, f1, rfl, hp1, hq1⟩; have rr1 := R3.below (R3.dr ⟨r20, r21, r22, r2f, r2g, r2h⟩) hq1; have T7 := T6.dr.below hq1)
          | (go_at_call 16; refine (CR.out d1 f1 _ T7 hp1.sl).mono ?_; rintro r q2 ⟨rfl, hq2⟩; have rr2 := R3.below rr1 hq2))
      go_wp2
      go_ret3
      exact ⟨ret_uib2 rfl rfl HO.out.symm, (by repeat (first | exact Below.refl _ _ | refine Below.drew ?_ | refine bel_dn ?_ _ | refine bel_al ?_ _ | refine bel_go ?_ hq2 | refine bel_go ?_ hq1 | refine bel_go ?_ hb6 | refine bel_go ?_ bel5 | refine Below.setCell ?_ (by first | omega | (simp; done) | (simp; omega)) _ | refine Below.alloc ?_ (by first | omega | (simp; done) | (simp; omega)) _ | refine Below.trans ?_ (Below.mono hq2 (by first | omega | (simp; done) | (simp; omega))) | refine Below.trans ?_ (Below.mono hq1 (by first | omega | (simp; done) | (simp; omega))) | refine Below.trans ?_ (Below.mono hb6 (by first | omega | (simp; done) | (simp; omega))) | refine Below.trans ?_ (Below.mono bel5 (by first | omega | (simp; done) | (simp; omega)))))⟩
  · cases k2 : modeB mode
    · have HO : Hid (CvO fr 64 mode x = false) := hid (by unfold CvO; rw [k2]; simp)
      have HR := hid (Cv_no HO.out)
      rw [k2] at CM
      clear k1 k2
      go_enter Tryd.func23, Tryd.ntmps23
      go_wp2_with fail
      refine (sizes64 _ hT.s.f).mono ?_
      rintro r w1 ⟨rfl, hb1⟩
      go_wp2_with fail
      refine (CM.out _).mono ?_
      rintro r w2 ⟨rfl, rfl⟩
      go_wp2
      go_ret3
      exact ⟨ret_uib2 HR.out.1.symm HR.out.2.symm HO.out.symm, (by repeat (first | exact Below.refl _ _ | refine Below.drew ?_ | refine bel_dn ?_ _ | refine bel_al ?_ _ | refine bel_go ?_ hb1 | refine Below.setCell ?_ (by first | omega | (simp; done) | (simp; omega)) _ | refine Below.alloc ?_ (by first | omega | (simp; done) | (simp; omega)) _ | refine Below.trans ?_ (Below.mono hb1 (by first | omega | (simp; done) | (simp; omega)))))⟩
    rw [k2] at CM
    cases k3 : okF fr x
    · have HO : Hid (CvO fr 64 mode x = false) := hid (by unfold CvO; rw [k3]; simp)
      have HR := hid (Cv_no HO.out)
      rw [k3] at CK
      clear k1 k2 k3
      go_enter Tryd.func23, Tryd.ntmps23
      go_wp2_with fail
      refine (sizes64 _ hT.s.f).mono ?_
      rintro r w1 ⟨rfl, hb1⟩
      go_wp2_with fail
      refine (CM.out _).mono ?_
      rintro r w2 ⟨rfl, rfl⟩
      go_wp2_with fail
      refine (CK.out _ ((hT.s.f.below hb1).al _)).mono ?_
      rintro r w3 ⟨rfl, hb3⟩
      go_wp2
      go_ret3
      exact ⟨ret_uib2 HR.out.1.symm HR.out.2.symm HO.out.symm, (by repeat (first | exact Below.refl _ _ | refine Below.drew ?_ | refine bel_dn ?_ _ | refine bel_al ?_ _ | refine bel_go ?_ hb3 | refine bel_go ?_ hb1 | refine Below.setCell ?_ (by first | omega | (simp; done) | (simp; omega)) _ | refine Below.alloc ?_ (by first | omega | (simp; done) | (simp; omega)) _ | refine Below.trans ?_ (Below.mono hb3 (by first | omega | (simp; done) | (simp; omega))) | refine Below.trans ?_ (Below.mono hb1 (by first | omega | (simp; done) | (simp; omega)))))⟩
    have hO : CvO fr 64 mode x = true := by unfold CvO; rw [k1, k2, k3]; rfl
    have HO := hid hO
    rw [k3] at CK
    obtain ⟨sg, hsg⟩ : ∃ sg, sg = sigB fr x := ⟨_, rfl⟩
    rw [← hsg] at CS
    have HMD := hid k2
    rcases cls_cases k3 with hc | hc | hc | hc | hc
    · have HB : Hid (CvB fr 64 mode x = sgn 9223372036854775808 0 sg) := hid (by unfold CvB; rw [hO, if_pos rfl, if_pos hc, ← hsg]; rfl)
      have HF : Hid (CvF fr 64 mode x = 0) := hid (by unfold CvF; rw [hO, if_pos rfl, if_pos hc])
      rw [hc] at CC
      clear k1 k2 k3 hO hsg hc
      go_enter Tryd.func23, Tryd.ntmps23
      go_wp2_with fail
      refine (sizes64 _ hT.s.f).mono ?_
      rintro r w1 ⟨rfl, hb1⟩
      go_wp2_with fail
      refine (CM.out _).mono ?_
      rintro r w2 ⟨rfl, rfl⟩
      have T2 := (hT.below hb1).al (.cells #[.int .u64 52, .int .u64 2047, .int .i64 (-1074)] 52)
      go_wp2_with fail
      refine (CK.out _ T2.s.f).mono ?_
      rintro r w3 ⟨rfl, hb3⟩
      have T3' := T2.below hb3
      go_wp2_with fail
      refine (CS.out _ T3'.s.f).mono ?_
      rintro r w4 ⟨rfl, hb4⟩
      have T4 := T3'.below hb4
      go_wp2_with fail
      refine (CC.out _ T4.s.f).mono ?_
      rintro r w5 ⟨rfl, hb5⟩
      have T5 := T4.below hb5
      have bel5 : Below w.heap.size w w5 := (by repeat (first | exact Below.refl _ _ | refine Below.drew ?_ | refine bel_dn ?_ _ | refine bel_al ?_ _ | refine bel_go ?_ hb5 | refine bel_go ?_ hb4 | refine bel_go ?_ hb3 | refine bel_go ?_ hb1 | refine Below.setCell ?_ (by first | omega | (simp; done) | (simp; omega)) _ | refine Below.alloc ?_ (by first | omega | (simp; done) | (simp; omega)) _ | refine Below.trans ?_ (Below.mono hb5 (by first | omega | (simp; done) | (simp; omega))) | refine Below.trans ?_ (Below.mono hb4 (by first | omega | (simp; done) | (simp; omega))) | refine Below.trans ?_ (Below.mono hb3 (by first | omega | (simp; done) | (simp; omega))) | refine Below.trans ?_ (Below.mono hb1 (by first | omega | (simp; done) | (simp; omega)))))
      clear hb1 hb3 hb4 hb5 T2 T3' T4
      go_wp2_with fail
      refine (impl_Zero64 sg _ T5.s.f).mono ?_
      rintro r w6 ⟨rfl, hb6⟩
      go_wp2
      go_ret3
      exact ⟨ret_uib2 HB.out.symm HF.out.symm HO.out.symm, (by repeat (first | exact Below.refl _ _ | refine Below.drew ?_ | refine bel_dn ?_ _ | refine bel_al ?_ _ | refine bel_go ?_ hb6 | refine bel_go ?_ bel5 | refine Below.setCell ?_ (by first | omega | (simp; done) | (simp; omega)) _ | refine Below.alloc ?_ (by first | omega | (simp; done) | (simp; omega)) _ | refine Below.trans ?_ (Below.mono hb6 (by first | omega | (simp; done) | (simp; omega))) | refine Below.trans ?_ (Below.mono bel5 (by first | omega | (simp; done) | (simp; omega)))))⟩
    · have HB : Hid (CvB fr 64 mode x = sgn 9223372036854775808 9218868437227405312 sg) := hid (by unfold CvB; rw [hO, if_pos rfl, if_neg (by omega), if_pos hc, ← hsg]; rfl)
      have HF : Hid (CvF fr 64 mode x = 0) := hid (by unfold CvF; rw [hO, if_pos rfl, if_neg (by omega), if_pos hc])
      rw [hc] at CC
      clear k1 k2 k3 hO hsg hc
      go_enter Tryd.func23, Tryd.ntmps23
      go_wp2_with fail
      refine (sizes64 _ hT.s.f).mono ?_
      rintro r w1 ⟨rfl, hb1⟩
      go_wp2_with fail
      refine (CM.out _).mono ?_
      rintro r w2 ⟨rfl, rfl⟩
      have T2 := (hT.below hb1).al (.cells #[.int .u64 52, .int .u64 2047, .int .i64 (-1074)] 52)
      go_wp2_with fail
      refine (CK.out _ T2.s.f).mono ?_
      rintro r w3 ⟨rfl, hb3⟩
      have T3' := T2.below hb3
      go_wp2_with fail
      refine (CS.out _ T3'.s.f).mono ?_
      rintro r w4 ⟨rfl, hb4⟩
      have T4 := T3'.below hb4
      go_wp2_with fail
      refine (CC.out _ T4.s.f).mono ?_
      rintro r w5 ⟨rfl, hb5⟩
      have T5 := T4.below hb5
      have bel5 : Below w.heap.size w w5 := (by repeat (first | exact Below.refl _ _ | refine Below.drew ?_ | refine bel_dn ?_ _ | refine bel_al ?_ _ | refine bel_go ?_ hb5 | refine bel_go ?_ hb4 | refine bel_go ?_ hb3 | refine bel_go ?_ hb1 | refine Below.setCell ?_ (by first | omega | (simp; done) | (simp; omega)) _ | refine Below.alloc ?_ (by first | omega | (simp; done) | (simp; omega)) _ | refine Below.trans ?_ (Below.mono hb5 (by first | omega | (simp; done) | (simp; omega))) | refine Below.trans ?_ (Below.mono hb4 (by first | omega | (simp; done) | (simp; omega))) | refine Below.trans ?_ (Below.mono hb3 (by first | omega | (simp; done) | (simp; omega))) | refine Below.trans ?_ (Below.mono hb1 (by first | omega | (simp; done) | (simp; omega)))))
      clear hb1 hb3 hb4 hb5 T2 T3' T4
      go_wp2_with fail
      refine (impl_Inf64 sg _ T5.s.f).mono ?_
      rintro r w6 ⟨rfl, hb6⟩
      go_wp2
      go_ret3
      exact ⟨ret_uib2 HB.out.symm HF.out.symm HO.out.symm, (by repeat (first | exact Below.refl _ _ | refine Below.drew ?_ | refine bel_dn ?_ _ | refine bel_al ?_ _ | refine bel_go ?_ hb6 | refine bel_go ?_ bel5 | refine Below.setCell ?_ (by first | omega | (simp; done) | (simp; omega)) _ | refine Below.alloc ?_ (by first | omega | (simp; done) | (simp; omega)) _ | refine Below.trans ?_ (Below.mono hb6 (by first | omega | (simp; done) | (simp; omega))) | refine Below.trans ?_ (Below.mono bel5 (by first | omega | (simp; done) | (simp; omega)))))⟩
    · have HB : Hid (CvB fr 64 mode x = 9221120237041090560) := hid (by unfold CvB; rw [hO, if_pos rfl, if_neg (by omega), if_neg (by omega), if_pos hc]; rfl)
      have HF : Hid (CvF fr 64 mode x = 0) := hid (by unfold CvF; rw [hO, if_pos rfl, if_neg (by omega), if_neg (by omega), if_pos hc])
      rw [hc] at CC
      clear k1 k2 k3 hO hsg hc
      go_enter Tryd.func23, Tryd.ntmps23
      go_wp2_with fail
      refine (sizes64 _ hT.s.f).mono ?_
      rintro r w1 ⟨rfl, hb1⟩
      go_wp2_with fail
      refine (CM.out _).mono ?_
      rintro r w2 ⟨rfl, rfl⟩
      have T2 := (hT.below hb1).al (.cells #[.int .u64 52, .int .u64 2047, .int .i64 (-1074)] 52)
      go_wp2_with fail
      refine (CK.out _ T2.s.f).mono ?_
      rintro r w3 ⟨rfl, hb3⟩
      have T3' := T2.below hb3
      go_wp2_with fail
      refine (CS.out _ T3'.s.f).mono ?_
      rintro r w4 ⟨rfl, hb4⟩
      have T4 := T3'.below hb4
      go_wp2_with fail
      refine (CC.out _ T4.s.f).mono ?_
      rintro r w5 ⟨rfl, hb5⟩
      have T5 := T4.below hb5
      have bel5 : Below w.heap.size w w5 := (by repeat (first | exact Below.refl _ _ | refine Below.drew ?_ | refine bel_dn ?_ _ | refine bel_al ?_ _ | refine bel_go ?_ hb5 | refine bel_go ?_ hb4 | refine bel_go ?_ hb3 | refine bel_go ?_ hb1 | refine Below.setCell ?_ (by first | omega | (simp; done) | (simp; omega)) _ | refine Below.alloc ?_ (by first | omega | (simp; done) | (simp; omega)) _ | refine Below.trans ?_ (Below.mono hb5 (by first | omega | (simp; done) | (simp; omega))) | refine Below.trans ?_ (Below.mono hb4 (by first | omega | (simp; done) | (simp; omega))) | refine Below.trans ?_ (Below.mono hb3 (by first | omega | (simp; done) | (simp; omega))) | refine Below.trans ?_ (Below.mono hb1 (by first | omega | (simp; done) | (simp; omega)))))
      clear hb1 hb3 hb4 hb5 T2 T3' T4
      go_wp2_with fail
      refine (impl_nan64 _ T5.s.f).mono ?_
      rintro r w6 ⟨rfl, hb6⟩
      go_wp2
      go_ret3
      exact ⟨ret_uib2 HB.out.symm HF.out.symm HO.out.symm, (by repeat (first | exact Below.refl _ _ | refine Below.drew ?_ | refine bel_dn ?_ _ | refine bel_al ?_ _ | refine bel_go ?_ hb6 | refine bel_go ?_ bel5 | refine Below.setCell ?_ (by first | omega | (simp; done) | (simp; omega)) _ | refine Below.alloc ?_ (by first | omega | (simp; done) | (simp; omega)) _ | refine Below.trans ?_ (Below.mono hb6 (by first | omega | (simp; done) | (simp; omega))) | refine Below.trans ?_ (Below.mono bel5 (by first | omega | (simp; done) | (simp; omega)))))⟩
    · have HB : Hid (CvB fr 64 mode x = 9221120237041090560) := hid (by unfold CvB; rw [hO, if_pos rfl, if_neg (by omega), if_neg (by omega), if_neg (by omega), if_pos hc]; rfl)
      have HF : Hid (CvF fr 64 mode x = 8) := hid (by unfold CvF; rw [hO, if_pos rfl, if_neg (by omega), if_neg (by omega), if_neg (by omega), if_pos hc])
      rw [hc] at CC
      clear k1 k2 k3 hO hsg hc
      go_enter Tryd.func23, Tryd.ntmps23
      go_wp2_with fail
      refine (sizes64 _ hT.s.f).mono ?_
      rintro r w1 ⟨rfl, hb1⟩
      go_wp2_with fail
      refine (CM.out _).mono ?_
      rintro r w2 ⟨rfl, rfl⟩
      have T2 := (hT.below hb1).al (.cells #[.int .u64 52, .int .u64 2047, .int .i64 (-1074)] 52)
      go_wp2_with fail
      refine (CK.out _ T2.s.f).mono ?_
      rintro r w3 ⟨rfl, hb3⟩
      have T3' := T2.below hb3
      go_wp2_with fail
      refine (CS.out _ T3'.s.f).mono ?_
      rintro r w4 ⟨rfl, hb4⟩
      have T4 := T3'.below hb4
      go_wp2_with fail
      refine (CC.out _ T4.s.f).mono ?_
      rintro r w5 ⟨rfl, hb5⟩
      have T5 := T4.below hb5
      have bel5 : Below w.heap.size w w5 := (by repeat (first | exact Below.refl _ _ | refine Below.drew ?_ | refine bel_dn ?_ _ | refine bel_al ?_ _ | refine bel_go ?_ hb5 | refine bel_go ?_ hb4 | refine bel_go ?_ hb3 | refine bel_go ?_ hb1 | refine Below.setCell ?_ (by first | omega | (simp; done) | (simp; omega)) _ | refine Below.alloc ?_ (by first | omega | (simp; done) | (simp; omega)) _ | refine Below.trans ?_ (Below.mono hb5 (by first | omega | (simp; done) | (simp; omega))) | refine Below.trans ?_ (Below.mono hb4 (by first | omega | (simp; done) | (simp; omega))) | refine Below.trans ?_ (Below.mono hb3 (by first | omega | (simp; done) | (simp; omega))) | refine Below.trans ?_ (Below.mono hb1 (by first | omega | (simp; done) | (simp; omega)))))
      clear hb1 hb3 hb4 hb5 T2 T3' T4
      go_wp2_with fail
      refine (impl_nan64 _ T5.s.f).mono ?_
      rintro r w6 ⟨rfl, hb6⟩
      go_wp2
      go_ret3
      exact ⟨ret_uib2 HB.out.symm HF.out.symm HO.out.symm, (by repeat (first | exact Below.refl _ _ | refine Below.drew ?_ | refine bel_dn ?_ _ | refine bel_al ?_ _ | refine bel_go ?_ hb6 | refine bel_go ?_ bel5 | refine Below.setCell ?_ (by first | omega | (simp; done) | (simp; omega)) _ | refine Below.alloc ?_ (by first | omega | (simp; done) | (simp; omega)) _ | refine Below.trans ?_ (Below.mono hb6 (by first | omega | (simp; done) | (simp; omega))) | refine Below.trans ?_ (Below.mono bel5 (by first | omega | (simp; done) | (simp; omega)))))⟩
    · obtain ⟨hfin, hpos⟩ := pM_pos hc
      have hbd := pM_bd fr x
      have hbe := pE_bd fr x
      obtain ⟨m, hm⟩ : ∃ m : Nat, pM fr x = m := ⟨(pM fr x).toNat, by omega⟩
      have hm0 : m ≠ 0 := by omega
      have hbl : bitLen m ≤ 64 := (Nm.bl_le_iff m 64).2 (by omega)
      obtain ⟨E, hE⟩ : ∃ E : Int, E = pE fr x := ⟨_, rfl⟩
      have hps : pS fr x = sg := by unfold pS; rw [hfin, if_pos rfl, hsg]
      have HB : Hid (CvB fr 64 mode x = rdB 53 (-1074) 9218868437227405312 9223372036854775808 mode sg m E) := hid (by unfold CvB; rw [hO, if_pos rfl, if_neg (by omega), if_neg (by omega), if_neg (by omega), if_neg (by omega), ← hsg, hm, Int.toNat_natCast, ← hE]; rfl)
      have HF : Hid (CvF fr 64 mode x = rdF 53 (-1074) 9218868437227405312 mode sg m E) := hid (by unfold CvF; rw [hO, if_pos rfl, if_neg (by omega), if_neg (by omega), if_neg (by omega), if_neg (by omega), ← hsg, hm, Int.toNat_natCast, ← hE]; rfl)
      rw [hfin, hps, hm, ← hE] at CP
      have CG := hid (fun w' => signedM_n sg m E w' hm0 (by omega))
      have CR := hid (fun a c w' h h' => rnd_64 mode sg m E a c w' h h' HMD.out hm0 (by omega) (by omega) (by omega))
      rw [← HB.out, ← HF.out] at CR
      obtain ⟨z, hz⟩ : ∃ z : Int, z = ((m : Nat) : Int) := ⟨_, rfl⟩
      rw [← hz] at CG CP
      obtain ⟨cc, hcc⟩ : ∃ cc, cc = cls fr x := ⟨_, rfl⟩
      rw [← hcc] at CC
      have hc' : cc = 1 ∨ cc = 2 := by rw [hcc]; exact hc
      have HM := hid hm
      clear k1 k2 k3 hO hsg hc hfin hpos hbd hm0 hbl hps hm hz hcc
      have g0 : (cc == 0) = false := by rw [beq_eq_false_iff_ne]; omega
      have g3 : (cc == 3) = false := by rw [beq_eq_false_iff_ne]; omega
      have g4 : (cc == 4) = false := by rw [beq_eq_false_iff_ne]; omega
      have g5 : (cc == 5) = false := by rw [beq_eq_false_iff_ne]; omega
      clear hc' hbe hE
      go_enter Tryd.func23, Tryd.ntmps23
      go_wp2_with fail
      refine (sizes64 _ hT.s.f).mono ?_
      rintro r w1 ⟨rfl, hb1⟩
      go_wp2_with fail
      refine (CM.out _).mono ?_
      rintro r w2 ⟨rfl, rfl⟩
      have T2 := (hT.below hb1).al (.cells #[.int .u64 52, .int .u64 2047, .int .i64 (-1074)] 52)
      go_wp2_with fail
      refine (CK.out _ T2.s.f).mono ?_
      rintro r w3 ⟨rfl, hb3⟩
      have T3' := T2.below hb3
      go_wp2_with fail
      refine (CS.out _ T3'.s.f).mono ?_
      rintro r w4 ⟨rfl, hb4⟩
      have T4 := T3'.below hb4
      go_wp2_with fail
      refine (CC.out _ T4.s.f).mono ?_
      rintro r w5 ⟨rfl, hb5⟩
      have T5 := T4.below hb5
      have bel5 : Below w.heap.size w w5 := (by repeat (first | exact Below.refl _ _ | refine Below.drew ?_ | refine bel_dn ?_ _ | refine bel_al ?_ _ | refine bel_go ?_ hb5 | refine bel_go ?_ hb4 | refine bel_go ?_ hb3 | refine bel_go ?_ hb1 | refine Below.setCell ?_ (by first | omega | (simp; done) | (simp; omega)) _ | refine Below.alloc ?_ (by first | omega | (simp; done) | (simp; omega)) _ | refine Below.trans ?_ (Below.mono hb5 (by first | omega | (simp; done) | (simp; omega))) | refine Below.trans ?_ (Below.mono hb4 (by first | omega | (simp; done) | (simp; omega))) | refine Below.trans ?_ (Below.mono hb3 (by first | omega | (simp; done) | (simp; omega))) | refine Below.trans ?_ (Below.mono hb1 (by first | omega | (simp; done) | (simp; omega)))))
      clear hb1 hb3 hb4 hb5 T2 T3' T4
      go_wp2_with fail
      refine (CP.out _ T5.s.f).mono ?_
      rintro r w6 ⟨rfl, hb6⟩
      have T6 := (T5.below hb6).al (.cells #[.bool sg, .int .i64 z, .int .i64 E] 43)
      have bel6 := bel_al (bel_go bel5 hb6) (.cells #[.bool sg, .int .i64 z, .int .i64 E] 43)
      obtain ⟨r20, r21, r22, r2f, r2g, r2h⟩ := R3.new w6 (.bool sg) (.int .i64 z) (.int .i64 E) 43
      go_wp2_with fail
      go_region_held3 (fun w' => w'.cell? ⟨w6.heap.size, 0, none⟩ = some (.bool sg) ∧ w'.cell? ⟨w6.heap.size, 1, none⟩ = some (.int .i64 z) ∧ w'.cell? ⟨w6.heap.size, 2, none⟩ = some (.int .i64 E))
        (first
          | assumption
          | exact ⟨r20, r21, r22⟩
          | exact ⟨rr1.c0, rr1.c1, rr1.c2⟩
          | exact ⟨rr2.c0, rr2.c1, rr2.c2⟩)
        (first
          | (go_at_call 29; refine (CG.out _).mono ?_; rintro r q1 ⟨d1, f1, rfl, hp1, hq1⟩; have rr1 := R3.below (R3.dr ⟨r20, r21, r22, r2f, r2g, r2h⟩) hq1; have T7 := T6.dr.below hq1)
          | (go_at_call 16; refine (CR.out d1 f1 _ T7 hp1.sl).mono ?_; rintro r q2 ⟨rfl, hq2⟩; have rr2 := R3.below rr1 hq2))
      go_wp2
      go_ret3
      exact ⟨ret_uib2 rfl rfl HO.out.symm, (by repeat (first | exact Below.refl _ _ | refine Below.drew ?_ | refine bel_dn ?_ _ | refine bel_al ?_ _ | refine bel_go ?_ hq2 | refine bel_go ?_ hq1 | refine bel_go ?_ hb6 | refine bel_go ?_ bel5 | refine Below.setCell ?_ (by first | omega | (simp; done) | (simp; omega)) _ | refine Below.alloc ?_ (by first | omega | (simp; done) | (simp; omega)) _ | refine Below.trans ?_ (Below.mono hq2 (by first | omega | (simp; done) | (simp; omega))) | refine Below.trans ?_ (Below.mono hq1 (by first | omega | (simp; done) | (simp; omega))) | refine Below.trans ?_ (Below.mono hb6 (by first | omega | (simp; done) | (simp; omega))) | refine Below.trans ?_ (Below.mono bel5 (by first | omega | (simp; done) | (simp; omega)))))⟩
set_option maxHeartbeats 8000000 in
set_option maxRecDepth 100000 in
theorem conv_spec (fr tt mode x : Int) (w : World) (x0 : 0 ≤ x) (x1 : x < 18446744073709551616) :
    Calls Tryd.prog 22 #[.int .i64 fr, .int .i64 tt, .int .i64 mode, .int .u64 x] w fun r w' => r = .returned (.tuple #[.int .u64 (CvB fr tt mode x), .int .i64 (CvF fr tt mode x), .bool (CvO fr tt mode x)]) ∧ Below w.heap.size w w' := by
  have CM := hid (fun w' => mode_spec mode w')
  have CK := hid (fun w' => spec_ok fr x w')
  have CT := hid (fun w' => fmt_spec tt w')
  have CC := hid (fun w' => spec_cls fr x w' x0 x1)
  cases k3 : okF fr x
  · have HO : Hid (CvO fr tt mode x = false) := hid (by unfold CvO; rw [k3]; simp)
    have HR := hid (Cv_no HO.out)
    rw [k3] at CK
    clear k3
    go_enter Tryd.func22, Tryd.ntmps22
    go_wp2_with fail
    refine (CK.out _).mono ?_
    rintro r w1 ⟨rfl, hb1⟩
    go_wp2
    go_ret3
    exact ⟨ret_uib2 HR.out.1.symm HR.out.2.symm HO.out.symm, (by repeat (first | exact Below.refl _ _ | refine Below.drew ?_ | refine bel_dn ?_ _ | refine bel_al ?_ _ | refine bel_go ?_ hb1 | refine Below.setCell ?_ (by first | omega | (simp; done) | (simp; omega)) _ | refine Below.alloc ?_ (by first | omega | (simp; done) | (simp; omega)) _ | refine Below.trans ?_ (Below.mono hb1 (by first | omega | (simp; done) | (simp; omega)))))⟩
  rw [k3] at CK
  have CS := hid (fun w' => spec_l2neg fr x w' k3 x0 x1)
  cases k1 : fmtB tt
  · have HO : Hid (CvO fr tt mode x = false) := hid (by unfold CvO; rw [k1]; rfl)
    have HR := hid (Cv_no HO.out)
    rw [k1] at CT
    clear k1 k3
    go_enter Tryd.func22, Tryd.ntmps22
    go_wp2_with fail
    refine (CK.out _).mono ?_
    rintro r w1 ⟨rfl, hb1⟩
    go_wp2_with fail
    refine (CT.out _).mono ?_
    rintro r w2 ⟨rfl, rfl⟩
    go_wp2
    go_ret3
    exact ⟨ret_uib2 HR.out.1.symm HR.out.2.symm HO.out.symm, (by repeat (first | exact Below.refl _ _ | refine Below.drew ?_ | refine bel_dn ?_ _ | refine bel_al ?_ _ | refine bel_go ?_ hb1 | refine Below.setCell ?_ (by first | omega | (simp; done) | (simp; omega)) _ | refine Below.alloc ?_ (by first | omega | (simp; done) | (simp; omega)) _ | refine Below.trans ?_ (Below.mono hb1 (by first | omega | (simp; done) | (simp; omega)))))⟩
  rw [k1] at CT
  cases k2 : modeB mode
  · have HO : Hid (CvO fr tt mode x = false) := hid (by unfold CvO; rw [k2]; simp)
    have HR := hid (Cv_no HO.out)
    rw [k2] at CM
    clear k1 k2 k3
    go_enter Tryd.func22, Tryd.ntmps22
    go_wp2_with fail
    refine (CK.out _).mono ?_
    rintro r w1 ⟨rfl, hb1⟩
    go_wp2_with fail
    refine (CT.out _).mono ?_
    rintro r w2 ⟨rfl, rfl⟩
    go_wp2_with fail
    refine (CM.out _).mono ?_
    rintro r w3 ⟨rfl, rfl⟩
    go_wp2
    go_ret3
    exact ⟨ret_uib2 HR.out.1.symm HR.out.2.symm HO.out.symm, (by repeat (first | exact Below.refl _ _ | refine Below.drew ?_ | refine bel_dn ?_ _ | refine bel_al ?_ _ | refine bel_go ?_ hb1 | refine Below.setCell ?_ (by first | omega | (simp; done) | (simp; omega)) _ | refine Below.alloc ?_ (by first | omega | (simp; done) | (simp; omega)) _ | refine Below.trans ?_ (Below.mono hb1 (by first | omega | (simp; done) | (simp; omega)))))⟩
  rw [k2] at CM
  have hO : CvO fr tt mode x = true := by unfold CvO; rw [k1, k2, k3]; rfl
  have HO := hid hO
  obtain ⟨sg, hsg⟩ : ∃ sg, sg = sigB fr x := ⟨_, rfl⟩
  rw [← hsg] at CS
  have HMD := hid k2
  rcases fmt_cases k1 with rfl | rfl
  · rcases cls_cases k3 with hc | hc | hc | hc | hc
    · have HB : Hid (CvB fr 32 mode x = sgn 2147483648 0 sg) := hid (by unfold CvB; rw [hO, if_pos rfl, if_pos hc, ← hsg]; rfl)
      have HF : Hid (CvF fr 32 mode x = 0) := hid (by unfold CvF; rw [hO, if_pos rfl, if_pos hc])
      rw [hc] at CC
      clear k1 k2 k3 hO hsg hc
      go_enter Tryd.func22, Tryd.ntmps22
      go_wp2_with fail
      refine (CK.out _).mono ?_
      rintro r w1 ⟨rfl, hb1⟩
      go_wp2_with fail
      refine (CT.out _).mono ?_
      rintro r w2 ⟨rfl, rfl⟩
      go_wp2_with fail
      refine (CM.out _).mono ?_
      rintro r w3 ⟨rfl, rfl⟩
      go_wp2_with fail
      refine (CS.out _).mono ?_
      rintro r w4 ⟨rfl, hb4⟩
      go_wp2_with fail
      refine (CC.out _).mono ?_
      rintro r w5 ⟨rfl, hb5⟩
      have bel5 : Below w.heap.size w w5 := (by repeat (first | exact Below.refl _ _ | refine Below.drew ?_ | refine bel_dn ?_ _ | refine bel_al ?_ _ | refine bel_go ?_ hb5 | refine bel_go ?_ hb4 | refine bel_go ?_ hb1 | refine Below.setCell ?_ (by first | omega | (simp; done) | (simp; omega)) _ | refine Below.alloc ?_ (by first | omega | (simp; done) | (simp; omega)) _ | refine Below.trans ?_ (Below.mono hb5 (by first | omega | (simp; done) | (simp; omega))) | refine Below.trans ?_ (Below.mono hb4 (by first | omega | (simp; done) | (simp; omega))) | refine Below.trans ?_ (Below.mono hb1 (by first | omega | (simp; done) | (simp; omega)))))
      clear hb1 hb4 hb5
      go_wp2_with fail
      refine (with_32 0 sg _ (fun _ => ⟨by decide, by decide⟩)).mono ?_
      rintro r w6 ⟨rfl, hb6⟩
      go_wp2
      go_ret3
      exact ⟨ret_uib2 HB.out.symm HF.out.symm HO.out.symm, (by repeat (first | exact Below.refl _ _ | refine Below.drew ?_ | refine bel_dn ?_ _ | refine bel_al ?_ _ | refine bel_go ?_ hb6 | refine bel_go ?_ bel5 | refine Below.setCell ?_ (by first | omega | (simp; done) | (simp; omega)) _ | refine Below.alloc ?_ (by first | omega | (simp; done) | (simp; omega)) _ | refine Below.trans ?_ (Below.mono hb6 (by first | omega | (simp; done) | (simp; omega))) | refine Below.trans ?_ (Below.mono bel5 (by first | omega | (simp; done) | (simp; omega)))))⟩
    · have HB : Hid (CvB fr 32 mode x = sgn 2147483648 2139095040 sg) := hid (by unfold CvB; rw [hO, if_pos rfl, if_neg (by omega), if_pos hc, ← hsg]; rfl)
      have HF : Hid (CvF fr 32 mode x = 0) := hid (by unfold CvF; rw [hO, if_pos rfl, if_neg (by omega), if_pos hc])
      rw [hc] at CC
      have hinf : infOf 32 = 2139095040 := rfl
      have CI := hid (fun w' => spec_inf32 w')
      rw [hinf] at CI
      clear k1 k2 k3 hO hsg hc hinf
      go_enter Tryd.func22, Tryd.ntmps22
      go_wp2_with fail
      refine (CK.out _).mono ?_
      rintro r w1 ⟨rfl, hb1⟩
      go_wp2_with fail
      refine (CT.out _).mono ?_
      rintro r w2 ⟨rfl, rfl⟩
      go_wp2_with fail
      refine (CM.out _).mono ?_
      rintro r w3 ⟨rfl, rfl⟩
      go_wp2_with fail
      refine (CS.out _).mono ?_
      rintro r w4 ⟨rfl, hb4⟩
      go_wp2_with fail
      refine (CC.out _).mono ?_
      rintro r w5 ⟨rfl, hb5⟩
      have bel5 : Below w.heap.size w w5 := (by repeat (first | exact Below.refl _ _ | refine Below.drew ?_ | refine bel_dn ?_ _ | refine bel_al ?_ _ | refine bel_go ?_ hb5 | refine bel_go ?_ hb4 | refine bel_go ?_ hb1 | refine Below.setCell ?_ (by first | omega | (simp; done) | (simp; omega)) _ | refine Below.alloc ?_ (by first | omega | (simp; done) | (simp; omega)) _ | refine Below.trans ?_ (Below.mono hb5 (by first | omega | (simp; done) | (simp; omega))) | refine Below.trans ?_ (Below.mono hb4 (by first | omega | (simp; done) | (simp; omega))) | refine Below.trans ?_ (Below.mono hb1 (by first | omega | (simp; done) | (simp; omega)))))
      clear hb1 hb4 hb5
      go_wp2_with fail
      refine (CI.out _).mono ?_
      rintro r w6 ⟨rfl, hb6⟩
      go_wp2_with fail
      refine (with_32 2139095040 sg _ (fun _ => ⟨by decide, by decide⟩)).mono ?_
      rintro r w7 ⟨rfl, hb7⟩
      go_wp2
      go_ret3
      exact ⟨ret_uib2 HB.out.symm HF.out.symm HO.out.symm, (by repeat (first | exact Below.refl _ _ | refine Below.drew ?_ | refine bel_dn ?_ _ | refine bel_al ?_ _ | refine bel_go ?_ hb7 | refine bel_go ?_ hb6 | refine bel_go ?_ bel5 | refine Below.setCell ?_ (by first | omega | (simp; done) | (simp; omega)) _ | refine Below.alloc ?_ (by first | omega | (simp; done) | (simp; omega)) _ | refine Below.trans ?_ (Below.mono hb7 (by first | omega | (simp; done) | (simp; omega))) | refine Below.trans ?_ (Below.mono hb6 (by first | omega | (simp; done) | (simp; omega))) | refine Below.trans ?_ (Below.mono bel5 (by first | omega | (simp; done) | (simp; omega)))))⟩
    · have HB : Hid (CvB fr 32 mode x = 2143289344) := hid (by unfold CvB; rw [hO, if_pos rfl, if_neg (by omega), if_neg (by omega), if_pos hc]; rfl)
      have HF : Hid (CvF fr 32 mode x = 0) := hid (by unfold CvF; rw [hO, if_pos rfl, if_neg (by omega), if_neg (by omega), if_pos hc])
      rw [hc] at CC
      clear k1 k2 k3 hO hsg hc
      go_enter Tryd.func22, Tryd.ntmps22
      go_wp2_with fail
      refine (CK.out _).mono ?_
      rintro r w1 ⟨rfl, hb1⟩
      go_wp2_with fail
      refine (CT.out _).mono ?_
      rintro r w2 ⟨rfl, rfl⟩
      go_wp2_with fail
      refine (CM.out _).mono ?_
      rintro r w3 ⟨rfl, rfl⟩
      go_wp2_with fail
      refine (CS.out _).mono ?_
      rintro r w4 ⟨rfl, hb4⟩
      go_wp2_with fail
      refine (CC.out _).mono ?_
      rintro r w5 ⟨rfl, hb5⟩
      have bel5 : Below w.heap.size w w5 := (by repeat (first | exact Below.refl _ _ | refine Below.drew ?_ | refine bel_dn ?_ _ | refine bel_al ?_ _ | refine bel_go ?_ hb5 | refine bel_go ?_ hb4 | refine bel_go ?_ hb1 | refine Below.setCell ?_ (by first | omega | (simp; done) | (simp; omega)) _ | refine Below.alloc ?_ (by first | omega | (simp; done) | (simp; omega)) _ | refine Below.trans ?_ (Below.mono hb5 (by first | omega | (simp; done) | (simp; omega))) | refine Below.trans ?_ (Below.mono hb4 (by first | omega | (simp; done) | (simp; omega))) | refine Below.trans ?_ (Below.mono hb1 (by first | omega | (simp; done) | (simp; omega)))))
      clear hb1 hb4 hb5
      go_wp2_with fail
      refine (snan_32 _).mono ?_
      rintro r w6 ⟨rfl, hb6⟩
      go_wp2
      go_ret3
      exact ⟨ret_uib2 HB.out.symm HF.out.symm HO.out.symm, (by repeat (first | exact Below.refl _ _ | refine Below.drew ?_ | refine bel_dn ?_ _ | refine bel_al ?_ _ | refine bel_go ?_ hb6 | refine bel_go ?_ bel5 | refine Below.setCell ?_ (by first | omega | (simp; done) | (simp; omega)) _ | refine Below.alloc ?_ (by first | omega | (simp; done) | (simp; omega)) _ | refine Below.trans ?_ (Below.mono hb6 (by first | omega | (simp; done) | (simp; omega))) | refine Below.trans ?_ (Below.mono bel5 (by first | omega | (simp; done) | (simp; omega)))))⟩
    · have HB : Hid (CvB fr 32 mode x = 2143289344) := hid (by unfold CvB; rw [hO, if_pos rfl, if_neg (by omega), if_neg (by omega), if_neg (by omega), if_pos hc]; rfl)
      have HF : Hid (CvF fr 32 mode x = 8) := hid (by unfold CvF; rw [hO, if_pos rfl, if_neg (by omega), if_neg (by omega), if_neg (by omega), if_pos hc])
      rw [hc] at CC
      clear k1 k2 k3 hO hsg hc
      go_enter Tryd.func22, Tryd.ntmps22
      go_wp2_with fail
      refine (CK.out _).mono ?_
      rintro r w1 ⟨rfl, hb1⟩
      go_wp2_with fail
      refine (CT.out _).mono ?_
      rintro r w2 ⟨rfl, rfl⟩
      go_wp2_with fail
      refine (CM.out _).mono ?_
      rintro r w3 ⟨rfl, rfl⟩
      go_wp2_with fail
      refine (CS.out _).mono ?_
      rintro r w4 ⟨rfl, hb4⟩
      go_wp2_with fail
      refine (CC.out _).mono ?_
      rintro r w5 ⟨rfl, hb5⟩
      have bel5 : Below w.heap.size w w5 := (by repeat (first | exact Below.refl _ _ | refine Below.drew ?_ | refine bel_dn ?_ _ | refine bel_al ?_ _ | refine bel_go ?_ hb5 | refine bel_go ?_ hb4 | refine bel_go ?_ hb1 | refine Below.setCell ?_ (by first | omega | (simp; done) | (simp; omega)) _ | refine Below.alloc ?_ (by first | omega | (simp; done) | (simp; omega)) _ | refine Below.trans ?_ (Below.mono hb5 (by first | omega | (simp; done) | (simp; omega))) | refine Below.trans ?_ (Below.mono hb4 (by first | omega | (simp; done) | (simp; omega))) | refine Below.trans ?_ (Below.mono hb1 (by first | omega | (simp; done) | (simp; omega)))))
      clear hb1 hb4 hb5
      go_wp2_with fail
      refine (snan_32 _).mono ?_
      rintro r w6 ⟨rfl, hb6⟩
      go_wp2
      go_ret3
      exact ⟨ret_uib2 HB.out.symm HF.out.symm HO.out.symm, (by repeat (first | exact Below.refl _ _ | refine Below.drew ?_ | refine bel_dn ?_ _ | refine bel_al ?_ _ | refine bel_go ?_ hb6 | refine bel_go ?_ bel5 | refine Below.setCell ?_ (by first | omega | (simp; done) | (simp; omega)) _ | refine Below.alloc ?_ (by first | omega | (simp; done) | (simp; omega)) _ | refine Below.trans ?_ (Below.mono hb6 (by first | omega | (simp; done) | (simp; omega))) | refine Below.trans ?_ (Below.mono bel5 (by first | omega | (simp; done) | (simp; omega)))))⟩
    · obtain ⟨hfin, hpos⟩ := pM_pos hc
      have hbd := pM_bd fr x
      have hbe := pE_bd fr x
      obtain ⟨m, hm⟩ : ∃ m : Nat, pM fr x = m := ⟨(pM fr x).toNat, by omega⟩
      have hm0 : m ≠ 0 := by omega
      have hbl : bitLen m ≤ 64 := (Nm.bl_le_iff m 64).2 (by omega)
      obtain ⟨E, hE⟩ : ∃ E : Int, E = pE fr x := ⟨_, rfl⟩
      have hps : pS fr x = sg := by unfold pS; rw [hfin, if_pos rfl, hsg]
      have HB : Hid (CvB fr 32 mode x = rdB 24 (-149) 2139095040 2147483648 mode sg m E) := hid (by unfold CvB; rw [hO, if_pos rfl, if_neg (by omega), if_neg (by omega), if_neg (by omega), if_neg (by omega), ← hsg, hm, Int.toNat_natCast, ← hE]; rfl)
      have HF : Hid (CvF fr 32 mode x = rdF 24 (-149) 2139095040 mode sg m E) := hid (by unfold CvF; rw [hO, if_pos rfl, if_neg (by omega), if_neg (by omega), if_neg (by omega), if_neg (by omega), ← hsg, hm, Int.toNat_natCast, ← hE]; rfl)
      have CP := hid (fun w' => sparts_any fr x w' hfin x0 x1)
      rw [hps, hm, ← hE] at CP
      have CG := hid (fun w' => uint_n m sg w' hm0 (by omega))
      have CR := hid (fun a c w' h => l3r_32 mode sg m E a c w' h HMD.out hm0 (by omega) (by omega) (by omega))
      rw [← HB.out, ← HF.out] at CR
      obtain ⟨z, hz⟩ : ∃ z : Int, z = ((m : Nat) : Int) := ⟨_, rfl⟩
      have hzw : IntKind.u64.wrap z = z := by rw [IntKind.wrap_u64]; omega
      rw [← hz] at CG CP
      obtain ⟨cc, hcc⟩ : ∃ cc, cc = cls fr x := ⟨_, rfl⟩
      rw [← hcc] at CC
      have hc' : cc = 1 ∨ cc = 2 := by rw [hcc]; exact hc
      clear k1 k2 k3 hO hsg hc hfin hpos hbd hm0 hbl hps hm hz hcc
      have g0 : (cc == 0) = false := by rw [beq_eq_false_iff_ne]; omega
      have g3 : (cc == 3) = false := by rw [beq_eq_false_iff_ne]; omega
      have g4 : (cc == 4) = false := by rw [beq_eq_false_iff_ne]; omega
      have g5 : (cc == 5) = false := by rw [beq_eq_false_iff_ne]; omega
      clear hc' hbe hE
      go_enter Tryd.func22, Tryd.ntmps22
      go_wp2_with fail
      refine (CK.out _).mono ?_
      rintro r w1 ⟨rfl, hb1⟩
      go_wp2_with fail
      refine (CT.out _).mono ?_
      rintro r w2 ⟨rfl, rfl⟩
      go_wp2_with fail
      refine (CM.out _).mono ?_
      rintro r w3 ⟨rfl, rfl⟩
      go_wp2_with fail
      refine (CS.out _).mono ?_
      rintro r w4 ⟨rfl, hb4⟩
      go_wp2_with fail
      refine (CC.out _).mono ?_
      rintro r w5 ⟨rfl, hb5⟩
      have bel5 : Below w.heap.size w w5 := (by repeat (first | exact Below.refl _ _ | refine Below.drew ?_ | refine bel_dn ?_ _ | refine bel_al ?_ _ | refine bel_go ?_ hb5 | refine bel_go ?_ hb4 | refine bel_go ?_ hb1 | refine Below.setCell ?_ (by first | omega | (simp; done) | (simp; omega)) _ | refine Below.alloc ?_ (by first | omega | (simp; done) | (simp; omega)) _ | refine Below.trans ?_ (Below.mono hb5 (by first | omega | (simp; done) | (simp; omega))) | refine Below.trans ?_ (Below.mono hb4 (by first | omega | (simp; done) | (simp; omega))) | refine Below.trans ?_ (Below.mono hb1 (by first | omega | (simp; done) | (simp; omega)))))
      clear hb1 hb4 hb5
      go_wp2_with fail
      refine (CP.out _).mono ?_
      rintro r w6 ⟨rfl, hb6⟩
      have bel6 := bel_al (bel_go bel5 hb6) (.cells #[.bool sg, .int .i64 z, .int .i64 E] 43)
      obtain ⟨r20, r21, r22, r2f, r2g, r2h⟩ := R3.new w6 (.bool sg) (.int .i64 z) (.int .i64 E) 43
      go_wp2_with fail
      go_region_held3 (fun w' => w'.cell? ⟨w6.heap.size, 0, none⟩ = some (.bool sg) ∧ w'.cell? ⟨w6.heap.size, 1, none⟩ = some (.int .i64 z) ∧ w'.cell? ⟨w6.heap.size, 2, none⟩ = some (.int .i64 E))
        (first
          | assumption
          | exact ⟨r20, r21, r22⟩
          | exact ⟨rr1.c0, rr1.c1, rr1.c2⟩
          | exact ⟨rr2.c0, rr2.c1, rr2.c2⟩)
        (first
          | (go_at_call 48; refine (CG.out _).mono ?_; rintro r q1 ⟨d1, f1, rfl, hp1, hq1⟩; have rr1 := R3.below (R3.dr ⟨r20, r21, r22, r2f, r2g, r2h⟩) hq1)
          | (go_at_call 35; refine (CR.out d1 f1 _ hp1.sl).mono ?_; rintro r q2 ⟨rfl, hq2⟩; have rr2 := R3.below rr1 hq2))
      go_wp2
      go_ret3
      exact ⟨ret_uib2 rfl rfl HO.out.symm, (by repeat (first | exact Below.refl _ _ | refine Below.drew ?_ | refine bel_dn ?_ _ | refine bel_al ?_ _ | refine bel_go ?_ hq2 | refine bel_go ?_ hq1 | refine bel_go ?_ hb6 | refine bel_go ?_ bel5 | refine Below.setCell ?_ (by first | omega | (simp; done) | (simp; omega)) _ | refine Below.alloc ?_ (by first | omega | (simp; done) | (simp; omega)) _ | refine Below.trans ?_ (Below.mono hq2 (by first | omega | (simp; done) | (simp; omega))) | refine Below.trans ?_ (Below.mono hq1 (by first | omega | (simp; done) | (simp; omega))) | refine Below.trans ?_ (Below.mono hb6 (by first | omega | (simp; done) | (simp; omega))) | refine Below.trans ?_ (Below.mono bel5 (by first | omega | (simp; done) | (simp; omega)))))⟩
  · rcases cls_cases k3 with hc | hc | hc | hc | hc
    · have HB : Hid (CvB fr 64 mode x = sgn 9223372036854775808 0 sg) := hid (by unfold CvB; rw [hO, if_pos rfl, if_pos hc, ← hsg]; rfl)
      have HF : Hid (CvF fr 64 mode x = 0) := hid (by unfold CvF; rw [hO, if_pos rfl, if_pos hc])
      rw [hc] at CC
      clear k1 k2 k3 hO hsg hc
      go_enter Tryd.func22, Tryd.ntmps22
      go_wp2_with fail
      refine (CK.out _).mono ?_
      rintro r w1 ⟨rfl, hb1⟩
      go_wp2_with fail
      refine (CT.out _).mono ?_
      rintro r w2 ⟨rfl, rfl⟩
      go_wp2_with fail
      refine (CM.out _).mono ?_
      rintro r w3 ⟨rfl, rfl⟩
      go_wp2_with fail
      refine (CS.out _).mono ?_
      rintro r w4 ⟨rfl, hb4⟩
      go_wp2_with fail
      refine (CC.out _).mono ?_
      rintro r w5 ⟨rfl, hb5⟩
      have bel5 : Below w.heap.size w w5 := (by repeat (first | exact Below.refl _ _ | refine Below.drew ?_ | refine bel_dn ?_ _ | refine bel_al ?_ _ | refine bel_go ?_ hb5 | refine bel_go ?_ hb4 | refine bel_go ?_ hb1 | refine Below.setCell ?_ (by first | omega | (simp; done) | (simp; omega)) _ | refine Below.alloc ?_ (by first | omega | (simp; done) | (simp; omega)) _ | refine Below.trans ?_ (Below.mono hb5 (by first | omega | (simp; done) | (simp; omega))) | refine Below.trans ?_ (Below.mono hb4 (by first | omega | (simp; done) | (simp; omega))) | refine Below.trans ?_ (Below.mono hb1 (by first | omega | (simp; done) | (simp; omega)))))
      clear hb1 hb4 hb5
      go_wp2_with fail
      refine (with_64 0 sg _ (fun _ => ⟨by decide, by decide⟩)).mono ?_
      rintro r w6 ⟨rfl, hb6⟩
      go_wp2
      go_ret3
      exact ⟨ret_uib2 HB.out.symm HF.out.symm HO.out.symm, (by repeat (first | exact Below.refl _ _ | refine Below.drew ?_ | refine bel_dn ?_ _ | refine bel_al ?_ _ | refine bel_go ?_ hb6 | refine bel_go ?_ bel5 | refine Below.setCell ?_ (by first | omega | (simp; done) | (simp; omega)) _ | refine Below.alloc ?_ (by first | omega | (simp; done) | (simp; omega)) _ | refine Below.trans ?_ (Below.mono hb6 (by first | omega | (simp; done) | (simp; omega))) | refine Below.trans ?_ (Below.mono bel5 (by first | omega | (simp; done) | (simp; omega)))))⟩
    · have HB : Hid (CvB fr 64 mode x = sgn 9223372036854775808 9218868437227405312 sg) := hid (by unfold CvB; rw [hO, if_pos rfl, if_neg (by omega), if_pos hc, ← hsg]; rfl)
      have HF : Hid (CvF fr 64 mode x = 0) := hid (by unfold CvF; rw [hO, if_pos rfl, if_neg (by omega), if_pos hc])
      rw [hc] at CC
      have hinf : infOf 64 = 9218868437227405312 := rfl
      have CI := hid (fun w' => spec_inf64 w')
      rw [hinf] at CI
      clear k1 k2 k3 hO hsg hc hinf
      go_enter Tryd.func22, Tryd.ntmps22
      go_wp2_with fail
      refine (CK.out _).mono ?_
      rintro r w1 ⟨rfl, hb1⟩
      go_wp2_with fail
      refine (CT.out _).mono ?_
      rintro r w2 ⟨rfl, rfl⟩
      go_wp2_with fail
      refine (CM.out _).mono ?_
      rintro r w3 ⟨rfl, rfl⟩
      go_wp2_with fail
      refine (CS.out _).mono ?_
      rintro r w4 ⟨rfl, hb4⟩
      go_wp2_with fail
      refine (CC.out _).mono ?_
      rintro r w5 ⟨rfl, hb5⟩
      have bel5 : Below w.heap.size w w5 := (by repeat (first | exact Below.refl _ _ | refine Below.drew ?_ | refine bel_dn ?_ _ | refine bel_al ?_ _ | refine bel_go ?_ hb5 | refine bel_go ?_ hb4 | refine bel_go ?_ hb1 | refine Below.setCell ?_ (by first | omega | (simp; done) | (simp; omega)) _ | refine Below.alloc ?_ (by first | omega | (simp; done) | (simp; omega)) _ | refine Below.trans ?_ (Below.mono hb5 (by first | omega | (simp; done) | (simp; omega))) | refine Below.trans ?_ (Below.mono hb4 (by first | omega | (simp; done) | (simp; omega))) | refine Below.trans ?_ (Below.mono hb1 (by first | omega | (simp; done) | (simp; omega)))))
      clear hb1 hb4 hb5
      go_wp2_with fail
      refine (CI.out _).mono ?_
      rintro r w6 ⟨rfl, hb6⟩
      go_wp2_with fail
      refine (with_64 9218868437227405312 sg _ (fun _ => ⟨by decide, by decide⟩)).mono ?_
      rintro r w7 ⟨rfl, hb7⟩
      go_wp2
      go_ret3
      exact ⟨ret_uib2 HB.out.symm HF.out.symm HO.out.symm, (by repeat (first | exact Below.refl _ _ | refine Below.drew ?_ | refine bel_dn ?_ _ | refine bel_al ?_ _ | refine bel_go ?_ hb7 | refine bel_go ?_ hb6 | refine bel_go ?_ bel5 | refine Below.setCell ?_ (by first | omega | (simp; done) | (simp; omega)) _ | refine Below.alloc ?_ (by first | omega | (simp; done) | (simp; omega)) _ | refine Below.trans ?_ (Below.mono hb7 (by first | omega | (simp; done) | (simp; omega))) | refine Below.trans ?_ (Below.mono hb6 (by first | omega | (simp; done) | (simp; omega))) | refine Below.trans ?_ (Below.mono bel5 (by first | omega | (simp; done) | (simp; omega)))))⟩
    · have HB : Hid (CvB fr 64 mode x = 9221120237041090560) := hid (by unfold CvB; rw [hO, if_pos rfl, if_neg (by omega), if_neg (by omega), if_pos hc]; rfl)
      have HF : Hid (CvF fr 64 mode x = 0) := hid (by unfold CvF; rw [hO, if_pos rfl, if_neg (by omega), if_neg (by omega), if_pos hc])
      rw [hc] at CC
      clear k1 k2 k3 hO hsg hc
      go_enter Tryd.func22, Tryd.ntmps22
      go_wp2_with fail
      refine (CK.out _).mono ?_
      rintro r w1 ⟨rfl, hb1⟩
      go_wp2_with fail
      refine (CT.out _).mono ?_
      rintro r w2 ⟨rfl, rfl⟩
      go_wp2_with fail
      refine (CM.out _).mono ?_
      rintro r w3 ⟨rfl, rfl⟩
      go_wp2_with fail
      refine (CS.out _).mono ?_
      rintro r w4 ⟨rfl, hb4⟩
      go_wp2_with fail
      refine (CC.out _).mono ?_
      rintro r w5 ⟨rfl, hb5⟩
      have bel5 : Below w.heap.size w w5 := (by repeat (first | exact Below.refl _ _ | refine Below.drew ?_ | refine bel_dn ?_ _ | refine bel_al ?_ _ | refine bel_go ?_ hb5 | refine bel_go ?_ hb4 | refine bel_go ?_ hb1 | refine Below.setCell ?_ (by first | omega | (simp; done) | (simp; omega)) _ | refine Below.alloc ?_ (by first | omega | (simp; done) | (simp; omega)) _ | refine Below.trans ?_ (Below.mono hb5 (by first | omega | (simp; done) | (simp; omega))) | refine Below.trans ?_ (Below.mono hb4 (by first | omega | (simp; done) | (simp; omega))) | refine Below.trans ?_ (Below.mono hb1 (by first | omega | (simp; done) | (simp; omega)))))
      clear hb1 hb4 hb5
      go_wp2_with fail
      refine (snan_64 _).mono ?_
      rintro r w6 ⟨rfl, hb6⟩
      go_wp2
      go_ret3
      exact ⟨ret_uib2 HB.out.symm HF.out.symm HO.out.symm, (by repeat (first | exact Below.refl _ _ | refine Below.drew ?_ | refine bel_dn ?_ _ | refine bel_al ?_ _ | refine bel_go ?_ hb6 | refine bel_go ?_ bel5 | refine Below.setCell ?_ (by first | omega | (simp; done) | (simp; omega)) _ | refine Below.alloc ?_ (by first | omega | (simp; done) | (simp; omega)) _ | refine Below.trans ?_ (Below.mono hb6 (by first | omega | (simp; done) | (simp; omega))) | refine Below.trans ?_ (Below.mono bel5 (by first | omega | (simp; done) | (simp; omega)))))⟩
    · have HB : Hid (CvB fr 64 mode x = 9221120237041090560) := hid (by unfold CvB; rw [hO, if_pos rfl, if_neg (by omega), if_neg (by omega), if_neg (by omega), if_pos hc]; rfl)
      have HF : Hid (CvF fr 64 mode x = 8) := hid (by unfold CvF; rw [hO, if_pos rfl, if_neg (by omega), if_neg (by omega), if_neg (by omega), if_pos hc])
      rw [hc] at CC
      clear k1 k2 k3 hO hsg hc
      go_enter Tryd.func22, Tryd.ntmps22
      go_wp2_with fail
      refine (CK.out _).mono ?_
      rintro r w1 ⟨rfl, hb1⟩
      go_wp2_with fail
      refine (CT.out _).mono ?_
      rintro r w2 ⟨rfl, rfl⟩
      go_wp2_with fail
      refine (CM.out _).mono ?_
      rintro r w3 ⟨rfl, rfl⟩
      go_wp2_with fail
      refine (CS.out _).mono ?_
      rintro r w4 ⟨rfl, hb4⟩
      go_wp2_with fail
      refine (CC.out _).mono ?_
      rintro r w5 ⟨rfl, hb5⟩
      have bel5 : Below w.heap.size w w5 := (by repeat (first | exact Below.refl _ _ | refine Below.drew ?_ | refine bel_dn ?_ _ | refine bel_al ?_ _ | refine bel_go ?_ hb5 | refine bel_go ?_ hb4 | refine bel_go ?_ hb1 | refine Below.setCell ?_ (by first | omega | (simp; done) | (simp; omega)) _ | refine Below.alloc ?_ (by first | omega | (simp; done) | (simp; omega)) _ | refine Below.trans ?_ (Below.mono hb5 (by first | omega | (simp; done) | (simp; omega))) | refine Below.trans ?_ (Below.mono hb4 (by first | omega | (simp; done) | (simp; omega))) | refine Below.trans ?_ (Below.mono hb1 (by first | omega | (simp; done) | (simp; omega)))))
      clear hb1 hb4 hb5
      go_wp2_with fail
      refine (snan_64 _).mono ?_
      rintro r w6 ⟨rfl, hb6⟩
      go_wp2
      go_ret3
      exact ⟨ret_uib2 HB.out.symm HF.out.symm HO.out.symm, (by repeat (first | exact Below.refl _ _ | refine Below.drew ?_ | refine bel_dn ?_ _ | refine bel_al ?_ _ | refine bel_go ?_ hb6 | refine bel_go ?_ bel5 | refine Below.setCell ?_ (by first | omega | (simp; done) | (simp; omega)) _ | refine Below.alloc ?_ (by first | omega | (simp; done) | (simp; omega)) _ | refine Below.trans ?_ (Below.mono hb6 (by first | omega | (simp; done) | (simp; omega))) | refine Below.trans ?_ (Below.mono bel5 (by first | omega | (simp; done) | (simp; omega)))))⟩
    · obtain ⟨hfin, hpos⟩ := pM_pos hc
      have hbd := pM_bd fr x
      have hbe := pE_bd fr x
      obtain ⟨m, hm⟩ : ∃ m : Nat, pM fr x = m := ⟨(pM fr x).toNat, by omega⟩
      have hm0 : m ≠ 0 := by omega
      have hbl : bitLen m ≤ 64 := (Nm.bl_le_iff m 64).2 (by omega)
      obtain ⟨E, hE⟩ : ∃ E : Int, E = pE fr x := ⟨_, rfl⟩
      have hps : pS fr x = sg := by unfold pS; rw [hfin, if_pos rfl, hsg]
      have HB : Hid (CvB fr 64 mode x = rdB 53 (-1074) 9218868437227405312 9223372036854775808 mode sg m E) := hid (by unfold CvB; rw [hO, if_pos rfl, if_neg (by omega), if_neg (by omega), if_neg (by omega), if_neg (by omega), ← hsg, hm, Int.toNat_natCast, ← hE]; rfl)
      have HF : Hid (CvF fr 64 mode x = rdF 53 (-1074) 9218868437227405312 mode sg m E) := hid (by unfold CvF; rw [hO, if_pos rfl, if_neg (by omega), if_neg (by omega), if_neg (by omega), if_neg (by omega), ← hsg, hm, Int.toNat_natCast, ← hE]; rfl)
      have CP := hid (fun w' => sparts_any fr x w' hfin x0 x1)
      rw [hps, hm, ← hE] at CP
      have CG := hid (fun w' => uint_n m sg w' hm0 (by omega))
      have CR := hid (fun a c w' h => l3r_64 mode sg m E a c w' h HMD.out hm0 (by omega) (by omega) (by omega))
      rw [← HB.out, ← HF.out] at CR
      obtain ⟨z, hz⟩ : ∃ z : Int, z = ((m : Nat) : Int) := ⟨_, rfl⟩
      have hzw : IntKind.u64.wrap z = z := by rw [IntKind.wrap_u64]; omega
      rw [← hz] at CG CP
      obtain ⟨cc, hcc⟩ : ∃ cc, cc = cls fr x := ⟨_, rfl⟩
      rw [← hcc] at CC
      have hc' : cc = 1 ∨ cc = 2 := by rw [hcc]; exact hc
      clear k1 k2 k3 hO hsg hc hfin hpos hbd hm0 hbl hps hm hz hcc
      have g0 : (cc == 0) = false := by rw [beq_eq_false_iff_ne]; omega
      have g3 : (cc == 3) = false := by rw [beq_eq_false_iff_ne]; omega
      have g4 : (cc == 4) = false := by rw [beq_eq_false_iff_ne]; omega
      have g5 : (cc == 5) = false := by rw [beq_eq_false_iff_ne]; omega
      clear hc' hbe hE
      go_enter Tryd.func22, Tryd.ntmps22
      go_wp2_with fail
      refine (CK.out _).mono ?_
      rintro r w1 ⟨rfl, hb1⟩
      go_wp2_with fail
      refine (CT.out _).mono ?_
      rintro r w2 ⟨rfl, rfl⟩
      go_wp2_with fail
      refine (CM.out _).mono ?_
      rintro r w3 ⟨rfl, rfl⟩
      go_wp2_with fail
      refine (CS.out _).mono ?_
      rintro r w4 ⟨rfl, hb4⟩
      go_wp2_with fail
      refine (CC.out _).mono ?_
      rintro r w5 ⟨rfl, hb5⟩
      have bel5 : Below w.heap.size w w5 := (by repeat (first | exact Below.refl _ _ | refine Below.drew ?_ | refine bel_dn ?_ _ | refine bel_al ?_ _ | refine bel_go ?_ hb5 | refine bel_go ?_ hb4 | refine bel_go ?_ hb1 | refine Below.setCell ?_ (by first | omega | (simp; done) | (simp; omega)) _ | refine Below.alloc ?_ (by first | omega | (simp; done) | (simp; omega)) _ | refine Below.trans ?_ (Below.mono hb5 (by first | omega | (simp; done) | (simp; omega))) | refine Below.trans ?_ (Below.mono hb4 (by first | omega | (simp; done) | (simp; omega))) | refine Below.trans ?_ (Below.mono hb1 (by first | omega | (simp; done) | (simp; omega)))))
      clear hb1 hb4 hb5
      go_wp2_with fail
      refine (CP.out _).mono ?_
      rintro r w6 ⟨rfl, hb6⟩
      have bel6 := bel_al (bel_go bel5 hb6) (.cells #[.bool sg, .int .i64 z, .int .i64 E] 43)
      obtain ⟨r20, r21, r22, r2f, r2g, r2h⟩ := R3.new w6 (.bool sg) (.int .i64 z) (.int .i64 E) 43
      go_wp2_with fail
      go_region_held3 (fun w' => w'.cell? ⟨w6.heap.size, 0, none⟩ = some (.bool sg) ∧ w'.cell? ⟨w6.heap.size, 1, none⟩ = some (.int .i64 z) ∧ w'.cell? ⟨w6.heap.size, 2, none⟩ = some (.int .i64 E))
        (first
          | assumption
          | exact ⟨r20, r21, r22⟩
          | exact ⟨rr1.c0, rr1.c1, rr1.c2⟩
          | exact ⟨rr2.c0, rr2.c1, rr2.c2⟩)
        (first
          | (go_at_call 48; refine (CG.out _).mono ?_; rintro r q1 ⟨d1, f1, rfl, hp1, hq1⟩; have rr1 := R3.below (R3.dr ⟨r20, r21, r22, r2f, r2g, r2h⟩) hq1)
          | (go_at_call 35; refine (CR.out d1 f1 _ hp1.sl).mono ?_; rintro r q2 ⟨rfl, hq2⟩; have rr2 := R3.below rr1 hq2))
      go_wp2
      go_ret3
      exact ⟨ret_uib2 rfl rfl HO.out.symm, (by repeat (first | exact Below.refl _ _ | refine Below.drew ?_ | refine bel_dn ?_ _ | refine bel_al ?_ _ | refine bel_go ?_ hq2 | refine bel_go ?_ hq1 | refine bel_go ?_ hb6 | refine bel_go ?_ bel5 | refine Below.setCell ?_ (by first | omega | (simp; done) | (simp; omega)) _ | refine Below.alloc ?_ (by first | omega | (simp; done) | (simp; omega)) _ | refine Below.trans ?_ (Below.mono hq2 (by first | omega | (simp; done) | (simp; omega))) | refine Below.trans ?_ (Below.mono hq1 (by first | omega | (simp; done) | (simp; omega))) | refine Below.trans ?_ (Below.mono hb6 (by first | omega | (simp; done) | (simp; omega))) | refine Below.trans ?_ (Below.mono bel5 (by first | omega | (simp; done) | (simp; omega)))))⟩
set_option maxHeartbeats 2000000 in
theorem law_Converted (fr tt mode x : Int) (w : World) (hT : T3 w) (x0 : 0 ≤ x) (x1 : x < 18446744073709551616) :
    Calls Tryd.prog 7 #[.int .i64 fr, .int .i64 tt, .int .i64 mode, .int .u64 x] w fun r w' => r = .returned (.bool true) ∧ Below w.heap.size w w' := by
  obtain ⟨b, hb⟩ : ∃ b, b = CvB fr tt mode x := ⟨_, rfl⟩
  obtain ⟨f, hf⟩ : ∃ f, f = CvF fr tt mode x := ⟨_, rfl⟩
  obtain ⟨o, ho⟩ : ∃ o, o = CvO fr tt mode x := ⟨_, rfl⟩
  have CS := hid (fun w' => conv_spec fr tt mode x w' x0 x1)
  have CI := hid (fun w' h => conv_impl fr tt mode x w' h x0 x1)
  rw [← hb, ← hf, ← ho] at CS CI
  clear hb hf ho
  have q1 : (b != b) = false := by simp
  have q2 : (f != f) = false := by simp
  have q3 : (o != o) = false := by simp
  go_enter Tryd.func7, Tryd.ntmps7
  go_wp2_with fail
  refine (CS.out _).mono ?_
  rintro r w1 ⟨rfl, hb1⟩
  go_wp2_with fail
  refine (CI.out _ (hT.below hb1)).mono ?_
  rintro r w2 ⟨rfl, hb2⟩
  go_wp2
  go_ret
  exact ⟨rfl, (by repeat (first | exact Below.refl _ _ | refine Below.drew ?_ | refine bel_dn ?_ _ | refine bel_al ?_ _ | refine bel_go ?_ hb2 | refine bel_go ?_ hb1 | refine Below.setCell ?_ (by first | omega | (simp; done) | (simp; omega)) _ | refine Below.alloc ?_ (by first | omega | (simp; done) | (simp; omega)) _ | refine Below.trans ?_ (Below.mono hb2 (by first | omega | (simp; done) | (simp; omega))) | refine Below.trans ?_ (Below.mono hb1 (by first | omega | (simp; done) | (simp; omega)))))⟩
end Go.Proofs.YtfhifjmkcjehfaaDoor
/-
  How many units a finite float is, by both; the law.
-/
namespace Go.Proofs.YtfhifjmkcjehfaaDoor
set_option linter.unusedVariables false
set_option linter.unusedSimpArgs false
open Go.RowKit Go.Deep
/-- Units of a finite float, as a number; 0 for others. -/
def unQ (fm : Int) : Int := if fm = 32 then -149 else -1074
def unI (fm x : Int) : Int := if finB fm x then (if pS fm x then -((Nm.sh (pM fm x).toNat (pE fm x - unQ fm) : Nat) : Int) else ((Nm.sh (pM fm x).toNat (pE fm x - unQ fm) : Nat) : Int)) else 0
theorem un_no {fm x : Int} (h : finB fm x = false) : unI fm x = 0 := by unfold unI; rw [h]; rfl
theorem pE_q {fm x : Int} (h : finB fm x = true) : 0 ≤ pE fm x - unQ fm ∧ pE fm x - unQ fm ≤ 2100 := by
  have ho : okF fm x = true := by
    cases ho : okF fm x
    · rw [fin_no ho] at h; cases h
    · rfl
  have hlt := fin_lt ho
  rw [h] at hlt
  have hlt' := of_decide_eq_true hlt.symm
  unfold pE unQ
  rw [h, if_pos rfl]
  rcases okF_cases ho with ⟨rfl, hx⟩ | rfl
  · rw [if_pos rfl, if_pos rfl]
    rw [abs32 hx] at hlt'
    unfold infOf at hlt'; rw [if_pos rfl] at hlt'
    unfold parE; split <;> omega
  · rw [if_neg (by decide), if_neg (by decide)]
    rw [abs64] at hlt'
    unfold infOf at hlt'; rw [if_neg (by decide)] at hlt'
    unfold parE; split <;> omega
theorem un_bits {fm x : Int} (h : finB fm x = true) : bitLen (Nm.sh (pM fm x).toNat (pE fm x - unQ fm)) ≤ 2200 := by
  have h1 := Nm.bl_sh (pM fm x).toNat (pE fm x - unQ fm)
  have h2 := pM_bd fm x
  have h3 := (Nm.bl_le_iff (pM fm x).toNat 53).2 (by omega)
  have h4 := pE_q h
  omega
/-- A wide with a sign, shifted up. -/
theorem shV_sg (ng : Bool) (m : Nat) (n : Int) : Nm.shV ng (m : Int) n = if ng then -((Nm.sh m n : Nat) : Int) else ((Nm.sh m n : Nat) : Int) := by
  unfold Nm.shV; rw [Nm.shM_sh]
theorem okB_wl {x : Int} (h : (Nm.wl x).length ≤ 200) : okB (Nm.wn x) (Nm.wl x) = true := by
  by_cases h0 : x = 0
  · subst h0
    have e1 : Nm.wl 0 = [] := Nm.lim_zero
    have e2 : Nm.wn 0 = false := by decide
    rw [e1, e2]; rfl
  · have hb : bitLen x.natAbs ≤ 6400 := len_bl (k := 200) h
    exact ok_lim (by omega) hb _
set_option maxHeartbeats 2000000 in
theorem l1uint_z (m : Int) (ng : Bool) (w : World) (h0 : 0 ≤ m) (h1 : m < 18446744073709551616) :
    Calls Tryd.prog 48 #[.int .u64 m, .bool ng] w fun e w' => ∃ a' c', e = .returned (.agg #[.bool (Nm.wn (if ng then -m else m)), .slice a' (Nm.wl (if ng then -m else m)).length c']) ∧ Own w' w.heap.size a' c' (Nm.wl (if ng then -m else m)) ∧ Below w.heap.size w w' :=
  l1uint_v m ng w h0 h1 _ rfl
set_option maxHeartbeats 2000000 in
theorem signedM_z (ng : Bool) (m : Int) (E : Int) (w : World) (h0 : 0 ≤ m) (h1 : m < 9223372036854775808) :
    Calls Tryd.prog 29 #[.agg #[.bool ng, .int .i64 m, .int .i64 E]] w fun e w' => ∃ a' c', e = .returned (.agg #[.bool (Nm.wn (if ng then -m else m)), .slice a' (Nm.wl (if ng then -m else m)).length c']) ∧ Own w' w.heap.size a' c' (Nm.wl (if ng then -m else m)) ∧ Below w.heap.size w w' := by
  have CN := hid (fun w' => wof_impl (-m) w' (by omega) (by omega))
  have CP := hid (fun w' => wof_impl m w' (by omega) (by omega))
  cases ng with
  | true =>
    have e : (if true = true then -m else m) = -m := rfl
    rw [e]
    obtain ⟨G, hG⟩ : ∃ G, G = Nm.wn (-m) := ⟨_, rfl⟩
    obtain ⟨L, hL⟩ : ∃ L, L = Nm.wl (-m) := ⟨_, rfl⟩
    rw [← hG, ← hL] at CN ⊢
    clear hG hL e CP
    go_enter Tryd.func29, Tryd.ntmps29
    go_wp2_with fail
    refine (CN.out _).mono ?_
    rintro e w1 ⟨a', c', rfl, ho, hb⟩
    obtain ⟨r0, r1, f0, f1⟩ := (R2.new2 w (.cells #[.bool true, .int .i64 m, .int .i64 E] 43) (.bool false) (.slice none 0 0) 25).below hb
    have ho : Own w1 (w.heap.size + 1 + 1) a' c' L := by simpa using ho
    go_wp2
    refine bodyPost_ret (v := .agg #[.bool G, .slice a' L.length c']) (by simp [results, Tryd.results29, go_sem, r0, r1]) rfl ⟨a', c', rfl, ?_, (by repeat (first | exact Below.refl _ _ | refine Below.drew ?_ | refine bel_dn ?_ _ | refine bel_al ?_ _ | refine bel_go ?_ hb | refine Below.setCell ?_ (by first | omega | (simp; done) | (simp; omega)) _ | refine Below.alloc ?_ (by first | omega | (simp; done) | (simp; omega)) _ | refine Below.trans ?_ (Below.mono hb (by first | omega | (simp; done) | (simp; omega)))))⟩
    exact Own.base ((ho.setBelow (by simp) _).setBelow (by simp) _) (by omega)
  | false =>
    have e : (if false = true then -m else m) = m := rfl
    rw [e]
    obtain ⟨G, hG⟩ : ∃ G, G = Nm.wn m := ⟨_, rfl⟩
    obtain ⟨L, hL⟩ : ∃ L, L = Nm.wl m := ⟨_, rfl⟩
    rw [← hG, ← hL] at CP ⊢
    clear hG hL e CN
    go_enter Tryd.func29, Tryd.ntmps29
    go_wp2_with fail
    refine (CP.out _).mono ?_
    rintro e w1 ⟨a', c', rfl, ho, hb⟩
    obtain ⟨r0, r1, f0, f1⟩ := (R2.new2 w (.cells #[.bool false, .int .i64 m, .int .i64 E] 43) (.bool false) (.slice none 0 0) 25).below hb
    have ho : Own w1 (w.heap.size + 1 + 1) a' c' L := by simpa using ho
    go_wp2
    refine bodyPost_ret (v := .agg #[.bool G, .slice a' L.length c']) (by simp [results, Tryd.results29, go_sem, r0, r1]) rfl ⟨a', c', rfl, ?_, (by repeat (first | exact Below.refl _ _ | refine Below.drew ?_ | refine bel_dn ?_ _ | refine bel_al ?_ _ | refine bel_go ?_ hb | refine Below.setCell ?_ (by first | omega | (simp; done) | (simp; omega)) _ | refine Below.alloc ?_ (by first | omega | (simp; done) | (simp; omega)) _ | refine Below.trans ?_ (Below.mono hb (by first | omega | (simp; done) | (simp; omega)))))⟩
    exact Own.base ((ho.setBelow (by simp) _).setBelow (by simp) _) (by omega)
theorem sQ_any (fm : Int) (w : World) (h : fmtB fm = true) :
    Calls Tryd.prog 65 #[.int .i64 fm] w fun e w' => e = .returned (.int .i64 (unQ fm)) ∧ w' = w := by
  rcases fmt_cases h with rfl | rfl
  · exact sQ_32 w
  · exact sQ_64 w
/-- A small number with a sign, shifted: what it is. -/
theorem sg_shift (sg : Bool) (m : Nat) (n : Int) : Nm.shV (Nm.wn (if sg then -(m : Int) else m)) (Nm.val (Nm.wl (if sg then -(m : Int) else m))) n = if sg then -((Nm.sh m n : Nat) : Int) else ((Nm.sh m n : Nat) : Int) := by
  have hv : Nm.val (Nm.wl (if sg then -(m : Int) else m)) = (m : Int) := by rw [Nm.val_wl]; cases sg <;> simp
  rw [hv, shV_sg]
  by_cases h0 : m = 0
  · subst h0
    have : Nm.sh 0 n = 0 := by unfold Nm.sh; split <;> simp
    rw [this]; cases sg <;> simp
  · have : Nm.wn (if sg then -(m : Int) else m) = sg := by unfold Nm.wn; cases sg <;> simp <;> omega
    rw [this]
theorem fin_fmt {fm x : Int} (h : finB fm x = true) : fmtB fm = true := by
  have ho : okF fm x = true := by
    cases ho : okF fm x
    · rw [fin_no ho] at h; cases h
    · rfl
  rcases okF_cases ho with ⟨rfl, hx⟩ | rfl <;> rfl
/-- What both shift: letters. -/
theorem un_parts {fm x : Int} (h : finB fm x = true) : ∃ (G : Bool) (L : List Int) (z E Q : Int), z = pM fm x ∧ E = pE fm x ∧ Q = unQ fm ∧ 0 ≤ z ∧ z < 9007199254740992 ∧ -1074 ≤ E ∧ E ≤ 2000 ∧ -1074 ≤ Q ∧ Q ≤ -149 ∧ 0 ≤ E - Q ∧ E - Q ≤ 2100 ∧
    G = Nm.wn (if pS fm x then -z else z) ∧ L = Nm.wl (if pS fm x then -z else z) ∧ Nm.Dg L ∧ L.length ≤ 2 ∧ Nm.shV G (Nm.val L) (E - Q) = unI fm x ∧ okB G L = true ∧ (Nm.wl (unI fm x)).length ≤ 200 := by
  have h1 := pM_bd fm x
  have h2 := pE_bd fm x
  have h3 := pE_q h
  have hq : -1074 ≤ unQ fm ∧ unQ fm ≤ -149 := by unfold unQ; split <;> omega
  obtain ⟨m, hm⟩ : ∃ m : Nat, pM fm x = m := ⟨(pM fm x).toNat, by omega⟩
  have hu : unI fm x = if pS fm x then -((Nm.sh m (pE fm x - unQ fm) : Nat) : Int) else ((Nm.sh m (pE fm x - unQ fm) : Nat) : Int) := by
    unfold unI; rw [h, if_pos rfl, hm, Int.toNat_natCast]
  have hl : (Nm.wl (if pS fm x then -pM fm x else pM fm x)).length ≤ 2 := by
    unfold Nm.wl
    exact lim_two (by cases pS fm x <;> simp <;> omega)
  refine ⟨_, _, _, _, _, rfl, rfl, rfl, h1.1, h1.2, h2.1, h2.2, hq.1, hq.2, h3.1, h3.2, rfl, rfl, Nm.wl_dg _, hl, ?_, okB_wl (by omega), ?_⟩
  · rw [hu, hm]; exact sg_shift _ m _
  · have hb := un_bits h
    rw [hm, Int.toNat_natCast] at hb
    rw [hu]
    unfold Nm.wl
    refine lim_len (k := 200) ?_
    have : (if pS fm x then -((Nm.sh m (pE fm x - unQ fm) : Nat) : Int) else ((Nm.sh m (pE fm x - unQ fm) : Nat) : Int)).natAbs = Nm.sh m (pE fm x - unQ fm) := by cases pS fm x <;> simp
    rw [this]; omega
attribute [local go_sem ↓] Go.wp_at_zero Go.wp_at_succ
set_option maxHeartbeats 8000000 in
set_option maxRecDepth 100000 in
theorem l2units_any (fm x : Int) (w : World) (hf : finB fm x = true) (x0 : 0 ≤ x) (x1 : x < 18446744073709551616) :
    Calls Tryd.prog 25 #[.int .i64 fm, .int .u64 x] w fun e w' => ∃ a' c', e = .returned (.agg #[.bool (Nm.wn (unI fm x)), .slice a' (Nm.wl (unI fm x)).length c']) ∧ Own w' w.heap.size a' c' (Nm.wl (unI fm x)) ∧ Below w.heap.size w w' := by
  have hfm := fin_fmt hf
  have CP := hid (fun w' => sparts_any fm x w' hf x0 x1)
  have CQ := hid (fun w' => sQ_any fm w' hfm)
  obtain ⟨G, L, z, E, Q, hz, hE, hQ, z0, z1, e0, e1, q0, q1, d0, d1, hG, hL, hd, hl2, hsh, hok, hl200⟩ := un_parts hf
  have CG := hid (fun w' => l1uint_z z (pS fm x) w' z0 (by omega))
  rw [← hG, ← hL] at CG
  rw [← hz, ← hE] at CP
  rw [← hQ] at CQ
  have hwr : IntKind.i64.wrap (E - Q) = E - Q := by rw [IntKind.wrap_i64]; omega
  have CR := hid (fun a c w' h => l1shift_any G a c L (IntKind.i64.wrap (E - Q)) w' h hd (by omega) (by rw [hwr]; omega) (by rw [hwr]; omega) (unI fm x) (by rw [hwr]; exact hsh.symm))
  obtain ⟨sg, hsg⟩ : ∃ sg, sg = pS fm x := ⟨_, rfl⟩
  rw [← hsg] at CG CP
  obtain ⟨G2, hG2⟩ : ∃ G2, G2 = Nm.wn (unI fm x) := ⟨_, rfl⟩
  obtain ⟨L2, hL2⟩ : ∃ L2, L2 = Nm.wl (unI fm x) := ⟨_, rfl⟩
  rw [← hG2, ← hL2] at CR ⊢
  have hzw : IntKind.u64.wrap z = z := by rw [IntKind.wrap_u64]; omega
  clear hz hE hQ hG hL hd hl2 hsh hok hl200 hsg hG2 hL2 hfm hwr
  go_enter Tryd.func25, Tryd.ntmps25
  go_wp2_with fail
  refine (CP.out _).mono ?_
  rintro r w1 ⟨rfl, hb1⟩
  have c1 := ((R2.new w (.bool false) (.slice none 0 0) 25).below hb1).alloc (.cells #[.bool sg, .int .i64 z, .int .i64 E] 43)
  have p1 := R3.new w1 (.bool sg) (.int .i64 z) (.int .i64 E) 43
  have lw1 : w.heap.size < w1.heap.size := by have := hb1.size; simp at this; omega
  obtain ⟨W, hW⟩ : ∃ W, W = w1.alloc (.cells #[.bool sg, .int .i64 z, .int .i64 E] 43) := ⟨_, rfl⟩
  have bel1 : Below (w.heap.size + 1) (w.alloc (.cells #[.bool false, .slice none 0 0] 25)) W := by rw [hW]; exact (by simpa using hb1.alloc hb1.size _)
  have belw : Below w.heap.size w W := by rw [hW]; exact (by repeat (first | exact Below.refl _ _ | refine Below.drew ?_ | refine bel_dn ?_ _ | refine bel_al ?_ _ | refine bel_go ?_ hb1 | refine Below.setCell ?_ (by first | omega | (simp; done) | (simp; omega)) _ | refine Below.alloc ?_ (by first | omega | (simp; done) | (simp; omega)) _ | refine Below.trans ?_ (Below.mono hb1 (by first | omega | (simp; done) | (simp; omega)))))
  have lW : w1.heap.size < W.heap.size := by rw [hW]; simp
  go_wp2_with fail
  rw [← hW] at c1 p1 ⊢
  clear hW hb1
  obtain ⟨p10, p11, p12, p1f, p1g, p1h⟩ := p1
  have pd0 : W.drew.cell? ⟨w1.heap.size, 0, none⟩ = some (.bool sg) := p10
  have pd1 : W.drew.cell? ⟨w1.heap.size, 1, none⟩ = some (.int .i64 z) := p11
  have pd2 : W.drew.cell? ⟨w1.heap.size, 2, none⟩ = some (.int .i64 E) := p12
  go_region_held3 (fun w' => w'.cell? ⟨w1.heap.size, 0, none⟩ = some (.bool sg) ∧ w'.cell? ⟨w1.heap.size, 1, none⟩ = some (.int .i64 z) ∧ w'.cell? ⟨w1.heap.size, 2, none⟩ = some (.int .i64 E))
    (first
      | with_reducible assumption
      | with_reducible exact ⟨p10, p11, p12⟩
      | with_reducible exact ⟨pd0, pd1, pd2⟩
      | with_reducible exact ⟨rr1.c0, rr1.c1, rr1.c2⟩
      | with_reducible exact ⟨rr2.c0, rr2.c1, rr2.c2⟩
      | with_reducible exact ⟨(ss2 _ _).c0, (ss2 _ _).c1, (ss2 _ _).c2⟩)
    (first
      | (go_at_call 48; refine (CG.out _).mono ?_; rintro r q1' ⟨da, fa, rfl, hp1, hq1⟩; have rr1 := R3.below (R3.dr ⟨p10, p11, p12, p1f, p1g, p1h⟩) hq1; have cc1 := c1.drew.below hq1; have hB1 : Below W.heap.size W q1' := bel_go (Below.drew (Below.refl _ _)) hq1)
      | (go_at_call 65; refine (CQ.out _).mono ?_; rintro r q3 ⟨rfl, rfl⟩)
      | (go_at_call 64; refine (CR.out da fa _ hp1.sl).mono ?_; rintro r q2' ⟨db, fb, rfl, hp2, hq2⟩; have rr2 := R3.below rr1 hq2; have ss2 := fun u v => (R3.other rr2 (p := ⟨w.heap.size, 0, none⟩) (by simp; omega) u).other (p := ⟨w.heap.size, 1, none⟩) (by simp; omega) v; have cc2 := cc1.below hq2; have hB2 : Below W.heap.size W q2' := bel_go hB1 hq2; obtain ⟨cc20, cc21, cc2f, cc2g⟩ := cc2))
  all_goals go_wp2
  all_goals
    have l1 := hB1.size
    refine bodyPost_ret (v := .agg #[.bool G2, .slice db L2.length fb]) (by simp [results, Tryd.results25, go_sem, cc20, cc21]) rfl ⟨db, fb, rfl, ?_, ?_⟩
    · exact Own.base ((hp2.setBelow (by simp; omega) _).setBelow (by simp; omega) _) (by omega)
    · exact Below.setCell (Below.setCell (belw.trans (hB2.mono belw.size)) (by simp) _) (by simp) _
/-- What both answer: a wide, and whether it is finite. -/
def Ans (w w' : World) (r : Ending) (fm x : Int) : Prop := ∃ a' c', r = .returned (.tuple #[.agg #[.bool (Nm.wn (unI fm x)), .slice a' (Nm.wl (unI fm x)).length c'], .bool (finB fm x)]) ∧ Own w' w.heap.size a' c' (Nm.wl (unI fm x)) ∧ Below w.heap.size w w'
theorem ans_no {w w' : World} {fm x : Int} (h : finB fm x = false) (hb : Below w.heap.size w w') : Ans w w' (.returned (.tuple #[.agg #[.bool false, .slice none 0 0], .bool false])) fm x := by
  have e1 : Nm.wl (unI fm x) = [] := by rw [un_no h]; exact Nm.lim_zero
  have e2 : Nm.wn (unI fm x) = false := by rw [un_no h]; decide
  refine ⟨none, 0, ?_, ?_, hb⟩
  · rw [e1, e2, h]; rfl
  · rw [e1]; exact Own.nil _ _
set_option maxHeartbeats 4000000 in
theorem units_spec (fm x : Int) (w : World) (x0 : 0 ≤ x) (x1 : x < 18446744073709551616) :
    Calls Tryd.prog 8 #[.int .i64 fm, .int .u64 x] w fun r w' => Ans w w' r fm x := by
  have CF := hid (fun w' => spec_fin fm x w' x0 x1)
  cases hf : finB fm x
  · rw [hf] at CF
    have HF := hid hf
    clear hf
    go_enter Tryd.func8, Tryd.ntmps8
    go_wp2_with fail
    refine (CF.out _).mono ?_
    rintro r w1 ⟨rfl, hb1⟩
    obtain ⟨c0, c1, f0, f1⟩ := (R2.new w (.bool false) (.slice none 0 0) 25).below hb1
    go_wp2
    exact bodyPost_ret (v := .tuple #[.agg #[.bool false, .slice none 0 0], .bool false]) (by simp [results, Tryd.results8, go_sem, c0, c1]) rfl (ans_no HF.out (by repeat (first | exact Below.refl _ _ | refine Below.drew ?_ | refine bel_dn ?_ _ | refine bel_al ?_ _ | refine bel_go ?_ hb1 | refine Below.setCell ?_ (by first | omega | (simp; done) | (simp; omega)) _ | refine Below.alloc ?_ (by first | omega | (simp; done) | (simp; omega)) _ | refine Below.trans ?_ (Below.mono hb1 (by first | omega | (simp; done) | (simp; omega))))))
  · rw [hf] at CF
    have CU := hid (fun w' => l2units_any fm x w' hf x0 x1)
    unfold Ans
    rw [hf]
    obtain ⟨G2, hG2⟩ : ∃ G2, G2 = Nm.wn (unI fm x) := ⟨_, rfl⟩
    obtain ⟨L2, hL2⟩ : ∃ L2, L2 = Nm.wl (unI fm x) := ⟨_, rfl⟩
    rw [← hG2, ← hL2] at CU ⊢
    clear hf hG2 hL2
    go_enter Tryd.func8, Tryd.ntmps8
    go_wp2_with fail
    refine (CF.out _).mono ?_
    rintro r w1 ⟨rfl, hb1⟩
    have c1 := (R2.new w (.bool false) (.slice none 0 0) 25).below hb1
    go_wp2_with fail
    refine (CU.out _).mono ?_
    rintro r w2 ⟨a2, k2, rfl, ho2, hb2⟩
    obtain ⟨c20, c21, f20, f21⟩ := c1.below hb2
    have lw1 : w.heap.size < w1.heap.size := World.block_lt_of_cell? w1 _ c1.c0
    go_wp2
    refine bodyPost_ret (v := .tuple #[.agg #[.bool G2, .slice a2 L2.length k2], .bool true]) (by simp [results, Tryd.results8, go_sem, c20, c21]) rfl ⟨a2, k2, rfl, ?_, (by repeat (first | exact Below.refl _ _ | refine Below.drew ?_ | refine bel_dn ?_ _ | refine bel_al ?_ _ | refine bel_go ?_ hb2 | refine bel_go ?_ hb1 | refine Below.setCell ?_ (by first | omega | (simp; done) | (simp; omega)) _ | refine Below.alloc ?_ (by first | omega | (simp; done) | (simp; omega)) _ | refine Below.trans ?_ (Below.mono hb2 (by first | omega | (simp; done) | (simp; omega))) | refine Below.trans ?_ (Below.mono hb1 (by first | omega | (simp; done) | (simp; omega)))))⟩
    exact Own.base ((ho2.setBelow (by simp; omega) _).setBelow (by simp; omega) _) (by omega)
set_option maxHeartbeats 8000000 in
set_option maxRecDepth 100000 in
theorem units_impl (fm x : Int) (w : World) (hT : Tab w) (x0 : 0 ≤ x) (x1 : x < 18446744073709551616) :
    Calls Tryd.prog 9 #[.int .i64 fm, .int .u64 x] w fun r w' => Ans w w' r fm x := by
  have CF := hid (fun w' h => impl_parts fm x w' h x0 x1)
  cases hf : finB fm x
  · rw [hf] at CF
    have HF := hid hf
    clear hf
    go_enter Tryd.func9, Tryd.ntmps9
    go_wp2_with fail
    refine (CF.out _ (hT.al _)).mono ?_
    rintro r w1 ⟨rfl, hb1⟩
    obtain ⟨c0, c1, f0, f1⟩ := (R2.new w (.bool false) (.slice none 0 0) 25).below hb1
    have lw1 : w.heap.size < w1.heap.size := World.block_lt_of_cell? w1 _ c0
    go_wp2
    exact bodyPost_ret (v := .tuple #[.agg #[.bool false, .slice none 0 0], .bool false]) (by simp [results, Tryd.results9, go_sem, c0, c1, lw1]) rfl (ans_no HF.out (by repeat (first | exact Below.refl _ _ | refine Below.drew ?_ | refine bel_dn ?_ _ | refine bel_al ?_ _ | refine bel_go ?_ hb1 | refine Below.setCell ?_ (by first | omega | (simp; done) | (simp; omega)) _ | refine Below.alloc ?_ (by first | omega | (simp; done) | (simp; omega)) _ | refine Below.trans ?_ (Below.mono hb1 (by first | omega | (simp; done) | (simp; omega))))))
  · have hfm := fin_fmt hf
    obtain ⟨G, L, z, E, Q, hz, hE, hQ, z0, z1, e0, e1, q0, q1, d0, d1, hG, hL, hd, hl2, hsh, hok, hl200⟩ := un_parts hf
    unfold Ans
    rw [hf] at CF ⊢
    have CG := hid (fun w' => signedM_z (pS fm x) z E w' z0 (by omega))
    rw [← hG, ← hL] at CG
    rw [← hz, ← hE] at CF
    have hwr : IntKind.i64.wrap (E - Q) = E - Q := by rw [IntKind.wrap_i64]; omega
    have CR := hid (fun a c w' h => wsh_impl G a c L (IntKind.i64.wrap (E - Q)) w' h hd (by omega))
    have hin : inZ (IntKind.i64.wrap (E - Q)) (-10000) 10000 = true := by rw [hwr]; simp [inZ]; omega
    have hfit : Nm.fits (unI fm x) = true := by unfold Nm.fits; exact decide_eq_true hl200
    have hval : Nm.shV G (Nm.val L) (IntKind.i64.wrap (E - Q)) = unI fm x := by rw [hwr]; exact hsh
    rw [hok, hin, hval, Bool.and_self, (op_yes _).1, (op_yes _).2.1, (op_yes _).2.2, (out_fits hfit).1, (out_fits hfit).2, hfit] at CR
    obtain ⟨sg, hsg⟩ : ∃ sg, sg = pS fm x := ⟨_, rfl⟩
    rw [← hsg] at CG CF
    obtain ⟨G2, hG2⟩ : ∃ G2, G2 = Nm.wn (unI fm x) := ⟨_, rfl⟩
    obtain ⟨L2, hL2⟩ : ∃ L2, L2 = Nm.wl (unI fm x) := ⟨_, rfl⟩
    rw [← hG2, ← hL2] at CR ⊢
    clear hf hz hE hG hL hd hl2 hsh hok hl200 hsg hG2 hL2 hwr hin hfit hval
    rcases fmt_cases hfm with rfl | rfl
    · have hQ' : Q = (-149) := hQ
      clear hfm hQ
      subst hQ'
      go_enter Tryd.func9, Tryd.ntmps9
      go_wp2_with fail
      refine (CF.out _ (hT.al _)).mono ?_
      rintro r w1 ⟨rfl, hb1⟩
      have c1 := ((R2.new w (.bool false) (.slice none 0 0) 25).below hb1).alloc (.cells #[.bool sg, .int .i64 z, .int .i64 E] 43)
      have p1 := R3.new w1 (.bool sg) (.int .i64 z) (.int .i64 E) 43
      have T1 := ((hT.al _).below hb1).al (.cells #[.bool sg, .int .i64 z, .int .i64 E] 43)
      have lw1 : w.heap.size < w1.heap.size := by have := hb1.size; simp at this; omega
      go_wp2_with fail
      refine (sizes32 _ T1).mono ?_
      rintro r w2 ⟨rfl, hb2⟩
      have c2 := (c1.below hb2).alloc (.cells #[.int .u64 23, .int .u64 255, .int .i64 (-149)] 52)
      have p2 := (p1.below hb2).al (.cells #[.int .u64 23, .int .u64 255, .int .i64 (-149)] 52)
      have s2 := R3.new w2 (.int .u64 23) (.int .u64 255) (.int .i64 (-149)) 52
      have lw2 : w1.heap.size < w2.heap.size := by have := hb2.size; simp at this; omega
      obtain ⟨W, hW⟩ : ∃ W, W = w2.alloc (.cells #[.int .u64 23, .int .u64 255, .int .i64 (-149)] 52) := ⟨_, rfl⟩
      have belw : Below w.heap.size w W := by rw [hW]; exact (by repeat (first | exact Below.refl _ _ | refine Below.drew ?_ | refine bel_dn ?_ _ | refine bel_al ?_ _ | refine bel_go ?_ hb2 | refine bel_go ?_ hb1 | refine Below.setCell ?_ (by first | omega | (simp; done) | (simp; omega)) _ | refine Below.alloc ?_ (by first | omega | (simp; done) | (simp; omega)) _ | refine Below.trans ?_ (Below.mono hb2 (by first | omega | (simp; done) | (simp; omega))) | refine Below.trans ?_ (Below.mono hb1 (by first | omega | (simp; done) | (simp; omega)))))
      have lW : w2.heap.size < W.heap.size := by rw [hW]; simp
      go_wp2_with fail
      rw [← hW] at c2 p2 s2 ⊢
      clear hW hb1 hb2 c1 p1 T1
      obtain ⟨p10, p11, p12, p1f, p1g, p1h⟩ := p2
      obtain ⟨s10, s11, s12, s1f, s1g, s1h⟩ := s2
      have pd0 : W.drew.cell? ⟨w1.heap.size, 0, none⟩ = some (.bool sg) := p10
      have pd1 : W.drew.cell? ⟨w1.heap.size, 1, none⟩ = some (.int .i64 z) := p11
      have pd2 : W.drew.cell? ⟨w1.heap.size, 2, none⟩ = some (.int .i64 E) := p12
      have sd2 : W.drew.cell? ⟨w2.heap.size, 2, none⟩ = some (.int .i64 (-149)) := s12
      go_region_held3 (fun w' => w'.cell? ⟨w1.heap.size, 0, none⟩ = some (.bool sg) ∧ w'.cell? ⟨w1.heap.size, 1, none⟩ = some (.int .i64 z) ∧ w'.cell? ⟨w1.heap.size, 2, none⟩ = some (.int .i64 E) ∧ w'.cell? ⟨w2.heap.size, 2, none⟩ = some (.int .i64 (-149)))
        (first
          | with_reducible assumption
          | with_reducible exact ⟨p10, p11, p12, s12⟩
          | with_reducible exact ⟨pd0, pd1, pd2, sd2⟩
          | with_reducible exact ⟨rr1.c0, rr1.c1, rr1.c2, sr1.c2⟩
          | with_reducible exact ⟨rr2.c0, rr2.c1, rr2.c2, sr2.c2⟩
          | with_reducible exact ⟨(ss2 _ _).c0, (ss2 _ _).c1, (ss2 _ _).c2, (st2 _ _).c2⟩)
        (first
          | (go_at_call 29; refine (CG.out _).mono ?_; rintro r q1' ⟨da, fa, rfl, hp1, hq1⟩; have rr1 := R3.below (R3.dr ⟨p10, p11, p12, p1f, p1g, p1h⟩) hq1; have sr1 := R3.below (R3.dr ⟨s10, s11, s12, s1f, s1g, s1h⟩) hq1; have cc1 := c2.drew.below hq1; have hB1 : Below W.heap.size W q1' := bel_go (Below.drew (Below.refl _ _)) hq1)
          | (go_at_call 28; refine (CR.out da fa _ hp1.sl).mono ?_; rintro r q2' ⟨db, fb, rfl, hp2, hq2⟩; have rr2 := R3.below rr1 hq2; have sr2 := R3.below sr1 hq2; have ss2 := fun u v => (R3.other rr2 (p := ⟨w.heap.size, 0, none⟩) (by simp; omega) u).other (p := ⟨w.heap.size, 1, none⟩) (by simp; omega) v; have st2 := fun u v => (R3.other sr2 (p := ⟨w.heap.size, 0, none⟩) (by simp; omega) u).other (p := ⟨w.heap.size, 1, none⟩) (by simp; omega) v; have cc2 := cc1.below hq2; have hB2 : Below W.heap.size W q2' := bel_go hB1 hq2; obtain ⟨cc20, cc21, cc2f, cc2g⟩ := cc2))
      all_goals go_wp2
      all_goals
        have l1 := hB1.size
        refine bodyPost_ret (v := .tuple #[.agg #[.bool G2, .slice db L2.length fb], .bool true]) (by simp [results, Tryd.results9, go_sem, cc20, cc21]) rfl ⟨db, fb, rfl, ?_, ?_⟩
        · exact Own.base ((hp2.setBelow (by simp; omega) _).setBelow (by simp; omega) _) (by omega)
        · exact Below.setCell (Below.setCell (belw.trans (hB2.mono belw.size)) (by simp) _) (by simp) _
    · have hQ' : Q = (-1074) := hQ
      clear hfm hQ
      subst hQ'
      go_enter Tryd.func9, Tryd.ntmps9
      go_wp2_with fail
      refine (CF.out _ (hT.al _)).mono ?_
      rintro r w1 ⟨rfl, hb1⟩
      have c1 := ((R2.new w (.bool false) (.slice none 0 0) 25).below hb1).alloc (.cells #[.bool sg, .int .i64 z, .int .i64 E] 43)
      have p1 := R3.new w1 (.bool sg) (.int .i64 z) (.int .i64 E) 43
      have T1 := ((hT.al _).below hb1).al (.cells #[.bool sg, .int .i64 z, .int .i64 E] 43)
      have lw1 : w.heap.size < w1.heap.size := by have := hb1.size; simp at this; omega
      go_wp2_with fail
      refine (sizes64 _ T1).mono ?_
      rintro r w2 ⟨rfl, hb2⟩
      have c2 := (c1.below hb2).alloc (.cells #[.int .u64 52, .int .u64 2047, .int .i64 (-1074)] 52)
      have p2 := (p1.below hb2).al (.cells #[.int .u64 52, .int .u64 2047, .int .i64 (-1074)] 52)
      have s2 := R3.new w2 (.int .u64 52) (.int .u64 2047) (.int .i64 (-1074)) 52
      have lw2 : w1.heap.size < w2.heap.size := by have := hb2.size; simp at this; omega
      obtain ⟨W, hW⟩ : ∃ W, W = w2.alloc (.cells #[.int .u64 52, .int .u64 2047, .int .i64 (-1074)] 52) := ⟨_, rfl⟩
      have belw : Below w.heap.size w W := by rw [hW]; exact (by repeat (first | exact Below.refl _ _ | refine Below.drew ?_ | refine bel_dn ?_ _ | refine bel_al ?_ _ | refine bel_go ?_ hb2 | refine bel_go ?_ hb1 | refine Below.setCell ?_ (by first | omega | (simp; done) | (simp; omega)) _ | refine Below.alloc ?_ (by first | omega | (simp; done) | (simp; omega)) _ | refine Below.trans ?_ (Below.mono hb2 (by first | omega | (simp; done) | (simp; omega))) | refine Below.trans ?_ (Below.mono hb1 (by first | omega | (simp; done) | (simp; omega)))))
      have lW : w2.heap.size < W.heap.size := by rw [hW]; simp
      go_wp2_with fail
      rw [← hW] at c2 p2 s2 ⊢
      clear hW hb1 hb2 c1 p1 T1
      obtain ⟨p10, p11, p12, p1f, p1g, p1h⟩ := p2
      obtain ⟨s10, s11, s12, s1f, s1g, s1h⟩ := s2
      have pd0 : W.drew.cell? ⟨w1.heap.size, 0, none⟩ = some (.bool sg) := p10
      have pd1 : W.drew.cell? ⟨w1.heap.size, 1, none⟩ = some (.int .i64 z) := p11
      have pd2 : W.drew.cell? ⟨w1.heap.size, 2, none⟩ = some (.int .i64 E) := p12
      have sd2 : W.drew.cell? ⟨w2.heap.size, 2, none⟩ = some (.int .i64 (-1074)) := s12
      go_region_held3 (fun w' => w'.cell? ⟨w1.heap.size, 0, none⟩ = some (.bool sg) ∧ w'.cell? ⟨w1.heap.size, 1, none⟩ = some (.int .i64 z) ∧ w'.cell? ⟨w1.heap.size, 2, none⟩ = some (.int .i64 E) ∧ w'.cell? ⟨w2.heap.size, 2, none⟩ = some (.int .i64 (-1074)))
        (first
          | with_reducible assumption
          | with_reducible exact ⟨p10, p11, p12, s12⟩
          | with_reducible exact ⟨pd0, pd1, pd2, sd2⟩
          | with_reducible exact ⟨rr1.c0, rr1.c1, rr1.c2, sr1.c2⟩
          | with_reducible exact ⟨rr2.c0, rr2.c1, rr2.c2, sr2.c2⟩
          | with_reducible exact ⟨(ss2 _ _).c0, (ss2 _ _).c1, (ss2 _ _).c2, (st2 _ _).c2⟩)
        (first
          | (go_at_call 29; refine (CG.out _).mono ?_; rintro r q1' ⟨da, fa, rfl, hp1, hq1⟩; have rr1 := R3.below (R3.dr ⟨p10, p11, p12, p1f, p1g, p1h⟩) hq1; have sr1 := R3.below (R3.dr ⟨s10, s11, s12, s1f, s1g, s1h⟩) hq1; have cc1 := c2.drew.below hq1; have hB1 : Below W.heap.size W q1' := bel_go (Below.drew (Below.refl _ _)) hq1)
          | (go_at_call 28; refine (CR.out da fa _ hp1.sl).mono ?_; rintro r q2' ⟨db, fb, rfl, hp2, hq2⟩; have rr2 := R3.below rr1 hq2; have sr2 := R3.below sr1 hq2; have ss2 := fun u v => (R3.other rr2 (p := ⟨w.heap.size, 0, none⟩) (by simp; omega) u).other (p := ⟨w.heap.size, 1, none⟩) (by simp; omega) v; have st2 := fun u v => (R3.other sr2 (p := ⟨w.heap.size, 0, none⟩) (by simp; omega) u).other (p := ⟨w.heap.size, 1, none⟩) (by simp; omega) v; have cc2 := cc1.below hq2; have hB2 : Below W.heap.size W q2' := bel_go hB1 hq2; obtain ⟨cc20, cc21, cc2f, cc2g⟩ := cc2))
      all_goals go_wp2
      all_goals
        have l1 := hB1.size
        refine bodyPost_ret (v := .tuple #[.agg #[.bool G2, .slice db L2.length fb], .bool true]) (by simp [results, Tryd.results9, go_sem, cc20, cc21]) rfl ⟨db, fb, rfl, ?_, ?_⟩
        · exact Own.base ((hp2.setBelow (by simp; omega) _).setBelow (by simp; omega) _) (by omega)
        · exact Below.setCell (Below.setCell (belw.trans (hB2.mono belw.size)) (by simp) _) (by simp) _
end Go.Proofs.YtfhifjmkcjehfaaDoor
/-
  The law on units.
-/
namespace Go.Proofs.YtfhifjmkcjehfaaDoor
set_option linter.unusedVariables false
set_option linter.unusedSimpArgs false
open Go.RowKit Go.Deep
theorem un_len (fm x : Int) : (Nm.wl (unI fm x)).length ≤ 200 := by
  cases hf : finB fm x
  · rw [un_no hf]; have : Nm.wl 0 = [] := Nm.lim_zero
    rw [this]; simp
  · obtain ⟨G, L, z, E, Q, hz, hE, hQ, z0, z1, e0, e1, q0, q1, d0, d1, hG, hL, hd, hl2, hsh, hok, hl200⟩ := un_parts hf
    exact hl200
set_option maxHeartbeats 4000000 in
set_option maxRecDepth 100000 in
theorem law_UnitsOf (fm x : Int) (w : World) (hT : Tab w) (x0 : 0 ≤ x) (x1 : x < 18446744073709551616) :
    Calls Tryd.prog 3 #[.int .i64 fm, .int .u64 x] w fun e w' => e = .returned (.bool true) ∧ Below w.heap.size w w' := by
  have hl200 := un_len fm x
  have hdg := Nm.wl_dg (unI fm x)
  have hse := eqW_refl (Nm.wn (unI fm x)) (Nm.wl (unI fm x))
  have hsp := fun w => units_spec fm x w x0 x1
  have him := fun w h => units_impl fm x w h x0 x1
  unfold Ans at hsp him
  obtain ⟨L, hL⟩ : ∃ L, L = Nm.wl (unI fm x) := ⟨_, rfl⟩
  obtain ⟨G, hG⟩ : ∃ G, G = Nm.wn (unI fm x) := ⟨_, rfl⟩
  obtain ⟨O, hO⟩ : ∃ O, O = finB fm x := ⟨_, rfl⟩
  rw [← hL] at hl200 hdg hse
  rw [← hG] at hse
  simp only [← hL, ← hG, ← hO] at him hsp
  clear hL hG hO
  have q3 : (O != O) = false := by simp
  have HSP := hid hsp
  have HIM := hid him
  have HDG := hid hdg
  have hr : heldR 1 (iot 1 L.length) = 1 + L.length := heldR_iot _
  have HR := hid hr
  clear hsp him hdg hr
  go_enter Tryd.func3, Tryd.ntmps3
  go_wp2_with fail
  refine (HSP.out _).mono ?_
  rintro e w1 ⟨a1, c1, rfl, ho1, hb1⟩
  go_wp2_with fail
  refine (HIM.out _ ((hT.below hb1).al _)).mono ?_
  rintro e w2 ⟨a2, c2, rfl, ho2, hb2⟩
  have x2 := (Box.new w1 (.bool G) (.slice a1 L.length c1) 25).below hb2
  have ho12 := (ho1.alloc _).below hb2
  have y2 := Box.new w2 (.bool G) (.slice a2 L.length c2) 25
  obtain ⟨x20, x21⟩ := x2.alloc (.cells #[.bool G, .slice a2 L.length c2] 25)
  obtain ⟨y20, y21⟩ := y2
  go_wp2_with fail
  refine (eqW_any G G a2 a1 c2 c1 L L _ (ho2.alloc _).sl (ho12.alloc _).sl (by omega)).mono ?_
  rintro e w3 ⟨rfl, hb3⟩
  obtain ⟨x30, x31⟩ := Box.below ⟨x20, x21⟩ hb3
  obtain ⟨y30, y31⟩ := Box.below ⟨y20, y21⟩ hb3
  have ho13 := (ho12.alloc _).below hb3
  have ho23 := (ho2.alloc _).below hb3
  have T3' := (((hT.below hb1).al (.cells #[.bool G, .slice a1 L.length c1] 25)).below hb2).al (.cells #[.bool G, .slice a2 L.length c2] 25)
  have T3 := T3'.below hb3
  go_wp2_with fail
  refine (markW_any G a2 c2 L 1 _ _ ho23 (by omega) (by decide) (by decide)).mono ?_
  rintro e w4 ⟨rfl, hm4, hg4⟩
  have hat := ho23.at L.length c2
  have l1 : w1.heap.size < w2.heap.size := World.block_lt_of_cell? w2 _ x2.1
  have la : ∀ g, (Value.slice a2 L.length c2).ownBlock = some g → w1.heap.size < g ∧ g < w2.heap.size := fun g hg => by
    have h1 := (ho2.at L.length c2 g hg)
    simp at h1; omega
  have lw : w.heap.size ≤ w1.heap.size := hb1.size
  obtain ⟨x40, x41⟩ := Box.grown ⟨x30, x31⟩ hg4 (fun g hg => by have := la g hg; omega)
  obtain ⟨y40, y41⟩ := Box.grown ⟨y30, y31⟩ hg4 (fun g hg => by have := la g hg; omega)
  have ho14 : Own w4 w.heap.size a1 c1 L := ho13.kept hg4 (fun g hg hr => by
    have h2 := la g hr
    rcases ho1.block with ⟨e, _⟩ | ⟨g', e, _, h3⟩
    · rw [e] at hg; cases hg
    · rw [e] at hg; cases hg; omega)
  have bel4 : Below w.heap.size w w4 := bel_mark (W := w3) (by repeat (first | exact Below.refl _ _ | refine Below.drew ?_ | refine bel_dn ?_ _ | refine bel_al ?_ _ | refine bel_go ?_ hb3 | refine bel_go ?_ hb2 | refine bel_go ?_ hb1 | refine Below.setCell ?_ (by first | omega | (simp; done) | (simp; omega)) _ | refine Below.alloc ?_ (by first | omega | (simp; done) | (simp; omega)) _ | refine Below.trans ?_ (Below.mono hb3 (by first | omega | (simp; done) | (simp; omega))) | refine Below.trans ?_ (Below.mono hb2 (by first | omega | (simp; done) | (simp; omega))) | refine Below.trans ?_ (Below.mono hb1 (by first | omega | (simp; done) | (simp; omega))))) hg4 (fun g hg => by have := la g hg; omega)
  have T4 := hT.below bel4
  have eI := iot_length 1 L.length
  have HEI := hid eI
  have hmI : Own w4 (w1.heap.size + 1) a2 c2 (iot 1 L.length) := by simpa using hm4
  clear eI hm4 hat T3 T3'
  have hdI := iot_dg L.length (by omega)
  go_wp2_with fail
  have hsI : Sl .u32 w4 (.slice a2 L.length c2) (iot 1 L.length) := by have := hmI.sl; rwa [HEI.out] at this
  have c5 := heldW_any G a2 c2 (iot 1 L.length) 1 w4 hmI.sl hdI (by rw [HEI.out]; omega) (by decide) (by decide)
  rw [HEI.out, HR.out] at c5
  refine c5.mono ?_
  clear c5
  rintro e w5 ⟨rfl, hb5⟩
  obtain ⟨x50, x51⟩ := Box.below ⟨x40, x41⟩ hb5
  obtain ⟨y50, y51⟩ := Box.below ⟨y40, y41⟩ hb5
  have ho15 := ho14.below hb5
  have hm5 := hmI.below hb5
  have T5 := T4.below hb5
  have hne : ((1 : Int) + L.length != 1 + L.length) = false := by simp
  go_wp2_with fail
  refine (HIM.out _ T5).mono ?_
  rintro e w6 ⟨a6, c6, rfl, ho6, hb6⟩
  obtain ⟨x60, x61⟩ := (Box.below ⟨x50, x51⟩ hb6).alloc (.cells #[.bool G, .slice a6 L.length c6] 25)
  obtain ⟨y60, y61⟩ := (Box.below ⟨y50, y51⟩ hb6).alloc (.cells #[.bool G, .slice a6 L.length c6] 25)
  obtain ⟨z60, z61⟩ := Box.new w6 (.bool G) (.slice a6 L.length c6) 25
  have ho16 := (ho15.below hb6).alloc (.cells #[.bool G, .slice a6 L.length c6] 25)
  have hm6 := (hm5.below hb6).alloc (.cells #[.bool G, .slice a6 L.length c6] 25)
  go_wp2_with fail
  refine (eqW_any G G a6 a1 c6 c1 L L _ (ho6.alloc _).sl ho16.sl (by omega)).mono ?_
  rintro e w7 ⟨rfl, hb7⟩
  obtain ⟨y70, y71⟩ := Box.below ⟨y60, y61⟩ hb7
  have hm7 := hm6.below hb7
  go_wp2_with fail
  have c8 := heldW_any G a2 c2 (iot 1 L.length) 1 w7 hm7.sl hdI (by rw [HEI.out]; omega) (by decide) (by decide)
  rw [HEI.out, HR.out] at c8
  refine c8.mono ?_
  clear c8
  rintro e w8 ⟨rfl, hb8⟩
  go_wp2
  go_ret
  exact ⟨rfl, (by repeat (first | exact Below.refl _ _ | refine Below.drew ?_ | refine bel_dn ?_ _ | refine bel_al ?_ _ | refine bel_go ?_ hb8 | refine bel_go ?_ hb7 | refine bel_go ?_ hb6 | refine bel_go ?_ hb5 | refine bel_go ?_ bel4 | refine Below.setCell ?_ (by first | omega | (simp; done) | (simp; omega)) _ | refine Below.alloc ?_ (by first | omega | (simp; done) | (simp; omega)) _ | refine Below.trans ?_ (Below.mono hb8 (by first | omega | (simp; done) | (simp; omega))) | refine Below.trans ?_ (Below.mono hb7 (by first | omega | (simp; done) | (simp; omega))) | refine Below.trans ?_ (Below.mono hb6 (by first | omega | (simp; done) | (simp; omega))) | refine Below.trans ?_ (Below.mono hb5 (by first | omega | (simp; done) | (simp; omega))) | refine Below.trans ?_ (Below.mono bel4 (by first | omega | (simp; done) | (simp; omega)))))⟩
end Go.Proofs.YtfhifjmkcjehfaaDoor
