/-
  The next floats: the law.
-/
import Derived.Test.YtojcaoccjapdoaaDoorFL
import Derived.Test.YtojcaoccjapdoaaDoorFJ
namespace Go.Proofs.YtojcaoccjapdoaaDoor
set_option linter.unusedVariables false
set_option linter.unusedSimpArgs false
open Go.RowKit Go.Deep
namespace Fd
set_option maxHeartbeats 16000000 in
set_option maxRecDepth 100000 in
theorem nlaw (ca : Option Addr) (cc : Nat) (cs : List Int) (w : World) (hT : Tab w) (hs : Sl .u8 w (.slice ca cs.length cc) cs) (hby : ∀ i, 0 ≤ cs.getD i 0 ∧ cs.getD i 0 ≤ 255) (hl : cs.length ≤ 1048576) :
    Calls Tryd.prog 5 #[.slice ca cs.length cc] w fun e w' => e = .returned (.bool true) ∧ Below w.heap.size w w' := by
  go_enter Tryd.func5, Tryd.ntmps5
  go_wp2_with fail
  refine (big_any ca cs.length cc _ (by omega) false (by simp; omega)).mono ?_
  rintro e w0 ⟨rfl, rfl⟩
  go_wp2_with fail
  refine (drawNextUp_any ca cc cs _ hs hby hl).mono ?_
  rintro e w1 ⟨fm, x, rfl, x0, x1, bel1⟩
  clear hs hby hl
  have IU := hid (fun w' h => impl_up fm x w' h x0 x1)
  have ID := hid (fun w' h => impl_down fm x w' h x0 x1)
  have SU := hid (fun w' => spec_up fm x w' x0 x1)
  have SD := hid (fun w' => spec_down fm x w' x0 x1)
  have SC := hid (fun w' => spec_cls fm x w' x0 x1)
  obtain ⟨U, hU⟩ : ∃ t, t = upF fm x := ⟨_, rfl⟩
  obtain ⟨V, hV⟩ : ∃ t, t = downF fm x := ⟨_, rfl⟩
  obtain ⟨c, hcl⟩ : ∃ t, t = cls fm x := ⟨_, rfl⟩
  rw [← hU] at IU SU
  rw [← hV] at ID SD
  rw [← hcl] at SC
  have r1 : (U != U) = false := by simp
  have r2 : (V != V) = false := by simp
  have r3 : (U == U) = true := by simp
  have r4 : (V == V) = true := by simp
  by_cases hc : cls fm x = 1 ∨ cls fm x = 2
  · have hok : okF fm x = true := by
      cases h : okF fm x
      · rw [cls_no h] at hc; omega
      · rfl
    rcases okF_cases hok with ⟨rfl, hx'⟩ | rfl
    · clear hx'
      have hx1 : x < 4294967296 := by rcases okF_cases hok with ⟨_, h⟩ | h; exact h; cases h
      obtain ⟨⟨u0, u1⟩, ⟨d0, d1⟩, q1, q2, ⟨-, n0, n1⟩, q3, q4, q5⟩ := nx32 x0 hx1 hc U V hU hV
      have O1 := hid (fun w' h => impl_ord 32 x w' h x0 x1)
      have O2 := hid (fun w' h => impl_ord 32 U w' h u0 (by omega))
      have O3 := hid (fun w' h => impl_ord 32 V w' h d0 (by omega))
      have C1 := hid (fun w' h => impl_cls 32 U w' h u0 (by omega))
      have C2 := hid (fun w' h => impl_cls 32 V w' h d0 (by omega))
      have M1 := hid (fun w' h => impl_cmp 32 V x w' h d0 (by omega) x0 x1)
      have M2 := hid (fun w' h => impl_cmp 32 x U w' h x0 x1 u0 (by omega))
      have U2 := hid (fun w' h => impl_up 32 V w' h d0 (by omega))
      have D2 := hid (fun w' h => impl_down 32 U w' h u0 (by omega))
      rw [q1, show okF 32 U = true from okF32 (by omega)] at O2
      rw [q2, show okF 32 V = true from okF32 (by omega)] at O3
      rw [show okF 32 x = true from okF32 hx1] at O1
      rw [q3] at M1
      rw [q4] at M2
      obtain ⟨n, hn⟩ : ∃ n, n = ordI 32 x := ⟨_, rfl⟩
      obtain ⟨cu, hcu⟩ : ∃ n, n = cls 32 U := ⟨_, rfl⟩
      obtain ⟨cv, hcv⟩ : ∃ n, n = cls 32 V := ⟨_, rfl⟩
      obtain ⟨uu, huu⟩ : ∃ n, n = upF 32 V := ⟨_, rfl⟩
      obtain ⟨vv, hvv⟩ : ∃ n, n = downF 32 U := ⟨_, rfl⟩
      rw [← hn] at O1 O2 O3 n0 n1
      rw [← hcu] at C1 q5
      rw [← hcv] at C2 q5
      rw [← huu] at U2 q5
      rw [← hvv] at D2 q5
      have e1 : (n + 1 == n + 1) = true := by simp
      have e2 : (n - 1 == n - 1) = true := by simp
      have g1 : wrap64 (n + 1) = n + 1 := by unfold wrap64; omega
      have g2 : wrap64 (n - 1) = n - 1 := by unfold wrap64; omega
      have hcc : (c == 1) = true ∨ (c == 2) = true := by rw [hcl]; rcases hc with h | h <;> rw [h] <;> simp
      have HQ := hid q5
      clear hn hcu hcv huu hvv q1 q2 q3 q4 q5 hU hV
      obtain ⟨p1, p2⟩ : ((c != 1) && (c != 2)) = false ∧ True := by rw [hcl]; rcases hc with h | h <;> rw [h] <;> simp
      have hcx : c = 1 ∨ c = 2 := by rw [hcl]; exact hc
      clear hcl hc hcc p1 p2
      rcases hcx with rfl | rfl
      · cases hzu : (cu == 0)
        · cases hzv : (cv == 0)
          · obtain ⟨y1, y2⟩ := HQ.out hzu hzv
            subst y1
            have e3 : (uu == uu) = true := by simp
            have e4 : (vv == uu) = true := by rw [y2]; simp
            clear HQ y2
            go_wp2_with fail
            refine (IU.out _ (hT.below bel1)).mono ?_
            rintro r w2 ⟨rfl, hb2⟩
            have bel2 := bel_go bel1 hb2
            go_wp2_with fail
            refine (ID.out _ (hT.below bel2)).mono ?_
            rintro r w3 ⟨rfl, hb3⟩
            have bel3 := bel_go bel2 hb3
            go_wp2_with fail
            refine (SC.out _).mono ?_
            rintro r w4 ⟨rfl, hb4⟩
            have bel4 := bel_go bel3 hb4
            go_wp2_with fail
            refine (SU.out _).mono ?_
            rintro r w5 ⟨rfl, hb5⟩
            have bel5 := bel_go bel4 hb5
            go_wp2_with fail
            refine (SD.out _).mono ?_
            rintro r w6 ⟨rfl, hb6⟩
            have bel6 := bel_go bel5 hb6
            go_wp2_with fail
            refine (O1.out _ (hT.below bel6)).mono ?_
            rintro r w7 ⟨rfl, hb7⟩
            have bel7 := bel_go bel6 hb7
            go_wp2_with fail
            refine (O2.out _ (hT.below bel7)).mono ?_
            rintro r w8 ⟨rfl, hb8⟩
            have bel8 := bel_go bel7 hb8
            go_wp2_with fail
            refine (O3.out _ (hT.below bel8)).mono ?_
            rintro r w9 ⟨rfl, hb9⟩
            have bel9 := bel_go bel8 hb9
            go_wp2_with fail
            refine (C1.out _ (hT.below bel9)).mono ?_
            rintro r w10 ⟨rfl, hb10⟩
            have bel10 := bel_go bel9 hb10
            go_wp2_with fail
            refine (C2.out _ (hT.below bel10)).mono ?_
            rintro r w11 ⟨rfl, hb11⟩
            have bel11 := bel_go bel10 hb11
            go_wp2_with fail
            refine (M1.out _ (hT.below bel11)).mono ?_
            rintro r w12 ⟨rfl, hb12⟩
            have bel12 := bel_go bel11 hb12
            go_wp2_with fail
            refine (M2.out _ (hT.below bel12)).mono ?_
            rintro r w13 ⟨rfl, hb13⟩
            have bel13 := bel_go bel12 hb13
            go_wp2_with fail
            refine (U2.out _ (hT.below bel13)).mono ?_
            rintro r w14 ⟨rfl, hb14⟩
            have bel14 := bel_go bel13 hb14
            go_wp2_with fail
            refine (D2.out _ (hT.below bel14)).mono ?_
            rintro r w15 ⟨rfl, hb15⟩
            have bel15 := bel_go bel14 hb15
            go_wp2
            go_ret
            exact ⟨rfl, bel15⟩
          · clear HQ
            go_wp2_with fail
            refine (IU.out _ (hT.below bel1)).mono ?_
            rintro r w2 ⟨rfl, hb2⟩
            have bel2 := bel_go bel1 hb2
            go_wp2_with fail
            refine (ID.out _ (hT.below bel2)).mono ?_
            rintro r w3 ⟨rfl, hb3⟩
            have bel3 := bel_go bel2 hb3
            go_wp2_with fail
            refine (SC.out _).mono ?_
            rintro r w4 ⟨rfl, hb4⟩
            have bel4 := bel_go bel3 hb4
            go_wp2_with fail
            refine (SU.out _).mono ?_
            rintro r w5 ⟨rfl, hb5⟩
            have bel5 := bel_go bel4 hb5
            go_wp2_with fail
            refine (SD.out _).mono ?_
            rintro r w6 ⟨rfl, hb6⟩
            have bel6 := bel_go bel5 hb6
            go_wp2_with fail
            refine (O1.out _ (hT.below bel6)).mono ?_
            rintro r w7 ⟨rfl, hb7⟩
            have bel7 := bel_go bel6 hb7
            go_wp2_with fail
            refine (O2.out _ (hT.below bel7)).mono ?_
            rintro r w8 ⟨rfl, hb8⟩
            have bel8 := bel_go bel7 hb8
            go_wp2_with fail
            refine (O3.out _ (hT.below bel8)).mono ?_
            rintro r w9 ⟨rfl, hb9⟩
            have bel9 := bel_go bel8 hb9
            go_wp2_with fail
            refine (C1.out _ (hT.below bel9)).mono ?_
            rintro r w10 ⟨rfl, hb10⟩
            have bel10 := bel_go bel9 hb10
            go_wp2_with fail
            refine (C2.out _ (hT.below bel10)).mono ?_
            rintro r w11 ⟨rfl, hb11⟩
            have bel11 := bel_go bel10 hb11
            go_wp2_with fail
            refine (M1.out _ (hT.below bel11)).mono ?_
            rintro r w12 ⟨rfl, hb12⟩
            have bel12 := bel_go bel11 hb12
            go_wp2_with fail
            refine (M2.out _ (hT.below bel12)).mono ?_
            rintro r w13 ⟨rfl, hb13⟩
            have bel13 := bel_go bel12 hb13
            go_wp2
            go_ret
            exact ⟨rfl, bel13⟩
        · clear HQ
          go_wp2_with fail
          refine (IU.out _ (hT.below bel1)).mono ?_
          rintro r w2 ⟨rfl, hb2⟩
          have bel2 := bel_go bel1 hb2
          go_wp2_with fail
          refine (ID.out _ (hT.below bel2)).mono ?_
          rintro r w3 ⟨rfl, hb3⟩
          have bel3 := bel_go bel2 hb3
          go_wp2_with fail
          refine (SC.out _).mono ?_
          rintro r w4 ⟨rfl, hb4⟩
          have bel4 := bel_go bel3 hb4
          go_wp2_with fail
          refine (SU.out _).mono ?_
          rintro r w5 ⟨rfl, hb5⟩
          have bel5 := bel_go bel4 hb5
          go_wp2_with fail
          refine (SD.out _).mono ?_
          rintro r w6 ⟨rfl, hb6⟩
          have bel6 := bel_go bel5 hb6
          go_wp2_with fail
          refine (O1.out _ (hT.below bel6)).mono ?_
          rintro r w7 ⟨rfl, hb7⟩
          have bel7 := bel_go bel6 hb7
          go_wp2_with fail
          refine (O2.out _ (hT.below bel7)).mono ?_
          rintro r w8 ⟨rfl, hb8⟩
          have bel8 := bel_go bel7 hb8
          go_wp2_with fail
          refine (O3.out _ (hT.below bel8)).mono ?_
          rintro r w9 ⟨rfl, hb9⟩
          have bel9 := bel_go bel8 hb9
          go_wp2_with fail
          refine (C1.out _ (hT.below bel9)).mono ?_
          rintro r w10 ⟨rfl, hb10⟩
          have bel10 := bel_go bel9 hb10
          go_wp2_with fail
          refine (M1.out _ (hT.below bel10)).mono ?_
          rintro r w11 ⟨rfl, hb11⟩
          have bel11 := bel_go bel10 hb11
          go_wp2_with fail
          refine (M2.out _ (hT.below bel11)).mono ?_
          rintro r w12 ⟨rfl, hb12⟩
          have bel12 := bel_go bel11 hb12
          go_wp2
          go_ret
          exact ⟨rfl, bel12⟩
      · cases hzu : (cu == 0)
        · cases hzv : (cv == 0)
          · obtain ⟨y1, y2⟩ := HQ.out hzu hzv
            subst y1
            have e3 : (uu == uu) = true := by simp
            have e4 : (vv == uu) = true := by rw [y2]; simp
            clear HQ y2
            go_wp2_with fail
            refine (IU.out _ (hT.below bel1)).mono ?_
            rintro r w2 ⟨rfl, hb2⟩
            have bel2 := bel_go bel1 hb2
            go_wp2_with fail
            refine (ID.out _ (hT.below bel2)).mono ?_
            rintro r w3 ⟨rfl, hb3⟩
            have bel3 := bel_go bel2 hb3
            go_wp2_with fail
            refine (SC.out _).mono ?_
            rintro r w4 ⟨rfl, hb4⟩
            have bel4 := bel_go bel3 hb4
            go_wp2_with fail
            refine (SU.out _).mono ?_
            rintro r w5 ⟨rfl, hb5⟩
            have bel5 := bel_go bel4 hb5
            go_wp2_with fail
            refine (SD.out _).mono ?_
            rintro r w6 ⟨rfl, hb6⟩
            have bel6 := bel_go bel5 hb6
            go_wp2_with fail
            refine (O1.out _ (hT.below bel6)).mono ?_
            rintro r w7 ⟨rfl, hb7⟩
            have bel7 := bel_go bel6 hb7
            go_wp2_with fail
            refine (O2.out _ (hT.below bel7)).mono ?_
            rintro r w8 ⟨rfl, hb8⟩
            have bel8 := bel_go bel7 hb8
            go_wp2_with fail
            refine (O3.out _ (hT.below bel8)).mono ?_
            rintro r w9 ⟨rfl, hb9⟩
            have bel9 := bel_go bel8 hb9
            go_wp2_with fail
            refine (C1.out _ (hT.below bel9)).mono ?_
            rintro r w10 ⟨rfl, hb10⟩
            have bel10 := bel_go bel9 hb10
            go_wp2_with fail
            refine (C2.out _ (hT.below bel10)).mono ?_
            rintro r w11 ⟨rfl, hb11⟩
            have bel11 := bel_go bel10 hb11
            go_wp2_with fail
            refine (M1.out _ (hT.below bel11)).mono ?_
            rintro r w12 ⟨rfl, hb12⟩
            have bel12 := bel_go bel11 hb12
            go_wp2_with fail
            refine (M2.out _ (hT.below bel12)).mono ?_
            rintro r w13 ⟨rfl, hb13⟩
            have bel13 := bel_go bel12 hb13
            go_wp2_with fail
            refine (U2.out _ (hT.below bel13)).mono ?_
            rintro r w14 ⟨rfl, hb14⟩
            have bel14 := bel_go bel13 hb14
            go_wp2_with fail
            refine (D2.out _ (hT.below bel14)).mono ?_
            rintro r w15 ⟨rfl, hb15⟩
            have bel15 := bel_go bel14 hb15
            go_wp2
            go_ret
            exact ⟨rfl, bel15⟩
          · clear HQ
            go_wp2_with fail
            refine (IU.out _ (hT.below bel1)).mono ?_
            rintro r w2 ⟨rfl, hb2⟩
            have bel2 := bel_go bel1 hb2
            go_wp2_with fail
            refine (ID.out _ (hT.below bel2)).mono ?_
            rintro r w3 ⟨rfl, hb3⟩
            have bel3 := bel_go bel2 hb3
            go_wp2_with fail
            refine (SC.out _).mono ?_
            rintro r w4 ⟨rfl, hb4⟩
            have bel4 := bel_go bel3 hb4
            go_wp2_with fail
            refine (SU.out _).mono ?_
            rintro r w5 ⟨rfl, hb5⟩
            have bel5 := bel_go bel4 hb5
            go_wp2_with fail
            refine (SD.out _).mono ?_
            rintro r w6 ⟨rfl, hb6⟩
            have bel6 := bel_go bel5 hb6
            go_wp2_with fail
            refine (O1.out _ (hT.below bel6)).mono ?_
            rintro r w7 ⟨rfl, hb7⟩
            have bel7 := bel_go bel6 hb7
            go_wp2_with fail
            refine (O2.out _ (hT.below bel7)).mono ?_
            rintro r w8 ⟨rfl, hb8⟩
            have bel8 := bel_go bel7 hb8
            go_wp2_with fail
            refine (O3.out _ (hT.below bel8)).mono ?_
            rintro r w9 ⟨rfl, hb9⟩
            have bel9 := bel_go bel8 hb9
            go_wp2_with fail
            refine (C1.out _ (hT.below bel9)).mono ?_
            rintro r w10 ⟨rfl, hb10⟩
            have bel10 := bel_go bel9 hb10
            go_wp2_with fail
            refine (C2.out _ (hT.below bel10)).mono ?_
            rintro r w11 ⟨rfl, hb11⟩
            have bel11 := bel_go bel10 hb11
            go_wp2_with fail
            refine (M1.out _ (hT.below bel11)).mono ?_
            rintro r w12 ⟨rfl, hb12⟩
            have bel12 := bel_go bel11 hb12
            go_wp2_with fail
            refine (M2.out _ (hT.below bel12)).mono ?_
            rintro r w13 ⟨rfl, hb13⟩
            have bel13 := bel_go bel12 hb13
            go_wp2
            go_ret
            exact ⟨rfl, bel13⟩
        · clear HQ
          go_wp2_with fail
          refine (IU.out _ (hT.below bel1)).mono ?_
          rintro r w2 ⟨rfl, hb2⟩
          have bel2 := bel_go bel1 hb2
          go_wp2_with fail
          refine (ID.out _ (hT.below bel2)).mono ?_
          rintro r w3 ⟨rfl, hb3⟩
          have bel3 := bel_go bel2 hb3
          go_wp2_with fail
          refine (SC.out _).mono ?_
          rintro r w4 ⟨rfl, hb4⟩
          have bel4 := bel_go bel3 hb4
          go_wp2_with fail
          refine (SU.out _).mono ?_
          rintro r w5 ⟨rfl, hb5⟩
          have bel5 := bel_go bel4 hb5
          go_wp2_with fail
          refine (SD.out _).mono ?_
          rintro r w6 ⟨rfl, hb6⟩
          have bel6 := bel_go bel5 hb6
          go_wp2_with fail
          refine (O1.out _ (hT.below bel6)).mono ?_
          rintro r w7 ⟨rfl, hb7⟩
          have bel7 := bel_go bel6 hb7
          go_wp2_with fail
          refine (O2.out _ (hT.below bel7)).mono ?_
          rintro r w8 ⟨rfl, hb8⟩
          have bel8 := bel_go bel7 hb8
          go_wp2_with fail
          refine (O3.out _ (hT.below bel8)).mono ?_
          rintro r w9 ⟨rfl, hb9⟩
          have bel9 := bel_go bel8 hb9
          go_wp2_with fail
          refine (C1.out _ (hT.below bel9)).mono ?_
          rintro r w10 ⟨rfl, hb10⟩
          have bel10 := bel_go bel9 hb10
          go_wp2_with fail
          refine (M1.out _ (hT.below bel10)).mono ?_
          rintro r w11 ⟨rfl, hb11⟩
          have bel11 := bel_go bel10 hb11
          go_wp2_with fail
          refine (M2.out _ (hT.below bel11)).mono ?_
          rintro r w12 ⟨rfl, hb12⟩
          have bel12 := bel_go bel11 hb12
          go_wp2
          go_ret
          exact ⟨rfl, bel12⟩
    · have hx1 : x < 18446744073709551616 := x1
      obtain ⟨⟨u0, u1⟩, ⟨d0, d1⟩, q1, q2, ⟨-, n0, n1⟩, q3, q4, q5⟩ := nx64 x0 hx1 hc U V hU hV
      have O1 := hid (fun w' h => impl_ord 64 x w' h x0 x1)
      have O2 := hid (fun w' h => impl_ord 64 U w' h u0 (by omega))
      have O3 := hid (fun w' h => impl_ord 64 V w' h d0 (by omega))
      have C1 := hid (fun w' h => impl_cls 64 U w' h u0 (by omega))
      have C2 := hid (fun w' h => impl_cls 64 V w' h d0 (by omega))
      have M1 := hid (fun w' h => impl_cmp 64 V x w' h d0 (by omega) x0 x1)
      have M2 := hid (fun w' h => impl_cmp 64 x U w' h x0 x1 u0 (by omega))
      have U2 := hid (fun w' h => impl_up 64 V w' h d0 (by omega))
      have D2 := hid (fun w' h => impl_down 64 U w' h u0 (by omega))
      rw [q1, show okF 64 U = true from okF64] at O2
      rw [q2, show okF 64 V = true from okF64] at O3
      rw [show okF 64 x = true from okF64] at O1
      rw [q3] at M1
      rw [q4] at M2
      obtain ⟨n, hn⟩ : ∃ n, n = ordI 64 x := ⟨_, rfl⟩
      obtain ⟨cu, hcu⟩ : ∃ n, n = cls 64 U := ⟨_, rfl⟩
      obtain ⟨cv, hcv⟩ : ∃ n, n = cls 64 V := ⟨_, rfl⟩
      obtain ⟨uu, huu⟩ : ∃ n, n = upF 64 V := ⟨_, rfl⟩
      obtain ⟨vv, hvv⟩ : ∃ n, n = downF 64 U := ⟨_, rfl⟩
      rw [← hn] at O1 O2 O3 n0 n1
      rw [← hcu] at C1 q5
      rw [← hcv] at C2 q5
      rw [← huu] at U2 q5
      rw [← hvv] at D2 q5
      have e1 : (n + 1 == n + 1) = true := by simp
      have e2 : (n - 1 == n - 1) = true := by simp
      have g1 : wrap64 (n + 1) = n + 1 := by unfold wrap64; omega
      have g2 : wrap64 (n - 1) = n - 1 := by unfold wrap64; omega
      have hcc : (c == 1) = true ∨ (c == 2) = true := by rw [hcl]; rcases hc with h | h <;> rw [h] <;> simp
      have HQ := hid q5
      clear hn hcu hcv huu hvv q1 q2 q3 q4 q5 hU hV
      obtain ⟨p1, p2⟩ : ((c != 1) && (c != 2)) = false ∧ True := by rw [hcl]; rcases hc with h | h <;> rw [h] <;> simp
      have hcx : c = 1 ∨ c = 2 := by rw [hcl]; exact hc
      clear hcl hc hcc p1 p2
      rcases hcx with rfl | rfl
      · cases hzu : (cu == 0)
        · cases hzv : (cv == 0)
          · obtain ⟨y1, y2⟩ := HQ.out hzu hzv
            subst y1
            have e3 : (uu == uu) = true := by simp
            have e4 : (vv == uu) = true := by rw [y2]; simp
            clear HQ y2
            go_wp2_with fail
            refine (IU.out _ (hT.below bel1)).mono ?_
            rintro r w2 ⟨rfl, hb2⟩
            have bel2 := bel_go bel1 hb2
            go_wp2_with fail
            refine (ID.out _ (hT.below bel2)).mono ?_
            rintro r w3 ⟨rfl, hb3⟩
            have bel3 := bel_go bel2 hb3
            go_wp2_with fail
            refine (SC.out _).mono ?_
            rintro r w4 ⟨rfl, hb4⟩
            have bel4 := bel_go bel3 hb4
            go_wp2_with fail
            refine (SU.out _).mono ?_
            rintro r w5 ⟨rfl, hb5⟩
            have bel5 := bel_go bel4 hb5
            go_wp2_with fail
            refine (SD.out _).mono ?_
            rintro r w6 ⟨rfl, hb6⟩
            have bel6 := bel_go bel5 hb6
            go_wp2_with fail
            refine (O1.out _ (hT.below bel6)).mono ?_
            rintro r w7 ⟨rfl, hb7⟩
            have bel7 := bel_go bel6 hb7
            go_wp2_with fail
            refine (O2.out _ (hT.below bel7)).mono ?_
            rintro r w8 ⟨rfl, hb8⟩
            have bel8 := bel_go bel7 hb8
            go_wp2_with fail
            refine (O3.out _ (hT.below bel8)).mono ?_
            rintro r w9 ⟨rfl, hb9⟩
            have bel9 := bel_go bel8 hb9
            go_wp2_with fail
            refine (C1.out _ (hT.below bel9)).mono ?_
            rintro r w10 ⟨rfl, hb10⟩
            have bel10 := bel_go bel9 hb10
            go_wp2_with fail
            refine (C2.out _ (hT.below bel10)).mono ?_
            rintro r w11 ⟨rfl, hb11⟩
            have bel11 := bel_go bel10 hb11
            go_wp2_with fail
            refine (M1.out _ (hT.below bel11)).mono ?_
            rintro r w12 ⟨rfl, hb12⟩
            have bel12 := bel_go bel11 hb12
            go_wp2_with fail
            refine (M2.out _ (hT.below bel12)).mono ?_
            rintro r w13 ⟨rfl, hb13⟩
            have bel13 := bel_go bel12 hb13
            go_wp2_with fail
            refine (U2.out _ (hT.below bel13)).mono ?_
            rintro r w14 ⟨rfl, hb14⟩
            have bel14 := bel_go bel13 hb14
            go_wp2_with fail
            refine (D2.out _ (hT.below bel14)).mono ?_
            rintro r w15 ⟨rfl, hb15⟩
            have bel15 := bel_go bel14 hb15
            go_wp2
            go_ret
            exact ⟨rfl, bel15⟩
          · clear HQ
            go_wp2_with fail
            refine (IU.out _ (hT.below bel1)).mono ?_
            rintro r w2 ⟨rfl, hb2⟩
            have bel2 := bel_go bel1 hb2
            go_wp2_with fail
            refine (ID.out _ (hT.below bel2)).mono ?_
            rintro r w3 ⟨rfl, hb3⟩
            have bel3 := bel_go bel2 hb3
            go_wp2_with fail
            refine (SC.out _).mono ?_
            rintro r w4 ⟨rfl, hb4⟩
            have bel4 := bel_go bel3 hb4
            go_wp2_with fail
            refine (SU.out _).mono ?_
            rintro r w5 ⟨rfl, hb5⟩
            have bel5 := bel_go bel4 hb5
            go_wp2_with fail
            refine (SD.out _).mono ?_
            rintro r w6 ⟨rfl, hb6⟩
            have bel6 := bel_go bel5 hb6
            go_wp2_with fail
            refine (O1.out _ (hT.below bel6)).mono ?_
            rintro r w7 ⟨rfl, hb7⟩
            have bel7 := bel_go bel6 hb7
            go_wp2_with fail
            refine (O2.out _ (hT.below bel7)).mono ?_
            rintro r w8 ⟨rfl, hb8⟩
            have bel8 := bel_go bel7 hb8
            go_wp2_with fail
            refine (O3.out _ (hT.below bel8)).mono ?_
            rintro r w9 ⟨rfl, hb9⟩
            have bel9 := bel_go bel8 hb9
            go_wp2_with fail
            refine (C1.out _ (hT.below bel9)).mono ?_
            rintro r w10 ⟨rfl, hb10⟩
            have bel10 := bel_go bel9 hb10
            go_wp2_with fail
            refine (C2.out _ (hT.below bel10)).mono ?_
            rintro r w11 ⟨rfl, hb11⟩
            have bel11 := bel_go bel10 hb11
            go_wp2_with fail
            refine (M1.out _ (hT.below bel11)).mono ?_
            rintro r w12 ⟨rfl, hb12⟩
            have bel12 := bel_go bel11 hb12
            go_wp2_with fail
            refine (M2.out _ (hT.below bel12)).mono ?_
            rintro r w13 ⟨rfl, hb13⟩
            have bel13 := bel_go bel12 hb13
            go_wp2
            go_ret
            exact ⟨rfl, bel13⟩
        · clear HQ
          go_wp2_with fail
          refine (IU.out _ (hT.below bel1)).mono ?_
          rintro r w2 ⟨rfl, hb2⟩
          have bel2 := bel_go bel1 hb2
          go_wp2_with fail
          refine (ID.out _ (hT.below bel2)).mono ?_
          rintro r w3 ⟨rfl, hb3⟩
          have bel3 := bel_go bel2 hb3
          go_wp2_with fail
          refine (SC.out _).mono ?_
          rintro r w4 ⟨rfl, hb4⟩
          have bel4 := bel_go bel3 hb4
          go_wp2_with fail
          refine (SU.out _).mono ?_
          rintro r w5 ⟨rfl, hb5⟩
          have bel5 := bel_go bel4 hb5
          go_wp2_with fail
          refine (SD.out _).mono ?_
          rintro r w6 ⟨rfl, hb6⟩
          have bel6 := bel_go bel5 hb6
          go_wp2_with fail
          refine (O1.out _ (hT.below bel6)).mono ?_
          rintro r w7 ⟨rfl, hb7⟩
          have bel7 := bel_go bel6 hb7
          go_wp2_with fail
          refine (O2.out _ (hT.below bel7)).mono ?_
          rintro r w8 ⟨rfl, hb8⟩
          have bel8 := bel_go bel7 hb8
          go_wp2_with fail
          refine (O3.out _ (hT.below bel8)).mono ?_
          rintro r w9 ⟨rfl, hb9⟩
          have bel9 := bel_go bel8 hb9
          go_wp2_with fail
          refine (C1.out _ (hT.below bel9)).mono ?_
          rintro r w10 ⟨rfl, hb10⟩
          have bel10 := bel_go bel9 hb10
          go_wp2_with fail
          refine (M1.out _ (hT.below bel10)).mono ?_
          rintro r w11 ⟨rfl, hb11⟩
          have bel11 := bel_go bel10 hb11
          go_wp2_with fail
          refine (M2.out _ (hT.below bel11)).mono ?_
          rintro r w12 ⟨rfl, hb12⟩
          have bel12 := bel_go bel11 hb12
          go_wp2
          go_ret
          exact ⟨rfl, bel12⟩
      · cases hzu : (cu == 0)
        · cases hzv : (cv == 0)
          · obtain ⟨y1, y2⟩ := HQ.out hzu hzv
            subst y1
            have e3 : (uu == uu) = true := by simp
            have e4 : (vv == uu) = true := by rw [y2]; simp
            clear HQ y2
            go_wp2_with fail
            refine (IU.out _ (hT.below bel1)).mono ?_
            rintro r w2 ⟨rfl, hb2⟩
            have bel2 := bel_go bel1 hb2
            go_wp2_with fail
            refine (ID.out _ (hT.below bel2)).mono ?_
            rintro r w3 ⟨rfl, hb3⟩
            have bel3 := bel_go bel2 hb3
            go_wp2_with fail
            refine (SC.out _).mono ?_
            rintro r w4 ⟨rfl, hb4⟩
            have bel4 := bel_go bel3 hb4
            go_wp2_with fail
            refine (SU.out _).mono ?_
            rintro r w5 ⟨rfl, hb5⟩
            have bel5 := bel_go bel4 hb5
            go_wp2_with fail
            refine (SD.out _).mono ?_
            rintro r w6 ⟨rfl, hb6⟩
            have bel6 := bel_go bel5 hb6
            go_wp2_with fail
            refine (O1.out _ (hT.below bel6)).mono ?_
            rintro r w7 ⟨rfl, hb7⟩
            have bel7 := bel_go bel6 hb7
            go_wp2_with fail
            refine (O2.out _ (hT.below bel7)).mono ?_
            rintro r w8 ⟨rfl, hb8⟩
            have bel8 := bel_go bel7 hb8
            go_wp2_with fail
            refine (O3.out _ (hT.below bel8)).mono ?_
            rintro r w9 ⟨rfl, hb9⟩
            have bel9 := bel_go bel8 hb9
            go_wp2_with fail
            refine (C1.out _ (hT.below bel9)).mono ?_
            rintro r w10 ⟨rfl, hb10⟩
            have bel10 := bel_go bel9 hb10
            go_wp2_with fail
            refine (C2.out _ (hT.below bel10)).mono ?_
            rintro r w11 ⟨rfl, hb11⟩
            have bel11 := bel_go bel10 hb11
            go_wp2_with fail
            refine (M1.out _ (hT.below bel11)).mono ?_
            rintro r w12 ⟨rfl, hb12⟩
            have bel12 := bel_go bel11 hb12
            go_wp2_with fail
            refine (M2.out _ (hT.below bel12)).mono ?_
            rintro r w13 ⟨rfl, hb13⟩
            have bel13 := bel_go bel12 hb13
            go_wp2_with fail
            refine (U2.out _ (hT.below bel13)).mono ?_
            rintro r w14 ⟨rfl, hb14⟩
            have bel14 := bel_go bel13 hb14
            go_wp2_with fail
            refine (D2.out _ (hT.below bel14)).mono ?_
            rintro r w15 ⟨rfl, hb15⟩
            have bel15 := bel_go bel14 hb15
            go_wp2
            go_ret
            exact ⟨rfl, bel15⟩
          · clear HQ
            go_wp2_with fail
            refine (IU.out _ (hT.below bel1)).mono ?_
            rintro r w2 ⟨rfl, hb2⟩
            have bel2 := bel_go bel1 hb2
            go_wp2_with fail
            refine (ID.out _ (hT.below bel2)).mono ?_
            rintro r w3 ⟨rfl, hb3⟩
            have bel3 := bel_go bel2 hb3
            go_wp2_with fail
            refine (SC.out _).mono ?_
            rintro r w4 ⟨rfl, hb4⟩
            have bel4 := bel_go bel3 hb4
            go_wp2_with fail
            refine (SU.out _).mono ?_
            rintro r w5 ⟨rfl, hb5⟩
            have bel5 := bel_go bel4 hb5
            go_wp2_with fail
            refine (SD.out _).mono ?_
            rintro r w6 ⟨rfl, hb6⟩
            have bel6 := bel_go bel5 hb6
            go_wp2_with fail
            refine (O1.out _ (hT.below bel6)).mono ?_
            rintro r w7 ⟨rfl, hb7⟩
            have bel7 := bel_go bel6 hb7
            go_wp2_with fail
            refine (O2.out _ (hT.below bel7)).mono ?_
            rintro r w8 ⟨rfl, hb8⟩
            have bel8 := bel_go bel7 hb8
            go_wp2_with fail
            refine (O3.out _ (hT.below bel8)).mono ?_
            rintro r w9 ⟨rfl, hb9⟩
            have bel9 := bel_go bel8 hb9
            go_wp2_with fail
            refine (C1.out _ (hT.below bel9)).mono ?_
            rintro r w10 ⟨rfl, hb10⟩
            have bel10 := bel_go bel9 hb10
            go_wp2_with fail
            refine (C2.out _ (hT.below bel10)).mono ?_
            rintro r w11 ⟨rfl, hb11⟩
            have bel11 := bel_go bel10 hb11
            go_wp2_with fail
            refine (M1.out _ (hT.below bel11)).mono ?_
            rintro r w12 ⟨rfl, hb12⟩
            have bel12 := bel_go bel11 hb12
            go_wp2_with fail
            refine (M2.out _ (hT.below bel12)).mono ?_
            rintro r w13 ⟨rfl, hb13⟩
            have bel13 := bel_go bel12 hb13
            go_wp2
            go_ret
            exact ⟨rfl, bel13⟩
        · clear HQ
          go_wp2_with fail
          refine (IU.out _ (hT.below bel1)).mono ?_
          rintro r w2 ⟨rfl, hb2⟩
          have bel2 := bel_go bel1 hb2
          go_wp2_with fail
          refine (ID.out _ (hT.below bel2)).mono ?_
          rintro r w3 ⟨rfl, hb3⟩
          have bel3 := bel_go bel2 hb3
          go_wp2_with fail
          refine (SC.out _).mono ?_
          rintro r w4 ⟨rfl, hb4⟩
          have bel4 := bel_go bel3 hb4
          go_wp2_with fail
          refine (SU.out _).mono ?_
          rintro r w5 ⟨rfl, hb5⟩
          have bel5 := bel_go bel4 hb5
          go_wp2_with fail
          refine (SD.out _).mono ?_
          rintro r w6 ⟨rfl, hb6⟩
          have bel6 := bel_go bel5 hb6
          go_wp2_with fail
          refine (O1.out _ (hT.below bel6)).mono ?_
          rintro r w7 ⟨rfl, hb7⟩
          have bel7 := bel_go bel6 hb7
          go_wp2_with fail
          refine (O2.out _ (hT.below bel7)).mono ?_
          rintro r w8 ⟨rfl, hb8⟩
          have bel8 := bel_go bel7 hb8
          go_wp2_with fail
          refine (O3.out _ (hT.below bel8)).mono ?_
          rintro r w9 ⟨rfl, hb9⟩
          have bel9 := bel_go bel8 hb9
          go_wp2_with fail
          refine (C1.out _ (hT.below bel9)).mono ?_
          rintro r w10 ⟨rfl, hb10⟩
          have bel10 := bel_go bel9 hb10
          go_wp2_with fail
          refine (M1.out _ (hT.below bel10)).mono ?_
          rintro r w11 ⟨rfl, hb11⟩
          have bel11 := bel_go bel10 hb11
          go_wp2_with fail
          refine (M2.out _ (hT.below bel11)).mono ?_
          rintro r w12 ⟨rfl, hb12⟩
          have bel12 := bel_go bel11 hb12
          go_wp2
          go_ret
          exact ⟨rfl, bel12⟩
  · have s1 : (c != 1) = true := by simp; rw [hcl]; omega
    have s2 : (c != 2) = true := by simp; rw [hcl]; omega
    clear hcl hc hU hV
    go_wp2_with fail
    refine (IU.out _ (hT.below bel1)).mono ?_
    rintro r w2 ⟨rfl, hb2⟩
    have bel2 := bel_go bel1 hb2
    go_wp2_with fail
    refine (ID.out _ (hT.below bel2)).mono ?_
    rintro r w3 ⟨rfl, hb3⟩
    have bel3 := bel_go bel2 hb3
    go_wp2_with fail
    refine (SC.out _).mono ?_
    rintro r w4 ⟨rfl, hb4⟩
    have bel4 := bel_go bel3 hb4
    go_wp2_with fail
    refine (SU.out _).mono ?_
    rintro r w5 ⟨rfl, hb5⟩
    have bel5 := bel_go bel4 hb5
    go_wp2_with fail
    refine (SD.out _).mono ?_
    rintro r w6 ⟨rfl, hb6⟩
    have bel6 := bel_go bel5 hb6
    go_wp2_with fail
    refine (SU.out _).mono ?_
    rintro r w7 ⟨rfl, hb7⟩
    have bel7 := bel_go bel6 hb7
    go_wp2_with fail
    refine (SD.out _).mono ?_
    rintro r w8 ⟨rfl, hb8⟩
    have bel8 := bel_go bel7 hb8
    go_wp2
    go_ret
    exact ⟨rfl, bel8⟩
theorem nlaw_all (ca : Option Addr) (cc : Nat) (cs : List Int) (w : World) (hT : Tab w) (hs : Sl .u8 w (.slice ca cs.length cc) cs) (hby : ∀ i, 0 ≤ cs.getD i 0 ∧ cs.getD i 0 ≤ 255) :
    Calls Tryd.prog 5 #[.slice ca cs.length cc] w fun e w' => e = .returned (.bool true) ∧ Below w.heap.size w w' := by
  by_cases h : cs.length ≤ 1048576
  · exact nlaw ca cc cs w hT hs hby h
  · have hn : cs.length ≤ 9223372036854775807 := by obtain ⟨_, h1, h2, _⟩ := hs.cells; unfold maxLen at h2; omega
    have CB := hid (big_any ca cs.length cc w hn true (by simp; omega))
    clear hs hby h hn
    go_enter Tryd.func5, Tryd.ntmps5
    go_wp2_with fail
    refine CB.out.mono ?_
    rintro e w0 ⟨rfl, rfl⟩
    go_wp2
    go_ret
    exact ⟨rfl, Below.refl _ _⟩
end Fd
end Go.Proofs.YtojcaoccjapdoaaDoor
