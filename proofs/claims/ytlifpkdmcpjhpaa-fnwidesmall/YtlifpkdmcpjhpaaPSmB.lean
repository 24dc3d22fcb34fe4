/-
  The law laws.FnWideSmall.
-/
import Derived.Test.YtlifpkdmcpjhpaaPSmA
import Derived.Deep.RegionHeld3
import Derived.Deep.RegionWith
import Derived.Deep.DeepCutAuto
import Derived.Deep.DrawnRows
namespace Go.Proofs.Ytlifpkdmcpjhpaa
set_option linter.unusedVariables false
set_option linter.unusedSimpArgs false
open Go.RowKit Go.Deep
namespace PSm
theorem half {n : Int} (h0 : -9223372036854775808 ≤ n) (h1 : n ≤ 9223372036854775807) : -4611686018427387904 ≤ n.tdiv 2 ∧ n.tdiv 2 ≤ 4611686018427387903 := by
  by_cases h : 0 ≤ n
  · rw [Int.tdiv_eq_ediv_of_nonneg h]; omega
  · have e : n = -(-n) := by omega
    rw [e, Int.neg_tdiv, Int.tdiv_eq_ediv_of_nonneg (by omega)]; omega
theorem fit64 {t : Int} (h0 : -9223372036854775808 ≤ t) (h1 : t ≤ 9223372036854775807) : IntKind.i64.wrap t = t ∧ wrap64 t = t := by
  rw [IntKind.wrap_i64]; unfold wrap64; omega
attribute [local go_sem ↓] Go.wp_at_zero Go.wp_at_succ
set_option maxRecDepth 4000 in
set_option maxHeartbeats 1000000 in
theorem law (ca da : Option Addr) (cc dc : Nat) (cs ds : List Int) (w : World) (hs : Sl .u8 w (.slice ca cs.length cc) cs) (hby : ∀ i, 0 ≤ cs.getD i 0 ∧ cs.getD i 0 ≤ 255) (hl : cs.length ≤ 1048576) (ks : Sl .u8 w (.slice da ds.length dc) ds) (kby : ∀ i, 0 ≤ ds.getD i 0 ∧ ds.getD i 0 ≤ 255) (kl : ds.length ≤ 1048576) :
    Calls Try.prog 8 #[.slice ca cs.length cc, .slice da ds.length dc] w fun e w' => e = .returned (.bool true) ∧ Below w.heap.size w w' := by
  go_enter Try.func8, Try.ntmps8
  go_wp2_with fail
  refine (big_any ca cs.length cc _ (by omega) false (by simp; omega)).mono ?_
  rintro e w0 ⟨rfl, rfl⟩
  go_wp2_with fail
  refine (big_any da ds.length dc _ (by omega) false (by simp; omega)).mono ?_
  rintro e w0 ⟨rfl, rfl⟩
  go_wp2_with fail
  refine (drawOf_any ca cc cs _ hs hby hl).mono ?_
  rintro e w1 ⟨n, rfl, n0, n1, hb1⟩
  go_wp2_with fail
  refine (drawOf_any da dc ds _ (ks.below hb1) kby kl).mono ?_
  rintro e w2 ⟨m, rfl, m0, m1, hb2⟩
  have hbw2 := bel_go hb1 hb2
  go_wp2_with fail
  refine (drawSmall_any ca cc cs _ (hs.below hbw2) hby hl).mono ?_
  rintro e w3 ⟨na, xs, a3, c3, rfl, lx, dx, ox, hb3⟩
  have hbw3 := bel_go hbw2 hb3
  have A := Box.new w3 (.bool na) (.slice a3 xs.length c3) 26
  replace ox := ox.alloc (.cells #[.bool na, .slice a3 xs.length c3] 26)
  have hbwP := bel_al hbw3 (.cells #[.bool na, .slice a3 xs.length c3] 26)
  have A0 := A.1
  have A1 := A.2
  go_wp2_with fail
  refine (smi_any na a3 c3 xs _ ox.sl dx (by omega)).mono ?_
  rintro e w4 ⟨rfl, hb4⟩
  clear A0 A1
  replace A := A.below hb4
  replace ox := ox.below hb4
  have hbw4 := bel_go hbwP hb4
  have A0 := A.1
  have A1 := A.2
  go_wp2_with fail
  refine (sms_any na a3 c3 xs _ ox.sl dx (by omega)).mono ?_
  rintro e w5 ⟨rfl, hb5⟩
  clear A0 A1
  replace A := A.below hb5
  replace ox := ox.below hb5
  have hbw5 := bel_go hbw4 hb5
  have hne : (smWI na xs != smWI na xs) = false := by simp
  have SM := hid (small_is (ng := na) dx)
  generalize smWI na xs = t at hne SM ⊢
  generalize smWB na xs = o at SM ⊢
  have A0 := A.1
  have A1 := A.2
  have kd : w5.drew.cell? ⟨w3.heap.size, 0, none⟩ = some (.bool na) ∧ w5.drew.cell? ⟨w3.heap.size, 1, none⟩ = some (.slice a3 xs.length c3) := ⟨A0, A1⟩
  go_upto_region 8 with fail
  go_cut [57] (fun v wx => v = .bool false ∧ Below w5.heap.size w5 wx)
  case first =>
    cases o
    · have hoo : (false != false) = false := rfl
      clear SM
      go_region
      all_goals (go_wp2_with fail; go_meet)
      all_goals exact ⟨rfl, by first | exact Below.refl _ _ | exact Below.drew (Below.refl _ _)⟩
    · have hoo : (true != true) = false := rfl
      obtain ⟨s1, s2, s3, s4⟩ := SM.out rfl
      have F1 := hid (wof_impl t · s3 s4)
      rw [s1, s2] at F1
      clear SM
      go_region_held3 (fun w' => w'.cell? ⟨w3.heap.size, 0, none⟩ = some (.bool na) ∧ w'.cell? ⟨w3.heap.size, 1, none⟩ = some (.slice a3 xs.length c3))
        (first | with_reducible assumption)
        (first
          | (go_at_call 30; refine (F1.out _).mono ?_; rintro e q1 ⟨e1, g1, rfl, hp1, hq1⟩; have kb := Box.below (w := w5.drew) ⟨kd.1, kd.2⟩ hq1; have kq := And.intro kb.1 kb.2; have ox1 := ox.drew.below hq1)
          | (go_at_call 24; refine (same_yes na e1 a3 g1 c3 xs _ hp1.sl ox1.sl (by omega)).mono ?_; rintro e q2 ⟨rfl, hq2⟩; have kb2 := Box.below kb hq2; have kqq := And.intro kb2.1 kb2.2))
      all_goals (go_wp2_with fail; go_meet)
      all_goals exact ⟨rfl, bel_go (bel_go (Below.drew (Below.refl _ _)) hq1) hq2⟩
  case rest =>
  rename World => w8
  obtain ⟨rfl, hb8⟩ := hcut
  have hbw8 := bel_go hbw5 hb8
  clear SM kd A0 A1 A ox
  have pn := half n0 n1
  have pm := half m0 m1
  obtain ⟨f1, f2⟩ := fit64 (t := n.tdiv 2 + m.tdiv 2) (by omega) (by omega)
  have hnn : (n == n) = true := by simp
  have hss : (n.tdiv 2 + m.tdiv 2 == n.tdiv 2 + m.tdiv 2) = true := by simp
  go_wp2_with fail
  refine (wof_impl n _ n0 n1).mono ?_
  rintro e w9 ⟨a9, c9, rfl, o9, hb9⟩
  have hbw9 := bel_go hbw8 hb9
  go_wp2_with fail
  refine (sm64 n n0 n1 a9 c9 _ o9.sl).mono ?_
  rintro e w10 ⟨rfl, hb10⟩
  have hbw10 := bel_go hbw9 hb10
  go_wp2_with fail
  refine (wof_impl (n.tdiv 2) _ (by omega) (by omega)).mono ?_
  rintro e w11 ⟨a11, c11, rfl, o11, hb11⟩
  have hbw11 := bel_go hbw10 hb11
  go_wp2_with fail
  refine (wof_impl (m.tdiv 2) _ (by omega) (by omega)).mono ?_
  rintro e w12 ⟨a12, c12, rfl, o12, hb12⟩
  have hbw12 := bel_go hbw11 hb12
  replace o11 := o11.below hb12
  go_wp2_with fail
  refine (add64 (n.tdiv 2) (m.tdiv 2) pn.1 pn.2 pm.1 pm.2 a11 a12 c11 c12 _ o11.sl o12.sl).mono ?_
  rintro e w13 ⟨a13, c13, rfl, o13, hb13⟩
  have hbw13 := bel_go hbw12 hb13
  have S0 := Box.new w13 (.bool (Nm.wn (n.tdiv 2 + m.tdiv 2))) (.slice a13 (Nm.wl (n.tdiv 2 + m.tdiv 2)).length c13) 26
  replace o13 := o13.alloc (.cells #[.bool (Nm.wn (n.tdiv 2 + m.tdiv 2)), .slice a13 (Nm.wl (n.tdiv 2 + m.tdiv 2)).length c13] 26)
  have hbwQ := bel_al hbw13 (.cells #[.bool (Nm.wn (n.tdiv 2 + m.tdiv 2)), .slice a13 (Nm.wl (n.tdiv 2 + m.tdiv 2)).length c13] 26)
  have S00 := S0.1
  have S01 := S0.2
  go_wp2_with fail
  refine (sm64 (n.tdiv 2 + m.tdiv 2) (by omega) (by omega) a13 c13 _ o13.sl).mono ?_
  rintro e w14 ⟨rfl, hb14⟩
  have hbw14 := bel_go hbwQ hb14
  go_wp2
  go_ret
  exact ⟨rfl, hbw14⟩
end PSm
theorem law_FnWideSmall (ca da : Option Addr) (cc dc : Nat) (cs ds : List Int) (w : World) (hs : Sl .u8 w (.slice ca cs.length cc) cs) (hby : ∀ i, 0 ≤ cs.getD i 0 ∧ cs.getD i 0 ≤ 255) (ks : Sl .u8 w (.slice da ds.length dc) ds) (kby : ∀ i, 0 ≤ ds.getD i 0 ∧ ds.getD i 0 ≤ 255) :
    Calls Try.prog 8 #[.slice ca cs.length cc, .slice da ds.length dc] w fun e w' => e = .returned (.bool true) ∧ Below w.heap.size w w' := by
  have hlm : cs.length ≤ 9223372036854775807 := by obtain ⟨_, h1, h2, _⟩ := hs.cells; unfold maxLen at h2; omega
  have klm : ds.length ≤ 9223372036854775807 := by obtain ⟨_, h1, h2, _⟩ := ks.cells; unfold maxLen at h2; omega
  by_cases hl : cs.length ≤ 1048576
  · by_cases kl : ds.length ≤ 1048576
    · exact PSm.law ca da cc dc cs ds w hs hby hl ks kby kl
    · go_enter Try.func8, Try.ntmps8
      go_wp2_with fail
      refine (big_any ca cs.length cc _ hlm false (by simp; omega)).mono ?_
      rintro e w0 ⟨rfl, rfl⟩
      go_wp2_with fail
      refine (big_any da ds.length dc _ klm true (by simp; omega)).mono ?_
      rintro e w0 ⟨rfl, rfl⟩
      go_wp2
      go_ret
      exact ⟨rfl, Below.refl _ _⟩
  · go_enter Try.func8, Try.ntmps8
    go_wp2_with fail
    refine (big_any ca cs.length cc _ hlm true (by simp; omega)).mono ?_
    rintro e w0 ⟨rfl, rfl⟩
    go_wp2
    go_ret
    exact ⟨rfl, Below.refl _ _⟩
end Go.Proofs.Ytlifpkdmcpjhpaa
