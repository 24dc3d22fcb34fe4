/-
  The law on wides compared.
-/
import Derived.Test.YtdcflmcedoildaaWideC
namespace Go.Proofs.Ytdcflmcedoildaa
set_option linter.unusedVariables false
set_option linter.unusedSimpArgs false
open Go.RowKit Go.Deep
theorem keep4 {w w' : World} {b b' : Nat} {v0 v1 u0 u1 : Value} (h0 : w.cell? ⟨b, 0, none⟩ = some v0) (h1 : w.cell? ⟨b, 1, none⟩ = some v1) (k0 : w.cell? ⟨b', 0, none⟩ = some u0) (k1 : w.cell? ⟨b', 1, none⟩ = some u1) (hb : Below w.heap.size w w') :
    w'.cell? ⟨b, 0, none⟩ = some v0 ∧ w'.cell? ⟨b, 1, none⟩ = some v1 ∧ w'.cell? ⟨b', 0, none⟩ = some u0 ∧ w'.cell? ⟨b', 1, none⟩ = some u1 :=
  ⟨(Box.below ⟨h0, h1⟩ hb).1, (Box.below ⟨h0, h1⟩ hb).2, (Box.below ⟨k0, k1⟩ hb).1, (Box.below ⟨k0, k1⟩ hb).2⟩
theorem eqW_same (n : Bool) (zs : List Int) : eqW n n zs zs = true := by simp [eqW, eqL]

set_option maxHeartbeats 4000000 in
theorem law_WideCmp (na nb : Bool) (a b : Option Addr) (cap cap' : Nat) (xs ys : List Int) (w : World) (hx : Sl .u32 w (.slice a xs.length cap) xs) (hy : Sl .u32 w (.slice b ys.length cap') ys) :
    Calls Try.prog 16 #[.agg #[.bool na, .slice a xs.length cap], .agg #[.bool nb, .slice b ys.length cap']] w fun e w' => e = .returned (.bool true) ∧ Below w.heap.size w w' := by
  have hxm : xs.length ≤ 9223372036854775807 := by obtain ⟨_, h1, h2, _⟩ := hx.cells; unfold maxLen at h2; omega
  have hym : ys.length ≤ 9223372036854775807 := by obtain ⟨_, h1, h2, _⟩ := hy.cells; unfold maxLen at h2; omega
  by_cases hn : xs.length ≤ 1048576
  rotate_left
  · have hr' : szR 1048576 xs.length < 0 := by unfold szR; rw [if_pos (by omega)]; decide
    go_enter Try.func16, Try.ntmps16
    go_wp2_with fail
    refine (szW_any na a xs.length cap 1048576 _ hxm (by decide) (by decide)).mono ?_
    rintro e w1 ⟨rfl, hb1⟩
    go_wp2
    go_ret
    exact ⟨rfl, (by repeat (first | exact Below.refl _ _ | refine Below.drew ?_ | refine bel_dn ?_ _ | refine bel_al ?_ _ | refine bel_go ?_ hb1 | refine Below.setCell ?_ (by first | omega | (simp; done) | (simp; omega)) _ | refine Below.alloc ?_ (by first | omega | (simp; done) | (simp; omega)) _ | refine Below.trans ?_ (Below.mono hb1 (by first | omega | (simp; done) | (simp; omega)))))⟩
  have hr1 : szR 1048576 xs.length = 1048576 - xs.length := by unfold szR; rw [if_neg (by omega)]
  obtain ⟨r, hr⟩ : ∃ r, r = szR 1048576 xs.length := ⟨_, rfl⟩
  have hr0 : 0 ≤ r := by rw [hr, hr1]; omega
  have hr2 : r ≤ 1048576 := by rw [hr, hr1]; omega
  have HRR : Hid (r = 1048576 - xs.length) := hid (by rw [hr, hr1])
  have hszx : ∀ w, Calls Try.prog 50 #[.agg #[.bool na, .slice a xs.length cap], .int .i64 1048576] w fun e w' => e = .returned (.int .i64 r) ∧ Below w.heap.size w w' := fun w => by rw [hr]; exact szW_any na a xs.length cap 1048576 w hxm (by decide) (by decide)
  have HSX := hid hszx
  clear hr hr1 hszx
  by_cases hm : szR r ys.length < 0
  · go_enter Try.func16, Try.ntmps16
    go_wp2_with fail
    refine (HSX.out _).mono ?_
    rintro e w1 ⟨rfl, hb1⟩
    obtain ⟨x10, x11⟩ := ((Box.new w (.bool na) (.slice a xs.length cap) 48).alloc _).below hb1
    obtain ⟨y10, y11⟩ := (Box.new2 w _ (.bool nb) (.slice b ys.length cap') 48).below hb1
    go_wp2_with fail
    refine (szW_any nb b ys.length cap' r _ hym hr0 hr2).mono ?_
    rintro e w2 ⟨rfl, hb2⟩
    go_wp2
    go_ret
    exact ⟨rfl, (by repeat (first | exact Below.refl _ _ | refine Below.drew ?_ | refine bel_dn ?_ _ | refine bel_al ?_ _ | refine bel_go ?_ hb2 | refine bel_go ?_ hb1 | refine Below.setCell ?_ (by first | omega | (simp; done) | (simp; omega)) _ | refine Below.alloc ?_ (by first | omega | (simp; done) | (simp; omega)) _ | refine Below.trans ?_ (Below.mono hb2 (by first | omega | (simp; done) | (simp; omega))) | refine Below.trans ?_ (Below.mono hb1 (by first | omega | (simp; done) | (simp; omega)))))⟩
  have hyn : ys.length ≤ 1048576 := by
    unfold szR at hm; split at hm
    · omega
    · omega
  have hlx : xs.length ≤ 140737488355328 := by omega
  have hly : ys.length ≤ 140737488355328 := by omega
  have hbe : (wcmp na nb xs ys != wcmp na nb xs ys) = false := by simp
  have hsx := eqW_same na xs
  have hsy := eqW_same nb ys
  go_enter Try.func16, Try.ntmps16
  go_wp2_with fail
  refine (HSX.out _).mono ?_
  rintro e w1 ⟨rfl, hb1⟩
  obtain ⟨x10, x11⟩ := ((Box.new w (.bool na) (.slice a xs.length cap) 48).alloc _).below hb1
  obtain ⟨y10, y11⟩ := (Box.new2 w _ (.bool nb) (.slice b ys.length cap') 48).below hb1
  have sx1 := ((hx.alloc _).alloc _).below hb1; have sy1 := ((hy.alloc _).alloc _).below hb1
  go_wp2_with fail
  refine (szW_any nb b ys.length cap' r _ hym hr0 hr2).mono ?_
  rintro e w2 ⟨rfl, hb2⟩
  obtain ⟨x20, x21⟩ := Box.below ⟨x10, x11⟩ hb2
  obtain ⟨y20, y21⟩ := Box.below ⟨y10, y11⟩ hb2
  have sx2 := sx1.below hb2; have sy2 := sy1.below hb2
  go_wp2_with fail
  go_region_held3 (fun w' => w'.cell? ⟨w.heap.size, 0, none⟩ = some (.bool na) ∧ w'.cell? ⟨w.heap.size, 1, none⟩ = some (.slice a xs.length cap) ∧ w'.cell? ⟨w.heap.size + 1, 0, none⟩ = some (.bool nb) ∧ w'.cell? ⟨w.heap.size + 1, 1, none⟩ = some (.slice b ys.length cap')) (first | assumption | exact ⟨x20, x21, y20, y21⟩)
    (first
      | (go_at_call_of 51 xs; refine (toW_any na (.slice a xs.length cap) xs _ sx2.drew hn).mono ?_; rintro e w3 ⟨a3, c3, rfl, ho3, hb3⟩; have f3 := keep4 (w := w2.drew) x20 x21 y20 y21 hb3; have sy3 := sy2.drew.below hb3; have sx3 := sx2.drew.below hb3)
      | (go_at_call_of 51 ys; refine (toW_any nb (.slice b ys.length cap') ys _ sy3 hyn).mono ?_; rintro e w4 ⟨a4, c4, rfl, ho4, hb4⟩; have f4 := keep4 f3.1 f3.2.1 f3.2.2.1 f3.2.2.2 hb4; have sx4 := sx3.below hb4; have sy4 := sy3.below hb4; have ho34 := ho3.below hb4)
      | (go_at_call 39; refine (wcmp_spec na nb a3 a4 c3 c4 xs ys _ ho34.sl ho4.sl hlx hly).mono ?_; rintro e w5 ⟨rfl, hb5⟩; have f5 := keep4 f4.1 f4.2.1 f4.2.2.1 f4.2.2.2 hb5; have sx5 := sx4.below hb5; have sy5 := sy4.below hb5))
  obtain ⟨p50, p51, q50, q51⟩ := f5
  go_wp2_with fail
  refine (toW_any na (.slice a xs.length cap) xs _ sx5 hn).mono ?_
  rintro e w6 ⟨a6, c6, rfl, ho6, hb6⟩
  obtain ⟨x60, x61⟩ := Box.below ⟨p50, p51⟩ hb6
  obtain ⟨y60, y61⟩ := Box.below ⟨q50, q51⟩ hb6
  have sx6 := sx5.below hb6; have sy6 := sy5.below hb6
  obtain ⟨X60, X61⟩ := Box.alloc ⟨x60, x61⟩ (.cells #[.bool na, .slice a6 xs.length c6] 26)
  obtain ⟨Y60, Y61⟩ := Box.alloc ⟨y60, y61⟩ (.cells #[.bool na, .slice a6 xs.length c6] 26)
  go_wp2_with fail
  refine (toW_any nb (.slice b ys.length cap') ys _ (sy6.alloc _) hyn).mono ?_
  rintro e w7 ⟨a7, c7, rfl, ho7, hb7⟩
  obtain ⟨x70, x71⟩ := Box.below ⟨X60, X61⟩ hb7
  obtain ⟨y70, y71⟩ := Box.below ⟨Y60, Y61⟩ hb7
  obtain ⟨u70, u71⟩ := (Box.new w6 (.bool na) (.slice a6 xs.length c6) 26).below hb7
  have sx7 := (sx6.alloc (.cells #[.bool na, .slice a6 xs.length c6] 26)).below hb7
  have sy7 := (sy6.alloc (.cells #[.bool na, .slice a6 xs.length c6] 26)).below hb7
  have ho67 := (ho6.alloc (.cells #[.bool na, .slice a6 xs.length c6] 26)).below hb7
  obtain ⟨U70, U71⟩ := Box.alloc ⟨u70, u71⟩ (.cells #[.bool nb, .slice a7 ys.length c7] 26)
  have l67 : w6.heap.size < w7.heap.size := World.block_lt_of_cell? w7 _ u70
  go_wp2_with fail
  refine (wcmp_impl na nb a6 a7 c6 c7 xs ys _ (ho67.alloc _).sl (ho7.alloc _).sl hlx hly).mono ?_
  rintro e w8 ⟨rfl, hb8⟩
  obtain ⟨x80, x81⟩ := (Box.alloc ⟨x70, x71⟩ _).below hb8
  obtain ⟨y80, y81⟩ := (Box.alloc ⟨y70, y71⟩ _).below hb8
  obtain ⟨u80, u81⟩ := Box.below ⟨U70, U71⟩ hb8
  obtain ⟨t80, t81⟩ := (Box.new w7 (.bool nb) (.slice a7 ys.length c7) 26).below hb8
  have sx8 := (sx7.alloc _).below hb8; have sy8 := (sy7.alloc _).below hb8
  have ho68 := (ho67.alloc _).below hb8; have ho78 := (ho7.alloc _).below hb8
  go_wp2_with fail
  go_region_held3 (fun w' => w'.cell? ⟨w.heap.size, 0, none⟩ = some (.bool na) ∧ w'.cell? ⟨w.heap.size, 1, none⟩ = some (.slice a xs.length cap) ∧ w'.cell? ⟨w6.heap.size, 0, none⟩ = some (.bool na) ∧ w'.cell? ⟨w6.heap.size, 1, none⟩ = some (.slice a6 xs.length c6)) (first | assumption | exact ⟨x80, x81, u80, u81⟩)
    (first
      | (go_at_call 51; refine (toW_any na (.slice a xs.length cap) xs _ sx8.drew hn).mono ?_; rintro e w9 ⟨a9, c9, rfl, ho9, hb9⟩; have f9 := keep4 (w := w8.drew) x80 x81 u80 u81 hb9; have ho69 := ho68.drew.below hb9; have ho79 := ho78.drew.below hb9; have g9 := keep4 (w := w8.drew) y80 y81 t80 t81 hb9; have sy9 := sy8.drew.below hb9)
      | (go_at_call 52; refine (eqW_any na na a6 a9 c6 c9 xs xs _ ho69.sl ho9.sl hlx).mono ?_; rintro e wa ⟨rfl, hba⟩; have fa := keep4 f9.1 f9.2.1 f9.2.2.1 f9.2.2.2 hba; have ga := keep4 g9.1 g9.2.1 g9.2.2.1 g9.2.2.2 hba; have ho7a := ho79.below hba; have sya := sy9.below hba))
  obtain ⟨ya0, ya1, ta0, ta1⟩ := ga
  go_wp2_with fail
  go_region_held3 (fun w' => w'.cell? ⟨w.heap.size + 1, 0, none⟩ = some (.bool nb) ∧ w'.cell? ⟨w.heap.size + 1, 1, none⟩ = some (.slice b ys.length cap') ∧ w'.cell? ⟨w7.heap.size, 0, none⟩ = some (.bool nb) ∧ w'.cell? ⟨w7.heap.size, 1, none⟩ = some (.slice a7 ys.length c7)) (first | assumption | exact ⟨ya0, ya1, ta0, ta1⟩)
    (first
      | (go_at_call 51; refine (toW_any nb (.slice b ys.length cap') ys _ sya.drew hyn).mono ?_; rintro e wb ⟨ab, cb, rfl, hob, hbb⟩; have fb := keep4 (w := wa.drew) ya0 ya1 ta0 ta1 hbb; have ho7b := ho7a.drew.below hbb)
      | (go_at_call 52; refine (eqW_any nb nb a7 ab c7 cb ys ys _ ho7b.sl hob.sl hly).mono ?_; rintro e wc ⟨rfl, hbc⟩; have fc := keep4 fb.1 fb.2.1 fb.2.2.1 fb.2.2.2 hbc))
  go_wp2
  go_ret
  exact ⟨rfl, (by repeat (first | exact Below.refl _ _ | refine Below.drew ?_ | refine bel_dn ?_ _ | refine bel_al ?_ _ | refine bel_go ?_ hbc | refine bel_go ?_ hbb | refine bel_go ?_ hba | refine bel_go ?_ hb9 | refine bel_go ?_ hb8 | refine bel_go ?_ hb7 | refine bel_go ?_ hb6 | refine bel_go ?_ hb5 | refine bel_go ?_ hb4 | refine bel_go ?_ hb3 | refine bel_go ?_ hb2 | refine bel_go ?_ hb1 | refine Below.setCell ?_ (by first | omega | (simp; done) | (simp; omega)) _ | refine Below.alloc ?_ (by first | omega | (simp; done) | (simp; omega)) _ | refine Below.trans ?_ (Below.mono hbc (by first | omega | (simp; done) | (simp; omega))) | refine Below.trans ?_ (Below.mono hbb (by first | omega | (simp; done) | (simp; omega))) | refine Below.trans ?_ (Below.mono hba (by first | omega | (simp; done) | (simp; omega))) | refine Below.trans ?_ (Below.mono hb9 (by first | omega | (simp; done) | (simp; omega))) | refine Below.trans ?_ (Below.mono hb8 (by first | omega | (simp; done) | (simp; omega))) | refine Below.trans ?_ (Below.mono hb7 (by first | omega | (simp; done) | (simp; omega))) | refine Below.trans ?_ (Below.mono hb6 (by first | omega | (simp; done) | (simp; omega))) | refine Below.trans ?_ (Below.mono hb5 (by first | omega | (simp; done) | (simp; omega))) | refine Below.trans ?_ (Below.mono hb4 (by first | omega | (simp; done) | (simp; omega))) | refine Below.trans ?_ (Below.mono hb3 (by first | omega | (simp; done) | (simp; omega))) | refine Below.trans ?_ (Below.mono hb2 (by first | omega | (simp; done) | (simp; omega))) | refine Below.trans ?_ (Below.mono hb1 (by first | omega | (simp; done) | (simp; omega)))))⟩
end Go.Proofs.Ytdcflmcedoildaa
