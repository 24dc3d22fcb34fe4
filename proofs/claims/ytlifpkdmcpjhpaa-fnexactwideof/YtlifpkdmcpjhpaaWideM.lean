/-
  The law on wides of numbers of 64 bits.
-/
import Derived.Test.YtlifpkdmcpjhpaaWideL
import Derived.Test.YtlifpkdmcpjhpaaLawsC
namespace Go.Proofs.Ytlifpkdmcpjhpaa
set_option linter.unusedVariables false
set_option linter.unusedSimpArgs false
open Go.RowKit Go.Deep
theorem wl_len64 {n : Int} (h0 : -9223372036854775808 ≤ n) (h1 : n ≤ 9223372036854775807) : (Nm.wl n).length ≤ 200 := by
  have := fits_small (x := n) (by omega) (by omega)
  simpa [Nm.fits] using this
set_option maxHeartbeats 2000000 in
theorem law_WideOf (n : Int) (w : World) (h0 : -9223372036854775808 ≤ n) (h1 : n ≤ 9223372036854775807) :
    Calls Try.prog 10 #[.int .i64 n] w fun e w' => e = .returned (.bool true) ∧ Below w.heap.size w w' := by
  have hl200 := wl_len64 h0 h1
  have hdg := Nm.wl_dg n
  have hse := eqW_refl (Nm.wn n) (Nm.wl n)
  obtain ⟨L, hL⟩ : ∃ L, L = Nm.wl n := ⟨_, rfl⟩
  obtain ⟨G, hG⟩ : ∃ G, G = Nm.wn n := ⟨_, rfl⟩
  have hsp := wof_spec n w h0 h1
  have him := fun w => wof_impl n w h0 h1
  rw [← hL, ← hG] at hsp
  rw [← hL] at hl200 hdg hse
  rw [← hG] at hse
  simp only [← hL, ← hG] at him
  clear hL hG
  have HSP := hid hsp
  have HIM := hid him
  have HDG := hid hdg
  have hr : heldR 1 (iot 1 L.length) = 1 + L.length := heldR_iot _
  have HR := hid hr
  clear hsp him hdg hr
  go_enter Try.func10, Try.ntmps10
  go_wp2_with fail
  refine HSP.out.mono ?_
  rintro e w1 ⟨a1, c1, rfl, ho1, hb1⟩
  go_wp2_with fail
  refine (HIM.out _).mono ?_
  rintro e w2 ⟨a2, c2, rfl, ho2, hb2⟩
  have x2 := (Box.new w1 (.bool G) (.slice a1 L.length c1) 26).below hb2
  have ho12 := (ho1.alloc _).below hb2
  have y2 := Box.new w2 (.bool G) (.slice a2 L.length c2) 26
  obtain ⟨x20, x21⟩ := x2.alloc (.cells #[.bool G, .slice a2 L.length c2] 26)
  obtain ⟨y20, y21⟩ := y2
  go_wp2_with fail
  refine (eqW_any G G a2 a1 c2 c1 L L _ (ho2.alloc _).sl (ho12.alloc _).sl (by omega)).mono ?_
  rintro e w3 ⟨rfl, hb3⟩
  obtain ⟨x30, x31⟩ := Box.below ⟨x20, x21⟩ hb3
  obtain ⟨y30, y31⟩ := Box.below ⟨y20, y21⟩ hb3
  have ho13 := (ho12.alloc _).below hb3
  have ho23 := (ho2.alloc _).below hb3
  go_wp2_with fail
  refine (markW_any G a2 c2 L 1 _ _ ho23 (by omega) (by decide) (by decide)).mono ?_
  rintro e w4 ⟨rfl, hm4, hg4⟩
  have hat := ho23.at L.length c2
  have l1 : w1.heap.size < w2.heap.size := World.block_lt_of_cell? w2 _ x2.1
  have la : ∀ g, (Value.slice a2 L.length c2).ownBlock = some g → w1.heap.size < g ∧ g < w2.heap.size := fun g hg => by
    have h1 := (ho2.at L.length c2 g hg)
    simp at h1; omega
  have lw : w.heap.size ≤ w1.heap.size := hb1.size
  obtain ⟨x40, x41⟩ := Box.grown ⟨x30, x31⟩ hg4 (fun g hg => by have := la g hg; omega)
  obtain ⟨y40, y41⟩ := Box.grown ⟨y30, y31⟩ hg4 (fun g hg => by have := la g hg; omega)
  have ho14 : Own w4 w.heap.size a1 c1 L := ho13.kept hg4 (fun g hg hr => by
    have h2 := la g hr
    rcases ho1.block with ⟨e, _⟩ | ⟨g', e, _, h3⟩
    · rw [e] at hg; cases hg
    · rw [e] at hg; cases hg; omega)
  have bel4 : Below w.heap.size w w4 := bel_mark (W := w3) (by repeat (first | exact Below.refl _ _ | refine Below.drew ?_ | refine bel_dn ?_ _ | refine bel_al ?_ _ | refine bel_go ?_ hb3 | refine bel_go ?_ hb2 | refine bel_go ?_ hb1 | refine Below.setCell ?_ (by first | omega | (simp; done) | (simp; omega)) _ | refine Below.alloc ?_ (by first | omega | (simp; done) | (simp; omega)) _ | refine Below.trans ?_ (Below.mono hb3 (by first | omega | (simp; done) | (simp; omega))) | refine Below.trans ?_ (Below.mono hb2 (by first | omega | (simp; done) | (simp; omega))) | refine Below.trans ?_ (Below.mono hb1 (by first | omega | (simp; done) | (simp; omega))))) hg4 (fun g hg => by have := la g hg; omega)
  have eI := iot_length 1 L.length
  have HEI := hid eI
  have hmI : Own w4 (w1.heap.size + 1) a2 c2 (iot 1 L.length) := by simpa using hm4
  clear eI hm4 hat
  have hdI := iot_dg L.length (by omega)
  go_wp2_with fail
  have hsI : Sl .u32 w4 (.slice a2 L.length c2) (iot 1 L.length) := by have := hmI.sl; rwa [HEI.out] at this
  have c5 := heldW_any G a2 c2 (iot 1 L.length) 1 w4 hmI.sl hdI (by rw [HEI.out]; omega) (by decide) (by decide)
  rw [HEI.out, HR.out] at c5
  refine c5.mono ?_
  clear c5
  rintro e w5 ⟨rfl, hb5⟩
  obtain ⟨x50, x51⟩ := Box.below ⟨x40, x41⟩ hb5
  obtain ⟨y50, y51⟩ := Box.below ⟨y40, y41⟩ hb5
  have ho15 := ho14.below hb5
  have hm5 := hmI.below hb5
  have hne : ((1 : Int) + L.length != 1 + L.length) = false := by simp
  go_wp2_with fail
  refine (HIM.out _).mono ?_
  rintro e w6 ⟨a6, c6, rfl, ho6, hb6⟩
  obtain ⟨x60, x61⟩ := (Box.below ⟨x50, x51⟩ hb6).alloc (.cells #[.bool G, .slice a6 L.length c6] 26)
  obtain ⟨y60, y61⟩ := (Box.below ⟨y50, y51⟩ hb6).alloc (.cells #[.bool G, .slice a6 L.length c6] 26)
  obtain ⟨z60, z61⟩ := Box.new w6 (.bool G) (.slice a6 L.length c6) 26
  have ho16 := (ho15.below hb6).alloc (.cells #[.bool G, .slice a6 L.length c6] 26)
  have hm6 := (hm5.below hb6).alloc (.cells #[.bool G, .slice a6 L.length c6] 26)
  go_wp2_with fail
  refine (eqW_any G G a6 a1 c6 c1 L L _ (ho6.alloc _).sl ho16.sl (by omega)).mono ?_
  rintro e w7 ⟨rfl, hb7⟩
  obtain ⟨y70, y71⟩ := Box.below ⟨y60, y61⟩ hb7
  have hm7 := hm6.below hb7
  go_wp2_with fail
  have c8 := heldW_any G a2 c2 (iot 1 L.length) 1 w7 hm7.sl hdI (by rw [HEI.out]; omega) (by decide) (by decide)
  rw [HEI.out, HR.out] at c8
  refine c8.mono ?_
  clear c8
  rintro e w8 ⟨rfl, hb8⟩
  go_wp2
  go_ret
  exact ⟨rfl, (by repeat (first | exact Below.refl _ _ | refine Below.drew ?_ | refine bel_dn ?_ _ | refine bel_al ?_ _ | refine bel_go ?_ hb8 | refine bel_go ?_ hb7 | refine bel_go ?_ hb6 | refine bel_go ?_ hb5 | refine bel_go ?_ bel4 | refine Below.setCell ?_ (by first | omega | (simp; done) | (simp; omega)) _ | refine Below.alloc ?_ (by first | omega | (simp; done) | (simp; omega)) _ | refine Below.trans ?_ (Below.mono hb8 (by first | omega | (simp; done) | (simp; omega))) | refine Below.trans ?_ (Below.mono hb7 (by first | omega | (simp; done) | (simp; omega))) | refine Below.trans ?_ (Below.mono hb6 (by first | omega | (simp; done) | (simp; omega))) | refine Below.trans ?_ (Below.mono hb5 (by first | omega | (simp; done) | (simp; omega))) | refine Below.trans ?_ (Below.mono bel4 (by first | omega | (simp; done) | (simp; omega)))))⟩
end Go.Proofs.Ytlifpkdmcpjhpaa
