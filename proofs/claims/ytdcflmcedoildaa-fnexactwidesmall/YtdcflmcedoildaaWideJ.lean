/-
  The law on wides as numbers of 64 bits.
-/
import Derived.Test.YtdcflmcedoildaaWideI
import Derived.Deep.RegionHeld3
namespace Go.Proofs.Ytdcflmcedoildaa
set_option linter.unusedVariables false
set_option linter.unusedSimpArgs false
open Go.RowKit Go.Deep
namespace SM
theorem keep4 {w w' : World} {b b' : Nat} {v0 v1 u0 u1 : Value} (h0 : w.cell? ⟨b, 0, none⟩ = some v0) (h1 : w.cell? ⟨b, 1, none⟩ = some v1) (k0 : w.cell? ⟨b', 0, none⟩ = some u0) (k1 : w.cell? ⟨b', 1, none⟩ = some u1) (hb : Below w.heap.size w w') :
    w'.cell? ⟨b, 0, none⟩ = some v0 ∧ w'.cell? ⟨b, 1, none⟩ = some v1 ∧ w'.cell? ⟨b', 0, none⟩ = some u0 ∧ w'.cell? ⟨b', 1, none⟩ = some u1 :=
  ⟨(Box.below ⟨h0, h1⟩ hb).1, (Box.below ⟨h0, h1⟩ hb).2, (Box.below ⟨k0, k1⟩ hb).1, (Box.below ⟨k0, k1⟩ hb).2⟩
theorem eqW_same (n : Bool) (zs : List Int) : eqW n n zs zs = true := by simp [eqW, eqL]

set_option maxHeartbeats 1000000 in
theorem law_WideSmall (ng : Bool) (a : Option Addr) (cap : Nat) (zs : List Int) (w : World) (hs : Sl .u32 w (.slice a zs.length cap) zs) (hz : Nm.Dg zs) :
    Calls Try.prog 11 #[.agg #[.bool ng, .slice a zs.length cap]] w fun e w' => e = .returned (.bool true) ∧ Below w.heap.size w w' := by
  have hlm : zs.length ≤ 9223372036854775807 := by obtain ⟨_, h1, h2, _⟩ := hs.cells; unfold maxLen at h2; omega
  by_cases hn : zs.length ≤ 1048576
  · have hl : zs.length ≤ 140737488355328 := by omega
    have hr' : ¬ szR 1048576 zs.length < 0 := by unfold szR; rw [if_neg (by omega)]; omega
    have hbe : (smWI ng zs != smWI ng zs) = false := by simp
    have hbo : (smWB ng zs == smWB ng zs) = true := by simp
    have hse := eqW_same ng zs
    go_enter Try.func11, Try.ntmps11
    go_wp2_with fail
    refine (szW_any ng a zs.length cap 1048576 _ hlm (by decide) (by decide)).mono ?_
    rintro e w1 ⟨rfl, hb1⟩
    have x1 := (Box.new w _ _ _).below hb1
    have hs1 := (hs.alloc _).below hb1
    obtain ⟨c10, c11⟩ := x1
    go_wp2_with fail
    refine (toW_any ng _ zs _ hs1 hn).mono ?_
    rintro e w2 ⟨a2, c2, rfl, ho2, hb2⟩
    have x2 := Box.below ⟨c10, c11⟩ hb2
    have hs2 := hs1.below hb2
    go_wp2_with fail
    refine (sms_any ng a2 c2 zs _ ho2.sl hz hn).mono ?_
    rintro e w3 ⟨rfl, hb3⟩
    have x3 := x2.below hb3
    have hs3 := hs2.below hb3
    obtain ⟨c30, c31⟩ := x3
    go_wp2_with fail
    refine (toW_any ng _ zs _ hs3 hn).mono ?_
    rintro e w4 ⟨a4, c4, rfl, ho4, hb4⟩
    have x4 := Box.below ⟨c30, c31⟩ hb4
    have hs4 := hs3.below hb4
    go_wp2_with fail
    refine (smi_any ng a4 c4 zs _ (ho4.alloc _).sl hz hn).mono ?_
    rintro e w5 ⟨rfl, hb5⟩
    have x5 := (x4.alloc _).below hb5
    have hs5 := (hs4.alloc _).below hb5
    have ho5 := (ho4.alloc _).below hb5
    have y5 := (Box.new _ _ _ _).below hb5
    obtain ⟨c50, c51⟩ := x5
    obtain ⟨d50, d51⟩ := y5
    go_wp2_with fail
    go_region_held3 (fun w' => w'.cell? ⟨w.heap.size, 0, none⟩ = some (.bool ng) ∧ w'.cell? ⟨w.heap.size, 1, none⟩ = some (.slice a zs.length cap) ∧ w'.cell? ⟨w4.heap.size, 0, none⟩ = some (.bool ng) ∧ w'.cell? ⟨w4.heap.size, 1, none⟩ = some (.slice a4 zs.length c4)) (first | assumption | (refine ⟨?_, ?_, ?_, ?_⟩ <;> assumption))
      (first
        | (go_at_call 51; refine (toW_any ng (.slice a zs.length cap) zs _ hs5.drew hn).mono ?_; rintro e w6 ⟨a6, c6, rfl, ho6, hb6⟩; have four := keep4 (w := w5.drew) c50 c51 d50 d51 hb6; have ho5' := (ho5.drew).below hb6)
        | (go_at_call 52; refine (eqW_any ng ng a4 a6 c4 c6 zs zs _ ho5'.sl ho6.sl hl).mono ?_; rintro e w7 ⟨rfl, hb7⟩; have f7 := keep4 four.1 four.2.1 four.2.2.1 four.2.2.2 hb7))
    go_wp2
    go_ret
    exact ⟨rfl, (by repeat (first | exact Below.refl _ _ | refine Below.drew ?_ | refine bel_dn ?_ _ | refine bel_al ?_ _ | refine bel_go ?_ hb7 | refine bel_go ?_ hb6 | refine bel_go ?_ hb5 | refine bel_go ?_ hb4 | refine bel_go ?_ hb3 | refine bel_go ?_ hb2 | refine bel_go ?_ hb1 | refine Below.setCell ?_ (by first | omega | (simp; done) | (simp; omega)) _ | refine Below.alloc ?_ (by first | omega | (simp; done) | (simp; omega)) _ | refine Below.trans ?_ (Below.mono hb7 (by first | omega | (simp; done) | (simp; omega))) | refine Below.trans ?_ (Below.mono hb6 (by first | omega | (simp; done) | (simp; omega))) | refine Below.trans ?_ (Below.mono hb5 (by first | omega | (simp; done) | (simp; omega))) | refine Below.trans ?_ (Below.mono hb4 (by first | omega | (simp; done) | (simp; omega))) | refine Below.trans ?_ (Below.mono hb3 (by first | omega | (simp; done) | (simp; omega))) | refine Below.trans ?_ (Below.mono hb2 (by first | omega | (simp; done) | (simp; omega))) | refine Below.trans ?_ (Below.mono hb1 (by first | omega | (simp; done) | (simp; omega)))))⟩
  · have hr' : szR 1048576 zs.length < 0 := by unfold szR; rw [if_pos (by omega)]; decide
    go_enter Try.func11, Try.ntmps11
    go_wp2_with fail
    refine (szW_any ng a zs.length cap 1048576 _ hlm (by decide) (by decide)).mono ?_
    rintro e w1 ⟨rfl, hb1⟩
    go_wp2
    go_ret
    exact ⟨rfl, (by repeat (first | exact Below.refl _ _ | refine Below.drew ?_ | refine bel_dn ?_ _ | refine bel_al ?_ _ | refine bel_go ?_ hb1 | refine Below.setCell ?_ (by first | omega | (simp; done) | (simp; omega)) _ | refine Below.alloc ?_ (by first | omega | (simp; done) | (simp; omega)) _ | refine Below.trans ?_ (Below.mono hb1 (by first | omega | (simp; done) | (simp; omega)))))⟩

end SM
end Go.Proofs.Ytdcflmcedoildaa
