/-
  The law on a wide's hexadecimal text.
-/
import Derived.Test.YtmnfidkpnogfmaaSG
import Derived.Test.YtmnfidkpnogfmaaWideH
import Derived.Deep.RegionHeld3
namespace Go.Proofs.Ytmnfidkpnogfmaa
set_option linter.unusedVariables false
set_option linter.unusedSimpArgs false
open Go.RowKit Go.Deep
namespace WTx
open BL
theorem bl_pos (ng : Bool) (zs : List Int) (hz : Nm.Dg zs) (ho : okB ng zs = true) (h0 : zs.length ≠ 0) : 0 < blL zs ∧ blL zs ≤ 32 * (zs.length : Int) := by
  have hd := hz.getD (zs.length - 1)
  have h32 := bitLen_le32 _ hd.1 hd.2
  have hl : zs.getD (zs.length - 1) 0 ≠ 0 := by
    unfold okB at ho
    rw [if_neg h0] at ho
    simp only [Bool.and_eq_true, Bool.not_eq_true', decide_eq_false_iff_not] at ho
    exact ho.2
  have hp : 0 < bitLen (zs.getD (zs.length - 1) 0).toNat := by
    unfold bitLen; split <;> omega
  unfold blL
  rw [if_neg h0]
  omega
/-- What the text of a wide is. -/
def txtW (ng : Bool) (zs : List Int) : ByteArray := if okB ng zs then (if zs.length = 0 then ⟨#[48]⟩ else txt ng (rdig zs (((blL zs).toNat - 1) / 4 + 1))) else ⟨#[]⟩
set_option maxHeartbeats 8000000 in
set_option maxRecDepth 100000 in
theorem wt_spec_all (ng : Bool) (a : Option Addr) (cap : Nat) (zs : List Int) (w : World) (hs : Sl .u32 w (.slice a zs.length cap) zs) (hz : Nm.Dg zs) (hl : zs.length ≤ 1048576) :
    Calls Try.prog 40 #[.agg #[.bool ng, .slice a zs.length cap]] w fun e w' => e = .returned (.string (txtW ng zs)) ∧ Below w.heap.size w w' := by
  cases h1 : okB ng zs
  · have HR := hid (show txtW ng zs = ⟨#[]⟩ by unfold txtW; rw [h1]; rfl)
    go_enter Try.func40, Try.ntmps40
    go_wp2_with fail
    refine (ok_spec ng a cap zs _ (hs.alloc _) (by omega)).mono ?_
    rintro e w1 ⟨rfl, hb1⟩
    go_wp2
    go_ret
    exact ⟨by rw [HR.out]; rfl, (by repeat (first | exact bz0 _ _ | refine bz1 ?_ | refine bz2 ?_ _ | refine bz3 ?_ _ | refine bz4 ?_ hb1 | refine bz5 ?_ _ | refine bz6 ?_ _ | refine bz7 ?_ hb1))⟩
  by_cases h0 : zs.length = 0
  · have HR := hid (show txtW ng zs = ⟨#[48]⟩ by unfold txtW; rw [h1, if_pos h0]; rfl)
    have hb0 : ((zs.length : Int) == 0) = true := by rw [beq_iff_eq]; omega
    clear h0
    go_enter Try.func40, Try.ntmps40
    go_wp2_with fail
    refine (ok_spec ng a cap zs _ (hs.alloc _) (by omega)).mono ?_
    rintro e w1 ⟨rfl, hb1⟩
    have x1 := (Box.new w _ _ _).below hb1
    obtain ⟨c0, c1⟩ := x1
    go_wp2
    go_ret
    exact ⟨by rw [HR.out]; rfl, (by repeat (first | exact bz0 _ _ | refine bz1 ?_ | refine bz2 ?_ _ | refine bz3 ?_ _ | refine bz4 ?_ hb1 | refine bz5 ?_ _ | refine bz6 ?_ _ | refine bz7 ?_ hb1))⟩
  · obtain ⟨hp, hq⟩ := bl_pos ng zs hz h1 h0
    have e1 : txtW ng zs = txt ng (rdig zs (((blL zs).toNat - 1) / 4 + 1)) := by unfold txtW; rw [h1, if_neg h0]; rfl
    rw [e1]
    have e2 : blL zs = ((blL zs).toNat : Int) := by omega
    have e3 : blW ng zs = ((blL zs).toNat : Int) := by unfold blW; rw [h1]; exact e2
    exact wt_spec ng a cap zs w hs hz hl h1 h0 _ _ e2 (by omega) (by omega) rfl
set_option maxHeartbeats 8000000 in
set_option maxRecDepth 100000 in
theorem wt_impl_all (ng : Bool) (a : Option Addr) (cap : Nat) (zs : List Int) (w : World) (hs : Sl .u32 w (.slice a zs.length cap) zs) (hz : Nm.Dg zs) (hl : zs.length ≤ 1048576) :
    Calls Try.prog 42 #[.agg #[.bool ng, .slice a zs.length cap]] w fun e w' => e = .returned (.string (txtW ng zs)) ∧ Below w.heap.size w w' := by
  cases h1 : okB ng zs
  · have HR := hid (show txtW ng zs = ⟨#[]⟩ by unfold txtW; rw [h1]; rfl)
    go_enter Try.func42, Try.ntmps42
    go_wp2_with fail
    refine (ok_impl ng a cap zs _ (hs.alloc _) (by omega)).mono ?_
    rintro e w1 ⟨rfl, hb1⟩
    go_wp2
    go_ret
    exact ⟨by rw [HR.out]; rfl, (by repeat (first | exact bz0 _ _ | refine bz1 ?_ | refine bz2 ?_ _ | refine bz3 ?_ _ | refine bz4 ?_ hb1 | refine bz5 ?_ _ | refine bz6 ?_ _ | refine bz7 ?_ hb1))⟩
  by_cases h0 : zs.length = 0
  · have HR := hid (show txtW ng zs = ⟨#[48]⟩ by unfold txtW; rw [h1, if_pos h0]; rfl)
    have hb0 : ((zs.length : Int) == 0) = true := by rw [beq_iff_eq]; omega
    clear h0
    go_enter Try.func42, Try.ntmps42
    go_wp2_with fail
    refine (ok_impl ng a cap zs _ (hs.alloc _) (by omega)).mono ?_
    rintro e w1 ⟨rfl, hb1⟩
    have x1 := (Box.new w _ _ _).below hb1
    obtain ⟨c0, c1⟩ := x1
    go_wp2
    go_ret
    exact ⟨by rw [HR.out]; rfl, (by repeat (first | exact bz0 _ _ | refine bz1 ?_ | refine bz2 ?_ _ | refine bz3 ?_ _ | refine bz4 ?_ hb1 | refine bz5 ?_ _ | refine bz6 ?_ _ | refine bz7 ?_ hb1))⟩
  · obtain ⟨hp, hq⟩ := bl_pos ng zs hz h1 h0
    have e1 : txtW ng zs = txt ng (rdig zs (((blL zs).toNat - 1) / 4 + 1)) := by unfold txtW; rw [h1, if_neg h0]; rfl
    rw [e1]
    have e2 : blL zs = ((blL zs).toNat : Int) := by omega
    have e3 : blW ng zs = ((blL zs).toNat : Int) := by unfold blW; rw [h1]; exact e2
    cases ng
    · exact wt_impl_false a cap zs w hs hz hl h1 h0 _ _ e3 (by omega) (by omega) rfl
    · exact wt_impl_true a cap zs w hs hz hl h1 h0 _ _ e3 (by omega) (by omega) rfl
set_option maxHeartbeats 8000000 in
set_option maxRecDepth 100000 in
theorem law_WideText (ng : Bool) (a : Option Addr) (cap : Nat) (zs : List Int) (w : World) (hs : Sl .u32 w (.slice a zs.length cap) zs) (hz : Nm.Dg zs) :
    Calls Try.prog 8 #[.agg #[.bool ng, .slice a zs.length cap]] w fun e w' => e = .returned (.bool true) ∧ Below w.heap.size w w' := by
  have hlm : zs.length ≤ 9223372036854775807 := by obtain ⟨_, h1, h2, _⟩ := hs.cells; unfold maxLen at h2; omega
  by_cases hn : zs.length ≤ 1048576
  · have hl : zs.length ≤ 140737488355328 := by omega
    have hr' : ¬ szR 1048576 zs.length < 0 := by unfold szR; rw [if_neg (by omega)]; omega
    obtain ⟨T, hT⟩ : ∃ T, T = txtW ng zs := ⟨_, rfl⟩
    have CS := hid (fun p c w' h => wt_spec_all ng p c zs w' h hz hn)
    have CI := hid (fun p c w' h => wt_impl_all ng p c zs w' h hz hn)
    rw [← hT] at CS CI
    clear hT
    have hse := eqW_same ng zs
    go_enter Try.func8, Try.ntmps8
    go_wp2_with fail
    refine (szW_any ng a zs.length cap 1048576 _ hlm (by decide) (by decide)).mono ?_
    rintro e w1 ⟨rfl, hb1⟩
    have x1 := (Box.new w _ _ _).below hb1
    have hs1 := (hs.alloc _).below hb1
    obtain ⟨c10, c11⟩ := x1
    go_wp2_with fail
    refine (toW_any ng _ zs _ hs1 hn).mono ?_
    rintro e w2 ⟨a2, c2, rfl, ho2, hb2⟩
    have x2 := Box.below ⟨c10, c11⟩ hb2
    have hs2 := hs1.below hb2
    go_wp2_with fail
    refine (CS.out a2 c2 _ ho2.sl).mono ?_
    rintro e w3 ⟨rfl, hb3⟩
    have x3 := x2.below hb3
    have hs3 := hs2.below hb3
    obtain ⟨c30, c31⟩ := x3
    go_wp2_with fail
    refine (toW_any ng _ zs _ hs3 hn).mono ?_
    rintro e w4 ⟨a4, c4, rfl, ho4, hb4⟩
    have x4 := Box.below ⟨c30, c31⟩ hb4
    have hs4 := hs3.below hb4
    go_wp2_with fail
    refine (CI.out a4 c4 _ (ho4.alloc _).sl).mono ?_
    rintro e w5 ⟨rfl, hb5⟩
    have x5 := (x4.alloc _).below hb5
    have hs5 := (hs4.alloc _).below hb5
    have ho5 := (ho4.alloc _).below hb5
    have y5 := (Box.new _ _ _ _).below hb5
    obtain ⟨c50, c51⟩ := x5
    obtain ⟨d50, d51⟩ := y5
    go_wp2_with fail
    go_region_held3 (fun w' => w'.cell? ⟨w.heap.size, 0, none⟩ = some (.bool ng) ∧ w'.cell? ⟨w.heap.size, 1, none⟩ = some (.slice a zs.length cap) ∧ w'.cell? ⟨w4.heap.size, 0, none⟩ = some (.bool ng) ∧ w'.cell? ⟨w4.heap.size, 1, none⟩ = some (.slice a4 zs.length c4)) (first | assumption | (refine ⟨?_, ?_, ?_, ?_⟩ <;> assumption))
      (first
        | (go_at_call 41; refine (toW_any ng (.slice a zs.length cap) zs _ hs5.drew hn).mono ?_; rintro e w6 ⟨a6, c6, rfl, ho6, hb6⟩; have four := keep4 (w := w5.drew) c50 c51 d50 d51 hb6; have ho5' := (ho5.drew).below hb6)
        | (go_at_call 43; refine (eqW_any ng ng a4 a6 c4 c6 zs zs _ ho5'.sl ho6.sl hl).mono ?_; rintro e w7 ⟨rfl, hb7⟩; have f7 := keep4 four.1 four.2.1 four.2.2.1 four.2.2.2 hb7))
    go_wp2
    go_ret
    exact ⟨rfl, (by repeat (first | exact bz0 _ _ | refine bz1 ?_ | refine bz2 ?_ _ | refine bz3 ?_ _ | refine bz4 ?_ hb7 | refine bz4 ?_ hb6 | refine bz4 ?_ hb5 | refine bz4 ?_ hb4 | refine bz4 ?_ hb3 | refine bz4 ?_ hb2 | refine bz4 ?_ hb1 | refine bz5 ?_ _ | refine bz6 ?_ _ | refine bz7 ?_ hb7 | refine bz7 ?_ hb6 | refine bz7 ?_ hb5 | refine bz7 ?_ hb4 | refine bz7 ?_ hb3 | refine bz7 ?_ hb2 | refine bz7 ?_ hb1))⟩
  · have hr' : szR 1048576 zs.length < 0 := by unfold szR; rw [if_pos (by omega)]; decide
    go_enter Try.func8, Try.ntmps8
    go_wp2_with fail
    refine (szW_any ng a zs.length cap 1048576 _ hlm (by decide) (by decide)).mono ?_
    rintro e w1 ⟨rfl, hb1⟩
    go_wp2
    go_ret
    exact ⟨rfl, (by repeat (first | exact bz0 _ _ | refine bz1 ?_ | refine bz2 ?_ _ | refine bz3 ?_ _ | refine bz4 ?_ hb1 | refine bz5 ?_ _ | refine bz6 ?_ _ | refine bz7 ?_ hb1))⟩

end WTx
end Go.Proofs.Ytmnfidkpnogfmaa
