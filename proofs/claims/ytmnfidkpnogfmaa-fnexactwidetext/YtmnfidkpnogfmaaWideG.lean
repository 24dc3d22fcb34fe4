/-
  How many bits a wide has, by the program and by the specification.
-/
import Derived.Test.YtmnfidkpnogfmaaWideF
namespace Go.Proofs.Ytmnfidkpnogfmaa
set_option linter.unusedVariables false
set_option linter.unusedSimpArgs false
open Go.RowKit Go.Deep
/-- How many bits limbs are written with. -/
def blL (zs : List Int) : Int := if zs.length = 0 then 0 else 32 * ((zs.length : Int) - 1) + bitLen (zs.getD (zs.length - 1) 0).toNat
def blW (ng : Bool) (zs : List Int) : Int := if okB ng zs then blL zs else -1
theorem bitLen_le32 (z : Int) (h0 : 0 ≤ z) (h1 : z < 4294967296) : (bitLen z.toNat : Int) ≤ 32 := by
  have h := bitLen_spec z.toNat
  unfold bitLen
  split
  · omega
  · rename_i hz
    have := (Nat.log2_lt hz).2 (show z.toNat < 2 ^ 32 by omega)
    omega

set_option maxHeartbeats 2000000 in
theorem bl_impl (ng : Bool) (a : Option Addr) (cap : Nat) (zs : List Int) (w : World) (hs : Sl .u32 w (.slice a zs.length cap) zs) (hz : Nm.Dg zs) (hl : zs.length ≤ 1048576) :
    Calls Try.prog 95 #[.agg #[.bool ng, .slice a zs.length cap]] w fun e w' => e = .returned (.int .i64 (blW ng zs)) ∧ Below w.heap.size w w' := by
  have hl' : zs.length ≤ 140737488355328 := by omega
  cases h1 : okB ng zs
  · have HR : Hid (blW ng zs = -1) := hid (by unfold blW; rw [h1]; rfl)
    go_enter Try.func95, Try.ntmps95
    go_wp2_with fail
    refine (ok_impl ng a cap zs _ (hs.alloc _) hl').mono ?_
    rintro e w1 ⟨rfl, hb1⟩
    go_wp2
    go_ret
    exact ⟨ret_int HR.out.symm, (by repeat (first | exact bz0 _ _ | refine bz1 ?_ | refine bz2 ?_ _ | refine bz3 ?_ _ | refine bz4 ?_ hb1 | refine bz5 ?_ _ | refine bz6 ?_ _ | refine bz7 ?_ hb1))⟩
  have HW : Hid (blW ng zs = blL zs) := hid (by unfold blW; rw [h1]; rfl)
  by_cases h0 : zs.length = 0
  · have HR : Hid (blW ng zs = 0) := hid (by rw [HW.out]; unfold blL; rw [if_pos h0])
    have hb0 : ((zs.length : Int) == 0) = true := by rw [beq_iff_eq]; omega
    clear h0
    go_enter Try.func95, Try.ntmps95
    go_wp2_with fail
    refine (ok_impl ng a cap zs _ (hs.alloc _) hl').mono ?_
    rintro e w1 ⟨rfl, hb1⟩
    obtain ⟨x10, x11⟩ := (Box.new w (.bool ng) (.slice a zs.length cap) 65).below hb1
    go_wp2
    go_ret
    exact ⟨ret_int HR.out.symm, (by repeat (first | exact bz0 _ _ | refine bz1 ?_ | refine bz2 ?_ _ | refine bz3 ?_ _ | refine bz4 ?_ hb1 | refine bz5 ?_ _ | refine bz6 ?_ _ | refine bz7 ?_ hb1))⟩
  · have hb0 : ((zs.length : Int) == 0) = false := by rw [beq_eq_false_iff_ne]; omega
    obtain ⟨z, hzk⟩ : ∃ z, z = zs.getD (zs.length - 1) 0 := ⟨_, rfl⟩
    have HR : Hid (blW ng zs = 32 * ((zs.length : Int) - 1) + bitLen z.toNat) := hid (by rw [HW.out]; unfold blL; rw [if_neg h0, hzk])
    have hd := hz.getD (zs.length - 1)
    have hb32 := bitLen_le32 z (by rw [hzk]; exact hd.1) (by rw [hzk]; exact hd.2)
    rw [← hzk] at hd
    have HZ := hid hzk
    clear hzk
    go_enter Try.func95, Try.ntmps95
    go_wp2_with fail
    refine (ok_impl ng a cap zs _ (hs.alloc _) hl').mono ?_
    rintro e w1 ⟨rfl, hb1⟩
    obtain ⟨x10, x11⟩ := (Box.new w (.bool ng) (.slice a zs.length cap) 65).below hb1
    have s1 := (hs.alloc _).below hb1
    obtain ⟨-, _, _, hc3⟩ := s1.cells
    obtain ⟨b, off, rfl, hcell⟩ := hc3 (by omega)
    have hc := hcell (zs.length - 1) (by omega)
    rw [← HZ.out] at hc
    clear hcell hc3
    go_wp2_with fail
    refine (len32_any z _ hd.1 hd.2).mono ?_
    rintro e w2 ⟨rfl, rfl⟩
    go_wp2
    go_ret
    exact ⟨ret_int HR.out.symm, (by repeat (first | exact bz0 _ _ | refine bz1 ?_ | refine bz2 ?_ _ | refine bz3 ?_ _ | refine bz4 ?_ hb1 | refine bz5 ?_ _ | refine bz6 ?_ _ | refine bz7 ?_ hb1))⟩

theorem bl_half (z : Int) (h0 : 0 < z) : bitLen z.toNat = 1 + bitLen (z / 2).toNat := by
  by_cases h1 : z = 1
  · subst h1; decide
  · have := bitLen_div z 1 (by omega) (by simp; omega)
    simpa using this

set_option maxHeartbeats 2000000 in
theorem l1Bits_any (ng : Bool) (a : Option Addr) (cap : Nat) (zs : List Int) (w : World) (hs : Sl .u32 w (.slice a zs.length cap) zs) (hz : Nm.Dg zs) (hl : zs.length ≤ 1048576) :
    Calls Try.prog 93 #[.agg #[.bool ng, .slice a zs.length cap]] w fun e w' => e = .returned (.int .i64 (blL zs)) ∧ Below w.heap.size w w' := by
  by_cases h0 : zs.length = 0
  · have HR : Hid (blL zs = 0) := hid (by unfold blL; rw [if_pos h0])
    have hb0 : ((zs.length : Int) == 0) = true := by rw [beq_iff_eq]; omega
    clear h0
    go_enter Try.func93, Try.ntmps93
    go_wp2
    go_ret
    exact ⟨ret_int HR.out.symm, (by repeat (first | exact bz0 _ _ | refine bz1 ?_ | refine bz2 ?_ _ | refine bz3 ?_ _ | refine bz5 ?_ _ | refine bz6 ?_ _))⟩
  · have hb0 : ((zs.length : Int) == 0) = false := by rw [beq_eq_false_iff_ne]; omega
    obtain ⟨z, hzk⟩ : ∃ z, z = zs.getD (zs.length - 1) 0 := ⟨_, rfl⟩
    have HR : Hid (blL zs = 32 * ((zs.length : Int) - 1) + bitLen z.toNat) := hid (by unfold blL; rw [if_neg h0, hzk])
    have hd := hz.getD (zs.length - 1)
    have hb32 := bitLen_le32 z (by rw [hzk]; exact hd.1) (by rw [hzk]; exact hd.2)
    rw [← hzk] at hd
    obtain ⟨hd0, hd1⟩ := hd
    have hs' := hs.alloc (.cells #[.bool ng, .slice a zs.length cap] 65)
    obtain ⟨-, _, _, hc3⟩ := hs.cells
    obtain ⟨b, off, rfl, hcell⟩ := hc3 (by omega)
    have hc := hcell (zs.length - 1) (by omega)
    have hlt := World.block_lt_of_cell? w _ hc
    rw [← hzk] at hc
    have HB := hid hb32
    clear hzk hcell hc3 hs' hb32
    go_enter Try.func93, Try.ntmps93
    go_wp2_with fail
    go_loop [4, 5] (fun k x => ∃ kk q : Int, k = .int .i64 kk ∧ x = .int .u32 q ∧ 0 ≤ q ∧ q < 4294967296 ∧ 0 ≤ kk ∧ kk + bitLen q.toNat = 32 * ((zs.length : Int) - 1) + bitLen z.toNat) (fun _ x => (intOf x).toNat)
    case atStart => exact ⟨_, z, rfl, rfl, hd0, hd1, by omega, rfl⟩
    case round =>
      obtain ⟨kk, q, rfl, rfl, hq0, hq1, hk0, hrel⟩ := hrel
      have hkb : kk ≤ 33554464 := by have := HB.out; omega
      have REL := hid hrel
      clear hrel
      by_cases hq : 0 < q
      · have HH := hid (bl_half q hq)
        go_wp2
        go_round
        case rel => exact ⟨kk + 1, q / 2, rfl, rfl, by omega, by omega, by omega, by have := REL.out; have h2 := HH.out; omega⟩
        case measure => simp [intOf]; omega
      · have hq' : q = 0 := by omega
        have HF : Hid (blL zs = kk) := hid (by rw [HR.out]; have h := REL.out; rw [hq', show bitLen (0 : Int).toNat = 0 by decide] at h; omega)
        clear hq'
        go_wp2
        go_ret
        exact ⟨ret_int HF.out.symm, (by repeat (first | exact bz0 _ _ | refine bz1 ?_ | refine bz2 ?_ _ | refine bz3 ?_ _ | refine bz5 ?_ _ | refine bz6 ?_ _))⟩

end Go.Proofs.Ytmnfidkpnogfmaa
