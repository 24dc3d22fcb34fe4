/-
  The library bits.Len32.
-/
import Derived.Test.YtbajfpcamlmenabDoorLawsB
import Derived.Laws.MathBits
namespace Go.Proofs.YtbajfpcamlmenabDoor
set_option linter.unusedVariables false
set_option linter.unusedSimpArgs false
open Go.RowKit Go.Deep
theorem wrap_small (t : Int) (h0 : 0 ≤ t) (h1 : t ≤ 1000) : wrap64 t = t := IntWalk.wrap64_in t ⟨by omega, by omega⟩
theorem bitLen_div (x : Int) (k : Nat) (h0 : 0 ≤ x) (hx : x / (2 ^ k : Nat) ≠ 0) : bitLen x.toNat = k + bitLen (x / (2 ^ k : Nat)).toNat := by
  obtain ⟨n, rfl⟩ := Int.eq_ofNat_of_zero_le h0
  have e : (((n : Int) / (2 ^ k : Nat)).toNat) = n / 2 ^ k := by rw [← Int.natCast_ediv]; exact Int.toNat_natCast _
  rw [e]
  simp only [Int.toNat_natCast]
  apply bitLen_shift
  intro h
  apply hx
  rw [← Int.natCast_ediv, h]; rfl
theorem wrap_two (c t : Int) (h0 : 0 ≤ c) (h1 : c ≤ 100) (t0 : 0 ≤ t) (t1 : t ≤ 8) : wrap64 (c + wrap64 t) = c + t := by rw [wrap_small t t0 (by omega), wrap_small _ (by omega) (by omega)]
theorem bl_le (i : Nat) (h : i < 256) : (bitLen i : Int) ≤ 8 := by have := bitLen_le8 i h; omega

end Go.Proofs.YtbajfpcamlmenabDoor
