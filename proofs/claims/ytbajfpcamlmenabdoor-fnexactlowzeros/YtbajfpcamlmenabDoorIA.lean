/-
  How often a number of 32 or 64 bits can be halved, how many bits one of 64 has, by Go's package bits.
-/
import Derived.Test.YtbajfpcamlmenabDoorBase
import Derived.Test.YtbajfpcamlmenabDoorRows
import Derived.Test.YtbajfpcamlmenabDoorRndB
import Derived.Test.YtbajfpcamlmenabDoorWideF
import Derived.Lib.TrailingZeros
namespace Go.Proofs.YtbajfpcamlmenabDoor
set_option linter.unusedVariables false
set_option linter.unusedSimpArgs false
open Go.RowKit Go.Deep
/-- A table of bytes in the block g. -/
def Tb (w : World) (g : Nat) (zs : List Nat) : Prop := ∀ i, i < zs.length → w.cell? ⟨g, i, none⟩ = some (.int .u8 ((zs.getD i 0 : Nat) : Int))
theorem Tb.below {w w' : World} {g : Nat} {zs : List Nat} (h : Tb w g zs) (hp : 0 < zs.length) (hb : Below w.heap.size w w') : Tb w' g zs := fun i hi =>
  (hb.cell (p := ⟨g, i, none⟩) (World.block_lt_of_cell? w ⟨g, i, none⟩ (h i hi))).trans (h i hi)
theorem nat_div_cast (a d n f : Nat) : (a : Int) * (d : Int) % (n : Int) / (f : Int) = ((a * d % n / f : Nat) : Int) := by simp
theorem ctz_tz (n x : Nat) (h0 : x ≠ 0) (h : x < 2 ^ n) : Lib.ctz n x = Nm.tz x := by
  obtain ⟨m, hm, hk⟩ := Lib.ctzFrom_spec n x (by omega) h
  have e : Lib.ctz n x = Lib.ctzFrom n x := by simp [Lib.ctz, h0]
  rw [e]
  generalize Lib.ctzFrom n x = t at *
  rw [hm, Nat.mul_comm]
  exact (Nm.tz_mul (by omega) t).symm
theorem low_32 (x : Int) (h0 : 0 < x) (h1 : x < 4294967296) : bits .and .u32 x (4294967296 - x) = ((2 ^ Nm.tz x.toNat : Nat) : Int) ∧ Nm.tz x.toNat < 32 := by
  have hx : x.toNat < 2 ^ 32 := by omega
  have h := Lib.lowest_bit 32 x.toNat (by omega) hx
  rw [ctz_tz 32 x.toNat (by omega) hx] at h
  refine ⟨?_, h.2⟩
  rw [← h.1]
  obtain ⟨n, rfl⟩ := Int.eq_ofNat_of_zero_le (show 0 ≤ x by omega)
  have hn := u32_and_nat n (4294967296 - n) (by omega) (by omega)
  rw [show ((4294967296 - n : Nat) : Int) = 4294967296 - (n : Int) by omega] at hn
  rw [hn]
  simp
/-- The table's index, and what stands there. -/
theorem tab_32 (x : Int) (h0 : 0 < x) (h1 : x < 4294967296) : ∃ j : Nat, ((2 ^ Nm.tz x.toNat : Nat) : Int) * 125613361 % 4294967296 / 134217728 = (j : Int) ∧ j < 32 ∧ Lib.deBruijn32tab.getD j 0 = Nm.tz x.toNat := by
  have ht := (low_32 x h0 h1).2
  have h := Lib.deBruijn32_at _ ht
  exact ⟨_, nat_div_cast _ _ _ _, h.1, h.2⟩
set_option maxHeartbeats 1000000 in
theorem tz_32 (x : Int) (w : World) (hT : Tb w 0 Lib.deBruijn32tab) (h0 : 0 < x) (h1 : x < 4294967296) :
    Calls Tryd.prog 13 #[.int .u32 x] w fun e w' => e = .returned (.int .i64 (Nm.tz x.toNat : Nat)) ∧ w' = w := by
  have hneg : IntKind.u32.wrap (-x) = 4294967296 - x := by rw [IntKind.wrap_u32]; omega
  have hl := low_32 x h0 h1
  obtain ⟨j, hj, hjk, hjt⟩ := tab_32 x h0 h1
  obtain ⟨p, hp⟩ : ∃ p : Int, p = ((2 ^ Nm.tz x.toNat : Nat) : Int) := ⟨_, rfl⟩
  rw [← hp] at hj
  have hj2 : IntKind.u32.wrap (p * 125613361) / 134217728 = (j : Int) := by rw [IntKind.wrap_u32]; exact hj
  have hand : bits .and .u32 x (4294967296 - x) = p := by rw [hp]; exact hl.1
  have hc := hT j (by have : Lib.deBruijn32tab.length = 32 := by decide
                      omega)
  rw [hjt] at hc
  have hx0 : (x == 0) = false := by rw [beq_eq_false_iff_ne]; omega
  have hp0 : 0 ≤ p := by rw [hp]; exact Int.natCast_nonneg _
  have HWR : Hid (wrap64 ((Nm.tz x.toNat : Nat) : Int) = ((Nm.tz x.toNat : Nat) : Int)) := hid (wrap_small _ (by omega) (by have := hl.2; omega))
  clear hp hjt hT hl
  go_enter Tryd.func13, Tryd.ntmps13
  go_wp2
  go_ret
  exact ⟨ret_int HWR.out, rfl⟩
end Go.Proofs.YtbajfpcamlmenabDoor
