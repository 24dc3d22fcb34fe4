/-
  What is needed of AccA, NumsG, IA, Facts.
-/
import Derived.Lib.TrailingZeros
import Derived.ProofKit
import Derived.Test.YtmcflggionkhlaaGreatDoorF12
set_option maxHeartbeats 16000000
set_option maxRecDepth 1000000
namespace Go.Proofs.YtmcflggionkhlaaGreatDoor
set_option linter.unusedVariables false
set_option linter.unusedSimpArgs false
open Go.RowKit Go.Deep
/-- A box of nine cells that may be written. -/
structure Q9 (w : World) (b : Nat) (v0 v1 v2 v3 v4 v5 v6 v7 v8 : Value) : Prop where
  c0 : w.cell? ⟨b, 0, none⟩ = some v0
  c1 : w.cell? ⟨b, 1, none⟩ = some v1
  c2 : w.cell? ⟨b, 2, none⟩ = some v2
  c3 : w.cell? ⟨b, 3, none⟩ = some v3
  c4 : w.cell? ⟨b, 4, none⟩ = some v4
  c5 : w.cell? ⟨b, 5, none⟩ = some v5
  c6 : w.cell? ⟨b, 6, none⟩ = some v6
  c7 : w.cell? ⟨b, 7, none⟩ = some v7
  c8 : w.cell? ⟨b, 8, none⟩ = some v8
  f0 : w.frozen? ⟨b, 0, none⟩ = false
  f1 : w.frozen? ⟨b, 1, none⟩ = false
  f2 : w.frozen? ⟨b, 2, none⟩ = false
  f3 : w.frozen? ⟨b, 3, none⟩ = false
  f4 : w.frozen? ⟨b, 4, none⟩ = false
  f5 : w.frozen? ⟨b, 5, none⟩ = false
  f6 : w.frozen? ⟨b, 6, none⟩ = false
  f7 : w.frozen? ⟨b, 7, none⟩ = false
  f8 : w.frozen? ⟨b, 8, none⟩ = false
theorem Q9.lt {w : World} {b : Nat} {v0 v1 v2 v3 v4 v5 v6 v7 v8 : Value} (h : Q9 w b v0 v1 v2 v3 v4 v5 v6 v7 v8) : b < w.heap.size := World.block_lt_of_cell? w _ h.c0
theorem Q9.cs {w : World} {b : Nat} {v0 v1 v2 v3 v4 v5 v6 v7 v8 : Value} (h : Q9 w b v0 v1 v2 v3 v4 v5 v6 v7 v8) : w.cell? ⟨b, 0, none⟩ = some v0 ∧ w.cell? ⟨b, 1, none⟩ = some v1 ∧ w.cell? ⟨b, 2, none⟩ = some v2 ∧ w.cell? ⟨b, 3, none⟩ = some v3 ∧ w.cell? ⟨b, 4, none⟩ = some v4 ∧ w.cell? ⟨b, 5, none⟩ = some v5 ∧ w.cell? ⟨b, 6, none⟩ = some v6 ∧ w.cell? ⟨b, 7, none⟩ = some v7 ∧ w.cell? ⟨b, 8, none⟩ = some v8 := ⟨h.c0, h.c1, h.c2, h.c3, h.c4, h.c5, h.c6, h.c7, h.c8⟩
theorem Q9.of_block {w w' : World} {b : Nat} {v0 v1 v2 v3 v4 v5 v6 v7 v8 : Value} (h : Q9 w b v0 v1 v2 v3 v4 v5 v6 v7 v8) (e : w'.heap[b]? = w.heap[b]?) : Q9 w' b v0 v1 v2 v3 v4 v5 v6 v7 v8 :=
  ⟨(World.cell?_of_block (a := ⟨b, 0, none⟩) e).trans h.c0, (World.cell?_of_block (a := ⟨b, 1, none⟩) e).trans h.c1, (World.cell?_of_block (a := ⟨b, 2, none⟩) e).trans h.c2, (World.cell?_of_block (a := ⟨b, 3, none⟩) e).trans h.c3, (World.cell?_of_block (a := ⟨b, 4, none⟩) e).trans h.c4, (World.cell?_of_block (a := ⟨b, 5, none⟩) e).trans h.c5, (World.cell?_of_block (a := ⟨b, 6, none⟩) e).trans h.c6, (World.cell?_of_block (a := ⟨b, 7, none⟩) e).trans h.c7, (World.cell?_of_block (a := ⟨b, 8, none⟩) e).trans h.c8, (World.frozen?_of_block (a := ⟨b, 0, none⟩) e).trans h.f0, (World.frozen?_of_block (a := ⟨b, 1, none⟩) e).trans h.f1, (World.frozen?_of_block (a := ⟨b, 2, none⟩) e).trans h.f2, (World.frozen?_of_block (a := ⟨b, 3, none⟩) e).trans h.f3, (World.frozen?_of_block (a := ⟨b, 4, none⟩) e).trans h.f4, (World.frozen?_of_block (a := ⟨b, 5, none⟩) e).trans h.f5, (World.frozen?_of_block (a := ⟨b, 6, none⟩) e).trans h.f6, (World.frozen?_of_block (a := ⟨b, 7, none⟩) e).trans h.f7, (World.frozen?_of_block (a := ⟨b, 8, none⟩) e).trans h.f8⟩
theorem Q9.below {w w' : World} {b : Nat} {v0 v1 v2 v3 v4 v5 v6 v7 v8 : Value} (h : Q9 w b v0 v1 v2 v3 v4 v5 v6 v7 v8) (hb : Below w.heap.size w w') : Q9 w' b v0 v1 v2 v3 v4 v5 v6 v7 v8 := h.of_block (hb.block b h.lt)
theorem Q9.new (w : World) (v0 v1 v2 v3 v4 v5 v6 v7 v8 : Value) (t : TypeId) : Q9 (w.alloc (.cells #[v0, v1, v2, v3, v4, v5, v6, v7, v8] t)) w.heap.size v0 v1 v2 v3 v4 v5 v6 v7 v8 := ⟨by simp, by simp, by simp, by simp, by simp, by simp, by simp, by simp, by simp, by simp, by simp, by simp, by simp, by simp, by simp, by simp, by simp, by simp⟩
theorem Q9.alloc {w : World} {b : Nat} {v0 v1 v2 v3 v4 v5 v6 v7 v8 : Value} (h : Q9 w b v0 v1 v2 v3 v4 v5 v6 v7 v8) (o : Obj) : Q9 (w.alloc o) b v0 v1 v2 v3 v4 v5 v6 v7 v8 := h.below ((Below.refl _ _).alloc (Nat.le_refl _) _)
theorem Q9.drew {w : World} {b : Nat} {v0 v1 v2 v3 v4 v5 v6 v7 v8 : Value} (h : Q9 w b v0 v1 v2 v3 v4 v5 v6 v7 v8) : Q9 w.drew b v0 v1 v2 v3 v4 v5 v6 v7 v8 := ⟨h.c0, h.c1, h.c2, h.c3, h.c4, h.c5, h.c6, h.c7, h.c8, h.f0, h.f1, h.f2, h.f3, h.f4, h.f5, h.f6, h.f7, h.f8⟩
theorem Q9.grown {w w' : World} {b : Nat} {v0 v1 v2 v3 v4 v5 v6 v7 v8 : Value} {row : Option Nat} (h : Q9 w b v0 v1 v2 v3 v4 v5 v6 v7 v8) (hg : w.grownBy w' row) (hne : ∀ g, row = some g → b ≠ g) : Q9 w' b v0 v1 v2 v3 v4 v5 v6 v7 v8 :=
  h.of_block (hg.block b h.lt (fun e => hne b e.symm rfl))
theorem Q9.other {w : World} {b : Nat} {v0 v1 v2 v3 v4 v5 v6 v7 v8 : Value} (h : Q9 w b v0 v1 v2 v3 v4 v5 v6 v7 v8) {p : Addr} (hp : b ≠ p.block) (u : Value) : Q9 (w.setCell p u) b v0 v1 v2 v3 v4 v5 v6 v7 v8 := h.of_block (Below.heap_setCell w p u b hp)
end Go.Proofs.YtmcflggionkhlaaGreatDoor
namespace Go.Proofs.YtmcflggionkhlaaGreatDoor
set_option linter.unusedVariables false
set_option linter.unusedSimpArgs false
namespace Nm
theorem rn_scale {a : Nat} (h : a ≠ 0) (P : Nat) (q e : Int) (d : Nat) : rn P q (a * 2 ^ d) (e - d) = rn P q a e + d := by
  unfold rn; rw [bl_mul h]; omega
theorem sh_scale (a d : Nat) (k : Int) : sh (a * 2 ^ d) (k - d) = sh a k := by
  unfold sh
  by_cases hk : k < 0
  · rw [if_pos (by omega), if_pos hk, show (-(k - (d : Int))).toNat = (-k).toNat + d by omega, Nat.pow_add, Nat.mul_div_mul_right _ _ (pw_pos2 d)]
  · rw [if_neg hk]
    by_cases hd : k - d < 0
    · rw [if_pos hd]
      have e : 2 ^ d = 2 ^ k.toNat * 2 ^ (-(k - (d : Int))).toNat := by rw [← Nat.pow_add]; congr 1; omega
      rw [e, ← Nat.mul_assoc, Nat.mul_div_cancel _ (pw_pos2 _)]
    · rw [if_neg hd, Nat.mul_assoc, ← Nat.pow_add]
      congr 2; omega
theorem rm_scale {a : Nat} (h : a ≠ 0) (P : Nat) (q e : Int) (d : Nat) : rm P q (a * 2 ^ d) (e - d) = rm P q a e := by
  unfold rm; rw [rn_scale h, show -(rn P q a e + d) = -rn P q a e - d by omega, sh_scale]
theorem rr_scale {a : Nat} (h : a ≠ 0) (P : Nat) (q e : Int) (d : Nat) : rr P q (a * 2 ^ d) (e - d) = rr P q a e * 2 ^ d := by
  unfold rr; rw [rn_scale h]
  by_cases hr : 0 ≤ rn P q a e
  · rw [show (rn P q a e + d).toNat = (rn P q a e).toNat + d by omega, Nat.pow_add, Nat.mul_mod_mul_right]
  · rw [show (rn P q a e).toNat = 0 by omega, Nat.pow_zero, Nat.mod_one, Nat.zero_mul]
    exact Nat.mod_eq_zero_of_dvd (Nat.dvd_trans (Nat.pow_dvd_pow 2 (show (rn P q a e + d).toNat ≤ d by omega)) (Nat.dvd_mul_left _ _))
theorem rh_scale {a : Nat} (h : a ≠ 0) (P : Nat) (q e : Int) (d : Nat) (hr : rr P q a e ≠ 0) : rh P q (a * 2 ^ d) (e - d) = rh P q a e := by
  have h1 := rr_pos hr
  unfold rh
  rw [rr_scale h, rn_scale h, show (rn P q a e + d).toNat = (rn P q a e).toNat + d by omega, Nat.pow_add, ← Nat.mul_assoc, cmp2_mul]
theorem rr_scale0 {a : Nat} (h : a ≠ 0) (P : Nat) (q e : Int) (d : Nat) : rr P q (a * 2 ^ d) (e - d) = 0 ↔ rr P q a e = 0 := by
  rw [rr_scale h]
  constructor
  · intro h0
    rcases Nat.mul_eq_zero.1 h0 with h1 | h1
    · exact h1
    · have := pw_pos2 d; omega
  · intro h0; rw [h0, Nat.zero_mul]
theorem rU_scale {a : Nat} (h : a ≠ 0) (P : Nat) (q e : Int) (d : Nat) (up up' : Bool) (hu : rr P q a e ≠ 0 → up = up') : rU P q (a * 2 ^ d) (e - d) up = rU P q a e up' := by
  unfold rU r1
  rw [rn_scale h, rm_scale h, show rn P q a e + (d : Int) + (e - d) - q = rn P q a e + e - q by omega]
  by_cases h0 : rr P q a e = 0
  · rw [if_neg (fun c => c.1 ((rr_scale0 h P q e d).2 h0)), if_neg (fun c => c.1 h0)]
  · rw [hu h0]
    congr 1
    by_cases hup : up' = true
    · rw [if_pos ⟨fun e' => h0 ((rr_scale0 h P q e d).1 e'), hup⟩, if_pos ⟨h0, hup⟩]
    · rw [if_neg (fun c => hup c.2), if_neg (fun c => hup c.2)]
end Nm
open Go.RowKit Go.Deep
/-- A table of bytes in the block g. -/
def Tb (w : World) (g : Nat) (zs : List Nat) : Prop := ∀ i, i < zs.length → w.cell? ⟨g, i, none⟩ = some (.int .u8 ((zs.getD i 0 : Nat) : Int))
theorem Tb.below {w w' : World} {g : Nat} {zs : List Nat} (h : Tb w g zs) (hp : 0 < zs.length) (hb : Below w.heap.size w w') : Tb w' g zs := fun i hi =>
  (hb.cell (p := ⟨g, i, none⟩) (World.block_lt_of_cell? w ⟨g, i, none⟩ (h i hi))).trans (h i hi)
theorem nat_div_cast (a d n f : Nat) : (a : Int) * (d : Int) % (n : Int) / (f : Int) = ((a * d % n / f : Nat) : Int) := by simp
theorem ctz_tz (n x : Nat) (h0 : x ≠ 0) (h : x < 2 ^ n) : Lib.ctz n x = Nm.tz x := by
  obtain ⟨m, hm, hk⟩ := Lib.ctzFrom_spec n x (by omega) h
  have e : Lib.ctz n x = Lib.ctzFrom n x := by simp [Lib.ctz, h0]
  rw [e]
  generalize Lib.ctzFrom n x = t at *
  rw [hm, Nat.mul_comm]
  exact (Nm.tz_mul (by omega) t).symm
theorem low_32 (x : Int) (h0 : 0 < x) (h1 : x < 4294967296) : bits .and .u32 x (4294967296 - x) = ((2 ^ Nm.tz x.toNat : Nat) : Int) ∧ Nm.tz x.toNat < 32 := by
  have hx : x.toNat < 2 ^ 32 := by omega
  have h := Lib.lowest_bit 32 x.toNat (by omega) hx
  rw [ctz_tz 32 x.toNat (by omega) hx] at h
  refine ⟨?_, h.2⟩
  rw [← h.1]
  obtain ⟨n, rfl⟩ := Int.eq_ofNat_of_zero_le (show 0 ≤ x by omega)
  have hn := u32_and_nat n (4294967296 - n) (by omega) (by omega)
  rw [show ((4294967296 - n : Nat) : Int) = 4294967296 - (n : Int) by omega] at hn
  rw [hn]
  simp
/-- The table's index, and what stands there. -/
theorem tab_32 (x : Int) (h0 : 0 < x) (h1 : x < 4294967296) : ∃ j : Nat, ((2 ^ Nm.tz x.toNat : Nat) : Int) * 125613361 % 4294967296 / 134217728 = (j : Int) ∧ j < 32 ∧ Lib.deBruijn32tab.getD j 0 = Nm.tz x.toNat := by
  have ht := (low_32 x h0 h1).2
  have h := Lib.deBruijn32_at _ ht
  exact ⟨_, nat_div_cast _ _ _ _, h.1, h.2⟩
theorem tz_32 (x : Int) (w : World) (hT : Tb w 3 Lib.deBruijn32tab) (h0 : 0 < x) (h1 : x < 4294967296) :
    Calls Tryz.prog 227 #[.int .u32 x] w fun e w' => e = .returned (.int .i64 (Nm.tz x.toNat : Nat)) ∧ w' = w := by
  have hneg : IntKind.u32.wrap (-x) = 4294967296 - x := by rw [IntKind.wrap_u32]; omega
  have hl := low_32 x h0 h1
  obtain ⟨j, hj, hjk, hjt⟩ := tab_32 x h0 h1
  obtain ⟨p, hp⟩ : ∃ p : Int, p = ((2 ^ Nm.tz x.toNat : Nat) : Int) := ⟨_, rfl⟩
  rw [← hp] at hj
  have hj2 : IntKind.u32.wrap (p * 125613361) / 134217728 = (j : Int) := by rw [IntKind.wrap_u32]; exact hj
  have hand : bits .and .u32 x (4294967296 - x) = p := by rw [hp]; exact hl.1
  have hc := hT j (by have : Lib.deBruijn32tab.length = 32 := by decide
                      omega)
  rw [hjt] at hc
  have hx0 : (x == 0) = false := by rw [beq_eq_false_iff_ne]; omega
  have hp0 : 0 ≤ p := by rw [hp]; exact Int.natCast_nonneg _
  have HWR : Hid (wrap64 ((Nm.tz x.toNat : Nat) : Int) = ((Nm.tz x.toNat : Nat) : Int)) := hid (wrap_small _ (by omega) (by have := hl.2; omega))
  clear hp hjt hT hl
  go_enter Tryz.func227, Tryz.ntmps227
  go_wp2
  go_ret
  exact ⟨ret_int HWR.out, rfl⟩
theorem low_64 (x : Int) (h0 : 0 < x) (h1 : x < 18446744073709551616) : bits .and .u64 x (18446744073709551616 - x) = ((2 ^ Nm.tz x.toNat : Nat) : Int) ∧ Nm.tz x.toNat < 64 := by
  have hx : x.toNat < 2 ^ 64 := by omega
  have h := Lib.lowest_bit 64 x.toNat (by omega) hx
  rw [ctz_tz 64 x.toNat (by omega) hx] at h
  refine ⟨?_, h.2⟩
  rw [← h.1]
  obtain ⟨n, rfl⟩ := Int.eq_ofNat_of_zero_le (show 0 ≤ x by omega)
  have hn := u64_and_nat n (18446744073709551616 - n) (by omega) (by omega)
  rw [show ((18446744073709551616 - n : Nat) : Int) = 18446744073709551616 - (n : Int) by omega] at hn
  rw [hn]
  simp
/-- The table's index, and what stands there. -/
theorem tab_64 (x : Int) (h0 : 0 < x) (h1 : x < 18446744073709551616) : ∃ j : Nat, ((2 ^ Nm.tz x.toNat : Nat) : Int) * 285870213051353865 % 18446744073709551616 / 288230376151711744 = (j : Int) ∧ j < 64 ∧ Lib.deBruijn64tab.getD j 0 = Nm.tz x.toNat := by
  have ht := (low_64 x h0 h1).2
  have h := Lib.deBruijn64_at _ ht
  exact ⟨_, nat_div_cast _ _ _ _, h.1, h.2⟩
theorem tz_64 (x : Int) (w : World) (hT : Tb w 4 Lib.deBruijn64tab) (h0 : 0 < x) (h1 : x < 18446744073709551616) :
    Calls Tryz.prog 228 #[.int .u64 x] w fun e w' => e = .returned (.int .i64 (Nm.tz x.toNat : Nat)) ∧ w' = w := by
  have hneg : IntKind.u64.wrap (-x) = 18446744073709551616 - x := by rw [IntKind.wrap_u64]; omega
  have hl := low_64 x h0 h1
  obtain ⟨j, hj, hjk, hjt⟩ := tab_64 x h0 h1
  obtain ⟨p, hp⟩ : ∃ p : Int, p = ((2 ^ Nm.tz x.toNat : Nat) : Int) := ⟨_, rfl⟩
  rw [← hp] at hj
  have hj2 : IntKind.u64.wrap (p * 285870213051353865) / 288230376151711744 = (j : Int) := by rw [IntKind.wrap_u64]; exact hj
  have hand : bits .and .u64 x (18446744073709551616 - x) = p := by rw [hp]; exact hl.1
  have hc := hT j (by have : Lib.deBruijn64tab.length = 64 := by decide
                      omega)
  rw [hjt] at hc
  have hx0 : (x == 0) = false := by rw [beq_eq_false_iff_ne]; omega
  have hp0 : 0 ≤ p := by rw [hp]; exact Int.natCast_nonneg _
  have HWR : Hid (wrap64 ((Nm.tz x.toNat : Nat) : Int) = ((Nm.tz x.toNat : Nat) : Int)) := hid (wrap_small _ (by omega) (by have := hl.2; omega))
  clear hp hjt hT hl
  go_enter Tryz.func228, Tryz.ntmps228
  go_wp2
  go_ret
  exact ⟨ret_int HWR.out, rfl⟩
theorem len64_any (x : Int) (w : World) (h0 : 0 ≤ x) (h1 : x < 18446744073709551616) :
    Calls Tryz.prog 229 #[.int .u64 x] w fun e w' => e = .returned (.int .i64 (bitLen x.toNat : Nat)) ∧ w' = w := by
  by_cases c32 : 4294967296 ≤ x
  · by_cases c16 : 65536 ≤ x / 4294967296
    · by_cases c8 : 256 ≤ x / 4294967296 / 65536
      · have HB : Hid ((bitLen x.toNat : Int) = 56 + bitLen (x / 4294967296 / 65536 / 256).toNat) := hid (by
          have h := bitLen_div x 56 h0 (by simp; omega)
          rw [h, show (x / ((2 ^ 56 : Nat) : Int)) = x / 4294967296 / 65536 / 256 by first | (simp; done) | (simp; omega)]; simp)
        have HL := hid (bl_le (x / 4294967296 / 65536 / 256).toNat (by omega))
        go_enter Tryz.func229, Tryz.ntmps229
        go_wp2
        go_ret
        refine ⟨ret_int ?_, rfl⟩
        simp only [len8tab_get]
        rw [wrap_two _ _ (by decide) (by decide) (by omega) HL.out, HB.out]
      · have HB : Hid ((bitLen x.toNat : Int) = 48 + bitLen (x / 4294967296 / 65536).toNat) := hid (by
          have h := bitLen_div x 48 h0 (by simp; omega)
          rw [h, show (x / ((2 ^ 48 : Nat) : Int)) = x / 4294967296 / 65536 by first | (simp; done) | (simp; omega)]; simp)
        have HL := hid (bl_le (x / 4294967296 / 65536).toNat (by omega))
        go_enter Tryz.func229, Tryz.ntmps229
        go_wp2
        go_ret
        refine ⟨ret_int ?_, rfl⟩
        simp only [len8tab_get]
        rw [wrap_two _ _ (by decide) (by decide) (by omega) HL.out, HB.out]
    · by_cases c8 : 256 ≤ x / 4294967296
      · have HB : Hid ((bitLen x.toNat : Int) = 40 + bitLen (x / 4294967296 / 256).toNat) := hid (by
          have h := bitLen_div x 40 h0 (by simp; omega)
          rw [h, show (x / ((2 ^ 40 : Nat) : Int)) = x / 4294967296 / 256 by first | (simp; done) | (simp; omega)]; simp)
        have HL := hid (bl_le (x / 4294967296 / 256).toNat (by omega))
        go_enter Tryz.func229, Tryz.ntmps229
        go_wp2
        go_ret
        refine ⟨ret_int ?_, rfl⟩
        simp only [len8tab_get]
        rw [wrap_two _ _ (by decide) (by decide) (by omega) HL.out, HB.out]
      · have HB : Hid ((bitLen x.toNat : Int) = 32 + bitLen (x / 4294967296).toNat) := hid (by
          have h := bitLen_div x 32 h0 (by simp; omega)
          rw [h, show (x / ((2 ^ 32 : Nat) : Int)) = x / 4294967296 by first | (simp; done) | (simp; omega)]; simp)
        have HL := hid (bl_le (x / 4294967296).toNat (by omega))
        go_enter Tryz.func229, Tryz.ntmps229
        go_wp2
        go_ret
        refine ⟨ret_int ?_, rfl⟩
        simp only [len8tab_get]
        rw [wrap_two _ _ (by decide) (by decide) (by omega) HL.out, HB.out]
  · by_cases c16 : 65536 ≤ x
    · by_cases c8 : 256 ≤ x / 65536
      · have HB : Hid ((bitLen x.toNat : Int) = 24 + bitLen (x / 65536 / 256).toNat) := hid (by
          have h := bitLen_div x 24 h0 (by simp; omega)
          rw [h, show (x / ((2 ^ 24 : Nat) : Int)) = x / 65536 / 256 by first | (simp; done) | (simp; omega)]; simp)
        have HL := hid (bl_le (x / 65536 / 256).toNat (by omega))
        go_enter Tryz.func229, Tryz.ntmps229
        go_wp2
        go_ret
        refine ⟨ret_int ?_, rfl⟩
        simp only [len8tab_get]
        rw [wrap_two _ _ (by decide) (by decide) (by omega) HL.out, HB.out]
      · have HB : Hid ((bitLen x.toNat : Int) = 16 + bitLen (x / 65536).toNat) := hid (by
          have h := bitLen_div x 16 h0 (by simp; omega)
          rw [h, show (x / ((2 ^ 16 : Nat) : Int)) = x / 65536 by first | (simp; done) | (simp; omega)]; simp)
        have HL := hid (bl_le (x / 65536).toNat (by omega))
        go_enter Tryz.func229, Tryz.ntmps229
        go_wp2
        go_ret
        refine ⟨ret_int ?_, rfl⟩
        simp only [len8tab_get]
        rw [wrap_two _ _ (by decide) (by decide) (by omega) HL.out, HB.out]
    · by_cases c8 : 256 ≤ x
      · have HB : Hid ((bitLen x.toNat : Int) = 8 + bitLen (x / 256).toNat) := hid (by
          have h := bitLen_div x 8 h0 (by simp; omega)
          rw [h, show (x / ((2 ^ 8 : Nat) : Int)) = x / 256 by first | (simp; done) | (simp; omega)]; simp)
        have HL := hid (bl_le (x / 256).toNat (by omega))
        go_enter Tryz.func229, Tryz.ntmps229
        go_wp2
        go_ret
        refine ⟨ret_int ?_, rfl⟩
        simp only [len8tab_get]
        rw [wrap_two _ _ (by decide) (by decide) (by omega) HL.out, HB.out]
      · have HL := hid (bl_le x.toNat (by omega))
        go_enter Tryz.func229, Tryz.ntmps229
        go_wp2
        go_ret
        refine ⟨ret_int ?_, rfl⟩
        simp only [len8tab_get]
        have h8 := HL.out
        rw [wrap_small (wrap64 _) (by rw [wrap_small _ (by omega) (by omega)]; omega) (by rw [wrap_small _ (by omega) (by omega)]; omega), wrap_small _ (by omega) (by omega)]
end Go.Proofs.YtmcflggionkhlaaGreatDoor
namespace Go.Proofs.YtmcflggionkhlaaGreatDoor
namespace Fc
theorem own : ownKnob Tryz.prog.godebug = none := by kernel_rfl
theorem laidOut : laidOutB Tryz.prog = true := by kernel_rfl
theorem mapsRowed : Go.mapsRowed Tryz.prog = true := by kernel_rfl
theorem heard : Tryz.prog.stopsHeard = true := by kernel_rfl
theorem enter : Tryz.prog.mayEnter = true := by kernel_rfl
theorem lifts : (Rows.fnNearSubRow.lifted == Tryz.prog.liftsFinal) = true := by kernel_rfl
theorem lifts_of (l : _) (h : l = Rows.fnNearSubRow.lifted) : (l == Tryz.prog.liftsFinal) = true := by
  rw [h]; exact lifts
end Fc
end Go.Proofs.YtmcflggionkhlaaGreatDoor
