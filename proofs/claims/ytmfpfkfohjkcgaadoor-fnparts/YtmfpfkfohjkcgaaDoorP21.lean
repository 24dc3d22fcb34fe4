/-
  What is needed of Mini, IA, ITs.
-/
import Derived.Lib.SmallJoins
import Derived.Lib.TrailingZeros
import Derived.Test.YtmfpfkfohjkcgaaDoorP13
import Derived.Test.YtmfpfkfohjkcgaaDoorP18
set_option maxHeartbeats 16000000
set_option maxRecDepth 1000000
namespace Go.Proofs.YtmfpfkfohjkcgaaDoor
set_option linter.unusedVariables false
set_option linter.unusedSimpArgs false
open Go.RowKit Go.Deep
theorem Ls {α : Type} : (∀ (xs : List α) (i : Nat) (v : α), xs.toArray.setIfInBounds i v = (xs.set i v).toArray) ∧ (∀ (a b : α) (xs : List α), (a :: xs).set 0 b = b :: xs) ∧ (∀ (a b : α) (i : Nat) (xs : List α), (a :: xs).set (i + 1) b = a :: xs.set i b) ∧ (∀ (xs : List α) (i : Nat) (h : i < xs.toArray.size), xs.toArray[i]'h = xs[i]'(by simpa using h)) ∧ (∀ (a : α) (xs : List α) (h : 0 < (a :: xs).length), (a :: xs)[0]'h = a) ∧ (∀ (a : α) (xs : List α) (i : Nat) (h : i + 1 < (a :: xs).length), (a :: xs)[i + 1]'h = xs[i]'(Nat.lt_of_succ_lt_succ h)) :=
  ⟨fun _ _ _ => by simp, fun _ _ _ => rfl, fun _ _ _ _ => rfl, fun _ _ _ => rfl, fun _ _ _ => rfl, fun _ _ _ _ => rfl⟩
theorem tk {P : Program} {ops : Array Oper} {Q : Exit → Act → World → Prop} {md : Region.Mode} {S : World → Prop} (i : Nat) {oi : Oper} (v : Value) {fuel : Nat} {listed : Array Bool} {a : Act} {w : World} (h1 : ops[i]? = some oi) (h4 : YieldsIf P ops S oi v a) (h6 : wpAnyH P md ops Q S fuel (listed.setIfInBounds i true) (a.put oi.dst v) w) (h2 : (Region.noSelect ops && Region.free md ops listed i && (Region.ready md ops listed).contains i) = true := by kernel_rfl) (h3 : ∀ (c : List PanicEntry) (a : Act) (w : World), Q (Exit.panic c) (a.put oi.dst v) w → Q (Exit.panic c) a w := by exact fun _ _ _ h => h) (h5 : S w := by assumption) : wpAnyH P md ops Q S (fuel + 1) listed a w := by
  simp only [Bool.and_eq_true] at h2
  exact wpAnyH_take h1 h2.1.1 h2.1.2 h2.2 h3 h4 h5 h6
theorem rdy {P : Program} {ops : Array Oper} {Q : Exit → Act → World → Prop} {md : Region.Mode} {S : World → Prop} (i : Nat) {o : Oper} {fuel : Nat} {listed : Array Bool} {a : Act} {w : World} (h2 : ops[i]? = some o) (h3 : ∀ (K' : Act → World → Prop), Shut (∀ (a : Act) (w : World), S w → (S w → wpAnyH P md ops Q S fuel (listed.setIfInBounds i true) a w) → K' a w) → if Region.wanted o (yielded ops a.tmps) = true then Oper.wp P o a w K' Q else K' (a.put o.dst undef) w) (h1 : Region.ready md ops listed = [i] := by kernel_rfl) : wpAnyH P md ops Q S (fuel + 1) listed a w :=
  wpAnyH_ready h1 (by simp) (AllReadyH.cons h2 h3 AllReadyH.nil)
/-- A table of bytes in the block g. -/
def Tb (w : World) (g : Nat) (zs : List Nat) : Prop := ∀ i, i < zs.length → w.cell? ⟨g, i, none⟩ = some (.int .u8 ((zs.getD i 0 : Nat) : Int))
theorem Tb.below {w w' : World} {g : Nat} {zs : List Nat} (h : Tb w g zs) (hp : 0 < zs.length) (hb : Below w.heap.size w w') : Tb w' g zs := fun i hi =>
  (hb.cell (p := ⟨g, i, none⟩) (World.block_lt_of_cell? w ⟨g, i, none⟩ (h i hi))).trans (h i hi)
theorem nat_div_cast (a d n f : Nat) : (a : Int) * (d : Int) % (n : Int) / (f : Int) = ((a * d % n / f : Nat) : Int) := by simp
theorem ctz_tz (n x : Nat) (h0 : x ≠ 0) (h : x < 2 ^ n) : Lib.ctz n x = Nm.tz x := by
  obtain ⟨m, hm, hk⟩ := Lib.ctzFrom_spec n x (by omega) h
  have e : Lib.ctz n x = Lib.ctzFrom n x := by simp [Lib.ctz, h0]
  rw [e]
  generalize Lib.ctzFrom n x = t at *
  rw [hm, Nat.mul_comm]
  exact (Nm.tz_mul (by omega) t).symm
theorem low_64 (x : Int) (h0 : 0 < x) (h1 : x < 18446744073709551616) : bits .and .u64 x (18446744073709551616 - x) = ((2 ^ Nm.tz x.toNat : Nat) : Int) ∧ Nm.tz x.toNat < 64 := by
  have hx : x.toNat < 2 ^ 64 := by omega
  have h := Lib.lowest_bit 64 x.toNat (by omega) hx
  rw [ctz_tz 64 x.toNat (by omega) hx] at h
  refine ⟨?_, h.2⟩
  rw [← h.1]
  obtain ⟨n, rfl⟩ := Int.eq_ofNat_of_zero_le (show 0 ≤ x by omega)
  have hn := u64_and_nat n (18446744073709551616 - n) (by omega) (by omega)
  rw [show ((18446744073709551616 - n : Nat) : Int) = 18446744073709551616 - (n : Int) by omega] at hn
  rw [hn]
  simp
/-- The table's index, and what stands there. -/
theorem tab_64 (x : Int) (h0 : 0 < x) (h1 : x < 18446744073709551616) : ∃ j : Nat, ((2 ^ Nm.tz x.toNat : Nat) : Int) * 285870213051353865 % 18446744073709551616 / 288230376151711744 = (j : Int) ∧ j < 64 ∧ Lib.deBruijn64tab.getD j 0 = Nm.tz x.toNat := by
  have ht := (low_64 x h0 h1).2
  have h := Lib.deBruijn64_at _ ht
  exact ⟨_, nat_div_cast _ _ _ _, h.1, h.2⟩
theorem tz_64 (x : Int) (w : World) (hT : Tb w 2 Lib.deBruijn64tab) (h0 : 0 < x) (h1 : x < 18446744073709551616) :
    Calls Tryd.prog 100 #[.int .u64 x] w fun e w' => e = .returned (.int .i64 (Nm.tz x.toNat : Nat)) ∧ w' = w := by
  have hneg : IntKind.u64.wrap (-x) = 18446744073709551616 - x := by rw [IntKind.wrap_u64]; omega
  have hl := low_64 x h0 h1
  obtain ⟨j, hj, hjk, hjt⟩ := tab_64 x h0 h1
  obtain ⟨p, hp⟩ : ∃ p : Int, p = ((2 ^ Nm.tz x.toNat : Nat) : Int) := ⟨_, rfl⟩
  rw [← hp] at hj
  have hj2 : IntKind.u64.wrap (p * 285870213051353865) / 288230376151711744 = (j : Int) := by rw [IntKind.wrap_u64]; exact hj
  have hand : bits .and .u64 x (18446744073709551616 - x) = p := by rw [hp]; exact hl.1
  have hc := hT j (by have : Lib.deBruijn64tab.length = 64 := by decide
                      omega)
  rw [hjt] at hc
  have hx0 : (x == 0) = false := by rw [beq_eq_false_iff_ne]; omega
  have hp0 : 0 ≤ p := by rw [hp]; exact Int.natCast_nonneg _
  have HWR : Hid (wrap64 ((Nm.tz x.toNat : Nat) : Int) = ((Nm.tz x.toNat : Nat) : Int)) := hid (wrap_small _ (by omega) (by have := hl.2; omega))
  clear hp hjt hT hl
  go_enter Tryd.func100, Tryd.ntmps100
  go_wp2
  go_ret
  exact ⟨ret_int HWR.out, rfl⟩
theorem len64_any (x : Int) (w : World) (h0 : 0 ≤ x) (h1 : x < 18446744073709551616) :
    Calls Tryd.prog 102 #[.int .u64 x] w fun e w' => e = .returned (.int .i64 (bitLen x.toNat : Nat)) ∧ w' = w := by
  by_cases c32 : 4294967296 ≤ x
  · by_cases c16 : 65536 ≤ x / 4294967296
    · by_cases c8 : 256 ≤ x / 4294967296 / 65536
      · have HB : Hid ((bitLen x.toNat : Int) = 56 + bitLen (x / 4294967296 / 65536 / 256).toNat) := hid (by
          have h := bitLen_div x 56 h0 (by simp; omega)
          rw [h, show (x / ((2 ^ 56 : Nat) : Int)) = x / 4294967296 / 65536 / 256 by first | (simp; done) | (simp; omega)]; simp)
        have HL := hid (bl_le (x / 4294967296 / 65536 / 256).toNat (by omega))
        go_enter Tryd.func102, Tryd.ntmps102
        go_wp2
        go_ret
        refine ⟨ret_int ?_, rfl⟩
        simp only [len8tab_get]
        rw [wrap_two _ _ (by decide) (by decide) (by omega) HL.out, HB.out]
      · have HB : Hid ((bitLen x.toNat : Int) = 48 + bitLen (x / 4294967296 / 65536).toNat) := hid (by
          have h := bitLen_div x 48 h0 (by simp; omega)
          rw [h, show (x / ((2 ^ 48 : Nat) : Int)) = x / 4294967296 / 65536 by first | (simp; done) | (simp; omega)]; simp)
        have HL := hid (bl_le (x / 4294967296 / 65536).toNat (by omega))
        go_enter Tryd.func102, Tryd.ntmps102
        go_wp2
        go_ret
        refine ⟨ret_int ?_, rfl⟩
        simp only [len8tab_get]
        rw [wrap_two _ _ (by decide) (by decide) (by omega) HL.out, HB.out]
    · by_cases c8 : 256 ≤ x / 4294967296
      · have HB : Hid ((bitLen x.toNat : Int) = 40 + bitLen (x / 4294967296 / 256).toNat) := hid (by
          have h := bitLen_div x 40 h0 (by simp; omega)
          rw [h, show (x / ((2 ^ 40 : Nat) : Int)) = x / 4294967296 / 256 by first | (simp; done) | (simp; omega)]; simp)
        have HL := hid (bl_le (x / 4294967296 / 256).toNat (by omega))
        go_enter Tryd.func102, Tryd.ntmps102
        go_wp2
        go_ret
        refine ⟨ret_int ?_, rfl⟩
        simp only [len8tab_get]
        rw [wrap_two _ _ (by decide) (by decide) (by omega) HL.out, HB.out]
      · have HB : Hid ((bitLen x.toNat : Int) = 32 + bitLen (x / 4294967296).toNat) := hid (by
          have h := bitLen_div x 32 h0 (by simp; omega)
          rw [h, show (x / ((2 ^ 32 : Nat) : Int)) = x / 4294967296 by first | (simp; done) | (simp; omega)]; simp)
        have HL := hid (bl_le (x / 4294967296).toNat (by omega))
        go_enter Tryd.func102, Tryd.ntmps102
        go_wp2
        go_ret
        refine ⟨ret_int ?_, rfl⟩
        simp only [len8tab_get]
        rw [wrap_two _ _ (by decide) (by decide) (by omega) HL.out, HB.out]
  · by_cases c16 : 65536 ≤ x
    · by_cases c8 : 256 ≤ x / 65536
      · have HB : Hid ((bitLen x.toNat : Int) = 24 + bitLen (x / 65536 / 256).toNat) := hid (by
          have h := bitLen_div x 24 h0 (by simp; omega)
          rw [h, show (x / ((2 ^ 24 : Nat) : Int)) = x / 65536 / 256 by first | (simp; done) | (simp; omega)]; simp)
        have HL := hid (bl_le (x / 65536 / 256).toNat (by omega))
        go_enter Tryd.func102, Tryd.ntmps102
        go_wp2
        go_ret
        refine ⟨ret_int ?_, rfl⟩
        simp only [len8tab_get]
        rw [wrap_two _ _ (by decide) (by decide) (by omega) HL.out, HB.out]
      · have HB : Hid ((bitLen x.toNat : Int) = 16 + bitLen (x / 65536).toNat) := hid (by
          have h := bitLen_div x 16 h0 (by simp; omega)
          rw [h, show (x / ((2 ^ 16 : Nat) : Int)) = x / 65536 by first | (simp; done) | (simp; omega)]; simp)
        have HL := hid (bl_le (x / 65536).toNat (by omega))
        go_enter Tryd.func102, Tryd.ntmps102
        go_wp2
        go_ret
        refine ⟨ret_int ?_, rfl⟩
        simp only [len8tab_get]
        rw [wrap_two _ _ (by decide) (by decide) (by omega) HL.out, HB.out]
    · by_cases c8 : 256 ≤ x
      · have HB : Hid ((bitLen x.toNat : Int) = 8 + bitLen (x / 256).toNat) := hid (by
          have h := bitLen_div x 8 h0 (by simp; omega)
          rw [h, show (x / ((2 ^ 8 : Nat) : Int)) = x / 256 by first | (simp; done) | (simp; omega)]; simp)
        have HL := hid (bl_le (x / 256).toNat (by omega))
        go_enter Tryd.func102, Tryd.ntmps102
        go_wp2
        go_ret
        refine ⟨ret_int ?_, rfl⟩
        simp only [len8tab_get]
        rw [wrap_two _ _ (by decide) (by decide) (by omega) HL.out, HB.out]
      · have HL := hid (bl_le x.toNat (by omega))
        go_enter Tryd.func102, Tryd.ntmps102
        go_wp2
        go_ret
        refine ⟨ret_int ?_, rfl⟩
        simp only [len8tab_get]
        have h8 := HL.out
        rw [wrap_small (wrap64 _) (by rw [wrap_small _ (by omega) (by omega)]; omega) (by rw [wrap_small _ (by omega) (by omega)]; omega), wrap_small _ (by omega) (by omega)]
/-- The table of formats, and that of 64. -/
structure Ts (w : World) : Prop where
  f : Tab w
  t64 : Tb w 2 Lib.deBruijn64tab
theorem Ts.below {w w' : World} (h : Ts w) (hb : Below w.heap.size w w') : Ts w' := ⟨h.f.below hb, h.t64.below (by decide) hb⟩
theorem Ts.al {w : World} (h : Ts w) (o : Obj) : Ts (w.alloc o) := h.below ((Below.refl _ _).alloc (Nat.le_refl _) _)
theorem Ts.dr {w : World} (h : Ts w) : Ts w.drew := ⟨⟨h.f.c0, h.f.c1, h.f.c2, h.f.c3, h.f.c4, h.f.c5, h.f.c6, h.f.c7, h.f.c8⟩, h.t64⟩
end Go.Proofs.YtmfpfkfohjkcgaaDoor
