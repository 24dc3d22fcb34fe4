/-
  What is needed of FloatN.
-/
import Derived.Test.YtkfjmcdniohljaaGreatDoorC16
set_option maxHeartbeats 16000000
set_option maxRecDepth 1000000
namespace Go.Proofs.YtkfjmcdniohljaaGreatDoor
set_option linter.unusedVariables false
set_option linter.unusedSimpArgs false
open Go.RowKit
/-- M and E of a finite float whose bits without sign are y. -/
def parM (L y : Int) : Int := if y / L = 0 then y % L else y % L + L
def parE (L q y : Int) : Int := if y / L = 0 then q else q + y / L - 1

theorem Tab.al {w : World} (h : Tab w) (o : Obj) : Tab (w.alloc o) := h.below ((Below.refl _ _).alloc (Nat.le_refl _) _)
theorem Tab.dr {w : World} (h : Tab w) : Tab w.drew := ⟨h.c0, h.c1, h.c2, h.c3, h.c4, h.c5, h.c6, h.c7, h.c8⟩
/-- A box of three cells that may be written. -/
structure R3 (w : World) (b : Nat) (v0 v1 v2 : Value) : Prop where
  c0 : w.cell? ⟨b, 0, none⟩ = some v0
  c1 : w.cell? ⟨b, 1, none⟩ = some v1
  c2 : w.cell? ⟨b, 2, none⟩ = some v2
  f0 : w.frozen? ⟨b, 0, none⟩ = false
  f1 : w.frozen? ⟨b, 1, none⟩ = false
  f2 : w.frozen? ⟨b, 2, none⟩ = false
theorem R3.below {w w' : World} {b : Nat} {v0 v1 v2 : Value} (h : R3 w b v0 v1 v2) (hb : Below w.heap.size w w') : R3 w' b v0 v1 v2 := by
  have hlt := World.block_lt_of_cell? w _ h.c0
  exact ⟨(hb.cell (p := ⟨b, 0, none⟩) hlt).trans h.c0, (hb.cell (p := ⟨b, 1, none⟩) hlt).trans h.c1, (hb.cell (p := ⟨b, 2, none⟩) hlt).trans h.c2,
    (hb.frozen (p := ⟨b, 0, none⟩) hlt).trans h.f0, (hb.frozen (p := ⟨b, 1, none⟩) hlt).trans h.f1, (hb.frozen (p := ⟨b, 2, none⟩) hlt).trans h.f2⟩
theorem R3.new (w : World) (v0 v1 v2 : Value) (t : TypeId) : R3 (w.alloc (.cells #[v0, v1, v2] t)) w.heap.size v0 v1 v2 := ⟨by simp, by simp, by simp, by simp, by simp, by simp⟩
theorem R3.dr {w : World} {b : Nat} {v0 v1 v2 : Value} (h : R3 w b v0 v1 v2) : R3 w.drew b v0 v1 v2 := ⟨h.c0, h.c1, h.c2, h.f0, h.f1, h.f2⟩
theorem R3.al {w : World} {b : Nat} {v0 v1 v2 : Value} (h : R3 w b v0 v1 v2) (o : Obj) : R3 (w.alloc o) b v0 v1 v2 := h.below ((Below.refl _ _).alloc (Nat.le_refl _) _)

theorem R3.other {w : World} {b : Nat} {v0 v1 v2 : Value} (h : R3 w b v0 v1 v2) {p : Addr} (hp : b ≠ p.block) (u : Value) : R3 (w.setCell p u) b v0 v1 v2 := by
  have e := Below.heap_setCell w p u b hp
  exact ⟨(World.cell?_of_block (a := ⟨b, 0, none⟩) e).trans h.c0, (World.cell?_of_block (a := ⟨b, 1, none⟩) e).trans h.c1, (World.cell?_of_block (a := ⟨b, 2, none⟩) e).trans h.c2,
    (World.frozen?_of_block (a := ⟨b, 0, none⟩) e).trans h.f0, (World.frozen?_of_block (a := ⟨b, 1, none⟩) e).trans h.f1, (World.frozen?_of_block (a := ⟨b, 2, none⟩) e).trans h.f2⟩
theorem R3.set {w : World} {b : Nat} {v0 v1 v2 : Value} (h : R3 w b v0 v1 v2) (a0 a1 a2 : Value) : R3 (((w.setCell ⟨b, 0, none⟩ a0).setCell ⟨b, 1, none⟩ a1).setCell ⟨b, 2, none⟩ a2) b a0 a1 a2 := by
  obtain ⟨h0, h1, h2, f0, f1, f2⟩ := h
  exact ⟨by simp [go_sem, h0, h1, h2], by simp [go_sem, h0, h1, h2], by simp [go_sem, h0, h1, h2], by simp [go_sem, f0, f1, f2], by simp [go_sem, f0, f1, f2], by simp [go_sem, f0, f1, f2]⟩
theorem ret_parts {s : Bool} {a b a' b' : Int} (h : a = a') (k : b = b') : Ending.returned (.tuple #[.agg #[.bool s, .int .i64 a, .int .i64 b], .bool true]) = .returned (.tuple #[.agg #[.bool s, .int .i64 a', .int .i64 b'], .bool true]) := by rw [h, k]

theorem impl_parts32 (x : Int) (w : World) (hT : Tab w) (hf : finB 32 x = true) (h0 : 0 ≤ x) (h1 : x < 4294967296) (hi : x % 2147483648 < 2139095040) :
    Calls Tryz.prog 101 #[.int .i64 32, .int .u64 x] w fun e w' => e = .returned (.tuple #[.agg #[.bool (sigB 32 x), .int .i64 (parM 8388608 (x % 2147483648)), .int .i64 (parE 8388608 (-149) (x % 2147483648))], .bool true]) ∧ Below w.heap.size w w' := by
  have h1' : x < 18446744073709551616 := by omega
  have HM : Hid (x / 8388608 % 256 = x % 2147483648 / 8388608) := hid (by omega)
  have HN : Hid (x % 8388608 = x % 2147483648 % 8388608) := hid (by omega)
  have hxl : x % 8388608 < 8388608 := by omega
  have hxl0 : 0 ≤ x % 8388608 := by omega
  have hzb : x / 8388608 % 256 < 256 := by omega
  have hzb0 : 0 ≤ x / 8388608 % 256 := by omega
  have hwr : IntKind.i64.wrap (x % 8388608) = x % 8388608 := by rw [IntKind.wrap_i64]; omega
  go_enter Tryz.func101, Tryz.ntmps101
  go_wp2_with fail
  refine (impl_fin 32 x _ (hT.al _) h0 h1').mono ?_
  rintro e w1 ⟨rfl, hb1⟩
  have hT1 := (hT.al _).below hb1
  have r1 := (R3.new w _ _ _ _).below hb1
  go_wp2_with fail
  refine (sizes32 _ hT1).mono ?_
  rintro e w2 ⟨rfl, hb2⟩
  have hT2 := (hT1.below hb2).al (.cells #[.int .u64 23, .int .u64 255, .int .i64 (-149)] 121)
  have r2 := (r1.below hb2).al (.cells #[.int .u64 23, .int .u64 255, .int .i64 (-149)] 121)
  go_wp2_with fail
  refine (parted32 x _ h0 h1').mono ?_
  rintro e w3 ⟨rfl, hb3⟩
  have hT3 := hT2.below hb3
  have r3 := r2.below hb3
  have z3 : R3 w3 w2.heap.size (.int .u64 23) (.int .u64 255) (.int .i64 (-149)) := (R3.new w2 (.int .u64 23) (.int .u64 255) (.int .i64 (-149)) 121).below hb3
  have z30 := z3.c0; have z31 := z3.c1; have z32 := z3.c2
  have l3 : w2.heap.size < w3.heap.size := World.block_lt_of_cell? w3 _ z30
  have l3' : w.heap.size < w3.heap.size := World.block_lt_of_cell? w3 _ r3.c0
  have l3'' : w.heap.size < w2.heap.size := Nat.lt_of_lt_of_le (World.block_lt_of_cell? w1 _ r1.c0) hb2.size
  go_upto_region 5 with fail
  go_cut [10] (fun s wx => ∃ g : Nat, s = .pointer (some ⟨g, 0, none⟩) ∧ w3.heap.size ≤ g ∧ R3 wx g (.bool (sigB 32 x)) (.int .i64 (x % 8388608)) (.int .i64 (-149)) ∧ R3 wx w.heap.size (.bool false) (.int .i64 0) (.int .i64 0) ∧ R3 wx w2.heap.size (.int .u64 23) (.int .u64 255) (.int .i64 (-149)) ∧ Below w.heap.size w wx)
  case first =>
    go_region_with (first
      | (go_at_call 182; refine (impl_sig 32 x _ hT3.dr h0 h1').mono ?_; rintro e w4 ⟨rfl, hb4⟩; have rr4 := r3.dr.below hb4; have zz4 := z3.dr.below hb4; have l4s : w3.heap.size ≤ w4.heap.size := hb4.size; obtain ⟨zc0, zc1, zc2, zf0, zf1, zf2⟩ := zz4; have l4 : w2.heap.size < w4.heap.size := World.block_lt_of_cell? w4 _ zc0)
      | (go_at_call 182; refine (impl_sig 32 x _ (hT3.al _).dr h0 h1').mono ?_; rintro e w4 ⟨rfl, hb4⟩; have rr4 := (r3.al _).dr.below hb4; have zz4 := (z3.al _).dr.below hb4; obtain ⟨zc0, zc1, zc2, zf0, zf1, zf2⟩ := zz4; obtain ⟨pc0, pc1, pc2, pf0, pf1, pf2⟩ := (R3.new w3 _ _ _ _).dr.below hb4; have l4 : w2.heap.size < w4.heap.size := World.block_lt_of_cell? w4 _ zc0))
    all_goals (go_wp2_with fail; go_meet)
    all_goals first
      | exact ⟨w4.heap.size, rfl, l4s, R3.new w4 _ _ _ _, rr4.al _, R3.al ⟨zc0, zc1, zc2, zf0, zf1, zf2⟩ _, (by repeat (first | exact bz0 _ _ | refine bz1 ?_ | refine bz2 ?_ _ | refine bz3 ?_ _ | refine bz4 ?_ hb4 | refine bz4 ?_ hb3 | refine bz4 ?_ hb2 | refine bz4 ?_ hb1 | refine bz5 ?_ _ | refine bz6 ?_ _ | refine bz7 ?_ hb4 | refine bz7 ?_ hb3 | refine bz7 ?_ hb2 | refine bz7 ?_ hb1))⟩
      | exact ⟨w3.heap.size, rfl, Nat.le_refl _, R3.set ⟨pc0, pc1, pc2, pf0, pf1, pf2⟩ _ _ _, ((rr4.other (by simp; omega) _).other (by simp; omega) _).other (by simp; omega) _, ((R3.other ⟨zc0, zc1, zc2, zf0, zf1, zf2⟩ (by simp; omega) _).other (by simp; omega) _).other (by simp; omega) _, (by repeat (first | exact bz0 _ _ | refine bz1 ?_ | refine bz2 ?_ _ | refine bz3 ?_ _ | refine bz4 ?_ hb4 | refine bz4 ?_ hb3 | refine bz4 ?_ hb2 | refine bz4 ?_ hb1 | refine bz5 ?_ _ | refine bz6 ?_ _ | refine bz7 ?_ hb4 | refine bz7 ?_ hb3 | refine bz7 ?_ hb2 | refine bz7 ?_ hb1))⟩
  case rest =>
  obtain ⟨g, rfl, hg, pg, pr, pz, hbel⟩ := hcut
  obtain ⟨p0, p1, p2, q0, q1, q2⟩ := pg
  obtain ⟨rc0, rc1, rc2, rf0, rf1, rf2⟩ := pr
  obtain ⟨zc0, zc1, zc2, zf0, zf1, zf2⟩ := pz
  have hgw : w.heap.size < g := by omega
  have hgw2 : w2.heap.size < g := by omega
  by_cases hz : x / 8388608 % 256 = 0
  · have HP : Hid (x % 8388608 = parM 8388608 (x % 2147483648)) := hid (by unfold parM; rw [← HM.out, if_pos hz]; exact HN.out)
    have HQ : Hid ((-149) = parE 8388608 (-149) (x % 2147483648)) := hid (by unfold parE; rw [← HM.out, if_pos hz])
    have hz' : ¬ 0 < x / 8388608 % 256 := by omega
    clear hz
    go_wp2
    exact bodyPost_ret (v := .tuple #[.agg #[.bool (sigB 32 x), .int .i64 (x % 8388608), .int .i64 (-149)], .bool true]) (by simp [results, Tryz.results101, go_sem, rc0, rc1, rc2, hgw]) rfl ⟨ret_parts HP.out HQ.out, (by repeat (first | exact bz0 _ _ | refine bz1 ?_ | refine bz2 ?_ _ | refine bz3 ?_ _ | refine bz4 ?_ hbel | refine bz5 ?_ _ | refine bz6 ?_ _ | refine bz7 ?_ hbel))⟩
  · have HP : Hid (x % 8388608 + 8388608 = parM 8388608 (x % 2147483648)) := hid (by unfold parM; rw [← HM.out, if_neg hz, ← HN.out])
    have HQ : Hid ((-149) + (x / 8388608 % 256 - 1) = parE 8388608 (-149) (x % 2147483648)) := hid (by unfold parE; rw [← HM.out, if_neg hz]; omega)
    have hz' : 0 < x / 8388608 % 256 := by omega
    clear hz
    go_wp2
    exact bodyPost_ret (v := .tuple #[.agg #[.bool (sigB 32 x), .int .i64 (x % 8388608 + 8388608), .int .i64 ((-149) + (x / 8388608 % 256 - 1))], .bool true]) (by simp [results, Tryz.results101, go_sem, rc0, rc1, rc2, hgw]) rfl ⟨ret_parts HP.out HQ.out, (by repeat (first | exact bz0 _ _ | refine bz1 ?_ | refine bz2 ?_ _ | refine bz3 ?_ _ | refine bz4 ?_ hbel | refine bz5 ?_ _ | refine bz6 ?_ _ | refine bz7 ?_ hbel))⟩
theorem impl_parts64 (x : Int) (w : World) (hT : Tab w) (hf : finB 64 x = true) (h0 : 0 ≤ x) (h1 : x < 18446744073709551616) (hi : x % 9223372036854775808 < 9218868437227405312) :
    Calls Tryz.prog 101 #[.int .i64 64, .int .u64 x] w fun e w' => e = .returned (.tuple #[.agg #[.bool (sigB 64 x), .int .i64 (parM 4503599627370496 (x % 9223372036854775808)), .int .i64 (parE 4503599627370496 (-1074) (x % 9223372036854775808))], .bool true]) ∧ Below w.heap.size w w' := by
  have h1' : x < 18446744073709551616 := by omega
  have HM : Hid (x / 4503599627370496 % 2048 = x % 9223372036854775808 / 4503599627370496) := hid (by omega)
  have HN : Hid (x % 4503599627370496 = x % 9223372036854775808 % 4503599627370496) := hid (by omega)
  have hxl : x % 4503599627370496 < 4503599627370496 := by omega
  have hxl0 : 0 ≤ x % 4503599627370496 := by omega
  have hzb : x / 4503599627370496 % 2048 < 2048 := by omega
  have hzb0 : 0 ≤ x / 4503599627370496 % 2048 := by omega
  have hwr : IntKind.i64.wrap (x % 4503599627370496) = x % 4503599627370496 := by rw [IntKind.wrap_i64]; omega
  go_enter Tryz.func101, Tryz.ntmps101
  go_wp2_with fail
  refine (impl_fin 64 x _ (hT.al _) h0 h1').mono ?_
  rintro e w1 ⟨rfl, hb1⟩
  have hT1 := (hT.al _).below hb1
  have r1 := (R3.new w _ _ _ _).below hb1
  go_wp2_with fail
  refine (sizes64 _ hT1).mono ?_
  rintro e w2 ⟨rfl, hb2⟩
  have hT2 := (hT1.below hb2).al (.cells #[.int .u64 52, .int .u64 2047, .int .i64 (-1074)] 121)
  have r2 := (r1.below hb2).al (.cells #[.int .u64 52, .int .u64 2047, .int .i64 (-1074)] 121)
  go_wp2_with fail
  refine (parted64 x _ h0 h1').mono ?_
  rintro e w3 ⟨rfl, hb3⟩
  have hT3 := hT2.below hb3
  have r3 := r2.below hb3
  have z3 : R3 w3 w2.heap.size (.int .u64 52) (.int .u64 2047) (.int .i64 (-1074)) := (R3.new w2 (.int .u64 52) (.int .u64 2047) (.int .i64 (-1074)) 121).below hb3
  have z30 := z3.c0; have z31 := z3.c1; have z32 := z3.c2
  have l3 : w2.heap.size < w3.heap.size := World.block_lt_of_cell? w3 _ z30
  have l3' : w.heap.size < w3.heap.size := World.block_lt_of_cell? w3 _ r3.c0
  have l3'' : w.heap.size < w2.heap.size := Nat.lt_of_lt_of_le (World.block_lt_of_cell? w1 _ r1.c0) hb2.size
  go_upto_region 5 with fail
  go_cut [10] (fun s wx => ∃ g : Nat, s = .pointer (some ⟨g, 0, none⟩) ∧ w3.heap.size ≤ g ∧ R3 wx g (.bool (sigB 64 x)) (.int .i64 (x % 4503599627370496)) (.int .i64 (-1074)) ∧ R3 wx w.heap.size (.bool false) (.int .i64 0) (.int .i64 0) ∧ R3 wx w2.heap.size (.int .u64 52) (.int .u64 2047) (.int .i64 (-1074)) ∧ Below w.heap.size w wx)
  case first =>
    go_region_with (first
      | (go_at_call 182; refine (impl_sig 64 x _ hT3.dr h0 h1').mono ?_; rintro e w4 ⟨rfl, hb4⟩; have rr4 := r3.dr.below hb4; have zz4 := z3.dr.below hb4; have l4s : w3.heap.size ≤ w4.heap.size := hb4.size; obtain ⟨zc0, zc1, zc2, zf0, zf1, zf2⟩ := zz4; have l4 : w2.heap.size < w4.heap.size := World.block_lt_of_cell? w4 _ zc0)
      | (go_at_call 182; refine (impl_sig 64 x _ (hT3.al _).dr h0 h1').mono ?_; rintro e w4 ⟨rfl, hb4⟩; have rr4 := (r3.al _).dr.below hb4; have zz4 := (z3.al _).dr.below hb4; obtain ⟨zc0, zc1, zc2, zf0, zf1, zf2⟩ := zz4; obtain ⟨pc0, pc1, pc2, pf0, pf1, pf2⟩ := (R3.new w3 _ _ _ _).dr.below hb4; have l4 : w2.heap.size < w4.heap.size := World.block_lt_of_cell? w4 _ zc0))
    all_goals (go_wp2_with fail; go_meet)
    all_goals first
      | exact ⟨w4.heap.size, rfl, l4s, R3.new w4 _ _ _ _, rr4.al _, R3.al ⟨zc0, zc1, zc2, zf0, zf1, zf2⟩ _, (by repeat (first | exact bz0 _ _ | refine bz1 ?_ | refine bz2 ?_ _ | refine bz3 ?_ _ | refine bz4 ?_ hb4 | refine bz4 ?_ hb3 | refine bz4 ?_ hb2 | refine bz4 ?_ hb1 | refine bz5 ?_ _ | refine bz6 ?_ _ | refine bz7 ?_ hb4 | refine bz7 ?_ hb3 | refine bz7 ?_ hb2 | refine bz7 ?_ hb1))⟩
      | exact ⟨w3.heap.size, rfl, Nat.le_refl _, R3.set ⟨pc0, pc1, pc2, pf0, pf1, pf2⟩ _ _ _, ((rr4.other (by simp; omega) _).other (by simp; omega) _).other (by simp; omega) _, ((R3.other ⟨zc0, zc1, zc2, zf0, zf1, zf2⟩ (by simp; omega) _).other (by simp; omega) _).other (by simp; omega) _, (by repeat (first | exact bz0 _ _ | refine bz1 ?_ | refine bz2 ?_ _ | refine bz3 ?_ _ | refine bz4 ?_ hb4 | refine bz4 ?_ hb3 | refine bz4 ?_ hb2 | refine bz4 ?_ hb1 | refine bz5 ?_ _ | refine bz6 ?_ _ | refine bz7 ?_ hb4 | refine bz7 ?_ hb3 | refine bz7 ?_ hb2 | refine bz7 ?_ hb1))⟩
  case rest =>
  obtain ⟨g, rfl, hg, pg, pr, pz, hbel⟩ := hcut
  obtain ⟨p0, p1, p2, q0, q1, q2⟩ := pg
  obtain ⟨rc0, rc1, rc2, rf0, rf1, rf2⟩ := pr
  obtain ⟨zc0, zc1, zc2, zf0, zf1, zf2⟩ := pz
  have hgw : w.heap.size < g := by omega
  have hgw2 : w2.heap.size < g := by omega
  by_cases hz : x / 4503599627370496 % 2048 = 0
  · have HP : Hid (x % 4503599627370496 = parM 4503599627370496 (x % 9223372036854775808)) := hid (by unfold parM; rw [← HM.out, if_pos hz]; exact HN.out)
    have HQ : Hid ((-1074) = parE 4503599627370496 (-1074) (x % 9223372036854775808)) := hid (by unfold parE; rw [← HM.out, if_pos hz])
    have hz' : ¬ 0 < x / 4503599627370496 % 2048 := by omega
    clear hz
    go_wp2
    exact bodyPost_ret (v := .tuple #[.agg #[.bool (sigB 64 x), .int .i64 (x % 4503599627370496), .int .i64 (-1074)], .bool true]) (by simp [results, Tryz.results101, go_sem, rc0, rc1, rc2, hgw]) rfl ⟨ret_parts HP.out HQ.out, (by repeat (first | exact bz0 _ _ | refine bz1 ?_ | refine bz2 ?_ _ | refine bz3 ?_ _ | refine bz4 ?_ hbel | refine bz5 ?_ _ | refine bz6 ?_ _ | refine bz7 ?_ hbel))⟩
  · have HP : Hid (x % 4503599627370496 + 4503599627370496 = parM 4503599627370496 (x % 9223372036854775808)) := hid (by unfold parM; rw [← HM.out, if_neg hz, ← HN.out])
    have HQ : Hid ((-1074) + (x / 4503599627370496 % 2048 - 1) = parE 4503599627370496 (-1074) (x % 9223372036854775808)) := hid (by unfold parE; rw [← HM.out, if_neg hz]; omega)
    have hz' : 0 < x / 4503599627370496 % 2048 := by omega
    clear hz
    go_wp2
    exact bodyPost_ret (v := .tuple #[.agg #[.bool (sigB 64 x), .int .i64 (x % 4503599627370496 + 4503599627370496), .int .i64 ((-1074) + (x / 4503599627370496 % 2048 - 1))], .bool true]) (by simp [results, Tryz.results101, go_sem, rc0, rc1, rc2, hgw]) rfl ⟨ret_parts HP.out HQ.out, (by repeat (first | exact bz0 _ _ | refine bz1 ?_ | refine bz2 ?_ _ | refine bz3 ?_ _ | refine bz4 ?_ hbel | refine bz5 ?_ _ | refine bz6 ?_ _ | refine bz7 ?_ hbel))⟩
end Go.Proofs.YtkfjmcdniohljaaGreatDoor
