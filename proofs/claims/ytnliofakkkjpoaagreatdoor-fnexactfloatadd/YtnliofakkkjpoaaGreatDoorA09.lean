/-
  What is needed of ShiftA, FloatN, ShiftB.
-/
import Derived.Deep.RegionWith
import Derived.Deep.DeepCutAuto
import Derived.Test.YtnliofakkkjpoaaGreatDoorA06
import Derived.Test.YtnliofakkkjpoaaGreatDoorA08
set_option maxHeartbeats 16000000
set_option maxRecDepth 1000000
namespace Go.Proofs.YtnliofakkkjpoaaGreatDoor
set_option linter.unusedVariables false
set_option linter.unusedSimpArgs false
open Go.RowKit Go.Deep
theorem mk3 (N M : Nat) (h : N ≤ 400000) (h' : M ≤ 400000) : ∀ w : World, (Instr.makeSlice 22 (.int .i64 ((N : Int) + (M : Int) + 1)) (.int .i64 ((N : Int) + (M : Int) + 1))).run Tryz.prog w = .ok (.slice (some ⟨w.heap.size, 0, none⟩) (N + M + 1) (N + M + 1)) (w.alloc (.cells (madeCells #[.int .u32 0] (N + M + 1)) 147)) :=
  run_make_row' (P := Tryz.prog) 22 147 (.int .u32 0) 4 Tryz.underlying22 info32 rfl .i64 .i64 (N + M + 1) (by omega) (by omega)
theorem pq (r : Nat) (hr : r < 32) : ∃ q : Int, 1 ≤ q ∧ (2 : Int) ^ r * q = 4294967296 ∧ 1 ≤ (2 : Int) ^ r := by
  refine ⟨(2 : Int) ^ (32 - r), ?_, ?_, ?_⟩
  · exact Int.pow_pos (by decide)
  · rw [← Int.pow_add, show r + (32 - r) = 32 by omega]; decide
  · exact Int.pow_pos (by decide)
theorem wrapu (t : Int) (h0 : 0 ≤ t) (h1 : t < 18446744073709551616) : IntKind.u64.wrap t = t := by rw [IntKind.wrap_u64]; omega
/-- What a limb is, and what is put to it above. -/
theorem or_up (o x : Int) (r : Nat) (hr : r < 32) (ho : 0 ≤ o) (ho1 : o < (2 : Int) ^ r) (hx : 0 ≤ x) (hx1 : x < 4294967296) : bits .or .u32 o (x * (2 : Int) ^ r % 4294967296) = o + x * (2 : Int) ^ r % 4294967296 := by
  obtain ⟨q, hq, e, hp⟩ := pq r hr
  obtain ⟨u0, u1, u2, u3, u4, u5⟩ := Nm.up_parts (x := x) (p := (2 : Int) ^ r) (q := q) ⟨hx, hx1⟩ hp hq e
  have em : x * (2 : Int) ^ r % 4294967296 = (2 : Int) ^ r * (x % q) := by rw [← e, Int.mul_comm x, Int.mul_emod_mul_of_pos x q (by omega)]
  have hq0 := Int.emod_nonneg x (show q ≠ 0 by omega)
  obtain ⟨O, rfl⟩ := Int.eq_ofNat_of_zero_le ho
  obtain ⟨Q, hQ⟩ := Int.eq_ofNat_of_zero_le hq0
  obtain ⟨A, hA⟩ := Int.eq_ofNat_of_zero_le u2
  have hAQ : A = 2 ^ r * Q := by
    have h : (A : Int) = (2 : Int) ^ r * (Q : Int) := by rw [← hA, ← hQ]; exact em
    have h2 : ((2 ^ r * Q : Nat) : Int) = (2 : Int) ^ r * (Q : Int) := by simp
    omega
  have hO : O < 2 ^ r := by
    have h2 : ((2 ^ r : Nat) : Int) = (2 : Int) ^ r := by simp
    omega
  rw [hA, u32_or_nat O A (by omega) (by omega), Nat.or_comm, nat_join r A O (by rw [hAQ]; exact Nat.mul_mod_right _ _) hO]
  omega
theorem up_any (a : Option Addr) (cap : Nat) (xs : List Int) (n : Int) (wh r : Nat) (w : World) (hx : Sl .u32 w (.slice a xs.length cap) xs) (dx : Nm.Dg xs) (hl : xs.length ≤ 400000) (hw : wh ≤ 400000) (hr : r < 32) (h0 : 0 ≤ n) (h1 : n ≤ 1000000) (hq : n / 32 = (wh : Int)) (hm : n % 32 = (r : Int)) :
    Calls Tryz.prog 184 #[.slice a xs.length cap, .int .i64 n] w fun e w' => ∃ a1 c1 os, e = .returned (.slice a1 os.length c1) ∧ Own w' w.heap.size a1 c1 os ∧ Nm.Dg os ∧ Nm.val os = Nm.pw wh * ((2 : Int) ^ r * Nm.val xs) ∧ os.length ≤ 1048576 ∧ Below w.heap.size w w' := by
  have hmk := mk3 wh xs.length hw hl
  obtain ⟨q, hp⟩ := pq r hr
  have HP := hid hp
  clear hp
  obtain ⟨-, hx1, hx2, hx3⟩ := hx.cells
  have HX3 := hid hx3
  clear hx3
  go_enter Tryz.func184, Tryz.ntmps184
  go_wp2_with fail
  clear hmk
  go_loopw [23] (fun iv wr => ∃ i : Nat, ∃ os : List Int, i ≤ xs.length ∧ iv = .int .i64 i ∧ os.length = wh + xs.length + 1 ∧ Rw wr w.heap.size os ∧ Nm.UpAt xs os wh ((2 : Int) ^ r) i ∧ Below w.heap.size w wr) (fun iv _ => xs.length - (intOf iv).toNat)
  case atStart => exact ⟨0, List.replicate (wh + xs.length + 1) 0, Nat.zero_le _, rfl, by simp, Rw.made w _, Nm.UpAt.zero _ _ _ _ HP.out.2.2, (by repeat (first | exact bz0 _ _ | refine bz1 ?_ | refine bz2 ?_ _ | refine bz3 ?_ _ | refine bz5 ?_ _ | refine bz6 ?_ _))⟩
  case round =>
    obtain ⟨i, os, hi, rfl, hol, hrw, hup, hb⟩ := hrel
    have H0 := hid (And.intro hol hup)
    have hol1 : wh + xs.length + 1 ≤ os.length := by omega
    clear hol hup
    by_cases hlt : i < xs.length
    · obtain ⟨b, off, rfl, hcx⟩ := HX3.out (by omega)
      have hca0 := hcx i hlt
      have hbl := World.block_lt_of_cell? w _ hca0
      have hca : wr.cell? ⟨b, off + i, none⟩ = some (.int .u32 (xs.getD i 0)) := (hb.cell (p := ⟨b, off + i, none⟩) hbl).trans hca0
      obtain ⟨ex0, ex1⟩ := dx.getD i
      obtain ⟨x, hxk⟩ : ∃ x, x = xs.getD i 0 := ⟨_, rfl⟩
      rw [← hxk] at hca ex0 ex1
      have HXK := hid hxk
      have hcell := hrw.cell (k := wh + i) (by omega)
      have hfr := hrw.frozen (wh + i)
      have hcell' := hrw.cell (k := wh + i + 1) (by omega)
      have hfr' := hrw.frozen (wh + i + 1)
      obtain ⟨o, hok⟩ : ∃ o, o = os.getD (wh + i) 0 := ⟨_, rfl⟩
      rw [← hok] at hcell
      have hlo := H0.out.2.lo
      have hog := H0.out.2.d.getD (wh + i)
      have hst := H0.out.2.step HP.out.2.2 HP.out.1 HP.out.2.1 dx (show wh + i + 1 < os.length by omega)
      rw [← hok] at hlo hog hst
      rw [← HXK.out] at hst
      obtain ⟨p0, p1, p2, p3, p4, p5⟩ := Nm.up_parts (x := x) (p := (2 : Int) ^ r) (q := q) ⟨ex0, ex1⟩ HP.out.2.2 HP.out.1 HP.out.2.1
      have hpb : (2 : Int) ^ r ≤ 4294967296 := by omega
      have k1 := wrapu _ p0 p1
      have k2 := or_up o x r hr hog.1 hlo ex0 ex1
      have k3 : x * (2 : Int) ^ r / 4294967296 % 4294967296 = x * (2 : Int) ^ r / 4294967296 := by omega
      have HK := hid (And.intro k1 (And.intro k2 k3))
      have HST := hid hst
      clear hxk hca0 hcx hok hst k1 k2 k3 hlo hog p0 p1 p2 p3 p4 p5 hpb
      go_wp2_with fail
      rw [HK.out.1, HK.out.2.1, HK.out.2.2]
      go_roundw
      case rel => exact ⟨i + 1, (os.set (wh + i) (o + x * (2 : Int) ^ r % 4294967296)).set (wh + i + 1) (x * (2 : Int) ^ r / 4294967296), by omega, by go_num, by rw [List.length_set, List.length_set]; exact H0.out.1, (hrw.set (by omega) _).set (by rw [List.length_set]; omega) _, HST.out, (hb.setCell (Nat.le_refl _) _).setCell (Nat.le_refl _) _⟩
      case measure => simp [intOf]; omega
    · obtain rfl : i = xs.length := by omega
      have hlen := H0.out.1
      have hown := hrw.own (base := w.heap.size) (Nat.le_refl _) (by unfold maxLen; omega)
      have hfull := H0.out.2.full
      have HF := hid (And.intro hown (And.intro hfull hlen))
      clear hown hfull hlen
      go_wp2
      go_ret
      exact ⟨some ⟨w.heap.size, 0, none⟩, os.length, os, by rw [HF.out.2.2]; rfl, HF.out.1, H0.out.2.d, HF.out.2.1, by have := HF.out.2.2; omega, hb⟩
end Go.Proofs.YtnliofakkkjpoaaGreatDoor
namespace Go.Proofs.YtnliofakkkjpoaaGreatDoor
set_option linter.unusedVariables false
set_option linter.unusedSimpArgs false
open Go.RowKit
/-- M and E of a finite float whose bits without sign are y. -/
def parM (L y : Int) : Int := if y / L = 0 then y % L else y % L + L
def parE (L q y : Int) : Int := if y / L = 0 then q else q + y / L - 1

theorem Tab.al {w : World} (h : Tab w) (o : Obj) : Tab (w.alloc o) := h.below ((Below.refl _ _).alloc (Nat.le_refl _) _)
theorem Tab.dr {w : World} (h : Tab w) : Tab w.drew := ⟨h.c0, h.c1, h.c2, h.c3, h.c4, h.c5, h.c6, h.c7, h.c8⟩
/-- A box of three cells that may be written. -/
structure R3 (w : World) (b : Nat) (v0 v1 v2 : Value) : Prop where
  c0 : w.cell? ⟨b, 0, none⟩ = some v0
  c1 : w.cell? ⟨b, 1, none⟩ = some v1
  c2 : w.cell? ⟨b, 2, none⟩ = some v2
  f0 : w.frozen? ⟨b, 0, none⟩ = false
  f1 : w.frozen? ⟨b, 1, none⟩ = false
  f2 : w.frozen? ⟨b, 2, none⟩ = false
theorem R3.below {w w' : World} {b : Nat} {v0 v1 v2 : Value} (h : R3 w b v0 v1 v2) (hb : Below w.heap.size w w') : R3 w' b v0 v1 v2 := by
  have hlt := World.block_lt_of_cell? w _ h.c0
  exact ⟨(hb.cell (p := ⟨b, 0, none⟩) hlt).trans h.c0, (hb.cell (p := ⟨b, 1, none⟩) hlt).trans h.c1, (hb.cell (p := ⟨b, 2, none⟩) hlt).trans h.c2,
    (hb.frozen (p := ⟨b, 0, none⟩) hlt).trans h.f0, (hb.frozen (p := ⟨b, 1, none⟩) hlt).trans h.f1, (hb.frozen (p := ⟨b, 2, none⟩) hlt).trans h.f2⟩
theorem R3.new (w : World) (v0 v1 v2 : Value) (t : TypeId) : R3 (w.alloc (.cells #[v0, v1, v2] t)) w.heap.size v0 v1 v2 := ⟨by simp, by simp, by simp, by simp, by simp, by simp⟩
theorem R3.dr {w : World} {b : Nat} {v0 v1 v2 : Value} (h : R3 w b v0 v1 v2) : R3 w.drew b v0 v1 v2 := ⟨h.c0, h.c1, h.c2, h.f0, h.f1, h.f2⟩
theorem R3.al {w : World} {b : Nat} {v0 v1 v2 : Value} (h : R3 w b v0 v1 v2) (o : Obj) : R3 (w.alloc o) b v0 v1 v2 := h.below ((Below.refl _ _).alloc (Nat.le_refl _) _)

theorem R3.other {w : World} {b : Nat} {v0 v1 v2 : Value} (h : R3 w b v0 v1 v2) {p : Addr} (hp : b ≠ p.block) (u : Value) : R3 (w.setCell p u) b v0 v1 v2 := by
  have e := Below.heap_setCell w p u b hp
  exact ⟨(World.cell?_of_block (a := ⟨b, 0, none⟩) e).trans h.c0, (World.cell?_of_block (a := ⟨b, 1, none⟩) e).trans h.c1, (World.cell?_of_block (a := ⟨b, 2, none⟩) e).trans h.c2,
    (World.frozen?_of_block (a := ⟨b, 0, none⟩) e).trans h.f0, (World.frozen?_of_block (a := ⟨b, 1, none⟩) e).trans h.f1, (World.frozen?_of_block (a := ⟨b, 2, none⟩) e).trans h.f2⟩
theorem R3.set {w : World} {b : Nat} {v0 v1 v2 : Value} (h : R3 w b v0 v1 v2) (a0 a1 a2 : Value) : R3 (((w.setCell ⟨b, 0, none⟩ a0).setCell ⟨b, 1, none⟩ a1).setCell ⟨b, 2, none⟩ a2) b a0 a1 a2 := by
  obtain ⟨h0, h1, h2, f0, f1, f2⟩ := h
  exact ⟨by simp [go_sem, h0, h1, h2], by simp [go_sem, h0, h1, h2], by simp [go_sem, h0, h1, h2], by simp [go_sem, f0, f1, f2], by simp [go_sem, f0, f1, f2], by simp [go_sem, f0, f1, f2]⟩
theorem ret_parts {s : Bool} {a b a' b' : Int} (h : a = a') (k : b = b') : Ending.returned (.tuple #[.agg #[.bool s, .int .i64 a, .int .i64 b], .bool true]) = .returned (.tuple #[.agg #[.bool s, .int .i64 a', .int .i64 b'], .bool true]) := by rw [h, k]

theorem impl_parts32 (x : Int) (w : World) (hT : Tab w) (hf : finB 32 x = true) (h0 : 0 ≤ x) (h1 : x < 4294967296) (hi : x % 2147483648 < 2139095040) :
    Calls Tryz.prog 163 #[.int .i64 32, .int .u64 x] w fun e w' => e = .returned (.tuple #[.agg #[.bool (sigB 32 x), .int .i64 (parM 8388608 (x % 2147483648)), .int .i64 (parE 8388608 (-149) (x % 2147483648))], .bool true]) ∧ Below w.heap.size w w' := by
  have h1' : x < 18446744073709551616 := by omega
  have HM : Hid (x / 8388608 % 256 = x % 2147483648 / 8388608) := hid (by omega)
  have HN : Hid (x % 8388608 = x % 2147483648 % 8388608) := hid (by omega)
  have hxl : x % 8388608 < 8388608 := by omega
  have hxl0 : 0 ≤ x % 8388608 := by omega
  have hzb : x / 8388608 % 256 < 256 := by omega
  have hzb0 : 0 ≤ x / 8388608 % 256 := by omega
  have hwr : IntKind.i64.wrap (x % 8388608) = x % 8388608 := by rw [IntKind.wrap_i64]; omega
  go_enter Tryz.func163, Tryz.ntmps163
  go_wp2_with fail
  refine (impl_fin 32 x _ (hT.al _) h0 h1').mono ?_
  rintro e w1 ⟨rfl, hb1⟩
  have hT1 := (hT.al _).below hb1
  have r1 := (R3.new w _ _ _ _).below hb1
  go_wp2_with fail
  refine (sizes32 _ hT1).mono ?_
  rintro e w2 ⟨rfl, hb2⟩
  have hT2 := (hT1.below hb2).al (.cells #[.int .u64 23, .int .u64 255, .int .i64 (-149)] 157)
  have r2 := (r1.below hb2).al (.cells #[.int .u64 23, .int .u64 255, .int .i64 (-149)] 157)
  go_wp2_with fail
  refine (parted32 x _ h0 h1').mono ?_
  rintro e w3 ⟨rfl, hb3⟩
  have hT3 := hT2.below hb3
  have r3 := r2.below hb3
  have z3 : R3 w3 w2.heap.size (.int .u64 23) (.int .u64 255) (.int .i64 (-149)) := (R3.new w2 (.int .u64 23) (.int .u64 255) (.int .i64 (-149)) 157).below hb3
  have z30 := z3.c0; have z31 := z3.c1; have z32 := z3.c2
  have l3 : w2.heap.size < w3.heap.size := World.block_lt_of_cell? w3 _ z30
  have l3' : w.heap.size < w3.heap.size := World.block_lt_of_cell? w3 _ r3.c0
  have l3'' : w.heap.size < w2.heap.size := Nat.lt_of_lt_of_le (World.block_lt_of_cell? w1 _ r1.c0) hb2.size
  go_upto_region 5 with fail
  go_cut [10] (fun s wx => ∃ g : Nat, s = .pointer (some ⟨g, 0, none⟩) ∧ w3.heap.size ≤ g ∧ R3 wx g (.bool (sigB 32 x)) (.int .i64 (x % 8388608)) (.int .i64 (-149)) ∧ R3 wx w.heap.size (.bool false) (.int .i64 0) (.int .i64 0) ∧ R3 wx w2.heap.size (.int .u64 23) (.int .u64 255) (.int .i64 (-149)) ∧ Below w.heap.size w wx)
  case first =>
    go_region_with (first
      | (go_at_call 162; refine (impl_sig 32 x _ hT3.dr h0 h1').mono ?_; rintro e w4 ⟨rfl, hb4⟩; have rr4 := r3.dr.below hb4; have zz4 := z3.dr.below hb4; have l4s : w3.heap.size ≤ w4.heap.size := hb4.size; obtain ⟨zc0, zc1, zc2, zf0, zf1, zf2⟩ := zz4; have l4 : w2.heap.size < w4.heap.size := World.block_lt_of_cell? w4 _ zc0)
      | (go_at_call 162; refine (impl_sig 32 x _ (hT3.al _).dr h0 h1').mono ?_; rintro e w4 ⟨rfl, hb4⟩; have rr4 := (r3.al _).dr.below hb4; have zz4 := (z3.al _).dr.below hb4; obtain ⟨zc0, zc1, zc2, zf0, zf1, zf2⟩ := zz4; obtain ⟨pc0, pc1, pc2, pf0, pf1, pf2⟩ := (R3.new w3 _ _ _ _).dr.below hb4; have l4 : w2.heap.size < w4.heap.size := World.block_lt_of_cell? w4 _ zc0))
    all_goals (go_wp2_with fail; go_meet)
    all_goals first
      | exact ⟨w4.heap.size, rfl, l4s, R3.new w4 _ _ _ _, rr4.al _, R3.al ⟨zc0, zc1, zc2, zf0, zf1, zf2⟩ _, (by repeat (first | exact bz0 _ _ | refine bz1 ?_ | refine bz2 ?_ _ | refine bz3 ?_ _ | refine bz4 ?_ hb4 | refine bz4 ?_ hb3 | refine bz4 ?_ hb2 | refine bz4 ?_ hb1 | refine bz5 ?_ _ | refine bz6 ?_ _ | refine bz7 ?_ hb4 | refine bz7 ?_ hb3 | refine bz7 ?_ hb2 | refine bz7 ?_ hb1))⟩
      | exact ⟨w3.heap.size, rfl, Nat.le_refl _, R3.set ⟨pc0, pc1, pc2, pf0, pf1, pf2⟩ _ _ _, ((rr4.other (by simp; omega) _).other (by simp; omega) _).other (by simp; omega) _, ((R3.other ⟨zc0, zc1, zc2, zf0, zf1, zf2⟩ (by simp; omega) _).other (by simp; omega) _).other (by simp; omega) _, (by repeat (first | exact bz0 _ _ | refine bz1 ?_ | refine bz2 ?_ _ | refine bz3 ?_ _ | refine bz4 ?_ hb4 | refine bz4 ?_ hb3 | refine bz4 ?_ hb2 | refine bz4 ?_ hb1 | refine bz5 ?_ _ | refine bz6 ?_ _ | refine bz7 ?_ hb4 | refine bz7 ?_ hb3 | refine bz7 ?_ hb2 | refine bz7 ?_ hb1))⟩
  case rest =>
  obtain ⟨g, rfl, hg, pg, pr, pz, hbel⟩ := hcut
  obtain ⟨p0, p1, p2, q0, q1, q2⟩ := pg
  obtain ⟨rc0, rc1, rc2, rf0, rf1, rf2⟩ := pr
  obtain ⟨zc0, zc1, zc2, zf0, zf1, zf2⟩ := pz
  have hgw : w.heap.size < g := by omega
  have hgw2 : w2.heap.size < g := by omega
  by_cases hz : x / 8388608 % 256 = 0
  · have HP : Hid (x % 8388608 = parM 8388608 (x % 2147483648)) := hid (by unfold parM; rw [← HM.out, if_pos hz]; exact HN.out)
    have HQ : Hid ((-149) = parE 8388608 (-149) (x % 2147483648)) := hid (by unfold parE; rw [← HM.out, if_pos hz])
    have hz' : ¬ 0 < x / 8388608 % 256 := by omega
    clear hz
    go_wp2
    exact bodyPost_ret (v := .tuple #[.agg #[.bool (sigB 32 x), .int .i64 (x % 8388608), .int .i64 (-149)], .bool true]) (by simp [results, Tryz.results163, go_sem, rc0, rc1, rc2, hgw]) rfl ⟨ret_parts HP.out HQ.out, (by repeat (first | exact bz0 _ _ | refine bz1 ?_ | refine bz2 ?_ _ | refine bz3 ?_ _ | refine bz4 ?_ hbel | refine bz5 ?_ _ | refine bz6 ?_ _ | refine bz7 ?_ hbel))⟩
  · have HP : Hid (x % 8388608 + 8388608 = parM 8388608 (x % 2147483648)) := hid (by unfold parM; rw [← HM.out, if_neg hz, ← HN.out])
    have HQ : Hid ((-149) + (x / 8388608 % 256 - 1) = parE 8388608 (-149) (x % 2147483648)) := hid (by unfold parE; rw [← HM.out, if_neg hz]; omega)
    have hz' : 0 < x / 8388608 % 256 := by omega
    clear hz
    go_wp2
    exact bodyPost_ret (v := .tuple #[.agg #[.bool (sigB 32 x), .int .i64 (x % 8388608 + 8388608), .int .i64 ((-149) + (x / 8388608 % 256 - 1))], .bool true]) (by simp [results, Tryz.results163, go_sem, rc0, rc1, rc2, hgw]) rfl ⟨ret_parts HP.out HQ.out, (by repeat (first | exact bz0 _ _ | refine bz1 ?_ | refine bz2 ?_ _ | refine bz3 ?_ _ | refine bz4 ?_ hbel | refine bz5 ?_ _ | refine bz6 ?_ _ | refine bz7 ?_ hbel))⟩
theorem impl_parts64 (x : Int) (w : World) (hT : Tab w) (hf : finB 64 x = true) (h0 : 0 ≤ x) (h1 : x < 18446744073709551616) (hi : x % 9223372036854775808 < 9218868437227405312) :
    Calls Tryz.prog 163 #[.int .i64 64, .int .u64 x] w fun e w' => e = .returned (.tuple #[.agg #[.bool (sigB 64 x), .int .i64 (parM 4503599627370496 (x % 9223372036854775808)), .int .i64 (parE 4503599627370496 (-1074) (x % 9223372036854775808))], .bool true]) ∧ Below w.heap.size w w' := by
  have h1' : x < 18446744073709551616 := by omega
  have HM : Hid (x / 4503599627370496 % 2048 = x % 9223372036854775808 / 4503599627370496) := hid (by omega)
  have HN : Hid (x % 4503599627370496 = x % 9223372036854775808 % 4503599627370496) := hid (by omega)
  have hxl : x % 4503599627370496 < 4503599627370496 := by omega
  have hxl0 : 0 ≤ x % 4503599627370496 := by omega
  have hzb : x / 4503599627370496 % 2048 < 2048 := by omega
  have hzb0 : 0 ≤ x / 4503599627370496 % 2048 := by omega
  have hwr : IntKind.i64.wrap (x % 4503599627370496) = x % 4503599627370496 := by rw [IntKind.wrap_i64]; omega
  go_enter Tryz.func163, Tryz.ntmps163
  go_wp2_with fail
  refine (impl_fin 64 x _ (hT.al _) h0 h1').mono ?_
  rintro e w1 ⟨rfl, hb1⟩
  have hT1 := (hT.al _).below hb1
  have r1 := (R3.new w _ _ _ _).below hb1
  go_wp2_with fail
  refine (sizes64 _ hT1).mono ?_
  rintro e w2 ⟨rfl, hb2⟩
  have hT2 := (hT1.below hb2).al (.cells #[.int .u64 52, .int .u64 2047, .int .i64 (-1074)] 157)
  have r2 := (r1.below hb2).al (.cells #[.int .u64 52, .int .u64 2047, .int .i64 (-1074)] 157)
  go_wp2_with fail
  refine (parted64 x _ h0 h1').mono ?_
  rintro e w3 ⟨rfl, hb3⟩
  have hT3 := hT2.below hb3
  have r3 := r2.below hb3
  have z3 : R3 w3 w2.heap.size (.int .u64 52) (.int .u64 2047) (.int .i64 (-1074)) := (R3.new w2 (.int .u64 52) (.int .u64 2047) (.int .i64 (-1074)) 157).below hb3
  have z30 := z3.c0; have z31 := z3.c1; have z32 := z3.c2
  have l3 : w2.heap.size < w3.heap.size := World.block_lt_of_cell? w3 _ z30
  have l3' : w.heap.size < w3.heap.size := World.block_lt_of_cell? w3 _ r3.c0
  have l3'' : w.heap.size < w2.heap.size := Nat.lt_of_lt_of_le (World.block_lt_of_cell? w1 _ r1.c0) hb2.size
  go_upto_region 5 with fail
  go_cut [10] (fun s wx => ∃ g : Nat, s = .pointer (some ⟨g, 0, none⟩) ∧ w3.heap.size ≤ g ∧ R3 wx g (.bool (sigB 64 x)) (.int .i64 (x % 4503599627370496)) (.int .i64 (-1074)) ∧ R3 wx w.heap.size (.bool false) (.int .i64 0) (.int .i64 0) ∧ R3 wx w2.heap.size (.int .u64 52) (.int .u64 2047) (.int .i64 (-1074)) ∧ Below w.heap.size w wx)
  case first =>
    go_region_with (first
      | (go_at_call 162; refine (impl_sig 64 x _ hT3.dr h0 h1').mono ?_; rintro e w4 ⟨rfl, hb4⟩; have rr4 := r3.dr.below hb4; have zz4 := z3.dr.below hb4; have l4s : w3.heap.size ≤ w4.heap.size := hb4.size; obtain ⟨zc0, zc1, zc2, zf0, zf1, zf2⟩ := zz4; have l4 : w2.heap.size < w4.heap.size := World.block_lt_of_cell? w4 _ zc0)
      | (go_at_call 162; refine (impl_sig 64 x _ (hT3.al _).dr h0 h1').mono ?_; rintro e w4 ⟨rfl, hb4⟩; have rr4 := (r3.al _).dr.below hb4; have zz4 := (z3.al _).dr.below hb4; obtain ⟨zc0, zc1, zc2, zf0, zf1, zf2⟩ := zz4; obtain ⟨pc0, pc1, pc2, pf0, pf1, pf2⟩ := (R3.new w3 _ _ _ _).dr.below hb4; have l4 : w2.heap.size < w4.heap.size := World.block_lt_of_cell? w4 _ zc0))
    all_goals (go_wp2_with fail; go_meet)
    all_goals first
      | exact ⟨w4.heap.size, rfl, l4s, R3.new w4 _ _ _ _, rr4.al _, R3.al ⟨zc0, zc1, zc2, zf0, zf1, zf2⟩ _, (by repeat (first | exact bz0 _ _ | refine bz1 ?_ | refine bz2 ?_ _ | refine bz3 ?_ _ | refine bz4 ?_ hb4 | refine bz4 ?_ hb3 | refine bz4 ?_ hb2 | refine bz4 ?_ hb1 | refine bz5 ?_ _ | refine bz6 ?_ _ | refine bz7 ?_ hb4 | refine bz7 ?_ hb3 | refine bz7 ?_ hb2 | refine bz7 ?_ hb1))⟩
      | exact ⟨w3.heap.size, rfl, Nat.le_refl _, R3.set ⟨pc0, pc1, pc2, pf0, pf1, pf2⟩ _ _ _, ((rr4.other (by simp; omega) _).other (by simp; omega) _).other (by simp; omega) _, ((R3.other ⟨zc0, zc1, zc2, zf0, zf1, zf2⟩ (by simp; omega) _).other (by simp; omega) _).other (by simp; omega) _, (by repeat (first | exact bz0 _ _ | refine bz1 ?_ | refine bz2 ?_ _ | refine bz3 ?_ _ | refine bz4 ?_ hb4 | refine bz4 ?_ hb3 | refine bz4 ?_ hb2 | refine bz4 ?_ hb1 | refine bz5 ?_ _ | refine bz6 ?_ _ | refine bz7 ?_ hb4 | refine bz7 ?_ hb3 | refine bz7 ?_ hb2 | refine bz7 ?_ hb1))⟩
  case rest =>
  obtain ⟨g, rfl, hg, pg, pr, pz, hbel⟩ := hcut
  obtain ⟨p0, p1, p2, q0, q1, q2⟩ := pg
  obtain ⟨rc0, rc1, rc2, rf0, rf1, rf2⟩ := pr
  obtain ⟨zc0, zc1, zc2, zf0, zf1, zf2⟩ := pz
  have hgw : w.heap.size < g := by omega
  have hgw2 : w2.heap.size < g := by omega
  by_cases hz : x / 4503599627370496 % 2048 = 0
  · have HP : Hid (x % 4503599627370496 = parM 4503599627370496 (x % 9223372036854775808)) := hid (by unfold parM; rw [← HM.out, if_pos hz]; exact HN.out)
    have HQ : Hid ((-1074) = parE 4503599627370496 (-1074) (x % 9223372036854775808)) := hid (by unfold parE; rw [← HM.out, if_pos hz])
    have hz' : ¬ 0 < x / 4503599627370496 % 2048 := by omega
    clear hz
    go_wp2
    exact bodyPost_ret (v := .tuple #[.agg #[.bool (sigB 64 x), .int .i64 (x % 4503599627370496), .int .i64 (-1074)], .bool true]) (by simp [results, Tryz.results163, go_sem, rc0, rc1, rc2, hgw]) rfl ⟨ret_parts HP.out HQ.out, (by repeat (first | exact bz0 _ _ | refine bz1 ?_ | refine bz2 ?_ _ | refine bz3 ?_ _ | refine bz4 ?_ hbel | refine bz5 ?_ _ | refine bz6 ?_ _ | refine bz7 ?_ hbel))⟩
  · have HP : Hid (x % 4503599627370496 + 4503599627370496 = parM 4503599627370496 (x % 9223372036854775808)) := hid (by unfold parM; rw [← HM.out, if_neg hz, ← HN.out])
    have HQ : Hid ((-1074) + (x / 4503599627370496 % 2048 - 1) = parE 4503599627370496 (-1074) (x % 9223372036854775808)) := hid (by unfold parE; rw [← HM.out, if_neg hz]; omega)
    have hz' : 0 < x / 4503599627370496 % 2048 := by omega
    clear hz
    go_wp2
    exact bodyPost_ret (v := .tuple #[.agg #[.bool (sigB 64 x), .int .i64 (x % 4503599627370496 + 4503599627370496), .int .i64 ((-1074) + (x / 4503599627370496 % 2048 - 1))], .bool true]) (by simp [results, Tryz.results163, go_sem, rc0, rc1, rc2, hgw]) rfl ⟨ret_parts HP.out HQ.out, (by repeat (first | exact bz0 _ _ | refine bz1 ?_ | refine bz2 ?_ _ | refine bz3 ?_ _ | refine bz4 ?_ hbel | refine bz5 ?_ _ | refine bz6 ?_ _ | refine bz7 ?_ hbel))⟩
end Go.Proofs.YtnliofakkkjpoaaGreatDoor
namespace Go.Proofs.YtnliofakkkjpoaaGreatDoor
set_option linter.unusedVariables false
set_option linter.unusedSimpArgs false
open Go.RowKit Go.Deep
theorem join_down (x y : Int) (hx : 0 ≤ x) (hx1 : x < 4294967296) (hy : 0 ≤ y) (hy1 : y < 4294967296) : bits .or .u64 (y * 4294967296) x = y * 4294967296 + x ∧ bits .or .u64 x (y * 4294967296) = y * 4294967296 + x := by
  obtain ⟨n, rfl⟩ := Int.eq_ofNat_of_zero_le hx
  obtain ⟨m, rfl⟩ := Int.eq_ofNat_of_zero_le hy
  have e : ((m * 2 ^ 32 : Nat) : Int) = (m : Int) * 4294967296 := by simp
  have h1 := u64_or_nat (m * 2 ^ 32) n (by omega) (by omega)
  have h2 := u64_or_nat n (m * 2 ^ 32) (by omega) (by omega)
  have hn : n < 2 ^ 32 := by omega
  have j := nat_join 32 (m * 2 ^ 32) n (Nat.mul_mod_left m (2 ^ 32)) hn
  rw [j, e] at h1
  rw [Nat.or_comm, j, e] at h2
  have e2 : ((m * 2 ^ 32 + n : Nat) : Int) = (m : Int) * 4294967296 + n := by rw [Int.natCast_add, e]
  rw [e2] at h1 h2
  exact ⟨h1, h2⟩
theorem mkN (N : Nat) (h : N ≤ 400000) : ∀ w : World, (Instr.makeSlice 22 (.int .i64 (N : Int)) (.int .i64 (N : Int))).run Tryz.prog w = .ok (.slice (some ⟨w.heap.size, 0, none⟩) N N) (w.alloc (.cells (madeCells #[.int .u32 0] N) 147)) :=
  run_make_row' (P := Tryz.prog) 22 147 (.int .u32 0) 4 Tryz.underlying22 info32 rfl .i64 .i64 N (by omega) (by omega)
theorem getD_ext {a b : List Int} (h : a.length = b.length) (hk : ∀ i, i < a.length → a.getD i 0 = b.getD i 0) : a = b := by
  apply List.ext_getElem h
  intro i h1 h2
  have := hk i h1
  simpa [List.getD_eq_getElem?_getD, h1, h2] using this
/-- What limbs shifted down are worth. -/
theorem sd_drop_val {xs : List Int} (dx : Nm.Dg xs) (wh r : Nat) (hr : r < 32) : Nm.val (Nm.sd ((2 : Int) ^ r) (xs.drop wh)) = Nm.val xs / Nm.pw wh / (2 : Int) ^ r := by
  obtain ⟨q, hq, e, hp⟩ := pq r hr
  rw [Nm.sd_val hp hq e (dx.drop wh), Nm.val_drop dx]
theorem down_any (a : Option Addr) (cap : Nat) (xs : List Int) (n : Int) (wh r : Nat) (w : World) (hx : Sl .u32 w (.slice a xs.length cap) xs) (dx : Nm.Dg xs) (hl : xs.length ≤ 400000) (hw : wh ≤ 400000) (hr : r < 32) (h0 : 0 ≤ n) (h1 : n ≤ 1000000) (hq : n / 32 = (wh : Int)) (hm : n % 32 = (r : Int)) :
    Calls Tryz.prog 183 #[.slice a xs.length cap, .int .i64 n] w fun e w' => ∃ a1 c1 os, e = .returned (.slice a1 os.length c1) ∧ Own w' w.heap.size a1 c1 os ∧ Nm.Dg os ∧ Nm.val os = Nm.val xs / Nm.pw wh / (2 : Int) ^ r ∧ os.length ≤ 1048576 ∧ Below w.heap.size w w' := by
  have HV := hid (sd_drop_val dx wh r hr)
  by_cases hc : xs.length ≤ wh
  · have HZ : Hid (Nm.val ([] : List Int) = Nm.val xs / Nm.pw wh / (2 : Int) ^ r) := hid (by
      rw [← HV.out, List.drop_eq_nil_of_le hc]; rfl)
    go_enter Tryz.func183, Tryz.ntmps183
    go_wp2
    go_ret
    exact ⟨none, 0, [], rfl, Own.nil _ _, Nm.Dg.nil, HZ.out, by simp, Below.refl _ _⟩
  · obtain ⟨N, hN⟩ : ∃ N, xs.length = wh + N := ⟨xs.length - wh, by omega⟩
    have HN := hid hN
    have e1 : (xs.length : Int) - (wh : Int) = (N : Int) := by omega
    have hN1 : xs.length ≤ wh + N := by omega
    have hN2 : wh + N ≤ xs.length := by omega
    have hmk := mkN N (by omega)
    obtain ⟨L, hL⟩ : ∃ L, L = Nm.sd ((2 : Int) ^ r) (xs.drop wh) := ⟨_, rfl⟩
    have hLl : L.length = N := by rw [hL, Nm.sd_length, List.length_drop]; omega
    have hLg : ∀ i, i < N → L.getD i 0 = (xs.getD (wh + i + 1) 0 * 4294967296 + xs.getD (wh + i) 0) / (2 : Int) ^ r % 4294967296 := fun i hi => by
      rw [hL, Nm.sd_getD _ _ _ (by rw [List.length_drop]; omega), Nm.getD_drop, Nm.getD_drop]
      rfl
    have hLd : Nm.Dg L := by rw [hL]; exact Nm.sd_dg _ _
    rw [← hL] at HV
    have HL := hid (And.intro hLl (And.intro hLg hLd))
    clear hLl hLg hLd hL hN
    obtain ⟨-, hx1, hx2, hx3⟩ := hx.cells
    have HX3 := hid hx3
    clear hx3
    go_enter Tryz.func183, Tryz.ntmps183
    go_wp2_with fail
    clear hmk
    simp only [hq, hm]
    go_loopw [25] (fun iv wr => ∃ i : Nat, ∃ os : List Int, i ≤ N ∧ iv = .int .i64 i ∧ os.length = N ∧ Rw wr w.heap.size os ∧ (∀ k, k < i → os.getD k 0 = L.getD k 0) ∧ Below w.heap.size w wr) (fun iv _ => N - (intOf iv).toNat)
    case atStart => exact ⟨0, List.replicate N 0, Nat.zero_le _, rfl, by simp, Rw.made w N, fun k hk => absurd hk (Nat.not_lt_zero _), (by repeat (first | exact bz0 _ _ | refine bz1 ?_ | refine bz2 ?_ _ | refine bz3 ?_ _ | refine bz5 ?_ _ | refine bz6 ?_ _))⟩
    case round =>
      obtain ⟨i, os, hi, rfl, hol, hrw, hpre, hb⟩ := hrel
      have H0 := hid (And.intro hol hpre)
      have hol1 : N ≤ os.length := by omega
      clear hol hpre
      by_cases hlt : i < N
      · obtain ⟨b, off, rfl, hcx⟩ := HX3.out (by omega)
        have hca0 := hcx (wh + i) (by omega)
        have hbl := World.block_lt_of_cell? w _ hca0
        have hca : wr.cell? ⟨b, off + (wh + i), none⟩ = some (.int .u32 (xs.getD (wh + i) 0)) := (hb.cell (p := ⟨b, off + (wh + i), none⟩) hbl).trans hca0
        have sx := hx.below hb
        have c2 := fun w' (h : Sl .u32 w' (.slice (some ⟨b, off, none⟩) xs.length cap) xs) => limbAt_any (some ⟨b, off, none⟩) cap xs (wh + i + 1) w' h (by omega) (by omega)
        have hd := HL.out.2.1 i hlt
        obtain ⟨ex0, ex1⟩ := dx.getD (wh + i)
        obtain ⟨ey0, ey1⟩ := dx.getD (wh + i + 1)
        obtain ⟨x, hxk⟩ : ∃ x, x = xs.getD (wh + i) 0 := ⟨_, rfl⟩
        obtain ⟨y, hyk⟩ : ∃ y, y = xs.getD (wh + i + 1) 0 := ⟨_, rfl⟩
        rw [← hxk] at hca ex0 ex1
        simp only [← hyk] at c2
        rw [← hyk] at ey0 ey1
        rw [← hxk, ← hyk] at hd
        have ecast : ((wh + i + 1 : Nat) : Int) = (wh : Int) + (i : Int) + 1 := by omega
        rw [ecast] at c2
        have hcell := hrw.cell (k := i) (by omega)
        have hfr := hrw.frozen i
        have HD := hid hd
        have C2 := hid c2
        obtain ⟨j1, j2⟩ := join_down x y ex0 ex1 ey0 ey1
        clear c2 hd hxk hyk hca0 hcx ecast j2
        have k0 : (0 : Int) ≤ (wh : Int) + (i : Int) := by omega
        have k1 : (wh : Int) + (i : Int) < (xs.length : Int) := by omega
        have k1b : ¬ ((wh : Int) + (i : Int) < 0) := by omega
        have k1c : ¬ ((xs.length : Int) ≤ (wh : Int) + (i : Int)) := by omega
        have k1d : ((wh : Int) + (i : Int)).toNat = wh + i := by omega
        have k1e : wh + i < xs.length := by omega
        have k4 : IntKind.i64.wrap ((wh : Int) + (i : Int)) = (wh : Int) + (i : Int) := by rw [IntKind.wrap_i64]; omega
        have k5 : IntKind.i64.wrap ((wh : Int) + (i : Int) + 1) = (wh : Int) + (i : Int) + 1 := by rw [IntKind.wrap_i64]; omega
        have k6 : IntKind.u64.wrap (y * 4294967296) = y * 4294967296 := by rw [IntKind.wrap_u64]; omega
        have k7 : IntKind.u64.wrap y = y := wrapu y ey0 (by omega)
        have k8 : IntKind.u64.wrap x = x := wrapu x ex0 (by omega)
        go_wp2_with fail
        go_region_held3 (fun w' => w'.cell? ⟨b, off + (wh + i), none⟩ = some (.int .u32 x)) (first | assumption | go_keep)
          (first | (go_at_call 207; refine (C2.out _ (by exact Sl.drew sx)).mono ?_; rintro e w' ⟨rfl, rfl⟩))
        go_wp2_with fail
        go_roundw
        case rel => exact ⟨i + 1, os.set i ((y * 4294967296 + x) / (2 : Int) ^ r % 4294967296), by omega, by go_num, by rw [List.length_set]; exact H0.out.1, hrw.set (by omega) _, fun k hk => by
          rw [Nm.getD_set _ _ _ _ (by omega)]
          by_cases e : k = i
          · rw [if_pos e, e, HD.out]
          · rw [if_neg e]; exact H0.out.2 k (by omega), (hb.drew).setCell (Nat.le_refl _) _⟩
        case measure => simp [intOf]; omega
      · obtain rfl : i = N := by omega
        have hlen := H0.out.1
        have hos : os = L := getD_ext (by rw [hlen, HL.out.1]) (fun k hk => H0.out.2 k (by omega))
        have hown := hrw.own (base := w.heap.size) (Nat.le_refl _) (by unfold maxLen; omega)
        have HF := hid (And.intro hown (And.intro hos hlen))
        clear hown hos hlen
        go_wp2
        go_ret
        exact ⟨some ⟨w.heap.size, 0, none⟩, os.length, os, by rw [HF.out.2.2]; rfl, HF.out.1, by rw [HF.out.2.1]; exact HL.out.2.2, by rw [HF.out.2.1]; exact HV.out, by have := HF.out.2.2; omega, hb⟩
end Go.Proofs.YtnliofakkkjpoaaGreatDoor
