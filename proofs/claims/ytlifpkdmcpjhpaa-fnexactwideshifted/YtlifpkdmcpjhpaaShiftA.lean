/-
  Limbs shifted up, by the program.
-/
import Derived.Test.YtlifpkdmcpjhpaaWideP
namespace Go.Proofs.Ytlifpkdmcpjhpaa
set_option linter.unusedVariables false
set_option linter.unusedSimpArgs false
open Go.RowKit Go.Deep
theorem mk3 (N M : Nat) (h : N ≤ 400000) (h' : M ≤ 400000) : ∀ w : World, (Instr.makeSlice 24 (.int .i64 ((N : Int) + (M : Int) + 1)) (.int .i64 ((N : Int) + (M : Int) + 1))).run Try.prog w = .ok (.slice (some ⟨w.heap.size, 0, none⟩) (N + M + 1) (N + M + 1)) (w.alloc (.cells (madeCells #[.int .u32 0] (N + M + 1)) 68)) :=
  run_make_row' (P := Try.prog) 24 68 (.int .u32 0) 4 Try.underlying24 info32 rfl .i64 .i64 (N + M + 1) (by omega) (by omega)
theorem pq (r : Nat) (hr : r < 32) : ∃ q : Int, 1 ≤ q ∧ (2 : Int) ^ r * q = 4294967296 ∧ 1 ≤ (2 : Int) ^ r := by
  refine ⟨(2 : Int) ^ (32 - r), ?_, ?_, ?_⟩
  · exact Int.pow_pos (by decide)
  · rw [← Int.pow_add, show r + (32 - r) = 32 by omega]; decide
  · exact Int.pow_pos (by decide)
theorem wrapu (t : Int) (h0 : 0 ≤ t) (h1 : t < 18446744073709551616) : IntKind.u64.wrap t = t := by rw [IntKind.wrap_u64]; omega
/-- What a limb is, and what is put to it above. -/
theorem or_up (o x : Int) (r : Nat) (hr : r < 32) (ho : 0 ≤ o) (ho1 : o < (2 : Int) ^ r) (hx : 0 ≤ x) (hx1 : x < 4294967296) : bits .or .u32 o (x * (2 : Int) ^ r % 4294967296) = o + x * (2 : Int) ^ r % 4294967296 := by
  obtain ⟨q, hq, e, hp⟩ := pq r hr
  obtain ⟨u0, u1, u2, u3, u4, u5⟩ := Nm.up_parts (x := x) (p := (2 : Int) ^ r) (q := q) ⟨hx, hx1⟩ hp hq e
  have em : x * (2 : Int) ^ r % 4294967296 = (2 : Int) ^ r * (x % q) := by rw [← e, Int.mul_comm x, Int.mul_emod_mul_of_pos x q (by omega)]
  have hq0 := Int.emod_nonneg x (show q ≠ 0 by omega)
  obtain ⟨O, rfl⟩ := Int.eq_ofNat_of_zero_le ho
  obtain ⟨Q, hQ⟩ := Int.eq_ofNat_of_zero_le hq0
  obtain ⟨A, hA⟩ := Int.eq_ofNat_of_zero_le u2
  have hAQ : A = 2 ^ r * Q := by
    have h : (A : Int) = (2 : Int) ^ r * (Q : Int) := by rw [← hA, ← hQ]; exact em
    have h2 : ((2 ^ r * Q : Nat) : Int) = (2 : Int) ^ r * (Q : Int) := by simp
    omega
  have hO : O < 2 ^ r := by
    have h2 : ((2 ^ r : Nat) : Int) = (2 : Int) ^ r := by simp
    omega
  rw [hA, u32_or_nat O A (by omega) (by omega), Nat.or_comm, nat_join r A O (by rw [hAQ]; exact Nat.mul_mod_right _ _) hO]
  omega
set_option maxRecDepth 10000 in
set_option maxHeartbeats 1600000 in
theorem up_any (a : Option Addr) (cap : Nat) (xs : List Int) (n : Int) (wh r : Nat) (w : World) (hx : Sl .u32 w (.slice a xs.length cap) xs) (dx : Nm.Dg xs) (hl : xs.length ≤ 400000) (hw : wh ≤ 400000) (hr : r < 32) (h0 : 0 ≤ n) (h1 : n ≤ 1000000) (hq : n / 32 = (wh : Int)) (hm : n % 32 = (r : Int)) :
    Calls Try.prog 75 #[.slice a xs.length cap, .int .i64 n] w fun e w' => ∃ a1 c1 os, e = .returned (.slice a1 os.length c1) ∧ Own w' w.heap.size a1 c1 os ∧ Nm.Dg os ∧ Nm.val os = Nm.pw wh * ((2 : Int) ^ r * Nm.val xs) ∧ os.length ≤ 1048576 ∧ Below w.heap.size w w' := by
  have hmk := mk3 wh xs.length hw hl
  obtain ⟨q, hp⟩ := pq r hr
  have HP := hid hp
  clear hp
  obtain ⟨-, hx1, hx2, hx3⟩ := hx.cells
  have HX3 := hid hx3
  clear hx3
  go_enter Try.func75, Try.ntmps75
  go_wp2_with fail
  clear hmk
  go_loopw [23] (fun iv wr => ∃ i : Nat, ∃ os : List Int, i ≤ xs.length ∧ iv = .int .i64 i ∧ os.length = wh + xs.length + 1 ∧ Rw wr w.heap.size os ∧ Nm.UpAt xs os wh ((2 : Int) ^ r) i ∧ Below w.heap.size w wr) (fun iv _ => xs.length - (intOf iv).toNat)
  case atStart => exact ⟨0, List.replicate (wh + xs.length + 1) 0, Nat.zero_le _, rfl, by simp, Rw.made w _, Nm.UpAt.zero _ _ _ _ HP.out.2.2, (by repeat (first | exact Below.refl _ _ | refine Below.drew ?_ | refine bel_dn ?_ _ | refine bel_al ?_ _ | refine Below.setCell ?_ (by first | omega | (simp; done) | (simp; omega)) _ | refine Below.alloc ?_ (by first | omega | (simp; done) | (simp; omega)) _))⟩
  case round =>
    obtain ⟨i, os, hi, rfl, hol, hrw, hup, hb⟩ := hrel
    have H0 := hid (And.intro hol hup)
    have hol1 : wh + xs.length + 1 ≤ os.length := by omega
    clear hol hup
    by_cases hlt : i < xs.length
    · obtain ⟨b, off, rfl, hcx⟩ := HX3.out (by omega)
      have hca0 := hcx i hlt
      have hbl := World.block_lt_of_cell? w _ hca0
      have hca : wr.cell? ⟨b, off + i, none⟩ = some (.int .u32 (xs.getD i 0)) := (hb.cell (p := ⟨b, off + i, none⟩) hbl).trans hca0
      obtain ⟨ex0, ex1⟩ := dx.getD i
      obtain ⟨x, hxk⟩ : ∃ x, x = xs.getD i 0 := ⟨_, rfl⟩
      rw [← hxk] at hca ex0 ex1
      have HXK := hid hxk
      have hcell := hrw.cell (k := wh + i) (by omega)
      have hfr := hrw.frozen (wh + i)
      have hcell' := hrw.cell (k := wh + i + 1) (by omega)
      have hfr' := hrw.frozen (wh + i + 1)
      obtain ⟨o, hok⟩ : ∃ o, o = os.getD (wh + i) 0 := ⟨_, rfl⟩
      rw [← hok] at hcell
      have hlo := H0.out.2.lo
      have hog := H0.out.2.d.getD (wh + i)
      have hst := H0.out.2.step HP.out.2.2 HP.out.1 HP.out.2.1 dx (show wh + i + 1 < os.length by omega)
      rw [← hok] at hlo hog hst
      rw [← HXK.out] at hst
      obtain ⟨p0, p1, p2, p3, p4, p5⟩ := Nm.up_parts (x := x) (p := (2 : Int) ^ r) (q := q) ⟨ex0, ex1⟩ HP.out.2.2 HP.out.1 HP.out.2.1
      have hpb : (2 : Int) ^ r ≤ 4294967296 := by omega
      have k1 := wrapu _ p0 p1
      have k2 := or_up o x r hr hog.1 hlo ex0 ex1
      have k3 : x * (2 : Int) ^ r / 4294967296 % 4294967296 = x * (2 : Int) ^ r / 4294967296 := by omega
      have HK := hid (And.intro k1 (And.intro k2 k3))
      have HST := hid hst
      clear hxk hca0 hcx hok hst k1 k2 k3 hlo hog p0 p1 p2 p3 p4 p5 hpb
      go_wp2_with fail
      rw [HK.out.1, HK.out.2.1, HK.out.2.2]
      go_roundw
      case rel => exact ⟨i + 1, (os.set (wh + i) (o + x * (2 : Int) ^ r % 4294967296)).set (wh + i + 1) (x * (2 : Int) ^ r / 4294967296), by omega, by go_num, by rw [List.length_set, List.length_set]; exact H0.out.1, (hrw.set (by omega) _).set (by rw [List.length_set]; omega) _, HST.out, (hb.setCell (Nat.le_refl _) _).setCell (Nat.le_refl _) _⟩
      case measure => simp [intOf]; omega
    · obtain rfl : i = xs.length := by omega
      have hlen := H0.out.1
      have hown := hrw.own (base := w.heap.size) (Nat.le_refl _) (by unfold maxLen; omega)
      have hfull := H0.out.2.full
      have HF := hid (And.intro hown (And.intro hfull hlen))
      clear hown hfull hlen
      go_wp2
      go_ret
      exact ⟨some ⟨w.heap.size, 0, none⟩, os.length, os, by rw [HF.out.2.2]; rfl, HF.out.1, H0.out.2.d, HF.out.2.1, by have := HF.out.2.2; omega, hb⟩
end Go.Proofs.Ytlifpkdmcpjhpaa
