/-
  What is needed of ShiftA, ShiftB.
-/
import Derived.Test.YtkfjmcdniohljaaGreatDoorF07
set_option maxHeartbeats 16000000
set_option maxRecDepth 1000000
namespace Go.Proofs.YtkfjmcdniohljaaGreatDoor
set_option linter.unusedVariables false
set_option linter.unusedSimpArgs false
open Go.RowKit Go.Deep
theorem mk3 (N M : Nat) (h : N ≤ 400000) (h' : M ≤ 400000) : ∀ w : World, (Instr.makeSlice 30 (.int .i64 ((N : Int) + (M : Int) + 1)) (.int .i64 ((N : Int) + (M : Int) + 1))).run Tryz.prog w = .ok (.slice (some ⟨w.heap.size, 0, none⟩) (N + M + 1) (N + M + 1)) (w.alloc (.cells (madeCells #[.int .u32 0] (N + M + 1)) 128)) :=
 run_make_row' (P := Tryz.prog) 30 128 (.int .u32 0) 4 Tryz.underlying30 info32 rfl .i64 .i64 (N + M + 1) (by omega) (by omega)
theorem pq (r : Nat) (hr : r < 32) : ∃ q : Int, 1 ≤ q ∧ (2 : Int) ^ r * q = 4294967296 ∧ 1 ≤ (2 : Int) ^ r := by
 refine ⟨(2 : Int) ^ (32 - r), ?_, ?_, ?_⟩
 ·exact Int.pow_pos (by decide)
 ·rw [← Int.pow_add, show r + (32 - r) = 32 by omega]; decide
 ·exact Int.pow_pos (by decide)
theorem wrapu (t : Int) (h0 : 0 ≤ t) (h1 : t < 18446744073709551616) : IntKind.u64.wrap t = t := by rw [IntKind.wrap_u64]; omega
theorem or_up (o x : Int) (r : Nat) (hr : r < 32) (ho : 0 ≤ o) (ho1 : o < (2 : Int) ^ r) (hx : 0 ≤ x) (hx1 : x < 4294967296) : bits .or .u32 o (x * (2 : Int) ^ r % 4294967296) = o + x * (2 : Int) ^ r % 4294967296 := by
 obtain ⟨q, hq, e, hp⟩ := pq r hr
 obtain ⟨u0, u1, u2, u3, u4, u5⟩ := Nm.up_parts (x := x) (p := (2 : Int) ^ r) (q := q) ⟨hx, hx1⟩ hp hq e
 have em : x * (2 : Int) ^ r % 4294967296 = (2 : Int) ^ r * (x % q) := by rw [← e, Int.mul_comm x, Int.mul_emod_mul_of_pos x q (by omega)]
 have hq0 := Int.emod_nonneg x (show q ≠ 0 by omega)
 obtain ⟨O, rfl⟩ := Int.eq_ofNat_of_zero_le ho
 obtain ⟨Q, hQ⟩ := Int.eq_ofNat_of_zero_le hq0
 obtain ⟨A, hA⟩ := Int.eq_ofNat_of_zero_le u2
 have hAQ : A = 2 ^ r * Q := by
  have h : (A : Int) = (2 : Int) ^ r * (Q : Int) := by rw [← hA, ← hQ]; exact em
  have h2 : ((2 ^ r * Q : Nat) : Int) = (2 : Int) ^ r * (Q : Int) := by simp
  omega
 have hO : O < 2 ^ r := by
  have h2 : ((2 ^ r : Nat) : Int) = (2 : Int) ^ r := by simp
  omega
 rw [hA, u32_or_nat O A (by omega) (by omega), Nat.or_comm, nat_join r A O (by rw [hAQ]; exact Nat.mul_mod_right _ _) hO]
 omega
theorem up_any (a : Option Addr) (cap : Nat) (xs : List Int) (n : Int) (wh r : Nat) (w : World) (hx : Sl .u32 w (.slice a xs.length cap) xs) (dx : Nm.Dg xs) (hl : xs.length ≤ 400000) (hw : wh ≤ 400000) (hr : r < 32) (h0 : 0 ≤ n) (h1 : n ≤ 1000000) (hq : n / 32 = (wh : Int)) (hm : n % 32 = (r : Int)) :
  Calls Tryz.prog 107 #[.slice a xs.length cap, .int .i64 n] w fun e w' => ∃ a1 c1 os, e = .returned (.slice a1 os.length c1) ∧ Own w' w.heap.size a1 c1 os ∧ Nm.Dg os ∧ Nm.val os = Nm.pw wh * ((2 : Int) ^ r * Nm.val xs) ∧ os.length ≤ 1048576 ∧ Below w.heap.size w w' := by
 have hmk := mk3 wh xs.length hw hl
 obtain ⟨q, hp⟩ := pq r hr
 have HP := hid hp
 clear hp
 obtain ⟨-, hx1, hx2, hx3⟩ := hx.cells
 have HX3 := hid hx3
 clear hx3
 go_enter Tryz.func107, Tryz.ntmps107
 go_wp2_with fail
 clear hmk
 go_loopw [23] (fun iv wr => ∃ i : Nat, ∃ os : List Int, i ≤ xs.length ∧ iv = .int .i64 i ∧ os.length = wh + xs.length + 1 ∧ Rw wr w.heap.size os ∧ Nm.UpAt xs os wh ((2 : Int) ^ r) i ∧ Below w.heap.size w wr) (fun iv _ => xs.length - (intOf iv).toNat)
 case atStart => exact ⟨0, List.replicate (wh + xs.length + 1) 0, Nat.zero_le _, rfl, by simp, Rw.made w _, Nm.UpAt.zero _ _ _ _ HP.out.2.2, (by repeat (first | exact bz0 _ _ | refine bz1 ?_ | refine bz2 ?_ _ | refine bz3 ?_ _ | refine bz5 ?_ _ | refine bz6 ?_ _))⟩
 case round =>
  obtain ⟨i, os, hi, rfl, hol, hrw, hup, hb⟩ := hrel
  have H0 := hid (And.intro hol hup)
  have hol1 : wh + xs.length + 1 ≤ os.length := by omega
  clear hol hup
  by_cases hlt : i < xs.length
  ·obtain ⟨b, off, rfl, hcx⟩ := HX3.out (by omega)
   have hca0 := hcx i hlt
   have hbl := World.block_lt_of_cell? w _ hca0
   have hca : wr.cell? ⟨b, off + i, none⟩ = some (.int .u32 (xs.getD i 0)) := (hb.cell (p := ⟨b, off + i, none⟩) hbl).trans hca0
   obtain ⟨ex0, ex1⟩ := dx.getD i
   obtain ⟨x, hxk⟩ : ∃ x, x = xs.getD i 0 := ⟨_, rfl⟩
   rw [← hxk] at hca ex0 ex1
   have HXK := hid hxk
   have hcell := hrw.cell (k := wh + i) (by omega)
   have hfr := hrw.frozen (wh + i)
   have hcell' := hrw.cell (k := wh + i + 1) (by omega)
   have hfr' := hrw.frozen (wh + i + 1)
   obtain ⟨o, hok⟩ : ∃ o, o = os.getD (wh + i) 0 := ⟨_, rfl⟩
   rw [← hok] at hcell
   have hlo := H0.out.2.lo
   have hog := H0.out.2.d.getD (wh + i)
   have hst := H0.out.2.step HP.out.2.2 HP.out.1 HP.out.2.1 dx (show wh + i + 1 < os.length by omega)
   rw [← hok] at hlo hog hst
   rw [← HXK.out] at hst
   obtain ⟨p0, p1, p2, p3, p4, p5⟩ := Nm.up_parts (x := x) (p := (2 : Int) ^ r) (q := q) ⟨ex0, ex1⟩ HP.out.2.2 HP.out.1 HP.out.2.1
   have hpb : (2 : Int) ^ r ≤ 4294967296 := by omega
   have k1 := wrapu _ p0 p1
   have k2 := or_up o x r hr hog.1 hlo ex0 ex1
   have k3 : x * (2 : Int) ^ r / 4294967296 % 4294967296 = x * (2 : Int) ^ r / 4294967296 := by omega
   have HK := hid (And.intro k1 (And.intro k2 k3))
   have HST := hid hst
   clear hxk hca0 hcx hok hst k1 k2 k3 hlo hog p0 p1 p2 p3 p4 p5 hpb
   go_wp2_with fail
   rw [HK.out.1, HK.out.2.1, HK.out.2.2]
   go_roundw
   case rel => exact ⟨i + 1, (os.set (wh + i) (o + x * (2 : Int) ^ r % 4294967296)).set (wh + i + 1) (x * (2 : Int) ^ r / 4294967296), by omega, by go_num, by rw [List.length_set, List.length_set]; exact H0.out.1, (hrw.set (by omega) _).set (by rw [List.length_set]; omega) _, HST.out, (hb.setCell (Nat.le_refl _) _).setCell (Nat.le_refl _) _⟩
   case measure => simp [intOf]; omega
  ·obtain rfl : i = xs.length := by omega
   have hlen := H0.out.1
   have hown := hrw.own (base := w.heap.size) (Nat.le_refl _) (by unfold maxLen; omega)
   have hfull := H0.out.2.full
   have HF := hid (And.intro hown (And.intro hfull hlen))
   clear hown hfull hlen
   go_wp2
   go_ret
   exact ⟨some ⟨w.heap.size, 0, none⟩, os.length, os, by rw [HF.out.2.2]; rfl, HF.out.1, H0.out.2.d, HF.out.2.1, by have := HF.out.2.2; omega, hb⟩
theorem join_down (x y : Int) (hx : 0 ≤ x) (hx1 : x < 4294967296) (hy : 0 ≤ y) (hy1 : y < 4294967296) : bits .or .u64 (y * 4294967296) x = y * 4294967296 + x ∧ bits .or .u64 x (y * 4294967296) = y * 4294967296 + x := by
 obtain ⟨n, rfl⟩ := Int.eq_ofNat_of_zero_le hx
 obtain ⟨m, rfl⟩ := Int.eq_ofNat_of_zero_le hy
 have e : ((m * 2 ^ 32 : Nat) : Int) = (m : Int) * 4294967296 := by simp
 have h1 := u64_or_nat (m * 2 ^ 32) n (by omega) (by omega)
 have h2 := u64_or_nat n (m * 2 ^ 32) (by omega) (by omega)
 have hn : n < 2 ^ 32 := by omega
 have j := nat_join 32 (m * 2 ^ 32) n (Nat.mul_mod_left m (2 ^ 32)) hn
 rw [j, e] at h1
 rw [Nat.or_comm, j, e] at h2
 have e2 : ((m * 2 ^ 32 + n : Nat) : Int) = (m : Int) * 4294967296 + n := by rw [Int.natCast_add, e]
 rw [e2] at h1 h2
 exact ⟨h1, h2⟩
theorem mkN (N : Nat) (h : N ≤ 400000) : ∀ w : World, (Instr.makeSlice 30 (.int .i64 (N : Int)) (.int .i64 (N : Int))).run Tryz.prog w = .ok (.slice (some ⟨w.heap.size, 0, none⟩) N N) (w.alloc (.cells (madeCells #[.int .u32 0] N) 128)) :=
 run_make_row' (P := Tryz.prog) 30 128 (.int .u32 0) 4 Tryz.underlying30 info32 rfl .i64 .i64 N (by omega) (by omega)
theorem getD_ext {a b : List Int} (h : a.length = b.length) (hk : ∀ i, i < a.length → a.getD i 0 = b.getD i 0) : a = b := by
 apply List.ext_getElem h
 intro i h1 h2
 have := hk i h1
 simpa [List.getD_eq_getElem?_getD, h1, h2] using this
theorem sd_drop_val {xs : List Int} (dx : Nm.Dg xs) (wh r : Nat) (hr : r < 32) : Nm.val (Nm.sd ((2 : Int) ^ r) (xs.drop wh)) = Nm.val xs / Nm.pw wh / (2 : Int) ^ r := by
 obtain ⟨q, hq, e, hp⟩ := pq r hr
 rw [Nm.sd_val hp hq e (dx.drop wh), Nm.val_drop dx]
theorem down_any (a : Option Addr) (cap : Nat) (xs : List Int) (n : Int) (wh r : Nat) (w : World) (hx : Sl .u32 w (.slice a xs.length cap) xs) (dx : Nm.Dg xs) (hl : xs.length ≤ 400000) (hw : wh ≤ 400000) (hr : r < 32) (h0 : 0 ≤ n) (h1 : n ≤ 1000000) (hq : n / 32 = (wh : Int)) (hm : n % 32 = (r : Int)) :
  Calls Tryz.prog 106 #[.slice a xs.length cap, .int .i64 n] w fun e w' => ∃ a1 c1 os, e = .returned (.slice a1 os.length c1) ∧ Own w' w.heap.size a1 c1 os ∧ Nm.Dg os ∧ Nm.val os = Nm.val xs / Nm.pw wh / (2 : Int) ^ r ∧ os.length ≤ 1048576 ∧ Below w.heap.size w w' := by
 have HV := hid (sd_drop_val dx wh r hr)
 by_cases hc : xs.length ≤ wh
 ·have HZ : Hid (Nm.val ([] : List Int) = Nm.val xs / Nm.pw wh / (2 : Int) ^ r) := hid (by
   rw [← HV.out, List.drop_eq_nil_of_le hc]; rfl)
  go_enter Tryz.func106, Tryz.ntmps106
  go_wp2
  go_ret
  exact ⟨none, 0, [], rfl, Own.nil _ _, Nm.Dg.nil, HZ.out, by simp, Below.refl _ _⟩
 ·obtain ⟨N, hN⟩ : ∃ N, xs.length = wh + N := ⟨xs.length - wh, by omega⟩
  have HN := hid hN
  have e1 : (xs.length : Int) - (wh : Int) = (N : Int) := by omega
  have hN1 : xs.length ≤ wh + N := by omega
  have hN2 : wh + N ≤ xs.length := by omega
  have hmk := mkN N (by omega)
  obtain ⟨L, hL⟩ : ∃ L, L = Nm.sd ((2 : Int) ^ r) (xs.drop wh) := ⟨_, rfl⟩
  have hLl : L.length = N := by rw [hL, Nm.sd_length, List.length_drop]; omega
  have hLg : ∀ i, i < N → L.getD i 0 = (xs.getD (wh + i + 1) 0 * 4294967296 + xs.getD (wh + i) 0) / (2 : Int) ^ r % 4294967296 := fun i hi => by
   rw [hL, Nm.sd_getD _ _ _ (by rw [List.length_drop]; omega), Nm.getD_drop, Nm.getD_drop]
   rfl
  have hLd : Nm.Dg L := by rw [hL]; exact Nm.sd_dg _ _
  rw [← hL] at HV
  have HL := hid (And.intro hLl (And.intro hLg hLd))
  clear hLl hLg hLd hL hN
  obtain ⟨-, hx1, hx2, hx3⟩ := hx.cells
  have HX3 := hid hx3
  clear hx3
  go_enter Tryz.func106, Tryz.ntmps106
  go_wp2_with fail
  clear hmk
  simp only [hq, hm]
  go_loopw [25] (fun iv wr => ∃ i : Nat, ∃ os : List Int, i ≤ N ∧ iv = .int .i64 i ∧ os.length = N ∧ Rw wr w.heap.size os ∧ (∀ k, k < i → os.getD k 0 = L.getD k 0) ∧ Below w.heap.size w wr) (fun iv _ => N - (intOf iv).toNat)
  case atStart => exact ⟨0, List.replicate N 0, Nat.zero_le _, rfl, by simp, Rw.made w N, fun k hk => absurd hk (Nat.not_lt_zero _), (by repeat (first | exact bz0 _ _ | refine bz1 ?_ | refine bz2 ?_ _ | refine bz3 ?_ _ | refine bz5 ?_ _ | refine bz6 ?_ _))⟩
  case round =>
   obtain ⟨i, os, hi, rfl, hol, hrw, hpre, hb⟩ := hrel
   have H0 := hid (And.intro hol hpre)
   have hol1 : N ≤ os.length := by omega
   clear hol hpre
   by_cases hlt : i < N
   ·obtain ⟨b, off, rfl, hcx⟩ := HX3.out (by omega)
    have hca0 := hcx (wh + i) (by omega)
    have hbl := World.block_lt_of_cell? w _ hca0
    have hca : wr.cell? ⟨b, off + (wh + i), none⟩ = some (.int .u32 (xs.getD (wh + i) 0)) := (hb.cell (p := ⟨b, off + (wh + i), none⟩) hbl).trans hca0
    have sx := hx.below hb
    have c2 := fun w' (h : Sl .u32 w' (.slice (some ⟨b, off, none⟩) xs.length cap) xs) => limbAt_any (some ⟨b, off, none⟩) cap xs (wh + i + 1) w' h (by omega) (by omega)
    have hd := HL.out.2.1 i hlt
    obtain ⟨ex0, ex1⟩ := dx.getD (wh + i)
    obtain ⟨ey0, ey1⟩ := dx.getD (wh + i + 1)
    obtain ⟨x, hxk⟩ : ∃ x, x = xs.getD (wh + i) 0 := ⟨_, rfl⟩
    obtain ⟨y, hyk⟩ : ∃ y, y = xs.getD (wh + i + 1) 0 := ⟨_, rfl⟩
    rw [← hxk] at hca ex0 ex1
    simp only [← hyk] at c2
    rw [← hyk] at ey0 ey1
    rw [← hxk, ← hyk] at hd
    have ecast : ((wh + i + 1 : Nat) : Int) = (wh : Int) + (i : Int) + 1 := by omega
    rw [ecast] at c2
    have hcell := hrw.cell (k := i) (by omega)
    have hfr := hrw.frozen i
    have HD := hid hd
    have C2 := hid c2
    obtain ⟨j1, j2⟩ := join_down x y ex0 ex1 ey0 ey1
    clear c2 hd hxk hyk hca0 hcx ecast j2
    have k0 : (0 : Int) ≤ (wh : Int) + (i : Int) := by omega
    have k1 : (wh : Int) + (i : Int) < (xs.length : Int) := by omega
    have k1b : ¬ ((wh : Int) + (i : Int) < 0) := by omega
    have k1c : ¬ ((xs.length : Int) ≤ (wh : Int) + (i : Int)) := by omega
    have k1d : ((wh : Int) + (i : Int)).toNat = wh + i := by omega
    have k1e : wh + i < xs.length := by omega
    have k4 : IntKind.i64.wrap ((wh : Int) + (i : Int)) = (wh : Int) + (i : Int) := by rw [IntKind.wrap_i64]; omega
    have k5 : IntKind.i64.wrap ((wh : Int) + (i : Int) + 1) = (wh : Int) + (i : Int) + 1 := by rw [IntKind.wrap_i64]; omega
    have k6 : IntKind.u64.wrap (y * 4294967296) = y * 4294967296 := by rw [IntKind.wrap_u64]; omega
    have k7 : IntKind.u64.wrap y = y := wrapu y ey0 (by omega)
    have k8 : IntKind.u64.wrap x = x := wrapu x ex0 (by omega)
    go_wp2_with fail
    go_region_held3 (fun w' => w'.cell? ⟨b, off + (wh + i), none⟩ = some (.int .u32 x)) (first | assumption | go_keep)
     (first | (go_at_call 194; refine (C2.out _ (by exact Sl.drew sx)).mono ?_; rintro e w' ⟨rfl, rfl⟩))
    go_wp2_with fail
    go_roundw
    case rel => exact ⟨i + 1, os.set i ((y * 4294967296 + x) / (2 : Int) ^ r % 4294967296), by omega, by go_num, by rw [List.length_set]; exact H0.out.1, hrw.set (by omega) _, fun k hk => by
     rw [Nm.getD_set _ _ _ _ (by omega)]
     by_cases e : k = i
     ·rw [if_pos e, e, HD.out]
     ·rw [if_neg e]; exact H0.out.2 k (by omega), (hb.drew).setCell (Nat.le_refl _) _⟩
    case measure => simp [intOf]; omega
   ·obtain rfl : i = N := by omega
    have hlen := H0.out.1
    have hos : os = L := getD_ext (by rw [hlen, HL.out.1]) (fun k hk => H0.out.2 k (by omega))
    have hown := hrw.own (base := w.heap.size) (Nat.le_refl _) (by unfold maxLen; omega)
    have HF := hid (And.intro hown (And.intro hos hlen))
    clear hown hos hlen
    go_wp2
    go_ret
    exact ⟨some ⟨w.heap.size, 0, none⟩, os.length, os, by rw [HF.out.2.2]; rfl, HF.out.1, by rw [HF.out.2.1]; exact HL.out.2.2, by rw [HF.out.2.1]; exact HV.out, by have := HF.out.2.2; omega, hb⟩
end Go.Proofs.YtkfjmcdniohljaaGreatDoor
