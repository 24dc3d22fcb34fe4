/-
  A wide's hexadecimal text, by both.
-/
import Derived.Test.YtmnfidkpnogfmaaSGo
import Derived.Test.YtmnfidkpnogfmaaWideG
import Derived.Test.YtmnfidkpnogfmaaK08
import Derived.Deep.AppendLies
import Derived.WalkKit
namespace Go.Proofs.Ytmnfidkpnogfmaa
set_option linter.unusedVariables false
set_option linter.unusedSimpArgs false
open Go.RowKit Go.Deep
set_option maxHeartbeats 8000000 in
set_option maxRecDepth 100000 in
theorem wt_spec (ng : Bool) (a : Option Addr) (cap : Nat) (zs : List Int) (w : World) (hs : Sl .u32 w (.slice a zs.length cap) zs) (hz : Nm.Dg zs) (hl : zs.length ≤ 1048576) (ho : okB ng zs = true) (h0 : zs.length ≠ 0) (n N : Nat) (hn : blL zs = (n : Int)) (hn0 : 0 < n) (hn1 : n ≤ 32 * zs.length) (hN : N = (n - 1) / 4 + 1) :
    Calls Try.prog 40 #[.agg #[.bool ng, .slice a zs.length cap]] w fun e w' => e = .returned (.string (txt ng (rdig zs N))) ∧ Below w.heap.size w w' := by
  obtain ⟨i0, hi, hz0, hz1, hz2⟩ := info_parts info8
  have HI := hid (And.intro hi (And.intro hz0 (And.intro hz1 hz2)))
  clear hi hz0 hz1 hz2
  have CO := hid (fun w' h => ok_spec ng a cap zs w' h (by omega))
  rw [ho] at CO
  have CB := hid (fun w' h => l1Bits_any ng a cap zs w' h hz hl)
  rw [hn] at CB
  obtain ⟨t, ht⟩ : ∃ t : Int, t = (n : Int) - 1 := ⟨_, rfl⟩
  have hw0 : wrap64 ((n : Int) - 1) = t := by rw [ht]; unfold wrap64; omega
  obtain ⟨q, hq⟩ : ∃ q : Int, q = (N : Int) - 1 := ⟨_, rfl⟩
  have hq1 : t.tdiv 4 = q := by rw [Int.tdiv_eq_ediv_of_nonneg (by omega)]; omega
  have hq2 : wrap64 q = q := by rw [hq]; unfold wrap64; omega
  have HQ := hid hq
  have ht0 : 0 ≤ t := by omega
  have hN8 : N ≤ 8 * zs.length := by omega
  have hNp : 0 < N := by omega
  have HNP := hid hNp
  clear ho hn ht hN hn0 hn1 hq hNp
  have B1 := Box.new w (.bool ng) (.slice a zs.length cap) 65
  have bel := bel_al (Below.refl w.heap.size w) (.cells #[.bool ng, .slice a zs.length cap] 65)
  have s1 := hs.alloc (.cells #[.bool ng, .slice a zs.length cap] 65)
  obtain ⟨c0, c1⟩ := id B1
  go_enter Try.func40, Try.ntmps40
  go_wp2_with fail
  refine (CO.out _ s1).mono ?_
  rintro e w1 ⟨rfl, hb⟩
  clear c0 c1
  have hsz1 := hb.size
  simp at hsz1
  replace B1 := B1.below hb
  replace bel := bel_go bel hb
  replace s1 := s1.below hb
  clear hb
  obtain ⟨c0, c1⟩ := id B1
  have e0 : ((zs.length : Int) == 0) = false := by simpa using h0
  have O := o1_buf (w := w1) (B := w.heap.size + 1) (by omega)
  replace B1 := B1.alloc (.cells #[] 5)
  replace bel := bel_al bel (.cells #[] 5)
  obtain ⟨d0, d1⟩ := id B1
  go_wp2_with fail
  refine (CB.out _ (s1.alloc _)).mono ?_
  rintro e w2 ⟨rfl, hb⟩
  clear c0 c1 d0 d1
  replace O := O.below hb
  replace B1 := B1.below hb
  replace bel := bel_go bel hb
  clear hb s1 CO CB
  obtain ⟨c0, c1⟩ := id B1
  have HR := hid O
  have HB1 := hid B1
  clear O B1
  go_wp2_with fail
  simp only [hw0, hq2]
  go_loopw [3, 4] (fun sl iv wr => ∃ (a1 : Option Addr) (cp : Nat) (os : List Int) (m : Nat), sl = .slice a1 os.length cp ∧ iv = .int .i64 ((m : Int) - 1) ∧ m ≤ N ∧ os ++ rdig zs m = rdig zs N ∧ O1 wr (w.heap.size + 1) a1 cp os ∧ Box wr w.heap.size (.bool ng) (.slice a zs.length cap) ∧ Below w.heap.size w wr) (fun _ iv _ => (intOf iv + 1).toNat)
  case atStart => exact ⟨some ⟨w1.heap.size, 0, none⟩, 0, [], N, rfl, by rw [HQ.out], Nat.le_refl _, rfl, HR.out, HB1.out, bel⟩
  case round =>
    obtain ⟨a1, cp, os, m, rfl, rfl, hm, hos, O, B1, bel⟩ := hrel
    obtain ⟨c0, c1⟩ := id B1
    cases m with
    | zero =>
      have e0 : (((0 : Nat) : Int) - 1) = -1 := by decide
      rw [e0]
      obtain ⟨g, rfl⟩ : ∃ g, a1 = some ⟨g, 0, none⟩ := by
        rcases O.block with ⟨_, _, rfl⟩ | ⟨g, rfl, _⟩
        · exfalso
          have := congrArg List.length hos
          have hnp := HNP.out
          simp [rdig, rdig_len] at this <;> omega
        · exact ⟨g, rfl⟩
      have HCX : Hid (∀ i, i < os.length → wr.cell? ⟨g, 0 + i, none⟩ = some (.int .u8 (os.getD i 0))) := hid (fun i hi => by
        obtain ⟨b, off, hb, hc⟩ := O.sl.cells.2.2.2 (by omega)
        cases hb
        exact hc i hi)
      have hcv := run_convert_bytes_arg (P := Try.prog) (w := wr) 33 5 Try.underlying33 Try.underlying5 g 0 os.length cp os rfl HCX.out 9 Try.underlying9
      simp only [rdig, List.append_nil] at hos
      have HOS := hid hos
      clear hos O B1
      have hcl : ¬ (9223372036854775807 < 1 + (strOfNums os).size) := by rw [strOfNums_size]; have := congrArg List.length HOS.out; simp [rdig_len] at this; omega
      cases ng
      · go_wp2
        go_ret
        exact ⟨by rw [HOS.out]; rfl, bel⟩
      · go_wp2
        go_ret
        exact ⟨by rw [HOS.out, txt_neg]; rfl, bel⟩
    | succ j =>
      have ej : (((j + 1 : Nat) : Int) - 1) = (j : Int) := by omega
      rw [ej]
      have dj : decide (0 ≤ (j : Int)) = true := decide_eq_true (by omega)
      have hjl : j / 8 < zs.length := by omega
      obtain ⟨b, off, rfl, hcx⟩ := (hs.below bel).cells.2.2.2 (by omega)
      have h1 := hcx (j / 8) hjl
      have hzx := Nm.Dg.getD hz (j / 8)
      obtain ⟨x, hxk⟩ : ∃ x, x = zs.getD (j / 8) 0 := ⟨_, rfl⟩
      have hdg : dgt zs j = hx (bits .and .u32 (x / 2 ^ (4 * (j % 8))) 15) := by rw [hxk]; rfl
      rw [← hxk] at h1 hzx
      have hq : (j : Int).tdiv 8 = ((j / 8 : Nat) : Int) := by rw [Int.tdiv_eq_ediv_of_nonneg (by omega)]; rfl
      have hx0 : 0 ≤ x / 2 ^ (4 * (j % 8)) := Int.ediv_nonneg hzx.1 (Int.le_of_lt (Int.pow_pos (by decide)))
      have hx1 : x / 2 ^ (4 * (j % 8)) < 4294967296 := Int.lt_of_le_of_lt (Int.ediv_le_self _ hzx.1) hzx.2
      have h16 := and15 _ hx0 hx1
      obtain ⟨d, hd⟩ : ∃ d, bits .and .u32 (x / 2 ^ (4 * (j % 8))) 15 = d := ⟨_, rfl⟩
      rw [hd] at h16 hdg
      have hix := hx_ix (P := Try.prog) 9 Try.underlying9 d h16
      have HOL : os.length + (j + 1) = N + 0 := by
        have := congrArg List.length hos
        simp [rdig_len] at this
        omega
      have HOS := hid hos
      have HDG := hid hdg
      have HB := hid B1
      have HN' := hid hN8
      have hsz := bel.size
      obtain ⟨hO1, hO2⟩ : wr.ownsRow (w.heap.size + 1) 5 1 (.slice a1 os.length cp) os.length (os.map (Value.int .u8)) ∧ True := ⟨by have := O; unfold O1 at this; exact this, trivial⟩
      have HO := hid O
      have hsl : w.heap.size < wr.heap.size := World.block_lt_of_cell? wr _ c0
      clear hO2 O hcx hxk hos hdg hz hN8 hs B1
      go_wp2_with (at_builtin; refine wpList_append_lies _ rfl _ _ 33 rfl (w.heap.size + 1) 5 i0 (.int .u8 0) 1 1 Try.underlying33 HI.out.1 HI.out.2.1 HI.out.2.2.1 HI.out.2.2.2 rfl (by decide) (.slice a1 os.length cp) os.length (os.map (Value.int .u8)) rfl (hO1.alloc _) ⟨wr.heap.size, 0, none⟩ 1 1 [.int .u8 (hx d)] rfl rfl (new1 wr _) (one1 _) (by decide) (by have := HN'.out; unfold maxLen; omega) (by have := HN'.out; omega) (by simp; omega) (wr.heap.size + 1) (by simp) ?_; intro g1 cp1 w2 hown2 hgrow hat hlt2)
      obtain ⟨y, hy⟩ : ∃ y, y = hx d := ⟨_, rfl⟩
      have ho2 : O1 w2 (w.heap.size + 1) (some ⟨g1, 0, none⟩) cp1 (os ++ [hx d]) := o1_more hown2
      have hb2 : Below w.heap.size w w2 := bel_o1 (bel_al bel _) HO.out (by omega) hgrow
      have hB2 := box_o1 (HB.out.alloc _) HO.out (by omega) hgrow
      clear hown2 hat
      go_roundw
      case rel => exact ⟨some ⟨g1, 0, none⟩, cp1, os ++ [hx d], j, by simp, rfl, by omega, by rw [← HOS.out, ← HDG.out]; simp [rdig, HDG.out], ho2, hB2, hb2⟩
      case measure => simp [intOf] <;> omega
set_option maxHeartbeats 8000000 in
set_option maxRecDepth 100000 in
theorem wt_impl_false (a : Option Addr) (cap : Nat) (zs : List Int) (w : World) (hs : Sl .u32 w (.slice a zs.length cap) zs) (hz : Nm.Dg zs) (hl : zs.length ≤ 1048576) (ho : okB false zs = true) (h0 : zs.length ≠ 0) (n N : Nat) (hn : blW false zs = (n : Int)) (hn0 : 0 < n) (hn1 : n ≤ 32 * zs.length) (hN : N = (n - 1) / 4 + 1) :
    Calls Try.prog 42 #[.agg #[.bool false, .slice a zs.length cap]] w fun e w' => e = .returned (.string (txt false (rdig zs N))) ∧ Below w.heap.size w w' := by
  obtain ⟨i0, hi, hz0, hz1, hz2⟩ := info_parts info8
  have HI := hid (And.intro hi (And.intro hz0 (And.intro hz1 hz2)))
  clear hi hz0 hz1 hz2
  have CO := hid (fun w' h => ok_impl false a cap zs w' h (by omega))
  rw [ho] at CO
  have CB := hid (fun w' h => bl_impl false a cap zs w' h hz hl)
  rw [hn] at CB
  obtain ⟨t, ht⟩ : ∃ t : Int, t = (n : Int) + 3 := ⟨_, rfl⟩
  have hw0 : wrap64 ((n : Int) + 3) = t := by rw [ht]; unfold wrap64; omega
  have hq1 : t.tdiv 4 = (N : Int) := by rw [Int.tdiv_eq_ediv_of_nonneg (by omega)]; omega
  have hw1 : wrap64 (N : Int) = (N : Int) := by unfold wrap64; omega
  obtain ⟨q, hq⟩ : ∃ q : Int, q = (N : Int) - 1 := ⟨_, rfl⟩
  have hq2 : wrap64 ((N : Int) - 1) = q := by rw [hq]; unfold wrap64; omega
  have HQ := hid hq
  have ht0 : 0 ≤ t := by omega
  have hN8 : N ≤ 8 * zs.length := by omega
  have hNp : 0 < N := by omega
  have HNP := hid hNp
  clear ho hn ht hN hn0 hn1 hq hNp
  have B1 := Box.new w (.bool false) (.slice a zs.length cap) 65
  have bel := bel_al (Below.refl w.heap.size w) (.cells #[.bool false, .slice a zs.length cap] 65)
  have s1 := hs.alloc (.cells #[.bool false, .slice a zs.length cap] 65)
  obtain ⟨c0, c1⟩ := id B1
  go_enter Try.func42, Try.ntmps42
  go_wp2_with fail
  refine (CO.out _ s1).mono ?_
  rintro e w1 ⟨rfl, hb⟩
  clear c0 c1
  have hsz1 := hb.size
  simp at hsz1
  replace B1 := B1.below hb
  replace bel := bel_go bel hb
  replace s1 := s1.below hb
  clear hb
  obtain ⟨c0, c1⟩ := id B1
  have e0 : ((zs.length : Int) == 0) = false := by simpa using h0
  have O := o1_nil w1 (w.heap.size + 1)
  go_wp2_with fail
  refine (CB.out _ s1).mono ?_
  rintro e w2 ⟨rfl, hb⟩
  clear c0 c1
  replace O := O.below hb
  replace B1 := B1.below hb
  replace bel := bel_go bel hb
  clear hb s1 CO CB
  obtain ⟨c0, c1⟩ := id B1
  have HR := hid O
  have HB1 := hid B1
  clear O B1
  go_wp2_with fail
  try simp only [hw0, hq1, hw1, hq2]
  go_loopw [3, 4] (fun sl iv wr => ∃ (a1 : Option Addr) (cp : Nat) (os : List Int) (m : Nat), sl = .slice a1 os.length cp ∧ iv = .int .i64 ((m : Int) - 1) ∧ m ≤ N ∧ os ++ rdig zs m = rdig zs N ∧ O1 wr (w.heap.size + 1) a1 cp os ∧ Box wr w.heap.size (.bool false) (.slice a zs.length cap) ∧ Below w.heap.size w wr) (fun _ iv _ => (intOf iv + 1).toNat)
  case atStart => exact ⟨none, 0, [], N, rfl, by first | rfl | rw [HQ.out], Nat.le_refl _, rfl, HR.out, HB1.out, bel⟩
  case round =>
    obtain ⟨a1, cp, os, m, rfl, rfl, hm, hos, O, B1, bel⟩ := hrel
    obtain ⟨c0, c1⟩ := id B1
    cases m with
    | zero =>
      have e0 : (((0 : Nat) : Int) - 1) = -1 := by decide
      rw [e0]
      obtain ⟨g, rfl⟩ : ∃ g, a1 = some ⟨g, 0, none⟩ := by
        rcases O.block with ⟨_, _, rfl⟩ | ⟨g, rfl, _⟩
        · exfalso
          have := congrArg List.length hos
          have hnp := HNP.out
          simp [rdig, rdig_len] at this <;> omega
        · exact ⟨g, rfl⟩
      have HCX : Hid (∀ i, i < os.length → wr.cell? ⟨g, 0 + i, none⟩ = some (.int .u8 (os.getD i 0))) := hid (fun i hi => by
        obtain ⟨b, off, hb, hc⟩ := O.sl.cells.2.2.2 (by omega)
        cases hb
        exact hc i hi)
      have hcv := run_convert_bytes_arg (P := Try.prog) (w := wr) 33 5 Try.underlying33 Try.underlying5 g 0 os.length cp os rfl HCX.out 9 Try.underlying9
      simp only [rdig, List.append_nil] at hos
      have HOS := hid hos
      clear hos O B1
      go_wp2
      go_ret
      exact ⟨by rw [HOS.out]; rfl, bel⟩
    | succ j =>
      have ej : (((j + 1 : Nat) : Int) - 1) = (j : Int) := by omega
      rw [ej]
      have dj : decide (0 ≤ (j : Int)) = true := decide_eq_true (by omega)
      have hjl : j / 8 < zs.length := by omega
      obtain ⟨b, off, rfl, hcx⟩ := (hs.below bel).cells.2.2.2 (by omega)
      have h1 := hcx (j / 8) hjl
      have hzx := Nm.Dg.getD hz (j / 8)
      obtain ⟨x, hxk⟩ : ∃ x, x = zs.getD (j / 8) 0 := ⟨_, rfl⟩
      have hdg : dgt zs j = hx (bits .and .u32 (x / 2 ^ (4 * (j % 8))) 15) := by rw [hxk]; rfl
      rw [← hxk] at h1 hzx
      have hq : (j : Int).tdiv 8 = ((j / 8 : Nat) : Int) := by rw [Int.tdiv_eq_ediv_of_nonneg (by omega)]; rfl
      have hx0 : 0 ≤ x / 2 ^ (4 * (j % 8)) := Int.ediv_nonneg hzx.1 (Int.le_of_lt (Int.pow_pos (by decide)))
      have hx1 : x / 2 ^ (4 * (j % 8)) < 4294967296 := Int.lt_of_le_of_lt (Int.ediv_le_self _ hzx.1) hzx.2
      have h16 := and15 _ hx0 hx1
      obtain ⟨d, hd⟩ : ∃ d, bits .and .u32 (x / 2 ^ (4 * (j % 8))) 15 = d := ⟨_, rfl⟩
      rw [hd] at h16 hdg
      have hix := hx_ix (P := Try.prog) 9 Try.underlying9 d h16
      have HOL : os.length + (j + 1) = N + 0 := by
        have := congrArg List.length hos
        simp [rdig_len] at this
        omega
      have HOS := hid hos
      have HDG := hid hdg
      have HB := hid B1
      have HN' := hid hN8
      have hsz := bel.size
      obtain ⟨hO1, hO2⟩ : wr.ownsRow (w.heap.size + 1) 5 1 (.slice a1 os.length cp) os.length (os.map (Value.int .u8)) ∧ True := ⟨by have := O; unfold O1 at this; exact this, trivial⟩
      have HO := hid O
      have hsl : w.heap.size < wr.heap.size := World.block_lt_of_cell? wr _ c0
      clear hO2 O hcx hxk hos hdg hz hN8 hs B1
      go_wp2_with (at_builtin; refine wpList_append_lies _ rfl _ _ 33 rfl (w.heap.size + 1) 5 i0 (.int .u8 0) 1 1 Try.underlying33 HI.out.1 HI.out.2.1 HI.out.2.2.1 HI.out.2.2.2 rfl (by decide) (.slice a1 os.length cp) os.length (os.map (Value.int .u8)) rfl (hO1.alloc _) ⟨wr.heap.size, 0, none⟩ 1 1 [.int .u8 (hx d)] rfl rfl (new1 wr _) (one1 _) (by decide) (by have := HN'.out; unfold maxLen; omega) (by have := HN'.out; omega) (by simp; omega) (wr.heap.size + 1) (by simp) ?_; intro g1 cp1 w2 hown2 hgrow hat hlt2)
      obtain ⟨y, hy⟩ : ∃ y, y = hx d := ⟨_, rfl⟩
      have ho2 : O1 w2 (w.heap.size + 1) (some ⟨g1, 0, none⟩) cp1 (os ++ [hx d]) := o1_more hown2
      have hb2 : Below w.heap.size w w2 := bel_o1 (bel_al bel _) HO.out (by omega) hgrow
      have hB2 := box_o1 (HB.out.alloc _) HO.out (by omega) hgrow
      clear hown2 hat
      go_roundw
      case rel => exact ⟨some ⟨g1, 0, none⟩, cp1, os ++ [hx d], j, by simp, rfl, by omega, by rw [← HOS.out, ← HDG.out]; simp [rdig, HDG.out], ho2, hB2, hb2⟩
      case measure => simp [intOf] <;> omega
set_option maxHeartbeats 8000000 in
set_option maxRecDepth 100000 in
theorem wt_impl_true (a : Option Addr) (cap : Nat) (zs : List Int) (w : World) (hs : Sl .u32 w (.slice a zs.length cap) zs) (hz : Nm.Dg zs) (hl : zs.length ≤ 1048576) (ho : okB true zs = true) (h0 : zs.length ≠ 0) (n N : Nat) (hn : blW true zs = (n : Int)) (hn0 : 0 < n) (hn1 : n ≤ 32 * zs.length) (hN : N = (n - 1) / 4 + 1) :
    Calls Try.prog 42 #[.agg #[.bool true, .slice a zs.length cap]] w fun e w' => e = .returned (.string (txt true (rdig zs N))) ∧ Below w.heap.size w w' := by
  obtain ⟨i0, hi, hz0, hz1, hz2⟩ := info_parts info8
  have HI := hid (And.intro hi (And.intro hz0 (And.intro hz1 hz2)))
  clear hi hz0 hz1 hz2
  have CO := hid (fun w' h => ok_impl true a cap zs w' h (by omega))
  rw [ho] at CO
  have CB := hid (fun w' h => bl_impl true a cap zs w' h hz hl)
  rw [hn] at CB
  obtain ⟨t, ht⟩ : ∃ t : Int, t = (n : Int) + 3 := ⟨_, rfl⟩
  have hw0 : wrap64 ((n : Int) + 3) = t := by rw [ht]; unfold wrap64; omega
  have hq1 : t.tdiv 4 = (N : Int) := by rw [Int.tdiv_eq_ediv_of_nonneg (by omega)]; omega
  have hw1 : wrap64 (N : Int) = (N : Int) := by unfold wrap64; omega
  obtain ⟨q, hq⟩ : ∃ q : Int, q = (N : Int) - 1 := ⟨_, rfl⟩
  have hq2 : wrap64 ((N : Int) - 1) = q := by rw [hq]; unfold wrap64; omega
  have HQ := hid hq
  have ht0 : 0 ≤ t := by omega
  have hN8 : N ≤ 8 * zs.length := by omega
  have hNp : 0 < N := by omega
  have HNP := hid hNp
  clear ho hn ht hN hn0 hn1 hq hNp
  have B1 := Box.new w (.bool true) (.slice a zs.length cap) 65
  have bel := bel_al (Below.refl w.heap.size w) (.cells #[.bool true, .slice a zs.length cap] 65)
  have s1 := hs.alloc (.cells #[.bool true, .slice a zs.length cap] 65)
  obtain ⟨c0, c1⟩ := id B1
  go_enter Try.func42, Try.ntmps42
  go_wp2_with fail
  refine (CO.out _ s1).mono ?_
  rintro e w1 ⟨rfl, hb⟩
  clear c0 c1
  have hsz1 := hb.size
  simp at hsz1
  replace B1 := B1.below hb
  replace bel := bel_go bel hb
  replace s1 := s1.below hb
  clear hb
  obtain ⟨c0, c1⟩ := id B1
  have e0 : ((zs.length : Int) == 0) = false := by simpa using h0
  have O0 := o1_nil w1 (w.heap.size + 1)
  have lw1 := bel.size
  have hON : w1.ownsRow (w.heap.size + 1) 5 1 (.slice none 0 0) 0 [] := by have := O0; unfold O1 at this; simpa using this
  have HB := hid B1
  clear B1 O0
  go_wp2_with (at_builtin; refine wpList_append_lies _ rfl _ _ 33 rfl (w.heap.size + 1) 5 i0 (.int .u8 0) 1 1 Try.underlying33 HI.out.1 HI.out.2.1 HI.out.2.2.1 HI.out.2.2.2 rfl (by decide) (.slice none 0 0) 0 [] rfl (hON.alloc _) ⟨w1.heap.size, 0, none⟩ 1 1 [.int .u8 45] rfl rfl (new1 w1 _) (one1 _) (by decide) (by unfold maxLen; omega) (by omega) (by simp; omega) (w1.heap.size + 1) (by simp) ?_; intro g0 cp0 w3 hown3 hgrow hat hlt3; obtain ⟨d0, d1⟩ := box_o1 (os := []) (cap := 0) (HB.out.alloc _) (o1_nil w1 (w.heap.size + 1)) (by omega) hgrow)
  have O := o1_more (os := []) hown3
  have B1 := box_o1 (os := []) (cap := 0) (HB.out.alloc _) (o1_nil w1 (w.heap.size + 1)) (by omega) hgrow
  replace s1 := (s1.alloc (.cells #[.int .u8 45] 5)).below (bel_o1 (w := w1.alloc (.cells #[.int .u8 45] 5)) (Below.refl _ _) (o1_nil w1 (w1.alloc (.cells #[.int .u8 45] 5)).heap.size) (Nat.le_refl _) hgrow)
  replace bel := bel_o1 (os := []) (cap := 0) (bel_al bel _) (o1_nil w1 (w.heap.size + 1)) (by omega) hgrow
  clear hown3 hat hgrow HB hON
  refine (CB.out _ s1).mono ?_
  rintro e w2 ⟨rfl, hb⟩
  clear d0 d1
  replace O := O.below hb
  replace B1 := B1.below hb
  replace bel := bel_go bel hb
  clear hb s1 CO CB
  obtain ⟨c0, c1⟩ := id B1
  have HR := hid O
  have HB1 := hid B1
  clear O B1
  go_wp2_with fail
  try simp only [hw0, hq1, hw1, hq2]
  go_loopw [3, 4] (fun sl iv wr => ∃ (a1 : Option Addr) (cp : Nat) (os : List Int) (m : Nat), sl = .slice a1 os.length cp ∧ iv = .int .i64 ((m : Int) - 1) ∧ m ≤ N ∧ os ++ rdig zs m = (45 :: rdig zs N) ∧ O1 wr (w.heap.size + 1) a1 cp os ∧ Box wr w.heap.size (.bool true) (.slice a zs.length cap) ∧ Below w.heap.size w wr) (fun _ iv _ => (intOf iv + 1).toNat)
  case atStart => exact ⟨some ⟨g0, 0, none⟩, cp0, [45], N, rfl, by first | rfl | rw [HQ.out], Nat.le_refl _, rfl, HR.out, HB1.out, bel⟩
  case round =>
    obtain ⟨a1, cp, os, m, rfl, rfl, hm, hos, O, B1, bel⟩ := hrel
    obtain ⟨c0, c1⟩ := id B1
    cases m with
    | zero =>
      have e0 : (((0 : Nat) : Int) - 1) = -1 := by decide
      rw [e0]
      obtain ⟨g, rfl⟩ : ∃ g, a1 = some ⟨g, 0, none⟩ := by
        rcases O.block with ⟨_, _, rfl⟩ | ⟨g, rfl, _⟩
        · exfalso
          have := congrArg List.length hos
          have hnp := HNP.out
          simp [rdig, rdig_len] at this <;> omega
        · exact ⟨g, rfl⟩
      have HCX : Hid (∀ i, i < os.length → wr.cell? ⟨g, 0 + i, none⟩ = some (.int .u8 (os.getD i 0))) := hid (fun i hi => by
        obtain ⟨b, off, hb, hc⟩ := O.sl.cells.2.2.2 (by omega)
        cases hb
        exact hc i hi)
      have hcv := run_convert_bytes_arg (P := Try.prog) (w := wr) 33 5 Try.underlying33 Try.underlying5 g 0 os.length cp os rfl HCX.out 9 Try.underlying9
      simp only [rdig, List.append_nil] at hos
      have HOS := hid hos
      clear hos O B1
      go_wp2
      go_ret
      exact ⟨by rw [HOS.out]; rfl, bel⟩
    | succ j =>
      have ej : (((j + 1 : Nat) : Int) - 1) = (j : Int) := by omega
      rw [ej]
      have dj : decide (0 ≤ (j : Int)) = true := decide_eq_true (by omega)
      have hjl : j / 8 < zs.length := by omega
      obtain ⟨b, off, rfl, hcx⟩ := (hs.below bel).cells.2.2.2 (by omega)
      have h1 := hcx (j / 8) hjl
      have hzx := Nm.Dg.getD hz (j / 8)
      obtain ⟨x, hxk⟩ : ∃ x, x = zs.getD (j / 8) 0 := ⟨_, rfl⟩
      have hdg : dgt zs j = hx (bits .and .u32 (x / 2 ^ (4 * (j % 8))) 15) := by rw [hxk]; rfl
      rw [← hxk] at h1 hzx
      have hq : (j : Int).tdiv 8 = ((j / 8 : Nat) : Int) := by rw [Int.tdiv_eq_ediv_of_nonneg (by omega)]; rfl
      have hx0 : 0 ≤ x / 2 ^ (4 * (j % 8)) := Int.ediv_nonneg hzx.1 (Int.le_of_lt (Int.pow_pos (by decide)))
      have hx1 : x / 2 ^ (4 * (j % 8)) < 4294967296 := Int.lt_of_le_of_lt (Int.ediv_le_self _ hzx.1) hzx.2
      have h16 := and15 _ hx0 hx1
      obtain ⟨d, hd⟩ : ∃ d, bits .and .u32 (x / 2 ^ (4 * (j % 8))) 15 = d := ⟨_, rfl⟩
      rw [hd] at h16 hdg
      have hix := hx_ix (P := Try.prog) 9 Try.underlying9 d h16
      have HOL : os.length + (j + 1) = N + 1 := by
        have := congrArg List.length hos
        simp [rdig_len] at this
        omega
      have HOS := hid hos
      have HDG := hid hdg
      have HB := hid B1
      have HN' := hid hN8
      have hsz := bel.size
      obtain ⟨hO1, hO2⟩ : wr.ownsRow (w.heap.size + 1) 5 1 (.slice a1 os.length cp) os.length (os.map (Value.int .u8)) ∧ True := ⟨by have := O; unfold O1 at this; exact this, trivial⟩
      have HO := hid O
      have hsl : w.heap.size < wr.heap.size := World.block_lt_of_cell? wr _ c0
      clear hO2 O hcx hxk hos hdg hz hN8 hs B1
      go_wp2_with (at_builtin; refine wpList_append_lies _ rfl _ _ 33 rfl (w.heap.size + 1) 5 i0 (.int .u8 0) 1 1 Try.underlying33 HI.out.1 HI.out.2.1 HI.out.2.2.1 HI.out.2.2.2 rfl (by decide) (.slice a1 os.length cp) os.length (os.map (Value.int .u8)) rfl (hO1.alloc _) ⟨wr.heap.size, 0, none⟩ 1 1 [.int .u8 (hx d)] rfl rfl (new1 wr _) (one1 _) (by decide) (by have := HN'.out; unfold maxLen; omega) (by have := HN'.out; omega) (by simp; omega) (wr.heap.size + 1) (by simp) ?_; intro g1 cp1 w2 hown2 hgrow hat hlt2)
      obtain ⟨y, hy⟩ : ∃ y, y = hx d := ⟨_, rfl⟩
      have ho2 : O1 w2 (w.heap.size + 1) (some ⟨g1, 0, none⟩) cp1 (os ++ [hx d]) := o1_more hown2
      have hb2 : Below w.heap.size w w2 := bel_o1 (bel_al bel _) HO.out (by omega) hgrow
      have hB2 := box_o1 (HB.out.alloc _) HO.out (by omega) hgrow
      clear hown2 hat
      go_roundw
      case rel => exact ⟨some ⟨g1, 0, none⟩, cp1, os ++ [hx d], j, by simp, rfl, by omega, by rw [← HOS.out, ← HDG.out]; simp [rdig, HDG.out], ho2, hB2, hb2⟩
      case measure => simp [intOf] <;> omega
end Go.Proofs.Ytmnfidkpnogfmaa
