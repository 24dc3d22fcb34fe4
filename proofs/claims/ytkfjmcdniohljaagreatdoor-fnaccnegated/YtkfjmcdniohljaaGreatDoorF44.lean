/-
  What is needed of ME.
-/
import Derived.Test.YtkfjmcdniohljaaGreatDoorF40
import Derived.Test.YtkfjmcdniohljaaGreatDoorF41
set_option maxHeartbeats 16000000
set_option maxRecDepth 1000000
namespace Go.Proofs.YtkfjmcdniohljaaGreatDoor
set_option linter.unusedVariables false
set_option linter.unusedSimpArgs false
open Go.RowKit Go.Deep
theorem odd4 (fm x y : Int) (w : World) (hx : okF fm x = true) (hy : okF fm y = true) (x0 : 0 ≤ x) (x1 : x < 18446744073709551616) (y0 : 0 ≤ y) (y1 : y < 18446744073709551616) (o : Bool) (ho : o = oddX fm x y) :
  Calls Tryz.prog 150 #[.int .i64 fm, .int .u64 x, .int .u64 y] w fun e w' => e = .returned (.bool o) ∧ Below w.heap.size w w' := by
 have CI1 := hid (fun w' => inf4 fm x w' hx x0 x1 _ rfl)
 have CI2 := hid (fun w' => inf4 fm y w' hy y0 y1 _ rfl)
 have CZ1 := hid (fun w' => zer4 fm x w' hx x0 x1 (zF fm x) rfl)
 have CZ2 := hid (fun w' => zer4 fm y w' hy y0 y1 (zF fm y) rfl)
 have ho' : o = (nI fm x && zF fm y || zF fm x && nI fm y) := by
  rw [ho]; unfold oddX
  cases ix : nI fm x
  ·cases iy : nI fm y
   ·cases zF fm x <;> cases zF fm y <;> rfl
   ·rw [zF_inf hy iy]; cases zF fm x <;> rfl
  ·rw [zF_inf hx ix]
   cases iy : nI fm y
   ·cases zF fm y <;> rfl
   ·rw [zF_inf hy iy]; rfl
 obtain ⟨i1, hi1⟩ : ∃ i, i = nI fm x := ⟨_, rfl⟩
 obtain ⟨i2, hi2⟩ : ∃ i, i = nI fm y := ⟨_, rfl⟩
 obtain ⟨z1, hz1⟩ : ∃ i, i = zF fm x := ⟨_, rfl⟩
 obtain ⟨z2, hz2⟩ : ∃ i, i = zF fm y := ⟨_, rfl⟩
 rw [← hi1, ← hi2, ← hz1, ← hz2] at ho'
 rw [← hi1] at CI1
 rw [← hi2] at CI2
 rw [← hz1] at CZ1
 rw [← hz2] at CZ2
 have HO := hid ho'
 clear hi1 hi2 hz1 hz2 ho ho' hx hy
 cases i1 with
 | true =>
  cases z2 with
  | true =>
   go_enter Tryz.func150, Tryz.ntmps150
   go_wp2_with fail
   refine (CI1.out _).mono ?_
   rintro r w1 ⟨rfl, hb1⟩
   go_wp2_with fail
   refine (CZ2.out _).mono ?_
   rintro r w2 ⟨rfl, hb2⟩
   go_wp2
   go_ret
   exact ⟨ret_bool (by rw [HO.out]; rfl), (by repeat (first | exact bz0 _ _ | refine bz1 ?_ | refine bz2 ?_ _ | refine bz3 ?_ _ | refine bz4 ?_ hb2 | refine bz4 ?_ hb1 | refine bz5 ?_ _ | refine bz6 ?_ _ | refine bz7 ?_ hb2 | refine bz7 ?_ hb1))⟩
  | false =>
  cases z1 with
  | true =>
   go_enter Tryz.func150, Tryz.ntmps150
   go_wp2_with fail
   refine (CI1.out _).mono ?_
   rintro r w1 ⟨rfl, hb1⟩
   go_wp2_with fail
   refine (CZ2.out _).mono ?_
   rintro r w2 ⟨rfl, hb2⟩
   go_wp2_with fail
   refine (CZ1.out _).mono ?_
   rintro r w3 ⟨rfl, hb3⟩
   go_wp2_with fail
   refine (CI2.out _).mono ?_
   rintro r w4 ⟨rfl, hb4⟩
   go_wp2
   go_ret
   exact ⟨ret_bool (by rw [HO.out]; rfl), (by repeat (first | exact bz0 _ _ | refine bz1 ?_ | refine bz2 ?_ _ | refine bz3 ?_ _ | refine bz4 ?_ hb4 | refine bz4 ?_ hb3 | refine bz4 ?_ hb2 | refine bz4 ?_ hb1 | refine bz5 ?_ _ | refine bz6 ?_ _ | refine bz7 ?_ hb4 | refine bz7 ?_ hb3 | refine bz7 ?_ hb2 | refine bz7 ?_ hb1))⟩
  | false =>
   go_enter Tryz.func150, Tryz.ntmps150
   go_wp2_with fail
   refine (CI1.out _).mono ?_
   rintro r w1 ⟨rfl, hb1⟩
   go_wp2_with fail
   refine (CZ2.out _).mono ?_
   rintro r w2 ⟨rfl, hb2⟩
   go_wp2_with fail
   refine (CZ1.out _).mono ?_
   rintro r w3 ⟨rfl, hb3⟩
   go_wp2
   go_ret
   exact ⟨ret_bool (by rw [HO.out]; rfl), (by repeat (first | exact bz0 _ _ | refine bz1 ?_ | refine bz2 ?_ _ | refine bz3 ?_ _ | refine bz4 ?_ hb3 | refine bz4 ?_ hb2 | refine bz4 ?_ hb1 | refine bz5 ?_ _ | refine bz6 ?_ _ | refine bz7 ?_ hb3 | refine bz7 ?_ hb2 | refine bz7 ?_ hb1))⟩
 | false =>
  cases z1 with
  | true =>
   go_enter Tryz.func150, Tryz.ntmps150
   go_wp2_with fail
   refine (CI1.out _).mono ?_
   rintro r w1 ⟨rfl, hb1⟩
   go_wp2_with fail
   refine (CZ1.out _).mono ?_
   rintro r w2 ⟨rfl, hb2⟩
   go_wp2_with fail
   refine (CI2.out _).mono ?_
   rintro r w3 ⟨rfl, hb3⟩
   go_wp2
   go_ret
   exact ⟨ret_bool (by rw [HO.out]; rfl), (by repeat (first | exact bz0 _ _ | refine bz1 ?_ | refine bz2 ?_ _ | refine bz3 ?_ _ | refine bz4 ?_ hb3 | refine bz4 ?_ hb2 | refine bz4 ?_ hb1 | refine bz5 ?_ _ | refine bz6 ?_ _ | refine bz7 ?_ hb3 | refine bz7 ?_ hb2 | refine bz7 ?_ hb1))⟩
  | false =>
   go_enter Tryz.func150, Tryz.ntmps150
   go_wp2_with fail
   refine (CI1.out _).mono ?_
   rintro r w1 ⟨rfl, hb1⟩
   go_wp2_with fail
   refine (CZ1.out _).mono ?_
   rintro r w2 ⟨rfl, hb2⟩
   go_wp2
   go_ret
   exact ⟨ret_bool (by rw [HO.out]; rfl), (by repeat (first | exact bz0 _ _ | refine bz1 ?_ | refine bz2 ?_ _ | refine bz3 ?_ _ | refine bz4 ?_ hb2 | refine bz4 ?_ hb1 | refine bz5 ?_ _ | refine bz6 ?_ _ | refine bz7 ?_ hb2 | refine bz7 ?_ hb1))⟩
theorem mulS_no (fm : Int) (ng : Bool) (T : Int) (nn bd pl mi am : Bool) (p : Option Addr) (cap : Nat) (zs : List Int) (x y : Int) (w : World) (hs : Sl .u32 w (.slice p zs.length cap) zs) (hl : zs.length ≤ 1048576) (c : Int) (hc : c = tcC (accB fm ng zs T nn bd pl mi am) (okF fm x && okF fm y) T) (hc0 : c ≠ 0) :
  Calls Tryz.prog 53 #[.agg #[.int .i64 fm, .bool ng, .slice p zs.length cap, .int .i64 T, .bool nn, .bool bd, .bool pl, .bool mi, .bool am], .int .u64 x, .int .u64 y] w fun r w' => r = .returned (.tuple #[A0, .int .i64 c]) ∧ Below w.heap.size w w' := by
 have C1 := hid (fun w' h => accok_spec fm ng T nn bd pl mi am p cap zs w' h hl)
 have C2 := hid (fun w' => spec_ok fm x w')
 have C3 := hid (fun w' => spec_ok fm y w')
 have A := (Q9.new w (.int .i64 fm) (.bool ng) (.slice p zs.length cap) (.int .i64 T) (.bool nn) (.bool bd) (.bool pl) (.bool mi) (.bool am) 50).alloc (.cells #[.int .i64 0, .bool false, .slice none 0 0, .int .i64 0, .bool false, .bool false, .bool false, .bool false, .bool false] 50)
 have R := Q9.nw2b w (.cells #[.int .i64 fm, .bool ng, .slice p zs.length cap, .int .i64 T, .bool nn, .bool bd, .bool pl, .bool mi, .bool am] 50) (.int .i64 0) (.bool false) (.slice none 0 0) (.int .i64 0) (.bool false) (.bool false) (.bool false) (.bool false) (.bool false) 50
 have bel0 : Below w.heap.size w ((w.alloc (.cells #[.int .i64 fm, .bool ng, .slice p zs.length cap, .int .i64 T, .bool nn, .bool bd, .bool pl, .bool mi, .bool am] 50)).alloc (.cells #[.int .i64 0, .bool false, .slice none 0 0, .int .i64 0, .bool false, .bool false, .bool false, .bool false, .bool false] 50)) := (by repeat (first | exact bz0 _ _ | refine bz1 ?_ | refine bz2 ?_ _ | refine bz3 ?_ _ | refine bz5 ?_ _ | refine bz6 ?_ _))
 unfold tcC at hc
 cases h1 : accB fm ng zs T nn bd pl mi am
 ·rw [h1] at C1 hc
  have hc' : c = 1 := hc
  subst hc'
  clear hc h1 hc0
  obtain ⟨c0, c1, c2, c3, c4, c5, c6, c7, c8⟩ := A.cs
  go_enter Tryz.func53, Tryz.ntmps53
  go_wp2_with fail
  refine (C1.out _ (hs.below bel0)).mono ?_
  rintro r w1 ⟨rfl, hb1⟩
  clear c0 c1 c2 c3 c4 c5 c6 c7 c8
  replace A := A.below hb1
  replace R := R.below hb1
  have bel1 := bel_go bel0 hb1
  obtain ⟨r0, r1, r2, r3, r4, r5, r6, r7, r8, g0, g1, g2, g3, g4, g5, g6, g7, g8⟩ := R
  go_wp2
  refine bodyPost_ret (v := .tuple #[A0, .int .i64 1]) (by simp [results, Tryz.results53, go_sem, r0, r1, r2, r3, r4, r5, r6, r7, r8, A0]) rfl ⟨rfl, ?_⟩
  exact (by (repeat with_reducible first | refine Below.setCell ?_ ?_ _ | exact bz0 _ _ | refine bz1 ?_ | refine bz2 ?_ _ | refine bz3 ?_ _ | refine bz4 ?_ bel1 | refine Below.alloc ?_ ?_ _ | refine Below.trans ?_ (Below.mono bel1 ?_)) <;> first | omega | (simp; done) | (simp; omega))
 rw [h1] at C1 hc
 cases h2 : okF fm x
 ·rw [h2] at C2 hc
  have hc' : c = 2 := hc
  subst hc'
  clear hc h1 h2 hc0
  obtain ⟨c0, c1, c2, c3, c4, c5, c6, c7, c8⟩ := A.cs
  go_enter Tryz.func53, Tryz.ntmps53
  go_wp2_with fail
  refine (C1.out _ (hs.below bel0)).mono ?_
  rintro r w1 ⟨rfl, hb1⟩
  clear c0 c1 c2 c3 c4 c5 c6 c7 c8
  replace A := A.below hb1
  replace R := R.below hb1
  have bel1 := bel_go bel0 hb1
  go_wp2_with fail
  refine (C2.out _).mono ?_
  rintro r w2 ⟨rfl, hb2⟩
  replace R := R.below hb2
  have bel2 := bel_go bel1 hb2
  obtain ⟨r0, r1, r2, r3, r4, r5, r6, r7, r8, g0, g1, g2, g3, g4, g5, g6, g7, g8⟩ := R
  go_wp2
  refine bodyPost_ret (v := .tuple #[A0, .int .i64 2]) (by simp [results, Tryz.results53, go_sem, r0, r1, r2, r3, r4, r5, r6, r7, r8, A0]) rfl ⟨rfl, ?_⟩
  exact (by (repeat with_reducible first | refine Below.setCell ?_ ?_ _ | exact bz0 _ _ | refine bz1 ?_ | refine bz2 ?_ _ | refine bz3 ?_ _ | refine bz4 ?_ bel2 | refine Below.alloc ?_ ?_ _ | refine Below.trans ?_ (Below.mono bel2 ?_)) <;> first | omega | (simp; done) | (simp; omega))
 rw [h2] at C2 hc
 cases h3 : okF fm y
 ·rw [h3] at C3 hc
  have hc' : c = 2 := hc
  subst hc'
  clear hc h1 h2 h3 hc0
  obtain ⟨c0, c1, c2, c3, c4, c5, c6, c7, c8⟩ := A.cs
  go_enter Tryz.func53, Tryz.ntmps53
  go_wp2_with fail
  refine (C1.out _ (hs.below bel0)).mono ?_
  rintro r w1 ⟨rfl, hb1⟩
  clear c0 c1 c2 c3 c4 c5 c6 c7 c8
  replace A := A.below hb1
  replace R := R.below hb1
  have bel1 := bel_go bel0 hb1
  go_wp2_with fail
  refine (C2.out _).mono ?_
  rintro r w2 ⟨rfl, hb2⟩
  go_wp2_with fail
  refine (C3.out _).mono ?_
  rintro r w3 ⟨rfl, hb3⟩
  replace R := (R.below hb2).below hb3
  have bel3 := bel_go (bel_go bel1 hb2) hb3
  obtain ⟨r0, r1, r2, r3, r4, r5, r6, r7, r8, g0, g1, g2, g3, g4, g5, g6, g7, g8⟩ := R
  go_wp2
  refine bodyPost_ret (v := .tuple #[A0, .int .i64 2]) (by simp [results, Tryz.results53, go_sem, r0, r1, r2, r3, r4, r5, r6, r7, r8, A0]) rfl ⟨rfl, ?_⟩
  exact (by (repeat with_reducible first | refine Below.setCell ?_ ?_ _ | exact bz0 _ _ | refine bz1 ?_ | refine bz2 ?_ _ | refine bz3 ?_ _ | refine bz4 ?_ bel3 | refine Below.alloc ?_ ?_ _ | refine Below.trans ?_ (Below.mono bel3 ?_)) <;> first | omega | (simp; done) | (simp; omega))
 rw [h3] at C3 hc
 by_cases h4 : T = 1000000
 ·have hc' : c = 3 := by rw [hc]; simp [h4]
  subst hc' h4
  clear hc h1 h2 h3 hc0
  obtain ⟨c0, c1, c2, c3, c4, c5, c6, c7, c8⟩ := A.cs
  go_enter Tryz.func53, Tryz.ntmps53
  go_wp2_with fail
  refine (C1.out _ (hs.below bel0)).mono ?_
  rintro r w1 ⟨rfl, hb1⟩
  clear c0 c1 c2 c3 c4 c5 c6 c7 c8
  replace A := A.below hb1
  replace R := R.below hb1
  have bel1 := bel_go bel0 hb1
  go_wp2_with fail
  refine (C2.out _).mono ?_
  rintro r w2 ⟨rfl, hb2⟩
  go_wp2_with fail
  refine (C3.out _).mono ?_
  rintro r w3 ⟨rfl, hb3⟩
  replace R := (R.below hb2).below hb3
  have c3 := ((A.below hb2).below hb3).c3
  have bel3 := bel_go (bel_go bel1 hb2) hb3
  obtain ⟨r0, r1, r2, r3, r4, r5, r6, r7, r8, g0, g1, g2, g3, g4, g5, g6, g7, g8⟩ := R
  go_wp2
  refine bodyPost_ret (v := .tuple #[A0, .int .i64 3]) (by simp [results, Tryz.results53, go_sem, r0, r1, r2, r3, r4, r5, r6, r7, r8, A0]) rfl ⟨rfl, ?_⟩
  exact (by (repeat with_reducible first | refine Below.setCell ?_ ?_ _ | exact bz0 _ _ | refine bz1 ?_ | refine bz2 ?_ _ | refine bz3 ?_ _ | refine bz4 ?_ bel3 | refine Below.alloc ?_ ?_ _ | refine Below.trans ?_ (Below.mono bel3 ?_)) <;> first | omega | (simp; done) | (simp; omega))
 ·exact absurd (by rw [hc]; simp [h4]) hc0
theorem mulS_odd (fm : Int) (ng : Bool) (T : Int) (nn bd pl mi am : Bool) (p : Option Addr) (cap : Nat) (zs : List Int) (x y : Int) (w : World) (hs : Sl .u32 w (.slice p zs.length cap) zs) (hz : Nm.Dg zs) (hk : accB fm ng zs T nn bd pl mi am = true) (hx : okF fm x = true) (hy : okF fm y = true) (x0 : 0 ≤ x) (x1 : x < 18446744073709551616) (y0 : 0 ≤ y) (y1 : y < 18446744073709551616) (hTm : T ≠ 1000000) (hfin : (finB fm x && finB fm y) = false) (n2 b2 p2 m2 : Bool) (hn2 : n2 = (nn || (nanB fm x || nanB fm y || oddX fm x y))) (hb2' : b2 = (bd || (nB fm x || nB fm y || oddX fm x y))) (hp2 : p2 = (pl || (!(nanB fm x || nanB fm y || oddX fm x y) && !(sigB fm x != sigB fm y)))) (hm2 : m2 = (mi || (!(nanB fm x || nanB fm y || oddX fm x y) && (sigB fm x != sigB fm y)))) :
  Calls Tryz.prog 53 #[.agg #[.int .i64 fm, .bool ng, .slice p zs.length cap, .int .i64 T, .bool nn, .bool bd, .bool pl, .bool mi, .bool am], .int .u64 x, .int .u64 y] w fun r w' => ∃ a' c', r = .returned (.tuple #[.agg #[.int .i64 fm, .bool ng, .slice a' zs.length c', .int .i64 (T + 1), .bool n2, .bool b2, .bool p2, .bool m2, .bool false], .int .i64 0]) ∧ Own w' w.heap.size a' c' zs ∧ Below w.heap.size w w' := by
 obtain ⟨hfm, hk1, ho1, -⟩ := acc_parts' hk
 obtain ⟨nz, hl⟩ := okB_nz ho1
 obtain ⟨t0, t1⟩ := mkB_T hk1
 have C1 := hid (fun w' h => accok_spec fm ng T nn bd pl mi am p cap zs w' h (by omega))
 have C2 := hid (fun w' => spec_ok fm x w')
 have C3 := hid (fun w' => spec_ok fm y w')
 have CC := hid (fun w' h => copy_any fm ng T nn bd pl mi am p cap zs w' h hz (by omega) ho1)
 have CN1 := hid (fun w' => spec_l2neg fm x w' hx x0 x1)
 have CN2 := hid (fun w' => spec_l2neg fm y w' hy y0 y1)
 have CF1 := hid (fun w' => spec_fin fm x w' x0 x1)
 have CF2 := hid (fun w' => spec_fin fm y w' y0 y1)
 rw [hk] at C1
 rw [hx] at C2
 rw [hy] at C3
 have hT' : (T == 1000000) = false := by simpa using hTm
 obtain ⟨s1, hs1⟩ : ∃ s, s = sigB fm x := ⟨_, rfl⟩
 obtain ⟨s2, hs2⟩ : ∃ s, s = sigB fm y := ⟨_, rfl⟩
 obtain ⟨sg, hsg⟩ : ∃ s, s = (s1 != s2) := ⟨_, rfl⟩
 rw [← hs1] at CN1
 rw [← hs2] at CN2
 have hsg1 : (s1 != s2) = sg := hsg.symm
 have hsg2 : (s1 == s2) = !sg := by rw [← hsg1]; cases s1 <;> cases s2 <;> rfl
 have CO := hid (fun w' => odd4 fm x y w' hx hy x0 x1 y0 y1 _ rfl)
 have CA1 := hid (fun w' => spec_nan fm x w' hx x0 x1)
 have CA2 := hid (fun w' => spec_nan fm y w' hy y0 y1)
 have CK1 := hid (fun w' => spec_cls fm x w' x0 x1)
 have CK2 := hid (fun w' => spec_cls fm y w' y0 y1)
 obtain ⟨od, hod⟩ : ∃ o, o = oddX fm x y := ⟨_, rfl⟩
 obtain ⟨nx, hnx⟩ : ∃ o, o = nanB fm x := ⟨_, rfl⟩
 obtain ⟨ny, hny⟩ : ∃ o, o = nanB fm y := ⟨_, rfl⟩
 obtain ⟨k1, hk1'⟩ : ∃ o, o = cls fm x := ⟨_, rfl⟩
 obtain ⟨k2, hk2'⟩ : ∃ o, o = cls fm y := ⟨_, rfl⟩
 obtain ⟨fx, hfx⟩ : ∃ o, o = finB fm x := ⟨_, rfl⟩
 obtain ⟨fy, hfy⟩ : ∃ o, o = finB fm y := ⟨_, rfl⟩
 obtain ⟨T2, hT2⟩ : ∃ T2, T2 = T + 1 := ⟨_, rfl⟩
 have hB1 : nB fm x = (k1 == 5) := by rw [hk1']; rfl
 have hB2 : nB fm y = (k2 == 5) := by rw [hk2']; rfl
 rw [← hod, ← hnx, ← hny] at hn2
 rw [← hod, hB1, hB2] at hb2'
 rw [← hod, ← hnx, ← hny, ← hs1, ← hs2, ← hsg] at hp2 hm2
 rw [← hod] at CO
 rw [← hnx] at CA1
 rw [← hny] at CA2
 rw [← hk1'] at CK1
 rw [← hk2'] at CK2
 rw [← hfx] at CF1 hfin
 rw [← hfy] at CF2 hfin
 rw [← hT2]
 obtain ⟨e1, he1⟩ : ∃ e, e = (k1 == 5) := ⟨_, rfl⟩
 obtain ⟨e2, he2⟩ : ∃ e, e = (k2 == 5) := ⟨_, rfl⟩
 rw [← he1, ← he2] at hb2'
 have he1' := he1.symm
 have he2' := he2.symm
 have C7 := hid (fun na ba p' c' w' (h1 : na = (nx || ny || od)) (h2 : ba = (e1 || e2 || od)) => special7 fm ng T nn bd pl mi am p' zs.length c' na ba sg w' t0 t1 T2 hT2 n2 b2 p2 m2 (by rw [h1]; exact hn2) (by rw [h2]; exact hb2') (by rw [h1]; exact hp2) (by rw [h1]; exact hm2))
 clear hod hnx hny hk1' hk2' hfx hfy hT2 hB1 hB2 hn2 hb2' hp2 hm2 hs1 hs2 hsg hk hx hy hz nz ho1 hk1 hTm hfm he1 he2
 have A := (Q9.new w (.int .i64 fm) (.bool ng) (.slice p zs.length cap) (.int .i64 T) (.bool nn) (.bool bd) (.bool pl) (.bool mi) (.bool am) 50).alloc (.cells #[.int .i64 0, .bool false, .slice none 0 0, .int .i64 0, .bool false, .bool false, .bool false, .bool false, .bool false] 50)
 have R := Q9.nw2b w (.cells #[.int .i64 fm, .bool ng, .slice p zs.length cap, .int .i64 T, .bool nn, .bool bd, .bool pl, .bool mi, .bool am] 50) (.int .i64 0) (.bool false) (.slice none 0 0) (.int .i64 0) (.bool false) (.bool false) (.bool false) (.bool false) (.bool false) 50
 have bel0 : Below w.heap.size w ((w.alloc (.cells #[.int .i64 fm, .bool ng, .slice p zs.length cap, .int .i64 T, .bool nn, .bool bd, .bool pl, .bool mi, .bool am] 50)).alloc (.cells #[.int .i64 0, .bool false, .slice none 0 0, .int .i64 0, .bool false, .bool false, .bool false, .bool false, .bool false] 50)) := (by repeat (first | exact bz0 _ _ | refine bz1 ?_ | refine bz2 ?_ _ | refine bz3 ?_ _ | refine bz5 ?_ _ | refine bz6 ?_ _))
 cases fx with
 | false =>
  clear hfin
  cases e1 with
  | true =>
   cases nx with
   | true =>
    obtain ⟨c0, c1, c2, c3, c4, c5, c6, c7, c8⟩ := A.cs
    go_enter Tryz.func53, Tryz.ntmps53
    go_wp2_with fail
    refine (C1.out _ (hs.below bel0)).mono ?_
    rintro r w1 ⟨rfl, hb1⟩
    clear c0 c1 c2 c3 c4 c5 c6 c7 c8
    replace A := A.below hb1
    replace R := R.below hb1
    have bel1 := bel_go bel0 hb1
    go_wp2_with fail
    refine (C2.out _).mono ?_
    rintro r w2 ⟨rfl, hb2⟩
    go_wp2_with fail
    refine (C3.out _).mono ?_
    rintro r w3 ⟨rfl, hb3⟩
    replace A := (A.below hb2).below hb3
    replace R := (R.below hb2).below hb3
    have bel3 := bel_go (bel_go bel1 hb2) hb3
    clear hb1 hb2 hb3 bel1
    obtain ⟨c0, c1, c2, c3, c4, c5, c6, c7, c8⟩ := A.cs
    go_wp2_with fail
    refine (CC.out _ (hs.below bel3)).mono ?_
    rintro r w4 ⟨a0, k0, rfl, hp0, hb4⟩
    clear c0 c1 c2 c3 c4 c5 c6 c7 c8
    have lr := R.lt
    have z4 := hb4.size
    have hp0' := hp0.alloc (.cells #[.int .i64 fm, .bool ng, .slice a0 zs.length k0, .int .i64 T, .bool nn, .bool bd, .bool pl, .bool mi, .bool am] 50)
    replace R := (R.below hb4).alloc (.cells #[.int .i64 fm, .bool ng, .slice a0 zs.length k0, .int .i64 T, .bool nn, .bool bd, .bool pl, .bool mi, .bool am] 50)
    have O := Q9.new w4 (.int .i64 fm) (.bool ng) (.slice a0 zs.length k0) (.int .i64 T) (.bool nn) (.bool bd) (.bool pl) (.bool mi) (.bool am) 50
    have bel4 := bel_al (bel_go bel3 hb4) (.cells #[.int .i64 fm, .bool ng, .slice a0 zs.length k0, .int .i64 T, .bool nn, .bool bd, .bool pl, .bool mi, .bool am] 50)
    clear hp0 hb4 A
    go_wp2_with fail
    refine (CN1.out _).mono ?_
    rintro r w5 ⟨rfl, hb5⟩
    go_wp2_with fail
    refine (CN2.out _).mono ?_
    rintro r w6 ⟨rfl, hb6⟩
    go_wp2_with fail
    refine (CF1.out _).mono ?_
    rintro r w7 ⟨rfl, hb7⟩
    replace R := ((R.below hb5).below hb6).below hb7
    replace O := ((O.below hb5).below hb6).below hb7
    replace hp0' := ((hp0'.below hb5).below hb6).below hb7
    have belW := bel_go (bel_go (bel_go bel4 hb5) hb6) hb7
    clear bel4 bel3 hb5 hb6 hb7
    have lO := O.lt
    go_wp2_with fail
    refine (CK1.out _).mono ?_
    rintro r w8 ⟨rfl, hb8⟩
    go_wp2_with fail
    refine (CO.out _).mono ?_
    rintro r w9 ⟨rfl, hb9⟩
    replace R := (R.below hb8).below hb9
    replace O := (O.below hb8).below hb9
    replace hp0' := (hp0'.below hb8).below hb9
    have belX := bel_go (bel_go belW hb8) hb9
    have Od := O.drew
    clear belW hb8 hb9
    go_wp2_with fail
    refine wp_region_held_drew (S := fun w' => (w'.cell? ⟨w4.heap.size, 0, none⟩ = some (.int .i64 fm) ∧ w'.cell? ⟨w4.heap.size, 1, none⟩ = some (.bool ng) ∧ w'.cell? ⟨w4.heap.size, 2, none⟩ = some (.slice a0 zs.length k0) ∧ w'.cell? ⟨w4.heap.size, 3, none⟩ = some (.int .i64 T) ∧ w'.cell? ⟨w4.heap.size, 4, none⟩ = some (.bool nn) ∧ w'.cell? ⟨w4.heap.size, 5, none⟩ = some (.bool bd) ∧ w'.cell? ⟨w4.heap.size, 6, none⟩ = some (.bool pl) ∧ w'.cell? ⟨w4.heap.size, 7, none⟩ = some (.bool mi) ∧ w'.cell? ⟨w4.heap.size, 8, none⟩ = some (.bool am))) (by kernel_rfl) ?_ (fun hHeld => ?_)
    ·exact Od.cs
    refine tk 0 ?_ rfl (Or.inl ⟨by rfl, ?_⟩) ?_
    rotate_left
    ·(intro w hSw; (try dsimp only at hSw); go_simp; try (with_reducible rfl))
    try simp only [Act.put, Ls]
    refine tk 1 ?_ rfl (Or.inl ⟨by rfl, ?_⟩) ?_
    rotate_left
    ·(intro w hSw; (try dsimp only at hSw); go_simp; try (with_reducible rfl))
    try simp only [Act.put, Ls]
    refine tk 2 ?_ rfl (Or.inl ⟨by rfl, ?_⟩) ?_
    rotate_left
    ·(intro w hSw; (try dsimp only at hSw); go_simp; try (with_reducible rfl))
    try simp only [Act.put, Ls]
    refine tk 12 ?_ rfl (Or.inl ⟨by rfl, ?_⟩) ?_
    rotate_left
    ·(intro w hSw; (try dsimp only at hSw); go_simp; try (with_reducible rfl))
    try simp only [Act.put, Ls]
    refine tk 16 ?_ rfl (Or.inl ⟨by rfl, ?_⟩) ?_
    rotate_left
    ·(intro w hSw; (try dsimp only at hSw); go_simp; try (with_reducible rfl))
    try simp only [Act.put, Ls]
    refine rdy 3 rfl (fun K hK => ?_)
    go_simp
    go_at_call 131; refine (CA1.out _).mono ?_; rintro r q1 ⟨rfl, hq1⟩
    have O1 := Od.below hq1
    have R1 := R.drew.below hq1
    have o1 := hp0'.drew.below hq1
    have bq1 := bel_go (Below.drew belX) hq1
    refine hK.out _ _ ?_ (fun hHeld => ?_)
    ·exact O1.cs
    clear hK K
    try simp only [Act.put, Ls]
    refine tk 4 ?_ rfl (Or.inl ⟨by rfl, ?_⟩) ?_
    rotate_left
    ·(intro w hSw; (try dsimp only at hSw); go_simp; try (with_reducible rfl))
    try simp only [Act.put, Ls]
    refine tk 5 undef rfl (Or.inr ⟨by rfl, rfl⟩) ?_
    try simp only [Act.put, Ls]
    refine tk 6 undef rfl (Or.inr ⟨by rfl, rfl⟩) ?_
    try simp only [Act.put, Ls]
    refine tk 7 undef rfl (Or.inr ⟨by rfl, rfl⟩) ?_
    try simp only [Act.put, Ls]
    have O2 := O1
    have R2' := R1
    have o2 := o1
    have bq2 := bq1
    refine tk 8 ?_ rfl (Or.inl ⟨by rfl, ?_⟩) ?_
    rotate_left
    ·(intro w hSw; (try dsimp only at hSw); go_simp; try (with_reducible rfl))
    try simp only [Act.put, Ls]
    refine tk 9 ?_ rfl (Or.inl ⟨by rfl, ?_⟩) ?_
    rotate_left
    ·(intro w hSw; (try dsimp only at hSw); go_simp; try (with_reducible rfl))
    try simp only [Act.put, Ls]
    refine tk 10 undef rfl (Or.inr ⟨by rfl, rfl⟩) ?_
    try simp only [Act.put, Ls]
    refine tk 11 ?_ rfl (Or.inl ⟨by rfl, ?_⟩) ?_
    rotate_left
    ·(intro w hSw; (try dsimp only at hSw); go_simp; try (with_reducible rfl))
    try simp only [Act.put, Ls]
    refine tk 13 ?_ rfl (Or.inl ⟨by rfl, ?_⟩) ?_
    rotate_left
    ·(intro w hSw; (try dsimp only at hSw); go_simp; try (with_reducible rfl))
    try simp only [Act.put, Ls]
    refine tk 14 undef rfl (Or.inr ⟨by rfl, rfl⟩) ?_
    try simp only [Act.put, Ls]
    refine tk 15 ?_ rfl (Or.inl ⟨by rfl, ?_⟩) ?_
    rotate_left
    ·(intro w hSw; (try dsimp only at hSw); go_simp; try (with_reducible rfl))
    try simp only [Act.put, Ls]
    refine rdy 17 rfl (fun K hK => ?_)
    go_simp
    go_at_call 130; refine (C7.out true true a0 k0 _ (by simp) (by simp)).mono ?_; rintro r q3 ⟨rfl, hq3⟩
    have O3 := O2.below hq3
    have R3' := R2'.below hq3
    have o3 := o2.below hq3
    have bq3 := bel_go bq2 hq3
    refine hK.out _ _ ?_ (fun hHeld => ?_)
    ·exact O3.cs
    clear hK K
    try simp only [Act.put, Ls]
    refine rdy 18 rfl (fun K hK => ?_)
    obtain ⟨r0, r1, r2, r3, r4, r5, r6, r7, r8, g0, g1, g2, g3, g4, g5, g6, g7, g8⟩ := R3'
    go_simp
    refine hK.out _ _ ?_ (fun hHeld => ?_)
    ·exact (O3.of_block (heap9n _ _ _ (by omega) _ _ _ _ _ _ _ _ _)).cs
    clear hK K
    try simp only [Act.put, Ls]
    refine rdy 19 rfl (fun K hK => ?_)
    go_simp
    refine hK.out _ _ ?_ (fun hHeld => ?_)
    ·exact (O3.of_block (heap9n _ _ _ (by omega) _ _ _ _ _ _ _ _ _)).cs
    clear hK K
    try simp only [Act.put, Ls]
    refine wpAnyH_done (by kernel_rfl) ?_ _
    go_wp2
    refine bodyPost_ret (v := .tuple #[.agg #[.int .i64 fm, .bool ng, .slice a0 zs.length k0, .int .i64 T2, .bool n2, .bool b2, .bool p2, .bool m2, .bool false], .int .i64 0]) (by simp [results, Tryz.results53, go_sem, r0, r1, r2, r3, r4, r5, r6, r7, r8]) rfl ⟨a0, k0, rfl, ?_, ?_⟩
    ·refine Own.base (B := w3.heap.size) ?_ (by omega)
     repeat (first | with_reducible exact o3 | (with_reducible refine Own.setBelow ?_ ?_ _; rotate_left; focus (first | (simp; done) | (simp; omega))))
    ·exact (by (repeat with_reducible first | refine Below.setCell ?_ ?_ _ | exact bz0 _ _ | refine bz1 ?_ | refine bz2 ?_ _ | refine bz3 ?_ _ | refine bz4 ?_ bq3 | refine Below.alloc ?_ ?_ _ | refine Below.trans ?_ (Below.mono bq3 ?_)) <;> first | omega | (simp; done) | (simp; omega))
   | false =>
   cases ny with
   | true =>
    obtain ⟨c0, c1, c2, c3, c4, c5, c6, c7, c8⟩ := A.cs
    go_enter Tryz.func53, Tryz.ntmps53
    go_wp2_with fail
    refine (C1.out _ (hs.below bel0)).mono ?_
    rintro r w1 ⟨rfl, hb1⟩
    clear c0 c1 c2 c3 c4 c5 c6 c7 c8
    replace A := A.below hb1
    replace R := R.below hb1
    have bel1 := bel_go bel0 hb1
    go_wp2_with fail
    refine (C2.out _).mono ?_
    rintro r w2 ⟨rfl, hb2⟩
    go_wp2_with fail
    refine (C3.out _).mono ?_
    rintro r w3 ⟨rfl, hb3⟩
    replace A := (A.below hb2).below hb3
    replace R := (R.below hb2).below hb3
    have bel3 := bel_go (bel_go bel1 hb2) hb3
    clear hb1 hb2 hb3 bel1
    obtain ⟨c0, c1, c2, c3, c4, c5, c6, c7, c8⟩ := A.cs
    go_wp2_with fail
    refine (CC.out _ (hs.below bel3)).mono ?_
    rintro r w4 ⟨a0, k0, rfl, hp0, hb4⟩
    clear c0 c1 c2 c3 c4 c5 c6 c7 c8
    have lr := R.lt
    have z4 := hb4.size
    have hp0' := hp0.alloc (.cells #[.int .i64 fm, .bool ng, .slice a0 zs.length k0, .int .i64 T, .bool nn, .bool bd, .bool pl, .bool mi, .bool am] 50)
    replace R := (R.below hb4).alloc (.cells #[.int .i64 fm, .bool ng, .slice a0 zs.length k0, .int .i64 T, .bool nn, .bool bd, .bool pl, .bool mi, .bool am] 50)
    have O := Q9.new w4 (.int .i64 fm) (.bool ng) (.slice a0 zs.length k0) (.int .i64 T) (.bool nn) (.bool bd) (.bool pl) (.bool mi) (.bool am) 50
    have bel4 := bel_al (bel_go bel3 hb4) (.cells #[.int .i64 fm, .bool ng, .slice a0 zs.length k0, .int .i64 T, .bool nn, .bool bd, .bool pl, .bool mi, .bool am] 50)
    clear hp0 hb4 A
    go_wp2_with fail
    refine (CN1.out _).mono ?_
    rintro r w5 ⟨rfl, hb5⟩
    go_wp2_with fail
    refine (CN2.out _).mono ?_
    rintro r w6 ⟨rfl, hb6⟩
    go_wp2_with fail
    refine (CF1.out _).mono ?_
    rintro r w7 ⟨rfl, hb7⟩
    replace R := ((R.below hb5).below hb6).below hb7
    replace O := ((O.below hb5).below hb6).below hb7
    replace hp0' := ((hp0'.below hb5).below hb6).below hb7
    have belW := bel_go (bel_go (bel_go bel4 hb5) hb6) hb7
    clear bel4 bel3 hb5 hb6 hb7
    have lO := O.lt
    go_wp2_with fail
    refine (CK1.out _).mono ?_
    rintro r w8 ⟨rfl, hb8⟩
    go_wp2_with fail
    refine (CO.out _).mono ?_
    rintro r w9 ⟨rfl, hb9⟩
    replace R := (R.below hb8).below hb9
    replace O := (O.below hb8).below hb9
    replace hp0' := (hp0'.below hb8).below hb9
    have belX := bel_go (bel_go belW hb8) hb9
    have Od := O.drew
    clear belW hb8 hb9
    go_wp2_with fail
    refine wp_region_held_drew (S := fun w' => (w'.cell? ⟨w4.heap.size, 0, none⟩ = some (.int .i64 fm) ∧ w'.cell? ⟨w4.heap.size, 1, none⟩ = some (.bool ng) ∧ w'.cell? ⟨w4.heap.size, 2, none⟩ = some (.slice a0 zs.length k0) ∧ w'.cell? ⟨w4.heap.size, 3, none⟩ = some (.int .i64 T) ∧ w'.cell? ⟨w4.heap.size, 4, none⟩ = some (.bool nn) ∧ w'.cell? ⟨w4.heap.size, 5, none⟩ = some (.bool bd) ∧ w'.cell? ⟨w4.heap.size, 6, none⟩ = some (.bool pl) ∧ w'.cell? ⟨w4.heap.size, 7, none⟩ = some (.bool mi) ∧ w'.cell? ⟨w4.heap.size, 8, none⟩ = some (.bool am))) (by kernel_rfl) ?_ (fun hHeld => ?_)
    ·exact Od.cs
    refine tk 0 ?_ rfl (Or.inl ⟨by rfl, ?_⟩) ?_
    rotate_left
    ·(intro w hSw; (try dsimp only at hSw); go_simp; try (with_reducible rfl))
    try simp only [Act.put, Ls]
    refine tk 1 ?_ rfl (Or.inl ⟨by rfl, ?_⟩) ?_
    rotate_left
    ·(intro w hSw; (try dsimp only at hSw); go_simp; try (with_reducible rfl))
    try simp only [Act.put, Ls]
    refine tk 2 ?_ rfl (Or.inl ⟨by rfl, ?_⟩) ?_
    rotate_left
    ·(intro w hSw; (try dsimp only at hSw); go_simp; try (with_reducible rfl))
    try simp only [Act.put, Ls]
    refine tk 12 ?_ rfl (Or.inl ⟨by rfl, ?_⟩) ?_
    rotate_left
    ·(intro w hSw; (try dsimp only at hSw); go_simp; try (with_reducible rfl))
    try simp only [Act.put, Ls]
    refine tk 16 ?_ rfl (Or.inl ⟨by rfl, ?_⟩) ?_
    rotate_left
    ·(intro w hSw; (try dsimp only at hSw); go_simp; try (with_reducible rfl))
    try simp only [Act.put, Ls]
    refine rdy 3 rfl (fun K hK => ?_)
    go_simp
    go_at_call 131; refine (CA1.out _).mono ?_; rintro r q1 ⟨rfl, hq1⟩
    have O1 := Od.below hq1
    have R1 := R.drew.below hq1
    have o1 := hp0'.drew.below hq1
    have bq1 := bel_go (Below.drew belX) hq1
    refine hK.out _ _ ?_ (fun hHeld => ?_)
    ·exact O1.cs
    clear hK K
    try simp only [Act.put, Ls]
    refine tk 4 ?_ rfl (Or.inl ⟨by rfl, ?_⟩) ?_
    rotate_left
    ·(intro w hSw; (try dsimp only at hSw); go_simp; try (with_reducible rfl))
    try simp only [Act.put, Ls]
    refine tk 5 ?_ rfl (Or.inl ⟨by rfl, ?_⟩) ?_
    rotate_left
    ·(intro w hSw; (try dsimp only at hSw); go_simp; try (with_reducible rfl))
    try simp only [Act.put, Ls]
    refine tk 6 ?_ rfl (Or.inl ⟨by rfl, ?_⟩) ?_
    rotate_left
    ·(intro w hSw; (try dsimp only at hSw); go_simp; try (with_reducible rfl))
    try simp only [Act.put, Ls]
    refine rdy 7 rfl (fun K hK => ?_)
    go_simp
    go_at_call 131; refine (CA2.out _).mono ?_; rintro r q2 ⟨rfl, hq2⟩
    have O2 := O1.below hq2
    have R2' := R1.below hq2
    have o2 := o1.below hq2
    have bq2 := bel_go bq1 hq2
    refine hK.out _ _ ?_ (fun hHeld => ?_)
    ·exact O2.cs
    clear hK K
    try simp only [Act.put, Ls]
    refine tk 8 ?_ rfl (Or.inl ⟨by rfl, ?_⟩) ?_
    rotate_left
    ·(intro w hSw; (try dsimp only at hSw); go_simp; try (with_reducible rfl))
    try simp only [Act.put, Ls]
    refine tk 9 ?_ rfl (Or.inl ⟨by rfl, ?_⟩) ?_
    rotate_left
    ·(intro w hSw; (try dsimp only at hSw); go_simp; try (with_reducible rfl))
    try simp only [Act.put, Ls]
    refine tk 10 undef rfl (Or.inr ⟨by rfl, rfl⟩) ?_
    try simp only [Act.put, Ls]
    refine tk 11 ?_ rfl (Or.inl ⟨by rfl, ?_⟩) ?_
    rotate_left
    ·(intro w hSw; (try dsimp only at hSw); go_simp; try (with_reducible rfl))
    try simp only [Act.put, Ls]
    refine tk 13 ?_ rfl (Or.inl ⟨by rfl, ?_⟩) ?_
    rotate_left
    ·(intro w hSw; (try dsimp only at hSw); go_simp; try (with_reducible rfl))
    try simp only [Act.put, Ls]
    refine tk 14 undef rfl (Or.inr ⟨by rfl, rfl⟩) ?_
    try simp only [Act.put, Ls]
    refine tk 15 ?_ rfl (Or.inl ⟨by rfl, ?_⟩) ?_
    rotate_left
    ·(intro w hSw; (try dsimp only at hSw); go_simp; try (with_reducible rfl))
    try simp only [Act.put, Ls]
    refine rdy 17 rfl (fun K hK => ?_)
    go_simp
    go_at_call 130; refine (C7.out true true a0 k0 _ (by simp) (by simp)).mono ?_; rintro r q3 ⟨rfl, hq3⟩
    have O3 := O2.below hq3
    have R3' := R2'.below hq3
    have o3 := o2.below hq3
    have bq3 := bel_go bq2 hq3
    refine hK.out _ _ ?_ (fun hHeld => ?_)
    ·exact O3.cs
    clear hK K
    try simp only [Act.put, Ls]
    refine rdy 18 rfl (fun K hK => ?_)
    obtain ⟨r0, r1, r2, r3, r4, r5, r6, r7, r8, g0, g1, g2, g3, g4, g5, g6, g7, g8⟩ := R3'
    go_simp
    refine hK.out _ _ ?_ (fun hHeld => ?_)
    ·exact (O3.of_block (heap9n _ _ _ (by omega) _ _ _ _ _ _ _ _ _)).cs
    clear hK K
    try simp only [Act.put, Ls]
    refine rdy 19 rfl (fun K hK => ?_)
    go_simp
    refine hK.out _ _ ?_ (fun hHeld => ?_)
    ·exact (O3.of_block (heap9n _ _ _ (by omega) _ _ _ _ _ _ _ _ _)).cs
    clear hK K
    try simp only [Act.put, Ls]
    refine wpAnyH_done (by kernel_rfl) ?_ _
    go_wp2
    refine bodyPost_ret (v := .tuple #[.agg #[.int .i64 fm, .bool ng, .slice a0 zs.length k0, .int .i64 T2, .bool n2, .bool b2, .bool p2, .bool m2, .bool false], .int .i64 0]) (by simp [results, Tryz.results53, go_sem, r0, r1, r2, r3, r4, r5, r6, r7, r8]) rfl ⟨a0, k0, rfl, ?_, ?_⟩
    ·refine Own.base (B := w3.heap.size) ?_ (by omega)
     repeat (first | with_reducible exact o3 | (with_reducible refine Own.setBelow ?_ ?_ _; rotate_left; focus (first | (simp; done) | (simp; omega))))
    ·exact (by (repeat with_reducible first | refine Below.setCell ?_ ?_ _ | exact bz0 _ _ | refine bz1 ?_ | refine bz2 ?_ _ | refine bz3 ?_ _ | refine bz4 ?_ bq3 | refine Below.alloc ?_ ?_ _ | refine Below.trans ?_ (Below.mono bq3 ?_)) <;> first | omega | (simp; done) | (simp; omega))
   | false =>
    obtain ⟨c0, c1, c2, c3, c4, c5, c6, c7, c8⟩ := A.cs
    go_enter Tryz.func53, Tryz.ntmps53
    go_wp2_with fail
    refine (C1.out _ (hs.below bel0)).mono ?_
    rintro r w1 ⟨rfl, hb1⟩
    clear c0 c1 c2 c3 c4 c5 c6 c7 c8
    replace A := A.below hb1
    replace R := R.below hb1
    have bel1 := bel_go bel0 hb1
    go_wp2_with fail
    refine (C2.out _).mono ?_
    rintro r w2 ⟨rfl, hb2⟩
    go_wp2_with fail
    refine (C3.out _).mono ?_
    rintro r w3 ⟨rfl, hb3⟩
    replace A := (A.below hb2).below hb3
    replace R := (R.below hb2).below hb3
    have bel3 := bel_go (bel_go bel1 hb2) hb3
    clear hb1 hb2 hb3 bel1
    obtain ⟨c0, c1, c2, c3, c4, c5, c6, c7, c8⟩ := A.cs
    go_wp2_with fail
    refine (CC.out _ (hs.below bel3)).mono ?_
    rintro r w4 ⟨a0, k0, rfl, hp0, hb4⟩
    clear c0 c1 c2 c3 c4 c5 c6 c7 c8
    have lr := R.lt
    have z4 := hb4.size
    have hp0' := hp0.alloc (.cells #[.int .i64 fm, .bool ng, .slice a0 zs.length k0, .int .i64 T, .bool nn, .bool bd, .bool pl, .bool mi, .bool am] 50)
    replace R := (R.below hb4).alloc (.cells #[.int .i64 fm, .bool ng, .slice a0 zs.length k0, .int .i64 T, .bool nn, .bool bd, .bool pl, .bool mi, .bool am] 50)
    have O := Q9.new w4 (.int .i64 fm) (.bool ng) (.slice a0 zs.length k0) (.int .i64 T) (.bool nn) (.bool bd) (.bool pl) (.bool mi) (.bool am) 50
    have bel4 := bel_al (bel_go bel3 hb4) (.cells #[.int .i64 fm, .bool ng, .slice a0 zs.length k0, .int .i64 T, .bool nn, .bool bd, .bool pl, .bool mi, .bool am] 50)
    clear hp0 hb4 A
    go_wp2_with fail
    refine (CN1.out _).mono ?_
    rintro r w5 ⟨rfl, hb5⟩
    go_wp2_with fail
    refine (CN2.out _).mono ?_
    rintro r w6 ⟨rfl, hb6⟩
    go_wp2_with fail
    refine (CF1.out _).mono ?_
    rintro r w7 ⟨rfl, hb7⟩
    replace R := ((R.below hb5).below hb6).below hb7
    replace O := ((O.below hb5).below hb6).below hb7
    replace hp0' := ((hp0'.below hb5).below hb6).below hb7
    have belW := bel_go (bel_go (bel_go bel4 hb5) hb6) hb7
    clear bel4 bel3 hb5 hb6 hb7
    have lO := O.lt
    go_wp2_with fail
    refine (CK1.out _).mono ?_
    rintro r w8 ⟨rfl, hb8⟩
    go_wp2_with fail
    refine (CO.out _).mono ?_
    rintro r w9 ⟨rfl, hb9⟩
    replace R := (R.below hb8).below hb9
    replace O := (O.below hb8).below hb9
    replace hp0' := (hp0'.below hb8).below hb9
    have belX := bel_go (bel_go belW hb8) hb9
    have Od := O.drew
    clear belW hb8 hb9
    go_wp2_with fail
    refine wp_region_held_drew (S := fun w' => (w'.cell? ⟨w4.heap.size, 0, none⟩ = some (.int .i64 fm) ∧ w'.cell? ⟨w4.heap.size, 1, none⟩ = some (.bool ng) ∧ w'.cell? ⟨w4.heap.size, 2, none⟩ = some (.slice a0 zs.length k0) ∧ w'.cell? ⟨w4.heap.size, 3, none⟩ = some (.int .i64 T) ∧ w'.cell? ⟨w4.heap.size, 4, none⟩ = some (.bool nn) ∧ w'.cell? ⟨w4.heap.size, 5, none⟩ = some (.bool bd) ∧ w'.cell? ⟨w4.heap.size, 6, none⟩ = some (.bool pl) ∧ w'.cell? ⟨w4.heap.size, 7, none⟩ = some (.bool mi) ∧ w'.cell? ⟨w4.heap.size, 8, none⟩ = some (.bool am))) (by kernel_rfl) ?_ (fun hHeld => ?_)
    ·exact Od.cs
    refine tk 0 ?_ rfl (Or.inl ⟨by rfl, ?_⟩) ?_
    rotate_left
    ·(intro w hSw; (try dsimp only at hSw); go_simp; try (with_reducible rfl))
    try simp only [Act.put, Ls]
    refine tk 1 ?_ rfl (Or.inl ⟨by rfl, ?_⟩) ?_
    rotate_left
    ·(intro w hSw; (try dsimp only at hSw); go_simp; try (with_reducible rfl))
    try simp only [Act.put, Ls]
    refine tk 2 ?_ rfl (Or.inl ⟨by rfl, ?_⟩) ?_
    rotate_left
    ·(intro w hSw; (try dsimp only at hSw); go_simp; try (with_reducible rfl))
    try simp only [Act.put, Ls]
    refine tk 12 ?_ rfl (Or.inl ⟨by rfl, ?_⟩) ?_
    rotate_left
    ·(intro w hSw; (try dsimp only at hSw); go_simp; try (with_reducible rfl))
    try simp only [Act.put, Ls]
    refine tk 16 ?_ rfl (Or.inl ⟨by rfl, ?_⟩) ?_
    rotate_left
    ·(intro w hSw; (try dsimp only at hSw); go_simp; try (with_reducible rfl))
    try simp only [Act.put, Ls]
    refine rdy 3 rfl (fun K hK => ?_)
    go_simp
    go_at_call 131; refine (CA1.out _).mono ?_; rintro r q1 ⟨rfl, hq1⟩
    have O1 := Od.below hq1
    have R1 := R.drew.below hq1
    have o1 := hp0'.drew.below hq1
    have bq1 := bel_go (Below.drew belX) hq1
    refine hK.out _ _ ?_ (fun hHeld => ?_)
    ·exact O1.cs
    clear hK K
    try simp only [Act.put, Ls]
    refine tk 4 ?_ rfl (Or.inl ⟨by rfl, ?_⟩) ?_
    rotate_left
    ·(intro w hSw; (try dsimp only at hSw); go_simp; try (with_reducible rfl))
    try simp only [Act.put, Ls]
    refine tk 5 ?_ rfl (Or.inl ⟨by rfl, ?_⟩) ?_
    rotate_left
    ·(intro w hSw; (try dsimp only at hSw); go_simp; try (with_reducible rfl))
    try simp only [Act.put, Ls]
    refine tk 6 ?_ rfl (Or.inl ⟨by rfl, ?_⟩) ?_
    rotate_left
    ·(intro w hSw; (try dsimp only at hSw); go_simp; try (with_reducible rfl))
    try simp only [Act.put, Ls]
    refine rdy 7 rfl (fun K hK => ?_)
    go_simp
    go_at_call 131; refine (CA2.out _).mono ?_; rintro r q2 ⟨rfl, hq2⟩
    have O2 := O1.below hq2
    have R2' := R1.below hq2
    have o2 := o1.below hq2
    have bq2 := bel_go bq1 hq2
    refine hK.out _ _ ?_ (fun hHeld => ?_)
    ·exact O2.cs
    clear hK K
    try simp only [Act.put, Ls]
    refine tk 8 ?_ rfl (Or.inl ⟨by rfl, ?_⟩) ?_
    rotate_left
    ·(intro w hSw; (try dsimp only at hSw); go_simp; try (with_reducible rfl))
    try simp only [Act.put, Ls]
    refine tk 9 ?_ rfl (Or.inl ⟨by rfl, ?_⟩) ?_
    rotate_left
    ·(intro w hSw; (try dsimp only at hSw); go_simp; try (with_reducible rfl))
    try simp only [Act.put, Ls]
    refine tk 10 ?_ rfl (Or.inl ⟨by rfl, ?_⟩) ?_
    rotate_left
    ·(intro w hSw; (try dsimp only at hSw); go_simp; try (with_reducible rfl))
    try simp only [Act.put, Ls]
    refine tk 11 ?_ rfl (Or.inl ⟨by rfl, ?_⟩) ?_
    rotate_left
    ·(intro w hSw; (try dsimp only at hSw); go_simp; try (with_reducible rfl))
    try simp only [Act.put, Ls]
    refine tk 13 ?_ rfl (Or.inl ⟨by rfl, ?_⟩) ?_
    rotate_left
    ·(intro w hSw; (try dsimp only at hSw); go_simp; try (with_reducible rfl))
    try simp only [Act.put, Ls]
    refine tk 14 undef rfl (Or.inr ⟨by rfl, rfl⟩) ?_
    try simp only [Act.put, Ls]
    refine tk 15 ?_ rfl (Or.inl ⟨by rfl, ?_⟩) ?_
    rotate_left
    ·(intro w hSw; (try dsimp only at hSw); go_simp; try (with_reducible rfl))
    try simp only [Act.put, Ls]
    refine rdy 17 rfl (fun K hK => ?_)
    go_simp
    go_at_call 130; refine (C7.out od true a0 k0 _ (by simp) (by simp)).mono ?_; rintro r q3 ⟨rfl, hq3⟩
    have O3 := O2.below hq3
    have R3' := R2'.below hq3
    have o3 := o2.below hq3
    have bq3 := bel_go bq2 hq3
    refine hK.out _ _ ?_ (fun hHeld => ?_)
    ·exact O3.cs
    clear hK K
    try simp only [Act.put, Ls]
    refine rdy 18 rfl (fun K hK => ?_)
    obtain ⟨r0, r1, r2, r3, r4, r5, r6, r7, r8, g0, g1, g2, g3, g4, g5, g6, g7, g8⟩ := R3'
    go_simp
    refine hK.out _ _ ?_ (fun hHeld => ?_)
    ·exact (O3.of_block (heap9n _ _ _ (by omega) _ _ _ _ _ _ _ _ _)).cs
    clear hK K
    try simp only [Act.put, Ls]
    refine rdy 19 rfl (fun K hK => ?_)
    go_simp
    refine hK.out _ _ ?_ (fun hHeld => ?_)
    ·exact (O3.of_block (heap9n _ _ _ (by omega) _ _ _ _ _ _ _ _ _)).cs
    clear hK K
    try simp only [Act.put, Ls]
    refine wpAnyH_done (by kernel_rfl) ?_ _
    go_wp2
    refine bodyPost_ret (v := .tuple #[.agg #[.int .i64 fm, .bool ng, .slice a0 zs.length k0, .int .i64 T2, .bool n2, .bool b2, .bool p2, .bool m2, .bool false], .int .i64 0]) (by simp [results, Tryz.results53, go_sem, r0, r1, r2, r3, r4, r5, r6, r7, r8]) rfl ⟨a0, k0, rfl, ?_, ?_⟩
    ·refine Own.base (B := w3.heap.size) ?_ (by omega)
     repeat (first | with_reducible exact o3 | (with_reducible refine Own.setBelow ?_ ?_ _; rotate_left; focus (first | (simp; done) | (simp; omega))))
    ·exact (by (repeat with_reducible first | refine Below.setCell ?_ ?_ _ | exact bz0 _ _ | refine bz1 ?_ | refine bz2 ?_ _ | refine bz3 ?_ _ | refine bz4 ?_ bq3 | refine Below.alloc ?_ ?_ _ | refine Below.trans ?_ (Below.mono bq3 ?_)) <;> first | omega | (simp; done) | (simp; omega))
  | false =>
  cases e2 with
  | true =>
   cases nx with
   | true =>
    obtain ⟨c0, c1, c2, c3, c4, c5, c6, c7, c8⟩ := A.cs
    go_enter Tryz.func53, Tryz.ntmps53
    go_wp2_with fail
    refine (C1.out _ (hs.below bel0)).mono ?_
    rintro r w1 ⟨rfl, hb1⟩
    clear c0 c1 c2 c3 c4 c5 c6 c7 c8
    replace A := A.below hb1
    replace R := R.below hb1
    have bel1 := bel_go bel0 hb1
    go_wp2_with fail
    refine (C2.out _).mono ?_
    rintro r w2 ⟨rfl, hb2⟩
    go_wp2_with fail
    refine (C3.out _).mono ?_
    rintro r w3 ⟨rfl, hb3⟩
    replace A := (A.below hb2).below hb3
    replace R := (R.below hb2).below hb3
    have bel3 := bel_go (bel_go bel1 hb2) hb3
    clear hb1 hb2 hb3 bel1
    obtain ⟨c0, c1, c2, c3, c4, c5, c6, c7, c8⟩ := A.cs
    go_wp2_with fail
    refine (CC.out _ (hs.below bel3)).mono ?_
    rintro r w4 ⟨a0, k0, rfl, hp0, hb4⟩
    clear c0 c1 c2 c3 c4 c5 c6 c7 c8
    have lr := R.lt
    have z4 := hb4.size
    have hp0' := hp0.alloc (.cells #[.int .i64 fm, .bool ng, .slice a0 zs.length k0, .int .i64 T, .bool nn, .bool bd, .bool pl, .bool mi, .bool am] 50)
    replace R := (R.below hb4).alloc (.cells #[.int .i64 fm, .bool ng, .slice a0 zs.length k0, .int .i64 T, .bool nn, .bool bd, .bool pl, .bool mi, .bool am] 50)
    have O := Q9.new w4 (.int .i64 fm) (.bool ng) (.slice a0 zs.length k0) (.int .i64 T) (.bool nn) (.bool bd) (.bool pl) (.bool mi) (.bool am) 50
    have bel4 := bel_al (bel_go bel3 hb4) (.cells #[.int .i64 fm, .bool ng, .slice a0 zs.length k0, .int .i64 T, .bool nn, .bool bd, .bool pl, .bool mi, .bool am] 50)
    clear hp0 hb4 A
    go_wp2_with fail
    refine (CN1.out _).mono ?_
    rintro r w5 ⟨rfl, hb5⟩
    go_wp2_with fail
    refine (CN2.out _).mono ?_
    rintro r w6 ⟨rfl, hb6⟩
    go_wp2_with fail
    refine (CF1.out _).mono ?_
    rintro r w7 ⟨rfl, hb7⟩
    replace R := ((R.below hb5).below hb6).below hb7
    replace O := ((O.below hb5).below hb6).below hb7
    replace hp0' := ((hp0'.below hb5).below hb6).below hb7
    have belW := bel_go (bel_go (bel_go bel4 hb5) hb6) hb7
    clear bel4 bel3 hb5 hb6 hb7
    have lO := O.lt
    go_wp2_with fail
    refine (CK1.out _).mono ?_
    rintro r w8 ⟨rfl, hb8⟩
    go_wp2_with fail
    refine (CK2.out _).mono ?_
    rintro r w9 ⟨rfl, hb9⟩
    go_wp2_with fail
    refine (CO.out _).mono ?_
    rintro r w10 ⟨rfl, hb10⟩
    replace R := ((R.below hb8).below hb9).below hb10
    replace O := ((O.below hb8).below hb9).below hb10
    replace hp0' := ((hp0'.below hb8).below hb9).below hb10
    have belX := bel_go (bel_go (bel_go belW hb8) hb9) hb10
    have Od := O.drew
    clear belW hb8 hb9 hb10
    go_wp2_with fail
    refine wp_region_held_drew (S := fun w' => (w'.cell? ⟨w4.heap.size, 0, none⟩ = some (.int .i64 fm) ∧ w'.cell? ⟨w4.heap.size, 1, none⟩ = some (.bool ng) ∧ w'.cell? ⟨w4.heap.size, 2, none⟩ = some (.slice a0 zs.length k0) ∧ w'.cell? ⟨w4.heap.size, 3, none⟩ = some (.int .i64 T) ∧ w'.cell? ⟨w4.heap.size, 4, none⟩ = some (.bool nn) ∧ w'.cell? ⟨w4.heap.size, 5, none⟩ = some (.bool bd) ∧ w'.cell? ⟨w4.heap.size, 6, none⟩ = some (.bool pl) ∧ w'.cell? ⟨w4.heap.size, 7, none⟩ = some (.bool mi) ∧ w'.cell? ⟨w4.heap.size, 8, none⟩ = some (.bool am))) (by kernel_rfl) ?_ (fun hHeld => ?_)
    ·exact Od.cs
    refine tk 0 ?_ rfl (Or.inl ⟨by rfl, ?_⟩) ?_
    rotate_left
    ·(intro w hSw; (try dsimp only at hSw); go_simp; try (with_reducible rfl))
    try simp only [Act.put, Ls]
    refine tk 1 ?_ rfl (Or.inl ⟨by rfl, ?_⟩) ?_
    rotate_left
    ·(intro w hSw; (try dsimp only at hSw); go_simp; try (with_reducible rfl))
    try simp only [Act.put, Ls]
    refine tk 2 ?_ rfl (Or.inl ⟨by rfl, ?_⟩) ?_
    rotate_left
    ·(intro w hSw; (try dsimp only at hSw); go_simp; try (with_reducible rfl))
    try simp only [Act.put, Ls]
    refine tk 12 ?_ rfl (Or.inl ⟨by rfl, ?_⟩) ?_
    rotate_left
    ·(intro w hSw; (try dsimp only at hSw); go_simp; try (with_reducible rfl))
    try simp only [Act.put, Ls]
    refine tk 16 ?_ rfl (Or.inl ⟨by rfl, ?_⟩) ?_
    rotate_left
    ·(intro w hSw; (try dsimp only at hSw); go_simp; try (with_reducible rfl))
    try simp only [Act.put, Ls]
    refine rdy 3 rfl (fun K hK => ?_)
    go_simp
    go_at_call 131; refine (CA1.out _).mono ?_; rintro r q1 ⟨rfl, hq1⟩
    have O1 := Od.below hq1
    have R1 := R.drew.below hq1
    have o1 := hp0'.drew.below hq1
    have bq1 := bel_go (Below.drew belX) hq1
    refine hK.out _ _ ?_ (fun hHeld => ?_)
    ·exact O1.cs
    clear hK K
    try simp only [Act.put, Ls]
    refine tk 4 ?_ rfl (Or.inl ⟨by rfl, ?_⟩) ?_
    rotate_left
    ·(intro w hSw; (try dsimp only at hSw); go_simp; try (with_reducible rfl))
    try simp only [Act.put, Ls]
    refine tk 5 undef rfl (Or.inr ⟨by rfl, rfl⟩) ?_
    try simp only [Act.put, Ls]
    refine tk 6 undef rfl (Or.inr ⟨by rfl, rfl⟩) ?_
    try simp only [Act.put, Ls]
    refine tk 7 undef rfl (Or.inr ⟨by rfl, rfl⟩) ?_
    try simp only [Act.put, Ls]
    have O2 := O1
    have R2' := R1
    have o2 := o1
    have bq2 := bq1
    refine tk 8 ?_ rfl (Or.inl ⟨by rfl, ?_⟩) ?_
    rotate_left
    ·(intro w hSw; (try dsimp only at hSw); go_simp; try (with_reducible rfl))
    try simp only [Act.put, Ls]
    refine tk 9 ?_ rfl (Or.inl ⟨by rfl, ?_⟩) ?_
    rotate_left
    ·(intro w hSw; (try dsimp only at hSw); go_simp; try (with_reducible rfl))
    try simp only [Act.put, Ls]
    refine tk 10 undef rfl (Or.inr ⟨by rfl, rfl⟩) ?_
    try simp only [Act.put, Ls]
    refine tk 11 ?_ rfl (Or.inl ⟨by rfl, ?_⟩) ?_
    rotate_left
    ·(intro w hSw; (try dsimp only at hSw); go_simp; try (with_reducible rfl))
    try simp only [Act.put, Ls]
    refine tk 13 ?_ rfl (Or.inl ⟨by rfl, ?_⟩) ?_
    rotate_left
    ·(intro w hSw; (try dsimp only at hSw); go_simp; try (with_reducible rfl))
    try simp only [Act.put, Ls]
    refine tk 14 undef rfl (Or.inr ⟨by rfl, rfl⟩) ?_
    try simp only [Act.put, Ls]
    refine tk 15 ?_ rfl (Or.inl ⟨by rfl, ?_⟩) ?_
    rotate_left
    ·(intro w hSw; (try dsimp only at hSw); go_simp; try (with_reducible rfl))
    try simp only [Act.put, Ls]
    refine rdy 17 rfl (fun K hK => ?_)
    go_simp
    go_at_call 130; refine (C7.out true true a0 k0 _ (by simp) (by simp)).mono ?_; rintro r q3 ⟨rfl, hq3⟩
    have O3 := O2.below hq3
    have R3' := R2'.below hq3
    have o3 := o2.below hq3
    have bq3 := bel_go bq2 hq3
    refine hK.out _ _ ?_ (fun hHeld => ?_)
    ·exact O3.cs
    clear hK K
    try simp only [Act.put, Ls]
    refine rdy 18 rfl (fun K hK => ?_)
    obtain ⟨r0, r1, r2, r3, r4, r5, r6, r7, r8, g0, g1, g2, g3, g4, g5, g6, g7, g8⟩ := R3'
    go_simp
    refine hK.out _ _ ?_ (fun hHeld => ?_)
    ·exact (O3.of_block (heap9n _ _ _ (by omega) _ _ _ _ _ _ _ _ _)).cs
    clear hK K
    try simp only [Act.put, Ls]
    refine rdy 19 rfl (fun K hK => ?_)
    go_simp
    refine hK.out _ _ ?_ (fun hHeld => ?_)
    ·exact (O3.of_block (heap9n _ _ _ (by omega) _ _ _ _ _ _ _ _ _)).cs
    clear hK K
    try simp only [Act.put, Ls]
    refine wpAnyH_done (by kernel_rfl) ?_ _
    go_wp2
    refine bodyPost_ret (v := .tuple #[.agg #[.int .i64 fm, .bool ng, .slice a0 zs.length k0, .int .i64 T2, .bool n2, .bool b2, .bool p2, .bool m2, .bool false], .int .i64 0]) (by simp [results, Tryz.results53, go_sem, r0, r1, r2, r3, r4, r5, r6, r7, r8]) rfl ⟨a0, k0, rfl, ?_, ?_⟩
    ·refine Own.base (B := w3.heap.size) ?_ (by omega)
     repeat (first | with_reducible exact o3 | (with_reducible refine Own.setBelow ?_ ?_ _; rotate_left; focus (first | (simp; done) | (simp; omega))))
    ·exact (by (repeat with_reducible first | refine Below.setCell ?_ ?_ _ | exact bz0 _ _ | refine bz1 ?_ | refine bz2 ?_ _ | refine bz3 ?_ _ | refine bz4 ?_ bq3 | refine Below.alloc ?_ ?_ _ | refine Below.trans ?_ (Below.mono bq3 ?_)) <;> first | omega | (simp; done) | (simp; omega))
   | false =>
   cases ny with
   | true =>
    obtain ⟨c0, c1, c2, c3, c4, c5, c6, c7, c8⟩ := A.cs
    go_enter Tryz.func53, Tryz.ntmps53
    go_wp2_with fail
    refine (C1.out _ (hs.below bel0)).mono ?_
    rintro r w1 ⟨rfl, hb1⟩
    clear c0 c1 c2 c3 c4 c5 c6 c7 c8
    replace A := A.below hb1
    replace R := R.below hb1
    have bel1 := bel_go bel0 hb1
    go_wp2_with fail
    refine (C2.out _).mono ?_
    rintro r w2 ⟨rfl, hb2⟩
    go_wp2_with fail
    refine (C3.out _).mono ?_
    rintro r w3 ⟨rfl, hb3⟩
    replace A := (A.below hb2).below hb3
    replace R := (R.below hb2).below hb3
    have bel3 := bel_go (bel_go bel1 hb2) hb3
    clear hb1 hb2 hb3 bel1
    obtain ⟨c0, c1, c2, c3, c4, c5, c6, c7, c8⟩ := A.cs
    go_wp2_with fail
    refine (CC.out _ (hs.below bel3)).mono ?_
    rintro r w4 ⟨a0, k0, rfl, hp0, hb4⟩
    clear c0 c1 c2 c3 c4 c5 c6 c7 c8
    have lr := R.lt
    have z4 := hb4.size
    have hp0' := hp0.alloc (.cells #[.int .i64 fm, .bool ng, .slice a0 zs.length k0, .int .i64 T, .bool nn, .bool bd, .bool pl, .bool mi, .bool am] 50)
    replace R := (R.below hb4).alloc (.cells #[.int .i64 fm, .bool ng, .slice a0 zs.length k0, .int .i64 T, .bool nn, .bool bd, .bool pl, .bool mi, .bool am] 50)
    have O := Q9.new w4 (.int .i64 fm) (.bool ng) (.slice a0 zs.length k0) (.int .i64 T) (.bool nn) (.bool bd) (.bool pl) (.bool mi) (.bool am) 50
    have bel4 := bel_al (bel_go bel3 hb4) (.cells #[.int .i64 fm, .bool ng, .slice a0 zs.length k0, .int .i64 T, .bool nn, .bool bd, .bool pl, .bool mi, .bool am] 50)
    clear hp0 hb4 A
    go_wp2_with fail
    refine (CN1.out _).mono ?_
    rintro r w5 ⟨rfl, hb5⟩
    go_wp2_with fail
    refine (CN2.out _).mono ?_
    rintro r w6 ⟨rfl, hb6⟩
    go_wp2_with fail
    refine (CF1.out _).mono ?_
    rintro r w7 ⟨rfl, hb7⟩
    replace R := ((R.below hb5).below hb6).below hb7
    replace O := ((O.below hb5).below hb6).below hb7
    replace hp0' := ((hp0'.below hb5).below hb6).below hb7
    have belW := bel_go (bel_go (bel_go bel4 hb5) hb6) hb7
    clear bel4 bel3 hb5 hb6 hb7
    have lO := O.lt
    go_wp2_with fail
    refine (CK1.out _).mono ?_
    rintro r w8 ⟨rfl, hb8⟩
    go_wp2_with fail
    refine (CK2.out _).mono ?_
    rintro r w9 ⟨rfl, hb9⟩
    go_wp2_with fail
    refine (CO.out _).mono ?_
    rintro r w10 ⟨rfl, hb10⟩
    replace R := ((R.below hb8).below hb9).below hb10
    replace O := ((O.below hb8).below hb9).below hb10
    replace hp0' := ((hp0'.below hb8).below hb9).below hb10
    have belX := bel_go (bel_go (bel_go belW hb8) hb9) hb10
    have Od := O.drew
    clear belW hb8 hb9 hb10
    go_wp2_with fail
    refine wp_region_held_drew (S := fun w' => (w'.cell? ⟨w4.heap.size, 0, none⟩ = some (.int .i64 fm) ∧ w'.cell? ⟨w4.heap.size, 1, none⟩ = some (.bool ng) ∧ w'.cell? ⟨w4.heap.size, 2, none⟩ = some (.slice a0 zs.length k0) ∧ w'.cell? ⟨w4.heap.size, 3, none⟩ = some (.int .i64 T) ∧ w'.cell? ⟨w4.heap.size, 4, none⟩ = some (.bool nn) ∧ w'.cell? ⟨w4.heap.size, 5, none⟩ = some (.bool bd) ∧ w'.cell? ⟨w4.heap.size, 6, none⟩ = some (.bool pl) ∧ w'.cell? ⟨w4.heap.size, 7, none⟩ = some (.bool mi) ∧ w'.cell? ⟨w4.heap.size, 8, none⟩ = some (.bool am))) (by kernel_rfl) ?_ (fun hHeld => ?_)
    ·exact Od.cs
    refine tk 0 ?_ rfl (Or.inl ⟨by rfl, ?_⟩) ?_
    rotate_left
    ·(intro w hSw; (try dsimp only at hSw); go_simp; try (with_reducible rfl))
    try simp only [Act.put, Ls]
    refine tk 1 ?_ rfl (Or.inl ⟨by rfl, ?_⟩) ?_
    rotate_left
    ·(intro w hSw; (try dsimp only at hSw); go_simp; try (with_reducible rfl))
    try simp only [Act.put, Ls]
    refine tk 2 ?_ rfl (Or.inl ⟨by rfl, ?_⟩) ?_
    rotate_left
    ·(intro w hSw; (try dsimp only at hSw); go_simp; try (with_reducible rfl))
    try simp only [Act.put, Ls]
    refine tk 12 ?_ rfl (Or.inl ⟨by rfl, ?_⟩) ?_
    rotate_left
    ·(intro w hSw; (try dsimp only at hSw); go_simp; try (with_reducible rfl))
    try simp only [Act.put, Ls]
    refine tk 16 ?_ rfl (Or.inl ⟨by rfl, ?_⟩) ?_
    rotate_left
    ·(intro w hSw; (try dsimp only at hSw); go_simp; try (with_reducible rfl))
    try simp only [Act.put, Ls]
    refine rdy 3 rfl (fun K hK => ?_)
    go_simp
    go_at_call 131; refine (CA1.out _).mono ?_; rintro r q1 ⟨rfl, hq1⟩
    have O1 := Od.below hq1
    have R1 := R.drew.below hq1
    have o1 := hp0'.drew.below hq1
    have bq1 := bel_go (Below.drew belX) hq1
    refine hK.out _ _ ?_ (fun hHeld => ?_)
    ·exact O1.cs
    clear hK K
    try simp only [Act.put, Ls]
    refine tk 4 ?_ rfl (Or.inl ⟨by rfl, ?_⟩) ?_
    rotate_left
    ·(intro w hSw; (try dsimp only at hSw); go_simp; try (with_reducible rfl))
    try simp only [Act.put, Ls]
    refine tk 5 ?_ rfl (Or.inl ⟨by rfl, ?_⟩) ?_
    rotate_left
    ·(intro w hSw; (try dsimp only at hSw); go_simp; try (with_reducible rfl))
    try simp only [Act.put, Ls]
    refine tk 6 ?_ rfl (Or.inl ⟨by rfl, ?_⟩) ?_
    rotate_left
    ·(intro w hSw; (try dsimp only at hSw); go_simp; try (with_reducible rfl))
    try simp only [Act.put, Ls]
    refine rdy 7 rfl (fun K hK => ?_)
    go_simp
    go_at_call 131; refine (CA2.out _).mono ?_; rintro r q2 ⟨rfl, hq2⟩
    have O2 := O1.below hq2
    have R2' := R1.below hq2
    have o2 := o1.below hq2
    have bq2 := bel_go bq1 hq2
    refine hK.out _ _ ?_ (fun hHeld => ?_)
    ·exact O2.cs
    clear hK K
    try simp only [Act.put, Ls]
    refine tk 8 ?_ rfl (Or.inl ⟨by rfl, ?_⟩) ?_
    rotate_left
    ·(intro w hSw; (try dsimp only at hSw); go_simp; try (with_reducible rfl))
    try simp only [Act.put, Ls]
    refine tk 9 ?_ rfl (Or.inl ⟨by rfl, ?_⟩) ?_
    rotate_left
    ·(intro w hSw; (try dsimp only at hSw); go_simp; try (with_reducible rfl))
    try simp only [Act.put, Ls]
    refine tk 10 undef rfl (Or.inr ⟨by rfl, rfl⟩) ?_
    try simp only [Act.put, Ls]
    refine tk 11 ?_ rfl (Or.inl ⟨by rfl, ?_⟩) ?_
    rotate_left
    ·(intro w hSw; (try dsimp only at hSw); go_simp; try (with_reducible rfl))
    try simp only [Act.put, Ls]
    refine tk 13 ?_ rfl (Or.inl ⟨by rfl, ?_⟩) ?_
    rotate_left
    ·(intro w hSw; (try dsimp only at hSw); go_simp; try (with_reducible rfl))
    try simp only [Act.put, Ls]
    refine tk 14 undef rfl (Or.inr ⟨by rfl, rfl⟩) ?_
    try simp only [Act.put, Ls]
    refine tk 15 ?_ rfl (Or.inl ⟨by rfl, ?_⟩) ?_
    rotate_left
    ·(intro w hSw; (try dsimp only at hSw); go_simp; try (with_reducible rfl))
    try simp only [Act.put, Ls]
    refine rdy 17 rfl (fun K hK => ?_)
    go_simp
    go_at_call 130; refine (C7.out true true a0 k0 _ (by simp) (by simp)).mono ?_; rintro r q3 ⟨rfl, hq3⟩
    have O3 := O2.below hq3
    have R3' := R2'.below hq3
    have o3 := o2.below hq3
    have bq3 := bel_go bq2 hq3
    refine hK.out _ _ ?_ (fun hHeld => ?_)
    ·exact O3.cs
    clear hK K
    try simp only [Act.put, Ls]
    refine rdy 18 rfl (fun K hK => ?_)
    obtain ⟨r0, r1, r2, r3, r4, r5, r6, r7, r8, g0, g1, g2, g3, g4, g5, g6, g7, g8⟩ := R3'
    go_simp
    refine hK.out _ _ ?_ (fun hHeld => ?_)
    ·exact (O3.of_block (heap9n _ _ _ (by omega) _ _ _ _ _ _ _ _ _)).cs
    clear hK K
    try simp only [Act.put, Ls]
    refine rdy 19 rfl (fun K hK => ?_)
    go_simp
    refine hK.out _ _ ?_ (fun hHeld => ?_)
    ·exact (O3.of_block (heap9n _ _ _ (by omega) _ _ _ _ _ _ _ _ _)).cs
    clear hK K
    try simp only [Act.put, Ls]
    refine wpAnyH_done (by kernel_rfl) ?_ _
    go_wp2
    refine bodyPost_ret (v := .tuple #[.agg #[.int .i64 fm, .bool ng, .slice a0 zs.length k0, .int .i64 T2, .bool n2, .bool b2, .bool p2, .bool m2, .bool false], .int .i64 0]) (by simp [results, Tryz.results53, go_sem, r0, r1, r2, r3, r4, r5, r6, r7, r8]) rfl ⟨a0, k0, rfl, ?_, ?_⟩
    ·refine Own.base (B := w3.heap.size) ?_ (by omega)
     repeat (first | with_reducible exact o3 | (with_reducible refine Own.setBelow ?_ ?_ _; rotate_left; focus (first | (simp; done) | (simp; omega))))
    ·exact (by (repeat with_reducible first | refine Below.setCell ?_ ?_ _ | exact bz0 _ _ | refine bz1 ?_ | refine bz2 ?_ _ | refine bz3 ?_ _ | refine bz4 ?_ bq3 | refine Below.alloc ?_ ?_ _ | refine Below.trans ?_ (Below.mono bq3 ?_)) <;> first | omega | (simp; done) | (simp; omega))
   | false =>
    obtain ⟨c0, c1, c2, c3, c4, c5, c6, c7, c8⟩ := A.cs
    go_enter Tryz.func53, Tryz.ntmps53
    go_wp2_with fail
    refine (C1.out _ (hs.below bel0)).mono ?_
    rintro r w1 ⟨rfl, hb1⟩
    clear c0 c1 c2 c3 c4 c5 c6 c7 c8
    replace A := A.below hb1
    replace R := R.below hb1
    have bel1 := bel_go bel0 hb1
    go_wp2_with fail
    refine (C2.out _).mono ?_
    rintro r w2 ⟨rfl, hb2⟩
    go_wp2_with fail
    refine (C3.out _).mono ?_
    rintro r w3 ⟨rfl, hb3⟩
    replace A := (A.below hb2).below hb3
    replace R := (R.below hb2).below hb3
    have bel3 := bel_go (bel_go bel1 hb2) hb3
    clear hb1 hb2 hb3 bel1
    obtain ⟨c0, c1, c2, c3, c4, c5, c6, c7, c8⟩ := A.cs
    go_wp2_with fail
    refine (CC.out _ (hs.below bel3)).mono ?_
    rintro r w4 ⟨a0, k0, rfl, hp0, hb4⟩
    clear c0 c1 c2 c3 c4 c5 c6 c7 c8
    have lr := R.lt
    have z4 := hb4.size
    have hp0' := hp0.alloc (.cells #[.int .i64 fm, .bool ng, .slice a0 zs.length k0, .int .i64 T, .bool nn, .bool bd, .bool pl, .bool mi, .bool am] 50)
    replace R := (R.below hb4).alloc (.cells #[.int .i64 fm, .bool ng, .slice a0 zs.length k0, .int .i64 T, .bool nn, .bool bd, .bool pl, .bool mi, .bool am] 50)
    have O := Q9.new w4 (.int .i64 fm) (.bool ng) (.slice a0 zs.length k0) (.int .i64 T) (.bool nn) (.bool bd) (.bool pl) (.bool mi) (.bool am) 50
    have bel4 := bel_al (bel_go bel3 hb4) (.cells #[.int .i64 fm, .bool ng, .slice a0 zs.length k0, .int .i64 T, .bool nn, .bool bd, .bool pl, .bool mi, .bool am] 50)
    clear hp0 hb4 A
    go_wp2_with fail
    refine (CN1.out _).mono ?_
    rintro r w5 ⟨rfl, hb5⟩
    go_wp2_with fail
    refine (CN2.out _).mono ?_
    rintro r w6 ⟨rfl, hb6⟩
    go_wp2_with fail
    refine (CF1.out _).mono ?_
    rintro r w7 ⟨rfl, hb7⟩
    replace R := ((R.below hb5).below hb6).below hb7
    replace O := ((O.below hb5).below hb6).below hb7
    replace hp0' := ((hp0'.below hb5).below hb6).below hb7
    have belW := bel_go (bel_go (bel_go bel4 hb5) hb6) hb7
    clear bel4 bel3 hb5 hb6 hb7
    have lO := O.lt
    go_wp2_with fail
    refine (CK1.out _).mono ?_
    rintro r w8 ⟨rfl, hb8⟩
    go_wp2_with fail
    refine (CK2.out _).mono ?_
    rintro r w9 ⟨rfl, hb9⟩
    go_wp2_with fail
    refine (CO.out _).mono ?_
    rintro r w10 ⟨rfl, hb10⟩
    replace R := ((R.below hb8).below hb9).below hb10
    replace O := ((O.below hb8).below hb9).below hb10
    replace hp0' := ((hp0'.below hb8).below hb9).below hb10
    have belX := bel_go (bel_go (bel_go belW hb8) hb9) hb10
    have Od := O.drew
    clear belW hb8 hb9 hb10
    go_wp2_with fail
    refine wp_region_held_drew (S := fun w' => (w'.cell? ⟨w4.heap.size, 0, none⟩ = some (.int .i64 fm) ∧ w'.cell? ⟨w4.heap.size, 1, none⟩ = some (.bool ng) ∧ w'.cell? ⟨w4.heap.size, 2, none⟩ = some (.slice a0 zs.length k0) ∧ w'.cell? ⟨w4.heap.size, 3, none⟩ = some (.int .i64 T) ∧ w'.cell? ⟨w4.heap.size, 4, none⟩ = some (.bool nn) ∧ w'.cell? ⟨w4.heap.size, 5, none⟩ = some (.bool bd) ∧ w'.cell? ⟨w4.heap.size, 6, none⟩ = some (.bool pl) ∧ w'.cell? ⟨w4.heap.size, 7, none⟩ = some (.bool mi) ∧ w'.cell? ⟨w4.heap.size, 8, none⟩ = some (.bool am))) (by kernel_rfl) ?_ (fun hHeld => ?_)
    ·exact Od.cs
    refine tk 0 ?_ rfl (Or.inl ⟨by rfl, ?_⟩) ?_
    rotate_left
    ·(intro w hSw; (try dsimp only at hSw); go_simp; try (with_reducible rfl))
    try simp only [Act.put, Ls]
    refine tk 1 ?_ rfl (Or.inl ⟨by rfl, ?_⟩) ?_
    rotate_left
    ·(intro w hSw; (try dsimp only at hSw); go_simp; try (with_reducible rfl))
    try simp only [Act.put, Ls]
    refine tk 2 ?_ rfl (Or.inl ⟨by rfl, ?_⟩) ?_
    rotate_left
    ·(intro w hSw; (try dsimp only at hSw); go_simp; try (with_reducible rfl))
    try simp only [Act.put, Ls]
    refine tk 12 ?_ rfl (Or.inl ⟨by rfl, ?_⟩) ?_
    rotate_left
    ·(intro w hSw; (try dsimp only at hSw); go_simp; try (with_reducible rfl))
    try simp only [Act.put, Ls]
    refine tk 16 ?_ rfl (Or.inl ⟨by rfl, ?_⟩) ?_
    rotate_left
    ·(intro w hSw; (try dsimp only at hSw); go_simp; try (with_reducible rfl))
    try simp only [Act.put, Ls]
    refine rdy 3 rfl (fun K hK => ?_)
    go_simp
    go_at_call 131; refine (CA1.out _).mono ?_; rintro r q1 ⟨rfl, hq1⟩
    have O1 := Od.below hq1
    have R1 := R.drew.below hq1
    have o1 := hp0'.drew.below hq1
    have bq1 := bel_go (Below.drew belX) hq1
    refine hK.out _ _ ?_ (fun hHeld => ?_)
    ·exact O1.cs
    clear hK K
    try simp only [Act.put, Ls]
    refine tk 4 ?_ rfl (Or.inl ⟨by rfl, ?_⟩) ?_
    rotate_left
    ·(intro w hSw; (try dsimp only at hSw); go_simp; try (with_reducible rfl))
    try simp only [Act.put, Ls]
    refine tk 5 ?_ rfl (Or.inl ⟨by rfl, ?_⟩) ?_
    rotate_left
    ·(intro w hSw; (try dsimp only at hSw); go_simp; try (with_reducible rfl))
    try simp only [Act.put, Ls]
    refine tk 6 ?_ rfl (Or.inl ⟨by rfl, ?_⟩) ?_
    rotate_left
    ·(intro w hSw; (try dsimp only at hSw); go_simp; try (with_reducible rfl))
    try simp only [Act.put, Ls]
    refine rdy 7 rfl (fun K hK => ?_)
    go_simp
    go_at_call 131; refine (CA2.out _).mono ?_; rintro r q2 ⟨rfl, hq2⟩
    have O2 := O1.below hq2
    have R2' := R1.below hq2
    have o2 := o1.below hq2
    have bq2 := bel_go bq1 hq2
    refine hK.out _ _ ?_ (fun hHeld => ?_)
    ·exact O2.cs
    clear hK K
    try simp only [Act.put, Ls]
    refine tk 8 ?_ rfl (Or.inl ⟨by rfl, ?_⟩) ?_
    rotate_left
    ·(intro w hSw; (try dsimp only at hSw); go_simp; try (with_reducible rfl))
    try simp only [Act.put, Ls]
    refine tk 9 ?_ rfl (Or.inl ⟨by rfl, ?_⟩) ?_
    rotate_left
    ·(intro w hSw; (try dsimp only at hSw); go_simp; try (with_reducible rfl))
    try simp only [Act.put, Ls]
    refine tk 10 ?_ rfl (Or.inl ⟨by rfl, ?_⟩) ?_
    rotate_left
    ·(intro w hSw; (try dsimp only at hSw); go_simp; try (with_reducible rfl))
    try simp only [Act.put, Ls]
    refine tk 11 ?_ rfl (Or.inl ⟨by rfl, ?_⟩) ?_
    rotate_left
    ·(intro w hSw; (try dsimp only at hSw); go_simp; try (with_reducible rfl))
    try simp only [Act.put, Ls]
    refine tk 13 ?_ rfl (Or.inl ⟨by rfl, ?_⟩) ?_
    rotate_left
    ·(intro w hSw; (try dsimp only at hSw); go_simp; try (with_reducible rfl))
    try simp only [Act.put, Ls]
    refine tk 14 undef rfl (Or.inr ⟨by rfl, rfl⟩) ?_
    try simp only [Act.put, Ls]
    refine tk 15 ?_ rfl (Or.inl ⟨by rfl, ?_⟩) ?_
    rotate_left
    ·(intro w hSw; (try dsimp only at hSw); go_simp; try (with_reducible rfl))
    try simp only [Act.put, Ls]
    refine rdy 17 rfl (fun K hK => ?_)
    go_simp
    go_at_call 130; refine (C7.out od true a0 k0 _ (by simp) (by simp)).mono ?_; rintro r q3 ⟨rfl, hq3⟩
    have O3 := O2.below hq3
    have R3' := R2'.below hq3
    have o3 := o2.below hq3
    have bq3 := bel_go bq2 hq3
    refine hK.out _ _ ?_ (fun hHeld => ?_)
    ·exact O3.cs
    clear hK K
    try simp only [Act.put, Ls]
    refine rdy 18 rfl (fun K hK => ?_)
    obtain ⟨r0, r1, r2, r3, r4, r5, r6, r7, r8, g0, g1, g2, g3, g4, g5, g6, g7, g8⟩ := R3'
    go_simp
    refine hK.out _ _ ?_ (fun hHeld => ?_)
    ·exact (O3.of_block (heap9n _ _ _ (by omega) _ _ _ _ _ _ _ _ _)).cs
    clear hK K
    try simp only [Act.put, Ls]
    refine rdy 19 rfl (fun K hK => ?_)
    go_simp
    refine hK.out _ _ ?_ (fun hHeld => ?_)
    ·exact (O3.of_block (heap9n _ _ _ (by omega) _ _ _ _ _ _ _ _ _)).cs
    clear hK K
    try simp only [Act.put, Ls]
    refine wpAnyH_done (by kernel_rfl) ?_ _
    go_wp2
    refine bodyPost_ret (v := .tuple #[.agg #[.int .i64 fm, .bool ng, .slice a0 zs.length k0, .int .i64 T2, .bool n2, .bool b2, .bool p2, .bool m2, .bool false], .int .i64 0]) (by simp [results, Tryz.results53, go_sem, r0, r1, r2, r3, r4, r5, r6, r7, r8]) rfl ⟨a0, k0, rfl, ?_, ?_⟩
    ·refine Own.base (B := w3.heap.size) ?_ (by omega)
     repeat (first | with_reducible exact o3 | (with_reducible refine Own.setBelow ?_ ?_ _; rotate_left; focus (first | (simp; done) | (simp; omega))))
    ·exact (by (repeat with_reducible first | refine Below.setCell ?_ ?_ _ | exact bz0 _ _ | refine bz1 ?_ | refine bz2 ?_ _ | refine bz3 ?_ _ | refine bz4 ?_ bq3 | refine Below.alloc ?_ ?_ _ | refine Below.trans ?_ (Below.mono bq3 ?_)) <;> first | omega | (simp; done) | (simp; omega))
  | false =>
   cases nx with
   | true =>
    obtain ⟨c0, c1, c2, c3, c4, c5, c6, c7, c8⟩ := A.cs
    go_enter Tryz.func53, Tryz.ntmps53
    go_wp2_with fail
    refine (C1.out _ (hs.below bel0)).mono ?_
    rintro r w1 ⟨rfl, hb1⟩
    clear c0 c1 c2 c3 c4 c5 c6 c7 c8
    replace A := A.below hb1
    replace R := R.below hb1
    have bel1 := bel_go bel0 hb1
    go_wp2_with fail
    refine (C2.out _).mono ?_
    rintro r w2 ⟨rfl, hb2⟩
    go_wp2_with fail
    refine (C3.out _).mono ?_
    rintro r w3 ⟨rfl, hb3⟩
    replace A := (A.below hb2).below hb3
    replace R := (R.below hb2).below hb3
    have bel3 := bel_go (bel_go bel1 hb2) hb3
    clear hb1 hb2 hb3 bel1
    obtain ⟨c0, c1, c2, c3, c4, c5, c6, c7, c8⟩ := A.cs
    go_wp2_with fail
    refine (CC.out _ (hs.below bel3)).mono ?_
    rintro r w4 ⟨a0, k0, rfl, hp0, hb4⟩
    clear c0 c1 c2 c3 c4 c5 c6 c7 c8
    have lr := R.lt
    have z4 := hb4.size
    have hp0' := hp0.alloc (.cells #[.int .i64 fm, .bool ng, .slice a0 zs.length k0, .int .i64 T, .bool nn, .bool bd, .bool pl, .bool mi, .bool am] 50)
    replace R := (R.below hb4).alloc (.cells #[.int .i64 fm, .bool ng, .slice a0 zs.length k0, .int .i64 T, .bool nn, .bool bd, .bool pl, .bool mi, .bool am] 50)
    have O := Q9.new w4 (.int .i64 fm) (.bool ng) (.slice a0 zs.length k0) (.int .i64 T) (.bool nn) (.bool bd) (.bool pl) (.bool mi) (.bool am) 50
    have bel4 := bel_al (bel_go bel3 hb4) (.cells #[.int .i64 fm, .bool ng, .slice a0 zs.length k0, .int .i64 T, .bool nn, .bool bd, .bool pl, .bool mi, .bool am] 50)
    clear hp0 hb4 A
    go_wp2_with fail
    refine (CN1.out _).mono ?_
    rintro r w5 ⟨rfl, hb5⟩
    go_wp2_with fail
    refine (CN2.out _).mono ?_
    rintro r w6 ⟨rfl, hb6⟩
    go_wp2_with fail
    refine (CF1.out _).mono ?_
    rintro r w7 ⟨rfl, hb7⟩
    replace R := ((R.below hb5).below hb6).below hb7
    replace O := ((O.below hb5).below hb6).below hb7
    replace hp0' := ((hp0'.below hb5).below hb6).below hb7
    have belW := bel_go (bel_go (bel_go bel4 hb5) hb6) hb7
    clear bel4 bel3 hb5 hb6 hb7
    have lO := O.lt
    go_wp2_with fail
    refine (CK1.out _).mono ?_
    rintro r w8 ⟨rfl, hb8⟩
    go_wp2_with fail
    refine (CK2.out _).mono ?_
    rintro r w9 ⟨rfl, hb9⟩
    go_wp2_with fail
    refine (CO.out _).mono ?_
    rintro r w10 ⟨rfl, hb10⟩
    replace R := ((R.below hb8).below hb9).below hb10
    replace O := ((O.below hb8).below hb9).below hb10
    replace hp0' := ((hp0'.below hb8).below hb9).below hb10
    have belX := bel_go (bel_go (bel_go belW hb8) hb9) hb10
    have Od := O.drew
    clear belW hb8 hb9 hb10
    go_wp2_with fail
    refine wp_region_held_drew (S := fun w' => (w'.cell? ⟨w4.heap.size, 0, none⟩ = some (.int .i64 fm) ∧ w'.cell? ⟨w4.heap.size, 1, none⟩ = some (.bool ng) ∧ w'.cell? ⟨w4.heap.size, 2, none⟩ = some (.slice a0 zs.length k0) ∧ w'.cell? ⟨w4.heap.size, 3, none⟩ = some (.int .i64 T) ∧ w'.cell? ⟨w4.heap.size, 4, none⟩ = some (.bool nn) ∧ w'.cell? ⟨w4.heap.size, 5, none⟩ = some (.bool bd) ∧ w'.cell? ⟨w4.heap.size, 6, none⟩ = some (.bool pl) ∧ w'.cell? ⟨w4.heap.size, 7, none⟩ = some (.bool mi) ∧ w'.cell? ⟨w4.heap.size, 8, none⟩ = some (.bool am))) (by kernel_rfl) ?_ (fun hHeld => ?_)
    ·exact Od.cs
    refine tk 0 ?_ rfl (Or.inl ⟨by rfl, ?_⟩) ?_
    rotate_left
    ·(intro w hSw; (try dsimp only at hSw); go_simp; try (with_reducible rfl))
    try simp only [Act.put, Ls]
    refine tk 1 ?_ rfl (Or.inl ⟨by rfl, ?_⟩) ?_
    rotate_left
    ·(intro w hSw; (try dsimp only at hSw); go_simp; try (with_reducible rfl))
    try simp only [Act.put, Ls]
    refine tk 2 ?_ rfl (Or.inl ⟨by rfl, ?_⟩) ?_
    rotate_left
    ·(intro w hSw; (try dsimp only at hSw); go_simp; try (with_reducible rfl))
    try simp only [Act.put, Ls]
    refine tk 12 ?_ rfl (Or.inl ⟨by rfl, ?_⟩) ?_
    rotate_left
    ·(intro w hSw; (try dsimp only at hSw); go_simp; try (with_reducible rfl))
    try simp only [Act.put, Ls]
    refine tk 16 ?_ rfl (Or.inl ⟨by rfl, ?_⟩) ?_
    rotate_left
    ·(intro w hSw; (try dsimp only at hSw); go_simp; try (with_reducible rfl))
    try simp only [Act.put, Ls]
    refine rdy 3 rfl (fun K hK => ?_)
    go_simp
    go_at_call 131; refine (CA1.out _).mono ?_; rintro r q1 ⟨rfl, hq1⟩
    have O1 := Od.below hq1
    have R1 := R.drew.below hq1
    have o1 := hp0'.drew.below hq1
    have bq1 := bel_go (Below.drew belX) hq1
    refine hK.out _ _ ?_ (fun hHeld => ?_)
    ·exact O1.cs
    clear hK K
    try simp only [Act.put, Ls]
    refine tk 4 ?_ rfl (Or.inl ⟨by rfl, ?_⟩) ?_
    rotate_left
    ·(intro w hSw; (try dsimp only at hSw); go_simp; try (with_reducible rfl))
    try simp only [Act.put, Ls]
    refine tk 5 undef rfl (Or.inr ⟨by rfl, rfl⟩) ?_
    try simp only [Act.put, Ls]
    refine tk 6 undef rfl (Or.inr ⟨by rfl, rfl⟩) ?_
    try simp only [Act.put, Ls]
    refine tk 7 undef rfl (Or.inr ⟨by rfl, rfl⟩) ?_
    try simp only [Act.put, Ls]
    have O2 := O1
    have R2' := R1
    have o2 := o1
    have bq2 := bq1
    refine tk 8 ?_ rfl (Or.inl ⟨by rfl, ?_⟩) ?_
    rotate_left
    ·(intro w hSw; (try dsimp only at hSw); go_simp; try (with_reducible rfl))
    try simp only [Act.put, Ls]
    refine tk 9 ?_ rfl (Or.inl ⟨by rfl, ?_⟩) ?_
    rotate_left
    ·(intro w hSw; (try dsimp only at hSw); go_simp; try (with_reducible rfl))
    try simp only [Act.put, Ls]
    refine tk 10 undef rfl (Or.inr ⟨by rfl, rfl⟩) ?_
    try simp only [Act.put, Ls]
    refine tk 11 ?_ rfl (Or.inl ⟨by rfl, ?_⟩) ?_
    rotate_left
    ·(intro w hSw; (try dsimp only at hSw); go_simp; try (with_reducible rfl))
    try simp only [Act.put, Ls]
    refine tk 13 ?_ rfl (Or.inl ⟨by rfl, ?_⟩) ?_
    rotate_left
    ·(intro w hSw; (try dsimp only at hSw); go_simp; try (with_reducible rfl))
    try simp only [Act.put, Ls]
    refine tk 14 ?_ rfl (Or.inl ⟨by rfl, ?_⟩) ?_
    rotate_left
    ·(intro w hSw; (try dsimp only at hSw); go_simp; try (with_reducible rfl))
    try simp only [Act.put, Ls]
    refine tk 15 ?_ rfl (Or.inl ⟨by rfl, ?_⟩) ?_
    rotate_left
    ·(intro w hSw; (try dsimp only at hSw); go_simp; try (with_reducible rfl))
    try simp only [Act.put, Ls]
    refine rdy 17 rfl (fun K hK => ?_)
    go_simp
    go_at_call 130; refine (C7.out true od a0 k0 _ (by simp) (by simp)).mono ?_; rintro r q3 ⟨rfl, hq3⟩
    have O3 := O2.below hq3
    have R3' := R2'.below hq3
    have o3 := o2.below hq3
    have bq3 := bel_go bq2 hq3
    refine hK.out _ _ ?_ (fun hHeld => ?_)
    ·exact O3.cs
    clear hK K
    try simp only [Act.put, Ls]
    refine rdy 18 rfl (fun K hK => ?_)
    obtain ⟨r0, r1, r2, r3, r4, r5, r6, r7, r8, g0, g1, g2, g3, g4, g5, g6, g7, g8⟩ := R3'
    go_simp
    refine hK.out _ _ ?_ (fun hHeld => ?_)
    ·exact (O3.of_block (heap9n _ _ _ (by omega) _ _ _ _ _ _ _ _ _)).cs
    clear hK K
    try simp only [Act.put, Ls]
    refine rdy 19 rfl (fun K hK => ?_)
    go_simp
    refine hK.out _ _ ?_ (fun hHeld => ?_)
    ·exact (O3.of_block (heap9n _ _ _ (by omega) _ _ _ _ _ _ _ _ _)).cs
    clear hK K
    try simp only [Act.put, Ls]
    refine wpAnyH_done (by kernel_rfl) ?_ _
    go_wp2
    refine bodyPost_ret (v := .tuple #[.agg #[.int .i64 fm, .bool ng, .slice a0 zs.length k0, .int .i64 T2, .bool n2, .bool b2, .bool p2, .bool m2, .bool false], .int .i64 0]) (by simp [results, Tryz.results53, go_sem, r0, r1, r2, r3, r4, r5, r6, r7, r8]) rfl ⟨a0, k0, rfl, ?_, ?_⟩
    ·refine Own.base (B := w3.heap.size) ?_ (by omega)
     repeat (first | with_reducible exact o3 | (with_reducible refine Own.setBelow ?_ ?_ _; rotate_left; focus (first | (simp; done) | (simp; omega))))
    ·exact (by (repeat with_reducible first | refine Below.setCell ?_ ?_ _ | exact bz0 _ _ | refine bz1 ?_ | refine bz2 ?_ _ | refine bz3 ?_ _ | refine bz4 ?_ bq3 | refine Below.alloc ?_ ?_ _ | refine Below.trans ?_ (Below.mono bq3 ?_)) <;> first | omega | (simp; done) | (simp; omega))
   | false =>
   cases ny with
   | true =>
    obtain ⟨c0, c1, c2, c3, c4, c5, c6, c7, c8⟩ := A.cs
    go_enter Tryz.func53, Tryz.ntmps53
    go_wp2_with fail
    refine (C1.out _ (hs.below bel0)).mono ?_
    rintro r w1 ⟨rfl, hb1⟩
    clear c0 c1 c2 c3 c4 c5 c6 c7 c8
    replace A := A.below hb1
    replace R := R.below hb1
    have bel1 := bel_go bel0 hb1
    go_wp2_with fail
    refine (C2.out _).mono ?_
    rintro r w2 ⟨rfl, hb2⟩
    go_wp2_with fail
    refine (C3.out _).mono ?_
    rintro r w3 ⟨rfl, hb3⟩
    replace A := (A.below hb2).below hb3
    replace R := (R.below hb2).below hb3
    have bel3 := bel_go (bel_go bel1 hb2) hb3
    clear hb1 hb2 hb3 bel1
    obtain ⟨c0, c1, c2, c3, c4, c5, c6, c7, c8⟩ := A.cs
    go_wp2_with fail
    refine (CC.out _ (hs.below bel3)).mono ?_
    rintro r w4 ⟨a0, k0, rfl, hp0, hb4⟩
    clear c0 c1 c2 c3 c4 c5 c6 c7 c8
    have lr := R.lt
    have z4 := hb4.size
    have hp0' := hp0.alloc (.cells #[.int .i64 fm, .bool ng, .slice a0 zs.length k0, .int .i64 T, .bool nn, .bool bd, .bool pl, .bool mi, .bool am] 50)
    replace R := (R.below hb4).alloc (.cells #[.int .i64 fm, .bool ng, .slice a0 zs.length k0, .int .i64 T, .bool nn, .bool bd, .bool pl, .bool mi, .bool am] 50)
    have O := Q9.new w4 (.int .i64 fm) (.bool ng) (.slice a0 zs.length k0) (.int .i64 T) (.bool nn) (.bool bd) (.bool pl) (.bool mi) (.bool am) 50
    have bel4 := bel_al (bel_go bel3 hb4) (.cells #[.int .i64 fm, .bool ng, .slice a0 zs.length k0, .int .i64 T, .bool nn, .bool bd, .bool pl, .bool mi, .bool am] 50)
    clear hp0 hb4 A
    go_wp2_with fail
    refine (CN1.out _).mono ?_
    rintro r w5 ⟨rfl, hb5⟩
    go_wp2_with fail
    refine (CN2.out _).mono ?_
    rintro r w6 ⟨rfl, hb6⟩
    go_wp2_with fail
    refine (CF1.out _).mono ?_
    rintro r w7 ⟨rfl, hb7⟩
    replace R := ((R.below hb5).below hb6).below hb7
    replace O := ((O.below hb5).below hb6).below hb7
    replace hp0' := ((hp0'.below hb5).below hb6).below hb7
    have belW := bel_go (bel_go (bel_go bel4 hb5) hb6) hb7
    clear bel4 bel3 hb5 hb6 hb7
    have lO := O.lt
    go_wp2_with fail
    refine (CK1.out _).mono ?_
    rintro r w8 ⟨rfl, hb8⟩
    go_wp2_with fail
    refine (CK2.out _).mono ?_
    rintro r w9 ⟨rfl, hb9⟩
    go_wp2_with fail
    refine (CO.out _).mono ?_
    rintro r w10 ⟨rfl, hb10⟩
    replace R := ((R.below hb8).below hb9).below hb10
    replace O := ((O.below hb8).below hb9).below hb10
    replace hp0' := ((hp0'.below hb8).below hb9).below hb10
    have belX := bel_go (bel_go (bel_go belW hb8) hb9) hb10
    have Od := O.drew
    clear belW hb8 hb9 hb10
    go_wp2_with fail
    refine wp_region_held_drew (S := fun w' => (w'.cell? ⟨w4.heap.size, 0, none⟩ = some (.int .i64 fm) ∧ w'.cell? ⟨w4.heap.size, 1, none⟩ = some (.bool ng) ∧ w'.cell? ⟨w4.heap.size, 2, none⟩ = some (.slice a0 zs.length k0) ∧ w'.cell? ⟨w4.heap.size, 3, none⟩ = some (.int .i64 T) ∧ w'.cell? ⟨w4.heap.size, 4, none⟩ = some (.bool nn) ∧ w'.cell? ⟨w4.heap.size, 5, none⟩ = some (.bool bd) ∧ w'.cell? ⟨w4.heap.size, 6, none⟩ = some (.bool pl) ∧ w'.cell? ⟨w4.heap.size, 7, none⟩ = some (.bool mi) ∧ w'.cell? ⟨w4.heap.size, 8, none⟩ = some (.bool am))) (by kernel_rfl) ?_ (fun hHeld => ?_)
    ·exact Od.cs
    refine tk 0 ?_ rfl (Or.inl ⟨by rfl, ?_⟩) ?_
    rotate_left
    ·(intro w hSw; (try dsimp only at hSw); go_simp; try (with_reducible rfl))
    try simp only [Act.put, Ls]
    refine tk 1 ?_ rfl (Or.inl ⟨by rfl, ?_⟩) ?_
    rotate_left
    ·(intro w hSw; (try dsimp only at hSw); go_simp; try (with_reducible rfl))
    try simp only [Act.put, Ls]
    refine tk 2 ?_ rfl (Or.inl ⟨by rfl, ?_⟩) ?_
    rotate_left
    ·(intro w hSw; (try dsimp only at hSw); go_simp; try (with_reducible rfl))
    try simp only [Act.put, Ls]
    refine tk 12 ?_ rfl (Or.inl ⟨by rfl, ?_⟩) ?_
    rotate_left
    ·(intro w hSw; (try dsimp only at hSw); go_simp; try (with_reducible rfl))
    try simp only [Act.put, Ls]
    refine tk 16 ?_ rfl (Or.inl ⟨by rfl, ?_⟩) ?_
    rotate_left
    ·(intro w hSw; (try dsimp only at hSw); go_simp; try (with_reducible rfl))
    try simp only [Act.put, Ls]
    refine rdy 3 rfl (fun K hK => ?_)
    go_simp
    go_at_call 131; refine (CA1.out _).mono ?_; rintro r q1 ⟨rfl, hq1⟩
    have O1 := Od.below hq1
    have R1 := R.drew.below hq1
    have o1 := hp0'.drew.below hq1
    have bq1 := bel_go (Below.drew belX) hq1
    refine hK.out _ _ ?_ (fun hHeld => ?_)
    ·exact O1.cs
    clear hK K
    try simp only [Act.put, Ls]
    refine tk 4 ?_ rfl (Or.inl ⟨by rfl, ?_⟩) ?_
    rotate_left
    ·(intro w hSw; (try dsimp only at hSw); go_simp; try (with_reducible rfl))
    try simp only [Act.put, Ls]
    refine tk 5 ?_ rfl (Or.inl ⟨by rfl, ?_⟩) ?_
    rotate_left
    ·(intro w hSw; (try dsimp only at hSw); go_simp; try (with_reducible rfl))
    try simp only [Act.put, Ls]
    refine tk 6 ?_ rfl (Or.inl ⟨by rfl, ?_⟩) ?_
    rotate_left
    ·(intro w hSw; (try dsimp only at hSw); go_simp; try (with_reducible rfl))
    try simp only [Act.put, Ls]
    refine rdy 7 rfl (fun K hK => ?_)
    go_simp
    go_at_call 131; refine (CA2.out _).mono ?_; rintro r q2 ⟨rfl, hq2⟩
    have O2 := O1.below hq2
    have R2' := R1.below hq2
    have o2 := o1.below hq2
    have bq2 := bel_go bq1 hq2
    refine hK.out _ _ ?_ (fun hHeld => ?_)
    ·exact O2.cs
    clear hK K
    try simp only [Act.put, Ls]
    refine tk 8 ?_ rfl (Or.inl ⟨by rfl, ?_⟩) ?_
    rotate_left
    ·(intro w hSw; (try dsimp only at hSw); go_simp; try (with_reducible rfl))
    try simp only [Act.put, Ls]
    refine tk 9 ?_ rfl (Or.inl ⟨by rfl, ?_⟩) ?_
    rotate_left
    ·(intro w hSw; (try dsimp only at hSw); go_simp; try (with_reducible rfl))
    try simp only [Act.put, Ls]
    refine tk 10 undef rfl (Or.inr ⟨by rfl, rfl⟩) ?_
    try simp only [Act.put, Ls]
    refine tk 11 ?_ rfl (Or.inl ⟨by rfl, ?_⟩) ?_
    rotate_left
    ·(intro w hSw; (try dsimp only at hSw); go_simp; try (with_reducible rfl))
    try simp only [Act.put, Ls]
    refine tk 13 ?_ rfl (Or.inl ⟨by rfl, ?_⟩) ?_
    rotate_left
    ·(intro w hSw; (try dsimp only at hSw); go_simp; try (with_reducible rfl))
    try simp only [Act.put, Ls]
    refine tk 14 ?_ rfl (Or.inl ⟨by rfl, ?_⟩) ?_
    rotate_left
    ·(intro w hSw; (try dsimp only at hSw); go_simp; try (with_reducible rfl))
    try simp only [Act.put, Ls]
    refine tk 15 ?_ rfl (Or.inl ⟨by rfl, ?_⟩) ?_
    rotate_left
    ·(intro w hSw; (try dsimp only at hSw); go_simp; try (with_reducible rfl))
    try simp only [Act.put, Ls]
    refine rdy 17 rfl (fun K hK => ?_)
    go_simp
    go_at_call 130; refine (C7.out true od a0 k0 _ (by simp) (by simp)).mono ?_; rintro r q3 ⟨rfl, hq3⟩
    have O3 := O2.below hq3
    have R3' := R2'.below hq3
    have o3 := o2.below hq3
    have bq3 := bel_go bq2 hq3
    refine hK.out _ _ ?_ (fun hHeld => ?_)
    ·exact O3.cs
    clear hK K
    try simp only [Act.put, Ls]
    refine rdy 18 rfl (fun K hK => ?_)
    obtain ⟨r0, r1, r2, r3, r4, r5, r6, r7, r8, g0, g1, g2, g3, g4, g5, g6, g7, g8⟩ := R3'
    go_simp
    refine hK.out _ _ ?_ (fun hHeld => ?_)
    ·exact (O3.of_block (heap9n _ _ _ (by omega) _ _ _ _ _ _ _ _ _)).cs
    clear hK K
    try simp only [Act.put, Ls]
    refine rdy 19 rfl (fun K hK => ?_)
    go_simp
    refine hK.out _ _ ?_ (fun hHeld => ?_)
    ·exact (O3.of_block (heap9n _ _ _ (by omega) _ _ _ _ _ _ _ _ _)).cs
    clear hK K
    try simp only [Act.put, Ls]
    refine wpAnyH_done (by kernel_rfl) ?_ _
    go_wp2
    refine bodyPost_ret (v := .tuple #[.agg #[.int .i64 fm, .bool ng, .slice a0 zs.length k0, .int .i64 T2, .bool n2, .bool b2, .bool p2, .bool m2, .bool false], .int .i64 0]) (by simp [results, Tryz.results53, go_sem, r0, r1, r2, r3, r4, r5, r6, r7, r8]) rfl ⟨a0, k0, rfl, ?_, ?_⟩
    ·refine Own.base (B := w3.heap.size) ?_ (by omega)
     repeat (first | with_reducible exact o3 | (with_reducible refine Own.setBelow ?_ ?_ _; rotate_left; focus (first | (simp; done) | (simp; omega))))
    ·exact (by (repeat with_reducible first | refine Below.setCell ?_ ?_ _ | exact bz0 _ _ | refine bz1 ?_ | refine bz2 ?_ _ | refine bz3 ?_ _ | refine bz4 ?_ bq3 | refine Below.alloc ?_ ?_ _ | refine Below.trans ?_ (Below.mono bq3 ?_)) <;> first | omega | (simp; done) | (simp; omega))
   | false =>
    obtain ⟨c0, c1, c2, c3, c4, c5, c6, c7, c8⟩ := A.cs
    go_enter Tryz.func53, Tryz.ntmps53
    go_wp2_with fail
    refine (C1.out _ (hs.below bel0)).mono ?_
    rintro r w1 ⟨rfl, hb1⟩
    clear c0 c1 c2 c3 c4 c5 c6 c7 c8
    replace A := A.below hb1
    replace R := R.below hb1
    have bel1 := bel_go bel0 hb1
    go_wp2_with fail
    refine (C2.out _).mono ?_
    rintro r w2 ⟨rfl, hb2⟩
    go_wp2_with fail
    refine (C3.out _).mono ?_
    rintro r w3 ⟨rfl, hb3⟩
    replace A := (A.below hb2).below hb3
    replace R := (R.below hb2).below hb3
    have bel3 := bel_go (bel_go bel1 hb2) hb3
    clear hb1 hb2 hb3 bel1
    obtain ⟨c0, c1, c2, c3, c4, c5, c6, c7, c8⟩ := A.cs
    go_wp2_with fail
    refine (CC.out _ (hs.below bel3)).mono ?_
    rintro r w4 ⟨a0, k0, rfl, hp0, hb4⟩
    clear c0 c1 c2 c3 c4 c5 c6 c7 c8
    have lr := R.lt
    have z4 := hb4.size
    have hp0' := hp0.alloc (.cells #[.int .i64 fm, .bool ng, .slice a0 zs.length k0, .int .i64 T, .bool nn, .bool bd, .bool pl, .bool mi, .bool am] 50)
    replace R := (R.below hb4).alloc (.cells #[.int .i64 fm, .bool ng, .slice a0 zs.length k0, .int .i64 T, .bool nn, .bool bd, .bool pl, .bool mi, .bool am] 50)
    have O := Q9.new w4 (.int .i64 fm) (.bool ng) (.slice a0 zs.length k0) (.int .i64 T) (.bool nn) (.bool bd) (.bool pl) (.bool mi) (.bool am) 50
    have bel4 := bel_al (bel_go bel3 hb4) (.cells #[.int .i64 fm, .bool ng, .slice a0 zs.length k0, .int .i64 T, .bool nn, .bool bd, .bool pl, .bool mi, .bool am] 50)
    clear hp0 hb4 A
    go_wp2_with fail
    refine (CN1.out _).mono ?_
    rintro r w5 ⟨rfl, hb5⟩
    go_wp2_with fail
    refine (CN2.out _).mono ?_
    rintro r w6 ⟨rfl, hb6⟩
    go_wp2_with fail
    refine (CF1.out _).mono ?_
    rintro r w7 ⟨rfl, hb7⟩
    replace R := ((R.below hb5).below hb6).below hb7
    replace O := ((O.below hb5).below hb6).below hb7
    replace hp0' := ((hp0'.below hb5).below hb6).below hb7
    have belW := bel_go (bel_go (bel_go bel4 hb5) hb6) hb7
    clear bel4 bel3 hb5 hb6 hb7
    have lO := O.lt
    go_wp2_with fail
    refine (CK1.out _).mono ?_
    rintro r w8 ⟨rfl, hb8⟩
    go_wp2_with fail
    refine (CK2.out _).mono ?_
    rintro r w9 ⟨rfl, hb9⟩
    go_wp2_with fail
    refine (CO.out _).mono ?_
    rintro r w10 ⟨rfl, hb10⟩
    replace R := ((R.below hb8).below hb9).below hb10
    replace O := ((O.below hb8).below hb9).below hb10
    replace hp0' := ((hp0'.below hb8).below hb9).below hb10
    have belX := bel_go (bel_go (bel_go belW hb8) hb9) hb10
    have Od := O.drew
    clear belW hb8 hb9 hb10
    go_wp2_with fail
    refine wp_region_held_drew (S := fun w' => (w'.cell? ⟨w4.heap.size, 0, none⟩ = some (.int .i64 fm) ∧ w'.cell? ⟨w4.heap.size, 1, none⟩ = some (.bool ng) ∧ w'.cell? ⟨w4.heap.size, 2, none⟩ = some (.slice a0 zs.length k0) ∧ w'.cell? ⟨w4.heap.size, 3, none⟩ = some (.int .i64 T) ∧ w'.cell? ⟨w4.heap.size, 4, none⟩ = some (.bool nn) ∧ w'.cell? ⟨w4.heap.size, 5, none⟩ = some (.bool bd) ∧ w'.cell? ⟨w4.heap.size, 6, none⟩ = some (.bool pl) ∧ w'.cell? ⟨w4.heap.size, 7, none⟩ = some (.bool mi) ∧ w'.cell? ⟨w4.heap.size, 8, none⟩ = some (.bool am))) (by kernel_rfl) ?_ (fun hHeld => ?_)
    ·exact Od.cs
    refine tk 0 ?_ rfl (Or.inl ⟨by rfl, ?_⟩) ?_
    rotate_left
    ·(intro w hSw; (try dsimp only at hSw); go_simp; try (with_reducible rfl))
    try simp only [Act.put, Ls]
    refine tk 1 ?_ rfl (Or.inl ⟨by rfl, ?_⟩) ?_
    rotate_left
    ·(intro w hSw; (try dsimp only at hSw); go_simp; try (with_reducible rfl))
    try simp only [Act.put, Ls]
    refine tk 2 ?_ rfl (Or.inl ⟨by rfl, ?_⟩) ?_
    rotate_left
    ·(intro w hSw; (try dsimp only at hSw); go_simp; try (with_reducible rfl))
    try simp only [Act.put, Ls]
    refine tk 12 ?_ rfl (Or.inl ⟨by rfl, ?_⟩) ?_
    rotate_left
    ·(intro w hSw; (try dsimp only at hSw); go_simp; try (with_reducible rfl))
    try simp only [Act.put, Ls]
    refine tk 16 ?_ rfl (Or.inl ⟨by rfl, ?_⟩) ?_
    rotate_left
    ·(intro w hSw; (try dsimp only at hSw); go_simp; try (with_reducible rfl))
    try simp only [Act.put, Ls]
    refine rdy 3 rfl (fun K hK => ?_)
    go_simp
    go_at_call 131; refine (CA1.out _).mono ?_; rintro r q1 ⟨rfl, hq1⟩
    have O1 := Od.below hq1
    have R1 := R.drew.below hq1
    have o1 := hp0'.drew.below hq1
    have bq1 := bel_go (Below.drew belX) hq1
    refine hK.out _ _ ?_ (fun hHeld => ?_)
    ·exact O1.cs
    clear hK K
    try simp only [Act.put, Ls]
    refine tk 4 ?_ rfl (Or.inl ⟨by rfl, ?_⟩) ?_
    rotate_left
    ·(intro w hSw; (try dsimp only at hSw); go_simp; try (with_reducible rfl))
    try simp only [Act.put, Ls]
    refine tk 5 ?_ rfl (Or.inl ⟨by rfl, ?_⟩) ?_
    rotate_left
    ·(intro w hSw; (try dsimp only at hSw); go_simp; try (with_reducible rfl))
    try simp only [Act.put, Ls]
    refine tk 6 ?_ rfl (Or.inl ⟨by rfl, ?_⟩) ?_
    rotate_left
    ·(intro w hSw; (try dsimp only at hSw); go_simp; try (with_reducible rfl))
    try simp only [Act.put, Ls]
    refine rdy 7 rfl (fun K hK => ?_)
    go_simp
    go_at_call 131; refine (CA2.out _).mono ?_; rintro r q2 ⟨rfl, hq2⟩
    have O2 := O1.below hq2
    have R2' := R1.below hq2
    have o2 := o1.below hq2
    have bq2 := bel_go bq1 hq2
    refine hK.out _ _ ?_ (fun hHeld => ?_)
    ·exact O2.cs
    clear hK K
    try simp only [Act.put, Ls]
    refine tk 8 ?_ rfl (Or.inl ⟨by rfl, ?_⟩) ?_
    rotate_left
    ·(intro w hSw; (try dsimp only at hSw); go_simp; try (with_reducible rfl))
    try simp only [Act.put, Ls]
    refine tk 9 ?_ rfl (Or.inl ⟨by rfl, ?_⟩) ?_
    rotate_left
    ·(intro w hSw; (try dsimp only at hSw); go_simp; try (with_reducible rfl))
    try simp only [Act.put, Ls]
    refine tk 10 ?_ rfl (Or.inl ⟨by rfl, ?_⟩) ?_
    rotate_left
    ·(intro w hSw; (try dsimp only at hSw); go_simp; try (with_reducible rfl))
    try simp only [Act.put, Ls]
    refine tk 11 ?_ rfl (Or.inl ⟨by rfl, ?_⟩) ?_
    rotate_left
    ·(intro w hSw; (try dsimp only at hSw); go_simp; try (with_reducible rfl))
    try simp only [Act.put, Ls]
    refine tk 13 ?_ rfl (Or.inl ⟨by rfl, ?_⟩) ?_
    rotate_left
    ·(intro w hSw; (try dsimp only at hSw); go_simp; try (with_reducible rfl))
    try simp only [Act.put, Ls]
    refine tk 14 ?_ rfl (Or.inl ⟨by rfl, ?_⟩) ?_
    rotate_left
    ·(intro w hSw; (try dsimp only at hSw); go_simp; try (with_reducible rfl))
    try simp only [Act.put, Ls]
    refine tk 15 ?_ rfl (Or.inl ⟨by rfl, ?_⟩) ?_
    rotate_left
    ·(intro w hSw; (try dsimp only at hSw); go_simp; try (with_reducible rfl))
    try simp only [Act.put, Ls]
    refine rdy 17 rfl (fun K hK => ?_)
    go_simp
    go_at_call 130; refine (C7.out od od a0 k0 _ (by simp) (by simp)).mono ?_; rintro r q3 ⟨rfl, hq3⟩
    have O3 := O2.below hq3
    have R3' := R2'.below hq3
    have o3 := o2.below hq3
    have bq3 := bel_go bq2 hq3
    refine hK.out _ _ ?_ (fun hHeld => ?_)
    ·exact O3.cs
    clear hK K
    try simp only [Act.put, Ls]
    refine rdy 18 rfl (fun K hK => ?_)
    obtain ⟨r0, r1, r2, r3, r4, r5, r6, r7, r8, g0, g1, g2, g3, g4, g5, g6, g7, g8⟩ := R3'
    go_simp
    refine hK.out _ _ ?_ (fun hHeld => ?_)
    ·exact (O3.of_block (heap9n _ _ _ (by omega) _ _ _ _ _ _ _ _ _)).cs
    clear hK K
    try simp only [Act.put, Ls]
    refine rdy 19 rfl (fun K hK => ?_)
    go_simp
    refine hK.out _ _ ?_ (fun hHeld => ?_)
    ·exact (O3.of_block (heap9n _ _ _ (by omega) _ _ _ _ _ _ _ _ _)).cs
    clear hK K
    try simp only [Act.put, Ls]
    refine wpAnyH_done (by kernel_rfl) ?_ _
    go_wp2
    refine bodyPost_ret (v := .tuple #[.agg #[.int .i64 fm, .bool ng, .slice a0 zs.length k0, .int .i64 T2, .bool n2, .bool b2, .bool p2, .bool m2, .bool false], .int .i64 0]) (by simp [results, Tryz.results53, go_sem, r0, r1, r2, r3, r4, r5, r6, r7, r8]) rfl ⟨a0, k0, rfl, ?_, ?_⟩
    ·refine Own.base (B := w3.heap.size) ?_ (by omega)
     repeat (first | with_reducible exact o3 | (with_reducible refine Own.setBelow ?_ ?_ _; rotate_left; focus (first | (simp; done) | (simp; omega))))
    ·exact (by (repeat with_reducible first | refine Below.setCell ?_ ?_ _ | exact bz0 _ _ | refine bz1 ?_ | refine bz2 ?_ _ | refine bz3 ?_ _ | refine bz4 ?_ bq3 | refine Below.alloc ?_ ?_ _ | refine Below.trans ?_ (Below.mono bq3 ?_)) <;> first | omega | (simp; done) | (simp; omega))
 | true =>
  have hfy' : fy = false := by simpa using hfin
  subst hfy'
  clear hfin
  cases e1 with
  | true =>
   cases nx with
   | true =>
    obtain ⟨c0, c1, c2, c3, c4, c5, c6, c7, c8⟩ := A.cs
    go_enter Tryz.func53, Tryz.ntmps53
    go_wp2_with fail
    refine (C1.out _ (hs.below bel0)).mono ?_
    rintro r w1 ⟨rfl, hb1⟩
    clear c0 c1 c2 c3 c4 c5 c6 c7 c8
    replace A := A.below hb1
    replace R := R.below hb1
    have bel1 := bel_go bel0 hb1
    go_wp2_with fail
    refine (C2.out _).mono ?_
    rintro r w2 ⟨rfl, hb2⟩
    go_wp2_with fail
    refine (C3.out _).mono ?_
    rintro r w3 ⟨rfl, hb3⟩
    replace A := (A.below hb2).below hb3
    replace R := (R.below hb2).below hb3
    have bel3 := bel_go (bel_go bel1 hb2) hb3
    clear hb1 hb2 hb3 bel1
    obtain ⟨c0, c1, c2, c3, c4, c5, c6, c7, c8⟩ := A.cs
    go_wp2_with fail
    refine (CC.out _ (hs.below bel3)).mono ?_
    rintro r w4 ⟨a0, k0, rfl, hp0, hb4⟩
    clear c0 c1 c2 c3 c4 c5 c6 c7 c8
    have lr := R.lt
    have z4 := hb4.size
    have hp0' := hp0.alloc (.cells #[.int .i64 fm, .bool ng, .slice a0 zs.length k0, .int .i64 T, .bool nn, .bool bd, .bool pl, .bool mi, .bool am] 50)
    replace R := (R.below hb4).alloc (.cells #[.int .i64 fm, .bool ng, .slice a0 zs.length k0, .int .i64 T, .bool nn, .bool bd, .bool pl, .bool mi, .bool am] 50)
    have O := Q9.new w4 (.int .i64 fm) (.bool ng) (.slice a0 zs.length k0) (.int .i64 T) (.bool nn) (.bool bd) (.bool pl) (.bool mi) (.bool am) 50
    have bel4 := bel_al (bel_go bel3 hb4) (.cells #[.int .i64 fm, .bool ng, .slice a0 zs.length k0, .int .i64 T, .bool nn, .bool bd, .bool pl, .bool mi, .bool am] 50)
    clear hp0 hb4 A
    go_wp2_with fail
    refine (CN1.out _).mono ?_
    rintro r w5 ⟨rfl, hb5⟩
    go_wp2_with fail
    refine (CN2.out _).mono ?_
    rintro r w6 ⟨rfl, hb6⟩
    go_wp2_with fail
    refine (CF1.out _).mono ?_
    rintro r w7 ⟨rfl, hb7⟩
    go_wp2_with fail
    refine (CF2.out _).mono ?_
    rintro r w8 ⟨rfl, hb8⟩
    replace R := (((R.below hb5).below hb6).below hb7).below hb8
    replace O := (((O.below hb5).below hb6).below hb7).below hb8
    replace hp0' := (((hp0'.below hb5).below hb6).below hb7).below hb8
    have belW := bel_go (bel_go (bel_go (bel_go bel4 hb5) hb6) hb7) hb8
    clear bel4 bel3 hb5 hb6 hb7 hb8
    have lO := O.lt
    go_wp2_with fail
    refine (CK1.out _).mono ?_
    rintro r w9 ⟨rfl, hb9⟩
    go_wp2_with fail
    refine (CO.out _).mono ?_
    rintro r w10 ⟨rfl, hb10⟩
    replace R := (R.below hb9).below hb10
    replace O := (O.below hb9).below hb10
    replace hp0' := (hp0'.below hb9).below hb10
    have belX := bel_go (bel_go belW hb9) hb10
    have Od := O.drew
    clear belW hb9 hb10
    go_wp2_with fail
    refine wp_region_held_drew (S := fun w' => (w'.cell? ⟨w4.heap.size, 0, none⟩ = some (.int .i64 fm) ∧ w'.cell? ⟨w4.heap.size, 1, none⟩ = some (.bool ng) ∧ w'.cell? ⟨w4.heap.size, 2, none⟩ = some (.slice a0 zs.length k0) ∧ w'.cell? ⟨w4.heap.size, 3, none⟩ = some (.int .i64 T) ∧ w'.cell? ⟨w4.heap.size, 4, none⟩ = some (.bool nn) ∧ w'.cell? ⟨w4.heap.size, 5, none⟩ = some (.bool bd) ∧ w'.cell? ⟨w4.heap.size, 6, none⟩ = some (.bool pl) ∧ w'.cell? ⟨w4.heap.size, 7, none⟩ = some (.bool mi) ∧ w'.cell? ⟨w4.heap.size, 8, none⟩ = some (.bool am))) (by kernel_rfl) ?_ (fun hHeld => ?_)
    ·exact Od.cs
    refine tk 0 ?_ rfl (Or.inl ⟨by rfl, ?_⟩) ?_
    rotate_left
    ·(intro w hSw; (try dsimp only at hSw); go_simp; try (with_reducible rfl))
    try simp only [Act.put, Ls]
    refine tk 1 ?_ rfl (Or.inl ⟨by rfl, ?_⟩) ?_
    rotate_left
    ·(intro w hSw; (try dsimp only at hSw); go_simp; try (with_reducible rfl))
    try simp only [Act.put, Ls]
    refine tk 2 ?_ rfl (Or.inl ⟨by rfl, ?_⟩) ?_
    rotate_left
    ·(intro w hSw; (try dsimp only at hSw); go_simp; try (with_reducible rfl))
    try simp only [Act.put, Ls]
    refine tk 12 ?_ rfl (Or.inl ⟨by rfl, ?_⟩) ?_
    rotate_left
    ·(intro w hSw; (try dsimp only at hSw); go_simp; try (with_reducible rfl))
    try simp only [Act.put, Ls]
    refine tk 16 ?_ rfl (Or.inl ⟨by rfl, ?_⟩) ?_
    rotate_left
    ·(intro w hSw; (try dsimp only at hSw); go_simp; try (with_reducible rfl))
    try simp only [Act.put, Ls]
    refine rdy 3 rfl (fun K hK => ?_)
    go_simp
    go_at_call 131; refine (CA1.out _).mono ?_; rintro r q1 ⟨rfl, hq1⟩
    have O1 := Od.below hq1
    have R1 := R.drew.below hq1
    have o1 := hp0'.drew.below hq1
    have bq1 := bel_go (Below.drew belX) hq1
    refine hK.out _ _ ?_ (fun hHeld => ?_)
    ·exact O1.cs
    clear hK K
    try simp only [Act.put, Ls]
    refine tk 4 ?_ rfl (Or.inl ⟨by rfl, ?_⟩) ?_
    rotate_left
    ·(intro w hSw; (try dsimp only at hSw); go_simp; try (with_reducible rfl))
    try simp only [Act.put, Ls]
    refine tk 5 undef rfl (Or.inr ⟨by rfl, rfl⟩) ?_
    try simp only [Act.put, Ls]
    refine tk 6 undef rfl (Or.inr ⟨by rfl, rfl⟩) ?_
    try simp only [Act.put, Ls]
    refine tk 7 undef rfl (Or.inr ⟨by rfl, rfl⟩) ?_
    try simp only [Act.put, Ls]
    have O2 := O1
    have R2' := R1
    have o2 := o1
    have bq2 := bq1
    refine tk 8 ?_ rfl (Or.inl ⟨by rfl, ?_⟩) ?_
    rotate_left
    ·(intro w hSw; (try dsimp only at hSw); go_simp; try (with_reducible rfl))
    try simp only [Act.put, Ls]
    refine tk 9 ?_ rfl (Or.inl ⟨by rfl, ?_⟩) ?_
    rotate_left
    ·(intro w hSw; (try dsimp only at hSw); go_simp; try (with_reducible rfl))
    try simp only [Act.put, Ls]
    refine tk 10 undef rfl (Or.inr ⟨by rfl, rfl⟩) ?_
    try simp only [Act.put, Ls]
    refine tk 11 ?_ rfl (Or.inl ⟨by rfl, ?_⟩) ?_
    rotate_left
    ·(intro w hSw; (try dsimp only at hSw); go_simp; try (with_reducible rfl))
    try simp only [Act.put, Ls]
    refine tk 13 ?_ rfl (Or.inl ⟨by rfl, ?_⟩) ?_
    rotate_left
    ·(intro w hSw; (try dsimp only at hSw); go_simp; try (with_reducible rfl))
    try simp only [Act.put, Ls]
    refine tk 14 undef rfl (Or.inr ⟨by rfl, rfl⟩) ?_
    try simp only [Act.put, Ls]
    refine tk 15 ?_ rfl (Or.inl ⟨by rfl, ?_⟩) ?_
    rotate_left
    ·(intro w hSw; (try dsimp only at hSw); go_simp; try (with_reducible rfl))
    try simp only [Act.put, Ls]
    refine rdy 17 rfl (fun K hK => ?_)
    go_simp
    go_at_call 130; refine (C7.out true true a0 k0 _ (by simp) (by simp)).mono ?_; rintro r q3 ⟨rfl, hq3⟩
    have O3 := O2.below hq3
    have R3' := R2'.below hq3
    have o3 := o2.below hq3
    have bq3 := bel_go bq2 hq3
    refine hK.out _ _ ?_ (fun hHeld => ?_)
    ·exact O3.cs
    clear hK K
    try simp only [Act.put, Ls]
    refine rdy 18 rfl (fun K hK => ?_)
    obtain ⟨r0, r1, r2, r3, r4, r5, r6, r7, r8, g0, g1, g2, g3, g4, g5, g6, g7, g8⟩ := R3'
    go_simp
    refine hK.out _ _ ?_ (fun hHeld => ?_)
    ·exact (O3.of_block (heap9n _ _ _ (by omega) _ _ _ _ _ _ _ _ _)).cs
    clear hK K
    try simp only [Act.put, Ls]
    refine rdy 19 rfl (fun K hK => ?_)
    go_simp
    refine hK.out _ _ ?_ (fun hHeld => ?_)
    ·exact (O3.of_block (heap9n _ _ _ (by omega) _ _ _ _ _ _ _ _ _)).cs
    clear hK K
    try simp only [Act.put, Ls]
    refine wpAnyH_done (by kernel_rfl) ?_ _
    go_wp2
    refine bodyPost_ret (v := .tuple #[.agg #[.int .i64 fm, .bool ng, .slice a0 zs.length k0, .int .i64 T2, .bool n2, .bool b2, .bool p2, .bool m2, .bool false], .int .i64 0]) (by simp [results, Tryz.results53, go_sem, r0, r1, r2, r3, r4, r5, r6, r7, r8]) rfl ⟨a0, k0, rfl, ?_, ?_⟩
    ·refine Own.base (B := w3.heap.size) ?_ (by omega)
     repeat (first | with_reducible exact o3 | (with_reducible refine Own.setBelow ?_ ?_ _; rotate_left; focus (first | (simp; done) | (simp; omega))))
    ·exact (by (repeat with_reducible first | refine Below.setCell ?_ ?_ _ | exact bz0 _ _ | refine bz1 ?_ | refine bz2 ?_ _ | refine bz3 ?_ _ | refine bz4 ?_ bq3 | refine Below.alloc ?_ ?_ _ | refine Below.trans ?_ (Below.mono bq3 ?_)) <;> first | omega | (simp; done) | (simp; omega))
   | false =>
   cases ny with
   | true =>
    obtain ⟨c0, c1, c2, c3, c4, c5, c6, c7, c8⟩ := A.cs
    go_enter Tryz.func53, Tryz.ntmps53
    go_wp2_with fail
    refine (C1.out _ (hs.below bel0)).mono ?_
    rintro r w1 ⟨rfl, hb1⟩
    clear c0 c1 c2 c3 c4 c5 c6 c7 c8
    replace A := A.below hb1
    replace R := R.below hb1
    have bel1 := bel_go bel0 hb1
    go_wp2_with fail
    refine (C2.out _).mono ?_
    rintro r w2 ⟨rfl, hb2⟩
    go_wp2_with fail
    refine (C3.out _).mono ?_
    rintro r w3 ⟨rfl, hb3⟩
    replace A := (A.below hb2).below hb3
    replace R := (R.below hb2).below hb3
    have bel3 := bel_go (bel_go bel1 hb2) hb3
    clear hb1 hb2 hb3 bel1
    obtain ⟨c0, c1, c2, c3, c4, c5, c6, c7, c8⟩ := A.cs
    go_wp2_with fail
    refine (CC.out _ (hs.below bel3)).mono ?_
    rintro r w4 ⟨a0, k0, rfl, hp0, hb4⟩
    clear c0 c1 c2 c3 c4 c5 c6 c7 c8
    have lr := R.lt
    have z4 := hb4.size
    have hp0' := hp0.alloc (.cells #[.int .i64 fm, .bool ng, .slice a0 zs.length k0, .int .i64 T, .bool nn, .bool bd, .bool pl, .bool mi, .bool am] 50)
    replace R := (R.below hb4).alloc (.cells #[.int .i64 fm, .bool ng, .slice a0 zs.length k0, .int .i64 T, .bool nn, .bool bd, .bool pl, .bool mi, .bool am] 50)
    have O := Q9.new w4 (.int .i64 fm) (.bool ng) (.slice a0 zs.length k0) (.int .i64 T) (.bool nn) (.bool bd) (.bool pl) (.bool mi) (.bool am) 50
    have bel4 := bel_al (bel_go bel3 hb4) (.cells #[.int .i64 fm, .bool ng, .slice a0 zs.length k0, .int .i64 T, .bool nn, .bool bd, .bool pl, .bool mi, .bool am] 50)
    clear hp0 hb4 A
    go_wp2_with fail
    refine (CN1.out _).mono ?_
    rintro r w5 ⟨rfl, hb5⟩
    go_wp2_with fail
    refine (CN2.out _).mono ?_
    rintro r w6 ⟨rfl, hb6⟩
    go_wp2_with fail
    refine (CF1.out _).mono ?_
    rintro r w7 ⟨rfl, hb7⟩
    go_wp2_with fail
    refine (CF2.out _).mono ?_
    rintro r w8 ⟨rfl, hb8⟩
    replace R := (((R.below hb5).below hb6).below hb7).below hb8
    replace O := (((O.below hb5).below hb6).below hb7).below hb8
    replace hp0' := (((hp0'.below hb5).below hb6).below hb7).below hb8
    have belW := bel_go (bel_go (bel_go (bel_go bel4 hb5) hb6) hb7) hb8
    clear bel4 bel3 hb5 hb6 hb7 hb8
    have lO := O.lt
    go_wp2_with fail
    refine (CK1.out _).mono ?_
    rintro r w9 ⟨rfl, hb9⟩
    go_wp2_with fail
    refine (CO.out _).mono ?_
    rintro r w10 ⟨rfl, hb10⟩
    replace R := (R.below hb9).below hb10
    replace O := (O.below hb9).below hb10
    replace hp0' := (hp0'.below hb9).below hb10
    have belX := bel_go (bel_go belW hb9) hb10
    have Od := O.drew
    clear belW hb9 hb10
    go_wp2_with fail
    refine wp_region_held_drew (S := fun w' => (w'.cell? ⟨w4.heap.size, 0, none⟩ = some (.int .i64 fm) ∧ w'.cell? ⟨w4.heap.size, 1, none⟩ = some (.bool ng) ∧ w'.cell? ⟨w4.heap.size, 2, none⟩ = some (.slice a0 zs.length k0) ∧ w'.cell? ⟨w4.heap.size, 3, none⟩ = some (.int .i64 T) ∧ w'.cell? ⟨w4.heap.size, 4, none⟩ = some (.bool nn) ∧ w'.cell? ⟨w4.heap.size, 5, none⟩ = some (.bool bd) ∧ w'.cell? ⟨w4.heap.size, 6, none⟩ = some (.bool pl) ∧ w'.cell? ⟨w4.heap.size, 7, none⟩ = some (.bool mi) ∧ w'.cell? ⟨w4.heap.size, 8, none⟩ = some (.bool am))) (by kernel_rfl) ?_ (fun hHeld => ?_)
    ·exact Od.cs
    refine tk 0 ?_ rfl (Or.inl ⟨by rfl, ?_⟩) ?_
    rotate_left
    ·(intro w hSw; (try dsimp only at hSw); go_simp; try (with_reducible rfl))
    try simp only [Act.put, Ls]
    refine tk 1 ?_ rfl (Or.inl ⟨by rfl, ?_⟩) ?_
    rotate_left
    ·(intro w hSw; (try dsimp only at hSw); go_simp; try (with_reducible rfl))
    try simp only [Act.put, Ls]
    refine tk 2 ?_ rfl (Or.inl ⟨by rfl, ?_⟩) ?_
    rotate_left
    ·(intro w hSw; (try dsimp only at hSw); go_simp; try (with_reducible rfl))
    try simp only [Act.put, Ls]
    refine tk 12 ?_ rfl (Or.inl ⟨by rfl, ?_⟩) ?_
    rotate_left
    ·(intro w hSw; (try dsimp only at hSw); go_simp; try (with_reducible rfl))
    try simp only [Act.put, Ls]
    refine tk 16 ?_ rfl (Or.inl ⟨by rfl, ?_⟩) ?_
    rotate_left
    ·(intro w hSw; (try dsimp only at hSw); go_simp; try (with_reducible rfl))
    try simp only [Act.put, Ls]
    refine rdy 3 rfl (fun K hK => ?_)
    go_simp
    go_at_call 131; refine (CA1.out _).mono ?_; rintro r q1 ⟨rfl, hq1⟩
    have O1 := Od.below hq1
    have R1 := R.drew.below hq1
    have o1 := hp0'.drew.below hq1
    have bq1 := bel_go (Below.drew belX) hq1
    refine hK.out _ _ ?_ (fun hHeld => ?_)
    ·exact O1.cs
    clear hK K
    try simp only [Act.put, Ls]
    refine tk 4 ?_ rfl (Or.inl ⟨by rfl, ?_⟩) ?_
    rotate_left
    ·(intro w hSw; (try dsimp only at hSw); go_simp; try (with_reducible rfl))
    try simp only [Act.put, Ls]
    refine tk 5 ?_ rfl (Or.inl ⟨by rfl, ?_⟩) ?_
    rotate_left
    ·(intro w hSw; (try dsimp only at hSw); go_simp; try (with_reducible rfl))
    try simp only [Act.put, Ls]
    refine tk 6 ?_ rfl (Or.inl ⟨by rfl, ?_⟩) ?_
    rotate_left
    ·(intro w hSw; (try dsimp only at hSw); go_simp; try (with_reducible rfl))
    try simp only [Act.put, Ls]
    refine rdy 7 rfl (fun K hK => ?_)
    go_simp
    go_at_call 131; refine (CA2.out _).mono ?_; rintro r q2 ⟨rfl, hq2⟩
    have O2 := O1.below hq2
    have R2' := R1.below hq2
    have o2 := o1.below hq2
    have bq2 := bel_go bq1 hq2
    refine hK.out _ _ ?_ (fun hHeld => ?_)
    ·exact O2.cs
    clear hK K
    try simp only [Act.put, Ls]
    refine tk 8 ?_ rfl (Or.inl ⟨by rfl, ?_⟩) ?_
    rotate_left
    ·(intro w hSw; (try dsimp only at hSw); go_simp; try (with_reducible rfl))
    try simp only [Act.put, Ls]
    refine tk 9 ?_ rfl (Or.inl ⟨by rfl, ?_⟩) ?_
    rotate_left
    ·(intro w hSw; (try dsimp only at hSw); go_simp; try (with_reducible rfl))
    try simp only [Act.put, Ls]
    refine tk 10 undef rfl (Or.inr ⟨by rfl, rfl⟩) ?_
    try simp only [Act.put, Ls]
    refine tk 11 ?_ rfl (Or.inl ⟨by rfl, ?_⟩) ?_
    rotate_left
    ·(intro w hSw; (try dsimp only at hSw); go_simp; try (with_reducible rfl))
    try simp only [Act.put, Ls]
    refine tk 13 ?_ rfl (Or.inl ⟨by rfl, ?_⟩) ?_
    rotate_left
    ·(intro w hSw; (try dsimp only at hSw); go_simp; try (with_reducible rfl))
    try simp only [Act.put, Ls]
    refine tk 14 undef rfl (Or.inr ⟨by rfl, rfl⟩) ?_
    try simp only [Act.put, Ls]
    refine tk 15 ?_ rfl (Or.inl ⟨by rfl, ?_⟩) ?_
    rotate_left
    ·(intro w hSw; (try dsimp only at hSw); go_simp; try (with_reducible rfl))
    try simp only [Act.put, Ls]
    refine rdy 17 rfl (fun K hK => ?_)
    go_simp
    go_at_call 130; refine (C7.out true true a0 k0 _ (by simp) (by simp)).mono ?_; rintro r q3 ⟨rfl, hq3⟩
    have O3 := O2.below hq3
    have R3' := R2'.below hq3
    have o3 := o2.below hq3
    have bq3 := bel_go bq2 hq3
    refine hK.out _ _ ?_ (fun hHeld => ?_)
    ·exact O3.cs
    clear hK K
    try simp only [Act.put, Ls]
    refine rdy 18 rfl (fun K hK => ?_)
    obtain ⟨r0, r1, r2, r3, r4, r5, r6, r7, r8, g0, g1, g2, g3, g4, g5, g6, g7, g8⟩ := R3'
    go_simp
    refine hK.out _ _ ?_ (fun hHeld => ?_)
    ·exact (O3.of_block (heap9n _ _ _ (by omega) _ _ _ _ _ _ _ _ _)).cs
    clear hK K
    try simp only [Act.put, Ls]
    refine rdy 19 rfl (fun K hK => ?_)
    go_simp
    refine hK.out _ _ ?_ (fun hHeld => ?_)
    ·exact (O3.of_block (heap9n _ _ _ (by omega) _ _ _ _ _ _ _ _ _)).cs
    clear hK K
    try simp only [Act.put, Ls]
    refine wpAnyH_done (by kernel_rfl) ?_ _
    go_wp2
    refine bodyPost_ret (v := .tuple #[.agg #[.int .i64 fm, .bool ng, .slice a0 zs.length k0, .int .i64 T2, .bool n2, .bool b2, .bool p2, .bool m2, .bool false], .int .i64 0]) (by simp [results, Tryz.results53, go_sem, r0, r1, r2, r3, r4, r5, r6, r7, r8]) rfl ⟨a0, k0, rfl, ?_, ?_⟩
    ·refine Own.base (B := w3.heap.size) ?_ (by omega)
     repeat (first | with_reducible exact o3 | (with_reducible refine Own.setBelow ?_ ?_ _; rotate_left; focus (first | (simp; done) | (simp; omega))))
    ·exact (by (repeat with_reducible first | refine Below.setCell ?_ ?_ _ | exact bz0 _ _ | refine bz1 ?_ | refine bz2 ?_ _ | refine bz3 ?_ _ | refine bz4 ?_ bq3 | refine Below.alloc ?_ ?_ _ | refine Below.trans ?_ (Below.mono bq3 ?_)) <;> first | omega | (simp; done) | (simp; omega))
   | false =>
    obtain ⟨c0, c1, c2, c3, c4, c5, c6, c7, c8⟩ := A.cs
    go_enter Tryz.func53, Tryz.ntmps53
    go_wp2_with fail
    refine (C1.out _ (hs.below bel0)).mono ?_
    rintro r w1 ⟨rfl, hb1⟩
    clear c0 c1 c2 c3 c4 c5 c6 c7 c8
    replace A := A.below hb1
    replace R := R.below hb1
    have bel1 := bel_go bel0 hb1
    go_wp2_with fail
    refine (C2.out _).mono ?_
    rintro r w2 ⟨rfl, hb2⟩
    go_wp2_with fail
    refine (C3.out _).mono ?_
    rintro r w3 ⟨rfl, hb3⟩
    replace A := (A.below hb2).below hb3
    replace R := (R.below hb2).below hb3
    have bel3 := bel_go (bel_go bel1 hb2) hb3
    clear hb1 hb2 hb3 bel1
    obtain ⟨c0, c1, c2, c3, c4, c5, c6, c7, c8⟩ := A.cs
    go_wp2_with fail
    refine (CC.out _ (hs.below bel3)).mono ?_
    rintro r w4 ⟨a0, k0, rfl, hp0, hb4⟩
    clear c0 c1 c2 c3 c4 c5 c6 c7 c8
    have lr := R.lt
    have z4 := hb4.size
    have hp0' := hp0.alloc (.cells #[.int .i64 fm, .bool ng, .slice a0 zs.length k0, .int .i64 T, .bool nn, .bool bd, .bool pl, .bool mi, .bool am] 50)
    replace R := (R.below hb4).alloc (.cells #[.int .i64 fm, .bool ng, .slice a0 zs.length k0, .int .i64 T, .bool nn, .bool bd, .bool pl, .bool mi, .bool am] 50)
    have O := Q9.new w4 (.int .i64 fm) (.bool ng) (.slice a0 zs.length k0) (.int .i64 T) (.bool nn) (.bool bd) (.bool pl) (.bool mi) (.bool am) 50
    have bel4 := bel_al (bel_go bel3 hb4) (.cells #[.int .i64 fm, .bool ng, .slice a0 zs.length k0, .int .i64 T, .bool nn, .bool bd, .bool pl, .bool mi, .bool am] 50)
    clear hp0 hb4 A
    go_wp2_with fail
    refine (CN1.out _).mono ?_
    rintro r w5 ⟨rfl, hb5⟩
    go_wp2_with fail
    refine (CN2.out _).mono ?_
    rintro r w6 ⟨rfl, hb6⟩
    go_wp2_with fail
    refine (CF1.out _).mono ?_
    rintro r w7 ⟨rfl, hb7⟩
    go_wp2_with fail
    refine (CF2.out _).mono ?_
    rintro r w8 ⟨rfl, hb8⟩
    replace R := (((R.below hb5).below hb6).below hb7).below hb8
    replace O := (((O.below hb5).below hb6).below hb7).below hb8
    replace hp0' := (((hp0'.below hb5).below hb6).below hb7).below hb8
    have belW := bel_go (bel_go (bel_go (bel_go bel4 hb5) hb6) hb7) hb8
    clear bel4 bel3 hb5 hb6 hb7 hb8
    have lO := O.lt
    go_wp2_with fail
    refine (CK1.out _).mono ?_
    rintro r w9 ⟨rfl, hb9⟩
    go_wp2_with fail
    refine (CO.out _).mono ?_
    rintro r w10 ⟨rfl, hb10⟩
    replace R := (R.below hb9).below hb10
    replace O := (O.below hb9).below hb10
    replace hp0' := (hp0'.below hb9).below hb10
    have belX := bel_go (bel_go belW hb9) hb10
    have Od := O.drew
    clear belW hb9 hb10
    go_wp2_with fail
    refine wp_region_held_drew (S := fun w' => (w'.cell? ⟨w4.heap.size, 0, none⟩ = some (.int .i64 fm) ∧ w'.cell? ⟨w4.heap.size, 1, none⟩ = some (.bool ng) ∧ w'.cell? ⟨w4.heap.size, 2, none⟩ = some (.slice a0 zs.length k0) ∧ w'.cell? ⟨w4.heap.size, 3, none⟩ = some (.int .i64 T) ∧ w'.cell? ⟨w4.heap.size, 4, none⟩ = some (.bool nn) ∧ w'.cell? ⟨w4.heap.size, 5, none⟩ = some (.bool bd) ∧ w'.cell? ⟨w4.heap.size, 6, none⟩ = some (.bool pl) ∧ w'.cell? ⟨w4.heap.size, 7, none⟩ = some (.bool mi) ∧ w'.cell? ⟨w4.heap.size, 8, none⟩ = some (.bool am))) (by kernel_rfl) ?_ (fun hHeld => ?_)
    ·exact Od.cs
    refine tk 0 ?_ rfl (Or.inl ⟨by rfl, ?_⟩) ?_
    rotate_left
    ·(intro w hSw; (try dsimp only at hSw); go_simp; try (with_reducible rfl))
    try simp only [Act.put, Ls]
    refine tk 1 ?_ rfl (Or.inl ⟨by rfl, ?_⟩) ?_
    rotate_left
    ·(intro w hSw; (try dsimp only at hSw); go_simp; try (with_reducible rfl))
    try simp only [Act.put, Ls]
    refine tk 2 ?_ rfl (Or.inl ⟨by rfl, ?_⟩) ?_
    rotate_left
    ·(intro w hSw; (try dsimp only at hSw); go_simp; try (with_reducible rfl))
    try simp only [Act.put, Ls]
    refine tk 12 ?_ rfl (Or.inl ⟨by rfl, ?_⟩) ?_
    rotate_left
    ·(intro w hSw; (try dsimp only at hSw); go_simp; try (with_reducible rfl))
    try simp only [Act.put, Ls]
    refine tk 16 ?_ rfl (Or.inl ⟨by rfl, ?_⟩) ?_
    rotate_left
    ·(intro w hSw; (try dsimp only at hSw); go_simp; try (with_reducible rfl))
    try simp only [Act.put, Ls]
    refine rdy 3 rfl (fun K hK => ?_)
    go_simp
    go_at_call 131; refine (CA1.out _).mono ?_; rintro r q1 ⟨rfl, hq1⟩
    have O1 := Od.below hq1
    have R1 := R.drew.below hq1
    have o1 := hp0'.drew.below hq1
    have bq1 := bel_go (Below.drew belX) hq1
    refine hK.out _ _ ?_ (fun hHeld => ?_)
    ·exact O1.cs
    clear hK K
    try simp only [Act.put, Ls]
    refine tk 4 ?_ rfl (Or.inl ⟨by rfl, ?_⟩) ?_
    rotate_left
    ·(intro w hSw; (try dsimp only at hSw); go_simp; try (with_reducible rfl))
    try simp only [Act.put, Ls]
    refine tk 5 ?_ rfl (Or.inl ⟨by rfl, ?_⟩) ?_
    rotate_left
    ·(intro w hSw; (try dsimp only at hSw); go_simp; try (with_reducible rfl))
    try simp only [Act.put, Ls]
    refine tk 6 ?_ rfl (Or.inl ⟨by rfl, ?_⟩) ?_
    rotate_left
    ·(intro w hSw; (try dsimp only at hSw); go_simp; try (with_reducible rfl))
    try simp only [Act.put, Ls]
    refine rdy 7 rfl (fun K hK => ?_)
    go_simp
    go_at_call 131; refine (CA2.out _).mono ?_; rintro r q2 ⟨rfl, hq2⟩
    have O2 := O1.below hq2
    have R2' := R1.below hq2
    have o2 := o1.below hq2
    have bq2 := bel_go bq1 hq2
    refine hK.out _ _ ?_ (fun hHeld => ?_)
    ·exact O2.cs
    clear hK K
    try simp only [Act.put, Ls]
    refine tk 8 ?_ rfl (Or.inl ⟨by rfl, ?_⟩) ?_
    rotate_left
    ·(intro w hSw; (try dsimp only at hSw); go_simp; try (with_reducible rfl))
    try simp only [Act.put, Ls]
    refine tk 9 ?_ rfl (Or.inl ⟨by rfl, ?_⟩) ?_
    rotate_left
    ·(intro w hSw; (try dsimp only at hSw); go_simp; try (with_reducible rfl))
    try simp only [Act.put, Ls]
    refine tk 10 ?_ rfl (Or.inl ⟨by rfl, ?_⟩) ?_
    rotate_left
    ·(intro w hSw; (try dsimp only at hSw); go_simp; try (with_reducible rfl))
    try simp only [Act.put, Ls]
    refine tk 11 ?_ rfl (Or.inl ⟨by rfl, ?_⟩) ?_
    rotate_left
    ·(intro w hSw; (try dsimp only at hSw); go_simp; try (with_reducible rfl))
    try simp only [Act.put, Ls]
    refine tk 13 ?_ rfl (Or.inl ⟨by rfl, ?_⟩) ?_
    rotate_left
    ·(intro w hSw; (try dsimp only at hSw); go_simp; try (with_reducible rfl))
    try simp only [Act.put, Ls]
    refine tk 14 undef rfl (Or.inr ⟨by rfl, rfl⟩) ?_
    try simp only [Act.put, Ls]
    refine tk 15 ?_ rfl (Or.inl ⟨by rfl, ?_⟩) ?_
    rotate_left
    ·(intro w hSw; (try dsimp only at hSw); go_simp; try (with_reducible rfl))
    try simp only [Act.put, Ls]
    refine rdy 17 rfl (fun K hK => ?_)
    go_simp
    go_at_call 130; refine (C7.out od true a0 k0 _ (by simp) (by simp)).mono ?_; rintro r q3 ⟨rfl, hq3⟩
    have O3 := O2.below hq3
    have R3' := R2'.below hq3
    have o3 := o2.below hq3
    have bq3 := bel_go bq2 hq3
    refine hK.out _ _ ?_ (fun hHeld => ?_)
    ·exact O3.cs
    clear hK K
    try simp only [Act.put, Ls]
    refine rdy 18 rfl (fun K hK => ?_)
    obtain ⟨r0, r1, r2, r3, r4, r5, r6, r7, r8, g0, g1, g2, g3, g4, g5, g6, g7, g8⟩ := R3'
    go_simp
    refine hK.out _ _ ?_ (fun hHeld => ?_)
    ·exact (O3.of_block (heap9n _ _ _ (by omega) _ _ _ _ _ _ _ _ _)).cs
    clear hK K
    try simp only [Act.put, Ls]
    refine rdy 19 rfl (fun K hK => ?_)
    go_simp
    refine hK.out _ _ ?_ (fun hHeld => ?_)
    ·exact (O3.of_block (heap9n _ _ _ (by omega) _ _ _ _ _ _ _ _ _)).cs
    clear hK K
    try simp only [Act.put, Ls]
    refine wpAnyH_done (by kernel_rfl) ?_ _
    go_wp2
    refine bodyPost_ret (v := .tuple #[.agg #[.int .i64 fm, .bool ng, .slice a0 zs.length k0, .int .i64 T2, .bool n2, .bool b2, .bool p2, .bool m2, .bool false], .int .i64 0]) (by simp [results, Tryz.results53, go_sem, r0, r1, r2, r3, r4, r5, r6, r7, r8]) rfl ⟨a0, k0, rfl, ?_, ?_⟩
    ·refine Own.base (B := w3.heap.size) ?_ (by omega)
     repeat (first | with_reducible exact o3 | (with_reducible refine Own.setBelow ?_ ?_ _; rotate_left; focus (first | (simp; done) | (simp; omega))))
    ·exact (by (repeat with_reducible first | refine Below.setCell ?_ ?_ _ | exact bz0 _ _ | refine bz1 ?_ | refine bz2 ?_ _ | refine bz3 ?_ _ | refine bz4 ?_ bq3 | refine Below.alloc ?_ ?_ _ | refine Below.trans ?_ (Below.mono bq3 ?_)) <;> first | omega | (simp; done) | (simp; omega))
  | false =>
  cases e2 with
  | true =>
   cases nx with
   | true =>
    obtain ⟨c0, c1, c2, c3, c4, c5, c6, c7, c8⟩ := A.cs
    go_enter Tryz.func53, Tryz.ntmps53
    go_wp2_with fail
    refine (C1.out _ (hs.below bel0)).mono ?_
    rintro r w1 ⟨rfl, hb1⟩
    clear c0 c1 c2 c3 c4 c5 c6 c7 c8
    replace A := A.below hb1
    replace R := R.below hb1
    have bel1 := bel_go bel0 hb1
    go_wp2_with fail
    refine (C2.out _).mono ?_
    rintro r w2 ⟨rfl, hb2⟩
    go_wp2_with fail
    refine (C3.out _).mono ?_
    rintro r w3 ⟨rfl, hb3⟩
    replace A := (A.below hb2).below hb3
    replace R := (R.below hb2).below hb3
    have bel3 := bel_go (bel_go bel1 hb2) hb3
    clear hb1 hb2 hb3 bel1
    obtain ⟨c0, c1, c2, c3, c4, c5, c6, c7, c8⟩ := A.cs
    go_wp2_with fail
    refine (CC.out _ (hs.below bel3)).mono ?_
    rintro r w4 ⟨a0, k0, rfl, hp0, hb4⟩
    clear c0 c1 c2 c3 c4 c5 c6 c7 c8
    have lr := R.lt
    have z4 := hb4.size
    have hp0' := hp0.alloc (.cells #[.int .i64 fm, .bool ng, .slice a0 zs.length k0, .int .i64 T, .bool nn, .bool bd, .bool pl, .bool mi, .bool am] 50)
    replace R := (R.below hb4).alloc (.cells #[.int .i64 fm, .bool ng, .slice a0 zs.length k0, .int .i64 T, .bool nn, .bool bd, .bool pl, .bool mi, .bool am] 50)
    have O := Q9.new w4 (.int .i64 fm) (.bool ng) (.slice a0 zs.length k0) (.int .i64 T) (.bool nn) (.bool bd) (.bool pl) (.bool mi) (.bool am) 50
    have bel4 := bel_al (bel_go bel3 hb4) (.cells #[.int .i64 fm, .bool ng, .slice a0 zs.length k0, .int .i64 T, .bool nn, .bool bd, .bool pl, .bool mi, .bool am] 50)
    clear hp0 hb4 A
    go_wp2_with fail
    refine (CN1.out _).mono ?_
    rintro r w5 ⟨rfl, hb5⟩
    go_wp2_with fail
    refine (CN2.out _).mono ?_
    rintro r w6 ⟨rfl, hb6⟩
    go_wp2_with fail
    refine (CF1.out _).mono ?_
    rintro r w7 ⟨rfl, hb7⟩
    go_wp2_with fail
    refine (CF2.out _).mono ?_
    rintro r w8 ⟨rfl, hb8⟩
    replace R := (((R.below hb5).below hb6).below hb7).below hb8
    replace O := (((O.below hb5).below hb6).below hb7).below hb8
    replace hp0' := (((hp0'.below hb5).below hb6).below hb7).below hb8
    have belW := bel_go (bel_go (bel_go (bel_go bel4 hb5) hb6) hb7) hb8
    clear bel4 bel3 hb5 hb6 hb7 hb8
    have lO := O.lt
    go_wp2_with fail
    refine (CK1.out _).mono ?_
    rintro r w9 ⟨rfl, hb9⟩
    go_wp2_with fail
    refine (CK2.out _).mono ?_
    rintro r w10 ⟨rfl, hb10⟩
    go_wp2_with fail
    refine (CO.out _).mono ?_
    rintro r w11 ⟨rfl, hb11⟩
    replace R := ((R.below hb9).below hb10).below hb11
    replace O := ((O.below hb9).below hb10).below hb11
    replace hp0' := ((hp0'.below hb9).below hb10).below hb11
    have belX := bel_go (bel_go (bel_go belW hb9) hb10) hb11
    have Od := O.drew
    clear belW hb9 hb10 hb11
    go_wp2_with fail
    refine wp_region_held_drew (S := fun w' => (w'.cell? ⟨w4.heap.size, 0, none⟩ = some (.int .i64 fm) ∧ w'.cell? ⟨w4.heap.size, 1, none⟩ = some (.bool ng) ∧ w'.cell? ⟨w4.heap.size, 2, none⟩ = some (.slice a0 zs.length k0) ∧ w'.cell? ⟨w4.heap.size, 3, none⟩ = some (.int .i64 T) ∧ w'.cell? ⟨w4.heap.size, 4, none⟩ = some (.bool nn) ∧ w'.cell? ⟨w4.heap.size, 5, none⟩ = some (.bool bd) ∧ w'.cell? ⟨w4.heap.size, 6, none⟩ = some (.bool pl) ∧ w'.cell? ⟨w4.heap.size, 7, none⟩ = some (.bool mi) ∧ w'.cell? ⟨w4.heap.size, 8, none⟩ = some (.bool am))) (by kernel_rfl) ?_ (fun hHeld => ?_)
    ·exact Od.cs
    refine tk 0 ?_ rfl (Or.inl ⟨by rfl, ?_⟩) ?_
    rotate_left
    ·(intro w hSw; (try dsimp only at hSw); go_simp; try (with_reducible rfl))
    try simp only [Act.put, Ls]
    refine tk 1 ?_ rfl (Or.inl ⟨by rfl, ?_⟩) ?_
    rotate_left
    ·(intro w hSw; (try dsimp only at hSw); go_simp; try (with_reducible rfl))
    try simp only [Act.put, Ls]
    refine tk 2 ?_ rfl (Or.inl ⟨by rfl, ?_⟩) ?_
    rotate_left
    ·(intro w hSw; (try dsimp only at hSw); go_simp; try (with_reducible rfl))
    try simp only [Act.put, Ls]
    refine tk 12 ?_ rfl (Or.inl ⟨by rfl, ?_⟩) ?_
    rotate_left
    ·(intro w hSw; (try dsimp only at hSw); go_simp; try (with_reducible rfl))
    try simp only [Act.put, Ls]
    refine tk 16 ?_ rfl (Or.inl ⟨by rfl, ?_⟩) ?_
    rotate_left
    ·(intro w hSw; (try dsimp only at hSw); go_simp; try (with_reducible rfl))
    try simp only [Act.put, Ls]
    refine rdy 3 rfl (fun K hK => ?_)
    go_simp
    go_at_call 131; refine (CA1.out _).mono ?_; rintro r q1 ⟨rfl, hq1⟩
    have O1 := Od.below hq1
    have R1 := R.drew.below hq1
    have o1 := hp0'.drew.below hq1
    have bq1 := bel_go (Below.drew belX) hq1
    refine hK.out _ _ ?_ (fun hHeld => ?_)
    ·exact O1.cs
    clear hK K
    try simp only [Act.put, Ls]
    refine tk 4 ?_ rfl (Or.inl ⟨by rfl, ?_⟩) ?_
    rotate_left
    ·(intro w hSw; (try dsimp only at hSw); go_simp; try (with_reducible rfl))
    try simp only [Act.put, Ls]
    refine tk 5 undef rfl (Or.inr ⟨by rfl, rfl⟩) ?_
    try simp only [Act.put, Ls]
    refine tk 6 undef rfl (Or.inr ⟨by rfl, rfl⟩) ?_
    try simp only [Act.put, Ls]
    refine tk 7 undef rfl (Or.inr ⟨by rfl, rfl⟩) ?_
    try simp only [Act.put, Ls]
    have O2 := O1
    have R2' := R1
    have o2 := o1
    have bq2 := bq1
    refine tk 8 ?_ rfl (Or.inl ⟨by rfl, ?_⟩) ?_
    rotate_left
    ·(intro w hSw; (try dsimp only at hSw); go_simp; try (with_reducible rfl))
    try simp only [Act.put, Ls]
    refine tk 9 ?_ rfl (Or.inl ⟨by rfl, ?_⟩) ?_
    rotate_left
    ·(intro w hSw; (try dsimp only at hSw); go_simp; try (with_reducible rfl))
    try simp only [Act.put, Ls]
    refine tk 10 undef rfl (Or.inr ⟨by rfl, rfl⟩) ?_
    try simp only [Act.put, Ls]
    refine tk 11 ?_ rfl (Or.inl ⟨by rfl, ?_⟩) ?_
    rotate_left
    ·(intro w hSw; (try dsimp only at hSw); go_simp; try (with_reducible rfl))
    try simp only [Act.put, Ls]
    refine tk 13 ?_ rfl (Or.inl ⟨by rfl, ?_⟩) ?_
    rotate_left
    ·(intro w hSw; (try dsimp only at hSw); go_simp; try (with_reducible rfl))
    try simp only [Act.put, Ls]
    refine tk 14 undef rfl (Or.inr ⟨by rfl, rfl⟩) ?_
    try simp only [Act.put, Ls]
    refine tk 15 ?_ rfl (Or.inl ⟨by rfl, ?_⟩) ?_
    rotate_left
    ·(intro w hSw; (try dsimp only at hSw); go_simp; try (with_reducible rfl))
    try simp only [Act.put, Ls]
    refine rdy 17 rfl (fun K hK => ?_)
    go_simp
    go_at_call 130; refine (C7.out true true a0 k0 _ (by simp) (by simp)).mono ?_; rintro r q3 ⟨rfl, hq3⟩
    have O3 := O2.below hq3
    have R3' := R2'.below hq3
    have o3 := o2.below hq3
    have bq3 := bel_go bq2 hq3
    refine hK.out _ _ ?_ (fun hHeld => ?_)
    ·exact O3.cs
    clear hK K
    try simp only [Act.put, Ls]
    refine rdy 18 rfl (fun K hK => ?_)
    obtain ⟨r0, r1, r2, r3, r4, r5, r6, r7, r8, g0, g1, g2, g3, g4, g5, g6, g7, g8⟩ := R3'
    go_simp
    refine hK.out _ _ ?_ (fun hHeld => ?_)
    ·exact (O3.of_block (heap9n _ _ _ (by omega) _ _ _ _ _ _ _ _ _)).cs
    clear hK K
    try simp only [Act.put, Ls]
    refine rdy 19 rfl (fun K hK => ?_)
    go_simp
    refine hK.out _ _ ?_ (fun hHeld => ?_)
    ·exact (O3.of_block (heap9n _ _ _ (by omega) _ _ _ _ _ _ _ _ _)).cs
    clear hK K
    try simp only [Act.put, Ls]
    refine wpAnyH_done (by kernel_rfl) ?_ _
    go_wp2
    refine bodyPost_ret (v := .tuple #[.agg #[.int .i64 fm, .bool ng, .slice a0 zs.length k0, .int .i64 T2, .bool n2, .bool b2, .bool p2, .bool m2, .bool false], .int .i64 0]) (by simp [results, Tryz.results53, go_sem, r0, r1, r2, r3, r4, r5, r6, r7, r8]) rfl ⟨a0, k0, rfl, ?_, ?_⟩
    ·refine Own.base (B := w3.heap.size) ?_ (by omega)
     repeat (first | with_reducible exact o3 | (with_reducible refine Own.setBelow ?_ ?_ _; rotate_left; focus (first | (simp; done) | (simp; omega))))
    ·exact (by (repeat with_reducible first | refine Below.setCell ?_ ?_ _ | exact bz0 _ _ | refine bz1 ?_ | refine bz2 ?_ _ | refine bz3 ?_ _ | refine bz4 ?_ bq3 | refine Below.alloc ?_ ?_ _ | refine Below.trans ?_ (Below.mono bq3 ?_)) <;> first | omega | (simp; done) | (simp; omega))
   | false =>
   cases ny with
   | true =>
    obtain ⟨c0, c1, c2, c3, c4, c5, c6, c7, c8⟩ := A.cs
    go_enter Tryz.func53, Tryz.ntmps53
    go_wp2_with fail
    refine (C1.out _ (hs.below bel0)).mono ?_
    rintro r w1 ⟨rfl, hb1⟩
    clear c0 c1 c2 c3 c4 c5 c6 c7 c8
    replace A := A.below hb1
    replace R := R.below hb1
    have bel1 := bel_go bel0 hb1
    go_wp2_with fail
    refine (C2.out _).mono ?_
    rintro r w2 ⟨rfl, hb2⟩
    go_wp2_with fail
    refine (C3.out _).mono ?_
    rintro r w3 ⟨rfl, hb3⟩
    replace A := (A.below hb2).below hb3
    replace R := (R.below hb2).below hb3
    have bel3 := bel_go (bel_go bel1 hb2) hb3
    clear hb1 hb2 hb3 bel1
    obtain ⟨c0, c1, c2, c3, c4, c5, c6, c7, c8⟩ := A.cs
    go_wp2_with fail
    refine (CC.out _ (hs.below bel3)).mono ?_
    rintro r w4 ⟨a0, k0, rfl, hp0, hb4⟩
    clear c0 c1 c2 c3 c4 c5 c6 c7 c8
    have lr := R.lt
    have z4 := hb4.size
    have hp0' := hp0.alloc (.cells #[.int .i64 fm, .bool ng, .slice a0 zs.length k0, .int .i64 T, .bool nn, .bool bd, .bool pl, .bool mi, .bool am] 50)
    replace R := (R.below hb4).alloc (.cells #[.int .i64 fm, .bool ng, .slice a0 zs.length k0, .int .i64 T, .bool nn, .bool bd, .bool pl, .bool mi, .bool am] 50)
    have O := Q9.new w4 (.int .i64 fm) (.bool ng) (.slice a0 zs.length k0) (.int .i64 T) (.bool nn) (.bool bd) (.bool pl) (.bool mi) (.bool am) 50
    have bel4 := bel_al (bel_go bel3 hb4) (.cells #[.int .i64 fm, .bool ng, .slice a0 zs.length k0, .int .i64 T, .bool nn, .bool bd, .bool pl, .bool mi, .bool am] 50)
    clear hp0 hb4 A
    go_wp2_with fail
    refine (CN1.out _).mono ?_
    rintro r w5 ⟨rfl, hb5⟩
    go_wp2_with fail
    refine (CN2.out _).mono ?_
    rintro r w6 ⟨rfl, hb6⟩
    go_wp2_with fail
    refine (CF1.out _).mono ?_
    rintro r w7 ⟨rfl, hb7⟩
    go_wp2_with fail
    refine (CF2.out _).mono ?_
    rintro r w8 ⟨rfl, hb8⟩
    replace R := (((R.below hb5).below hb6).below hb7).below hb8
    replace O := (((O.below hb5).below hb6).below hb7).below hb8
    replace hp0' := (((hp0'.below hb5).below hb6).below hb7).below hb8
    have belW := bel_go (bel_go (bel_go (bel_go bel4 hb5) hb6) hb7) hb8
    clear bel4 bel3 hb5 hb6 hb7 hb8
    have lO := O.lt
    go_wp2_with fail
    refine (CK1.out _).mono ?_
    rintro r w9 ⟨rfl, hb9⟩
    go_wp2_with fail
    refine (CK2.out _).mono ?_
    rintro r w10 ⟨rfl, hb10⟩
    go_wp2_with fail
    refine (CO.out _).mono ?_
    rintro r w11 ⟨rfl, hb11⟩
    replace R := ((R.below hb9).below hb10).below hb11
    replace O := ((O.below hb9).below hb10).below hb11
    replace hp0' := ((hp0'.below hb9).below hb10).below hb11
    have belX := bel_go (bel_go (bel_go belW hb9) hb10) hb11
    have Od := O.drew
    clear belW hb9 hb10 hb11
    go_wp2_with fail
    refine wp_region_held_drew (S := fun w' => (w'.cell? ⟨w4.heap.size, 0, none⟩ = some (.int .i64 fm) ∧ w'.cell? ⟨w4.heap.size, 1, none⟩ = some (.bool ng) ∧ w'.cell? ⟨w4.heap.size, 2, none⟩ = some (.slice a0 zs.length k0) ∧ w'.cell? ⟨w4.heap.size, 3, none⟩ = some (.int .i64 T) ∧ w'.cell? ⟨w4.heap.size, 4, none⟩ = some (.bool nn) ∧ w'.cell? ⟨w4.heap.size, 5, none⟩ = some (.bool bd) ∧ w'.cell? ⟨w4.heap.size, 6, none⟩ = some (.bool pl) ∧ w'.cell? ⟨w4.heap.size, 7, none⟩ = some (.bool mi) ∧ w'.cell? ⟨w4.heap.size, 8, none⟩ = some (.bool am))) (by kernel_rfl) ?_ (fun hHeld => ?_)
    ·exact Od.cs
    refine tk 0 ?_ rfl (Or.inl ⟨by rfl, ?_⟩) ?_
    rotate_left
    ·(intro w hSw; (try dsimp only at hSw); go_simp; try (with_reducible rfl))
    try simp only [Act.put, Ls]
    refine tk 1 ?_ rfl (Or.inl ⟨by rfl, ?_⟩) ?_
    rotate_left
    ·(intro w hSw; (try dsimp only at hSw); go_simp; try (with_reducible rfl))
    try simp only [Act.put, Ls]
    refine tk 2 ?_ rfl (Or.inl ⟨by rfl, ?_⟩) ?_
    rotate_left
    ·(intro w hSw; (try dsimp only at hSw); go_simp; try (with_reducible rfl))
    try simp only [Act.put, Ls]
    refine tk 12 ?_ rfl (Or.inl ⟨by rfl, ?_⟩) ?_
    rotate_left
    ·(intro w hSw; (try dsimp only at hSw); go_simp; try (with_reducible rfl))
    try simp only [Act.put, Ls]
    refine tk 16 ?_ rfl (Or.inl ⟨by rfl, ?_⟩) ?_
    rotate_left
    ·(intro w hSw; (try dsimp only at hSw); go_simp; try (with_reducible rfl))
    try simp only [Act.put, Ls]
    refine rdy 3 rfl (fun K hK => ?_)
    go_simp
    go_at_call 131; refine (CA1.out _).mono ?_; rintro r q1 ⟨rfl, hq1⟩
    have O1 := Od.below hq1
    have R1 := R.drew.below hq1
    have o1 := hp0'.drew.below hq1
    have bq1 := bel_go (Below.drew belX) hq1
    refine hK.out _ _ ?_ (fun hHeld => ?_)
    ·exact O1.cs
    clear hK K
    try simp only [Act.put, Ls]
    refine tk 4 ?_ rfl (Or.inl ⟨by rfl, ?_⟩) ?_
    rotate_left
    ·(intro w hSw; (try dsimp only at hSw); go_simp; try (with_reducible rfl))
    try simp only [Act.put, Ls]
    refine tk 5 ?_ rfl (Or.inl ⟨by rfl, ?_⟩) ?_
    rotate_left
    ·(intro w hSw; (try dsimp only at hSw); go_simp; try (with_reducible rfl))
    try simp only [Act.put, Ls]
    refine tk 6 ?_ rfl (Or.inl ⟨by rfl, ?_⟩) ?_
    rotate_left
    ·(intro w hSw; (try dsimp only at hSw); go_simp; try (with_reducible rfl))
    try simp only [Act.put, Ls]
    refine rdy 7 rfl (fun K hK => ?_)
    go_simp
    go_at_call 131; refine (CA2.out _).mono ?_; rintro r q2 ⟨rfl, hq2⟩
    have O2 := O1.below hq2
    have R2' := R1.below hq2
    have o2 := o1.below hq2
    have bq2 := bel_go bq1 hq2
    refine hK.out _ _ ?_ (fun hHeld => ?_)
    ·exact O2.cs
    clear hK K
    try simp only [Act.put, Ls]
    refine tk 8 ?_ rfl (Or.inl ⟨by rfl, ?_⟩) ?_
    rotate_left
    ·(intro w hSw; (try dsimp only at hSw); go_simp; try (with_reducible rfl))
    try simp only [Act.put, Ls]
    refine tk 9 ?_ rfl (Or.inl ⟨by rfl, ?_⟩) ?_
    rotate_left
    ·(intro w hSw; (try dsimp only at hSw); go_simp; try (with_reducible rfl))
    try simp only [Act.put, Ls]
    refine tk 10 undef rfl (Or.inr ⟨by rfl, rfl⟩) ?_
    try simp only [Act.put, Ls]
    refine tk 11 ?_ rfl (Or.inl ⟨by rfl, ?_⟩) ?_
    rotate_left
    ·(intro w hSw; (try dsimp only at hSw); go_simp; try (with_reducible rfl))
    try simp only [Act.put, Ls]
    refine tk 13 ?_ rfl (Or.inl ⟨by rfl, ?_⟩) ?_
    rotate_left
    ·(intro w hSw; (try dsimp only at hSw); go_simp; try (with_reducible rfl))
    try simp only [Act.put, Ls]
    refine tk 14 undef rfl (Or.inr ⟨by rfl, rfl⟩) ?_
    try simp only [Act.put, Ls]
    refine tk 15 ?_ rfl (Or.inl ⟨by rfl, ?_⟩) ?_
    rotate_left
    ·(intro w hSw; (try dsimp only at hSw); go_simp; try (with_reducible rfl))
    try simp only [Act.put, Ls]
    refine rdy 17 rfl (fun K hK => ?_)
    go_simp
    go_at_call 130; refine (C7.out true true a0 k0 _ (by simp) (by simp)).mono ?_; rintro r q3 ⟨rfl, hq3⟩
    have O3 := O2.below hq3
    have R3' := R2'.below hq3
    have o3 := o2.below hq3
    have bq3 := bel_go bq2 hq3
    refine hK.out _ _ ?_ (fun hHeld => ?_)
    ·exact O3.cs
    clear hK K
    try simp only [Act.put, Ls]
    refine rdy 18 rfl (fun K hK => ?_)
    obtain ⟨r0, r1, r2, r3, r4, r5, r6, r7, r8, g0, g1, g2, g3, g4, g5, g6, g7, g8⟩ := R3'
    go_simp
    refine hK.out _ _ ?_ (fun hHeld => ?_)
    ·exact (O3.of_block (heap9n _ _ _ (by omega) _ _ _ _ _ _ _ _ _)).cs
    clear hK K
    try simp only [Act.put, Ls]
    refine rdy 19 rfl (fun K hK => ?_)
    go_simp
    refine hK.out _ _ ?_ (fun hHeld => ?_)
    ·exact (O3.of_block (heap9n _ _ _ (by omega) _ _ _ _ _ _ _ _ _)).cs
    clear hK K
    try simp only [Act.put, Ls]
    refine wpAnyH_done (by kernel_rfl) ?_ _
    go_wp2
    refine bodyPost_ret (v := .tuple #[.agg #[.int .i64 fm, .bool ng, .slice a0 zs.length k0, .int .i64 T2, .bool n2, .bool b2, .bool p2, .bool m2, .bool false], .int .i64 0]) (by simp [results, Tryz.results53, go_sem, r0, r1, r2, r3, r4, r5, r6, r7, r8]) rfl ⟨a0, k0, rfl, ?_, ?_⟩
    ·refine Own.base (B := w3.heap.size) ?_ (by omega)
     repeat (first | with_reducible exact o3 | (with_reducible refine Own.setBelow ?_ ?_ _; rotate_left; focus (first | (simp; done) | (simp; omega))))
    ·exact (by (repeat with_reducible first | refine Below.setCell ?_ ?_ _ | exact bz0 _ _ | refine bz1 ?_ | refine bz2 ?_ _ | refine bz3 ?_ _ | refine bz4 ?_ bq3 | refine Below.alloc ?_ ?_ _ | refine Below.trans ?_ (Below.mono bq3 ?_)) <;> first | omega | (simp; done) | (simp; omega))
   | false =>
    obtain ⟨c0, c1, c2, c3, c4, c5, c6, c7, c8⟩ := A.cs
    go_enter Tryz.func53, Tryz.ntmps53
    go_wp2_with fail
    refine (C1.out _ (hs.below bel0)).mono ?_
    rintro r w1 ⟨rfl, hb1⟩
    clear c0 c1 c2 c3 c4 c5 c6 c7 c8
    replace A := A.below hb1
    replace R := R.below hb1
    have bel1 := bel_go bel0 hb1
    go_wp2_with fail
    refine (C2.out _).mono ?_
    rintro r w2 ⟨rfl, hb2⟩
    go_wp2_with fail
    refine (C3.out _).mono ?_
    rintro r w3 ⟨rfl, hb3⟩
    replace A := (A.below hb2).below hb3
    replace R := (R.below hb2).below hb3
    have bel3 := bel_go (bel_go bel1 hb2) hb3
    clear hb1 hb2 hb3 bel1
    obtain ⟨c0, c1, c2, c3, c4, c5, c6, c7, c8⟩ := A.cs
    go_wp2_with fail
    refine (CC.out _ (hs.below bel3)).mono ?_
    rintro r w4 ⟨a0, k0, rfl, hp0, hb4⟩
    clear c0 c1 c2 c3 c4 c5 c6 c7 c8
    have lr := R.lt
    have z4 := hb4.size
    have hp0' := hp0.alloc (.cells #[.int .i64 fm, .bool ng, .slice a0 zs.length k0, .int .i64 T, .bool nn, .bool bd, .bool pl, .bool mi, .bool am] 50)
    replace R := (R.below hb4).alloc (.cells #[.int .i64 fm, .bool ng, .slice a0 zs.length k0, .int .i64 T, .bool nn, .bool bd, .bool pl, .bool mi, .bool am] 50)
    have O := Q9.new w4 (.int .i64 fm) (.bool ng) (.slice a0 zs.length k0) (.int .i64 T) (.bool nn) (.bool bd) (.bool pl) (.bool mi) (.bool am) 50
    have bel4 := bel_al (bel_go bel3 hb4) (.cells #[.int .i64 fm, .bool ng, .slice a0 zs.length k0, .int .i64 T, .bool nn, .bool bd, .bool pl, .bool mi, .bool am] 50)
    clear hp0 hb4 A
    go_wp2_with fail
    refine (CN1.out _).mono ?_
    rintro r w5 ⟨rfl, hb5⟩
    go_wp2_with fail
    refine (CN2.out _).mono ?_
    rintro r w6 ⟨rfl, hb6⟩
    go_wp2_with fail
    refine (CF1.out _).mono ?_
    rintro r w7 ⟨rfl, hb7⟩
    go_wp2_with fail
    refine (CF2.out _).mono ?_
    rintro r w8 ⟨rfl, hb8⟩
    replace R := (((R.below hb5).below hb6).below hb7).below hb8
    replace O := (((O.below hb5).below hb6).below hb7).below hb8
    replace hp0' := (((hp0'.below hb5).below hb6).below hb7).below hb8
    have belW := bel_go (bel_go (bel_go (bel_go bel4 hb5) hb6) hb7) hb8
    clear bel4 bel3 hb5 hb6 hb7 hb8
    have lO := O.lt
    go_wp2_with fail
    refine (CK1.out _).mono ?_
    rintro r w9 ⟨rfl, hb9⟩
    go_wp2_with fail
    refine (CK2.out _).mono ?_
    rintro r w10 ⟨rfl, hb10⟩
    go_wp2_with fail
    refine (CO.out _).mono ?_
    rintro r w11 ⟨rfl, hb11⟩
    replace R := ((R.below hb9).below hb10).below hb11
    replace O := ((O.below hb9).below hb10).below hb11
    replace hp0' := ((hp0'.below hb9).below hb10).below hb11
    have belX := bel_go (bel_go (bel_go belW hb9) hb10) hb11
    have Od := O.drew
    clear belW hb9 hb10 hb11
    go_wp2_with fail
    refine wp_region_held_drew (S := fun w' => (w'.cell? ⟨w4.heap.size, 0, none⟩ = some (.int .i64 fm) ∧ w'.cell? ⟨w4.heap.size, 1, none⟩ = some (.bool ng) ∧ w'.cell? ⟨w4.heap.size, 2, none⟩ = some (.slice a0 zs.length k0) ∧ w'.cell? ⟨w4.heap.size, 3, none⟩ = some (.int .i64 T) ∧ w'.cell? ⟨w4.heap.size, 4, none⟩ = some (.bool nn) ∧ w'.cell? ⟨w4.heap.size, 5, none⟩ = some (.bool bd) ∧ w'.cell? ⟨w4.heap.size, 6, none⟩ = some (.bool pl) ∧ w'.cell? ⟨w4.heap.size, 7, none⟩ = some (.bool mi) ∧ w'.cell? ⟨w4.heap.size, 8, none⟩ = some (.bool am))) (by kernel_rfl) ?_ (fun hHeld => ?_)
    ·exact Od.cs
    refine tk 0 ?_ rfl (Or.inl ⟨by rfl, ?_⟩) ?_
    rotate_left
    ·(intro w hSw; (try dsimp only at hSw); go_simp; try (with_reducible rfl))
    try simp only [Act.put, Ls]
    refine tk 1 ?_ rfl (Or.inl ⟨by rfl, ?_⟩) ?_
    rotate_left
    ·(intro w hSw; (try dsimp only at hSw); go_simp; try (with_reducible rfl))
    try simp only [Act.put, Ls]
    refine tk 2 ?_ rfl (Or.inl ⟨by rfl, ?_⟩) ?_
    rotate_left
    ·(intro w hSw; (try dsimp only at hSw); go_simp; try (with_reducible rfl))
    try simp only [Act.put, Ls]
    refine tk 12 ?_ rfl (Or.inl ⟨by rfl, ?_⟩) ?_
    rotate_left
    ·(intro w hSw; (try dsimp only at hSw); go_simp; try (with_reducible rfl))
    try simp only [Act.put, Ls]
    refine tk 16 ?_ rfl (Or.inl ⟨by rfl, ?_⟩) ?_
    rotate_left
    ·(intro w hSw; (try dsimp only at hSw); go_simp; try (with_reducible rfl))
    try simp only [Act.put, Ls]
    refine rdy 3 rfl (fun K hK => ?_)
    go_simp
    go_at_call 131; refine (CA1.out _).mono ?_; rintro r q1 ⟨rfl, hq1⟩
    have O1 := Od.below hq1
    have R1 := R.drew.below hq1
    have o1 := hp0'.drew.below hq1
    have bq1 := bel_go (Below.drew belX) hq1
    refine hK.out _ _ ?_ (fun hHeld => ?_)
    ·exact O1.cs
    clear hK K
    try simp only [Act.put, Ls]
    refine tk 4 ?_ rfl (Or.inl ⟨by rfl, ?_⟩) ?_
    rotate_left
    ·(intro w hSw; (try dsimp only at hSw); go_simp; try (with_reducible rfl))
    try simp only [Act.put, Ls]
    refine tk 5 ?_ rfl (Or.inl ⟨by rfl, ?_⟩) ?_
    rotate_left
    ·(intro w hSw; (try dsimp only at hSw); go_simp; try (with_reducible rfl))
    try simp only [Act.put, Ls]
    refine tk 6 ?_ rfl (Or.inl ⟨by rfl, ?_⟩) ?_
    rotate_left
    ·(intro w hSw; (try dsimp only at hSw); go_simp; try (with_reducible rfl))
    try simp only [Act.put, Ls]
    refine rdy 7 rfl (fun K hK => ?_)
    go_simp
    go_at_call 131; refine (CA2.out _).mono ?_; rintro r q2 ⟨rfl, hq2⟩
    have O2 := O1.below hq2
    have R2' := R1.below hq2
    have o2 := o1.below hq2
    have bq2 := bel_go bq1 hq2
    refine hK.out _ _ ?_ (fun hHeld => ?_)
    ·exact O2.cs
    clear hK K
    try simp only [Act.put, Ls]
    refine tk 8 ?_ rfl (Or.inl ⟨by rfl, ?_⟩) ?_
    rotate_left
    ·(intro w hSw; (try dsimp only at hSw); go_simp; try (with_reducible rfl))
    try simp only [Act.put, Ls]
    refine tk 9 ?_ rfl (Or.inl ⟨by rfl, ?_⟩) ?_
    rotate_left
    ·(intro w hSw; (try dsimp only at hSw); go_simp; try (with_reducible rfl))
    try simp only [Act.put, Ls]
    refine tk 10 ?_ rfl (Or.inl ⟨by rfl, ?_⟩) ?_
    rotate_left
    ·(intro w hSw; (try dsimp only at hSw); go_simp; try (with_reducible rfl))
    try simp only [Act.put, Ls]
    refine tk 11 ?_ rfl (Or.inl ⟨by rfl, ?_⟩) ?_
    rotate_left
    ·(intro w hSw; (try dsimp only at hSw); go_simp; try (with_reducible rfl))
    try simp only [Act.put, Ls]
    refine tk 13 ?_ rfl (Or.inl ⟨by rfl, ?_⟩) ?_
    rotate_left
    ·(intro w hSw; (try dsimp only at hSw); go_simp; try (with_reducible rfl))
    try simp only [Act.put, Ls]
    refine tk 14 undef rfl (Or.inr ⟨by rfl, rfl⟩) ?_
    try simp only [Act.put, Ls]
    refine tk 15 ?_ rfl (Or.inl ⟨by rfl, ?_⟩) ?_
    rotate_left
    ·(intro w hSw; (try dsimp only at hSw); go_simp; try (with_reducible rfl))
    try simp only [Act.put, Ls]
    refine rdy 17 rfl (fun K hK => ?_)
    go_simp
    go_at_call 130; refine (C7.out od true a0 k0 _ (by simp) (by simp)).mono ?_; rintro r q3 ⟨rfl, hq3⟩
    have O3 := O2.below hq3
    have R3' := R2'.below hq3
    have o3 := o2.below hq3
    have bq3 := bel_go bq2 hq3
    refine hK.out _ _ ?_ (fun hHeld => ?_)
    ·exact O3.cs
    clear hK K
    try simp only [Act.put, Ls]
    refine rdy 18 rfl (fun K hK => ?_)
    obtain ⟨r0, r1, r2, r3, r4, r5, r6, r7, r8, g0, g1, g2, g3, g4, g5, g6, g7, g8⟩ := R3'
    go_simp
    refine hK.out _ _ ?_ (fun hHeld => ?_)
    ·exact (O3.of_block (heap9n _ _ _ (by omega) _ _ _ _ _ _ _ _ _)).cs
    clear hK K
    try simp only [Act.put, Ls]
    refine rdy 19 rfl (fun K hK => ?_)
    go_simp
    refine hK.out _ _ ?_ (fun hHeld => ?_)
    ·exact (O3.of_block (heap9n _ _ _ (by omega) _ _ _ _ _ _ _ _ _)).cs
    clear hK K
    try simp only [Act.put, Ls]
    refine wpAnyH_done (by kernel_rfl) ?_ _
    go_wp2
    refine bodyPost_ret (v := .tuple #[.agg #[.int .i64 fm, .bool ng, .slice a0 zs.length k0, .int .i64 T2, .bool n2, .bool b2, .bool p2, .bool m2, .bool false], .int .i64 0]) (by simp [results, Tryz.results53, go_sem, r0, r1, r2, r3, r4, r5, r6, r7, r8]) rfl ⟨a0, k0, rfl, ?_, ?_⟩
    ·refine Own.base (B := w3.heap.size) ?_ (by omega)
     repeat (first | with_reducible exact o3 | (with_reducible refine Own.setBelow ?_ ?_ _; rotate_left; focus (first | (simp; done) | (simp; omega))))
    ·exact (by (repeat with_reducible first | refine Below.setCell ?_ ?_ _ | exact bz0 _ _ | refine bz1 ?_ | refine bz2 ?_ _ | refine bz3 ?_ _ | refine bz4 ?_ bq3 | refine Below.alloc ?_ ?_ _ | refine Below.trans ?_ (Below.mono bq3 ?_)) <;> first | omega | (simp; done) | (simp; omega))
  | false =>
   cases nx with
   | true =>
    obtain ⟨c0, c1, c2, c3, c4, c5, c6, c7, c8⟩ := A.cs
    go_enter Tryz.func53, Tryz.ntmps53
    go_wp2_with fail
    refine (C1.out _ (hs.below bel0)).mono ?_
    rintro r w1 ⟨rfl, hb1⟩
    clear c0 c1 c2 c3 c4 c5 c6 c7 c8
    replace A := A.below hb1
    replace R := R.below hb1
    have bel1 := bel_go bel0 hb1
    go_wp2_with fail
    refine (C2.out _).mono ?_
    rintro r w2 ⟨rfl, hb2⟩
    go_wp2_with fail
    refine (C3.out _).mono ?_
    rintro r w3 ⟨rfl, hb3⟩
    replace A := (A.below hb2).below hb3
    replace R := (R.below hb2).below hb3
    have bel3 := bel_go (bel_go bel1 hb2) hb3
    clear hb1 hb2 hb3 bel1
    obtain ⟨c0, c1, c2, c3, c4, c5, c6, c7, c8⟩ := A.cs
    go_wp2_with fail
    refine (CC.out _ (hs.below bel3)).mono ?_
    rintro r w4 ⟨a0, k0, rfl, hp0, hb4⟩
    clear c0 c1 c2 c3 c4 c5 c6 c7 c8
    have lr := R.lt
    have z4 := hb4.size
    have hp0' := hp0.alloc (.cells #[.int .i64 fm, .bool ng, .slice a0 zs.length k0, .int .i64 T, .bool nn, .bool bd, .bool pl, .bool mi, .bool am] 50)
    replace R := (R.below hb4).alloc (.cells #[.int .i64 fm, .bool ng, .slice a0 zs.length k0, .int .i64 T, .bool nn, .bool bd, .bool pl, .bool mi, .bool am] 50)
    have O := Q9.new w4 (.int .i64 fm) (.bool ng) (.slice a0 zs.length k0) (.int .i64 T) (.bool nn) (.bool bd) (.bool pl) (.bool mi) (.bool am) 50
    have bel4 := bel_al (bel_go bel3 hb4) (.cells #[.int .i64 fm, .bool ng, .slice a0 zs.length k0, .int .i64 T, .bool nn, .bool bd, .bool pl, .bool mi, .bool am] 50)
    clear hp0 hb4 A
    go_wp2_with fail
    refine (CN1.out _).mono ?_
    rintro r w5 ⟨rfl, hb5⟩
    go_wp2_with fail
    refine (CN2.out _).mono ?_
    rintro r w6 ⟨rfl, hb6⟩
    go_wp2_with fail
    refine (CF1.out _).mono ?_
    rintro r w7 ⟨rfl, hb7⟩
    go_wp2_with fail
    refine (CF2.out _).mono ?_
    rintro r w8 ⟨rfl, hb8⟩
    replace R := (((R.below hb5).below hb6).below hb7).below hb8
    replace O := (((O.below hb5).below hb6).below hb7).below hb8
    replace hp0' := (((hp0'.below hb5).below hb6).below hb7).below hb8
    have belW := bel_go (bel_go (bel_go (bel_go bel4 hb5) hb6) hb7) hb8
    clear bel4 bel3 hb5 hb6 hb7 hb8
    have lO := O.lt
    go_wp2_with fail
    refine (CK1.out _).mono ?_
    rintro r w9 ⟨rfl, hb9⟩
    go_wp2_with fail
    refine (CK2.out _).mono ?_
    rintro r w10 ⟨rfl, hb10⟩
    go_wp2_with fail
    refine (CO.out _).mono ?_
    rintro r w11 ⟨rfl, hb11⟩
    replace R := ((R.below hb9).below hb10).below hb11
    replace O := ((O.below hb9).below hb10).below hb11
    replace hp0' := ((hp0'.below hb9).below hb10).below hb11
    have belX := bel_go (bel_go (bel_go belW hb9) hb10) hb11
    have Od := O.drew
    clear belW hb9 hb10 hb11
    go_wp2_with fail
    refine wp_region_held_drew (S := fun w' => (w'.cell? ⟨w4.heap.size, 0, none⟩ = some (.int .i64 fm) ∧ w'.cell? ⟨w4.heap.size, 1, none⟩ = some (.bool ng) ∧ w'.cell? ⟨w4.heap.size, 2, none⟩ = some (.slice a0 zs.length k0) ∧ w'.cell? ⟨w4.heap.size, 3, none⟩ = some (.int .i64 T) ∧ w'.cell? ⟨w4.heap.size, 4, none⟩ = some (.bool nn) ∧ w'.cell? ⟨w4.heap.size, 5, none⟩ = some (.bool bd) ∧ w'.cell? ⟨w4.heap.size, 6, none⟩ = some (.bool pl) ∧ w'.cell? ⟨w4.heap.size, 7, none⟩ = some (.bool mi) ∧ w'.cell? ⟨w4.heap.size, 8, none⟩ = some (.bool am))) (by kernel_rfl) ?_ (fun hHeld => ?_)
    ·exact Od.cs
    refine tk 0 ?_ rfl (Or.inl ⟨by rfl, ?_⟩) ?_
    rotate_left
    ·(intro w hSw; (try dsimp only at hSw); go_simp; try (with_reducible rfl))
    try simp only [Act.put, Ls]
    refine tk 1 ?_ rfl (Or.inl ⟨by rfl, ?_⟩) ?_
    rotate_left
    ·(intro w hSw; (try dsimp only at hSw); go_simp; try (with_reducible rfl))
    try simp only [Act.put, Ls]
    refine tk 2 ?_ rfl (Or.inl ⟨by rfl, ?_⟩) ?_
    rotate_left
    ·(intro w hSw; (try dsimp only at hSw); go_simp; try (with_reducible rfl))
    try simp only [Act.put, Ls]
    refine tk 12 ?_ rfl (Or.inl ⟨by rfl, ?_⟩) ?_
    rotate_left
    ·(intro w hSw; (try dsimp only at hSw); go_simp; try (with_reducible rfl))
    try simp only [Act.put, Ls]
    refine tk 16 ?_ rfl (Or.inl ⟨by rfl, ?_⟩) ?_
    rotate_left
    ·(intro w hSw; (try dsimp only at hSw); go_simp; try (with_reducible rfl))
    try simp only [Act.put, Ls]
    refine rdy 3 rfl (fun K hK => ?_)
    go_simp
    go_at_call 131; refine (CA1.out _).mono ?_; rintro r q1 ⟨rfl, hq1⟩
    have O1 := Od.below hq1
    have R1 := R.drew.below hq1
    have o1 := hp0'.drew.below hq1
    have bq1 := bel_go (Below.drew belX) hq1
    refine hK.out _ _ ?_ (fun hHeld => ?_)
    ·exact O1.cs
    clear hK K
    try simp only [Act.put, Ls]
    refine tk 4 ?_ rfl (Or.inl ⟨by rfl, ?_⟩) ?_
    rotate_left
    ·(intro w hSw; (try dsimp only at hSw); go_simp; try (with_reducible rfl))
    try simp only [Act.put, Ls]
    refine tk 5 undef rfl (Or.inr ⟨by rfl, rfl⟩) ?_
    try simp only [Act.put, Ls]
    refine tk 6 undef rfl (Or.inr ⟨by rfl, rfl⟩) ?_
    try simp only [Act.put, Ls]
    refine tk 7 undef rfl (Or.inr ⟨by rfl, rfl⟩) ?_
    try simp only [Act.put, Ls]
    have O2 := O1
    have R2' := R1
    have o2 := o1
    have bq2 := bq1
    refine tk 8 ?_ rfl (Or.inl ⟨by rfl, ?_⟩) ?_
    rotate_left
    ·(intro w hSw; (try dsimp only at hSw); go_simp; try (with_reducible rfl))
    try simp only [Act.put, Ls]
    refine tk 9 ?_ rfl (Or.inl ⟨by rfl, ?_⟩) ?_
    rotate_left
    ·(intro w hSw; (try dsimp only at hSw); go_simp; try (with_reducible rfl))
    try simp only [Act.put, Ls]
    refine tk 10 undef rfl (Or.inr ⟨by rfl, rfl⟩) ?_
    try simp only [Act.put, Ls]
    refine tk 11 ?_ rfl (Or.inl ⟨by rfl, ?_⟩) ?_
    rotate_left
    ·(intro w hSw; (try dsimp only at hSw); go_simp; try (with_reducible rfl))
    try simp only [Act.put, Ls]
    refine tk 13 ?_ rfl (Or.inl ⟨by rfl, ?_⟩) ?_
    rotate_left
    ·(intro w hSw; (try dsimp only at hSw); go_simp; try (with_reducible rfl))
    try simp only [Act.put, Ls]
    refine tk 14 ?_ rfl (Or.inl ⟨by rfl, ?_⟩) ?_
    rotate_left
    ·(intro w hSw; (try dsimp only at hSw); go_simp; try (with_reducible rfl))
    try simp only [Act.put, Ls]
    refine tk 15 ?_ rfl (Or.inl ⟨by rfl, ?_⟩) ?_
    rotate_left
    ·(intro w hSw; (try dsimp only at hSw); go_simp; try (with_reducible rfl))
    try simp only [Act.put, Ls]
    refine rdy 17 rfl (fun K hK => ?_)
    go_simp
    go_at_call 130; refine (C7.out true od a0 k0 _ (by simp) (by simp)).mono ?_; rintro r q3 ⟨rfl, hq3⟩
    have O3 := O2.below hq3
    have R3' := R2'.below hq3
    have o3 := o2.below hq3
    have bq3 := bel_go bq2 hq3
    refine hK.out _ _ ?_ (fun hHeld => ?_)
    ·exact O3.cs
    clear hK K
    try simp only [Act.put, Ls]
    refine rdy 18 rfl (fun K hK => ?_)
    obtain ⟨r0, r1, r2, r3, r4, r5, r6, r7, r8, g0, g1, g2, g3, g4, g5, g6, g7, g8⟩ := R3'
    go_simp
    refine hK.out _ _ ?_ (fun hHeld => ?_)
    ·exact (O3.of_block (heap9n _ _ _ (by omega) _ _ _ _ _ _ _ _ _)).cs
    clear hK K
    try simp only [Act.put, Ls]
    refine rdy 19 rfl (fun K hK => ?_)
    go_simp
    refine hK.out _ _ ?_ (fun hHeld => ?_)
    ·exact (O3.of_block (heap9n _ _ _ (by omega) _ _ _ _ _ _ _ _ _)).cs
    clear hK K
    try simp only [Act.put, Ls]
    refine wpAnyH_done (by kernel_rfl) ?_ _
    go_wp2
    refine bodyPost_ret (v := .tuple #[.agg #[.int .i64 fm, .bool ng, .slice a0 zs.length k0, .int .i64 T2, .bool n2, .bool b2, .bool p2, .bool m2, .bool false], .int .i64 0]) (by simp [results, Tryz.results53, go_sem, r0, r1, r2, r3, r4, r5, r6, r7, r8]) rfl ⟨a0, k0, rfl, ?_, ?_⟩
    ·refine Own.base (B := w3.heap.size) ?_ (by omega)
     repeat (first | with_reducible exact o3 | (with_reducible refine Own.setBelow ?_ ?_ _; rotate_left; focus (first | (simp; done) | (simp; omega))))
    ·exact (by (repeat with_reducible first | refine Below.setCell ?_ ?_ _ | exact bz0 _ _ | refine bz1 ?_ | refine bz2 ?_ _ | refine bz3 ?_ _ | refine bz4 ?_ bq3 | refine Below.alloc ?_ ?_ _ | refine Below.trans ?_ (Below.mono bq3 ?_)) <;> first | omega | (simp; done) | (simp; omega))
   | false =>
   cases ny with
   | true =>
    obtain ⟨c0, c1, c2, c3, c4, c5, c6, c7, c8⟩ := A.cs
    go_enter Tryz.func53, Tryz.ntmps53
    go_wp2_with fail
    refine (C1.out _ (hs.below bel0)).mono ?_
    rintro r w1 ⟨rfl, hb1⟩
    clear c0 c1 c2 c3 c4 c5 c6 c7 c8
    replace A := A.below hb1
    replace R := R.below hb1
    have bel1 := bel_go bel0 hb1
    go_wp2_with fail
    refine (C2.out _).mono ?_
    rintro r w2 ⟨rfl, hb2⟩
    go_wp2_with fail
    refine (C3.out _).mono ?_
    rintro r w3 ⟨rfl, hb3⟩
    replace A := (A.below hb2).below hb3
    replace R := (R.below hb2).below hb3
    have bel3 := bel_go (bel_go bel1 hb2) hb3
    clear hb1 hb2 hb3 bel1
    obtain ⟨c0, c1, c2, c3, c4, c5, c6, c7, c8⟩ := A.cs
    go_wp2_with fail
    refine (CC.out _ (hs.below bel3)).mono ?_
    rintro r w4 ⟨a0, k0, rfl, hp0, hb4⟩
    clear c0 c1 c2 c3 c4 c5 c6 c7 c8
    have lr := R.lt
    have z4 := hb4.size
    have hp0' := hp0.alloc (.cells #[.int .i64 fm, .bool ng, .slice a0 zs.length k0, .int .i64 T, .bool nn, .bool bd, .bool pl, .bool mi, .bool am] 50)
    replace R := (R.below hb4).alloc (.cells #[.int .i64 fm, .bool ng, .slice a0 zs.length k0, .int .i64 T, .bool nn, .bool bd, .bool pl, .bool mi, .bool am] 50)
    have O := Q9.new w4 (.int .i64 fm) (.bool ng) (.slice a0 zs.length k0) (.int .i64 T) (.bool nn) (.bool bd) (.bool pl) (.bool mi) (.bool am) 50
    have bel4 := bel_al (bel_go bel3 hb4) (.cells #[.int .i64 fm, .bool ng, .slice a0 zs.length k0, .int .i64 T, .bool nn, .bool bd, .bool pl, .bool mi, .bool am] 50)
    clear hp0 hb4 A
    go_wp2_with fail
    refine (CN1.out _).mono ?_
    rintro r w5 ⟨rfl, hb5⟩
    go_wp2_with fail
    refine (CN2.out _).mono ?_
    rintro r w6 ⟨rfl, hb6⟩
    go_wp2_with fail
    refine (CF1.out _).mono ?_
    rintro r w7 ⟨rfl, hb7⟩
    go_wp2_with fail
    refine (CF2.out _).mono ?_
    rintro r w8 ⟨rfl, hb8⟩
    replace R := (((R.below hb5).below hb6).below hb7).below hb8
    replace O := (((O.below hb5).below hb6).below hb7).below hb8
    replace hp0' := (((hp0'.below hb5).below hb6).below hb7).below hb8
    have belW := bel_go (bel_go (bel_go (bel_go bel4 hb5) hb6) hb7) hb8
    clear bel4 bel3 hb5 hb6 hb7 hb8
    have lO := O.lt
    go_wp2_with fail
    refine (CK1.out _).mono ?_
    rintro r w9 ⟨rfl, hb9⟩
    go_wp2_with fail
    refine (CK2.out _).mono ?_
    rintro r w10 ⟨rfl, hb10⟩
    go_wp2_with fail
    refine (CO.out _).mono ?_
    rintro r w11 ⟨rfl, hb11⟩
    replace R := ((R.below hb9).below hb10).below hb11
    replace O := ((O.below hb9).below hb10).below hb11
    replace hp0' := ((hp0'.below hb9).below hb10).below hb11
    have belX := bel_go (bel_go (bel_go belW hb9) hb10) hb11
    have Od := O.drew
    clear belW hb9 hb10 hb11
    go_wp2_with fail
    refine wp_region_held_drew (S := fun w' => (w'.cell? ⟨w4.heap.size, 0, none⟩ = some (.int .i64 fm) ∧ w'.cell? ⟨w4.heap.size, 1, none⟩ = some (.bool ng) ∧ w'.cell? ⟨w4.heap.size, 2, none⟩ = some (.slice a0 zs.length k0) ∧ w'.cell? ⟨w4.heap.size, 3, none⟩ = some (.int .i64 T) ∧ w'.cell? ⟨w4.heap.size, 4, none⟩ = some (.bool nn) ∧ w'.cell? ⟨w4.heap.size, 5, none⟩ = some (.bool bd) ∧ w'.cell? ⟨w4.heap.size, 6, none⟩ = some (.bool pl) ∧ w'.cell? ⟨w4.heap.size, 7, none⟩ = some (.bool mi) ∧ w'.cell? ⟨w4.heap.size, 8, none⟩ = some (.bool am))) (by kernel_rfl) ?_ (fun hHeld => ?_)
    ·exact Od.cs
    refine tk 0 ?_ rfl (Or.inl ⟨by rfl, ?_⟩) ?_
    rotate_left
    ·(intro w hSw; (try dsimp only at hSw); go_simp; try (with_reducible rfl))
    try simp only [Act.put, Ls]
    refine tk 1 ?_ rfl (Or.inl ⟨by rfl, ?_⟩) ?_
    rotate_left
    ·(intro w hSw; (try dsimp only at hSw); go_simp; try (with_reducible rfl))
    try simp only [Act.put, Ls]
    refine tk 2 ?_ rfl (Or.inl ⟨by rfl, ?_⟩) ?_
    rotate_left
    ·(intro w hSw; (try dsimp only at hSw); go_simp; try (with_reducible rfl))
    try simp only [Act.put, Ls]
    refine tk 12 ?_ rfl (Or.inl ⟨by rfl, ?_⟩) ?_
    rotate_left
    ·(intro w hSw; (try dsimp only at hSw); go_simp; try (with_reducible rfl))
    try simp only [Act.put, Ls]
    refine tk 16 ?_ rfl (Or.inl ⟨by rfl, ?_⟩) ?_
    rotate_left
    ·(intro w hSw; (try dsimp only at hSw); go_simp; try (with_reducible rfl))
    try simp only [Act.put, Ls]
    refine rdy 3 rfl (fun K hK => ?_)
    go_simp
    go_at_call 131; refine (CA1.out _).mono ?_; rintro r q1 ⟨rfl, hq1⟩
    have O1 := Od.below hq1
    have R1 := R.drew.below hq1
    have o1 := hp0'.drew.below hq1
    have bq1 := bel_go (Below.drew belX) hq1
    refine hK.out _ _ ?_ (fun hHeld => ?_)
    ·exact O1.cs
    clear hK K
    try simp only [Act.put, Ls]
    refine tk 4 ?_ rfl (Or.inl ⟨by rfl, ?_⟩) ?_
    rotate_left
    ·(intro w hSw; (try dsimp only at hSw); go_simp; try (with_reducible rfl))
    try simp only [Act.put, Ls]
    refine tk 5 ?_ rfl (Or.inl ⟨by rfl, ?_⟩) ?_
    rotate_left
    ·(intro w hSw; (try dsimp only at hSw); go_simp; try (with_reducible rfl))
    try simp only [Act.put, Ls]
    refine tk 6 ?_ rfl (Or.inl ⟨by rfl, ?_⟩) ?_
    rotate_left
    ·(intro w hSw; (try dsimp only at hSw); go_simp; try (with_reducible rfl))
    try simp only [Act.put, Ls]
    refine rdy 7 rfl (fun K hK => ?_)
    go_simp
    go_at_call 131; refine (CA2.out _).mono ?_; rintro r q2 ⟨rfl, hq2⟩
    have O2 := O1.below hq2
    have R2' := R1.below hq2
    have o2 := o1.below hq2
    have bq2 := bel_go bq1 hq2
    refine hK.out _ _ ?_ (fun hHeld => ?_)
    ·exact O2.cs
    clear hK K
    try simp only [Act.put, Ls]
    refine tk 8 ?_ rfl (Or.inl ⟨by rfl, ?_⟩) ?_
    rotate_left
    ·(intro w hSw; (try dsimp only at hSw); go_simp; try (with_reducible rfl))
    try simp only [Act.put, Ls]
    refine tk 9 ?_ rfl (Or.inl ⟨by rfl, ?_⟩) ?_
    rotate_left
    ·(intro w hSw; (try dsimp only at hSw); go_simp; try (with_reducible rfl))
    try simp only [Act.put, Ls]
    refine tk 10 undef rfl (Or.inr ⟨by rfl, rfl⟩) ?_
    try simp only [Act.put, Ls]
    refine tk 11 ?_ rfl (Or.inl ⟨by rfl, ?_⟩) ?_
    rotate_left
    ·(intro w hSw; (try dsimp only at hSw); go_simp; try (with_reducible rfl))
    try simp only [Act.put, Ls]
    refine tk 13 ?_ rfl (Or.inl ⟨by rfl, ?_⟩) ?_
    rotate_left
    ·(intro w hSw; (try dsimp only at hSw); go_simp; try (with_reducible rfl))
    try simp only [Act.put, Ls]
    refine tk 14 ?_ rfl (Or.inl ⟨by rfl, ?_⟩) ?_
    rotate_left
    ·(intro w hSw; (try dsimp only at hSw); go_simp; try (with_reducible rfl))
    try simp only [Act.put, Ls]
    refine tk 15 ?_ rfl (Or.inl ⟨by rfl, ?_⟩) ?_
    rotate_left
    ·(intro w hSw; (try dsimp only at hSw); go_simp; try (with_reducible rfl))
    try simp only [Act.put, Ls]
    refine rdy 17 rfl (fun K hK => ?_)
    go_simp
    go_at_call 130; refine (C7.out true od a0 k0 _ (by simp) (by simp)).mono ?_; rintro r q3 ⟨rfl, hq3⟩
    have O3 := O2.below hq3
    have R3' := R2'.below hq3
    have o3 := o2.below hq3
    have bq3 := bel_go bq2 hq3
    refine hK.out _ _ ?_ (fun hHeld => ?_)
    ·exact O3.cs
    clear hK K
    try simp only [Act.put, Ls]
    refine rdy 18 rfl (fun K hK => ?_)
    obtain ⟨r0, r1, r2, r3, r4, r5, r6, r7, r8, g0, g1, g2, g3, g4, g5, g6, g7, g8⟩ := R3'
    go_simp
    refine hK.out _ _ ?_ (fun hHeld => ?_)
    ·exact (O3.of_block (heap9n _ _ _ (by omega) _ _ _ _ _ _ _ _ _)).cs
    clear hK K
    try simp only [Act.put, Ls]
    refine rdy 19 rfl (fun K hK => ?_)
    go_simp
    refine hK.out _ _ ?_ (fun hHeld => ?_)
    ·exact (O3.of_block (heap9n _ _ _ (by omega) _ _ _ _ _ _ _ _ _)).cs
    clear hK K
    try simp only [Act.put, Ls]
    refine wpAnyH_done (by kernel_rfl) ?_ _
    go_wp2
    refine bodyPost_ret (v := .tuple #[.agg #[.int .i64 fm, .bool ng, .slice a0 zs.length k0, .int .i64 T2, .bool n2, .bool b2, .bool p2, .bool m2, .bool false], .int .i64 0]) (by simp [results, Tryz.results53, go_sem, r0, r1, r2, r3, r4, r5, r6, r7, r8]) rfl ⟨a0, k0, rfl, ?_, ?_⟩
    ·refine Own.base (B := w3.heap.size) ?_ (by omega)
     repeat (first | with_reducible exact o3 | (with_reducible refine Own.setBelow ?_ ?_ _; rotate_left; focus (first | (simp; done) | (simp; omega))))
    ·exact (by (repeat with_reducible first | refine Below.setCell ?_ ?_ _ | exact bz0 _ _ | refine bz1 ?_ | refine bz2 ?_ _ | refine bz3 ?_ _ | refine bz4 ?_ bq3 | refine Below.alloc ?_ ?_ _ | refine Below.trans ?_ (Below.mono bq3 ?_)) <;> first | omega | (simp; done) | (simp; omega))
   | false =>
    obtain ⟨c0, c1, c2, c3, c4, c5, c6, c7, c8⟩ := A.cs
    go_enter Tryz.func53, Tryz.ntmps53
    go_wp2_with fail
    refine (C1.out _ (hs.below bel0)).mono ?_
    rintro r w1 ⟨rfl, hb1⟩
    clear c0 c1 c2 c3 c4 c5 c6 c7 c8
    replace A := A.below hb1
    replace R := R.below hb1
    have bel1 := bel_go bel0 hb1
    go_wp2_with fail
    refine (C2.out _).mono ?_
    rintro r w2 ⟨rfl, hb2⟩
    go_wp2_with fail
    refine (C3.out _).mono ?_
    rintro r w3 ⟨rfl, hb3⟩
    replace A := (A.below hb2).below hb3
    replace R := (R.below hb2).below hb3
    have bel3 := bel_go (bel_go bel1 hb2) hb3
    clear hb1 hb2 hb3 bel1
    obtain ⟨c0, c1, c2, c3, c4, c5, c6, c7, c8⟩ := A.cs
    go_wp2_with fail
    refine (CC.out _ (hs.below bel3)).mono ?_
    rintro r w4 ⟨a0, k0, rfl, hp0, hb4⟩
    clear c0 c1 c2 c3 c4 c5 c6 c7 c8
    have lr := R.lt
    have z4 := hb4.size
    have hp0' := hp0.alloc (.cells #[.int .i64 fm, .bool ng, .slice a0 zs.length k0, .int .i64 T, .bool nn, .bool bd, .bool pl, .bool mi, .bool am] 50)
    replace R := (R.below hb4).alloc (.cells #[.int .i64 fm, .bool ng, .slice a0 zs.length k0, .int .i64 T, .bool nn, .bool bd, .bool pl, .bool mi, .bool am] 50)
    have O := Q9.new w4 (.int .i64 fm) (.bool ng) (.slice a0 zs.length k0) (.int .i64 T) (.bool nn) (.bool bd) (.bool pl) (.bool mi) (.bool am) 50
    have bel4 := bel_al (bel_go bel3 hb4) (.cells #[.int .i64 fm, .bool ng, .slice a0 zs.length k0, .int .i64 T, .bool nn, .bool bd, .bool pl, .bool mi, .bool am] 50)
    clear hp0 hb4 A
    go_wp2_with fail
    refine (CN1.out _).mono ?_
    rintro r w5 ⟨rfl, hb5⟩
    go_wp2_with fail
    refine (CN2.out _).mono ?_
    rintro r w6 ⟨rfl, hb6⟩
    go_wp2_with fail
    refine (CF1.out _).mono ?_
    rintro r w7 ⟨rfl, hb7⟩
    go_wp2_with fail
    refine (CF2.out _).mono ?_
    rintro r w8 ⟨rfl, hb8⟩
    replace R := (((R.below hb5).below hb6).below hb7).below hb8
    replace O := (((O.below hb5).below hb6).below hb7).below hb8
    replace hp0' := (((hp0'.below hb5).below hb6).below hb7).below hb8
    have belW := bel_go (bel_go (bel_go (bel_go bel4 hb5) hb6) hb7) hb8
    clear bel4 bel3 hb5 hb6 hb7 hb8
    have lO := O.lt
    go_wp2_with fail
    refine (CK1.out _).mono ?_
    rintro r w9 ⟨rfl, hb9⟩
    go_wp2_with fail
    refine (CK2.out _).mono ?_
    rintro r w10 ⟨rfl, hb10⟩
    go_wp2_with fail
    refine (CO.out _).mono ?_
    rintro r w11 ⟨rfl, hb11⟩
    replace R := ((R.below hb9).below hb10).below hb11
    replace O := ((O.below hb9).below hb10).below hb11
    replace hp0' := ((hp0'.below hb9).below hb10).below hb11
    have belX := bel_go (bel_go (bel_go belW hb9) hb10) hb11
    have Od := O.drew
    clear belW hb9 hb10 hb11
    go_wp2_with fail
    refine wp_region_held_drew (S := fun w' => (w'.cell? ⟨w4.heap.size, 0, none⟩ = some (.int .i64 fm) ∧ w'.cell? ⟨w4.heap.size, 1, none⟩ = some (.bool ng) ∧ w'.cell? ⟨w4.heap.size, 2, none⟩ = some (.slice a0 zs.length k0) ∧ w'.cell? ⟨w4.heap.size, 3, none⟩ = some (.int .i64 T) ∧ w'.cell? ⟨w4.heap.size, 4, none⟩ = some (.bool nn) ∧ w'.cell? ⟨w4.heap.size, 5, none⟩ = some (.bool bd) ∧ w'.cell? ⟨w4.heap.size, 6, none⟩ = some (.bool pl) ∧ w'.cell? ⟨w4.heap.size, 7, none⟩ = some (.bool mi) ∧ w'.cell? ⟨w4.heap.size, 8, none⟩ = some (.bool am))) (by kernel_rfl) ?_ (fun hHeld => ?_)
    ·exact Od.cs
    refine tk 0 ?_ rfl (Or.inl ⟨by rfl, ?_⟩) ?_
    rotate_left
    ·(intro w hSw; (try dsimp only at hSw); go_simp; try (with_reducible rfl))
    try simp only [Act.put, Ls]
    refine tk 1 ?_ rfl (Or.inl ⟨by rfl, ?_⟩) ?_
    rotate_left
    ·(intro w hSw; (try dsimp only at hSw); go_simp; try (with_reducible rfl))
    try simp only [Act.put, Ls]
    refine tk 2 ?_ rfl (Or.inl ⟨by rfl, ?_⟩) ?_
    rotate_left
    ·(intro w hSw; (try dsimp only at hSw); go_simp; try (with_reducible rfl))
    try simp only [Act.put, Ls]
    refine tk 12 ?_ rfl (Or.inl ⟨by rfl, ?_⟩) ?_
    rotate_left
    ·(intro w hSw; (try dsimp only at hSw); go_simp; try (with_reducible rfl))
    try simp only [Act.put, Ls]
    refine tk 16 ?_ rfl (Or.inl ⟨by rfl, ?_⟩) ?_
    rotate_left
    ·(intro w hSw; (try dsimp only at hSw); go_simp; try (with_reducible rfl))
    try simp only [Act.put, Ls]
    refine rdy 3 rfl (fun K hK => ?_)
    go_simp
    go_at_call 131; refine (CA1.out _).mono ?_; rintro r q1 ⟨rfl, hq1⟩
    have O1 := Od.below hq1
    have R1 := R.drew.below hq1
    have o1 := hp0'.drew.below hq1
    have bq1 := bel_go (Below.drew belX) hq1
    refine hK.out _ _ ?_ (fun hHeld => ?_)
    ·exact O1.cs
    clear hK K
    try simp only [Act.put, Ls]
    refine tk 4 ?_ rfl (Or.inl ⟨by rfl, ?_⟩) ?_
    rotate_left
    ·(intro w hSw; (try dsimp only at hSw); go_simp; try (with_reducible rfl))
    try simp only [Act.put, Ls]
    refine tk 5 ?_ rfl (Or.inl ⟨by rfl, ?_⟩) ?_
    rotate_left
    ·(intro w hSw; (try dsimp only at hSw); go_simp; try (with_reducible rfl))
    try simp only [Act.put, Ls]
    refine tk 6 ?_ rfl (Or.inl ⟨by rfl, ?_⟩) ?_
    rotate_left
    ·(intro w hSw; (try dsimp only at hSw); go_simp; try (with_reducible rfl))
    try simp only [Act.put, Ls]
    refine rdy 7 rfl (fun K hK => ?_)
    go_simp
    go_at_call 131; refine (CA2.out _).mono ?_; rintro r q2 ⟨rfl, hq2⟩
    have O2 := O1.below hq2
    have R2' := R1.below hq2
    have o2 := o1.below hq2
    have bq2 := bel_go bq1 hq2
    refine hK.out _ _ ?_ (fun hHeld => ?_)
    ·exact O2.cs
    clear hK K
    try simp only [Act.put, Ls]
    refine tk 8 ?_ rfl (Or.inl ⟨by rfl, ?_⟩) ?_
    rotate_left
    ·(intro w hSw; (try dsimp only at hSw); go_simp; try (with_reducible rfl))
    try simp only [Act.put, Ls]
    refine tk 9 ?_ rfl (Or.inl ⟨by rfl, ?_⟩) ?_
    rotate_left
    ·(intro w hSw; (try dsimp only at hSw); go_simp; try (with_reducible rfl))
    try simp only [Act.put, Ls]
    refine tk 10 ?_ rfl (Or.inl ⟨by rfl, ?_⟩) ?_
    rotate_left
    ·(intro w hSw; (try dsimp only at hSw); go_simp; try (with_reducible rfl))
    try simp only [Act.put, Ls]
    refine tk 11 ?_ rfl (Or.inl ⟨by rfl, ?_⟩) ?_
    rotate_left
    ·(intro w hSw; (try dsimp only at hSw); go_simp; try (with_reducible rfl))
    try simp only [Act.put, Ls]
    refine tk 13 ?_ rfl (Or.inl ⟨by rfl, ?_⟩) ?_
    rotate_left
    ·(intro w hSw; (try dsimp only at hSw); go_simp; try (with_reducible rfl))
    try simp only [Act.put, Ls]
    refine tk 14 ?_ rfl (Or.inl ⟨by rfl, ?_⟩) ?_
    rotate_left
    ·(intro w hSw; (try dsimp only at hSw); go_simp; try (with_reducible rfl))
    try simp only [Act.put, Ls]
    refine tk 15 ?_ rfl (Or.inl ⟨by rfl, ?_⟩) ?_
    rotate_left
    ·(intro w hSw; (try dsimp only at hSw); go_simp; try (with_reducible rfl))
    try simp only [Act.put, Ls]
    refine rdy 17 rfl (fun K hK => ?_)
    go_simp
    go_at_call 130; refine (C7.out od od a0 k0 _ (by simp) (by simp)).mono ?_; rintro r q3 ⟨rfl, hq3⟩
    have O3 := O2.below hq3
    have R3' := R2'.below hq3
    have o3 := o2.below hq3
    have bq3 := bel_go bq2 hq3
    refine hK.out _ _ ?_ (fun hHeld => ?_)
    ·exact O3.cs
    clear hK K
    try simp only [Act.put, Ls]
    refine rdy 18 rfl (fun K hK => ?_)
    obtain ⟨r0, r1, r2, r3, r4, r5, r6, r7, r8, g0, g1, g2, g3, g4, g5, g6, g7, g8⟩ := R3'
    go_simp
    refine hK.out _ _ ?_ (fun hHeld => ?_)
    ·exact (O3.of_block (heap9n _ _ _ (by omega) _ _ _ _ _ _ _ _ _)).cs
    clear hK K
    try simp only [Act.put, Ls]
    refine rdy 19 rfl (fun K hK => ?_)
    go_simp
    refine hK.out _ _ ?_ (fun hHeld => ?_)
    ·exact (O3.of_block (heap9n _ _ _ (by omega) _ _ _ _ _ _ _ _ _)).cs
    clear hK K
    try simp only [Act.put, Ls]
    refine wpAnyH_done (by kernel_rfl) ?_ _
    go_wp2
    refine bodyPost_ret (v := .tuple #[.agg #[.int .i64 fm, .bool ng, .slice a0 zs.length k0, .int .i64 T2, .bool n2, .bool b2, .bool p2, .bool m2, .bool false], .int .i64 0]) (by simp [results, Tryz.results53, go_sem, r0, r1, r2, r3, r4, r5, r6, r7, r8]) rfl ⟨a0, k0, rfl, ?_, ?_⟩
    ·refine Own.base (B := w3.heap.size) ?_ (by omega)
     repeat (first | with_reducible exact o3 | (with_reducible refine Own.setBelow ?_ ?_ _; rotate_left; focus (first | (simp; done) | (simp; omega))))
    ·exact (by (repeat with_reducible first | refine Below.setCell ?_ ?_ _ | exact bz0 _ _ | refine bz1 ?_ | refine bz2 ?_ _ | refine bz3 ?_ _ | refine bz4 ?_ bq3 | refine Below.alloc ?_ ?_ _ | refine Below.trans ?_ (Below.mono bq3 ?_)) <;> first | omega | (simp; done) | (simp; omega))
theorem mulS_fin (fm : Int) (ng : Bool) (T : Int) (nn bd pl mi am : Bool) (p : Option Addr) (cap : Nat) (zs : List Int) (x y : Int) (w : World) (hs : Sl .u32 w (.slice p zs.length cap) zs) (hz : Nm.Dg zs) (hk : accB fm ng zs T nn bd pl mi am = true) (hx : okF fm x = true) (hy : okF fm y = true) (x0 : 0 ≤ x) (x1 : x < 18446744073709551616) (y0 : 0 ≤ y) (y1 : y < 18446744073709551616) (hTm : T ≠ 1000000) (fx : finB fm x = true) (fy : finB fm y = true) (V : Int) (hV : V = tpV fm x y) (hVl : (Nm.wl V).length ≤ 200) (v : Int) (hv : v = Nm.wv ng zs + V) :
  Calls Tryz.prog 53 #[.agg #[.int .i64 fm, .bool ng, .slice p zs.length cap, .int .i64 T, .bool nn, .bool bd, .bool pl, .bool mi, .bool am], .int .u64 x, .int .u64 y] w fun r w' => ∃ a' c', r = .returned (.tuple #[.agg #[.int .i64 fm, .bool (Nm.wn v), .slice a' (Nm.wl v).length c', .int .i64 (T + 1), .bool nn, .bool bd, .bool pl, .bool mi, .bool (decide (nZ fm x * nZ fm y = 0) && (sigB fm x != sigB fm y) && (am || decide (T = 0)))], .int .i64 0]) ∧ Own w' w.heap.size a' c' (Nm.wl v) ∧ Below w.heap.size w w' := by
 obtain ⟨hfm, hk1, ho1, -⟩ := acc_parts' hk
 obtain ⟨nz, hl⟩ := okB_nz ho1
 obtain ⟨t0, t1⟩ := mkB_T hk1
 have C1 := hid (fun w' h => accok_spec fm ng T nn bd pl mi am p cap zs w' h (by omega))
 have C2 := hid (fun w' => spec_ok fm x w')
 have C3 := hid (fun w' => spec_ok fm y w')
 have CC := hid (fun w' h => copy_any fm ng T nn bd pl mi am p cap zs w' h hz (by omega) ho1)
 have CN1 := hid (fun w' => spec_l2neg fm x w' hx x0 x1)
 have CN2 := hid (fun w' => spec_l2neg fm y w' hy y0 y1)
 have CF1 := hid (fun w' => spec_fin fm x w' x0 x1)
 have CF2 := hid (fun w' => spec_fin fm y w' y0 y1)
 rw [hk] at C1
 rw [hx] at C2
 rw [hy] at C3
 have hT' : (T == 1000000) = false := by simpa using hTm
 obtain ⟨s1, hs1⟩ : ∃ s, s = sigB fm x := ⟨_, rfl⟩
 obtain ⟨s2, hs2⟩ : ∃ s, s = sigB fm y := ⟨_, rfl⟩
 obtain ⟨sg, hsg⟩ : ∃ s, s = (s1 != s2) := ⟨_, rfl⟩
 rw [← hs1] at CN1
 rw [← hs2] at CN2
 have hsg1 : (s1 != s2) = sg := hsg.symm
 have hsg2 : (s1 == s2) = !sg := by rw [← hsg1]; cases s1 <;> cases s2 <;> rfl
 have CE := hid (fun w' => exact4 fm x y w' fx fy x0 x1 y0 y1 hx hy _ _ _ rfl rfl rfl)
 have CQ := hid (fun w' => sQb fm w' hfm)
 obtain ⟨-, hq0, -⟩ := tp_eq hx hy fx fy
 have bx := nZ_bd fm x
 have by' := nZ_bd fm y
 have hqb := unq_bd fm
 have hml := nZm_len fm x y
 have hVs : V = Nm.shV (Nm.wn (nZ fm x * nZ fm y)) (Nm.val (Nm.wl (nZ fm x * nZ fm y))) (nE fm x + nE fm y - 2 * unQ fm) := by rw [hV, shz _ _ hq0]; rfl
 have CSH := hid (fun a c w' h => l1shift_any (Nm.wn (nZ fm x * nZ fm y)) a c (Nm.wl (nZ fm x * nZ fm y)) (nE fm x + nE fm y - 2 * unQ fm) w' h (Nm.wl_dg _) (by omega) (by omega) (by omega) V hVs)
 have hwv : Nm.wv (Nm.wn V) (Nm.wl V) = V := Nm.wv_out V
 have CAD := hid (fun a0 k0 a c w' h h' => l1add_any ng (Nm.wn V) a0 a k0 c zs (Nm.wl V) w' h h' hz (Nm.wl_dg _) nz (Nm.wl_nz _) (by omega) (by omega) v (by rw [hwv]; exact hv))
 have hz0 : decide (nZ fm x * nZ fm y = 0) = decide ((Nm.wl (nZ fm x * nZ fm y)).length = 0) := by
  rw [Bool.eq_iff_iff, decide_eq_true_eq, decide_eq_true_eq]; unfold Nm.wl; rw [Nm.lim_length_zero]; omega
 rw [hz0]
 rw [← hs1, ← hs2, ← hsg]
 rw [fx] at CF1
 rw [fy] at CF2
 obtain ⟨Gm, hGm⟩ : ∃ G, G = Nm.wn (nZ fm x * nZ fm y) := ⟨_, rfl⟩
 obtain ⟨Lm, hLm⟩ : ∃ L, L = Nm.wl (nZ fm x * nZ fm y) := ⟨_, rfl⟩
 obtain ⟨e, he⟩ : ∃ e, e = nE fm x + nE fm y := ⟨_, rfl⟩
 obtain ⟨Qn, hQn⟩ : ∃ e, e = unQ fm := ⟨_, rfl⟩
 obtain ⟨GV, hGV⟩ : ∃ G, G = Nm.wn V := ⟨_, rfl⟩
 obtain ⟨LV, hLV⟩ : ∃ L, L = Nm.wl V := ⟨_, rfl⟩
 obtain ⟨GG, hGG⟩ : ∃ G, G = Nm.wn v := ⟨_, rfl⟩
 obtain ⟨LL, hLL⟩ : ∃ L, L = Nm.wl v := ⟨_, rfl⟩
 have e0 : -3000 ≤ e ∧ e ≤ 5000 := by omega
 simp only [← hGm, ← hLm, ← he] at CE
 simp only [← hGm, ← hLm, ← he, ← hQn, ← hGV, ← hLV] at CSH
 simp only [← hGV, ← hLV, ← hGG, ← hLL] at CAD
 rw [← hQn] at CQ hqb
 rw [← hLm] at hml
 rw [← hLm, ← hGG, ← hLL]
 obtain ⟨zr, hzr⟩ : ∃ z, z = decide (Lm.length = 0) := ⟨_, rfl⟩
 have hzb : ((Lm.length : Int) == 0) = zr := by rw [hzr, Bool.eq_iff_iff, beq_iff_eq, decide_eq_true_eq]; omega
 obtain ⟨a2, ha2⟩ : ∃ a2, a2 = (zr && sg && (am || decide (T = 0))) := ⟨_, rfl⟩
 obtain ⟨T2, hT2⟩ : ∃ T2, T2 = T + 1 := ⟨_, rfl⟩
 rw [← hzr, ← ha2, ← hT2]
 have C7 := hid (fun p' c' w' => zero7 fm GG T nn bd pl mi am p' LL.length c' zr sg w' t0 t1 T2 hT2 a2 ha2)
 have hw2 : IntKind.i64.wrap (2 * Qn) = 2 * Qn := by rw [IntKind.wrap_i64]; omega
 have hw3 : IntKind.i64.wrap (e - 2 * Qn) = e - 2 * Qn := by rw [IntKind.wrap_i64]; omega
 clear hGm hLm he hQn hGV hLV hGG hLL hzr ha2 hT2 hVs hwv hV hVl hv hz0 hs1 hs2 hsg hk hx hy hz nz ho1 hk1 hTm hfm fx fy bx by' hq0
 have A := (Q9.new w (.int .i64 fm) (.bool ng) (.slice p zs.length cap) (.int .i64 T) (.bool nn) (.bool bd) (.bool pl) (.bool mi) (.bool am) 50).alloc (.cells #[.int .i64 0, .bool false, .slice none 0 0, .int .i64 0, .bool false, .bool false, .bool false, .bool false, .bool false] 50)
 have R := Q9.nw2b w (.cells #[.int .i64 fm, .bool ng, .slice p zs.length cap, .int .i64 T, .bool nn, .bool bd, .bool pl, .bool mi, .bool am] 50) (.int .i64 0) (.bool false) (.slice none 0 0) (.int .i64 0) (.bool false) (.bool false) (.bool false) (.bool false) (.bool false) 50
 have bel0 : Below w.heap.size w ((w.alloc (.cells #[.int .i64 fm, .bool ng, .slice p zs.length cap, .int .i64 T, .bool nn, .bool bd, .bool pl, .bool mi, .bool am] 50)).alloc (.cells #[.int .i64 0, .bool false, .slice none 0 0, .int .i64 0, .bool false, .bool false, .bool false, .bool false, .bool false] 50)) := (by repeat (first | exact bz0 _ _ | refine bz1 ?_ | refine bz2 ?_ _ | refine bz3 ?_ _ | refine bz5 ?_ _ | refine bz6 ?_ _))
 obtain ⟨c0, c1, c2, c3, c4, c5, c6, c7, c8⟩ := A.cs
 go_enter Tryz.func53, Tryz.ntmps53
 go_wp2_with fail
 refine (C1.out _ (hs.below bel0)).mono ?_
 rintro r w1 ⟨rfl, hb1⟩
 clear c0 c1 c2 c3 c4 c5 c6 c7 c8
 replace A := A.below hb1
 replace R := R.below hb1
 have bel1 := bel_go bel0 hb1
 go_wp2_with fail
 refine (C2.out _).mono ?_
 rintro r w2 ⟨rfl, hb2⟩
 go_wp2_with fail
 refine (C3.out _).mono ?_
 rintro r w3 ⟨rfl, hb3⟩
 replace A := (A.below hb2).below hb3
 replace R := (R.below hb2).below hb3
 have bel3 := bel_go (bel_go bel1 hb2) hb3
 clear hb1 hb2 hb3 bel1
 obtain ⟨c0, c1, c2, c3, c4, c5, c6, c7, c8⟩ := A.cs
 go_wp2_with fail
 refine (CC.out _ (hs.below bel3)).mono ?_
 rintro r w4 ⟨a0, k0, rfl, hp0, hb4⟩
 clear c0 c1 c2 c3 c4 c5 c6 c7 c8
 have lr := R.lt
 have z4 := hb4.size
 have hp0' := hp0.alloc (.cells #[.int .i64 fm, .bool ng, .slice a0 zs.length k0, .int .i64 T, .bool nn, .bool bd, .bool pl, .bool mi, .bool am] 50)
 replace R := (R.below hb4).alloc (.cells #[.int .i64 fm, .bool ng, .slice a0 zs.length k0, .int .i64 T, .bool nn, .bool bd, .bool pl, .bool mi, .bool am] 50)
 have O := Q9.new w4 (.int .i64 fm) (.bool ng) (.slice a0 zs.length k0) (.int .i64 T) (.bool nn) (.bool bd) (.bool pl) (.bool mi) (.bool am) 50
 have bel4 := bel_al (bel_go bel3 hb4) (.cells #[.int .i64 fm, .bool ng, .slice a0 zs.length k0, .int .i64 T, .bool nn, .bool bd, .bool pl, .bool mi, .bool am] 50)
 clear hp0 hb4 A
 go_wp2_with fail
 refine (CN1.out _).mono ?_
 rintro r w5 ⟨rfl, hb5⟩
 go_wp2_with fail
 refine (CN2.out _).mono ?_
 rintro r w6 ⟨rfl, hb6⟩
 go_wp2_with fail
 refine (CF1.out _).mono ?_
 rintro r w7 ⟨rfl, hb7⟩
 go_wp2_with fail
 refine (CF2.out _).mono ?_
 rintro r w8 ⟨rfl, hb8⟩
 replace R := (((R.below hb5).below hb6).below hb7).below hb8
 replace O := (((O.below hb5).below hb6).below hb7).below hb8
 replace hp0' := (((hp0'.below hb5).below hb6).below hb7).below hb8
 have belW := bel_go (bel_go (bel_go (bel_go bel4 hb5) hb6) hb7) hb8
 clear bel4 bel3 hb5 hb6 hb7 hb8
 have lO := O.lt
 go_wp2_with fail
 refine (CE.out _).mono ?_
 rintro r w9 ⟨am', km', rfl, om, hb9⟩
 replace R := (R.below hb9).alloc (.cells #[.bool Gm, .slice am' Lm.length km'] 32)
 replace O := (O.below hb9).alloc (.cells #[.bool Gm, .slice am' Lm.length km'] 32)
 replace hp0' := (hp0'.below hb9).alloc (.cells #[.bool Gm, .slice am' Lm.length km'] 32)
 have M := Box.new w9 (.bool Gm) (.slice am' Lm.length km') 32
 have om' := om.alloc (.cells #[.bool Gm, .slice am' Lm.length km'] 32)
 have belX := bel_al (bel_go belW hb9) (.cells #[.bool Gm, .slice am' Lm.length km'] 32)
 have l9 := hb9.size
 clear hb9 om belW
 go_upto_region 15 with fail
 obtain ⟨W, hW⟩ : ∃ W, W = w9.alloc (.cells #[.bool Gm, .slice am' Lm.length km'] 32) := ⟨_, rfl⟩
 have lW : w9.heap.size < W.heap.size := by rw [hW]; simp
 rw [← hW] at R O hp0' M om' belX ⊢
 clear hW
 go_cut [] (fun wx => ∃ (a4 : Option Addr) (k4 : Nat), Q9 wx w4.heap.size (.int .i64 fm) (.bool GG) (.slice a4 LL.length k4) (.int .i64 T) (.bool nn) (.bool bd) (.bool pl) (.bool mi) (.bool am) ∧ Q9 wx (w.heap.size + 1) (.int .i64 0) (.bool false) (.slice none 0 0) (.int .i64 0) (.bool false) (.bool false) (.bool false) (.bool false) (.bool false) ∧ Box wx w9.heap.size (.bool Gm) (.slice am' Lm.length km') ∧ Own wx W.heap.size a4 k4 LL ∧ Below w.heap.size w wx)
 case first =>
  have O0 := O.drew
  have R0_ := R.drew
  have M0 : Box W.drew w9.heap.size (.bool Gm) (.slice am' Lm.length km') := M
  have oo0 := hp0'.drew
  have om0 := om'.drew
  have bb0 := Below.drew belX
  refine wp_region_held_drew (S := fun w' => w'.cell? ⟨w9.heap.size, 0, none⟩ = some (.bool Gm) ∧ w'.cell? ⟨w9.heap.size, 1, none⟩ = some (.slice am' Lm.length km')) (by kernel_rfl) ?_ (fun hHeld => ?_)
  ·exact ⟨M0.1, M0.2⟩
  refine tk 0 ?_ rfl (Or.inl ⟨by rfl, ?_⟩) ?_
  rotate_left
  ·(intro w hSw; (try dsimp only at hSw); go_simp; try (with_reducible rfl))
  try simp only [Act.put, Ls]
  refine tk 2 ?_ rfl (Or.inl ⟨by rfl, ?_⟩) ?_
  rotate_left
  ·(intro w hSw; (try dsimp only at hSw); go_simp; try (with_reducible rfl))
  try simp only [Act.put, Ls]
  refine tk 3 ?_ rfl (Or.inl ⟨by rfl, ?_⟩) ?_
  rotate_left
  ·(intro w hSw; (try dsimp only at hSw); go_simp; try (with_reducible rfl))
  try simp only [Act.put, Ls]
  refine tk 4 ?_ rfl (Or.inl ⟨by rfl, ?_⟩) ?_
  rotate_left
  ·(intro w hSw; (try dsimp only at hSw); go_simp; try (with_reducible rfl))
  try simp only [Act.put, Ls]
  refine wpAnyH_ready (rs := [1, 5]) (by kernel_rfl) (by simp) ?_
  refine AllReadyH.cons (o := _) rfl (fun K hK => ?_) (AllReadyH.cons (o := _) rfl (fun K hK => ?_) AllReadyH.nil)
  ·have l1 := O0.c1
   have l2 := O0.c2
   go_simp
   refine hK.out _ _ ?_ (fun hHeld => ?_)
   ·exact ⟨M0.1, M0.2⟩
   clear hK K
   try simp only [Act.put, Ls]
   clear l1 l2
   refine rdy 5 rfl (fun K hK => ?_)
   go_simp
   go_at_call 133; refine (CQ.out _).mono ?_; rintro r q1 ⟨rfl, hq1⟩
   have O1 := O0.below hq1
   have R1_ := R0_.below hq1
   have M1 := M0.below hq1
   have oo1 := oo0.below hq1
   have bb1 := bel_go bb0 hq1
   have om1 := om0.below hq1
   refine hK.out _ _ ?_ (fun hHeld => ?_)
   ·exact ⟨M1.1, M1.2⟩
   clear hK K
   try simp only [Act.put, Ls]
   refine tk 6 ?_ rfl (Or.inl ⟨by rfl, ?_⟩) ?_
   rotate_left
   ·(intro w hSw; (try dsimp only at hSw); go_simp; try (with_reducible rfl))
   try simp only [Act.put, Ls]
   refine tk 7 ?_ rfl (Or.inl ⟨by rfl, ?_⟩) ?_
   rotate_left
   ·(intro w hSw; (try dsimp only at hSw); go_simp; try (with_reducible rfl))
   try simp only [Act.put, Ls]
   refine rdy 8 rfl (fun K hK => ?_)
   go_simp
   go_at_call 80; refine (CSH.out am' km' _ om1.sl).mono ?_; rintro r q2 ⟨a2, k2, rfl, hp2, hq2⟩
   have O2 := O1.below hq2
   have R2_ := R1_.below hq2
   have M2 := M1.below hq2
   have oo2 := oo1.below hq2
   have bb2 := bel_go bb1 hq2
   refine hK.out _ _ ?_ (fun hHeld => ?_)
   ·exact ⟨M2.1, M2.2⟩
   clear hK K
   try simp only [Act.put, Ls]
   refine rdy 9 rfl (fun K hK => ?_)
   go_simp
   go_at_call 81; refine (CAD.out a0 k0 a2 k2 _ oo2.sl hp2.sl).mono ?_; rintro r q3 ⟨a4, k4, rfl, hp4, hq4⟩
   have O3 := O2.below hq4
   have R3_ := R2_.below hq4
   have M3 := M2.below hq4
   have oo3 := oo2.below hq4
   have bb3 := bel_go bb2 hq4
   refine hK.out _ _ ?_ (fun hHeld => ?_)
   ·exact ⟨M3.1, M3.2⟩
   clear hK K
   try simp only [Act.put, Ls]
   refine tk 10 ?_ rfl (Or.inl ⟨by rfl, ?_⟩) ?_
   rotate_left
   ·(intro w hSw; (try dsimp only at hSw); go_simp; try (with_reducible rfl))
   try simp only [Act.put, Ls]
   refine rdy 11 rfl (fun K hK => ?_)
   have v1 := O3.c1
   have v2 := O3.c2
   have w1' := O3.f1
   have w2' := O3.f2
   go_simp
   refine hK.out _ _ ?_ (fun hHeld => ?_)
   ·exact ⟨(M3.of_block ((Below.heap_setCell _ _ _ _ (by simp; omega)).trans (Below.heap_setCell _ _ _ _ (by simp; omega)))).1, (M3.of_block ((Below.heap_setCell _ _ _ _ (by simp; omega)).trans (Below.heap_setCell _ _ _ _ (by simp; omega)))).2⟩
   clear hK K
   try simp only [Act.put, Ls]
   refine wpAnyH_done (by kernel_rfl) ?_ _
   go_wp2_with fail
   go_meet
   exact ⟨a4, k4, (O3.set1 _).set2 _, (R3_.other (by simp; omega) _).other (by simp; omega) _, M3.of_block ((Below.heap_setCell _ _ _ _ (by simp; omega)).trans (Below.heap_setCell _ _ _ _ (by simp; omega))), (by refine Own.base (B := q2.heap.size) ?_ (by have := hq1.size; have := hq2.size; have e : W.drew.heap.size = W.heap.size := rfl; omega); exact (hp4.setBelow (by have := hq1.size; have := hq2.size; have e : W.drew.heap.size = W.heap.size := rfl; simp; omega) _).setBelow (by have := hq1.size; have := hq2.size; have e : W.drew.heap.size = W.heap.size := rfl; simp; omega) _), (bb3.setCell (by simp; omega) _).setCell (by simp; omega) _⟩
  ·go_simp
   go_at_call 133; refine (CQ.out _).mono ?_; rintro r q1 ⟨rfl, hq1⟩
   have O1 := O0.below hq1
   have R1_ := R0_.below hq1
   have M1 := M0.below hq1
   have oo1 := oo0.below hq1
   have bb1 := bel_go bb0 hq1
   have om1 := om0.below hq1
   refine hK.out _ _ ?_ (fun hHeld => ?_)
   ·exact ⟨M1.1, M1.2⟩
   clear hK K
   try simp only [Act.put, Ls]
   refine tk 6 ?_ rfl (Or.inl ⟨by rfl, ?_⟩) ?_
   rotate_left
   ·(intro w hSw; (try dsimp only at hSw); go_simp; try (with_reducible rfl))
   try simp only [Act.put, Ls]
   refine tk 7 ?_ rfl (Or.inl ⟨by rfl, ?_⟩) ?_
   rotate_left
   ·(intro w hSw; (try dsimp only at hSw); go_simp; try (with_reducible rfl))
   try simp only [Act.put, Ls]
   refine wpAnyH_ready (rs := [1, 8]) (by kernel_rfl) (by simp) ?_
   refine AllReadyH.cons (o := _) rfl (fun K hK => ?_) (AllReadyH.cons (o := _) rfl (fun K hK => ?_) AllReadyH.nil)
   ·have l1 := O1.c1
    have l2 := O1.c2
    go_simp
    refine hK.out _ _ ?_ (fun hHeld => ?_)
    ·exact ⟨M1.1, M1.2⟩
    clear hK K
    try simp only [Act.put, Ls]
    clear l1 l2
    refine rdy 8 rfl (fun K hK => ?_)
    go_simp
    go_at_call 80; refine (CSH.out am' km' _ om1.sl).mono ?_; rintro r q2 ⟨a2, k2, rfl, hp2, hq2⟩
    have O2 := O1.below hq2
    have R2_ := R1_.below hq2
    have M2 := M1.below hq2
    have oo2 := oo1.below hq2
    have bb2 := bel_go bb1 hq2
    refine hK.out _ _ ?_ (fun hHeld => ?_)
    ·exact ⟨M2.1, M2.2⟩
    clear hK K
    try simp only [Act.put, Ls]
    refine rdy 9 rfl (fun K hK => ?_)
    go_simp
    go_at_call 81; refine (CAD.out a0 k0 a2 k2 _ oo2.sl hp2.sl).mono ?_; rintro r q3 ⟨a4, k4, rfl, hp4, hq4⟩
    have O3 := O2.below hq4
    have R3_ := R2_.below hq4
    have M3 := M2.below hq4
    have oo3 := oo2.below hq4
    have bb3 := bel_go bb2 hq4
    refine hK.out _ _ ?_ (fun hHeld => ?_)
    ·exact ⟨M3.1, M3.2⟩
    clear hK K
    try simp only [Act.put, Ls]
    refine tk 10 ?_ rfl (Or.inl ⟨by rfl, ?_⟩) ?_
    rotate_left
    ·(intro w hSw; (try dsimp only at hSw); go_simp; try (with_reducible rfl))
    try simp only [Act.put, Ls]
    refine rdy 11 rfl (fun K hK => ?_)
    have v1 := O3.c1
    have v2 := O3.c2
    have w1' := O3.f1
    have w2' := O3.f2
    go_simp
    refine hK.out _ _ ?_ (fun hHeld => ?_)
    ·exact ⟨(M3.of_block ((Below.heap_setCell _ _ _ _ (by simp; omega)).trans (Below.heap_setCell _ _ _ _ (by simp; omega)))).1, (M3.of_block ((Below.heap_setCell _ _ _ _ (by simp; omega)).trans (Below.heap_setCell _ _ _ _ (by simp; omega)))).2⟩
    clear hK K
    try simp only [Act.put, Ls]
    refine wpAnyH_done (by kernel_rfl) ?_ _
    go_wp2_with fail
    go_meet
    exact ⟨a4, k4, (O3.set1 _).set2 _, (R3_.other (by simp; omega) _).other (by simp; omega) _, M3.of_block ((Below.heap_setCell _ _ _ _ (by simp; omega)).trans (Below.heap_setCell _ _ _ _ (by simp; omega))), (by refine Own.base (B := q2.heap.size) ?_ (by have := hq1.size; have := hq2.size; have e : W.drew.heap.size = W.heap.size := rfl; omega); exact (hp4.setBelow (by have := hq1.size; have := hq2.size; have e : W.drew.heap.size = W.heap.size := rfl; simp; omega) _).setBelow (by have := hq1.size; have := hq2.size; have e : W.drew.heap.size = W.heap.size := rfl; simp; omega) _), (bb3.setCell (by simp; omega) _).setCell (by simp; omega) _⟩
   ·go_simp
    go_at_call 80; refine (CSH.out am' km' _ om1.sl).mono ?_; rintro r q2 ⟨a2, k2, rfl, hp2, hq2⟩
    have O2 := O1.below hq2
    have R2_ := R1_.below hq2
    have M2 := M1.below hq2
    have oo2 := oo1.below hq2
    have bb2 := bel_go bb1 hq2
    refine hK.out _ _ ?_ (fun hHeld => ?_)
    ·exact ⟨M2.1, M2.2⟩
    clear hK K
    try simp only [Act.put, Ls]
    refine rdy 1 rfl (fun K hK => ?_)
    have l1 := O2.c1
    have l2 := O2.c2
    go_simp
    refine hK.out _ _ ?_ (fun hHeld => ?_)
    ·exact ⟨M2.1, M2.2⟩
    clear hK K
    try simp only [Act.put, Ls]
    clear l1 l2
    refine rdy 9 rfl (fun K hK => ?_)
    go_simp
    go_at_call 81; refine (CAD.out a0 k0 a2 k2 _ oo2.sl hp2.sl).mono ?_; rintro r q3 ⟨a4, k4, rfl, hp4, hq4⟩
    have O3 := O2.below hq4
    have R3_ := R2_.below hq4
    have M3 := M2.below hq4
    have oo3 := oo2.below hq4
    have bb3 := bel_go bb2 hq4
    refine hK.out _ _ ?_ (fun hHeld => ?_)
    ·exact ⟨M3.1, M3.2⟩
    clear hK K
    try simp only [Act.put, Ls]
    refine tk 10 ?_ rfl (Or.inl ⟨by rfl, ?_⟩) ?_
    rotate_left
    ·(intro w hSw; (try dsimp only at hSw); go_simp; try (with_reducible rfl))
    try simp only [Act.put, Ls]
    refine rdy 11 rfl (fun K hK => ?_)
    have v1 := O3.c1
    have v2 := O3.c2
    have w1' := O3.f1
    have w2' := O3.f2
    go_simp
    refine hK.out _ _ ?_ (fun hHeld => ?_)
    ·exact ⟨(M3.of_block ((Below.heap_setCell _ _ _ _ (by simp; omega)).trans (Below.heap_setCell _ _ _ _ (by simp; omega)))).1, (M3.of_block ((Below.heap_setCell _ _ _ _ (by simp; omega)).trans (Below.heap_setCell _ _ _ _ (by simp; omega)))).2⟩
    clear hK K
    try simp only [Act.put, Ls]
    refine wpAnyH_done (by kernel_rfl) ?_ _
    go_wp2_with fail
    go_meet
    exact ⟨a4, k4, (O3.set1 _).set2 _, (R3_.other (by simp; omega) _).other (by simp; omega) _, M3.of_block ((Below.heap_setCell _ _ _ _ (by simp; omega)).trans (Below.heap_setCell _ _ _ _ (by simp; omega))), (by refine Own.base (B := q2.heap.size) ?_ (by have := hq1.size; have := hq2.size; have e : W.drew.heap.size = W.heap.size := rfl; omega); exact (hp4.setBelow (by have := hq1.size; have := hq2.size; have e : W.drew.heap.size = W.heap.size := rfl; simp; omega) _).setBelow (by have := hq1.size; have := hq2.size; have e : W.drew.heap.size = W.heap.size := rfl; simp; omega) _), (bb3.setCell (by simp; omega) _).setCell (by simp; omega) _⟩
 case rest =>
 clear R O M hp0' om' belX
 rename World => wx
 obtain ⟨a4, k4, O, R, M, own, bel⟩ := hcut
 obtain ⟨m0, m1⟩ := M
 obtain ⟨c0, c1, c2, c3, c4, c5, c6, c7, c8⟩ := O.cs
 go_wp2_with fail
 refine (C7.out a4 k4 _).mono ?_
 rintro r wy ⟨rfl, hby⟩
 clear c0 c1 c2 c3 c4 c5 c6 c7 c8 m0 m1
 have own2 := own.below hby
 obtain ⟨r0, r1, r2, r3, r4, r5, r6, r7, r8, g0, g1, g2, g3, g4, g5, g6, g7, g8⟩ := R.below hby
 have bel2 := bel_go bel hby
 go_wp2
 refine bodyPost_ret (v := .tuple #[.agg #[.int .i64 fm, .bool GG, .slice a4 LL.length k4, .int .i64 T2, .bool nn, .bool bd, .bool pl, .bool mi, .bool a2], .int .i64 0]) (by simp [results, Tryz.results53, go_sem, r0, r1, r2, r3, r4, r5, r6, r7, r8]) rfl ⟨a4, k4, rfl, ?_, ?_⟩
 ·refine Own.base (B := W.heap.size) ?_ (by omega)
  repeat (first | with_reducible exact own2 | (with_reducible refine Own.setBelow ?_ ?_ _; rotate_left; focus (first | (simp; done) | (simp; omega))))
 ·exact (by (repeat with_reducible first | refine Below.setCell ?_ ?_ _ | exact bz0 _ _ | refine bz1 ?_ | refine bz2 ?_ _ | refine bz3 ?_ _ | refine bz4 ?_ bel2 | refine Below.alloc ?_ ?_ _ | refine Below.trans ?_ (Below.mono bel2 ?_)) <;> first | omega | (simp; done) | (simp; omega))
end Go.Proofs.YtkfjmcdniohljaaGreatDoor
