/-
  What is needed of MA, ME, MG.
-/
import Derived.Test.YtnliofakkkjpoaaGreatDoorA48
set_option maxHeartbeats 16000000
set_option maxRecDepth 1000000
namespace Go.Proofs.YtnliofakkkjpoaaGreatDoor
set_option linter.unusedVariables false
set_option linter.unusedSimpArgs false
open Go.RowKit Go.Deep
theorem mulA_no (fm : Int) (ng : Bool) (T : Int) (nn bd pl mi am : Bool) (p : Option Addr) (cap : Nat) (zs : List Int) (x y0 : Int) (w : World) (hT : Tab w) (hs : Sl .u32 w (.slice p zs.length cap) zs) (hl : zs.length ≤ 1048576) (x0 : 0 ≤ x) (x1 : x < 18446744073709551616) (y00 : 0 ≤ y0) (y01 : y0 < 18446744073709551616) (c : Int) (hc : c = tcC (accB fm ng zs T nn bd pl mi am) (okF fm x && okF fm y0) T) (hc0 : c ≠ 0) :
    Calls Tryz.prog 18 #[.agg #[.int .i64 fm, .bool ng, .slice p zs.length cap, .int .i64 T, .bool nn, .bool bd, .bool pl, .bool mi, .bool am], .int .u64 x, .int .u64 y0] w fun r w' => r = .returned (.tuple #[A0, .int .i64 c]) ∧ Below w.heap.size w w' := by
  have dx : D64 [x, y0] := d64_2 x0 x1 y00 y01
  have hall : allB fm [x, y0] = (okF fm x && okF fm y0) := by unfold allB; simp
  have CC := hid (fun q qc w' h h' h'' => tcode fm ng T nn bd pl mi am p cap zs q qc [x, y0] w' h h' hl h'' dx (by simp) c (by rw [hall]; exact hc))
  have hne : (c != 0) = true := by simpa using hc0
  clear hc hc0 hall dx
  have Q := (Q9.new w (.int .i64 fm) (.bool ng) (.slice p zs.length cap) (.int .i64 T) (.bool nn) (.bool bd) (.bool pl) (.bool mi) (.bool am) 31).alloc (.cells #[.int .i64 0, .bool false, .slice none 0 0, .int .i64 0, .bool false, .bool false, .bool false, .bool false, .bool false] 31)
  have R := Q9.nwn w (.cells #[.int .i64 fm, .bool ng, .slice p zs.length cap, .int .i64 T, .bool nn, .bool bd, .bool pl, .bool mi, .bool am] 31) (.int .i64 0) (.bool false) (.slice none 0 0) (.int .i64 0) (.bool false) (.bool false) (.bool false) (.bool false) (.bool false) 31
  have bel0 : Below w.heap.size w ((w.alloc (.cells #[.int .i64 fm, .bool ng, .slice p zs.length cap, .int .i64 T, .bool nn, .bool bd, .bool pl, .bool mi, .bool am] 31)).alloc (.cells #[.int .i64 0, .bool false, .slice none 0 0, .int .i64 0, .bool false, .bool false, .bool false, .bool false, .bool false] 31)) := (by repeat (first | exact bz0 _ _ | refine bz1 ?_ | refine bz2 ?_ _ | refine bz3 ?_ _ | refine bz5 ?_ _ | refine bz6 ?_ _))
  obtain ⟨c0, c1, c2, c3, c4, c5, c6, c7, c8⟩ := Q.cs
  go_enter Tryz.func18, Tryz.ntmps18
  go_wp2_with fail
  have hA : Below w.heap.size w (((w.alloc (.cells #[.int .i64 fm, .bool ng, .slice p zs.length cap, .int .i64 T, .bool nn, .bool bd, .bool pl, .bool mi, .bool am] 31)).alloc (.cells #[.int .i64 0, .bool false, .slice none 0 0, .int .i64 0, .bool false, .bool false, .bool false, .bool false, .bool false] 31)).alloc (.cells #[.int .u64 x, .int .u64 y0] 27)) := bel_al bel0 _
  have hxx : Sl .u64 (((w.alloc (.cells #[.int .i64 fm, .bool ng, .slice p zs.length cap, .int .i64 T, .bool nn, .bool bd, .bool pl, .bool mi, .bool am] 31)).alloc (.cells #[.int .i64 0, .bool false, .slice none 0 0, .int .i64 0, .bool false, .bool false, .bool false, .bool false, .bool false] 31)).alloc (.cells #[.int .u64 x, .int .u64 y0] 27)) (.slice (some ⟨w.heap.size + 1 + 1, 0, none⟩) [x, y0].length 2) [x, y0] := ⟨some ⟨w.heap.size + 1 + 1, 0, none⟩, 2, rfl, Nat.le_refl _, by unfold maxLen; simp, .inr ⟨w.heap.size + 1 + 1, 0, rfl, fun i hi => by
    have h2 : i < 2 := by simpa using hi
    match i, h2 with
    | 0, _ => exact (cell_top2 _ _ _ _ _ (by simp)).1
    | 1, _ => exact (cell_top2 _ _ _ _ _ (by simp)).2⟩⟩
  refine (CC.out (some ⟨w.heap.size + 1 + 1, 0, none⟩) 2 _ (hT.below hA) (hs.below hA) hxx).mono ?_
  rintro r w1 ⟨rfl, hb1⟩
  clear c0 c1 c2 c3 c4 c5 c6 c7 c8 hxx
  obtain ⟨r0, r1, r2, r3, r4, r5, r6, r7, r8, g0, g1, g2, g3, g4, g5, g6, g7, g8⟩ := (R.alloc (.cells #[.int .u64 x, .int .u64 y0] 27)).below hb1
  have bel1 := bel_go hA hb1
  go_wp2
  refine bodyPost_ret (v := .tuple #[A0, .int .i64 c]) (by simp [results, Tryz.results18, go_sem, r0, r1, r2, r3, r4, r5, r6, r7, r8, A0]) rfl ⟨rfl, ?_⟩
  exact (by (repeat with_reducible first | refine Below.setCell ?_ ?_ _ | exact bz0 _ _ | refine bz1 ?_ | refine bz2 ?_ _ | refine bz3 ?_ _ | refine bz4 ?_ bel1 | refine Below.alloc ?_ ?_ _ | refine Below.trans ?_ (Below.mono bel1 ?_)) <;> first | omega | (simp; done) | (simp; omega))
theorem mulS_no (fm : Int) (ng : Bool) (T : Int) (nn bd pl mi am : Bool) (p : Option Addr) (cap : Nat) (zs : List Int) (x y : Int) (w : World) (hs : Sl .u32 w (.slice p zs.length cap) zs) (hl : zs.length ≤ 1048576) (c : Int) (hc : c = tcC (accB fm ng zs T nn bd pl mi am) (okF fm x && okF fm y) T) (hc0 : c ≠ 0) :
    Calls Tryz.prog 16 #[.agg #[.int .i64 fm, .bool ng, .slice p zs.length cap, .int .i64 T, .bool nn, .bool bd, .bool pl, .bool mi, .bool am], .int .u64 x, .int .u64 y] w fun r w' => r = .returned (.tuple #[A0, .int .i64 c]) ∧ Below w.heap.size w w' := by
  have C1 := hid (fun w' h => accok_spec fm ng T nn bd pl mi am p cap zs w' h hl)
  have C2 := hid (fun w' => spec_ok fm x w')
  have C3 := hid (fun w' => spec_ok fm y w')
  have A := (Q9.new w (.int .i64 fm) (.bool ng) (.slice p zs.length cap) (.int .i64 T) (.bool nn) (.bool bd) (.bool pl) (.bool mi) (.bool am) 31).alloc (.cells #[.int .i64 0, .bool false, .slice none 0 0, .int .i64 0, .bool false, .bool false, .bool false, .bool false, .bool false] 31)
  have R := Q9.nw2b w (.cells #[.int .i64 fm, .bool ng, .slice p zs.length cap, .int .i64 T, .bool nn, .bool bd, .bool pl, .bool mi, .bool am] 31) (.int .i64 0) (.bool false) (.slice none 0 0) (.int .i64 0) (.bool false) (.bool false) (.bool false) (.bool false) (.bool false) 31
  have bel0 : Below w.heap.size w ((w.alloc (.cells #[.int .i64 fm, .bool ng, .slice p zs.length cap, .int .i64 T, .bool nn, .bool bd, .bool pl, .bool mi, .bool am] 31)).alloc (.cells #[.int .i64 0, .bool false, .slice none 0 0, .int .i64 0, .bool false, .bool false, .bool false, .bool false, .bool false] 31)) := (by repeat (first | exact bz0 _ _ | refine bz1 ?_ | refine bz2 ?_ _ | refine bz3 ?_ _ | refine bz5 ?_ _ | refine bz6 ?_ _))
  unfold tcC at hc
  cases h1 : accB fm ng zs T nn bd pl mi am
  · rw [h1] at C1 hc
    have hc' : c = 1 := hc
    subst hc'
    clear hc h1 hc0
    obtain ⟨c0, c1, c2, c3, c4, c5, c6, c7, c8⟩ := A.cs
    go_enter Tryz.func16, Tryz.ntmps16
    go_wp2_with fail
    refine (C1.out _ (hs.below bel0)).mono ?_
    rintro r w1 ⟨rfl, hb1⟩
    clear c0 c1 c2 c3 c4 c5 c6 c7 c8
    replace A := A.below hb1
    replace R := R.below hb1
    have bel1 := bel_go bel0 hb1
    obtain ⟨r0, r1, r2, r3, r4, r5, r6, r7, r8, g0, g1, g2, g3, g4, g5, g6, g7, g8⟩ := R
    go_wp2
    refine bodyPost_ret (v := .tuple #[A0, .int .i64 1]) (by simp [results, Tryz.results16, go_sem, r0, r1, r2, r3, r4, r5, r6, r7, r8, A0]) rfl ⟨rfl, ?_⟩
    exact (by (repeat with_reducible first | refine Below.setCell ?_ ?_ _ | exact bz0 _ _ | refine bz1 ?_ | refine bz2 ?_ _ | refine bz3 ?_ _ | refine bz4 ?_ bel1 | refine Below.alloc ?_ ?_ _ | refine Below.trans ?_ (Below.mono bel1 ?_)) <;> first | omega | (simp; done) | (simp; omega))
  rw [h1] at C1 hc
  cases h2 : okF fm x
  · rw [h2] at C2 hc
    have hc' : c = 2 := hc
    subst hc'
    clear hc h1 h2 hc0
    obtain ⟨c0, c1, c2, c3, c4, c5, c6, c7, c8⟩ := A.cs
    go_enter Tryz.func16, Tryz.ntmps16
    go_wp2_with fail
    refine (C1.out _ (hs.below bel0)).mono ?_
    rintro r w1 ⟨rfl, hb1⟩
    clear c0 c1 c2 c3 c4 c5 c6 c7 c8
    replace A := A.below hb1
    replace R := R.below hb1
    have bel1 := bel_go bel0 hb1
    go_wp2_with fail
    refine (C2.out _).mono ?_
    rintro r w2 ⟨rfl, hb2⟩
    replace R := R.below hb2
    have bel2 := bel_go bel1 hb2
    obtain ⟨r0, r1, r2, r3, r4, r5, r6, r7, r8, g0, g1, g2, g3, g4, g5, g6, g7, g8⟩ := R
    go_wp2
    refine bodyPost_ret (v := .tuple #[A0, .int .i64 2]) (by simp [results, Tryz.results16, go_sem, r0, r1, r2, r3, r4, r5, r6, r7, r8, A0]) rfl ⟨rfl, ?_⟩
    exact (by (repeat with_reducible first | refine Below.setCell ?_ ?_ _ | exact bz0 _ _ | refine bz1 ?_ | refine bz2 ?_ _ | refine bz3 ?_ _ | refine bz4 ?_ bel2 | refine Below.alloc ?_ ?_ _ | refine Below.trans ?_ (Below.mono bel2 ?_)) <;> first | omega | (simp; done) | (simp; omega))
  rw [h2] at C2 hc
  cases h3 : okF fm y
  · rw [h3] at C3 hc
    have hc' : c = 2 := hc
    subst hc'
    clear hc h1 h2 h3 hc0
    obtain ⟨c0, c1, c2, c3, c4, c5, c6, c7, c8⟩ := A.cs
    go_enter Tryz.func16, Tryz.ntmps16
    go_wp2_with fail
    refine (C1.out _ (hs.below bel0)).mono ?_
    rintro r w1 ⟨rfl, hb1⟩
    clear c0 c1 c2 c3 c4 c5 c6 c7 c8
    replace A := A.below hb1
    replace R := R.below hb1
    have bel1 := bel_go bel0 hb1
    go_wp2_with fail
    refine (C2.out _).mono ?_
    rintro r w2 ⟨rfl, hb2⟩
    go_wp2_with fail
    refine (C3.out _).mono ?_
    rintro r w3 ⟨rfl, hb3⟩
    replace R := (R.below hb2).below hb3
    have bel3 := bel_go (bel_go bel1 hb2) hb3
    obtain ⟨r0, r1, r2, r3, r4, r5, r6, r7, r8, g0, g1, g2, g3, g4, g5, g6, g7, g8⟩ := R
    go_wp2
    refine bodyPost_ret (v := .tuple #[A0, .int .i64 2]) (by simp [results, Tryz.results16, go_sem, r0, r1, r2, r3, r4, r5, r6, r7, r8, A0]) rfl ⟨rfl, ?_⟩
    exact (by (repeat with_reducible first | refine Below.setCell ?_ ?_ _ | exact bz0 _ _ | refine bz1 ?_ | refine bz2 ?_ _ | refine bz3 ?_ _ | refine bz4 ?_ bel3 | refine Below.alloc ?_ ?_ _ | refine Below.trans ?_ (Below.mono bel3 ?_)) <;> first | omega | (simp; done) | (simp; omega))
  rw [h3] at C3 hc
  by_cases h4 : T = 1000000
  · have hc' : c = 3 := by rw [hc]; simp [h4]
    subst hc' h4
    clear hc h1 h2 h3 hc0
    obtain ⟨c0, c1, c2, c3, c4, c5, c6, c7, c8⟩ := A.cs
    go_enter Tryz.func16, Tryz.ntmps16
    go_wp2_with fail
    refine (C1.out _ (hs.below bel0)).mono ?_
    rintro r w1 ⟨rfl, hb1⟩
    clear c0 c1 c2 c3 c4 c5 c6 c7 c8
    replace A := A.below hb1
    replace R := R.below hb1
    have bel1 := bel_go bel0 hb1
    go_wp2_with fail
    refine (C2.out _).mono ?_
    rintro r w2 ⟨rfl, hb2⟩
    go_wp2_with fail
    refine (C3.out _).mono ?_
    rintro r w3 ⟨rfl, hb3⟩
    replace R := (R.below hb2).below hb3
    have c3 := ((A.below hb2).below hb3).c3
    have bel3 := bel_go (bel_go bel1 hb2) hb3
    obtain ⟨r0, r1, r2, r3, r4, r5, r6, r7, r8, g0, g1, g2, g3, g4, g5, g6, g7, g8⟩ := R
    go_wp2
    refine bodyPost_ret (v := .tuple #[A0, .int .i64 3]) (by simp [results, Tryz.results16, go_sem, r0, r1, r2, r3, r4, r5, r6, r7, r8, A0]) rfl ⟨rfl, ?_⟩
    exact (by (repeat with_reducible first | refine Below.setCell ?_ ?_ _ | exact bz0 _ _ | refine bz1 ?_ | refine bz2 ?_ _ | refine bz3 ?_ _ | refine bz4 ?_ bel3 | refine Below.alloc ?_ ?_ _ | refine Below.trans ?_ (Below.mono bel3 ?_)) <;> first | omega | (simp; done) | (simp; omega))
  · exact absurd (by rw [hc]; simp [h4]) hc0
theorem law_AccMul (fm : Int) (ng : Bool) (T : Int) (nn bd pl mi am : Bool) (a : Option Addr) (cap : Nat) (zs : List Int) (x y : Int) (w : World) (hE : EX w) (hs : Sl .u32 w (.slice a zs.length cap) zs) (hz : Nm.Dg zs) (x0 : 0 ≤ x) (x1 : x < 18446744073709551616) (y0 : 0 ≤ y) (y1 : y < 18446744073709551616) :
    Calls Tryz.prog 3 #[.agg #[.int .i64 fm, .bool ng, .slice a zs.length cap, .int .i64 T, .bool nn, .bool bd, .bool pl, .bool mi, .bool am], .int .u64 x, .int .u64 y] w fun e w' => e = .returned (.bool true) ∧ Below w.heap.size w w' := by
  obtain ⟨c, hc⟩ : ∃ c, c = tcC (accB fm ng zs T nn bd pl mi am) (okF fm x && okF fm y) T := ⟨_, rfl⟩
  by_cases hc0 : c ≠ 0
  · exact LAccMul.law fm ng T nn bd pl mi am a cap zs x y w hE hs 0 false 0 false false false false false [] c (by simp) Nm.Dg.nil
      (fun hl w a cap h => (mulS_no fm ng T nn bd pl mi am a cap zs x y w h hl c hc hc0).mono fun e w' ⟨he, hb⟩ => ⟨none, 0, he, Own.nil _ _, hb⟩)
      (fun hl w a cap hE h => by
        obtain ⟨u, hE⟩ := hE
        exact (mulA_no fm ng T nn bd pl mi am a cap zs x y w hE.t h hl x0 x1 y0 y1 c hc hc0).mono fun e w' ⟨he, hb⟩ => ⟨none, 0, he, Own.nil _ _, hb⟩)
  have hc1 : c = 0 := by omega
  rw [hc1] at hc
  unfold tcC at hc
  cases hk : accB fm ng zs T nn bd pl mi am
  · rw [hk] at hc; simp at hc
  rw [hk] at hc
  cases hxy : (okF fm x && okF fm y)
  · rw [hxy] at hc; simp at hc
  rw [hxy] at hc
  have hTm : T ≠ 1000000 := by intro e; rw [if_pos rfl, if_pos rfl, if_pos e] at hc; cases hc
  obtain ⟨hx, hy⟩ : okF fm x = true ∧ okF fm y = true := by simpa using hxy
  obtain ⟨hfm, hk1, ho, -⟩ := acc_parts hk
  obtain ⟨e1, e2⟩ := okis hz ho
  obtain ⟨s, hs0⟩ : ∃ s : St, s = ⟨Nm.wv ng zs, T, nn, bd, pl, mi, am⟩ := ⟨_, rfl⟩
  have hR : Rt fm s := by rw [hs0]; unfold Rt; rw [e1, e2]; exact hk
  obtain ⟨s', hs'⟩ : ∃ s', s' = s.add (tmM fm x y) := ⟨_, rfl⟩
  have hR' : Rt fm s' := by rw [hs']; exact hR.add (tmM_ok hx hy) (by rw [hs0]; exact hTm)
  refine LAccMul.law fm ng T nn bd pl mi am a cap zs x y w hE hs fm (Nm.wn s'.z) s'.T s'.nn s'.bd s'.pl s'.mi s'.am (Nm.wl s'.z) 0 (okB_nz (acc_parts hR').2.2.1).2 (Nm.wl_dg _) ?_ ?_
  · intro hl' w a cap h
    have := accMS fm s x y a cap w hR hx x0 x1 hy y0 y1 (by rw [hs0]; exact hTm) (by rw [hs0]; show Sl .u32 w (.slice a (Nm.wl (Nm.wv ng zs)).length cap) (Nm.wl (Nm.wv ng zs)); rw [e2]; exact h) s' hs'
    rw [hs0] at this
    dsimp only at this
    rw [e1, e2] at this
    exact this
  · intro hl' w a cap hE h
    obtain ⟨u, hE⟩ := hE
    have := accMI fm s x y a cap u w hE hR hx x0 x1 hy y0 y1 (by rw [hs0]; exact hTm) (by rw [hs0]; show Sl .u32 w (.slice a (Nm.wl (Nm.wv ng zs)).length cap) (Nm.wl (Nm.wv ng zs)); rw [e2]; exact h) s' hs'
    rw [hs0] at this
    dsimp only at this
    rw [e1, e2] at this
    exact this
end Go.Proofs.YtnliofakkkjpoaaGreatDoor
