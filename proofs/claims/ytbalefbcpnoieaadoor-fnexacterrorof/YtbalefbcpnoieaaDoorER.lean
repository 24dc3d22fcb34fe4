/-
  What a sum lacks: the law.
-/
import Derived.Test.YtbalefbcpnoieaaDoorEP
import Derived.Test.YtbalefbcpnoieaaDoorEQ
namespace Go.Proofs.YtbalefbcpnoieaaDoor
set_option linter.unusedVariables false
set_option linter.unusedSimpArgs false
open Go.RowKit Go.Deep
theorem row_lt {w : World} {g n : Nat} {t : TypeId} {f : Nat → Value} (h : w.rowIs g t n f) : g < w.heap.size := by
  obtain ⟨c, h1, h2, h3⟩ := h
  exact (Array.getElem?_eq_some_iff.1 h1).1
theorem row_bel {w w' : World} {g n : Nat} {t : TypeId} {f : Nat → Value} (h : w.rowIs g t n f) (hb : Below w.heap.size w w') : w'.rowIs g t n f := by
  have hlt := row_lt h
  obtain ⟨c, h1, h2, h3⟩ := h
  exact ⟨c, by rw [hb.block g hlt]; exact h1, h2, h3⟩
set_option maxHeartbeats 1000000 in
theorem toV_row (v : Value) (zs : List Int) (w : World) (hs : Sl .u64 w v zs) (hl : zs.length ≤ 1048576) :
    Calls Tryd.prog 13 #[v] w fun e w' => ∃ g, e = .returned (.slice (some ⟨g, 0, none⟩) zs.length zs.length) ∧ w.heap.size ≤ g ∧ g < w'.heap.size ∧ w'.rowIs g 22 zs.length (copV zs zs.length) ∧ Below w.heap.size w w' := by
  obtain ⟨a, cap, rfl, hc1, hc2, hz⟩ := hs
  have hmk := run_make_row' (P := Tryd.prog) 27 22 (.int .u64 0) 8 Tryd.underlying27 info64 rfl .i64 .i64 zs.length (by omega) (by omega)
  go_enter Tryd.func13, Tryd.ntmps13
  go_wp2
  go_loopw [4] (fun i wr => ∃ k : Nat, k ≤ zs.length ∧ i = .int .i64 k ∧ wr.rowIs w.heap.size 22 zs.length (copV zs k) ∧ Below w.heap.size w wr) (fun i _ => zs.length - (intOf i).toNat)
  case atStart => exact ⟨0, Nat.zero_le _, rfl, (World.rowIs_made w _ zs.length 22).congr (fun j _ => by simp [copV]), (Below.refl _ _).alloc (Nat.le_refl _) _⟩
  case round =>
    obtain ⟨k, hk, rfl, hrow, hb⟩ := hrel
    by_cases hlt : k < zs.length
    · obtain ⟨b, off, rfl, hcell⟩ : ∃ b off, a = some ⟨b, off, none⟩ ∧ ∀ i, i < zs.length → w.cell? ⟨b, off + i, none⟩ = some (.int .u64 (zs.getD i 0)) := by
        rcases hz with rfl | hz
        · simp at hlt
        · exact hz
      have hc0 := hcell k hlt
      have hc : wr.cell? ⟨b, off + k, none⟩ = some (.int .u64 (zs.getD k 0)) := (hb.cell (p := ⟨b, off + k, none⟩) (World.block_lt_of_cell? w _ hc0)).trans hc0
      have hold := hrow.cell hlt
      have hfr := hrow.frozen k
      clear hz hcell hc0
      go_wp2
      go_roundw
      case rel => exact ⟨k + 1, by omega, by go_num, copV_step hrow (by simp [hlt]), hb.setCell (Nat.le_refl _) _⟩
      case measure => simp [intOf]; omega
    · obtain rfl : k = zs.length := by omega
      clear hz
      go_wp2
      go_ret
      exact ⟨_, rfl, Nat.le_refl _, row_lt hrow, hrow, hb⟩
theorem R2.box' {w : World} {b : Nat} {v0 v1 : Value} (h : R2 w b v0 v1) : Box w b v0 v1 := ⟨h.c0, h.c1⟩
theorem r2_of {w w' : World} {b : Nat} {v0 v1 : Value} {row : Option Nat} (h : Box w' b v0 v1) (h0 : R2 w b v0 v1) (hg : w.grownBy w' row) (hne : ∀ g, row = some g → b ≠ g) : R2 w' b v0 v1 := by
  have hlt := World.block_lt_of_cell? w _ h0.c0
  have e := hg.block b hlt (by
    cases row with
    | none => simp
    | some g => simpa using hne g rfl)
  exact ⟨h.1, h.2, (World.frozen?_of_block (a := ⟨b, 0, none⟩) e).trans h0.f0, (World.frozen?_of_block (a := ⟨b, 1, none⟩) e).trans h0.f1⟩
theorem row_sl {w : World} {g : Nat} {zs : List Int} (h : w.rowIs g 22 zs.length (copV zs zs.length)) (hl : zs.length ≤ 1048576) : Sl .u64 w (.slice (some ⟨g, 0, none⟩) zs.length zs.length) zs :=
  Sl.of_row64 h (fun i hi => by simp [copV, hi]) (by unfold maxLen; omega)
set_option maxHeartbeats 1000000 in
theorem mark64_any (g n : Nat) (f : Nat → Value) (k : Int) (w : World) (hr : w.rowIs g 22 n f) (hl : n ≤ 1048576) (h0 : 0 ≤ k) (h1 : k ≤ 1073741824) :
    Calls Tryd.prog 17 #[.slice (some ⟨g, 0, none⟩) n n, .int .i64 k] w fun e w' => e = .returned (.int .i64 (k + n)) ∧ w.grownBy w' (some g) := by
  go_enter Tryd.func17, Tryd.ntmps17
  go_wp2
  go_loopw [1, 5] (fun q i wr => ∃ (j : Nat) (f : Nat → Value), j ≤ n ∧ i = .int .i64 j ∧ q = .int .i64 (k + j) ∧ wr.rowIs g 22 n f ∧ w.grownBy wr (some g)) (fun _ i _ => n - (intOf i).toNat)
  case atStart => exact ⟨0, f, Nat.zero_le _, rfl, by simp, hr, ⟨rfl, rfl, rfl, Nat.le_refl _, fun _ _ _ => rfl⟩⟩
  case round =>
    clear hr f
    obtain ⟨j, f, hj, rfl, rfl, hrow, hg⟩ := hrel
    by_cases hlt : j < n
    · have hc := hrow.cell hlt
      have hf := hrow.frozen j
      have HG := hid hg
      clear hg
      go_wp2
      go_roundw
      case rel =>
        refine ⟨j + 1, _, by omega, by go_num, by go_num, hrow.set j _, ?_⟩
        have hg := HG.out
        exact ⟨hg.os, hg.tape, hg.output, by have := hg.size; simp; omega, fun i hi hne => (Below.heap_setCell _ _ _ _ (by intro e; exact hne (by rw [e]))).trans (hg.block i hi hne)⟩
      case measure => simp [intOf]; omega
    · obtain rfl : j = n := by omega
      go_wp2
      go_ret
      exact ⟨rfl, hg⟩
set_option maxHeartbeats 8000000 in
set_option maxRecDepth 100000 in
theorem law_ErrorOf (fm : Int) (a : Option Addr) (cap : Nat) (xs : List Int) (b : Int) (w : World) (hT : Tab w) (hx : Sl .u64 w (.slice a xs.length cap) xs) (dx : D64 xs) (x0 : 0 ≤ b) (x1 : b < 18446744073709551616) :
    Calls Tryd.prog 5 #[.int .i64 fm, .slice a xs.length cap, .int .u64 b] w fun e w' => e = .returned (.bool true) ∧ Below w.heap.size w w' := by
  have hlm : xs.length ≤ 9223372036854775807 := by obtain ⟨_, h1, h2, _⟩ := hx.cells; unfold maxLen at h2; omega
  by_cases hn : xs.length ≤ 1048576
  · have hl : xs.length ≤ 140737488355328 := by omega
    have hl200 := eV_len fm b xs
    have hdg := Nm.wl_dg (eV fm b xs)
    have hse := eqW_refl (Nm.wn (eV fm b xs)) (Nm.wl (eV fm b xs))
    have hsp := fun a c w h => errs_all fm b xs a c w x0 x1 h dx hn
    have him := fun a c w h h' => erri_all fm b xs a c w h x0 x1 h' dx hn
    unfold AnsE at hsp him
    obtain ⟨L, hL⟩ : ∃ L, L = Nm.wl (eV fm b xs) := ⟨_, rfl⟩
    obtain ⟨G, hG⟩ : ∃ G, G = Nm.wn (eV fm b xs) := ⟨_, rfl⟩
    obtain ⟨O, hO⟩ : ∃ O, O = eO fm b xs := ⟨_, rfl⟩
    rw [← hL] at hl200 hdg hse
    rw [← hG] at hse
    simp only [← hL, ← hG, ← hO] at him hsp
    clear hL hG hO
    have q3 : (O != O) = false := by simp
    have HSP := hid hsp
    have HIM := hid him
    have hr : heldR 1 (iot 1 L.length) = 1 + L.length := heldR_iot _
    have HR := hid hr
    have HEI := hid (iot_length 1 L.length)
    have hdI := iot_dg L.length (by omega)
    have HDI := hid hdI
    clear hsp him hdg hr dx hdI
    go_enter Tryd.func5, Tryd.ntmps5
    go_wp2_with fail
    refine (toV_any _ xs _ hx hn).mono ?_
    rintro e w1 ⟨a1, c1, rfl, s1, hb1⟩
    go_wp2_with fail
    refine (HSP.out a1 c1 _ s1).mono ?_
    rintro e w2 ⟨a2, c2, rfl, o2, hb2⟩
    have X2 := R2.new w2 (.bool G) (.slice a2 L.length c2) 30
    have bel2 := bel_al (bel_go hb1 hb2) (.cells #[.bool G, .slice a2 L.length c2] 30)
    have o2' := o2.alloc (.cells #[.bool G, .slice a2 L.length c2] 30)
    have l2 : w.heap.size ≤ w2.heap.size := by have := hb1.size; have := hb2.size; omega
    clear hb1 hb2 s1
    go_wp2_with fail
    refine (toV_row _ xs _ (hx.below bel2) hn).mono ?_
    rintro e w3 ⟨g, rfl, g0, g1, r3, hb3⟩
    have g0 : w2.heap.size + 1 ≤ g := by simpa using g0
    have X3 := X2.below hb3
    have o3 := o2'.below hb3
    have bel3 := bel_go bel2 hb3
    clear hb3 X2 o2'
    go_wp2_with fail
    refine (HIM.out _ _ _ (hT.below bel3) (row_sl r3 hn)).mono ?_
    rintro e w4 ⟨a4, c4, rfl, o4, hb4⟩
    have X4 := (X3.below hb4).alloc (.cells #[.bool G, .slice a4 L.length c4] 30)
    have Y4 := R2.new w4 (.bool G) (.slice a4 L.length c4) 30
    have p4 := o4.alloc (.cells #[.bool G, .slice a4 L.length c4] 30)
    have q4 := (o3.below hb4).alloc (.cells #[.bool G, .slice a4 L.length c4] 30)
    have r4 := row_bel (row_bel r3 hb4) (bel_al (Below.refl _ _) (.cells #[.bool G, .slice a4 L.length c4] 30))
    have bel4 := bel_al (bel_go bel3 hb4) (.cells #[.bool G, .slice a4 L.length c4] 30)
    have l4 : w3.heap.size ≤ w4.heap.size := hb4.size
    have la : ∀ g, (Value.slice a4 L.length c4).ownBlock = some g → w3.heap.size ≤ g ∧ g < w4.heap.size := fun g hg => o4.at L.length c4 g hg
    have lb : ∀ g, a2 = some ⟨g, 0, none⟩ → g < w2.heap.size := fun g hg => by
      rcases o2.block with ⟨e, _⟩ | ⟨g', e, _, h3⟩
      · rw [e] at hg; cases hg
      · rw [e] at hg; cases hg; exact h3
    have lc : ∀ g, a4 = some ⟨g, 0, none⟩ → w3.heap.size ≤ g := fun g hg => by
      rcases o4.block with ⟨e, _⟩ | ⟨g', e, h3, _⟩
      · rw [e] at hg; cases hg
      · rw [e] at hg; cases hg; exact h3
    clear hb4 X3 o3 r3 bel2 bel3 o4 o2
    obtain ⟨x0', x1', -, -⟩ := id X4
    obtain ⟨y0', y1', -, -⟩ := id Y4
    go_wp2_with fail
    refine (eqW_any G G a4 a2 c4 c2 L L _ p4.sl q4.sl (by omega)).mono ?_
    rintro e w5 ⟨rfl, hb5⟩
    clear x0' x1' y0' y1'
    have X5 := X4.below hb5
    have Y5 := Y4.below hb5
    have p5 := p4.below hb5
    have q5 := q4.below hb5
    have r5 := row_bel r4 hb5
    have bel5 := bel_go bel4 hb5
    clear hb5 X4 Y4 p4 q4 r4
    go_wp2_with fail
    refine (toV_any _ xs _ (hx.below bel5) hn).mono ?_
    rintro e w6 ⟨a6, c6, rfl, s6, hb6⟩
    go_wp2_with fail
    refine (eqV_same (some ⟨g, 0, none⟩) a6 xs.length c6 xs _ (row_sl (row_bel r5 hb6) hn) s6 hl).mono ?_
    rintro e w7 ⟨rfl, hb7⟩
    have X7 := (X5.below hb6).below hb7
    have Y7 := (Y5.below hb6).below hb7
    have p7 := (p5.below hb6).below hb7
    have q7 := (q5.below hb6).below hb7
    have r7 := row_bel (row_bel r5 hb6) hb7
    have bel7 := bel_go (bel_go bel5 hb6) hb7
    clear hb6 hb7 s6 X5 Y5 p5 q5 r5 bel5 bel4
    go_wp2_with fail
    refine (mark64_any g xs.length _ 1 _ r7 hn (by decide) (by decide)).mono ?_
    rintro e w8 ⟨rfl, hg8⟩
    have X8 := X7.grown hg8 (by omega)
    have Y8 := Y7.grown hg8 (by omega)
    have p8 := p7.kept hg8 (fun g' h' => by have := lc g' h'; simp; omega)
    have q8 := q7.kept hg8 (fun g' h' => by have := lb g' h'; simp; omega)
    have bel8 := bel_mark bel7 hg8 (fun g' h' => by cases h'; omega)
    clear X7 Y7 p7 q7 r7 bel7 hg8
    have hk0 : ¬ (1 + (xs.length : Int) < 0) := by omega
    have hk1 : decide (1 + (xs.length : Int) < 0) = false := decide_eq_false hk0
    obtain ⟨x0', x1', -, -⟩ := id X8
    obtain ⟨y0', y1', -, -⟩ := id Y8
    go_wp2_with fail
    refine (eqW_any G G a4 a2 c4 c2 L L _ p8.sl q8.sl (by omega)).mono ?_
    rintro e w9 ⟨rfl, hb9⟩
    clear x0' x1' y0' y1'
    have X9 := X8.below hb9
    have Y9 := Y8.below hb9
    have p9 := p8.below hb9
    have q9 := q8.below hb9
    have bel9 := bel_go bel8 hb9
    clear hb9 X8 Y8 p8 q8 bel8
    obtain ⟨y0', y1', -, -⟩ := id Y9
    go_wp2_with fail
    refine (markW_any G a4 c4 L 1 _ _ p9 (by omega) (by decide) (by decide)).mono ?_
    rintro e w10 ⟨rfl, hm10, hg10⟩
    clear y0' y1'
    have X10 : R2 w10 w2.heap.size (.bool G) (.slice a2 L.length c2) := by
      have := Box.grown X9.box' hg10 (fun g' hg => by have := la g' hg; omega)
      exact r2_of this X9 hg10 (fun g' hg => by have := la g' hg; omega)
    have Y10 : R2 w10 w4.heap.size (.bool G) (.slice a4 L.length c4) := by
      have := Box.grown Y9.box' hg10 (fun g' hg => by have := la g' hg; omega)
      exact r2_of this Y9 hg10 (fun g' hg => by have := la g' hg; omega)
    have q10 := q9.kept hg10 (fun g' h' h'' => by have := lb g' h'; have := la g' h''; omega)
    have bel10 := bel_mark bel9 hg10 (fun g' h' => by have := la g' h'; omega)
    have m10 : Own w10 w3.heap.size a4 c4 (iot 1 L.length) := hm10
    clear X9 Y9 p9 q9 bel9 hm10 hg10
    obtain ⟨y0', y1', -, -⟩ := id Y10
    go_wp2_with fail
    have c11 := heldW_any G a4 c4 (iot 1 L.length) 1 w10 m10.sl HDI.out (by rw [HEI.out]; omega) (by decide) (by decide)
    rw [HEI.out, HR.out] at c11
    refine c11.mono ?_
    clear c11 y0' y1'
    rintro e w11 ⟨rfl, hb11⟩
    have X11 := X10.below hb11
    have Y11 := Y10.below hb11
    have q11 := q10.below hb11
    have m11 := m10.below hb11
    have bel11 := bel_go bel10 hb11
    clear hb11 X10 Y10 q10 m10 bel10
    have hne : ((1 : Int) + L.length != 1 + L.length) = false := by simp
    have hnn : ¬ (1 + (L.length : Int) < 0) := by omega
    have hn1 : decide (1 + (L.length : Int) < 0) = false := decide_eq_false hnn
    go_wp2_with fail
    refine (toV_any _ xs _ (hx.below bel11) hn).mono ?_
    rintro e w12 ⟨a12, c12, rfl, s12, hb12⟩
    have bel12 := bel_go bel11 hb12
    go_wp2_with fail
    refine (HIM.out _ _ _ (hT.below bel12) s12).mono ?_
    rintro e w13 ⟨a13, c13, rfl, o13, hb13⟩
    have X13 := ((X11.below hb12).below hb13).alloc (.cells #[.bool G, .slice a13 L.length c13] 30)
    have Y13 := ((Y11.below hb12).below hb13).alloc (.cells #[.bool G, .slice a13 L.length c13] 30)
    have q13 := ((q11.below hb12).below hb13).alloc (.cells #[.bool G, .slice a13 L.length c13] 30)
    have m13 := ((m11.below hb12).below hb13).alloc (.cells #[.bool G, .slice a13 L.length c13] 30)
    have Z13 := R2.new w13 (.bool G) (.slice a13 L.length c13) 30
    have z13 := o13.alloc (.cells #[.bool G, .slice a13 L.length c13] 30)
    have bel13 := bel_al (bel_go bel12 hb13) (.cells #[.bool G, .slice a13 L.length c13] 30)
    clear hb12 hb13 s12 X11 Y11 q11 m11 bel11 bel12 o13
    obtain ⟨x0', x1', -, -⟩ := id X13
    obtain ⟨z0', z1', -, -⟩ := id Z13
    go_wp2_with fail
    refine (eqW_any G G a13 a2 c13 c2 L L _ z13.sl q13.sl (by omega)).mono ?_
    rintro e w14 ⟨rfl, hb14⟩
    clear x0' x1' z0' z1'
    obtain ⟨y0', y1', -, -⟩ := Y13.below hb14
    have m14 := m13.below hb14
    have bel14 := bel_go bel13 hb14
    go_wp2_with fail
    have c15 := heldW_any G a4 c4 (iot 1 L.length) 1 w14 m14.sl HDI.out (by rw [HEI.out]; omega) (by decide) (by decide)
    rw [HEI.out, HR.out] at c15
    refine c15.mono ?_
    clear c15
    rintro e w15 ⟨rfl, hb15⟩
    go_wp2
    go_ret
    exact ⟨rfl, bel_go bel14 hb15⟩
  · go_enter Tryd.func5, Tryd.ntmps5
    go_wp2
    go_ret
    exact ⟨rfl, Below.refl _ _⟩
end Go.Proofs.YtbalefbcpnoieaaDoor
