/-
  What is needed of RK, EO.
-/
import Derived.Test.YtbhfbaogmkgmiaaGreatDoorC34
import Derived.Test.YtbhfbaogmkgmiaaGreatDoorC40
set_option maxHeartbeats 16000000
set_option maxRecDepth 1000000
namespace Go.Proofs.YtbhfbaogmkgmiaaGreatDoor
set_option linter.unusedVariables false
set_option linter.unusedSimpArgs false
open Go.RowKit Go.Deep
theorem sQ_any (fm : Int) (w : World) (h : fmtB fm = true) :
    Calls Tryz.prog 71 #[.int .i64 fm] w fun e w' => e = .returned (.int .i64 (unQ fm)) ∧ w' = w := by
  rcases fmt_cases h with rfl | rfl
  · exact sQ_32 w
  · exact sQ_64 w
attribute [local go_sem ↓] Go.wp_at_zero Go.wp_at_succ
theorem l2units_any (fm x : Int) (w : World) (hf : finB fm x = true) (x0 : 0 ≤ x) (x1 : x < 18446744073709551616) :
    Calls Tryz.prog 72 #[.int .i64 fm, .int .u64 x] w fun e w' => ∃ a' c', e = .returned (.agg #[.bool (Nm.wn (unI fm x)), .slice a' (Nm.wl (unI fm x)).length c']) ∧ Own w' w.heap.size a' c' (Nm.wl (unI fm x)) ∧ Below w.heap.size w w' := by
  have hfm := fin_fmt hf
  have CP := hid (fun w' => sparts_any fm x w' hf x0 x1)
  have CQ := hid (fun w' => sQ_any fm w' hfm)
  obtain ⟨G, L, z, E, Q, hz, hE, hQ, z0, z1, e0, e1, q0, q1, d0, d1, hG, hL, hd, hl2, hsh, hok, hl200⟩ := un_parts hf
  have CG := hid (fun w' => l1uint_z z (pS fm x) w' z0 (by omega))
  rw [← hG, ← hL] at CG
  rw [← hz, ← hE] at CP
  rw [← hQ] at CQ
  have hwr : IntKind.i64.wrap (E - Q) = E - Q := by rw [IntKind.wrap_i64]; omega
  have CR := hid (fun a c w' h => l1shift_any G a c L (IntKind.i64.wrap (E - Q)) w' h hd (by omega) (by rw [hwr]; omega) (by rw [hwr]; omega) (unI fm x) (by rw [hwr]; exact hsh.symm))
  obtain ⟨sg, hsg⟩ : ∃ sg, sg = pS fm x := ⟨_, rfl⟩
  rw [← hsg] at CG CP
  obtain ⟨G2, hG2⟩ : ∃ G2, G2 = Nm.wn (unI fm x) := ⟨_, rfl⟩
  obtain ⟨L2, hL2⟩ : ∃ L2, L2 = Nm.wl (unI fm x) := ⟨_, rfl⟩
  rw [← hG2, ← hL2] at CR ⊢
  have hzw : IntKind.u64.wrap z = z := by rw [IntKind.wrap_u64]; omega
  clear hz hE hQ hG hL hd hl2 hsh hok hl200 hsg hG2 hL2 hfm hwr
  go_enter Tryz.func72, Tryz.ntmps72
  go_wp2_with fail
  refine (CP.out _).mono ?_
  rintro r w1 ⟨rfl, hb1⟩
  have c1 := ((R2.new w (.bool false) (.slice none 0 0) 26).below hb1).alloc (.cells #[.bool sg, .int .i64 z, .int .i64 E] 112)
  have p1 := R3.new w1 (.bool sg) (.int .i64 z) (.int .i64 E) 112
  have lw1 : w.heap.size < w1.heap.size := by have := hb1.size; simp at this; omega
  obtain ⟨W, hW⟩ : ∃ W, W = w1.alloc (.cells #[.bool sg, .int .i64 z, .int .i64 E] 112) := ⟨_, rfl⟩
  have bel1 : Below (w.heap.size + 1) (w.alloc (.cells #[.bool false, .slice none 0 0] 26)) W := by rw [hW]; exact (by simpa using hb1.alloc hb1.size _)
  have belw : Below w.heap.size w W := by rw [hW]; exact (by repeat (first | exact bz0 _ _ | refine bz1 ?_ | refine bz2 ?_ _ | refine bz3 ?_ _ | refine bz4 ?_ hb1 | refine bz5 ?_ _ | refine bz6 ?_ _ | refine bz7 ?_ hb1))
  have lW : w1.heap.size < W.heap.size := by rw [hW]; simp
  go_wp2_with fail
  rw [← hW] at c1 p1 ⊢
  clear hW hb1
  obtain ⟨p10, p11, p12, p1f, p1g, p1h⟩ := p1
  have pd0 : W.drew.cell? ⟨w1.heap.size, 0, none⟩ = some (.bool sg) := p10
  have pd1 : W.drew.cell? ⟨w1.heap.size, 1, none⟩ = some (.int .i64 z) := p11
  have pd2 : W.drew.cell? ⟨w1.heap.size, 2, none⟩ = some (.int .i64 E) := p12
  go_region_held3 (fun w' => w'.cell? ⟨w1.heap.size, 0, none⟩ = some (.bool sg) ∧ w'.cell? ⟨w1.heap.size, 1, none⟩ = some (.int .i64 z) ∧ w'.cell? ⟨w1.heap.size, 2, none⟩ = some (.int .i64 E))
    (first
      | with_reducible assumption
      | with_reducible exact ⟨p10, p11, p12⟩
      | with_reducible exact ⟨pd0, pd1, pd2⟩
      | with_reducible exact ⟨rr1.c0, rr1.c1, rr1.c2⟩
      | with_reducible exact ⟨rr2.c0, rr2.c1, rr2.c2⟩
      | with_reducible exact ⟨(ss2 _ _).c0, (ss2 _ _).c1, (ss2 _ _).c2⟩)
    (first
      | (go_at_call 122; refine (CG.out _).mono ?_; rintro r q1' ⟨da, fa, rfl, hp1, hq1⟩; have rr1 := R3.below (R3.dr ⟨p10, p11, p12, p1f, p1g, p1h⟩) hq1; have cc1 := c1.drew.below hq1; have hB1 : Below W.heap.size W q1' := bel_go (Below.drew (Below.refl _ _)) hq1)
      | (go_at_call 71; refine (CQ.out _).mono ?_; rintro r q3 ⟨rfl, rfl⟩)
      | (go_at_call 69; refine (CR.out da fa _ hp1.sl).mono ?_; rintro r q2' ⟨db, fb, rfl, hp2, hq2⟩; have rr2 := R3.below rr1 hq2; have ss2 := fun u v => (R3.other rr2 (p := ⟨w.heap.size, 0, none⟩) (by simp; omega) u).other (p := ⟨w.heap.size, 1, none⟩) (by simp; omega) v; have cc2 := cc1.below hq2; have hB2 : Below W.heap.size W q2' := bel_go hB1 hq2; obtain ⟨cc20, cc21, cc2f, cc2g⟩ := cc2))
  all_goals go_wp2
  all_goals
    have l1 := hB1.size
    refine bodyPost_ret (v := .agg #[.bool G2, .slice db L2.length fb]) (by simp [results, Tryz.results72, go_sem, cc20, cc21]) rfl ⟨db, fb, rfl, ?_, ?_⟩
    · exact Own.base ((hp2.setBelow (by simp; omega) _).setBelow (by simp; omega) _) (by omega)
    · exact Below.setCell (Below.setCell (belw.trans (hB2.mono belw.size)) (by simp) _) (by simp) _
/-- What both answer: a wide, and whether it is finite. -/
def Ans (w w' : World) (r : Ending) (fm x : Int) : Prop := ∃ a' c', r = .returned (.tuple #[.agg #[.bool (Nm.wn (unI fm x)), .slice a' (Nm.wl (unI fm x)).length c'], .bool (finB fm x)]) ∧ Own w' w.heap.size a' c' (Nm.wl (unI fm x)) ∧ Below w.heap.size w w'
theorem ans_no {w w' : World} {fm x : Int} (h : finB fm x = false) (hb : Below w.heap.size w w') : Ans w w' (.returned (.tuple #[.agg #[.bool false, .slice none 0 0], .bool false])) fm x := by
  have e1 : Nm.wl (unI fm x) = [] := by rw [un_no h]; exact Nm.lim_zero
  have e2 : Nm.wn (unI fm x) = false := by rw [un_no h]; decide
  refine ⟨none, 0, ?_, ?_, hb⟩
  · rw [e1, e2, h]; rfl
  · rw [e1]; exact Own.nil _ _
theorem units_impl (fm x : Int) (w : World) (hT : Tab w) (x0 : 0 ≤ x) (x1 : x < 18446744073709551616) :
    Calls Tryz.prog 39 #[.int .i64 fm, .int .u64 x] w fun r w' => Ans w w' r fm x := by
  have CF := hid (fun w' h => impl_parts fm x w' h x0 x1)
  cases hf : finB fm x
  · rw [hf] at CF
    have HF := hid hf
    clear hf
    go_enter Tryz.func39, Tryz.ntmps39
    go_wp2_with fail
    refine (CF.out _ (hT.al _)).mono ?_
    rintro r w1 ⟨rfl, hb1⟩
    obtain ⟨c0, c1, f0, f1⟩ := (R2.new w (.bool false) (.slice none 0 0) 26).below hb1
    have lw1 : w.heap.size < w1.heap.size := World.block_lt_of_cell? w1 _ c0
    go_wp2
    exact bodyPost_ret (v := .tuple #[.agg #[.bool false, .slice none 0 0], .bool false]) (by simp [results, Tryz.results39, go_sem, c0, c1, lw1]) rfl (ans_no HF.out (by repeat (first | exact bz0 _ _ | refine bz1 ?_ | refine bz2 ?_ _ | refine bz3 ?_ _ | refine bz4 ?_ hb1 | refine bz5 ?_ _ | refine bz6 ?_ _ | refine bz7 ?_ hb1)))
  · have hfm := fin_fmt hf
    obtain ⟨G, L, z, E, Q, hz, hE, hQ, z0, z1, e0, e1, q0, q1, d0, d1, hG, hL, hd, hl2, hsh, hok, hl200⟩ := un_parts hf
    unfold Ans
    rw [hf] at CF ⊢
    have CG := hid (fun w' => signedM_z (pS fm x) z E w' z0 (by omega))
    rw [← hG, ← hL] at CG
    rw [← hz, ← hE] at CF
    have hwr : IntKind.i64.wrap (E - Q) = E - Q := by rw [IntKind.wrap_i64]; omega
    have CR := hid (fun a c w' h => wsh_impl G a c L (IntKind.i64.wrap (E - Q)) w' h hd (by omega))
    have hin : inZ (IntKind.i64.wrap (E - Q)) (-10000) 10000 = true := by rw [hwr]; simp [inZ]; omega
    have hfit : Nm.fits (unI fm x) = true := by unfold Nm.fits; exact decide_eq_true hl200
    have hval : Nm.shV G (Nm.val L) (IntKind.i64.wrap (E - Q)) = unI fm x := by rw [hwr]; exact hsh
    rw [hok, hin, hval, Bool.and_self, (op_yes _).1, (op_yes _).2.1, (op_yes _).2.2, (out_fits hfit).1, (out_fits hfit).2, hfit] at CR
    obtain ⟨sg, hsg⟩ : ∃ sg, sg = pS fm x := ⟨_, rfl⟩
    rw [← hsg] at CG CF
    obtain ⟨G2, hG2⟩ : ∃ G2, G2 = Nm.wn (unI fm x) := ⟨_, rfl⟩
    obtain ⟨L2, hL2⟩ : ∃ L2, L2 = Nm.wl (unI fm x) := ⟨_, rfl⟩
    rw [← hG2, ← hL2] at CR ⊢
    clear hf hz hE hG hL hd hl2 hsh hok hl200 hsg hG2 hL2 hwr hin hfit hval
    rcases fmt_cases hfm with rfl | rfl
    · have hQ' : Q = (-149) := hQ
      clear hfm hQ
      subst hQ'
      go_enter Tryz.func39, Tryz.ntmps39
      go_wp2_with fail
      refine (CF.out _ (hT.al _)).mono ?_
      rintro r w1 ⟨rfl, hb1⟩
      have c1 := ((R2.new w (.bool false) (.slice none 0 0) 26).below hb1).alloc (.cells #[.bool sg, .int .i64 z, .int .i64 E] 112)
      have p1 := R3.new w1 (.bool sg) (.int .i64 z) (.int .i64 E) 112
      have T1 := ((hT.al _).below hb1).al (.cells #[.bool sg, .int .i64 z, .int .i64 E] 112)
      have lw1 : w.heap.size < w1.heap.size := by have := hb1.size; simp at this; omega
      go_wp2_with fail
      refine (sizes32 _ T1).mono ?_
      rintro r w2 ⟨rfl, hb2⟩
      have c2 := (c1.below hb2).alloc (.cells #[.int .u64 23, .int .u64 255, .int .i64 (-149)] 101)
      have p2 := (p1.below hb2).al (.cells #[.int .u64 23, .int .u64 255, .int .i64 (-149)] 101)
      have s2 := R3.new w2 (.int .u64 23) (.int .u64 255) (.int .i64 (-149)) 101
      have lw2 : w1.heap.size < w2.heap.size := by have := hb2.size; simp at this; omega
      obtain ⟨W, hW⟩ : ∃ W, W = w2.alloc (.cells #[.int .u64 23, .int .u64 255, .int .i64 (-149)] 101) := ⟨_, rfl⟩
      have belw : Below w.heap.size w W := by rw [hW]; exact (by repeat (first | exact bz0 _ _ | refine bz1 ?_ | refine bz2 ?_ _ | refine bz3 ?_ _ | refine bz4 ?_ hb2 | refine bz4 ?_ hb1 | refine bz5 ?_ _ | refine bz6 ?_ _ | refine bz7 ?_ hb2 | refine bz7 ?_ hb1))
      have lW : w2.heap.size < W.heap.size := by rw [hW]; simp
      go_wp2_with fail
      rw [← hW] at c2 p2 s2 ⊢
      clear hW hb1 hb2 c1 p1 T1
      obtain ⟨p10, p11, p12, p1f, p1g, p1h⟩ := p2
      obtain ⟨s10, s11, s12, s1f, s1g, s1h⟩ := s2
      have pd0 : W.drew.cell? ⟨w1.heap.size, 0, none⟩ = some (.bool sg) := p10
      have pd1 : W.drew.cell? ⟨w1.heap.size, 1, none⟩ = some (.int .i64 z) := p11
      have pd2 : W.drew.cell? ⟨w1.heap.size, 2, none⟩ = some (.int .i64 E) := p12
      have sd2 : W.drew.cell? ⟨w2.heap.size, 2, none⟩ = some (.int .i64 (-149)) := s12
      go_region_held3 (fun w' => w'.cell? ⟨w1.heap.size, 0, none⟩ = some (.bool sg) ∧ w'.cell? ⟨w1.heap.size, 1, none⟩ = some (.int .i64 z) ∧ w'.cell? ⟨w1.heap.size, 2, none⟩ = some (.int .i64 E) ∧ w'.cell? ⟨w2.heap.size, 2, none⟩ = some (.int .i64 (-149)))
        (first
          | with_reducible assumption
          | with_reducible exact ⟨p10, p11, p12, s12⟩
          | with_reducible exact ⟨pd0, pd1, pd2, sd2⟩
          | with_reducible exact ⟨rr1.c0, rr1.c1, rr1.c2, sr1.c2⟩
          | with_reducible exact ⟨rr2.c0, rr2.c1, rr2.c2, sr2.c2⟩
          | with_reducible exact ⟨(ss2 _ _).c0, (ss2 _ _).c1, (ss2 _ _).c2, (st2 _ _).c2⟩)
        (first
          | (go_at_call 112; refine (CG.out _).mono ?_; rintro r q1' ⟨da, fa, rfl, hp1, hq1⟩; have rr1 := R3.below (R3.dr ⟨p10, p11, p12, p1f, p1g, p1h⟩) hq1; have sr1 := R3.below (R3.dr ⟨s10, s11, s12, s1f, s1g, s1h⟩) hq1; have cc1 := c2.drew.below hq1; have hB1 : Below W.heap.size W q1' := bel_go (Below.drew (Below.refl _ _)) hq1)
          | (go_at_call 40; refine (CR.out da fa _ hp1.sl).mono ?_; rintro r q2' ⟨db, fb, rfl, hp2, hq2⟩; have rr2 := R3.below rr1 hq2; have sr2 := R3.below sr1 hq2; have ss2 := fun u v => (R3.other rr2 (p := ⟨w.heap.size, 0, none⟩) (by simp; omega) u).other (p := ⟨w.heap.size, 1, none⟩) (by simp; omega) v; have st2 := fun u v => (R3.other sr2 (p := ⟨w.heap.size, 0, none⟩) (by simp; omega) u).other (p := ⟨w.heap.size, 1, none⟩) (by simp; omega) v; have cc2 := cc1.below hq2; have hB2 : Below W.heap.size W q2' := bel_go hB1 hq2; obtain ⟨cc20, cc21, cc2f, cc2g⟩ := cc2))
      all_goals go_wp2
      all_goals
        have l1 := hB1.size
        refine bodyPost_ret (v := .tuple #[.agg #[.bool G2, .slice db L2.length fb], .bool true]) (by simp [results, Tryz.results39, go_sem, cc20, cc21]) rfl ⟨db, fb, rfl, ?_, ?_⟩
        · exact Own.base ((hp2.setBelow (by simp; omega) _).setBelow (by simp; omega) _) (by omega)
        · exact Below.setCell (Below.setCell (belw.trans (hB2.mono belw.size)) (by simp) _) (by simp) _
    · have hQ' : Q = (-1074) := hQ
      clear hfm hQ
      subst hQ'
      go_enter Tryz.func39, Tryz.ntmps39
      go_wp2_with fail
      refine (CF.out _ (hT.al _)).mono ?_
      rintro r w1 ⟨rfl, hb1⟩
      have c1 := ((R2.new w (.bool false) (.slice none 0 0) 26).below hb1).alloc (.cells #[.bool sg, .int .i64 z, .int .i64 E] 112)
      have p1 := R3.new w1 (.bool sg) (.int .i64 z) (.int .i64 E) 112
      have T1 := ((hT.al _).below hb1).al (.cells #[.bool sg, .int .i64 z, .int .i64 E] 112)
      have lw1 : w.heap.size < w1.heap.size := by have := hb1.size; simp at this; omega
      go_wp2_with fail
      refine (sizes64 _ T1).mono ?_
      rintro r w2 ⟨rfl, hb2⟩
      have c2 := (c1.below hb2).alloc (.cells #[.int .u64 52, .int .u64 2047, .int .i64 (-1074)] 101)
      have p2 := (p1.below hb2).al (.cells #[.int .u64 52, .int .u64 2047, .int .i64 (-1074)] 101)
      have s2 := R3.new w2 (.int .u64 52) (.int .u64 2047) (.int .i64 (-1074)) 101
      have lw2 : w1.heap.size < w2.heap.size := by have := hb2.size; simp at this; omega
      obtain ⟨W, hW⟩ : ∃ W, W = w2.alloc (.cells #[.int .u64 52, .int .u64 2047, .int .i64 (-1074)] 101) := ⟨_, rfl⟩
      have belw : Below w.heap.size w W := by rw [hW]; exact (by repeat (first | exact bz0 _ _ | refine bz1 ?_ | refine bz2 ?_ _ | refine bz3 ?_ _ | refine bz4 ?_ hb2 | refine bz4 ?_ hb1 | refine bz5 ?_ _ | refine bz6 ?_ _ | refine bz7 ?_ hb2 | refine bz7 ?_ hb1))
      have lW : w2.heap.size < W.heap.size := by rw [hW]; simp
      go_wp2_with fail
      rw [← hW] at c2 p2 s2 ⊢
      clear hW hb1 hb2 c1 p1 T1
      obtain ⟨p10, p11, p12, p1f, p1g, p1h⟩ := p2
      obtain ⟨s10, s11, s12, s1f, s1g, s1h⟩ := s2
      have pd0 : W.drew.cell? ⟨w1.heap.size, 0, none⟩ = some (.bool sg) := p10
      have pd1 : W.drew.cell? ⟨w1.heap.size, 1, none⟩ = some (.int .i64 z) := p11
      have pd2 : W.drew.cell? ⟨w1.heap.size, 2, none⟩ = some (.int .i64 E) := p12
      have sd2 : W.drew.cell? ⟨w2.heap.size, 2, none⟩ = some (.int .i64 (-1074)) := s12
      go_region_held3 (fun w' => w'.cell? ⟨w1.heap.size, 0, none⟩ = some (.bool sg) ∧ w'.cell? ⟨w1.heap.size, 1, none⟩ = some (.int .i64 z) ∧ w'.cell? ⟨w1.heap.size, 2, none⟩ = some (.int .i64 E) ∧ w'.cell? ⟨w2.heap.size, 2, none⟩ = some (.int .i64 (-1074)))
        (first
          | with_reducible assumption
          | with_reducible exact ⟨p10, p11, p12, s12⟩
          | with_reducible exact ⟨pd0, pd1, pd2, sd2⟩
          | with_reducible exact ⟨rr1.c0, rr1.c1, rr1.c2, sr1.c2⟩
          | with_reducible exact ⟨rr2.c0, rr2.c1, rr2.c2, sr2.c2⟩
          | with_reducible exact ⟨(ss2 _ _).c0, (ss2 _ _).c1, (ss2 _ _).c2, (st2 _ _).c2⟩)
        (first
          | (go_at_call 112; refine (CG.out _).mono ?_; rintro r q1' ⟨da, fa, rfl, hp1, hq1⟩; have rr1 := R3.below (R3.dr ⟨p10, p11, p12, p1f, p1g, p1h⟩) hq1; have sr1 := R3.below (R3.dr ⟨s10, s11, s12, s1f, s1g, s1h⟩) hq1; have cc1 := c2.drew.below hq1; have hB1 : Below W.heap.size W q1' := bel_go (Below.drew (Below.refl _ _)) hq1)
          | (go_at_call 40; refine (CR.out da fa _ hp1.sl).mono ?_; rintro r q2' ⟨db, fb, rfl, hp2, hq2⟩; have rr2 := R3.below rr1 hq2; have sr2 := R3.below sr1 hq2; have ss2 := fun u v => (R3.other rr2 (p := ⟨w.heap.size, 0, none⟩) (by simp; omega) u).other (p := ⟨w.heap.size, 1, none⟩) (by simp; omega) v; have st2 := fun u v => (R3.other sr2 (p := ⟨w.heap.size, 0, none⟩) (by simp; omega) u).other (p := ⟨w.heap.size, 1, none⟩) (by simp; omega) v; have cc2 := cc1.below hq2; have hB2 : Below W.heap.size W q2' := bel_go hB1 hq2; obtain ⟨cc20, cc21, cc2f, cc2g⟩ := cc2))
      all_goals go_wp2
      all_goals
        have l1 := hB1.size
        refine bodyPost_ret (v := .tuple #[.agg #[.bool G2, .slice db L2.length fb], .bool true]) (by simp [results, Tryz.results39, go_sem, cc20, cc21]) rfl ⟨db, fb, rfl, ?_, ?_⟩
        · exact Own.base ((hp2.setBelow (by simp; omega) _).setBelow (by simp; omega) _) (by omega)
        · exact Below.setCell (Below.setCell (belw.trans (hB2.mono belw.size)) (by simp) _) (by simp) _
end Go.Proofs.YtbhfbaogmkgmiaaGreatDoor
namespace Go.Proofs.YtbhfbaogmkgmiaaGreatDoor
set_option linter.unusedVariables false
set_option linter.unusedSimpArgs false
open Go.RowKit Go.Deep
theorem eadd_impl (x y : Int) (a b : Option Addr) (cap cap' : Nat) (w : World) (hx : Sl .u32 w (.slice a (Nm.wl x).length cap) (Nm.wl x)) (hy : Sl .u32 w (.slice b (Nm.wl y).length cap') (Nm.wl y)) (lx : (Nm.wl x).length ≤ 200) (ly : (Nm.wl y).length ≤ 200) (lz : (Nm.wl (x + y)).length ≤ 200) :
    Calls Tryz.prog 78 #[.agg #[.bool (Nm.wn x), .slice a (Nm.wl x).length cap], .agg #[.bool (Nm.wn y), .slice b (Nm.wl y).length cap']] w fun e w' => ∃ a' c', e = .returned (.tuple #[.agg #[.bool (Nm.wn (x + y)), .slice a' (Nm.wl (x + y)).length c'], .bool true]) ∧ Own w' w.heap.size a' c' (Nm.wl (x + y)) ∧ Below w.heap.size w w' := by
  have h := wadd_impl (Nm.wn x) (Nm.wn y) a b cap cap' (Nm.wl x) (Nm.wl y) w hx hy (Nm.wl_dg _) (Nm.wl_dg _) (by omega) (by omega) (x + y) (by rw [Nm.wv_out, Nm.wv_out])
  have hf : Nm.fits (x + y) = true := by unfold Nm.fits; exact decide_eq_true lz
  have e4 := out_fits hf
  rw [okB_wl lx, okB_wl ly, Bool.and_self, (op_yes _).1, (op_yes _).2.1, (op_yes _).2.2, hf, e4.1, e4.2] at h
  exact h
end Go.Proofs.YtbhfbaogmkgmiaaGreatDoor
