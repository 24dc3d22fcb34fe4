/-
  One term more, a float: refusals; all put together; the law.
-/
import Derived.Test.YtapjclcjojadaaaGreatDoorAF
import Derived.Test.YtapjclcjojadaaaGreatDoorLAccAdd
namespace Go.Proofs.YtapjclcjojadaaaGreatDoor
set_option linter.unusedVariables false
set_option linter.unusedSimpArgs false
open Go.RowKit Go.Deep
set_option maxHeartbeats 4000000 in
set_option maxRecDepth 100000 in
theorem addi_no (fm : Int) (ng : Bool) (T : Int) (nn bd pl mi am : Bool) (p : Option Addr) (cap : Nat) (zs : List Int) (x : Int) (w : World) (hT : Tab w) (hs : Sl .u32 w (.slice p zs.length cap) zs) (hl : zs.length ≤ 1048576) (x0 : 0 ≤ x) (x1 : x < 18446744073709551616) (c : Int) (hc : c = tcC (accB fm ng zs T nn bd pl mi am) (okF fm x) T) (hc0 : c ≠ 0) :
    Calls Tryz.prog 79 #[.agg #[.int .i64 fm, .bool ng, .slice p zs.length cap, .int .i64 T, .bool nn, .bool bd, .bool pl, .bool mi, .bool am], .int .u64 x] w fun r w' => r = .returned (.tuple #[A0, .int .i64 c]) ∧ Below w.heap.size w w' := by
  have dx : D64 [x] := fun z hz => by rw [List.mem_singleton.1 hz]; exact ⟨x0, x1⟩
  have hall : allB fm [x] = okF fm x := by unfold allB; rw [List.all_cons]; simp
  have CC := hid (fun q qc w' h h' h'' => tcode fm ng T nn bd pl mi am p cap zs q qc [x] w' h h' hl h'' dx (by simp) c (by rw [hall]; exact hc))
  have hne : (c != 0) = true := by simpa using hc0
  clear hc hc0 hall dx
  have Q := (Q9.new w (.int .i64 fm) (.bool ng) (.slice p zs.length cap) (.int .i64 T) (.bool nn) (.bool bd) (.bool pl) (.bool mi) (.bool am) 31).alloc (.cells #[.int .i64 0, .bool false, .slice none 0 0, .int .i64 0, .bool false, .bool false, .bool false, .bool false, .bool false] 31)
  have R := Q9.nwn w (.cells #[.int .i64 fm, .bool ng, .slice p zs.length cap, .int .i64 T, .bool nn, .bool bd, .bool pl, .bool mi, .bool am] 31) (.int .i64 0) (.bool false) (.slice none 0 0) (.int .i64 0) (.bool false) (.bool false) (.bool false) (.bool false) (.bool false) 31
  have bel0 : Below w.heap.size w ((w.alloc (.cells #[.int .i64 fm, .bool ng, .slice p zs.length cap, .int .i64 T, .bool nn, .bool bd, .bool pl, .bool mi, .bool am] 31)).alloc (.cells #[.int .i64 0, .bool false, .slice none 0 0, .int .i64 0, .bool false, .bool false, .bool false, .bool false, .bool false] 31)) := (by repeat (first | exact Below.refl _ _ | refine Below.drew ?_ | refine bel_dn ?_ _ | refine bel_al ?_ _ | refine Below.setCell ?_ (by first | omega | (simp; done) | (simp; omega)) _ | refine Below.alloc ?_ (by first | omega | (simp; done) | (simp; omega)) _))
  obtain ⟨c0, c1, c2, c3, c4, c5, c6, c7, c8⟩ := Q.cs
  go_enter Tryz.func79, Tryz.ntmps79
  go_wp2_with fail
  have hA : Below w.heap.size w (((w.alloc (.cells #[.int .i64 fm, .bool ng, .slice p zs.length cap, .int .i64 T, .bool nn, .bool bd, .bool pl, .bool mi, .bool am] 31)).alloc (.cells #[.int .i64 0, .bool false, .slice none 0 0, .int .i64 0, .bool false, .bool false, .bool false, .bool false, .bool false] 31)).alloc (.cells #[.int .u64 x] 27)) := bel_al bel0 _
  have hxx : Sl .u64 (((w.alloc (.cells #[.int .i64 fm, .bool ng, .slice p zs.length cap, .int .i64 T, .bool nn, .bool bd, .bool pl, .bool mi, .bool am] 31)).alloc (.cells #[.int .i64 0, .bool false, .slice none 0 0, .int .i64 0, .bool false, .bool false, .bool false, .bool false, .bool false] 31)).alloc (.cells #[.int .u64 x] 27)) (.slice (some ⟨w.heap.size + 1 + 1, 0, none⟩) [x].length 1) [x] := ⟨some ⟨w.heap.size + 1 + 1, 0, none⟩, 1, rfl, Nat.le_refl _, by unfold maxLen; omega, .inr ⟨w.heap.size + 1 + 1, 0, rfl, fun i hi => by
    have : i = 0 := by simpa using hi
    subst this; exact cell_top _ _ _ _ (by simp)⟩⟩
  refine (CC.out (some ⟨w.heap.size + 1 + 1, 0, none⟩) 1 _ (hT.below hA) (hs.below hA) hxx).mono ?_
  rintro r w1 ⟨rfl, hb1⟩
  clear c0 c1 c2 c3 c4 c5 c6 c7 c8 hxx
  obtain ⟨r0, r1, r2, r3, r4, r5, r6, r7, r8, g0, g1, g2, g3, g4, g5, g6, g7, g8⟩ := (R.alloc (.cells #[.int .u64 x] 27)).below hb1
  have bel1 := bel_go hA hb1
  go_wp2
  refine bodyPost_ret (v := .tuple #[A0, .int .i64 c]) (by simp [results, Tryz.results79, go_sem, r0, r1, r2, r3, r4, r5, r6, r7, r8, A0]) rfl ⟨rfl, ?_⟩
  exact (by repeat (first | (with_reducible refine Below.setCell ?_ ?_ _; rotate_left; focus (first | omega | (simp; done) | (simp; omega))) | (with_reducible exact Below.refl _ _) | (with_reducible refine Below.drew ?_) | (with_reducible refine bel_dn ?_ _) | (with_reducible refine bel_al ?_ _) | (with_reducible refine bel_go ?_ bel1) | (with_reducible refine Below.alloc ?_ ?_ _; rotate_left; focus (first | omega | (simp; done) | (simp; omega))) | (with_reducible refine Below.trans ?_ (Below.mono bel1 ?_); rotate_left; focus (first | omega | (simp; done) | (simp; omega)))))
set_option maxHeartbeats 4000000 in
set_option maxRecDepth 100000 in
theorem adds_no (fm : Int) (ng : Bool) (T : Int) (nn bd pl mi am : Bool) (p : Option Addr) (cap : Nat) (zs : List Int) (x : Int) (w : World) (hs : Sl .u32 w (.slice p zs.length cap) zs) (hl : zs.length ≤ 1048576) (c : Int) (hc : c = tcC (accB fm ng zs T nn bd pl mi am) (okF fm x) T) (hc0 : c ≠ 0) :
    Calls Tryz.prog 75 #[.agg #[.int .i64 fm, .bool ng, .slice p zs.length cap, .int .i64 T, .bool nn, .bool bd, .bool pl, .bool mi, .bool am], .int .u64 x] w fun r w' => r = .returned (.tuple #[A0, .int .i64 c]) ∧ Below w.heap.size w w' := by
  have C1 := hid (fun w' h => accok_spec fm ng T nn bd pl mi am p cap zs w' h hl)
  have C2 := hid (fun w' => spec_ok fm x w')
  have A := (Q9.new w (.int .i64 fm) (.bool ng) (.slice p zs.length cap) (.int .i64 T) (.bool nn) (.bool bd) (.bool pl) (.bool mi) (.bool am) 31).alloc (.cells #[.int .i64 0, .bool false, .slice none 0 0, .int .i64 0, .bool false, .bool false, .bool false, .bool false, .bool false] 31)
  have R := Q9.nw2b w (.cells #[.int .i64 fm, .bool ng, .slice p zs.length cap, .int .i64 T, .bool nn, .bool bd, .bool pl, .bool mi, .bool am] 31) (.int .i64 0) (.bool false) (.slice none 0 0) (.int .i64 0) (.bool false) (.bool false) (.bool false) (.bool false) (.bool false) 31
  have bel0 : Below w.heap.size w ((w.alloc (.cells #[.int .i64 fm, .bool ng, .slice p zs.length cap, .int .i64 T, .bool nn, .bool bd, .bool pl, .bool mi, .bool am] 31)).alloc (.cells #[.int .i64 0, .bool false, .slice none 0 0, .int .i64 0, .bool false, .bool false, .bool false, .bool false, .bool false] 31)) := (by repeat (first | exact Below.refl _ _ | refine Below.drew ?_ | refine bel_dn ?_ _ | refine bel_al ?_ _ | refine Below.setCell ?_ (by first | omega | (simp; done) | (simp; omega)) _ | refine Below.alloc ?_ (by first | omega | (simp; done) | (simp; omega)) _))
  unfold tcC at hc
  cases h1 : accB fm ng zs T nn bd pl mi am
  · rw [h1] at C1 hc
    have hc' : c = 1 := hc
    subst hc'
    clear hc h1 hc0
    go_enter Tryz.func75, Tryz.ntmps75
    go_wp2_with fail
    refine (C1.out _ (hs.below bel0)).mono ?_
    rintro r w1 ⟨rfl, hb1⟩
    obtain ⟨r0, r1, r2, r3, r4, r5, r6, r7, r8, g0, g1, g2, g3, g4, g5, g6, g7, g8⟩ := R.below hb1
    have bel1 := bel_go bel0 hb1
    go_wp2
    refine bodyPost_ret (v := .tuple #[A0, .int .i64 1]) (by simp [results, Tryz.results75, go_sem, r0, r1, r2, r3, r4, r5, r6, r7, r8, A0]) rfl ⟨rfl, ?_⟩
    exact (by repeat (first | (with_reducible refine Below.setCell ?_ ?_ _; rotate_left; focus (first | omega | (simp; done) | (simp; omega))) | (with_reducible exact Below.refl _ _) | (with_reducible refine Below.drew ?_) | (with_reducible refine bel_dn ?_ _) | (with_reducible refine bel_al ?_ _) | (with_reducible refine bel_go ?_ bel1) | (with_reducible refine Below.alloc ?_ ?_ _; rotate_left; focus (first | omega | (simp; done) | (simp; omega))) | (with_reducible refine Below.trans ?_ (Below.mono bel1 ?_); rotate_left; focus (first | omega | (simp; done) | (simp; omega)))))
  rw [h1] at C1 hc
  cases h2 : okF fm x
  · rw [h2] at C2 hc
    have hc' : c = 2 := hc
    subst hc'
    clear hc h1 h2 hc0
    go_enter Tryz.func75, Tryz.ntmps75
    go_wp2_with fail
    refine (C1.out _ (hs.below bel0)).mono ?_
    rintro r w1 ⟨rfl, hb1⟩
    have c0 := (A.below hb1).c0
    go_wp2_with fail
    refine (C2.out _).mono ?_
    rintro r w2 ⟨rfl, hb2⟩
    obtain ⟨r0, r1, r2, r3, r4, r5, r6, r7, r8, g0, g1, g2, g3, g4, g5, g6, g7, g8⟩ := (R.below hb1).below hb2
    have bel1 := bel_go (bel_go bel0 hb1) hb2
    go_wp2
    refine bodyPost_ret (v := .tuple #[A0, .int .i64 2]) (by simp [results, Tryz.results75, go_sem, r0, r1, r2, r3, r4, r5, r6, r7, r8, A0]) rfl ⟨rfl, ?_⟩
    exact (by repeat (first | (with_reducible refine Below.setCell ?_ ?_ _; rotate_left; focus (first | omega | (simp; done) | (simp; omega))) | (with_reducible exact Below.refl _ _) | (with_reducible refine Below.drew ?_) | (with_reducible refine bel_dn ?_ _) | (with_reducible refine bel_al ?_ _) | (with_reducible refine bel_go ?_ bel1) | (with_reducible refine Below.alloc ?_ ?_ _; rotate_left; focus (first | omega | (simp; done) | (simp; omega))) | (with_reducible refine Below.trans ?_ (Below.mono bel1 ?_); rotate_left; focus (first | omega | (simp; done) | (simp; omega)))))
  rw [h2] at C2 hc
  by_cases h3 : T = 1000000
  · have hc' : c = 3 := by rw [hc, if_pos rfl, if_pos rfl, if_pos h3]
    subst hc' h3
    clear hc h1 h2 hc0
    go_enter Tryz.func75, Tryz.ntmps75
    go_wp2_with fail
    refine (C1.out _ (hs.below bel0)).mono ?_
    rintro r w1 ⟨rfl, hb1⟩
    have c0 := (A.below hb1).c0
    go_wp2_with fail
    refine (C2.out _).mono ?_
    rintro r w2 ⟨rfl, hb2⟩
    have c3 := ((A.below hb1).below hb2).c3
    obtain ⟨r0, r1, r2, r3, r4, r5, r6, r7, r8, g0, g1, g2, g3, g4, g5, g6, g7, g8⟩ := (R.below hb1).below hb2
    have bel1 := bel_go (bel_go bel0 hb1) hb2
    go_wp2
    refine bodyPost_ret (v := .tuple #[A0, .int .i64 3]) (by simp [results, Tryz.results75, go_sem, r0, r1, r2, r3, r4, r5, r6, r7, r8, A0]) rfl ⟨rfl, ?_⟩
    exact (by repeat (first | (with_reducible refine Below.setCell ?_ ?_ _; rotate_left; focus (first | omega | (simp; done) | (simp; omega))) | (with_reducible exact Below.refl _ _) | (with_reducible refine Below.drew ?_) | (with_reducible refine bel_dn ?_ _) | (with_reducible refine bel_al ?_ _) | (with_reducible refine bel_go ?_ bel1) | (with_reducible refine Below.alloc ?_ ?_ _; rotate_left; focus (first | omega | (simp; done) | (simp; omega))) | (with_reducible refine Below.trans ?_ (Below.mono bel1 ?_); rotate_left; focus (first | omega | (simp; done) | (simp; omega)))))
  · exact absurd (by rw [hc, if_pos rfl, if_pos rfl, if_neg h3]) hc0
/-- What the program says of a signalling NaN. -/
def sgS : ByteArray := ⟨#[111, 110, 101, 32, 105, 115, 32, 97, 32, 115, 105, 103, 110, 97, 108, 108, 105, 110, 103, 32, 78, 97, 78]⟩
set_option maxHeartbeats 4000000 in
set_option maxRecDepth 100000 in
theorem num_sig2 (fm x : Int) (w : World) (hT : Tab w) (h0 : 0 ≤ x) (h1 : x < 18446744073709551616) (hc : cls fm x = 5) :
    Calls Tryz.prog 96 #[.int .i64 fm, .int .u64 x] w fun e w' => e = .returned (.tuple #[.agg #[.bool false, .bool false, .bool false, .slice none 0 0, .int .i64 0], .iface 176 (.agg #[.iface 178 (.agg #[.string sgS])])]) ∧ Below w.heap.size w w' := by
  have C := hid (fun w' h => impl_cls fm x w' h h0 h1)
  rw [hc] at C
  clear hc
  have Q := Q5.new w (.bool false) (.bool false) (.bool false) (.slice none 0 0) (.int .i64 0) 78
  go_enter Tryz.func96, Tryz.ntmps96
  go_wp2_with fail
  refine (C.out _ (hT.below ((Below.refl _ _).alloc (Nat.le_refl _) _))).mono ?_
  rintro e w1 ⟨rfl, hb1⟩
  obtain ⟨r0, r1, r2, r3, r4, f0, f1, f2, f3, f4⟩ := Q.below hb1
  clear Q
  go_wp2
  refine bodyPost_ret (by simp [results, Tryz.results96, go_sem, r0, r1, r2, r3, r4]; rfl) rfl ⟨rfl, ?_⟩
  exact (by repeat (first | (with_reducible refine Below.setCell ?_ ?_ _; rotate_left; focus (first | omega | (simp; done) | (simp; omega))) | (with_reducible exact Below.refl _ _) | (with_reducible refine Below.drew ?_) | (with_reducible refine bel_dn ?_ _) | (with_reducible refine bel_al ?_ _) | (with_reducible refine bel_go ?_ hb1) | (with_reducible refine Below.alloc ?_ ?_ _; rotate_left; focus (first | omega | (simp; done) | (simp; omega))) | (with_reducible refine Below.trans ?_ (Below.mono hb1 ?_); rotate_left; focus (first | omega | (simp; done) | (simp; omega)))))
theorem cls_six {fm x : Int} (h : okF fm x = true) : finB fm x = true ∨ cls fm x = 3 ∨ cls fm x = 4 ∨ cls fm x = 5 := by
  have h1 := cls_rng fm x
  by_cases hf : 0 ≤ cls fm x ∧ cls fm x ≤ 2
  · exact .inl (by unfold finB; exact decide_eq_true hf)
  · have : cls fm x ≠ -1 := by
      intro e
      cases hn : nanB fm x
      · have := cls_num h hn; omega
      · have := cls_nan h hn; omega
    omega
theorem nan_of {fm x : Int} (h : okF fm x = true) : nanB fm x = (decide (cls fm x = 4) || decide (cls fm x = 5)) := by
  cases hn : nanB fm x
  · have := cls_num h hn
    rw [decide_eq_false (by omega), decide_eq_false (by omega)]; rfl
  · rcases cls_nan h hn with e | e
    · rw [decide_eq_true e]; rfl
    · rw [decide_eq_true e]; simp
theorem amW_no (T : Int) (am : Bool) : amW T am 1 false = false := by unfold amW; simp
theorem one_fin_32 (x : Int) (hf : finB 32 x = true) (G : Bool) (L : List Int) (hG : G = Nm.wn (if pS 32 x then -pM 32 x else pM 32 x)) (hL : L = Nm.wl (if pS 32 x then -pM 32 x else pM 32 x)) (m5 : Bool) (hm5 : m5 = (decide (L.length = 0) && pS 32 x)) (p : Option Addr) (c : Nat) (w : World) (hT : Tab w) (hg : EA.ErrT w) (hs : Sl .u32 w (.slice p L.length c) L) :
    Calls Tryz.prog 68 #[.int .i64 32, .agg #[.bool (pS 32 x), .bool false, .bool G, .slice p L.length c, .int .i64 (pE 32 x)], .nilIface] w fun r w' => ∃ a' c', r = .returned (.agg #[.int .i64 1, .bool false, .bool false, .bool false, .bool false, .bool m5, .int .i64 32, .bool (Nm.wn (tmV 32 x)), .slice a' (Nm.wl (tmV 32 x)).length c']) ∧ Own w' w.heap.size a' c' (Nm.wl (tmV 32 x)) ∧ Below w.heap.size w w' := by
  obtain ⟨e1, e2⟩ := tm_eq hf
  have hE := pE_bd 32 x
  have hM := pM_bd 32 x
  have hl2 : L.length ≤ 200 := by rw [hL]; unfold Nm.wl; have := lim_two (x := (if pS 32 x then -pM 32 x else pM 32 x).natAbs) (by cases pS 32 x <;> simp <;> omega); omega
  have hd : Nm.Dg L := by rw [hL]; exact Nm.wl_dg _
  have ho : okB G L = true := by rw [hG, hL]; exact okB_wl (by rw [← hL]; exact hl2)
  have hV : tmV 32 x = Nm.shV G (Nm.val L) (pE 32 x + 298) := by
    rw [e1, hG, hL]; congr 1
  refine one_32 (pS 32 x) false G p c L (pE 32 x) .nilIface false false false false m5 (Nm.wn (tmV 32 x)) (Nm.wl (tmV 32 x)) w hT hg hs (by omega) (by omega) (fun w' hg' => ?_) (fun w' h => wsh_at G p c L (pE 32 x + 298) w' h hd ho (by omega) (by omega) (tmV 32 x) hV (wl_len (by omega)))
  by_cases h0 : L.length = 0
  · rw [hm5, decide_eq_true h0, Bool.true_and]
    exact mk_zero (pS 32 x) G p L.length c (pE 32 x) w' hg' (by omega) h0
  · rw [hm5, decide_eq_false h0, Bool.false_and]
    exact mk_fin (pS 32 x) G p L.length c (pE 32 x) w' hg' (by omega) h0
theorem one_fin_64 (x : Int) (hf : finB 64 x = true) (G : Bool) (L : List Int) (hG : G = Nm.wn (if pS 64 x then -pM 64 x else pM 64 x)) (hL : L = Nm.wl (if pS 64 x then -pM 64 x else pM 64 x)) (m5 : Bool) (hm5 : m5 = (decide (L.length = 0) && pS 64 x)) (p : Option Addr) (c : Nat) (w : World) (hT : Tab w) (hg : EA.ErrT w) (hs : Sl .u32 w (.slice p L.length c) L) :
    Calls Tryz.prog 68 #[.int .i64 64, .agg #[.bool (pS 64 x), .bool false, .bool G, .slice p L.length c, .int .i64 (pE 64 x)], .nilIface] w fun r w' => ∃ a' c', r = .returned (.agg #[.int .i64 1, .bool false, .bool false, .bool false, .bool false, .bool m5, .int .i64 64, .bool (Nm.wn (tmV 64 x)), .slice a' (Nm.wl (tmV 64 x)).length c']) ∧ Own w' w.heap.size a' c' (Nm.wl (tmV 64 x)) ∧ Below w.heap.size w w' := by
  obtain ⟨e1, e2⟩ := tm_eq hf
  have hE := pE_bd 64 x
  have hM := pM_bd 64 x
  have hl2 : L.length ≤ 200 := by rw [hL]; unfold Nm.wl; have := lim_two (x := (if pS 64 x then -pM 64 x else pM 64 x).natAbs) (by cases pS 64 x <;> simp <;> omega); omega
  have hd : Nm.Dg L := by rw [hL]; exact Nm.wl_dg _
  have ho : okB G L = true := by rw [hG, hL]; exact okB_wl (by rw [← hL]; exact hl2)
  have hV : tmV 64 x = Nm.shV G (Nm.val L) (pE 64 x + 2148) := by
    rw [e1, hG, hL]; congr 1
  refine one_64 (pS 64 x) false G p c L (pE 64 x) .nilIface false false false false m5 (Nm.wn (tmV 64 x)) (Nm.wl (tmV 64 x)) w hT hg hs (by omega) (by omega) (fun w' hg' => ?_) (fun w' h => wsh_at G p c L (pE 64 x + 2148) w' h hd ho (by omega) (by omega) (tmV 64 x) hV (wl_len (by omega)))
  by_cases h0 : L.length = 0
  · rw [hm5, decide_eq_true h0, Bool.true_and]
    exact mk_zero (pS 64 x) G p L.length c (pE 64 x) w' hg' (by omega) h0
  · rw [hm5, decide_eq_false h0, Bool.false_and]
    exact mk_fin (pS 64 x) G p L.length c (pE 64 x) w' hg' (by omega) h0
theorem len_zero {fm x : Int} (hx : okF fm x = true) (hf : finB fm x = true) : (absF fm x == 0) = decide ((Nm.wl (if pS fm x then -pM fm x else pM fm x)).length = 0) := by
  have hM := pM_bd fm x
  have e : ((Nm.wl (if pS fm x then -pM fm x else pM fm x)).length = 0) ↔ pM fm x = 0 := by
    unfold Nm.wl
    rw [Nm.lim_length_zero]
    cases pS fm x <;> simp <;> omega
  rw [← cls_zero hx, Bool.eq_iff_iff, beq_iff_eq, decide_eq_true_eq, e]
  constructor
  · intro h
    have ha : (absF fm x == 0) = true := by rw [← cls_zero hx, h]; rfl
    have ha' : absF fm x = 0 := by simpa using ha
    unfold pM; rw [hf, if_pos rfl]
    rcases okF_cases hx with ⟨rfl, hx'⟩ | rfl
    · rw [abs32 hx'] at ha'
      rw [if_pos rfl, ha']; rfl
    · rw [abs64] at ha'
      rw [if_neg (by decide), ha']; rfl
  · intro h
    have hc : 0 ≤ cls fm x ∧ cls fm x ≤ 2 := by simpa [finB] using hf
    by_cases h12 : cls fm x = 1 ∨ cls fm x = 2
    · have := (pM_pos h12).2; omega
    · omega
end Go.Proofs.YtapjclcjojadaaaGreatDoor
