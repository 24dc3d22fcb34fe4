/-
  What is needed of SU, SV.
-/
import Derived.Test.YtnliofakkkjpoaaGreatDoorA54
import Derived.Test.YtnliofakkkjpoaaGreatDoorA56
set_option maxHeartbeats 16000000
set_option maxRecDepth 1000000
namespace Go.Proofs.YtnliofakkkjpoaaGreatDoor
set_option linter.unusedVariables false
set_option linter.unusedSimpArgs false
open Go.RowKit Go.Deep
theorem fold_impl (fid : Nat) (hd : Dir fid) (fm : Int) (S : Nat → St) (h0 : S 0 = St0) (xs : List Int) (a : Option Addr) (cap : Nat) (u : Value) (w : World) (hE : EE u w) (hx : Sl .u64 w (.slice a xs.length cap) xs) (hl : xs.length ≤ 1048576)
    (hadd : ∀ k, k < xs.length → ∀ (p : Option Addr) (c : Nat) (w' : World), EE u w' → Sl .u32 w' (.slice p (Nm.wl (S k).z).length c) (Nm.wl (S k).z) → Calls Tryz.prog fid #[.agg #[.int .i64 fm, .bool (Nm.wn (S k).z), .slice p (Nm.wl (S k).z).length c, .int .i64 (S k).T, .bool (S k).nn, .bool (S k).bd, .bool (S k).pl, .bool (S k).mi, .bool (S k).am], .int .u64 (xs.getD k 0)] w' fun r w'' => ∃ a' c', r = .returned (.tuple #[.agg #[.int .i64 fm, .bool (Nm.wn (S (k + 1)).z), .slice a' (Nm.wl (S (k + 1)).z).length c', .int .i64 (S (k + 1)).T, .bool (S (k + 1)).nn, .bool (S (k + 1)).bd, .bool (S (k + 1)).pl, .bool (S (k + 1)).mi, .bool (S (k + 1)).am], .int .i64 0]) ∧ Own w'' w'.heap.size a' c' (Nm.wl (S (k + 1)).z) ∧ Below w'.heap.size w' w'') :
    Calls Tryz.prog 148 #[.agg #[.int .i64 fm, .bool false, .slice none 0 0, .int .i64 0, .bool false, .bool false, .bool false, .bool false, .bool false], .slice a xs.length cap, .func (.func fid) #[] #[]] w fun r w' => ∃ p c, r = .returned (.agg #[.int .i64 fm, .bool (Nm.wn (S xs.length).z), .slice p (Nm.wl (S xs.length).z).length c, .int .i64 (S xs.length).T, .bool (S xs.length).nn, .bool (S xs.length).bd, .bool (S xs.length).pl, .bool (S xs.length).mi, .bool (S xs.length).am]) ∧ Own w' w.heap.size p c (Nm.wl (S xs.length).z) ∧ Below w.heap.size w w' := by
  obtain ⟨-, hx1, hx2, hx3⟩ := hx.cells
  have CA := hid hadd
  have HD := hid hd
  have hd1 := fun args w' => HD.out args w'
  have H0 := hid h0
  clear hadd hd h0
  have A := (Q9.new w (.int .i64 fm) (.bool false) (.slice none 0 0) (.int .i64 0) (.bool false) (.bool false) (.bool false) (.bool false) (.bool false) 31).alloc (.cells #[.int .i64 0, .bool false, .slice none 0 0, .int .i64 0, .bool false, .bool false, .bool false, .bool false, .bool false] 31)
  have R := Q9.nwn w (.cells #[.int .i64 fm, .bool false, .slice none 0 0, .int .i64 0, .bool false, .bool false, .bool false, .bool false, .bool false] 31) (.int .i64 0) (.bool false) (.slice none 0 0) (.int .i64 0) (.bool false) (.bool false) (.bool false) (.bool false) (.bool false) 31
  have bel0 : Below w.heap.size w ((w.alloc (.cells #[.int .i64 fm, .bool false, .slice none 0 0, .int .i64 0, .bool false, .bool false, .bool false, .bool false, .bool false] 31)).alloc (.cells #[.int .i64 0, .bool false, .slice none 0 0, .int .i64 0, .bool false, .bool false, .bool false, .bool false, .bool false] 31)) := (by repeat (first | exact bz0 _ _ | refine bz1 ?_ | refine bz2 ?_ _ | refine bz3 ?_ _ | refine bz5 ?_ _ | refine bz6 ?_ _))
  have hw0 : Nm.wl St0.z = [] := Nm.lim_zero
  go_enter Tryz.func148, Tryz.ntmps148
  go_wp2_with fail
  go_loopw [11] (fun i wr => ∃ (k : Nat) (p : Option Addr) (c : Nat), k ≤ xs.length ∧ i = .int .i64 k ∧ Q9 wr w.heap.size (.int .i64 fm) (.bool (Nm.wn (S k).z)) (.slice p (Nm.wl (S k).z).length c) (.int .i64 (S k).T) (.bool (S k).nn) (.bool (S k).bd) (.bool (S k).pl) (.bool (S k).mi) (.bool (S k).am) ∧ Q9 wr (w.heap.size + 1) (.int .i64 0) (.bool false) (.slice none 0 0) (.int .i64 0) (.bool false) (.bool false) (.bool false) (.bool false) (.bool false) ∧ Own wr (w.heap.size + 2) p c (Nm.wl (S k).z) ∧ Below w.heap.size w wr) (fun i _ => xs.length - (intOf i).toNat)
  case atStart =>
    refine ⟨0, none, 0, Nat.zero_le _, rfl, ?_, R, ?_, bel0⟩
    · rw [H0.out, hw0]; exact A
    · rw [H0.out, hw0]; exact Own.nil _ _
  case round =>
    clear A R bel0
    obtain ⟨k, p, c, hk, rfl, A, R, O, hb⟩ := hrel
    have lR := R.lt
    by_cases hlt : k < xs.length
    · obtain ⟨b, off, rfl, hcx⟩ := hx3 (by omega)
      have h1 := hcx k hlt
      have h1 : wr.cell? ⟨b, off + k, none⟩ = some (.int .u64 (xs.getD k 0)) := (hb.cell (p := ⟨b, off + k, none⟩) (World.block_lt_of_cell? w _ h1)).trans h1
      clear hx3 hcx
      have C := hid (fun w' h h' => CA.out k hlt p c w' h h')
      obtain ⟨s, hs⟩ : ∃ s, s = S k := ⟨_, rfl⟩
      obtain ⟨s', hs'⟩ : ∃ s', s' = S (k + 1) := ⟨_, rfl⟩
      obtain ⟨x, hxk⟩ : ∃ x, x = xs.getD k 0 := ⟨_, rfl⟩
      rw [← hs, ← hs', ← hxk] at C
      rw [← hs] at A O
      rw [← hxk] at h1
      have HS' := hid hs'
      clear hs hs' hxk CA H0
      have A' := A
      obtain ⟨c0, c1, c2, c3, c4, c5, c6, c7, c8, f0, f1, f2, f3, f4, f5, f6, f7, f8⟩ := A'
      go_wp2_with fail
      refine (C.out _ (hE.below hb) O.sl).mono ?_
      rintro r w1 ⟨a', c', rfl, o1, hb1⟩
      clear c0 c1 c2 c3 c4 c5 c6 c7 c8 f0 f1 f2 f3 f4 f5 f6 f7 f8
      have A1 := A.below hb1
      have R1 := R.below hb1
      have lw1 := hb1.size
      have bel1 := bel_go hb hb1
      have A1' := A1
      obtain ⟨c0, c1, c2, c3, c4, c5, c6, c7, c8, f0, f1, f2, f3, f4, f5, f6, f7, f8⟩ := A1'
      go_wp2
      go_roundw
      case rel =>
        refine ⟨k + 1, a', c', by omega, by go_num, ?_, ?_, ?_, ?_⟩
        · rw [← HS'.out]; exact Q9.set9 A1 _ _ _ _ _ _ _ _ _
        · exact R1.of_block (heap9n _ _ _ (by omega) _ _ _ _ _ _ _ _ _)
        · rw [← HS'.out]
          refine Own.base (B := wr.heap.size) ?_ (by omega)
          repeat (first | with_reducible exact o1 | (with_reducible refine Own.setBelow ?_ ?_ _; rotate_left; focus (first | (simp; done) | (simp; omega))))
        · exact (by (repeat with_reducible first | refine Below.setCell ?_ ?_ _ | exact bz0 _ _ | refine bz1 ?_ | refine bz2 ?_ _ | refine bz3 ?_ _ | refine bz4 ?_ bel1 | refine Below.alloc ?_ ?_ _ | refine Below.trans ?_ (Below.mono bel1 ?_)) <;> first | omega | (simp; done) | (simp; omega))
      case measure => simp [intOf]; omega
    · obtain rfl : k = xs.length := by omega
      clear hx3 CA H0
      obtain ⟨s, hs⟩ : ∃ s, s = S xs.length := ⟨_, rfl⟩
      rw [← hs] at A O
      have HS := hid hs
      clear hs
      obtain ⟨c0, c1, c2, c3, c4, c5, c6, c7, c8⟩ := A.cs
      obtain ⟨r0, r1, r2, r3, r4, r5, r6, r7, r8, g0, g1, g2, g3, g4, g5, g6, g7, g8⟩ := R
      go_wp2
      refine bodyPost_ret (v := .agg #[.int .i64 fm, .bool (Nm.wn s.z), .slice p (Nm.wl s.z).length c, .int .i64 s.T, .bool s.nn, .bool s.bd, .bool s.pl, .bool s.mi, .bool s.am]) (by simp [results, Tryz.results148, go_sem, r0, r1, r2, r3, r4, r5, r6, r7, r8]) rfl ⟨p, c, by rw [HS.out], ?_, ?_⟩
      · rw [← HS.out]
        refine Own.base (B := w.heap.size + 2) ?_ (by omega)
        repeat (first | with_reducible exact O | (with_reducible refine Own.setBelow ?_ ?_ _; rotate_left; focus (first | (simp; done) | (simp; omega))))
      · exact (by (repeat with_reducible first | refine Below.setCell ?_ ?_ _ | exact bz0 _ _ | refine bz1 ?_ | refine bz2 ?_ _ | refine bz3 ?_ _ | refine bz4 ?_ hb | refine Below.alloc ?_ ?_ _ | refine Below.trans ?_ (Below.mono hb ?_)) <;> first | omega | (simp; done) | (simp; omega))
theorem summed_impl (fid : Nat) (hd : Dir fid) (fm mode : Int) (hfm : fmtB fm = true) (S : Nat → St) (h0 : S 0 = St0) (xs : List Int) (a : Option Addr) (cap : Nat) (u : Value) (w : World) (hE : E3 u w) (hx : Sl .u64 w (.slice a xs.length cap) xs) (hl : xs.length ≤ 1048576) (hln : (Nm.wl (S xs.length).z).length ≤ 200)
    (hadd : ∀ k, k < xs.length → ∀ (p : Option Addr) (c : Nat) (w' : World), EE u w' → Sl .u32 w' (.slice p (Nm.wl (S k).z).length c) (Nm.wl (S k).z) → Calls Tryz.prog fid #[.agg #[.int .i64 fm, .bool (Nm.wn (S k).z), .slice p (Nm.wl (S k).z).length c, .int .i64 (S k).T, .bool (S k).nn, .bool (S k).bd, .bool (S k).pl, .bool (S k).mi, .bool (S k).am], .int .u64 (xs.getD k 0)] w' fun r w'' => ∃ a' c', r = .returned (.tuple #[.agg #[.int .i64 fm, .bool (Nm.wn (S (k + 1)).z), .slice a' (Nm.wl (S (k + 1)).z).length c', .int .i64 (S (k + 1)).T, .bool (S (k + 1)).nn, .bool (S (k + 1)).bd, .bool (S (k + 1)).pl, .bool (S (k + 1)).mi, .bool (S (k + 1)).am], .int .i64 0]) ∧ Own w'' w'.heap.size a' c' (Nm.wl (S (k + 1)).z) ∧ Below w'.heap.size w' w'') (B F : Int) (hB : B = (arB fm (Nm.wn (S xs.length).z) (Nm.wl (S xs.length).z) (S xs.length).T (S xs.length).nn (S xs.length).bd (S xs.length).pl (S xs.length).mi (S xs.length).am mode)) (hF : F = (arF fm (Nm.wn (S xs.length).z) (Nm.wl (S xs.length).z) (S xs.length).T (S xs.length).nn (S xs.length).bd (S xs.length).pl (S xs.length).mi (S xs.length).am mode)) :
    Calls Tryz.prog 78 #[.int .i64 fm, .int .i64 mode, .slice a xs.length cap, .func (.func fid) #[] #[]] w fun r w' => r = .returned (.agg #[.int .i64 0, .int .u64 B, .int .i64 F]) ∧ Below w.heap.size w w' := by
  have CN := hid (fun w' => new_impl fm w' fm (nw_fm hfm))
  have CF := hid (fun w' h h' => fold_impl fid hd fm S h0 xs a cap u w' h h' hl hadd)
  have CR := hid (fun p c w' h h' => round_impl fm (Nm.wn (S xs.length).z) (S xs.length).T (S xs.length).nn (S xs.length).bd (S xs.length).pl (S xs.length).mi (S xs.length).am p c (Nm.wl (S xs.length).z) mode w' h h' (Nm.wl_dg _) (by omega))
  simp only [← hB, ← hF] at CR
  obtain ⟨s, hs⟩ : ∃ s, s = S xs.length := ⟨_, rfl⟩
  simp only [← hs] at CF CR
  obtain ⟨O, hO⟩ : ∃ O, O = (arO fm (Nm.wn s.z) (Nm.wl s.z) s.T s.nn s.bd s.pl s.mi s.am mode) := ⟨_, rfl⟩
  simp only [← hO] at CR
  clear hB hF hs hO h0 hadd hd hln hfm
  have R := R3.new w (.int .i64 0) (.int .u64 0) (.int .i64 0) 40
  have bel0 : Below w.heap.size w (w.alloc (.cells #[.int .i64 0, .int .u64 0, .int .i64 0] 40)) := (by repeat (first | exact bz0 _ _ | refine bz1 ?_ | refine bz2 ?_ _ | refine bz3 ?_ _ | refine bz5 ?_ _ | refine bz6 ?_ _))
  go_enter Tryz.func78, Tryz.ntmps78
  go_wp2_with fail
  refine (CN.out _).mono ?_
  rintro r w1 ⟨rfl, hb1⟩
  have bel1 := bel_go bel0 hb1
  go_wp2_with fail
  refine (CF.out _ (hE.below bel1).ee (hx.below bel1)).mono ?_
  rintro r w2 ⟨p, c, rfl, o2, hb2⟩
  have bel2 := bel_go bel1 hb2
  go_wp2_with fail
  refine (CR.out p c _ (hE.below bel2).t o2.sl).mono ?_
  rintro r w3 ⟨rfl, hb3⟩
  obtain ⟨r0, r1, r2, g0, g1, g2⟩ := ((R.below hb1).below hb2).below hb3
  go_wp2
  refine bodyPost_ret (v := .agg #[.int .i64 0, .int .u64 B, .int .i64 F]) (by simp [results, Tryz.results78, go_sem, r0, r1, r2]) rfl ⟨rfl, ?_⟩
  exact (by (repeat with_reducible first | refine Below.setCell ?_ ?_ _ | exact bz0 _ _ | refine bz1 ?_ | refine bz2 ?_ _ | refine bz3 ?_ _ | refine bz4 ?_ hb3 | refine bz4 ?_ bel2 | refine Below.alloc ?_ ?_ _ | refine Below.trans ?_ (Below.mono hb3 ?_) | refine Below.trans ?_ (Below.mono bel2 ?_)) <;> first | omega | (simp; done) | (simp; omega))
theorem sum_spec_no (fm mode : Int) (xs : List Int) (a : Option Addr) (cap : Nat) (w : World) (hx : Sl .u64 w (.slice a xs.length cap) xs) (hl : xs.length ≤ 1048576) (c : Int) (hc : c = vecC fm mode xs) (h0 : c ≠ 0) :
    Calls Tryz.prog 22 #[.int .i64 fm, .int .i64 mode, .slice a xs.length cap] w fun r w' => r = .returned (.agg #[.int .i64 c, .int .u64 0, .int .i64 0]) ∧ Below w.heap.size w w' := by
  have CC := hid (fun w' h => l8_spec fm mode a a cap cap xs xs w' h h hl hl)
  rw [vec2_self, ← hc] at CC
  have hne : (c != 0) = true := by simpa using h0
  clear hc h0
  have R := R3.new w (.int .i64 0) (.int .u64 0) (.int .i64 0) 40
  go_enter Tryz.func22, Tryz.ntmps22
  go_wp2_with fail
  refine (CC.out _ (hx.alloc _)).mono ?_
  rintro r w1 ⟨rfl, hb1⟩
  obtain ⟨r0, r1, r2, g0, g1, g2⟩ := R.below hb1
  go_wp2
  refine bodyPost_ret (v := .agg #[.int .i64 c, .int .u64 0, .int .i64 0]) (by simp [results, Tryz.results22, go_sem, r0, r1, r2]) rfl ⟨rfl, ?_⟩
  exact (by (repeat with_reducible first | refine Below.setCell ?_ ?_ _ | exact bz0 _ _ | refine bz1 ?_ | refine bz2 ?_ _ | refine bz3 ?_ _ | refine bz4 ?_ hb1 | refine Below.alloc ?_ ?_ _ | refine Below.trans ?_ (Below.mono hb1 ?_)) <;> first | omega | (simp; done) | (simp; omega))
theorem sum_spec_yes (fm mode : Int) (hfm : fmtB fm = true) (S : Nat → St) (h0 : S 0 = St0) (xs : List Int) (a : Option Addr) (cap : Nat) (w : World) (hx : Sl .u64 w (.slice a xs.length cap) xs) (hl : xs.length ≤ 1048576) (hc : vecC fm mode xs = 0) (hln : (Nm.wl (S xs.length).z).length ≤ 200)
    (hadd : ∀ k, k < xs.length → ∀ (p : Option Addr) (c : Nat) (w' : World), Sl .u32 w' (.slice p (Nm.wl (S k).z).length c) (Nm.wl (S k).z) → Calls Tryz.prog 75 #[.agg #[.int .i64 fm, .bool (Nm.wn (S k).z), .slice p (Nm.wl (S k).z).length c, .int .i64 (S k).T, .bool (S k).nn, .bool (S k).bd, .bool (S k).pl, .bool (S k).mi, .bool (S k).am], .int .u64 (xs.getD k 0)] w' fun r w'' => ∃ a' c', r = .returned (.tuple #[.agg #[.int .i64 fm, .bool (Nm.wn (S (k + 1)).z), .slice a' (Nm.wl (S (k + 1)).z).length c', .int .i64 (S (k + 1)).T, .bool (S (k + 1)).nn, .bool (S (k + 1)).bd, .bool (S (k + 1)).pl, .bool (S (k + 1)).mi, .bool (S (k + 1)).am], .int .i64 0]) ∧ Own w'' w'.heap.size a' c' (Nm.wl (S (k + 1)).z) ∧ Below w'.heap.size w' w'') (B F : Int) (hB : B = (arB fm (Nm.wn (S xs.length).z) (Nm.wl (S xs.length).z) (S xs.length).T (S xs.length).nn (S xs.length).bd (S xs.length).pl (S xs.length).mi (S xs.length).am mode)) (hF : F = (arF fm (Nm.wn (S xs.length).z) (Nm.wl (S xs.length).z) (S xs.length).T (S xs.length).nn (S xs.length).bd (S xs.length).pl (S xs.length).mi (S xs.length).am mode)) :
    Calls Tryz.prog 22 #[.int .i64 fm, .int .i64 mode, .slice a xs.length cap] w fun r w' => r = .returned (.agg #[.int .i64 0, .int .u64 B, .int .i64 F]) ∧ Below w.heap.size w w' := by
  obtain ⟨-, hx1, hx2, hx3⟩ := hx.cells
  have CC := hid (fun w' h => l8_spec fm mode a a cap cap xs xs w' h h hl hl)
  rw [vec2_self, hc] at CC
  have CN := hid (fun w' => new_spec fm w' fm (nw_fm hfm))
  have CA := hid hadd
  have CR := hid (fun p c w' h => res_spec fm mode (S xs.length) p c w' h hln B F hB hF)
  have H0 := hid h0
  have hw0 : Nm.wl St0.z = [] := Nm.lim_zero
  clear hadd h0 hc hln hB hF hfm
  have R := R3.new w (.int .i64 0) (.int .u64 0) (.int .i64 0) 40
  go_enter Tryz.func22, Tryz.ntmps22
  go_wp2_with fail
  refine (CC.out _ (hx.alloc _)).mono ?_
  rintro r w1 ⟨rfl, hb1⟩
  go_wp2_with fail
  refine (CN.out _).mono ?_
  rintro r wa ⟨rfl, hb2⟩
  replace R := ((R.below hb1).below hb2).al (.cells #[.int .i64 fm, .bool false, .slice none 0 0, .int .i64 0, .bool false, .bool false, .bool false, .bool false, .bool false] 31)
  have A := Q9.new wa (.int .i64 fm) (.bool false) (.slice none 0 0) (.int .i64 0) (.bool false) (.bool false) (.bool false) (.bool false) (.bool false) 31
  have bel2 : Below w.heap.size w wa := (by repeat (first | exact bz0 _ _ | refine bz1 ?_ | refine bz2 ?_ _ | refine bz3 ?_ _ | refine bz4 ?_ hb2 | refine bz4 ?_ hb1 | refine bz5 ?_ _ | refine bz6 ?_ _ | refine bz7 ?_ hb2 | refine bz7 ?_ hb1))
  have bel3 := bel_al bel2 (.cells #[.int .i64 fm, .bool false, .slice none 0 0, .int .i64 0, .bool false, .bool false, .bool false, .bool false, .bool false] 31)
  have lwa : w.heap.size < wa.heap.size := by have := hb1.size; have := hb2.size; simp at *; omega
  clear hb1 hb2
  go_wp2_with fail
  go_loopw [9] (fun i wr => ∃ (k : Nat) (p : Option Addr) (c : Nat), k ≤ xs.length ∧ i = .int .i64 k ∧ Q9 wr wa.heap.size (.int .i64 fm) (.bool (Nm.wn (S k).z)) (.slice p (Nm.wl (S k).z).length c) (.int .i64 (S k).T) (.bool (S k).nn) (.bool (S k).bd) (.bool (S k).pl) (.bool (S k).mi) (.bool (S k).am) ∧ R3 wr w.heap.size (.int .i64 0) (.int .u64 0) (.int .i64 0) ∧ Own wr (wa.heap.size + 1) p c (Nm.wl (S k).z) ∧ Below w.heap.size w wr) (fun i _ => xs.length - (intOf i).toNat)
  case atStart =>
    refine ⟨0, none, 0, Nat.zero_le _, rfl, ?_, R, ?_, bel3⟩
    · rw [H0.out, hw0]; exact A
    · rw [H0.out, hw0]; exact Own.nil _ _
  case round =>
    clear A R bel3 bel2
    obtain ⟨k, p, c, hk, rfl, A, R, O, hb⟩ := hrel
    have lA := A.lt
    by_cases hlt : k < xs.length
    · obtain ⟨b, off, rfl, hcx⟩ := hx3 (by omega)
      have h1 := hcx k hlt
      have hbw : b < w.heap.size := World.block_lt_of_cell? w _ h1
      have h1 : wr.cell? ⟨b, off + k, none⟩ = some (.int .u64 (xs.getD k 0)) := (hb.cell (p := ⟨b, off + k, none⟩) hbw).trans h1
      clear hx3 hcx
      have C := hid (fun w' h => CA.out k hlt p c w' h)
      obtain ⟨s, hs⟩ : ∃ s, s = S k := ⟨_, rfl⟩
      obtain ⟨s', hs'⟩ : ∃ s', s' = S (k + 1) := ⟨_, rfl⟩
      obtain ⟨x, hxk⟩ : ∃ x, x = xs.getD k 0 := ⟨_, rfl⟩
      rw [← hs, ← hs', ← hxk] at C
      rw [← hs] at A O
      rw [← hxk] at h1
      have HS' := hid hs'
      clear hs hs' hxk CA H0
      have hne : b ≠ wa.heap.size := by omega
      have hbl : b < wr.drew.heap.size := World.block_lt_of_cell? wr _ h1
      go_upto_region 8 with fail
      refine wp_region_held_drew (S := fun w' => w'.cell? ⟨b, off + k, none⟩ = some (.int .u64 x)) (by kernel_rfl) ?_ (fun hHeld => ?_)
      · exact h1
      refine tk 1 ?_ rfl (Or.inl ⟨by rfl, ?_⟩) ?_
      rotate_left
      · (intro w hSw; (try dsimp only at hSw); go_simp; try (with_reducible rfl))
      try simp only [Act.put, Ls]
      refine tk 2 ?_ rfl (Or.inl ⟨by rfl, ?_⟩) ?_
      rotate_left
      · (intro w hSw; (try dsimp only at hSw); go_simp; try (with_reducible rfl))
      try simp only [Act.put, Ls]
      refine tk 3 ?_ rfl (Or.inl ⟨by rfl, ?_⟩) ?_
      rotate_left
      · (intro w hSw; (try dsimp only at hSw); go_simp; try (with_reducible rfl))
      try simp only [Act.put, Ls]
      refine tk 4 ?_ rfl (Or.inl ⟨by rfl, ?_⟩) ?_
      rotate_left
      · (intro w hSw; (try dsimp only at hSw); go_simp; try (with_reducible rfl))
      try simp only [Act.put, Ls]
      refine rdy 0 rfl (fun K hK => ?_)
      obtain ⟨c0, c1, c2, c3, c4, c5, c6, c7, c8⟩ := A.drew.cs
      go_simp
      refine hK.out _ _ ?_ (fun hHeld => ?_)
      · exact h1
      clear hK K
      try simp only [Act.put, Ls]
      clear c0 c1 c2 c3 c4 c5 c6 c7 c8
      refine rdy 5 rfl (fun K hK => ?_)
      go_simp
      go_at_call 75; refine (C.out _ O.drew.sl).mono ?_; rintro r w1 ⟨a', c', rfl, o1, hb1⟩
      have h2 : w1.cell? ⟨b, off + k, none⟩ = some (.int .u64 x) := (hb1.cell (p := ⟨b, off + k, none⟩) hbl).trans h1
      have A1 := A.drew.below hb1
      have R1 := R.dr.below hb1
      have lw1 := hb1.size
      have bel1 : Below w.heap.size w w1 := bel_go (Below.drew hb) hb1
      refine hK.out _ _ ?_ (fun hHeld => ?_)
      · exact h2
      clear hK K
      try simp only [Act.put, Ls]
      refine tk 6 ?_ rfl (Or.inl ⟨by rfl, ?_⟩) ?_
      rotate_left
      · (intro w hSw; (try dsimp only at hSw); go_simp; try (with_reducible rfl))
      try simp only [Act.put, Ls]
      refine tk 7 ?_ rfl (Or.inl ⟨by rfl, ?_⟩) ?_
      rotate_left
      · (intro w hSw; (try dsimp only at hSw); go_simp; try (with_reducible rfl))
      try simp only [Act.put, Ls]
      refine tk 8 ?_ rfl (Or.inl ⟨by rfl, ?_⟩) ?_
      rotate_left
      · (intro w hSw; (try dsimp only at hSw); go_simp; try (with_reducible rfl))
      try simp only [Act.put, Ls]
      refine rdy 9 rfl (fun K hK => ?_)
      have A1' := A1
      obtain ⟨c0, c1, c2, c3, c4, c5, c6, c7, c8, f0, f1, f2, f3, f4, f5, f6, f7, f8⟩ := A1'
      go_simp
      refine hK.out _ _ ?_ (fun hHeld => ?_)
      · exact (World.cell?_of_block (a := ⟨b, off + k, none⟩) (heap9n w1 wa.heap.size b hne _ _ _ _ _ _ _ _ _)).trans h2
      clear hK K
      try simp only [Act.put, Ls]
      refine wpAnyH_done (by kernel_rfl) ?_ _
      go_wp2
      go_roundw
      case rel =>
        refine ⟨k + 1, a', c', by omega, by go_num, ?_, ?_, ?_, ?_⟩
        · rw [← HS'.out]; exact Q9.set9 A1 _ _ _ _ _ _ _ _ _
        · have e := heap9n w1 wa.heap.size w.heap.size (by omega)
          exact ⟨(World.cell?_of_block (a := ⟨w.heap.size, 0, none⟩) (e _ _ _ _ _ _ _ _ _)).trans R1.c0, (World.cell?_of_block (a := ⟨w.heap.size, 1, none⟩) (e _ _ _ _ _ _ _ _ _)).trans R1.c1, (World.cell?_of_block (a := ⟨w.heap.size, 2, none⟩) (e _ _ _ _ _ _ _ _ _)).trans R1.c2, (World.frozen?_of_block (a := ⟨w.heap.size, 0, none⟩) (e _ _ _ _ _ _ _ _ _)).trans R1.f0, (World.frozen?_of_block (a := ⟨w.heap.size, 1, none⟩) (e _ _ _ _ _ _ _ _ _)).trans R1.f1, (World.frozen?_of_block (a := ⟨w.heap.size, 2, none⟩) (e _ _ _ _ _ _ _ _ _)).trans R1.f2⟩
        · rw [← HS'.out]
          have o1' : Own w1 wr.heap.size a' c' (Nm.wl s'.z) := o1
          refine Own.base (B := wr.heap.size) ?_ (by omega)
          repeat (first | with_reducible exact o1' | (with_reducible refine Own.setBelow ?_ ?_ _; rotate_left; focus (first | (simp; done) | (simp; omega))))
        · exact (by (repeat with_reducible first | refine Below.setCell ?_ ?_ _ | exact bz0 _ _ | refine bz1 ?_ | refine bz2 ?_ _ | refine bz3 ?_ _ | refine bz4 ?_ bel1 | refine Below.alloc ?_ ?_ _ | refine Below.trans ?_ (Below.mono bel1 ?_)) <;> first | omega | (simp; done) | (simp; omega))
      case measure => simp [intOf]; omega
    · obtain rfl : k = xs.length := by omega
      clear hx3 CA H0
      obtain ⟨s, hs⟩ : ∃ s, s = S xs.length := ⟨_, rfl⟩
      rw [← hs] at A O CR
      clear hs
      obtain ⟨c0, c1, c2, c3, c4, c5, c6, c7, c8⟩ := A.cs
      go_wp2_with fail
      refine (CR.out p c _ O.sl).mono ?_
      rintro r w2 ⟨rfl, hb2⟩
      clear c0 c1 c2 c3 c4 c5 c6 c7 c8
      obtain ⟨r0, r1, r2, g0, g1, g2⟩ := R.below hb2
      go_wp2
      refine bodyPost_ret (v := .agg #[.int .i64 0, .int .u64 B, .int .i64 F]) (by simp [results, Tryz.results22, go_sem, r0, r1, r2]) rfl ⟨rfl, ?_⟩
      exact (by (repeat with_reducible first | refine Below.setCell ?_ ?_ _ | exact bz0 _ _ | refine bz1 ?_ | refine bz2 ?_ _ | refine bz3 ?_ _ | refine bz4 ?_ hb2 | refine bz4 ?_ hb | refine Below.alloc ?_ ?_ _ | refine Below.trans ?_ (Below.mono hb2 ?_) | refine Below.trans ?_ (Below.mono hb ?_)) <;> first | omega | (simp; done) | (simp; omega))
/-- The terms of a vector's sum. -/
def tmsF (fm : Int) (xs : List Int) (k : Nat) : Tm := tmF fm (xs.getD k 0)
def vsS (fm : Int) (xs : List Int) : St := foldS (tmsF fm xs) xs.length
def vsB (fm mode : Int) (xs : List Int) : Int := if vecC fm mode xs = 0 then arB fm (Nm.wn (vsS fm xs).z) (Nm.wl (vsS fm xs).z) (vsS fm xs).T (vsS fm xs).nn (vsS fm xs).bd (vsS fm xs).pl (vsS fm xs).mi (vsS fm xs).am mode else 0
def vsF (fm mode : Int) (xs : List Int) : Int := if vecC fm mode xs = 0 then arF fm (Nm.wn (vsS fm xs).z) (Nm.wl (vsS fm xs).z) (vsS fm xs).T (vsS fm xs).nn (vsS fm xs).bd (vsS fm xs).pl (vsS fm xs).mi (vsS fm xs).am mode else 0
theorem vs_no {fm mode : Int} {xs : List Int} (h : vecC fm mode xs ≠ 0) : vsB fm mode xs = 0 ∧ vsF fm mode xs = 0 := by unfold vsB vsF; rw [if_neg h, if_neg h]; exact ⟨rfl, rfl⟩
theorem sums_all (fm mode : Int) (xs : List Int) (a : Option Addr) (cap : Nat) (w : World) (hx : Sl .u64 w (.slice a xs.length cap) xs) (dx : D64 xs) (hl : xs.length ≤ 1048576) (c B F : Int) (hc : c = vecC fm mode xs) (hB : B = vsB fm mode xs) (hF : F = vsF fm mode xs) :
    Calls Tryz.prog 22 #[.int .i64 fm, .int .i64 mode, .slice a xs.length cap] w fun r w' => r = .returned (.agg #[.int .i64 c, .int .u64 B, .int .i64 F]) ∧ Below w.heap.size w w' := by
  by_cases h0 : vecC fm mode xs = 0
  · obtain ⟨hfm, hm, hn, hok⟩ := vec_ok h0
    have hRt := foldS_Rt hfm (tmsF fm xs) xs.length (by omega) (fun k hk => tm_ok (hok k hk))
    unfold vsB at hB
    unfold vsF at hF
    rw [if_pos h0] at hB hF
    rw [hc, h0]
    exact sum_spec_yes fm mode hfm (foldS (tmsF fm xs)) rfl xs a cap w hx hl h0 (hRt _ (Nat.le_refl _)).len
      (fun k hk p c w'' hs' => accS fm (foldS (tmsF fm xs) k) (xs.getD k 0) p c w'' (hRt k (by omega)) (hok k hk) (dx.getD k).1 (dx.getD k).2 (by rw [foldS_T]; omega) hs' _ rfl) B F hB hF
  · rw [hB, hF, (vs_no h0).1, (vs_no h0).2]; exact sum_spec_no fm mode xs a cap w hx hl c hc (by rw [hc]; exact h0)
end Go.Proofs.YtnliofakkkjpoaaGreatDoor
