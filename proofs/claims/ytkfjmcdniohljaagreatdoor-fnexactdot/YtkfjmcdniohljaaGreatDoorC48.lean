/-
  What is needed of MG, DU.
-/
import Derived.Test.YtkfjmcdniohljaaGreatDoorC46
import Derived.Test.YtkfjmcdniohljaaGreatDoorC47
set_option maxHeartbeats 16000000
set_option maxRecDepth 1000000
namespace Go.Proofs.YtkfjmcdniohljaaGreatDoor
set_option linter.unusedVariables false
set_option linter.unusedSimpArgs false
open Go.RowKit Go.Deep
theorem tmM_odd {fm x y : Int} (hx : okF fm x = true) (hy : okF fm y = true) (h : (finB fm x && finB fm y) = false) : tmM fm x y = ⟨0, nanB fm x || nanB fm y || oddX fm x y, nB fm x || nB fm y || oddX fm x y, !(nanB fm x || nanB fm y || oddX fm x y) && !(sigB fm x != sigB fm y), !(nanB fm x || nanB fm y || oddX fm x y) && (sigB fm x != sigB fm y), false⟩ := by
  unfold tmM
  cases hn : (nanB fm x || nanB fm y || oddX fm x y)
  · have hb : (nB fm x || nB fm y || oddX fm x y) = false := by
      cases hb : (nB fm x || nB fm y || oddX fm x y)
      · rfl
      · rw [odd_nan hx hy hb] at hn; cases hn
    obtain ⟨⟨nx, ny⟩, -⟩ : (nanB fm x = false ∧ nanB fm y = false) ∧ oddX fm x y = false := by simpa [Bool.or_eq_false_iff] using hn
    have hi : (nI fm x || nI fm y) = true := by
      rcases nan_cases hx nx with fx | ix
      · rcases nan_cases hy ny with fy | iy
        · rw [fx, fy] at h; cases h
        · rw [iy]; simp
      · rw [ix]; rfl
    rw [hb, hi]; rfl
  · rfl
theorem tmM_fin {fm x y : Int} (hx : okF fm x = true) (hy : okF fm y = true) (fx : finB fm x = true) (fy : finB fm y = true) : tmM fm x y = ⟨tpV fm x y, false, false, false, false, decide (nZ fm x * nZ fm y = 0) && (sigB fm x != sigB fm y)⟩ := by
  obtain ⟨-, ix, -, -, nx, -⟩ := fin_facts hx fx
  obtain ⟨-, iy, -, -, ny, -⟩ := fin_facts hy fy
  unfold tmM oddX; rw [nx, ny, ix, iy]; rfl
theorem accMS (fm : Int) (s : St) (x y : Int) (p : Option Addr) (cap : Nat) (w : World) (hR : Rt fm s) (hx : okF fm x = true) (x0 : 0 ≤ x) (x1 : x < 18446744073709551616) (hy : okF fm y = true) (y0 : 0 ≤ y) (y1 : y < 18446744073709551616) (hT : s.T ≠ 1000000) (hs : Sl .u32 w (.slice p (Nm.wl s.z).length cap) (Nm.wl s.z)) (s' : St) (hs' : s' = s.add (tmM fm x y)) :
    Calls Tryz.prog 53 #[.agg #[.int .i64 fm, .bool (Nm.wn s.z), .slice p (Nm.wl s.z).length cap, .int .i64 s.T, .bool s.nn, .bool s.bd, .bool s.pl, .bool s.mi, .bool s.am], .int .u64 x, .int .u64 y] w fun r w' => ∃ a' c', r = .returned (.tuple #[.agg #[.int .i64 fm, .bool (Nm.wn s'.z), .slice a' (Nm.wl s'.z).length c', .int .i64 s'.T, .bool s'.nn, .bool s'.bd, .bool s'.pl, .bool s'.mi, .bool s'.am], .int .i64 0]) ∧ Own w' w.heap.size a' c' (Nm.wl s'.z) ∧ Below w.heap.size w w' := by
  subst hs'
  have hwv := Nm.wv_out s.z
  cases hf : (finB fm x && finB fm y)
  · rw [tmM_odd hx hy hf]
    have h := mulS_odd fm (Nm.wn s.z) s.T s.nn s.bd s.pl s.mi s.am p cap (Nm.wl s.z) x y w hs (Nm.wl_dg _) hR hx hy x0 x1 y0 y1 hT hf _ _ _ _ rfl rfl rfl rfl
    simpa [St.add] using h
  · obtain ⟨fx, fy⟩ : finB fm x = true ∧ finB fm y = true := by simpa using hf
    rw [tmM_fin hx hy fx fy]
    obtain ⟨-, -, hb⟩ := tp_eq hx hy fx fy
    have hfe : farE fm ≤ 4196 := by unfold farE; split <;> omega
    have hl := wl_len (V := tpV fm x y) (by omega)
    have h := mulS_fin fm (Nm.wn s.z) s.T s.nn s.bd s.pl s.mi s.am p cap (Nm.wl s.z) x y w hs (Nm.wl_dg _) hR hx hy x0 x1 y0 y1 hT fx fy (tpV fm x y) rfl hl (s.z + tpV fm x y) (by rw [hwv])
    simpa [St.add] using h
/-- A row of factors in block b. -/
def F2 (w : World) (b : Nat) (xs ys : List Int) : Prop := ∀ k, k < xs.length → w.cell? ⟨b, k * 2, none⟩ = some (.int .u64 (xs.getD k 0)) ∧ w.cell? ⟨b, k * 2 + 1, none⟩ = some (.int .u64 (ys.getD k 0))
theorem F2.below {w w' : World} {b : Nat} {xs ys : List Int} (h : F2 w b xs ys) (hb : Below w.heap.size w w') : F2 w' b xs ys := fun k hk => by
  obtain ⟨h1, h2⟩ := h k hk
  exact ⟨(hb.cell (p := ⟨b, k * 2, none⟩) (World.block_lt_of_cell? w _ h1)).trans h1, (hb.cell (p := ⟨b, k * 2 + 1, none⟩) (World.block_lt_of_cell? w _ h2)).trans h2⟩
theorem fold2_impl (fid : Nat) (hd : Dir fid) (fm : Int) (S : Nat → St) (h0 : S 0 = St0) (xs ys : List Int) (b : Nat) (u : Value) (w : World) (hE : EE u w) (hx : F2 w b xs ys) (hl : xs.length ≤ 1048576)
    (hadd : ∀ k, k < xs.length → ∀ (p : Option Addr) (c : Nat) (w' : World), EE u w' → Sl .u32 w' (.slice p (Nm.wl (S k).z).length c) (Nm.wl (S k).z) → Calls Tryz.prog fid #[.agg #[.int .i64 fm, .bool (Nm.wn (S k).z), .slice p (Nm.wl (S k).z).length c, .int .i64 (S k).T, .bool (S k).nn, .bool (S k).bd, .bool (S k).pl, .bool (S k).mi, .bool (S k).am], .agg #[.int .u64 (xs.getD k 0), .int .u64 (ys.getD k 0)]] w' fun r w'' => ∃ a' c', r = .returned (.tuple #[.agg #[.int .i64 fm, .bool (Nm.wn (S (k + 1)).z), .slice a' (Nm.wl (S (k + 1)).z).length c', .int .i64 (S (k + 1)).T, .bool (S (k + 1)).nn, .bool (S (k + 1)).bd, .bool (S (k + 1)).pl, .bool (S (k + 1)).mi, .bool (S (k + 1)).am], .int .i64 0]) ∧ Own w'' w'.heap.size a' c' (Nm.wl (S (k + 1)).z) ∧ Below w'.heap.size w' w'') :
    Calls Tryz.prog 197 #[.agg #[.int .i64 fm, .bool false, .slice none 0 0, .int .i64 0, .bool false, .bool false, .bool false, .bool false, .bool false], .slice (some ⟨b, 0, none⟩) xs.length xs.length, .func (.func fid) #[] #[]] w fun r w' => ∃ p c, r = .returned (.agg #[.int .i64 fm, .bool (Nm.wn (S xs.length).z), .slice p (Nm.wl (S xs.length).z).length c, .int .i64 (S xs.length).T, .bool (S xs.length).nn, .bool (S xs.length).bd, .bool (S xs.length).pl, .bool (S xs.length).mi, .bool (S xs.length).am]) ∧ Own w' w.heap.size p c (Nm.wl (S xs.length).z) ∧ Below w.heap.size w w' := by
  have HX := hid hx
  clear hx
  have CA := hid hadd
  have HD := hid hd
  have hd1 := fun args w' => HD.out args w'
  have H0 := hid h0
  clear hadd hd h0
  have A := (Q9.new w (.int .i64 fm) (.bool false) (.slice none 0 0) (.int .i64 0) (.bool false) (.bool false) (.bool false) (.bool false) (.bool false) 50).alloc (.cells #[.int .i64 0, .bool false, .slice none 0 0, .int .i64 0, .bool false, .bool false, .bool false, .bool false, .bool false] 50)
  have R := Q9.nwn w (.cells #[.int .i64 fm, .bool false, .slice none 0 0, .int .i64 0, .bool false, .bool false, .bool false, .bool false, .bool false] 50) (.int .i64 0) (.bool false) (.slice none 0 0) (.int .i64 0) (.bool false) (.bool false) (.bool false) (.bool false) (.bool false) 50
  have bel0 : Below w.heap.size w ((w.alloc (.cells #[.int .i64 fm, .bool false, .slice none 0 0, .int .i64 0, .bool false, .bool false, .bool false, .bool false, .bool false] 50)).alloc (.cells #[.int .i64 0, .bool false, .slice none 0 0, .int .i64 0, .bool false, .bool false, .bool false, .bool false, .bool false] 50)) := (by repeat (first | exact bz0 _ _ | refine bz1 ?_ | refine bz2 ?_ _ | refine bz3 ?_ _ | refine bz5 ?_ _ | refine bz6 ?_ _))
  have hw0 : Nm.wl St0.z = [] := Nm.lim_zero
  go_enter Tryz.func197, Tryz.ntmps197
  go_wp2_with fail
  go_loopw [11] (fun i wr => ∃ (k : Nat) (p : Option Addr) (c : Nat), k ≤ xs.length ∧ i = .int .i64 k ∧ Q9 wr w.heap.size (.int .i64 fm) (.bool (Nm.wn (S k).z)) (.slice p (Nm.wl (S k).z).length c) (.int .i64 (S k).T) (.bool (S k).nn) (.bool (S k).bd) (.bool (S k).pl) (.bool (S k).mi) (.bool (S k).am) ∧ Q9 wr (w.heap.size + 1) (.int .i64 0) (.bool false) (.slice none 0 0) (.int .i64 0) (.bool false) (.bool false) (.bool false) (.bool false) (.bool false) ∧ Own wr (w.heap.size + 2) p c (Nm.wl (S k).z) ∧ Below w.heap.size w wr) (fun i _ => xs.length - (intOf i).toNat)
  case atStart =>
    refine ⟨0, none, 0, Nat.zero_le _, rfl, ?_, R, ?_, bel0⟩
    · rw [H0.out, hw0]; exact A
    · rw [H0.out, hw0]; exact Own.nil _ _
  case round =>
    clear A R bel0
    obtain ⟨k, p, c, hk, rfl, A, R, O, hb⟩ := hrel
    have lR := R.lt
    by_cases hlt : k < xs.length
    · obtain ⟨h1, h2⟩ := HX.out k hlt
      have h1 : wr.cell? ⟨b, k * 2, none⟩ = some (.int .u64 (xs.getD k 0)) := (hb.cell (p := ⟨b, k * 2, none⟩) (World.block_lt_of_cell? w _ h1)).trans h1
      have h2 : wr.cell? ⟨b, k * 2 + 1, none⟩ = some (.int .u64 (ys.getD k 0)) := (hb.cell (p := ⟨b, k * 2 + 1, none⟩) (World.block_lt_of_cell? w _ h2)).trans h2
      have C := hid (fun w' h h' => CA.out k hlt p c w' h h')
      obtain ⟨s, hs⟩ : ∃ s, s = S k := ⟨_, rfl⟩
      obtain ⟨s', hs'⟩ : ∃ s', s' = S (k + 1) := ⟨_, rfl⟩
      obtain ⟨x, hxk⟩ : ∃ x, x = xs.getD k 0 := ⟨_, rfl⟩
      obtain ⟨y, hyk⟩ : ∃ x, x = ys.getD k 0 := ⟨_, rfl⟩
      rw [← hs, ← hs', ← hxk, ← hyk] at C
      rw [← hs] at A O
      rw [← hxk] at h1
      rw [← hyk] at h2
      have HS' := hid hs'
      clear hs hs' hxk hyk CA H0 HX
      have A0 := A.alloc (.cells #[.int .u64 x, .int .u64 y] 136)
      have R0 := R.alloc (.cells #[.int .u64 x, .int .u64 y] 136)
      have O0 := O.alloc (.cells #[.int .u64 x, .int .u64 y] 136)
      have hb0 := bel_al hb (.cells #[.int .u64 x, .int .u64 y] 136)
      have P0 := R2.new wr (.int .u64 x) (.int .u64 y) 136
      obtain ⟨e0, e1, -, -⟩ := P0
      have A' := A0
      obtain ⟨c0, c1, c2, c3, c4, c5, c6, c7, c8, f0, f1, f2, f3, f4, f5, f6, f7, f8⟩ := A'
      go_wp2_with fail
      refine (C.out _ (hE.below hb0) O0.sl).mono ?_
      rintro r w1 ⟨a', c', rfl, o1, hb1⟩
      clear c0 c1 c2 c3 c4 c5 c6 c7 c8 f0 f1 f2 f3 f4 f5 f6 f7 f8 e0 e1
      have A1 := A0.below hb1
      have R1 := R0.below hb1
      have lw1 : wr.heap.size + 1 ≤ w1.heap.size := by simpa using hb1.size
      have o1 : Own w1 (wr.heap.size + 1) a' c' (Nm.wl s'.z) := by simpa using o1
      have bel1 := bel_go hb0 hb1
      have A1' := A1
      obtain ⟨c0, c1, c2, c3, c4, c5, c6, c7, c8, f0, f1, f2, f3, f4, f5, f6, f7, f8⟩ := A1'
      go_wp2
      go_roundw
      case rel =>
        refine ⟨k + 1, a', c', by omega, by go_num, ?_, ?_, ?_, ?_⟩
        · rw [← HS'.out]; exact Q9.set9 A1 _ _ _ _ _ _ _ _ _
        · exact R1.of_block (heap9n _ _ _ (by omega) _ _ _ _ _ _ _ _ _)
        · rw [← HS'.out]
          refine Own.base (B := wr.heap.size + 1) ?_ (by omega)
          repeat (first | with_reducible exact o1 | (with_reducible refine Own.setBelow ?_ ?_ _; rotate_left; focus (first | (simp; done) | (simp; omega))))
        · exact (by (repeat with_reducible first | refine Below.setCell ?_ ?_ _ | exact bz0 _ _ | refine bz1 ?_ | refine bz2 ?_ _ | refine bz3 ?_ _ | refine bz4 ?_ bel1 | refine Below.alloc ?_ ?_ _ | refine Below.trans ?_ (Below.mono bel1 ?_)) <;> first | omega | (simp; done) | (simp; omega))
      case measure => simp [intOf]; omega
    · obtain rfl : k = xs.length := by omega
      clear HX CA H0
      obtain ⟨s, hs⟩ : ∃ s, s = S xs.length := ⟨_, rfl⟩
      rw [← hs] at A O
      have HS := hid hs
      clear hs
      obtain ⟨c0, c1, c2, c3, c4, c5, c6, c7, c8⟩ := A.cs
      obtain ⟨r0, r1, r2, r3, r4, r5, r6, r7, r8, g0, g1, g2, g3, g4, g5, g6, g7, g8⟩ := R
      go_wp2
      refine bodyPost_ret (v := .agg #[.int .i64 fm, .bool (Nm.wn s.z), .slice p (Nm.wl s.z).length c, .int .i64 s.T, .bool s.nn, .bool s.bd, .bool s.pl, .bool s.mi, .bool s.am]) (by simp [results, Tryz.results197, go_sem, r0, r1, r2, r3, r4, r5, r6, r7, r8]) rfl ⟨p, c, by rw [HS.out], ?_, ?_⟩
      · rw [← HS.out]
        refine Own.base (B := w.heap.size + 2) ?_ (by omega)
        repeat (first | with_reducible exact O | (with_reducible refine Own.setBelow ?_ ?_ _; rotate_left; focus (first | (simp; done) | (simp; omega))))
      · exact (by (repeat with_reducible first | refine Below.setCell ?_ ?_ _ | exact bz0 _ _ | refine bz1 ?_ | refine bz2 ?_ _ | refine bz3 ?_ _ | refine bz4 ?_ hb | refine Below.alloc ?_ ?_ _ | refine Below.trans ?_ (Below.mono hb ?_)) <;> first | omega | (simp; done) | (simp; omega))
theorem summed2_impl (fid : Nat) (hd : Dir fid) (fm mode : Int) (hfm : fmtB fm = true) (S : Nat → St) (h0 : S 0 = St0) (xs ys : List Int) (b : Nat) (u : Value) (w : World) (hE : E3 u w) (hx : F2 w b xs ys) (hl : xs.length ≤ 1048576) (hln : (Nm.wl (S xs.length).z).length ≤ 200)
    (hadd : ∀ k, k < xs.length → ∀ (p : Option Addr) (c : Nat) (w' : World), EE u w' → Sl .u32 w' (.slice p (Nm.wl (S k).z).length c) (Nm.wl (S k).z) → Calls Tryz.prog fid #[.agg #[.int .i64 fm, .bool (Nm.wn (S k).z), .slice p (Nm.wl (S k).z).length c, .int .i64 (S k).T, .bool (S k).nn, .bool (S k).bd, .bool (S k).pl, .bool (S k).mi, .bool (S k).am], .agg #[.int .u64 (xs.getD k 0), .int .u64 (ys.getD k 0)]] w' fun r w'' => ∃ a' c', r = .returned (.tuple #[.agg #[.int .i64 fm, .bool (Nm.wn (S (k + 1)).z), .slice a' (Nm.wl (S (k + 1)).z).length c', .int .i64 (S (k + 1)).T, .bool (S (k + 1)).nn, .bool (S (k + 1)).bd, .bool (S (k + 1)).pl, .bool (S (k + 1)).mi, .bool (S (k + 1)).am], .int .i64 0]) ∧ Own w'' w'.heap.size a' c' (Nm.wl (S (k + 1)).z) ∧ Below w'.heap.size w' w'') (B F : Int) (hB : B = (arB fm (Nm.wn (S xs.length).z) (Nm.wl (S xs.length).z) (S xs.length).T (S xs.length).nn (S xs.length).bd (S xs.length).pl (S xs.length).mi (S xs.length).am mode)) (hF : F = (arF fm (Nm.wn (S xs.length).z) (Nm.wl (S xs.length).z) (S xs.length).T (S xs.length).nn (S xs.length).bd (S xs.length).pl (S xs.length).mi (S xs.length).am mode)) :
    Calls Tryz.prog 114 #[.int .i64 fm, .int .i64 mode, .slice (some ⟨b, 0, none⟩) xs.length xs.length, .func (.func fid) #[] #[]] w fun r w' => r = .returned (.agg #[.int .i64 0, .int .u64 B, .int .i64 F]) ∧ Below w.heap.size w w' := by
  have CN := hid (fun w' => new_impl fm w' fm (nw_fm hfm))
  have CF := hid (fun w' h h' => fold2_impl fid hd fm S h0 xs ys b u w' h h' hl hadd)
  have CR := hid (fun p c w' h h' => round_impl fm (Nm.wn (S xs.length).z) (S xs.length).T (S xs.length).nn (S xs.length).bd (S xs.length).pl (S xs.length).mi (S xs.length).am p c (Nm.wl (S xs.length).z) mode w' h h' (Nm.wl_dg _) (by omega))
  simp only [← hB, ← hF] at CR
  obtain ⟨s, hs⟩ : ∃ s, s = S xs.length := ⟨_, rfl⟩
  simp only [← hs] at CF CR
  obtain ⟨O, hO⟩ : ∃ O, O = (arO fm (Nm.wn s.z) (Nm.wl s.z) s.T s.nn s.bd s.pl s.mi s.am mode) := ⟨_, rfl⟩
  simp only [← hO] at CR
  clear hB hF hs hO h0 hadd hd hln hfm
  have R := R3.new w (.int .i64 0) (.int .u64 0) (.int .i64 0) 43
  have bel0 : Below w.heap.size w (w.alloc (.cells #[.int .i64 0, .int .u64 0, .int .i64 0] 43)) := (by repeat (first | exact bz0 _ _ | refine bz1 ?_ | refine bz2 ?_ _ | refine bz3 ?_ _ | refine bz5 ?_ _ | refine bz6 ?_ _))
  go_enter Tryz.func114, Tryz.ntmps114
  go_wp2_with fail
  refine (CN.out _).mono ?_
  rintro r w1 ⟨rfl, hb1⟩
  have bel1 := bel_go bel0 hb1
  go_wp2_with fail
  refine (CF.out _ (hE.below bel1).ee (hx.below bel1)).mono ?_
  rintro r w2 ⟨p, c, rfl, o2, hb2⟩
  have bel2 := bel_go bel1 hb2
  go_wp2_with fail
  refine (CR.out p c _ (hE.below bel2).t o2.sl).mono ?_
  rintro r w3 ⟨rfl, hb3⟩
  obtain ⟨r0, r1, r2, g0, g1, g2⟩ := ((R.below hb1).below hb2).below hb3
  go_wp2
  refine bodyPost_ret (v := .agg #[.int .i64 0, .int .u64 B, .int .i64 F]) (by simp [results, Tryz.results114, go_sem, r0, r1, r2]) rfl ⟨rfl, ?_⟩
  exact (by (repeat with_reducible first | refine Below.setCell ?_ ?_ _ | exact bz0 _ _ | refine bz1 ?_ | refine bz2 ?_ _ | refine bz3 ?_ _ | refine bz4 ?_ hb3 | refine bz4 ?_ bel2 | refine Below.alloc ?_ ?_ _ | refine Below.trans ?_ (Below.mono hb3 ?_) | refine Below.trans ?_ (Below.mono bel2 ?_)) <;> first | omega | (simp; done) | (simp; omega))
theorem dot_spec_no (fm mode : Int) (xs ys : List Int) (a e : Option Addr) (cap ecap : Nat) (w : World) (hx : Sl .u64 w (.slice a xs.length cap) xs) (hy : Sl .u64 w (.slice e ys.length ecap) ys) (hl : xs.length ≤ 1048576) (hly : ys.length ≤ 1048576) (c : Int) (hc : c = vec2 fm mode xs ys) (h0 : c ≠ 0) :
    Calls Tryz.prog 27 #[.int .i64 fm, .int .i64 mode, .slice a xs.length cap, .slice e ys.length ecap] w fun r w' => r = .returned (.agg #[.int .i64 c, .int .u64 0, .int .i64 0]) ∧ Below w.heap.size w w' := by
  have CC := hid (fun w' h h' => l8_spec fm mode a e cap ecap xs ys w' h h' hl hly)
  rw [← hc] at CC
  have hne : (c != 0) = true := by simpa using h0
  clear hc h0
  have R := R3.new w (.int .i64 0) (.int .u64 0) (.int .i64 0) 43
  go_enter Tryz.func27, Tryz.ntmps27
  go_wp2_with fail
  refine (CC.out _ (hx.alloc _) (hy.alloc _)).mono ?_
  rintro r w1 ⟨rfl, hb1⟩
  obtain ⟨r0, r1, r2, g0, g1, g2⟩ := R.below hb1
  go_wp2
  refine bodyPost_ret (v := .agg #[.int .i64 c, .int .u64 0, .int .i64 0]) (by simp [results, Tryz.results27, go_sem, r0, r1, r2]) rfl ⟨rfl, ?_⟩
  exact (by (repeat with_reducible first | refine Below.setCell ?_ ?_ _ | exact bz0 _ _ | refine bz1 ?_ | refine bz2 ?_ _ | refine bz3 ?_ _ | refine bz4 ?_ hb1 | refine Below.alloc ?_ ?_ _ | refine Below.trans ?_ (Below.mono hb1 ?_)) <;> first | omega | (simp; done) | (simp; omega))
theorem dot_spec_yes (fm mode : Int) (hfm : fmtB fm = true) (S : Nat → St) (h0 : S 0 = St0) (xs ys : List Int) (hxy : ys.length = xs.length) (a e : Option Addr) (cap ecap : Nat) (w : World) (hx : Sl .u64 w (.slice a xs.length cap) xs) (hy : Sl .u64 w (.slice e ys.length ecap) ys) (hl : xs.length ≤ 1048576) (hc : vec2 fm mode xs ys = 0) (hln : (Nm.wl (S xs.length).z).length ≤ 200)
    (hadd : ∀ k, k < xs.length → ∀ (p : Option Addr) (c : Nat) (w' : World), Sl .u32 w' (.slice p (Nm.wl (S k).z).length c) (Nm.wl (S k).z) → Calls Tryz.prog 53 #[.agg #[.int .i64 fm, .bool (Nm.wn (S k).z), .slice p (Nm.wl (S k).z).length c, .int .i64 (S k).T, .bool (S k).nn, .bool (S k).bd, .bool (S k).pl, .bool (S k).mi, .bool (S k).am], .int .u64 (xs.getD k 0), .int .u64 (ys.getD k 0)] w' fun r w'' => ∃ a' c', r = .returned (.tuple #[.agg #[.int .i64 fm, .bool (Nm.wn (S (k + 1)).z), .slice a' (Nm.wl (S (k + 1)).z).length c', .int .i64 (S (k + 1)).T, .bool (S (k + 1)).nn, .bool (S (k + 1)).bd, .bool (S (k + 1)).pl, .bool (S (k + 1)).mi, .bool (S (k + 1)).am], .int .i64 0]) ∧ Own w'' w'.heap.size a' c' (Nm.wl (S (k + 1)).z) ∧ Below w'.heap.size w' w'') (B F : Int) (hB : B = (arB fm (Nm.wn (S xs.length).z) (Nm.wl (S xs.length).z) (S xs.length).T (S xs.length).nn (S xs.length).bd (S xs.length).pl (S xs.length).mi (S xs.length).am mode)) (hF : F = (arF fm (Nm.wn (S xs.length).z) (Nm.wl (S xs.length).z) (S xs.length).T (S xs.length).nn (S xs.length).bd (S xs.length).pl (S xs.length).mi (S xs.length).am mode)) :
    Calls Tryz.prog 27 #[.int .i64 fm, .int .i64 mode, .slice a xs.length cap, .slice e ys.length ecap] w fun r w' => r = .returned (.agg #[.int .i64 0, .int .u64 B, .int .i64 F]) ∧ Below w.heap.size w w' := by
  obtain ⟨-, hx1, hx2, hx3⟩ := hx.cells
  obtain ⟨-, hy1, hy2, hy3⟩ := hy.cells
  have CC := hid (fun w' h h' => l8_spec fm mode a e cap ecap xs ys w' h h' hl (by omega))
  rw [hc] at CC
  have HXY := hid hxy
  clear hxy
  have CN := hid (fun w' => new_spec fm w' fm (nw_fm hfm))
  have CA := hid hadd
  have CR := hid (fun p c w' h => res_spec fm mode (S xs.length) p c w' h hln B F hB hF)
  have H0 := hid h0
  have hw0 : Nm.wl St0.z = [] := Nm.lim_zero
  clear hadd h0 hc hln hB hF hfm
  have R := R3.new w (.int .i64 0) (.int .u64 0) (.int .i64 0) 43
  go_enter Tryz.func27, Tryz.ntmps27
  go_wp2_with fail
  refine (CC.out _ (hx.alloc _) (hy.alloc _)).mono ?_
  rintro r w1 ⟨rfl, hb1⟩
  go_wp2_with fail
  refine (CN.out _).mono ?_
  rintro r wa ⟨rfl, hb2⟩
  have lwa : w.heap.size < wa.heap.size := World.block_lt_of_cell? wa _ ((R.below hb1).below hb2).c0
  replace R := ((R.below hb1).below hb2).al (.cells #[.int .i64 fm, .bool false, .slice none 0 0, .int .i64 0, .bool false, .bool false, .bool false, .bool false, .bool false] 50)
  have A := Q9.new wa (.int .i64 fm) (.bool false) (.slice none 0 0) (.int .i64 0) (.bool false) (.bool false) (.bool false) (.bool false) (.bool false) 50
  have bel2 : Below w.heap.size w wa := (by repeat (first | exact bz0 _ _ | refine bz1 ?_ | refine bz2 ?_ _ | refine bz3 ?_ _ | refine bz4 ?_ hb2 | refine bz4 ?_ hb1 | refine bz5 ?_ _ | refine bz6 ?_ _ | refine bz7 ?_ hb2 | refine bz7 ?_ hb1))
  have bel3 := bel_al bel2 (.cells #[.int .i64 fm, .bool false, .slice none 0 0, .int .i64 0, .bool false, .bool false, .bool false, .bool false, .bool false] 50)
  clear hb1 hb2
  go_wp2_with fail
  go_loopw [11] (fun i wr => ∃ (k : Nat) (p : Option Addr) (c : Nat), k ≤ xs.length ∧ i = .int .i64 k ∧ Q9 wr wa.heap.size (.int .i64 fm) (.bool (Nm.wn (S k).z)) (.slice p (Nm.wl (S k).z).length c) (.int .i64 (S k).T) (.bool (S k).nn) (.bool (S k).bd) (.bool (S k).pl) (.bool (S k).mi) (.bool (S k).am) ∧ R3 wr w.heap.size (.int .i64 0) (.int .u64 0) (.int .i64 0) ∧ Own wr (wa.heap.size + 1) p c (Nm.wl (S k).z) ∧ Below w.heap.size w wr) (fun i _ => xs.length - (intOf i).toNat)
  case atStart =>
    refine ⟨0, none, 0, Nat.zero_le _, rfl, ?_, R, ?_, bel3⟩
    · rw [H0.out, hw0]; exact A
    · rw [H0.out, hw0]; exact Own.nil _ _
  case round =>
    clear A R bel3 bel2
    obtain ⟨k, p, c, hk, rfl, A, R, O, hb⟩ := hrel
    have lA := A.lt
    by_cases hlt : k < xs.length
    · obtain ⟨b, off, rfl, hcx⟩ := hx3 (by omega)
      have h1 := hcx k hlt
      have hbw : b < w.heap.size := World.block_lt_of_cell? w _ h1
      have h1 : wr.cell? ⟨b, off + k, none⟩ = some (.int .u64 (xs.getD k 0)) := (hb.cell (p := ⟨b, off + k, none⟩) hbw).trans h1
      obtain ⟨g, og, rfl, hcy⟩ := hy3 (by have := HXY.out; omega)
      have k1 := hcy k (by have := HXY.out; omega)
      have gbw : g < w.heap.size := World.block_lt_of_cell? w _ k1
      have k1 : wr.cell? ⟨g, og + k, none⟩ = some (.int .u64 (ys.getD k 0)) := (hb.cell (p := ⟨g, og + k, none⟩) gbw).trans k1
      clear hx3 hcx hy3 hcy
      have C := hid (fun w' h => CA.out k hlt p c w' h)
      obtain ⟨s, hs⟩ : ∃ s, s = S k := ⟨_, rfl⟩
      obtain ⟨s', hs'⟩ : ∃ s', s' = S (k + 1) := ⟨_, rfl⟩
      obtain ⟨x, hxk⟩ : ∃ x, x = xs.getD k 0 := ⟨_, rfl⟩
      obtain ⟨y, hyk⟩ : ∃ x, x = ys.getD k 0 := ⟨_, rfl⟩
      rw [← hs, ← hs', ← hxk, ← hyk] at C
      rw [← hs] at A O
      rw [← hxk] at h1
      rw [← hyk] at k1
      have HS' := hid hs'
      clear hs hs' hxk hyk CA H0
      have hne : b ≠ wa.heap.size := by omega
      have gne : g ≠ wa.heap.size := by omega
      have gbl : g < wr.drew.heap.size := World.block_lt_of_cell? wr _ k1
      have hyl : k < ys.length := by have := HXY.out; omega
      have hbl : b < wr.drew.heap.size := World.block_lt_of_cell? wr _ h1
      go_upto_region 14 with fail
      refine wp_region_held_drew (S := fun w' => w'.cell? ⟨b, off + k, none⟩ = some (.int .u64 x) ∧ w'.cell? ⟨g, og + k, none⟩ = some (.int .u64 y)) (by kernel_rfl) ?_ (fun hHeld => ?_)
      · exact ⟨h1, k1⟩
      refine tk 1 ?_ rfl (Or.inl ⟨by rfl, ?_⟩) ?_
      rotate_left
      · (intro w hSw; (try dsimp only at hSw); (try obtain ⟨hS0, hS1⟩ := hSw); go_simp; try (with_reducible rfl))
      try simp only [Act.put, Ls]
      refine tk 2 ?_ rfl (Or.inl ⟨by rfl, ?_⟩) ?_
      rotate_left
      · (intro w hSw; (try dsimp only at hSw); (try obtain ⟨hS0, hS1⟩ := hSw); go_simp; try (with_reducible rfl))
      try simp only [Act.put, Ls]
      refine tk 3 ?_ rfl (Or.inl ⟨by rfl, ?_⟩) ?_
      rotate_left
      · (intro w hSw; (try dsimp only at hSw); (try obtain ⟨hS0, hS1⟩ := hSw); go_simp; try (with_reducible rfl))
      try simp only [Act.put, Ls]
      refine tk 4 ?_ rfl (Or.inl ⟨by rfl, ?_⟩) ?_
      rotate_left
      · (intro w hSw; (try dsimp only at hSw); (try obtain ⟨hS0, hS1⟩ := hSw); go_simp; try (with_reducible rfl))
      try simp only [Act.put, Ls]
      refine tk 5 ?_ rfl (Or.inl ⟨by rfl, ?_⟩) ?_
      rotate_left
      · (intro w hSw; (try dsimp only at hSw); (try obtain ⟨hS0, hS1⟩ := hSw); go_simp; try (with_reducible rfl))
      try simp only [Act.put, Ls]
      refine tk 6 ?_ rfl (Or.inl ⟨by rfl, ?_⟩) ?_
      rotate_left
      · (intro w hSw; (try dsimp only at hSw); (try obtain ⟨hS0, hS1⟩ := hSw); go_simp; try (with_reducible rfl))
      try simp only [Act.put, Ls]
      refine tk 7 ?_ rfl (Or.inl ⟨by rfl, ?_⟩) ?_
      rotate_left
      · (intro w hSw; (try dsimp only at hSw); (try obtain ⟨hS0, hS1⟩ := hSw); go_simp; try (with_reducible rfl))
      try simp only [Act.put, Ls]
      refine tk 8 ?_ rfl (Or.inl ⟨by rfl, ?_⟩) ?_
      rotate_left
      · (intro w hSw; (try dsimp only at hSw); (try obtain ⟨hS0, hS1⟩ := hSw); go_simp; try (with_reducible rfl))
      try simp only [Act.put, Ls]
      refine rdy 0 rfl (fun K hK => ?_)
      obtain ⟨c0, c1, c2, c3, c4, c5, c6, c7, c8⟩ := A.drew.cs
      go_simp
      refine hK.out _ _ ?_ (fun hHeld => ?_)
      · exact ⟨h1, k1⟩
      clear hK K
      try simp only [Act.put, Ls]
      clear c0 c1 c2 c3 c4 c5 c6 c7 c8
      refine rdy 9 rfl (fun K hK => ?_)
      go_simp
      go_at_call 53; refine (C.out _ O.drew.sl).mono ?_; rintro r w1 ⟨a', c', rfl, o1, hb1⟩
      have h2 : w1.cell? ⟨b, off + k, none⟩ = some (.int .u64 x) := (hb1.cell (p := ⟨b, off + k, none⟩) hbl).trans h1
      have k2 : w1.cell? ⟨g, og + k, none⟩ = some (.int .u64 y) := (hb1.cell (p := ⟨g, og + k, none⟩) gbl).trans k1
      have A1 := A.drew.below hb1
      have R1 := R.dr.below hb1
      have lw1 := hb1.size
      have bel1 : Below w.heap.size w w1 := bel_go (Below.drew hb) hb1
      refine hK.out _ _ ?_ (fun hHeld => ?_)
      · exact ⟨h2, k2⟩
      clear hK K
      try simp only [Act.put, Ls]
      refine tk 10 ?_ rfl (Or.inl ⟨by rfl, ?_⟩) ?_
      rotate_left
      · (intro w hSw; (try dsimp only at hSw); (try obtain ⟨hS0, hS1⟩ := hSw); go_simp; try (with_reducible rfl))
      try simp only [Act.put, Ls]
      refine tk 11 ?_ rfl (Or.inl ⟨by rfl, ?_⟩) ?_
      rotate_left
      · (intro w hSw; (try dsimp only at hSw); (try obtain ⟨hS0, hS1⟩ := hSw); go_simp; try (with_reducible rfl))
      try simp only [Act.put, Ls]
      refine tk 12 ?_ rfl (Or.inl ⟨by rfl, ?_⟩) ?_
      rotate_left
      · (intro w hSw; (try dsimp only at hSw); (try obtain ⟨hS0, hS1⟩ := hSw); go_simp; try (with_reducible rfl))
      try simp only [Act.put, Ls]
      refine rdy 13 rfl (fun K hK => ?_)
      have A1' := A1
      obtain ⟨c0, c1, c2, c3, c4, c5, c6, c7, c8, f0, f1, f2, f3, f4, f5, f6, f7, f8⟩ := A1'
      go_simp
      refine hK.out _ _ ?_ (fun hHeld => ?_)
      · exact ⟨(World.cell?_of_block (a := ⟨b, off + k, none⟩) (heap9n w1 wa.heap.size b hne _ _ _ _ _ _ _ _ _)).trans h2, (World.cell?_of_block (a := ⟨g, og + k, none⟩) (heap9n w1 wa.heap.size g gne _ _ _ _ _ _ _ _ _)).trans k2⟩
      clear hK K
      try simp only [Act.put, Ls]
      refine wpAnyH_done (by kernel_rfl) ?_ _
      go_wp2
      go_roundw
      case rel =>
        refine ⟨k + 1, a', c', by omega, by go_num, ?_, ?_, ?_, ?_⟩
        · rw [← HS'.out]; exact Q9.set9 A1 _ _ _ _ _ _ _ _ _
        · have e := heap9n w1 wa.heap.size w.heap.size (by omega)
          exact ⟨(World.cell?_of_block (a := ⟨w.heap.size, 0, none⟩) (e _ _ _ _ _ _ _ _ _)).trans R1.c0, (World.cell?_of_block (a := ⟨w.heap.size, 1, none⟩) (e _ _ _ _ _ _ _ _ _)).trans R1.c1, (World.cell?_of_block (a := ⟨w.heap.size, 2, none⟩) (e _ _ _ _ _ _ _ _ _)).trans R1.c2, (World.frozen?_of_block (a := ⟨w.heap.size, 0, none⟩) (e _ _ _ _ _ _ _ _ _)).trans R1.f0, (World.frozen?_of_block (a := ⟨w.heap.size, 1, none⟩) (e _ _ _ _ _ _ _ _ _)).trans R1.f1, (World.frozen?_of_block (a := ⟨w.heap.size, 2, none⟩) (e _ _ _ _ _ _ _ _ _)).trans R1.f2⟩
        · rw [← HS'.out]
          have o1' : Own w1 wr.heap.size a' c' (Nm.wl s'.z) := o1
          refine Own.base (B := wr.heap.size) ?_ (by omega)
          repeat (first | with_reducible exact o1' | (with_reducible refine Own.setBelow ?_ ?_ _; rotate_left; focus (first | (simp; done) | (simp; omega))))
        · exact (by (repeat with_reducible first | refine Below.setCell ?_ ?_ _ | exact bz0 _ _ | refine bz1 ?_ | refine bz2 ?_ _ | refine bz3 ?_ _ | refine bz4 ?_ bel1 | refine Below.alloc ?_ ?_ _ | refine Below.trans ?_ (Below.mono bel1 ?_)) <;> first | omega | (simp; done) | (simp; omega))
      case measure => simp [intOf]; omega
    · obtain rfl : k = xs.length := by omega
      clear hx3 hy3 CA H0
      obtain ⟨s, hs⟩ : ∃ s, s = S xs.length := ⟨_, rfl⟩
      rw [← hs] at A O CR
      clear hs
      obtain ⟨c0, c1, c2, c3, c4, c5, c6, c7, c8⟩ := A.cs
      go_wp2_with fail
      refine (CR.out p c _ O.sl).mono ?_
      rintro r w2 ⟨rfl, hb2⟩
      clear c0 c1 c2 c3 c4 c5 c6 c7 c8
      obtain ⟨r0, r1, r2, g0, g1, g2⟩ := R.below hb2
      go_wp2
      refine bodyPost_ret (v := .agg #[.int .i64 0, .int .u64 B, .int .i64 F]) (by simp [results, Tryz.results27, go_sem, r0, r1, r2]) rfl ⟨rfl, ?_⟩
      exact (by (repeat with_reducible first | refine Below.setCell ?_ ?_ _ | exact bz0 _ _ | refine bz1 ?_ | refine bz2 ?_ _ | refine bz3 ?_ _ | refine bz4 ?_ hb2 | refine bz4 ?_ hb | refine Below.alloc ?_ ?_ _ | refine Below.trans ?_ (Below.mono hb2 ?_) | refine Below.trans ?_ (Below.mono hb ?_)) <;> first | omega | (simp; done) | (simp; omega))
end Go.Proofs.YtkfjmcdniohljaaGreatDoor
