/-
  What is needed of DW, DZ.
-/
import Derived.Test.YtkfjmcdniohljaaGreatDoorC48
set_option maxHeartbeats 16000000
set_option maxRecDepth 1000000
namespace Go.Proofs.YtkfjmcdniohljaaGreatDoor
set_option linter.unusedVariables false
set_option linter.unusedSimpArgs false
open Go.RowKit Go.Deep
def facV (xs ys : List Int) (k j : Nat) : Value := if j < 2 * k then (if j % 2 = 0 then .int .u64 (xs.getD (j / 2) 0) else .int .u64 (ys.getD (j / 2) 0)) else .int .u64 0
theorem facV_step {w : World} {g n : Nat} {xs ys : List Int} {k : Nat} {t : TypeId} (h : w.rowIs g t (2 * n) (facV xs ys k)) (hk : k < n) :
    ((w.setCell ⟨g, k * 2, none⟩ (.int .u64 (xs.getD k 0))).setCell ⟨g, k * 2 + 1, none⟩ (.int .u64 (ys.getD k 0))).rowIs g t (2 * n) (facV xs ys (k + 1)) := by
  refine ((h.set (k * 2) _).set (k * 2 + 1) _).congr (fun j hj => ?_)
  unfold facV
  by_cases h1 : j = k * 2 + 1
  · subst h1
    simp [show (k * 2 + 1) % 2 = 1 by omega, show (k * 2 + 1) / 2 = k by omega, show k * 2 + 1 < 2 * (k + 1) by omega]
  · by_cases h2 : j = k * 2
    · subst h2
      simp [show (k * 2) % 2 = 0 by omega, show k * 2 / 2 = k by omega, show k * 2 < 2 * (k + 1) by omega]
    · have e : (j < 2 * (k + 1)) = (j < 2 * k) := propext ⟨by omega, by omega⟩
      simp [h1, h2, e]
theorem facV_F2 {w : World} {g : Nat} {xs ys : List Int} {t : TypeId} (h : w.rowIs g t (2 * xs.length) (facV xs ys xs.length)) : F2 w g xs ys := fun k hk => by
  have h1 := h.cell (i := k * 2) (by omega)
  have h2 := h.cell (i := k * 2 + 1) (by omega)
  unfold facV at h1 h2
  rw [if_pos (by omega), if_pos (by omega), show k * 2 / 2 = k by omega] at h1
  rw [if_pos (by omega), if_neg (by omega), show (k * 2 + 1) / 2 = k by omega] at h2
  exact ⟨h1, h2⟩
theorem infoF : (Tryz.prog.info? 136).map (fun i => (i.zero, i.size, i.bytes)) = some (some (.agg #[.int .u64 0, .int .u64 0]), 2, 16) := by kernel_rfl
theorem make_fac (n : Nat) (hn : n ≤ 1048576) (w : World) :
    (Instr.makeSlice 137 (.int .i64 (n : Int)) (.int .i64 (n : Int))).run Tryz.prog w = .ok (.slice (some ⟨w.heap.size, 0, none⟩) n n) (w.alloc (.cells (madeCells #[.int .u64 0, .int .u64 0] (n * 2)) 136)) := by
  obtain ⟨i, hi, hzz⟩ := Option.map_eq_some_iff.1 infoF
  simp only [Prod.mk.injEq] at hzz
  obtain ⟨hz, hs, hb⟩ := hzz
  have hr := run_make (P := Tryz.prog) w 137 136 i _ Tryz.underlying137 hi hz .i64 .i64 n n (by omega) (Int.le_refl _) (by rw [hb]; omega) (by omega)
  simp only [Int.toNat_natCast, hs] at hr
  exact hr
theorem made_fac (w : World) (n : Nat) (xs ys : List Int) (t : TypeId) : (w.alloc (.cells (madeCells #[.int .u64 0, .int .u64 0] (n * 2)) t)).rowIs w.heap.size t (2 * n) (facV xs ys 0) :=
  ⟨_, blk_alloc_new _ _, by rw [size_madeCells]; omega, fun i hi => by
    have hi' : i < n * 2 := by omega
    rcases (show i % 2 = 0 ∨ i % 2 = 1 by omega) with e | e <;> simp [madeCells, hi', e, facV]⟩
theorem factors_any (xs ys : List Int) (hxy : ys.length = xs.length) (a e : Option Addr) (cap ecap : Nat) (w : World) (hx : Sl .u64 w (.slice a xs.length cap) xs) (hy : Sl .u64 w (.slice e ys.length ecap) ys) (hl : xs.length ≤ 1048576) :
    Calls Tryz.prog 115 #[.slice a xs.length cap, .slice e ys.length ecap] w fun r w' => ∃ g, r = .returned (.slice (some ⟨g, 0, none⟩) xs.length xs.length) ∧ F2 w' g xs ys ∧ Below w.heap.size w w' := by
  obtain ⟨-, hx1, hx2, hx3⟩ := hx.cells
  obtain ⟨-, hy1, hy2, hy3⟩ := hy.cells
  have hmk := make_fac xs.length hl
  have HXY := hid hxy
  clear hxy
  go_enter Tryz.func115, Tryz.ntmps115
  go_wp2_with fail
  go_loopw [12] (fun i wr => ∃ k : Nat, k ≤ xs.length ∧ i = .int .i64 k ∧ wr.rowIs w.heap.size 136 (2 * xs.length) (facV xs ys k) ∧ Below w.heap.size w wr) (fun i _ => xs.length - (intOf i).toNat)
  case atStart => exact ⟨0, Nat.zero_le _, rfl, made_fac w xs.length xs ys _, (Below.refl _ _).alloc (Nat.le_refl _) _⟩
  case round =>
    clear hmk
    obtain ⟨k, hk, rfl, hrow, hb⟩ := hrel
    by_cases hlt : k < xs.length
    · obtain ⟨b, off, rfl, hcx⟩ := hx3 (by omega)
      obtain ⟨g, og, rfl, hcy⟩ := hy3 (by have := HXY.out; omega)
      have h1 := hcx k hlt
      have k1 := hcy k (by have := HXY.out; omega)
      have h1 : wr.cell? ⟨b, off + k, none⟩ = some (.int .u64 (xs.getD k 0)) := (hb.cell (p := ⟨b, off + k, none⟩) (World.block_lt_of_cell? w _ h1)).trans h1
      have k1 : wr.cell? ⟨g, og + k, none⟩ = some (.int .u64 (ys.getD k 0)) := (hb.cell (p := ⟨g, og + k, none⟩) (World.block_lt_of_cell? w _ k1)).trans k1
      have hyl : k < ys.length := by have := HXY.out; omega
      have o0 := hrow.cell (i := k * 2) (by omega)
      have o1 := hrow.cell (i := k * 2 + 1) (by omega)
      have f0 := hrow.frozen (k * 2)
      have f1 := hrow.frozen (k * 2 + 1)
      clear hx3 hy3
      have hbw : b < w.heap.size := World.block_lt_of_cell? w _ (hcx k hlt)
      have gbw : g < w.heap.size := World.block_lt_of_cell? w _ (hcy k (by have := HXY.out; omega))
      clear hcx hcy
      have hne : b ≠ w.heap.size := by omega
      have gne : g ≠ w.heap.size := by omega
      obtain ⟨x, hxk⟩ : ∃ x, x = xs.getD k 0 := ⟨_, rfl⟩
      obtain ⟨y, hyk⟩ : ∃ x, x = ys.getD k 0 := ⟨_, rfl⟩
      rw [← hxk] at h1
      rw [← hyk] at k1
      have HX := hid hxk
      have HY := hid hyk
      clear hxk hyk
      go_upto_region 13 with fail
      refine wp_region_held_drew (S := fun w' => w'.cell? ⟨b, off + k, none⟩ = some (.int .u64 x) ∧ w'.cell? ⟨g, og + k, none⟩ = some (.int .u64 y)) (by kernel_rfl) ?_ (fun hHeld => ?_)
      · exact ⟨h1, k1⟩
      refine tk 0 ?_ rfl (Or.inl ⟨by rfl, ?_⟩) ?_
      rotate_left
      · (intro w hSw; (try dsimp only at hSw); (try obtain ⟨hS0, hS1⟩ := hSw); go_simp; try (with_reducible rfl))
      try simp only [Act.put, Ls]
      refine tk 1 ?_ rfl (Or.inl ⟨by rfl, ?_⟩) ?_
      rotate_left
      · (intro w hSw; (try dsimp only at hSw); (try obtain ⟨hS0, hS1⟩ := hSw); go_simp; try (with_reducible rfl))
      try simp only [Act.put, Ls]
      refine tk 2 ?_ rfl (Or.inl ⟨by rfl, ?_⟩) ?_
      rotate_left
      · (intro w hSw; (try dsimp only at hSw); (try obtain ⟨hS0, hS1⟩ := hSw); go_simp; try (with_reducible rfl))
      try simp only [Act.put, Ls]
      refine tk 3 ?_ rfl (Or.inl ⟨by rfl, ?_⟩) ?_
      rotate_left
      · (intro w hSw; (try dsimp only at hSw); (try obtain ⟨hS0, hS1⟩ := hSw); go_simp; try (with_reducible rfl))
      try simp only [Act.put, Ls]
      refine tk 4 ?_ rfl (Or.inl ⟨by rfl, ?_⟩) ?_
      rotate_left
      · (intro w hSw; (try dsimp only at hSw); (try obtain ⟨hS0, hS1⟩ := hSw); go_simp; try (with_reducible rfl))
      try simp only [Act.put, Ls]
      refine tk 5 ?_ rfl (Or.inl ⟨by rfl, ?_⟩) ?_
      rotate_left
      · (intro w hSw; (try dsimp only at hSw); (try obtain ⟨hS0, hS1⟩ := hSw); go_simp; try (with_reducible rfl))
      try simp only [Act.put, Ls]
      refine tk 6 ?_ rfl (Or.inl ⟨by rfl, ?_⟩) ?_
      rotate_left
      · (intro w hSw; (try dsimp only at hSw); (try obtain ⟨hS0, hS1⟩ := hSw); go_simp; try (with_reducible rfl))
      try simp only [Act.put, Ls]
      refine tk 7 ?_ rfl (Or.inl ⟨by rfl, ?_⟩) ?_
      rotate_left
      · (intro w hSw; (try dsimp only at hSw); (try obtain ⟨hS0, hS1⟩ := hSw); go_simp; try (with_reducible rfl))
      try simp only [Act.put, Ls]
      refine tk 8 ?_ rfl (Or.inl ⟨by rfl, ?_⟩) ?_
      rotate_left
      · (intro w hSw; (try dsimp only at hSw); (try obtain ⟨hS0, hS1⟩ := hSw); go_simp; try (with_reducible rfl))
      try simp only [Act.put, Ls]
      refine tk 9 ?_ rfl (Or.inl ⟨by rfl, ?_⟩) ?_
      rotate_left
      · (intro w hSw; (try dsimp only at hSw); (try obtain ⟨hS0, hS1⟩ := hSw); go_simp; try (with_reducible rfl))
      try simp only [Act.put, Ls]
      refine tk 10 ?_ rfl (Or.inl ⟨by rfl, ?_⟩) ?_
      rotate_left
      · (intro w hSw; (try dsimp only at hSw); (try obtain ⟨hS0, hS1⟩ := hSw); go_simp; try (with_reducible rfl))
      try simp only [Act.put, Ls]
      refine tk 11 ?_ rfl (Or.inl ⟨by rfl, ?_⟩) ?_
      rotate_left
      · (intro w hSw; (try dsimp only at hSw); (try obtain ⟨hS0, hS1⟩ := hSw); go_simp; try (with_reducible rfl))
      try simp only [Act.put, Ls]
      refine rdy 12 rfl (fun K hK => ?_)
      go_simp
      refine hK.out _ _ ?_ (fun hHeld => ?_)
      · exact ⟨(World.cell?_of_block (a := ⟨b, off + k, none⟩) ((Below.heap_setCell _ _ _ _ hne).trans (Below.heap_setCell _ _ _ _ hne))).trans h1, (World.cell?_of_block (a := ⟨g, og + k, none⟩) ((Below.heap_setCell _ _ _ _ gne).trans (Below.heap_setCell _ _ _ _ gne))).trans k1⟩
      clear hK K
      try simp only [Act.put, Ls]
      refine wpAnyH_done (by kernel_rfl) ?_ _
      go_wp2
      go_roundw
      case rel =>
        refine ⟨k + 1, by omega, by go_num, ?_, ?_⟩
        · have q := facV_step hrow hlt
          rw [← HX.out, ← HY.out] at q
          exact q
        · exact (Below.drew hb).setCell (Nat.le_refl _) _ |>.setCell (Nat.le_refl _) _
      case measure => simp [intOf]; omega
    · obtain rfl : k = xs.length := by omega
      clear hx3 hy3
      go_wp2
      go_ret
      exact ⟨_, rfl, facV_F2 hrow, hb⟩
theorem dir_addProduct : Dir 116 := by
  have k1 : (Tryz.f116.name == "runtime.NumGoroutine") = false := by kernel_rfl
  have k2 : Tryz.f116.body.isNone = false := by kernel_rfl
  have k3 : ¬ Tryz.f116.name = "runtime.NumGoroutine" := by simpa using k1
  have k4 : ¬ Tryz.f116.body = none := by intro h; rw [h] at k2; cases k2
  exact fun args w => by simp [callFunc, go_sem, Tryz.func116, k3, k4]
theorem prodI (fm : Int) (s : St) (x y : Int) (p : Option Addr) (c : Nat) (u : Value) (w : World) (hE : EE u w) (hR : Rt fm s) (hx : okF fm x = true) (x0 : 0 ≤ x) (x1 : x < 18446744073709551616) (hy : okF fm y = true) (y0 : 0 ≤ y) (y1 : y < 18446744073709551616) (hT : s.T ≠ 1000000) (hs : Sl .u32 w (.slice p (Nm.wl s.z).length c) (Nm.wl s.z)) (s' : St) (hs' : s' = s.add (tmM fm x y)) :
    Calls Tryz.prog 116 #[.agg #[.int .i64 fm, .bool (Nm.wn s.z), .slice p (Nm.wl s.z).length c, .int .i64 s.T, .bool s.nn, .bool s.bd, .bool s.pl, .bool s.mi, .bool s.am], .agg #[.int .u64 x, .int .u64 y]] w fun r w' => ∃ a' c', r = .returned (.tuple #[.agg #[.int .i64 fm, .bool (Nm.wn s'.z), .slice a' (Nm.wl s'.z).length c', .int .i64 s'.T, .bool s'.nn, .bool s'.bd, .bool s'.pl, .bool s'.mi, .bool s'.am], .int .i64 0]) ∧ Own w' w.heap.size a' c' (Nm.wl s'.z) ∧ Below w.heap.size w w' := by
  have CA := hid (fun w' h h' => accMI fm s x y p c u w' h hR hx x0 x1 hy y0 y1 hT h' s' hs')
  clear hs' hR hx hy hT
  have A := ((Q9.new w (.int .i64 fm) (.bool (Nm.wn s.z)) (.slice p (Nm.wl s.z).length c) (.int .i64 s.T) (.bool s.nn) (.bool s.bd) (.bool s.pl) (.bool s.mi) (.bool s.am) 50).alloc (.cells #[.int .u64 x, .int .u64 y] 136)).alloc (.cells #[.int .i64 0, .bool false, .slice none 0 0, .int .i64 0, .bool false, .bool false, .bool false, .bool false, .bool false] 50)
  have P := (R2.new (w.alloc (.cells #[.int .i64 fm, .bool (Nm.wn s.z), .slice p (Nm.wl s.z).length c, .int .i64 s.T, .bool s.nn, .bool s.bd, .bool s.pl, .bool s.mi, .bool s.am] 50)) (.int .u64 x) (.int .u64 y) 136).alloc (.cells #[.int .i64 0, .bool false, .slice none 0 0, .int .i64 0, .bool false, .bool false, .bool false, .bool false, .bool false] 50)
  have R := Q9.new ((w.alloc (.cells #[.int .i64 fm, .bool (Nm.wn s.z), .slice p (Nm.wl s.z).length c, .int .i64 s.T, .bool s.nn, .bool s.bd, .bool s.pl, .bool s.mi, .bool s.am] 50)).alloc (.cells #[.int .u64 x, .int .u64 y] 136)) (.int .i64 0) (.bool false) (.slice none 0 0) (.int .i64 0) (.bool false) (.bool false) (.bool false) (.bool false) (.bool false) 50
  have bel0 : Below w.heap.size w (((w.alloc (.cells #[.int .i64 fm, .bool (Nm.wn s.z), .slice p (Nm.wl s.z).length c, .int .i64 s.T, .bool s.nn, .bool s.bd, .bool s.pl, .bool s.mi, .bool s.am] 50)).alloc (.cells #[.int .u64 x, .int .u64 y] 136)).alloc (.cells #[.int .i64 0, .bool false, .slice none 0 0, .int .i64 0, .bool false, .bool false, .bool false, .bool false, .bool false] 50)) := (by repeat (first | exact bz0 _ _ | refine bz1 ?_ | refine bz2 ?_ _ | refine bz3 ?_ _ | refine bz5 ?_ _ | refine bz6 ?_ _))
  have e1 : (w.alloc (.cells #[.int .i64 fm, .bool (Nm.wn s.z), .slice p (Nm.wl s.z).length c, .int .i64 s.T, .bool s.nn, .bool s.bd, .bool s.pl, .bool s.mi, .bool s.am] 50)).heap.size = w.heap.size + 1 := by simp
  have e2 : ((w.alloc (.cells #[.int .i64 fm, .bool (Nm.wn s.z), .slice p (Nm.wl s.z).length c, .int .i64 s.T, .bool s.nn, .bool s.bd, .bool s.pl, .bool s.mi, .bool s.am] 50)).alloc (.cells #[.int .u64 x, .int .u64 y] 136)).heap.size = w.heap.size + 2 := by simp
  rw [e1] at P
  rw [e2] at R
  go_enter Tryz.func116, Tryz.ntmps116
  obtain ⟨c0, c1, c2, c3, c4, c5, c6, c7, c8⟩ := A.cs
  obtain ⟨p0, p1, -, -⟩ := P
  go_wp2_with fail
  refine (CA.out _ (hE.below bel0) (hs.below bel0)).mono ?_
  rintro r w1 ⟨a', c', rfl, o1, hb1⟩
  clear c0 c1 c2 c3 c4 c5 c6 c7 c8 p0 p1
  have R1 := R.below hb1
  have lw1 := hb1.size
  have o1' : Own w1 (w.heap.size + 3) a' c' (Nm.wl s'.z) := by simpa using o1
  have bel1 := bel_go bel0 hb1
  obtain ⟨r0, r1, r2, r3, r4, r5, r6, r7, r8, g0, g1, g2, g3, g4, g5, g6, g7, g8⟩ := R1
  go_wp2
  refine bodyPost_ret (v := .tuple #[.agg #[.int .i64 fm, .bool (Nm.wn s'.z), .slice a' (Nm.wl s'.z).length c', .int .i64 s'.T, .bool s'.nn, .bool s'.bd, .bool s'.pl, .bool s'.mi, .bool s'.am], .int .i64 0]) (by simp [results, Tryz.results116, go_sem, r0, r1, r2, r3, r4, r5, r6, r7, r8]) rfl ⟨a', c', rfl, ?_, ?_⟩
  · refine Own.base (B := w.heap.size + 3) ?_ (by omega)
    repeat (first | with_reducible exact o1' | (with_reducible refine Own.setBelow ?_ ?_ _; rotate_left; focus (first | (simp; done) | (simp; omega))))
  · exact (by (repeat with_reducible first | refine Below.setCell ?_ ?_ _ | exact bz0 _ _ | refine bz1 ?_ | refine bz2 ?_ _ | refine bz3 ?_ _ | refine bz4 ?_ bel1 | refine Below.alloc ?_ ?_ _ | refine Below.trans ?_ (Below.mono bel1 ?_)) <;> first | omega | (simp; done) | (simp; omega))
theorem cell2_top (W : World) (v v' : Value) (t : TypeId) (n : Nat) (hn : n = W.heap.size) : (W.alloc (.cells #[v, v'] t)).cell? ⟨n, 0, none⟩ = some v ∧ (W.alloc (.cells #[v, v'] t)).cell? ⟨n, 1, none⟩ = some v' := by subst hn; simp
def tmsD (fm : Int) (xs ys : List Int) (k : Nat) : Tm := tmM fm (xs.getD k 0) (ys.getD k 0)
def dtS (fm : Int) (xs ys : List Int) : St := foldS (tmsD fm xs ys) xs.length
def dtB (fm mode : Int) (xs ys : List Int) : Int := if vec2 fm mode xs ys = 0 then arB fm (Nm.wn (dtS fm xs ys).z) (Nm.wl (dtS fm xs ys).z) (dtS fm xs ys).T (dtS fm xs ys).nn (dtS fm xs ys).bd (dtS fm xs ys).pl (dtS fm xs ys).mi (dtS fm xs ys).am mode else 0
def dtF (fm mode : Int) (xs ys : List Int) : Int := if vec2 fm mode xs ys = 0 then arF fm (Nm.wn (dtS fm xs ys).z) (Nm.wl (dtS fm xs ys).z) (dtS fm xs ys).T (dtS fm xs ys).nn (dtS fm xs ys).bd (dtS fm xs ys).pl (dtS fm xs ys).mi (dtS fm xs ys).am mode else 0
theorem dt_no {fm mode : Int} {xs ys : List Int} (h : vec2 fm mode xs ys ≠ 0) : dtB fm mode xs ys = 0 ∧ dtF fm mode xs ys = 0 := by unfold dtB dtF; rw [if_neg h, if_neg h]; exact ⟨rfl, rfl⟩
theorem dti_no (fm mode : Int) (xs ys : List Int) (a e : Option Addr) (cap ecap : Nat) (w : World) (hT : Tab w) (hx : Sl .u64 w (.slice a xs.length cap) xs) (hy : Sl .u64 w (.slice e ys.length ecap) ys) (dx : D64 xs) (dy : D64 ys) (hl : xs.length ≤ 1048576) (hly : ys.length ≤ 1048576) (c : Int) (hc : c = vec2 fm mode xs ys) (h0 : c ≠ 0) :
    Calls Tryz.prog 29 #[.int .i64 fm, .int .i64 mode, .slice a xs.length cap, .slice e ys.length ecap] w fun r w' => r = .returned (.agg #[.int .i64 c, .int .u64 0, .int .i64 0]) ∧ Below w.heap.size w w' := by
  have CC := hid (fun B w' h h' h'' (hb : w'.cell? ⟨B, 0, none⟩ = some (.slice a xs.length cap) ∧ w'.cell? ⟨B, 1, none⟩ = some (.slice e ys.length ecap)) => vcode2_impl fm mode a e cap ecap xs ys B w' h h' h'' dx dy hl hly hb.1 hb.2)
  rw [← hc] at CC
  have hne : (c != 0) = true := by simpa using h0
  clear hc h0 dx dy
  have R := R3.new w (.int .i64 0) (.int .u64 0) (.int .i64 0) 43
  have bel1 : Below w.heap.size w ((w.alloc (.cells #[.int .i64 0, .int .u64 0, .int .i64 0] 43)).alloc (.cells #[.slice a xs.length cap, .slice e ys.length ecap] 41)) := (by repeat (first | exact bz0 _ _ | refine bz1 ?_ | refine bz2 ?_ _ | refine bz3 ?_ _ | refine bz5 ?_ _ | refine bz6 ?_ _))
  go_enter Tryz.func29, Tryz.ntmps29
  go_wp2_with fail
  refine (CC.out (w.heap.size + 1) _ (hT.below bel1) (hx.below bel1) (hy.below bel1) (cell2_top _ _ _ _ _ (by simp))).mono ?_
  rintro r w1 ⟨rfl, hb1⟩
  obtain ⟨r0, r1, r2, g0, g1, g2⟩ := (R.al (.cells #[.slice a xs.length cap, .slice e ys.length ecap] 41)).below hb1
  go_wp2
  refine bodyPost_ret (v := .agg #[.int .i64 c, .int .u64 0, .int .i64 0]) (by simp [results, Tryz.results29, go_sem, r0, r1, r2]) rfl ⟨rfl, ?_⟩
  exact (by (repeat with_reducible first | refine Below.setCell ?_ ?_ _ | exact bz0 _ _ | refine bz1 ?_ | refine bz2 ?_ _ | refine bz3 ?_ _ | refine bz4 ?_ hb1 | refine Below.alloc ?_ ?_ _ | refine Below.trans ?_ (Below.mono hb1 ?_)) <;> first | omega | (simp; done) | (simp; omega))
theorem dti_yes (fm mode : Int) (xs ys : List Int) (a e : Option Addr) (cap ecap : Nat) (u : Value) (w : World) (hE : E3 u w) (hx : Sl .u64 w (.slice a xs.length cap) xs) (hy : Sl .u64 w (.slice e ys.length ecap) ys) (dx : D64 xs) (dy : D64 ys) (hl : xs.length ≤ 1048576) (hly : ys.length ≤ 1048576) (hc : vec2 fm mode xs ys = 0) (B F : Int) (hB : B = dtB fm mode xs ys) (hF : F = dtF fm mode xs ys) :
    Calls Tryz.prog 29 #[.int .i64 fm, .int .i64 mode, .slice a xs.length cap, .slice e ys.length ecap] w fun r w' => r = .returned (.agg #[.int .i64 0, .int .u64 B, .int .i64 F]) ∧ Below w.heap.size w w' := by
  obtain ⟨hfm, hm, hn, hyx, hok, hoy⟩ := v2_ok hc
  have CC := hid (fun B w' h h' h'' (hb : w'.cell? ⟨B, 0, none⟩ = some (.slice a xs.length cap) ∧ w'.cell? ⟨B, 1, none⟩ = some (.slice e ys.length ecap)) => vcode2_impl fm mode a e cap ecap xs ys B w' h h' h'' dx dy hl hly hb.1 hb.2)
  rw [hc] at CC
  have hRt := foldS_Rt hfm (tmsD fm xs ys) xs.length (by omega) (fun k hk => tmM_ok (hok k hk) (hoy k hk))
  unfold dtB at hB
  unfold dtF at hF
  rw [if_pos hc] at hB hF
  have CS := hid (fun g w' h h' => summed2_impl 116 dir_addProduct fm mode hfm (foldS (tmsD fm xs ys)) rfl xs ys g u w' h h' hl (hRt _ (Nat.le_refl _)).len
    (fun k hk p c w'' hE' hs' => prodI fm (foldS (tmsD fm xs ys) k) (xs.getD k 0) (ys.getD k 0) p c u w'' hE' (hRt k (by omega)) (hok k hk) (dx.getD k).1 (dx.getD k).2 (hoy k hk) (dy.getD k).1 (dy.getD k).2 (by rw [foldS_T]; omega) hs' _ rfl) B F hB hF)
  have HYX := hid hyx
  clear hB hF hc dx dy hRt hok hoy hn hm hfm hyx
  have R := R3.new w (.int .i64 0) (.int .u64 0) (.int .i64 0) 43
  have bel1 : Below w.heap.size w ((w.alloc (.cells #[.int .i64 0, .int .u64 0, .int .i64 0] 43)).alloc (.cells #[.slice a xs.length cap, .slice e ys.length ecap] 41)) := (by repeat (first | exact bz0 _ _ | refine bz1 ?_ | refine bz2 ?_ _ | refine bz3 ?_ _ | refine bz5 ?_ _ | refine bz6 ?_ _))
  go_enter Tryz.func29, Tryz.ntmps29
  go_wp2_with fail
  refine (CC.out (w.heap.size + 1) _ (hE.t.s.f.below bel1) (hx.below bel1) (hy.below bel1) (cell2_top _ _ _ _ _ (by simp))).mono ?_
  rintro r w1 ⟨rfl, hb1⟩
  have bel2 := bel_go bel1 hb1
  go_wp2_with fail
  refine (factors_any xs ys HYX.out a e cap ecap _ (hx.below bel2) (hy.below bel2) hl).mono ?_
  rintro r w3 ⟨g, rfl, hF2, hb3⟩
  have bel3 := bel_go bel2 hb3
  go_wp2_with fail
  refine (CS.out g _ (hE.below bel3) hF2).mono ?_
  rintro r w2 ⟨rfl, hb2⟩
  obtain ⟨r0, r1, r2, g0, g1, g2⟩ := (((R.al (.cells #[.slice a xs.length cap, .slice e ys.length ecap] 41)).below hb1).below hb3).below hb2
  go_wp2
  refine bodyPost_ret (v := .agg #[.int .i64 0, .int .u64 B, .int .i64 F]) (by simp [results, Tryz.results29, go_sem, r0, r1, r2]) rfl ⟨rfl, ?_⟩
  exact (by (repeat with_reducible first | refine Below.setCell ?_ ?_ _ | exact bz0 _ _ | refine bz1 ?_ | refine bz2 ?_ _ | refine bz3 ?_ _ | refine bz4 ?_ hb2 | refine bz4 ?_ bel3 | refine Below.alloc ?_ ?_ _ | refine Below.trans ?_ (Below.mono hb2 ?_) | refine Below.trans ?_ (Below.mono bel3 ?_)) <;> first | omega | (simp; done) | (simp; omega))
theorem dti_all (fm mode : Int) (xs ys : List Int) (a e : Option Addr) (cap ecap : Nat) (u : Value) (w : World) (hE : E3 u w) (hx : Sl .u64 w (.slice a xs.length cap) xs) (hy : Sl .u64 w (.slice e ys.length ecap) ys) (dx : D64 xs) (dy : D64 ys) (hl : xs.length ≤ 1048576) (hly : ys.length ≤ 1048576) (c B F : Int) (hc : c = vec2 fm mode xs ys) (hB : B = dtB fm mode xs ys) (hF : F = dtF fm mode xs ys) :
    Calls Tryz.prog 29 #[.int .i64 fm, .int .i64 mode, .slice a xs.length cap, .slice e ys.length ecap] w fun r w' => r = .returned (.agg #[.int .i64 c, .int .u64 B, .int .i64 F]) ∧ Below w.heap.size w w' := by
  by_cases h0 : vec2 fm mode xs ys = 0
  · rw [hc, h0]; exact dti_yes fm mode xs ys a e cap ecap u w hE hx hy dx dy hl hly h0 B F hB hF
  · rw [hB, hF, (dt_no h0).1, (dt_no h0).2]; exact dti_no fm mode xs ys a e cap ecap w hE.t.s.f hx hy dx dy hl hly c hc (by rw [hc]; exact h0)
theorem dts_all (fm mode : Int) (xs ys : List Int) (a e : Option Addr) (cap ecap : Nat) (w : World) (hx : Sl .u64 w (.slice a xs.length cap) xs) (hy : Sl .u64 w (.slice e ys.length ecap) ys) (dx : D64 xs) (dy : D64 ys) (hl : xs.length ≤ 1048576) (hly : ys.length ≤ 1048576) (c B F : Int) (hc : c = vec2 fm mode xs ys) (hB : B = dtB fm mode xs ys) (hF : F = dtF fm mode xs ys) :
    Calls Tryz.prog 27 #[.int .i64 fm, .int .i64 mode, .slice a xs.length cap, .slice e ys.length ecap] w fun r w' => r = .returned (.agg #[.int .i64 c, .int .u64 B, .int .i64 F]) ∧ Below w.heap.size w w' := by
  by_cases h0 : vec2 fm mode xs ys = 0
  · obtain ⟨hfm, hm, hn, hyx, hok, hoy⟩ := v2_ok h0
    have hRt := foldS_Rt hfm (tmsD fm xs ys) xs.length (by omega) (fun k hk => tmM_ok (hok k hk) (hoy k hk))
    unfold dtB at hB
    unfold dtF at hF
    rw [if_pos h0] at hB hF
    rw [hc, h0]
    exact dot_spec_yes fm mode hfm (foldS (tmsD fm xs ys)) rfl xs ys hyx a e cap ecap w hx hy hl h0 (hRt _ (Nat.le_refl _)).len
      (fun k hk p c w'' hs' => accMS fm (foldS (tmsD fm xs ys) k) (xs.getD k 0) (ys.getD k 0) p c w'' (hRt k (by omega)) (hok k hk) (dx.getD k).1 (dx.getD k).2 (hoy k hk) (dy.getD k).1 (dy.getD k).2 (by rw [foldS_T]; omega) hs' _ rfl) B F hB hF
  · rw [hB, hF, (dt_no h0).1, (dt_no h0).2]; exact dot_spec_no fm mode xs ys a e cap ecap w hx hy hl hly c hc (by rw [hc]; exact h0)
theorem law_Dot (fm mode : Int) (a e : Option Addr) (cap ecap : Nat) (xs ys : List Int) (w : World) (hT : EX3 w) (hx : Sl .u64 w (.slice a xs.length cap) xs) (dx : D64 xs) (hy : Sl .u64 w (.slice e ys.length ecap) ys) (dy : D64 ys) :
    Calls Tryz.prog 5 #[.int .i64 fm, .int .i64 mode, .slice a xs.length cap, .slice e ys.length ecap] w fun e w' => e = .returned (.bool true) ∧ Below w.heap.size w w' := by
  have hlm : xs.length ≤ 9223372036854775807 := by obtain ⟨_, h1, h2, _⟩ := hx.cells; unfold maxLen at h2; omega
  have hlm2 : ys.length ≤ 9223372036854775807 := by obtain ⟨_, h1, h2, _⟩ := hy.cells; unfold maxLen at h2; omega
  by_cases hn : xs.length ≤ 1048576
  · by_cases hm : ys.length ≤ 1048576
    · have hl : xs.length ≤ 140737488355328 := by omega
      have hl2 : ys.length ≤ 140737488355328 := by omega
      obtain ⟨u, hE⟩ := hT
      obtain ⟨c, hc⟩ : ∃ c, c = vec2 fm mode xs ys := ⟨_, rfl⟩
      obtain ⟨B, hB⟩ : ∃ B, B = dtB fm mode xs ys := ⟨_, rfl⟩
      obtain ⟨F, hF⟩ : ∃ F, F = dtF fm mode xs ys := ⟨_, rfl⟩
      have CS := hid (fun a e c' e' w' h h' => dts_all fm mode xs ys a e c' e' w' h h' dx dy hn hm c B F hc hB hF)
      have CI := hid (fun a e c' e' w' h h' h'' => dti_all fm mode xs ys a e c' e' u w' h h' h'' dx dy hn hm c B F hc hB hF)
      clear hc hB hF dx dy
      go_enter Tryz.func5, Tryz.ntmps5
      go_wp2_with fail
      refine (toV_any _ xs _ hx hn).mono ?_
      rintro e w1 ⟨a1, c1, rfl, s1, hb1⟩
      go_wp2_with fail
      refine (toV_any _ ys _ (hy.below hb1) hm).mono ?_
      rintro e w2 ⟨a2, c2, rfl, s2, hb2⟩
      have bel2 := bel_go hb1 hb2
      go_wp2_with fail
      refine (CS.out a1 a2 c1 c2 _ (s1.below hb2) s2).mono ?_
      rintro e w3 ⟨rfl, hb3⟩
      have bel3 := bel_al (bel_go bel2 hb3) (.cells #[.int .i64 c, .int .u64 B, .int .i64 F] 43)
      have P := R3.new w3 (.int .i64 c) (.int .u64 B) (.int .i64 F) 43
      go_wp2_with fail
      refine (toV_any _ xs _ (hx.below bel3) hn).mono ?_
      rintro e w4 ⟨a4, c4, rfl, s4, hb4⟩
      have bel4 := bel_go bel3 hb4
      replace P := P.below hb4
      go_wp2_with fail
      refine (toV_any _ ys _ (hy.below bel4) hm).mono ?_
      rintro e w5 ⟨a5, c5, rfl, s5, hb5⟩
      have bel5 := bel_go bel4 hb5
      replace P := P.below hb5
      replace s4 := s4.below hb5
      go_wp2_with fail
      refine (CI.out a4 a5 c4 c5 _ (hE.below bel5) s4 s5).mono ?_
      rintro e w6 ⟨rfl, hb6⟩
      have bel6 := bel_al (bel_go bel5 hb6) (.cells #[.int .i64 c, .int .u64 B, .int .i64 F] 43)
      replace P := (P.below hb6).al (.cells #[.int .i64 c, .int .u64 B, .int .i64 F] 43)
      have Q := R3.new w6 (.int .i64 c) (.int .u64 B) (.int .i64 F) 43
      replace s4 := (s4.below hb6).alloc (.cells #[.int .i64 c, .int .u64 B, .int .i64 F] 43)
      replace s5 := (s5.below hb6).alloc (.cells #[.int .i64 c, .int .u64 B, .int .i64 F] 43)
      have p0 := P.c0
      have p1 := P.c1
      have p2 := P.c2
      have q0 := Q.c0
      have q1 := Q.c1
      have q2 := Q.c2
      go_wp2_with fail
      refine (eqRes_same c B F _).mono ?_
      rintro e w7 ⟨rfl, hb7⟩
      clear p0 p1 p2 q0 q1 q2
      have bel7 := bel_go bel6 hb7
      replace s4 := s4.below hb7
      replace s5 := s5.below hb7
      go_wp2_with fail
      refine (toV_any _ xs _ (hx.below bel7) hn).mono ?_
      rintro e w8 ⟨a8, c8, rfl, s8, hb8⟩
      have bel8 := bel_go bel7 hb8
      go_wp2_with fail
      refine (eqV_same a4 a8 c4 c8 xs _ (s4.below hb8) s8 hl).mono ?_
      rintro e w9 ⟨rfl, hb9⟩
      have bel9 := bel_go bel8 hb9
      go_wp2_with fail
      refine (toV_any _ ys _ (hy.below bel9) hm).mono ?_
      rintro e w10 ⟨a10, c10, rfl, s10, hb10⟩
      have bel10 := bel_go bel9 hb10
      go_wp2_with fail
      refine (eqV_same a5 a10 c5 c10 ys _ (((s5.below hb8).below hb9).below hb10) s10 hl2).mono ?_
      rintro e w11 ⟨rfl, hb11⟩
      go_wp2
      go_ret
      exact ⟨rfl, bel_go bel10 hb11⟩
    · go_enter Tryz.func5, Tryz.ntmps5
      go_wp2
      go_ret
      exact ⟨rfl, Below.refl _ _⟩
  · go_enter Tryz.func5, Tryz.ntmps5
    go_wp2
    go_ret
    exact ⟨rfl, Below.refl _ _⟩
end Go.Proofs.YtkfjmcdniohljaaGreatDoor
