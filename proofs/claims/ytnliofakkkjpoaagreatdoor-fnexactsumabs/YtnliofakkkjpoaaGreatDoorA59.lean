/-
  What is needed of SW.
-/
import Derived.Test.YtnliofakkkjpoaaGreatDoorA19
import Derived.Test.YtnliofakkkjpoaaGreatDoorA58
set_option maxHeartbeats 16000000
set_option maxRecDepth 1000000
namespace Go.Proofs.YtnliofakkkjpoaaGreatDoor
set_option linter.unusedVariables false
set_option linter.unusedSimpArgs false
open Go.RowKit Go.Deep
theorem abs_i (fm y : Int) (w : World) (hT : Tab w) (hy : okF fm y = true) (y0 : 0 ≤ y) (y1 : y < 18446744073709551616) :
    Calls Tryz.prog 150 #[.int .i64 fm, .int .u64 y] w fun e w' => e = .returned (.int .u64 (absF fm y)) ∧ Below w.heap.size w w' := by
  rcases okF_cases hy with ⟨rfl, hy'⟩ | rfl
  · rw [abs32 hy']; exact impl_abs32 y w hT y0 hy'
  · rw [abs64]; exact impl_abs64 y w hT y0 y1
theorem abs_okW {fm x : Int} (hx : okF fm x = true) (x0 : 0 ≤ x) (x1 : x < 18446744073709551616) : okF fm (absF fm x) = true ∧ 0 ≤ absF fm x ∧ absF fm x < 18446744073709551616 := by
  have h1 := abs_bd (fm := fm) (x := x) x0
  have h2 := abs_le (fm := fm) (x := x) x0
  refine ⟨?_, h1.1, by omega⟩
  rcases okF_cases hx with ⟨rfl, hx'⟩ | rfl
  · exact okF32 (by omega)
  · exact okF64
theorem absI (fm : Int) (s : St) (x : Int) (p : Option Addr) (c : Nat) (u : Value) (w : World) (hE : EE u w) (hR : Rt fm s) (hx : okF fm x = true) (x0 : 0 ≤ x) (x1 : x < 18446744073709551616) (hT : s.T ≠ 1000000) (hs : Sl .u32 w (.slice p (Nm.wl s.z).length c) (Nm.wl s.z)) (s' : St) (hs' : s' = s.add (tmF fm (absF fm x))) :
    Calls Tryz.prog 81 #[.agg #[.int .i64 fm, .bool (Nm.wn s.z), .slice p (Nm.wl s.z).length c, .int .i64 s.T, .bool s.nn, .bool s.bd, .bool s.pl, .bool s.mi, .bool s.am], .int .u64 x] w fun r w' => ∃ a' c', r = .returned (.tuple #[.agg #[.int .i64 fm, .bool (Nm.wn s'.z), .slice a' (Nm.wl s'.z).length c', .int .i64 s'.T, .bool s'.nn, .bool s'.bd, .bool s'.pl, .bool s'.mi, .bool s'.am], .int .i64 0]) ∧ Own w' w.heap.size a' c' (Nm.wl s'.z) ∧ Below w.heap.size w w' := by
  obtain ⟨o1, o2, o3⟩ := abs_okW hx x0 x1
  have CB := hid (fun w' h => abs_i fm x w' h hx x0 x1)
  have CA := hid (fun w' h h' => accI fm s (absF fm x) p c u w' h hR o1 o2 o3 hT h' s' hs')
  obtain ⟨y, hy⟩ : ∃ y, y = absF fm x := ⟨_, rfl⟩
  rw [← hy] at CA CB
  clear hy o1 o2 o3 hs' hR hx hT
  have A := (Q9.new w (.int .i64 fm) (.bool (Nm.wn s.z)) (.slice p (Nm.wl s.z).length c) (.int .i64 s.T) (.bool s.nn) (.bool s.bd) (.bool s.pl) (.bool s.mi) (.bool s.am) 31).alloc (.cells #[.int .i64 0, .bool false, .slice none 0 0, .int .i64 0, .bool false, .bool false, .bool false, .bool false, .bool false] 31)
  have R := Q9.nwn w (.cells #[.int .i64 fm, .bool (Nm.wn s.z), .slice p (Nm.wl s.z).length c, .int .i64 s.T, .bool s.nn, .bool s.bd, .bool s.pl, .bool s.mi, .bool s.am] 31) (.int .i64 0) (.bool false) (.slice none 0 0) (.int .i64 0) (.bool false) (.bool false) (.bool false) (.bool false) (.bool false) 31
  have bel0 : Below w.heap.size w ((w.alloc (.cells #[.int .i64 fm, .bool (Nm.wn s.z), .slice p (Nm.wl s.z).length c, .int .i64 s.T, .bool s.nn, .bool s.bd, .bool s.pl, .bool s.mi, .bool s.am] 31)).alloc (.cells #[.int .i64 0, .bool false, .slice none 0 0, .int .i64 0, .bool false, .bool false, .bool false, .bool false, .bool false] 31)) := (by repeat (first | exact bz0 _ _ | refine bz1 ?_ | refine bz2 ?_ _ | refine bz3 ?_ _ | refine bz5 ?_ _ | refine bz6 ?_ _))
  have Ad := A.drew
  have hE1 := hE.below (Below.drew bel0)
  have hs1 := hs.below (Below.drew bel0)
  have belw : Below w.heap.size w ((w.alloc (.cells #[.int .i64 fm, .bool (Nm.wn s.z), .slice p (Nm.wl s.z).length c, .int .i64 s.T, .bool s.nn, .bool s.bd, .bool s.pl, .bool s.mi, .bool s.am] 31)).alloc (.cells #[.int .i64 0, .bool false, .slice none 0 0, .int .i64 0, .bool false, .bool false, .bool false, .bool false, .bool false] 31)).drew := Below.drew bel0
  go_enter Tryz.func81, Tryz.ntmps81
  go_wp2_with fail
  refine wp_region_held_drew (S := fun w' => (w'.cell? ⟨w.heap.size, 0, none⟩ = some (.int .i64 fm) ∧ w'.cell? ⟨w.heap.size, 1, none⟩ = some (.bool (Nm.wn s.z)) ∧ w'.cell? ⟨w.heap.size, 2, none⟩ = some (.slice p (Nm.wl s.z).length c) ∧ w'.cell? ⟨w.heap.size, 3, none⟩ = some (.int .i64 s.T) ∧ w'.cell? ⟨w.heap.size, 4, none⟩ = some (.bool s.nn) ∧ w'.cell? ⟨w.heap.size, 5, none⟩ = some (.bool s.bd) ∧ w'.cell? ⟨w.heap.size, 6, none⟩ = some (.bool s.pl) ∧ w'.cell? ⟨w.heap.size, 7, none⟩ = some (.bool s.mi) ∧ w'.cell? ⟨w.heap.size, 8, none⟩ = some (.bool s.am))) (by kernel_rfl) ?_ (fun hHeld => ?_)
  · exact Ad.cs
  refine tk 0 ?_ rfl (Or.inl ⟨by rfl, ?_⟩) ?_
  rotate_left
  · (intro w hSw; (try dsimp only at hSw); go_simp; try (with_reducible rfl))
  try simp only [Act.put, Ls]
  refine tk 1 ?_ rfl (Or.inl ⟨by rfl, ?_⟩) ?_
  rotate_left
  · (intro w hSw; (try dsimp only at hSw); go_simp; try (with_reducible rfl))
  try simp only [Act.put, Ls]
  refine tk 2 ?_ rfl (Or.inl ⟨by rfl, ?_⟩) ?_
  rotate_left
  · (intro w hSw; (try dsimp only at hSw); go_simp; try (with_reducible rfl))
  try simp only [Act.put, Ls]
  refine tk 3 ?_ rfl (Or.inl ⟨by rfl, ?_⟩) ?_
  rotate_left
  · (intro w hSw; (try dsimp only at hSw); go_simp; try (with_reducible rfl))
  try simp only [Act.put, Ls]
  refine rdy 4 rfl (fun K hK => ?_)
  go_simp
  go_at_call 150; refine (CB.out _ hE1.t).mono ?_; rintro r q1 ⟨rfl, hq1⟩
  have A1 := Ad.below hq1
  have R1 := R.drew.below hq1
  have O1 := hs1.below hq1
  have E1 := hE1.below hq1
  refine hK.out _ _ ?_ (fun hHeld => ?_)
  · exact A1.cs
  clear hK K
  try simp only [Act.put, Ls]
  refine rdy 5 rfl (fun K hK => ?_)
  go_simp
  go_at_call 79; refine (CA.out _ E1 O1).mono ?_; rintro r q2 ⟨a', c', rfl, o2, hq2⟩
  have A2 := A1.below hq2
  have R2' := R1.below hq2
  refine hK.out _ _ ?_ (fun hHeld => ?_)
  · exact A2.cs
  clear hK K
  try simp only [Act.put, Ls]
  refine tk 6 ?_ rfl (Or.inl ⟨by rfl, ?_⟩) ?_
  rotate_left
  · (intro w hSw; (try dsimp only at hSw); go_simp; try (with_reducible rfl))
  try simp only [Act.put, Ls]
  refine tk 7 ?_ rfl (Or.inl ⟨by rfl, ?_⟩) ?_
  rotate_left
  · (intro w hSw; (try dsimp only at hSw); go_simp; try (with_reducible rfl))
  try simp only [Act.put, Ls]
  refine rdy 8 rfl (fun K hK => ?_)
  obtain ⟨r0, r1, r2, r3, r4, r5, r6, r7, r8, g0, g1, g2, g3, g4, g5, g6, g7, g8⟩ := R2'
  go_simp
  refine hK.out _ _ ?_ (fun hHeld => ?_)
  · exact (A2.of_block (heap9n _ _ _ (by omega) _ _ _ _ _ _ _ _ _)).cs
  clear hK K
  try simp only [Act.put, Ls]
  refine rdy 9 rfl (fun K hK => ?_)
  go_simp
  refine hK.out _ _ ?_ (fun hHeld => ?_)
  · exact (A2.of_block (heap9n _ _ _ (by omega) _ _ _ _ _ _ _ _ _)).cs
  clear hK K
  try simp only [Act.put, Ls]
  refine wpAnyH_done (by kernel_rfl) ?_ _
  have bel2 := bel_go (bel_go belw hq1) hq2
  have l1 := hq1.size
  have l1' : w.heap.size + 2 ≤ q1.heap.size := by simpa using l1
  go_wp2
  refine bodyPost_ret (v := .tuple #[.agg #[.int .i64 fm, .bool (Nm.wn s'.z), .slice a' (Nm.wl s'.z).length c', .int .i64 s'.T, .bool s'.nn, .bool s'.bd, .bool s'.pl, .bool s'.mi, .bool s'.am], .int .i64 0]) (by simp [results, Tryz.results81, go_sem, r0, r1, r2, r3, r4, r5, r6, r7, r8]) rfl ⟨a', c', rfl, ?_, ?_⟩
  · refine Own.base (B := q1.heap.size) ?_ (by omega)
    repeat (first | with_reducible exact o2 | (with_reducible refine Own.setBelow ?_ ?_ _; rotate_left; focus (first | (simp; done) | (simp; omega))))
  · exact (by (repeat with_reducible first | refine Below.setCell ?_ ?_ _ | exact bz0 _ _ | refine bz1 ?_ | refine bz2 ?_ _ | refine bz3 ?_ _ | refine bz4 ?_ bel2 | refine Below.alloc ?_ ?_ _ | refine Below.trans ?_ (Below.mono bel2 ?_)) <;> first | omega | (simp; done) | (simp; omega))
theorem dir_addAbs : Dir 81 := by
  have k1 : (Tryz.f81.name == "runtime.NumGoroutine") = false := by kernel_rfl
  have k2 : Tryz.f81.body.isNone = false := by kernel_rfl
  have k3 : ¬ Tryz.f81.name = "runtime.NumGoroutine" := by simpa using k1
  have k4 : ¬ Tryz.f81.body = none := by intro h; rw [h] at k2; cases k2
  exact fun args w => by simp [callFunc, go_sem, Tryz.func81, k3, k4]
/-- A vector without signs. -/
def absL (fm : Int) (xs : List Int) : List Int := xs.map (absF fm)
theorem absL_get {fm : Int} {xs : List Int} {k : Nat} (h : k < xs.length) : (absL fm xs).getD k 0 = absF fm (xs.getD k 0) := by
  unfold absL; rw [List.getD_eq_getElem?_getD, List.getD_eq_getElem?_getD, List.getElem?_map, List.getElem?_eq_getElem h]; rfl
theorem absL_vec {fm mode : Int} {xs : List Int} (dx : D64 xs) (h : vecC fm mode xs = 0) : vecC fm mode (absL fm xs) = 0 ∧ D64 (absL fm xs) ∧ (absL fm xs).length = xs.length := by
  obtain ⟨hf, hm, hn, hok⟩ := vec_ok h
  have hlen : (absL fm xs).length = xs.length := by unfold absL; simp
  refine ⟨?_, ?_, hlen⟩
  · unfold vecC
    rw [hf, hm, Bool.and_self, if_pos rfl, if_pos (by omega), if_pos (allB_yes (fun j hj => by
      rw [hlen] at hj
      rw [absL_get hj]
      exact (abs_okW (hok j hj) (dx.getD j).1 (dx.getD j).2).1))]
  · intro z hz
    unfold absL at hz
    obtain ⟨x, hx, rfl⟩ := List.mem_map.1 hz
    obtain ⟨j, hj, rfl⟩ := List.getElem_of_mem hx
    have e : xs[j] = xs.getD j 0 := by rw [List.getD_eq_getElem?_getD, List.getElem?_eq_getElem hj]; rfl
    rw [e]
    exact (abs_okW (hok j hj) (dx.getD j).1 (dx.getD j).2).2
theorem absL_take {fm : Int} {xs : List Int} {k : Nat} (h : k < xs.length) : absL fm (xs.take (k + 1)) = absL fm (xs.take k) ++ [absF fm (xs.getD k 0)] := by
  unfold absL; rw [Nm.take_snoc h, List.map_append]; rfl
theorem absi_no (fm mode : Int) (xs : List Int) (a : Option Addr) (cap : Nat) (w : World) (hT : Tab w) (hx : Sl .u64 w (.slice a xs.length cap) xs) (dx : D64 xs) (hl : xs.length ≤ 1048576) (c : Int) (hc : c = vecC fm mode xs) (h0 : c ≠ 0) :
    Calls Tryz.prog 28 #[.int .i64 fm, .int .i64 mode, .slice a xs.length cap] w fun r w' => r = .returned (.agg #[.int .i64 c, .int .u64 0, .int .i64 0]) ∧ Below w.heap.size w w' := by
  have CC := hid (fun B w' h h' hb => vcode_impl fm mode a cap xs B w' h h' dx hl hb)
  rw [← hc] at CC
  have hne : (c != 0) = true := by simpa using h0
  clear hc h0 dx
  have R := R3.new w (.int .i64 0) (.int .u64 0) (.int .i64 0) 40
  have bel1 : Below w.heap.size w ((w.alloc (.cells #[.int .i64 0, .int .u64 0, .int .i64 0] 40)).alloc (.cells #[.slice a xs.length cap] 38)) := (by repeat (first | exact bz0 _ _ | refine bz1 ?_ | refine bz2 ?_ _ | refine bz3 ?_ _ | refine bz5 ?_ _ | refine bz6 ?_ _))
  go_enter Tryz.func28, Tryz.ntmps28
  go_wp2_with fail
  refine (CC.out (w.heap.size + 1) _ (hT.below bel1) (hx.below bel1) (cell_top _ _ _ _ (by simp))).mono ?_
  rintro r w1 ⟨rfl, hb1⟩
  obtain ⟨r0, r1, r2, g0, g1, g2⟩ := (R.al (.cells #[.slice a xs.length cap] 38)).below hb1
  go_wp2
  refine bodyPost_ret (v := .agg #[.int .i64 c, .int .u64 0, .int .i64 0]) (by simp [results, Tryz.results28, go_sem, r0, r1, r2]) rfl ⟨rfl, ?_⟩
  exact (by (repeat with_reducible first | refine Below.setCell ?_ ?_ _ | exact bz0 _ _ | refine bz1 ?_ | refine bz2 ?_ _ | refine bz3 ?_ _ | refine bz4 ?_ hb1 | refine Below.alloc ?_ ?_ _ | refine Below.trans ?_ (Below.mono hb1 ?_)) <;> first | omega | (simp; done) | (simp; omega))
theorem absi_yes (fm mode : Int) (xs : List Int) (a : Option Addr) (cap : Nat) (u : Value) (w : World) (hE : E3 u w) (hx : Sl .u64 w (.slice a xs.length cap) xs) (dx : D64 xs) (hl : xs.length ≤ 1048576) (hc : vecC fm mode xs = 0) (B F : Int) (hB : B = vsB fm mode (absL fm xs)) (hF : F = vsF fm mode (absL fm xs)) :
    Calls Tryz.prog 28 #[.int .i64 fm, .int .i64 mode, .slice a xs.length cap] w fun r w' => r = .returned (.agg #[.int .i64 0, .int .u64 B, .int .i64 F]) ∧ Below w.heap.size w w' := by
  obtain ⟨hfm, hm, hn, hok⟩ := vec_ok hc
  have CC := hid (fun B w' h h' hb => vcode_impl fm mode a cap xs B w' h h' dx hl hb)
  rw [hc] at CC
  obtain ⟨hc', dx', hlen⟩ := absL_vec dx hc
  obtain ⟨_, _, _, hok'⟩ := vec_ok hc'
  rw [hlen] at hok'
  have hRt := foldS_Rt hfm (tmsF fm (absL fm xs)) xs.length (by omega) (fun k hk => tm_ok (hok' k hk))
  unfold vsB vsS at hB
  unfold vsF vsS at hF
  rw [if_pos hc', hlen] at hB hF
  have CS := hid (fun w' h h' => summed_impl 81 dir_addAbs fm mode hfm (foldS (tmsF fm (absL fm xs))) rfl xs a cap u w' h h' hl (hRt _ (Nat.le_refl _)).len
    (fun k hk p c w'' hE' hs' => absI fm (foldS (tmsF fm (absL fm xs)) k) (xs.getD k 0) p c u w'' hE' (hRt k (by omega)) (hok k hk) (dx.getD k).1 (dx.getD k).2 (by rw [foldS_T]; omega) hs' _ (by show (foldS (tmsF fm (absL fm xs)) k).add (tmF fm ((absL fm xs).getD k 0)) = _; rw [absL_get hk])) B F hB hF)
  clear hB hF hc dx hRt hok hn hm hfm hc' dx' hlen hok'
  have R := R3.new w (.int .i64 0) (.int .u64 0) (.int .i64 0) 40
  have bel1 : Below w.heap.size w ((w.alloc (.cells #[.int .i64 0, .int .u64 0, .int .i64 0] 40)).alloc (.cells #[.slice a xs.length cap] 38)) := (by repeat (first | exact bz0 _ _ | refine bz1 ?_ | refine bz2 ?_ _ | refine bz3 ?_ _ | refine bz5 ?_ _ | refine bz6 ?_ _))
  go_enter Tryz.func28, Tryz.ntmps28
  go_wp2_with fail
  refine (CC.out (w.heap.size + 1) _ (hE.t.s.f.below bel1) (hx.below bel1) (cell_top _ _ _ _ (by simp))).mono ?_
  rintro r w1 ⟨rfl, hb1⟩
  have bel2 := bel_go bel1 hb1
  go_wp2_with fail
  refine (CS.out _ (hE.below bel2) (hx.below bel2)).mono ?_
  rintro r w2 ⟨rfl, hb2⟩
  obtain ⟨r0, r1, r2, g0, g1, g2⟩ := ((R.al (.cells #[.slice a xs.length cap] 38)).below hb1).below hb2
  go_wp2
  refine bodyPost_ret (v := .agg #[.int .i64 0, .int .u64 B, .int .i64 F]) (by simp [results, Tryz.results28, go_sem, r0, r1, r2]) rfl ⟨rfl, ?_⟩
  exact (by (repeat with_reducible first | refine Below.setCell ?_ ?_ _ | exact bz0 _ _ | refine bz1 ?_ | refine bz2 ?_ _ | refine bz3 ?_ _ | refine bz4 ?_ hb2 | refine bz4 ?_ bel2 | refine Below.alloc ?_ ?_ _ | refine Below.trans ?_ (Below.mono hb2 ?_) | refine Below.trans ?_ (Below.mono bel2 ?_)) <;> first | omega | (simp; done) | (simp; omega))
theorem abs_spec_no (fm mode : Int) (xs : List Int) (a : Option Addr) (cap : Nat) (w : World) (hx : Sl .u64 w (.slice a xs.length cap) xs) (hl : xs.length ≤ 1048576) (c : Int) (hc : c = vecC fm mode xs) (h0 : c ≠ 0) :
    Calls Tryz.prog 27 #[.int .i64 fm, .int .i64 mode, .slice a xs.length cap] w fun r w' => r = .returned (.agg #[.int .i64 c, .int .u64 0, .int .i64 0]) ∧ Below w.heap.size w w' := by
  have CC := hid (fun w' h => l8_spec fm mode a a cap cap xs xs w' h h hl hl)
  rw [vec2_self, ← hc] at CC
  have hne : (c != 0) = true := by simpa using h0
  clear hc h0
  have R := R3.new w (.int .i64 0) (.int .u64 0) (.int .i64 0) 40
  go_enter Tryz.func27, Tryz.ntmps27
  go_wp2_with fail
  refine (CC.out _ (hx.alloc _)).mono ?_
  rintro r w1 ⟨rfl, hb1⟩
  obtain ⟨r0, r1, r2, g0, g1, g2⟩ := R.below hb1
  go_wp2
  refine bodyPost_ret (v := .agg #[.int .i64 c, .int .u64 0, .int .i64 0]) (by simp [results, Tryz.results27, go_sem, r0, r1, r2]) rfl ⟨rfl, ?_⟩
  exact (by (repeat with_reducible first | refine Below.setCell ?_ ?_ _ | exact bz0 _ _ | refine bz1 ?_ | refine bz2 ?_ _ | refine bz3 ?_ _ | refine bz4 ?_ hb1 | refine Below.alloc ?_ ?_ _ | refine Below.trans ?_ (Below.mono hb1 ?_)) <;> first | omega | (simp; done) | (simp; omega))
theorem own8_buf {w : World} : Own8 (w.alloc (.cells #[] 27)) w.heap.size w.heap.size 0 [] := by
  have := World.ownsRow_made (base := w.heap.size) (e := 27) (size := 1) w #[] 0 (by simp) (by decide) rfl
  simpa [Own8] using this
theorem own8_more {w : World} {B g cap : Nat} {os : List Int} {d : Int} (h : w.ownsRow B 27 1 (.slice (some ⟨g, 0, none⟩) (os.length + 1) cap) (os.length + 1) (os.map (Value.int .u64) ++ [.int .u64 d])) : Own8 w B g cap (os ++ [d]) := by
  unfold Own8; simpa using h
theorem own8_ge {w : World} {B g cap : Nat} {os : List Int} (h : Own8 w B g cap os) : B ≤ g ∧ g < w.heap.size := by
  rcases h.2 with ⟨e, _⟩ | ⟨g', cap', cur, e, h1, h2, _⟩
  · cases e
  · cases e; exact ⟨h1, (Array.getElem?_eq_some_iff.1 h2).1⟩
theorem news8 (w : World) (d : Int) : ∀ j u, ([Value.int .u64 d] : List Value)[j]? = some u → (w.alloc (.cells #[.int .u64 d] 27)).cell? ((⟨w.heap.size, 0, none⟩ : Addr).add j) = some u := by
  intro j u hj
  cases j with
  | zero => simp at hj; subst hj; simp [Addr.add]
  | succ j => simp at hj
theorem one8 (d : Int) : ∀ u ∈ ([Value.int .u64 d] : List Value), u.oneCell' = true := by
  intro u hu; simp at hu; subst hu; rfl
theorem abs_spec_yes (fm mode : Int) (xs : List Int) (a : Option Addr) (cap : Nat) (w : World) (hx : Sl .u64 w (.slice a xs.length cap) xs) (dx : D64 xs) (hl : xs.length ≤ 1048576) (hc : vecC fm mode xs = 0) (B F : Int) (hB : B = vsB fm mode (absL fm xs)) (hF : F = vsF fm mode (absL fm xs)) :
    Calls Tryz.prog 27 #[.int .i64 fm, .int .i64 mode, .slice a xs.length cap] w fun r w' => r = .returned (.agg #[.int .i64 0, .int .u64 B, .int .i64 F]) ∧ Below w.heap.size w w' := by
  obtain ⟨-, hx1, hx2, hx3⟩ := hx.cells
  obtain ⟨hc', dx', hlen⟩ := absL_vec dx hc
  obtain ⟨hfm, hm, hn, hok⟩ := vec_ok hc
  have CC := hid (fun w' h => l8_spec fm mode a a cap cap xs xs w' h h hl hl)
  rw [vec2_self, hc] at CC
  have CB := hid (fun k w' (hk : k < xs.length) => spec_l2abs fm (xs.getD k 0) w' (hok k hk) (dx.getD k).1 (dx.getD k).2)
  have CS := hid (fun a' c' w' h => sums_all fm mode (absL fm xs) a' c' w' h dx' (by omega) 0 B F hc'.symm hB hF)
  have HT := hid (fun k (hk : k < xs.length) => absL_take (fm := fm) hk)
  simp only [hlen] at CS
  obtain ⟨i0, hi⟩ : ∃ i0, Tryz.prog.info? 27 = some i0 := by
    have h := info64
    cases e : Tryz.prog.info? 27 with
    | none => rw [e] at h; cases h
    | some i => exact ⟨i, rfl⟩
  have HI : Hid (Tryz.prog.info? 27 = some i0 ∧ i0.zero = some (.int .u64 0) ∧ i0.size = 1 ∧ i0.bytes = 8) := hid (by
    have h := info64
    rw [hi] at h
    have h' : (i0.zero, i0.size, i0.bytes) = (some (.int .u64 0), 1, 8) := Option.some.inj h
    simp only [Prod.mk.injEq] at h'
    exact ⟨hi, h'⟩)
  clear hi hc hB hF hc' dx' hlen hok hm hfm dx
  have R := R3.new w (.int .i64 0) (.int .u64 0) (.int .i64 0) 40
  go_enter Tryz.func27, Tryz.ntmps27
  go_wp2_with fail
  refine (CC.out _ (hx.alloc _)).mono ?_
  rintro r wa ⟨rfl, hb1⟩
  have lwa : w.heap.size < wa.heap.size := by have := hb1.size; simp at this; omega
  replace R := (R.below hb1).al (.cells #[] 27)
  have bel2 : Below w.heap.size w wa := (by repeat (first | exact bz0 _ _ | refine bz1 ?_ | refine bz2 ?_ _ | refine bz3 ?_ _ | refine bz4 ?_ hb1 | refine bz5 ?_ _ | refine bz6 ?_ _ | refine bz7 ?_ hb1))
  have bel3 := bel_al bel2 (.cells #[] 27)
  clear hb1
  go_wp2_with fail
  go_loopw [8, 9] (fun l i wr => ∃ (k g cp : Nat), k ≤ xs.length ∧ i = .int .i64 k ∧ l = .slice (some ⟨g, 0, none⟩) k cp ∧ (absL fm (xs.take k)).length = k ∧ Own8 wr wa.heap.size g cp (absL fm (xs.take k)) ∧ R3 wr w.heap.size (.int .i64 0) (.int .u64 0) (.int .i64 0) ∧ Below w.heap.size w wr) (fun _ i _ => xs.length - (intOf i).toNat)
  case atStart => exact ⟨0, wa.heap.size, 0, Nat.zero_le _, rfl, rfl, rfl, own8_buf, R, bel3⟩
  case round =>
    clear R bel3 bel2
    obtain ⟨k, g, cp, hk, rfl, rfl, hkl, O, R, hb⟩ := hrel
    by_cases hlt : k < xs.length
    · obtain ⟨b, off, rfl, hcx⟩ := hx3 (by omega)
      have h1 := hcx k hlt
      have hbw : b < w.heap.size := World.block_lt_of_cell? w _ h1
      have h1 : wr.cell? ⟨b, off + k, none⟩ = some (.int .u64 (xs.getD k 0)) := (hb.cell (p := ⟨b, off + k, none⟩) hbw).trans h1
      clear hx3 hcx
      have C := hid (fun w' => CB.out k w' hlt)
      have HT1 := hid (HT.out k hlt)
      obtain ⟨y, hy⟩ : ∃ y, y = absF fm (xs.getD k 0) := ⟨_, rfl⟩
      obtain ⟨x, hxk⟩ : ∃ x, x = xs.getD k 0 := ⟨_, rfl⟩
      obtain ⟨os, hos⟩ : ∃ os, os = absL fm (xs.take k) := ⟨_, rfl⟩
      rw [← hy] at C HT1
      rw [← hos] at HT1 O hkl
      rw [← hxk] at h1 C
      clear hy hxk hos CB HT CC CS
      go_wp2_with fail
      refine (C.out _).mono ?_
      rintro r w1 ⟨rfl, hb1⟩
      have O1 := O.below hb1
      have R1 := R.below hb1
      have bel1 := bel_go hb hb1
      have hO1 : w1.ownsRow wa.heap.size 27 1 (.slice (some ⟨g, 0, none⟩) k cp) k (os.map (Value.int .u64)) := by have := O1; unfold Own8 at this; rwa [hkl] at this
      have hge := own8_ge O1
      have lws := bel1.size
      clear hb1 O R hb
      go_wp2_with (at_builtin; refine wpList_append_lies _ rfl _ _ 38 rfl wa.heap.size 27 i0 (.int .u64 0) 1 8 Tryz.underlying38 HI.out.1 HI.out.2.1 HI.out.2.2.1 HI.out.2.2.2 rfl (by decide) (.slice (some ⟨g, 0, none⟩) k cp) k (os.map (Value.int .u64)) rfl (hO1.alloc _) ⟨w1.heap.size, 0, none⟩ 1 1 [.int .u64 y] rfl rfl (news8 w1 _) (one8 _) (by decide) (by unfold maxLen; omega) (by omega) (by simp; omega) (w1.heap.size + 1) (by simp) ?_; intro g1 cp1 w2 hown2 hgrow hat hlt2)
      have ho2 : Own8 w2 wa.heap.size g1 cp1 (os ++ [y]) := own8_more (by rw [hkl]; exact hown2)
      have hb2 : Below w.heap.size w w2 := bel_app (bel_al bel1 _) hgrow (by omega)
      have R2' : R3 w2 w.heap.size (.int .i64 0) (.int .u64 0) (.int .i64 0) := by
        have R3' := R1.al (.cells #[.int .u64 y] 27)
        have hb3 := hgrow.block w.heap.size (World.block_lt_of_cell? _ _ R3'.c0) (by intro e; have h' : w.heap.size = g := Option.some.inj e; omega)
        exact ⟨(World.cell?_of_block (a := ⟨w.heap.size, 0, none⟩) hb3).trans R3'.c0, (World.cell?_of_block (a := ⟨w.heap.size, 1, none⟩) hb3).trans R3'.c1, (World.cell?_of_block (a := ⟨w.heap.size, 2, none⟩) hb3).trans R3'.c2, (World.frozen?_of_block (a := ⟨w.heap.size, 0, none⟩) hb3).trans R3'.f0, (World.frozen?_of_block (a := ⟨w.heap.size, 1, none⟩) hb3).trans R3'.f1, (World.frozen?_of_block (a := ⟨w.heap.size, 2, none⟩) hb3).trans R3'.f2⟩
      clear hown2 hat
      go_roundw
      case rel => exact ⟨k + 1, g1, cp1, by omega, by go_num, rfl, by rw [HT1.out]; simp [hkl], by rw [HT1.out]; exact ho2, R2', hb2⟩
      case measure => simp [intOf]; omega
    · obtain rfl : k = xs.length := by omega
      rw [List.take_length] at O hkl
      clear hx3 CB HT CC
      obtain ⟨os, hos⟩ : ∃ os, os = absL fm xs := ⟨_, rfl⟩
      rw [← hos] at O hkl CS
      clear hos
      have hs := O.sl
      rw [hkl] at hs
      clear hkl O
      go_wp2_with fail
      refine (CS.out _ _ _ hs).mono ?_
      rintro r w2 ⟨rfl, hb2⟩
      obtain ⟨r0, r1, r2, g0, g1, g2⟩ := R.below hb2
      go_wp2
      refine bodyPost_ret (v := .agg #[.int .i64 0, .int .u64 B, .int .i64 F]) (by simp [results, Tryz.results27, go_sem, r0, r1, r2]) rfl ⟨rfl, ?_⟩
      exact (by (repeat with_reducible first | refine Below.setCell ?_ ?_ _ | exact bz0 _ _ | refine bz1 ?_ | refine bz2 ?_ _ | refine bz3 ?_ _ | refine bz4 ?_ hb2 | refine bz4 ?_ hb | refine Below.alloc ?_ ?_ _ | refine Below.trans ?_ (Below.mono hb2 ?_) | refine Below.trans ?_ (Below.mono hb ?_)) <;> first | omega | (simp; done) | (simp; omega))
def vaB (fm mode : Int) (xs : List Int) : Int := if vecC fm mode xs = 0 then vsB fm mode (absL fm xs) else 0
def vaF (fm mode : Int) (xs : List Int) : Int := if vecC fm mode xs = 0 then vsF fm mode (absL fm xs) else 0
theorem va_no {fm mode : Int} {xs : List Int} (h : vecC fm mode xs ≠ 0) : vaB fm mode xs = 0 ∧ vaF fm mode xs = 0 := by unfold vaB vaF; rw [if_neg h, if_neg h]; exact ⟨rfl, rfl⟩
theorem absi_all (fm mode : Int) (xs : List Int) (a : Option Addr) (cap : Nat) (u : Value) (w : World) (hE : E3 u w) (hx : Sl .u64 w (.slice a xs.length cap) xs) (dx : D64 xs) (hl : xs.length ≤ 1048576) (c B F : Int) (hc : c = vecC fm mode xs) (hB : B = vaB fm mode xs) (hF : F = vaF fm mode xs) :
    Calls Tryz.prog 28 #[.int .i64 fm, .int .i64 mode, .slice a xs.length cap] w fun r w' => r = .returned (.agg #[.int .i64 c, .int .u64 B, .int .i64 F]) ∧ Below w.heap.size w w' := by
  by_cases h0 : vecC fm mode xs = 0
  · rw [hc, h0]; exact absi_yes fm mode xs a cap u w hE hx dx hl h0 B F (by rw [hB]; unfold vaB; rw [if_pos h0]) (by rw [hF]; unfold vaF; rw [if_pos h0])
  · rw [hB, hF, (va_no h0).1, (va_no h0).2]; exact absi_no fm mode xs a cap w hE.t.s.f hx dx hl c hc (by rw [hc]; exact h0)
theorem abss_all (fm mode : Int) (xs : List Int) (a : Option Addr) (cap : Nat) (w : World) (hx : Sl .u64 w (.slice a xs.length cap) xs) (dx : D64 xs) (hl : xs.length ≤ 1048576) (c B F : Int) (hc : c = vecC fm mode xs) (hB : B = vaB fm mode xs) (hF : F = vaF fm mode xs) :
    Calls Tryz.prog 27 #[.int .i64 fm, .int .i64 mode, .slice a xs.length cap] w fun r w' => r = .returned (.agg #[.int .i64 c, .int .u64 B, .int .i64 F]) ∧ Below w.heap.size w w' := by
  by_cases h0 : vecC fm mode xs = 0
  · rw [hc, h0]; exact abs_spec_yes fm mode xs a cap w hx dx hl h0 B F (by rw [hB]; unfold vaB; rw [if_pos h0]) (by rw [hF]; unfold vaF; rw [if_pos h0])
  · rw [hB, hF, (va_no h0).1, (va_no h0).2]; exact abs_spec_no fm mode xs a cap w hx hl c hc (by rw [hc]; exact h0)
theorem law_SumAbs (fm mode : Int) (a : Option Addr) (cap : Nat) (xs : List Int) (w : World) (hT : EX3 w) (hx : Sl .u64 w (.slice a xs.length cap) xs) (dx : D64 xs) :
    Calls Tryz.prog 5 #[.int .i64 fm, .int .i64 mode, .slice a xs.length cap] w fun e w' => e = .returned (.bool true) ∧ Below w.heap.size w w' := by
  have hlm : xs.length ≤ 9223372036854775807 := by obtain ⟨_, h1, h2, _⟩ := hx.cells; unfold maxLen at h2; omega
  by_cases hn : xs.length ≤ 1048576
  · have hl : xs.length ≤ 140737488355328 := by omega
    obtain ⟨u, hE⟩ := hT
    obtain ⟨c, hc⟩ : ∃ c, c = vecC fm mode xs := ⟨_, rfl⟩
    obtain ⟨B, hB⟩ : ∃ B, B = vaB fm mode xs := ⟨_, rfl⟩
    obtain ⟨F, hF⟩ : ∃ F, F = vaF fm mode xs := ⟨_, rfl⟩
    have CS := hid (fun a c' w' h => abss_all fm mode xs a c' w' h dx hn c B F hc hB hF)
    have CI := hid (fun a c' w' h h' => absi_all fm mode xs a c' u w' h h' dx hn c B F hc hB hF)
    clear hc hB hF dx
    go_enter Tryz.func5, Tryz.ntmps5
    go_wp2_with fail
    refine (toV_any _ xs _ hx hn).mono ?_
    rintro e w1 ⟨a1, c1, rfl, s1, hb1⟩
    go_wp2_with fail
    refine (CS.out a1 c1 _ s1).mono ?_
    rintro e w2 ⟨rfl, hb2⟩
    have bel2 := bel_al (bel_go hb1 hb2) (.cells #[.int .i64 c, .int .u64 B, .int .i64 F] 40)
    have P := R3.new w2 (.int .i64 c) (.int .u64 B) (.int .i64 F) 40
    go_wp2_with fail
    refine (toV_any _ xs _ (hx.below bel2) hn).mono ?_
    rintro e w3 ⟨a3, c3, rfl, s3, hb3⟩
    have bel3 := bel_go bel2 hb3
    replace P := P.below hb3
    go_wp2_with fail
    refine (CI.out a3 c3 _ (hE.below bel3) s3).mono ?_
    rintro e w4 ⟨rfl, hb4⟩
    have bel4 := bel_al (bel_go bel3 hb4) (.cells #[.int .i64 c, .int .u64 B, .int .i64 F] 40)
    replace P := (P.below hb4).al (.cells #[.int .i64 c, .int .u64 B, .int .i64 F] 40)
    have Q := R3.new w4 (.int .i64 c) (.int .u64 B) (.int .i64 F) 40
    have s4 := (s3.below hb4).alloc (.cells #[.int .i64 c, .int .u64 B, .int .i64 F] 40)
    have p0 := P.c0
    have p1 := P.c1
    have p2 := P.c2
    have q0 := Q.c0
    have q1 := Q.c1
    have q2 := Q.c2
    go_wp2_with fail
    refine (eqRes_same c B F _).mono ?_
    rintro e w5 ⟨rfl, hb5⟩
    clear p0 p1 p2 q0 q1 q2
    have bel5 := bel_go bel4 hb5
    go_wp2_with fail
    refine (toV_any _ xs _ (hx.below bel5) hn).mono ?_
    rintro e w6 ⟨a6, c6, rfl, s6, hb6⟩
    go_wp2_with fail
    refine (eqV_same a3 a6 c3 c6 xs _ ((s4.below hb5).below hb6) s6 hl).mono ?_
    rintro e w7 ⟨rfl, hb7⟩
    go_wp2
    go_ret
    exact ⟨rfl, bel_go (bel_go bel5 hb6) hb7⟩
  · go_enter Tryz.func5, Tryz.ntmps5
    go_wp2
    go_ret
    exact ⟨rfl, Below.refl _ _⟩
end Go.Proofs.YtnliofakkkjpoaaGreatDoor
