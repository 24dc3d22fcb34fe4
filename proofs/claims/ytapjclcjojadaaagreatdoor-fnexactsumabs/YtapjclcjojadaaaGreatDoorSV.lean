/-
  Sums of vectors: by both; the law.
-/
import Derived.Test.YtapjclcjojadaaaGreatDoorSU
namespace Go.Proofs.YtapjclcjojadaaaGreatDoor
set_option linter.unusedVariables false
set_option linter.unusedSimpArgs false
open Go.RowKit Go.Deep
set_option maxHeartbeats 2000000 in
theorem eqRes_same (c b f : Int) (w : World) :
    Calls Tryz.prog 25 #[.agg #[.int .i64 c, .int .u64 b, .int .i64 f], .agg #[.int .i64 c, .int .u64 b, .int .i64 f]] w fun e w' => e = .returned (.bool true) ∧ Below w.heap.size w w' := by
  have h1 : (c != c) = false := by simp
  have h2 : (b != b) = false := by simp
  have h3 : (f != f) = false := by simp
  go_enter Tryz.func25, Tryz.ntmps25
  go_wp2
  go_ret
  exact ⟨rfl, (by repeat (first | exact Below.refl _ _ | refine Below.drew ?_ | refine bel_dn ?_ _ | refine bel_al ?_ _ | refine Below.setCell ?_ (by first | omega | (simp; done) | (simp; omega)) _ | refine Below.alloc ?_ (by first | omega | (simp; done) | (simp; omega)) _))⟩
/-- The terms of a vector's sum. -/
def tmsF (fm : Int) (xs : List Int) (k : Nat) : Tm := tmF fm (xs.getD k 0)
def vsS (fm : Int) (xs : List Int) : St := foldS (tmsF fm xs) xs.length
def vsB (fm mode : Int) (xs : List Int) : Int := if vecC fm mode xs = 0 then arB fm (Nm.wn (vsS fm xs).z) (Nm.wl (vsS fm xs).z) (vsS fm xs).T (vsS fm xs).nn (vsS fm xs).bd (vsS fm xs).pl (vsS fm xs).mi (vsS fm xs).am mode else 0
def vsF (fm mode : Int) (xs : List Int) : Int := if vecC fm mode xs = 0 then arF fm (Nm.wn (vsS fm xs).z) (Nm.wl (vsS fm xs).z) (vsS fm xs).T (vsS fm xs).nn (vsS fm xs).bd (vsS fm xs).pl (vsS fm xs).mi (vsS fm xs).am mode else 0
theorem vec_ok {fm mode : Int} {xs : List Int} (h : vecC fm mode xs = 0) : fmtB fm = true ∧ modeB mode = true ∧ xs.length ≤ 300 ∧ ∀ k, k < xs.length → okF fm (xs.getD k 0) = true := by
  unfold vecC at h
  cases h1 : (fmtB fm && modeB mode)
  · rw [h1] at h; simp at h
  rw [h1, if_pos rfl] at h
  obtain ⟨hf, hm⟩ : fmtB fm = true ∧ modeB mode = true := by simpa using h1
  by_cases h2 : xs.length ≤ 300
  · rw [if_pos h2] at h
    refine ⟨hf, hm, h2, fun k hk => ?_⟩
    cases ha : allB fm xs
    · rw [ha] at h; simp at h
    unfold allB at ha; rw [List.all_eq_true] at ha
    have := ha _ (List.getElem_mem hk)
    rwa [List.getD_eq_getElem?_getD, List.getElem?_eq_getElem hk]
  · rw [if_neg h2] at h; simp at h
theorem dir_AccAdd : Dir 79 := by
  have k1 : (Tryz.f79.name == "runtime.NumGoroutine") = false := by kernel_rfl
  have k2 : Tryz.f79.body.isNone = false := by kernel_rfl
  have k3 : ¬ Tryz.f79.name = "runtime.NumGoroutine" := by simpa using k1
  have k4 : ¬ Tryz.f79.body = none := by intro h; rw [h] at k2; cases k2
  exact fun args w => by simp [callFunc, go_sem, Tryz.func79, k3, k4]
theorem Rt.len {fm : Int} {s : St} (h : Rt fm s) : (Nm.wl s.z).length ≤ 200 := (okB_nz (acc_parts h).2.2.1).2
set_option maxHeartbeats 4000000 in
set_option maxRecDepth 100000 in
/-- What SumOf and its likes do: out of the code, and out of what the fold comes to. -/
theorem sumi_no (fm mode : Int) (xs : List Int) (a : Option Addr) (cap : Nat) (w : World) (hT : Tab w) (hx : Sl .u64 w (.slice a xs.length cap) xs) (dx : D64 xs) (hl : xs.length ≤ 1048576) (c : Int) (hc : c = vecC fm mode xs) (h0 : c ≠ 0) :
    Calls Tryz.prog 24 #[.int .i64 fm, .int .i64 mode, .slice a xs.length cap] w fun r w' => r = .returned (.agg #[.int .i64 c, .int .u64 0, .int .i64 0]) ∧ Below w.heap.size w w' := by
  have CC := hid (fun B w' h h' hb => vcode_impl fm mode a cap xs B w' h h' dx hl hb)
  rw [← hc] at CC
  have hne : (c != 0) = true := by simpa using h0
  clear hc h0 dx
  have R := R3.new w (.int .i64 0) (.int .u64 0) (.int .i64 0) 40
  have bel1 : Below w.heap.size w ((w.alloc (.cells #[.int .i64 0, .int .u64 0, .int .i64 0] 40)).alloc (.cells #[.slice a xs.length cap] 38)) := (by repeat (first | exact Below.refl _ _ | refine Below.drew ?_ | refine bel_dn ?_ _ | refine bel_al ?_ _ | refine Below.setCell ?_ (by first | omega | (simp; done) | (simp; omega)) _ | refine Below.alloc ?_ (by first | omega | (simp; done) | (simp; omega)) _))
  go_enter Tryz.func24, Tryz.ntmps24
  go_wp2_with fail
  refine (CC.out (w.heap.size + 1) _ (hT.below bel1) (hx.below bel1) (cell_top _ _ _ _ (by simp))).mono ?_
  rintro r w1 ⟨rfl, hb1⟩
  obtain ⟨r0, r1, r2, g0, g1, g2⟩ := (R.al (.cells #[.slice a xs.length cap] 38)).below hb1
  go_wp2
  refine bodyPost_ret (v := .agg #[.int .i64 c, .int .u64 0, .int .i64 0]) (by simp [results, Tryz.results24, go_sem, r0, r1, r2]) rfl ⟨rfl, ?_⟩
  exact (by repeat (first | (with_reducible refine Below.setCell ?_ ?_ _; rotate_left; focus (first | omega | (simp; done) | (simp; omega))) | (with_reducible exact Below.refl _ _) | (with_reducible refine Below.drew ?_) | (with_reducible refine bel_dn ?_ _) | (with_reducible refine bel_al ?_ _) | (with_reducible refine bel_go ?_ hb1) | (with_reducible refine Below.alloc ?_ ?_ _; rotate_left; focus (first | omega | (simp; done) | (simp; omega))) | (with_reducible refine Below.trans ?_ (Below.mono hb1 ?_); rotate_left; focus (first | omega | (simp; done) | (simp; omega)))))
set_option maxHeartbeats 4000000 in
set_option maxRecDepth 100000 in
theorem sumi_yes (fm mode : Int) (xs : List Int) (a : Option Addr) (cap : Nat) (u : Value) (w : World) (hE : E3 u w) (hx : Sl .u64 w (.slice a xs.length cap) xs) (dx : D64 xs) (hl : xs.length ≤ 1048576) (hc : vecC fm mode xs = 0) (B F : Int) (hB : B = vsB fm mode xs) (hF : F = vsF fm mode xs) :
    Calls Tryz.prog 24 #[.int .i64 fm, .int .i64 mode, .slice a xs.length cap] w fun r w' => r = .returned (.agg #[.int .i64 0, .int .u64 B, .int .i64 F]) ∧ Below w.heap.size w w' := by
  obtain ⟨hfm, hm, hn, hok⟩ := vec_ok hc
  have CC := hid (fun B w' h h' hb => vcode_impl fm mode a cap xs B w' h h' dx hl hb)
  rw [hc] at CC
  have hRt := foldS_Rt hfm (tmsF fm xs) xs.length (by omega) (fun k hk => tm_ok (hok k hk))
  unfold vsB at hB
  unfold vsF at hF
  rw [if_pos hc] at hB hF
  have CS := hid (fun w' h h' => summed_impl 79 dir_AccAdd fm mode hfm (foldS (tmsF fm xs)) rfl xs a cap u w' h h' hl (hRt _ (Nat.le_refl _)).len
    (fun k hk p c w'' hE' hs' => accI fm (foldS (tmsF fm xs) k) (xs.getD k 0) p c u w'' hE' (hRt k (by omega)) (hok k hk) (dx.getD k).1 (dx.getD k).2 (by rw [foldS_T]; omega) hs' _ rfl) B F hB hF)
  clear hB hF hc dx hRt hok hn hm hfm
  have R := R3.new w (.int .i64 0) (.int .u64 0) (.int .i64 0) 40
  have bel1 : Below w.heap.size w ((w.alloc (.cells #[.int .i64 0, .int .u64 0, .int .i64 0] 40)).alloc (.cells #[.slice a xs.length cap] 38)) := (by repeat (first | exact Below.refl _ _ | refine Below.drew ?_ | refine bel_dn ?_ _ | refine bel_al ?_ _ | refine Below.setCell ?_ (by first | omega | (simp; done) | (simp; omega)) _ | refine Below.alloc ?_ (by first | omega | (simp; done) | (simp; omega)) _))
  go_enter Tryz.func24, Tryz.ntmps24
  go_wp2_with fail
  refine (CC.out (w.heap.size + 1) _ (hE.t.s.f.below bel1) (hx.below bel1) (cell_top _ _ _ _ (by simp))).mono ?_
  rintro r w1 ⟨rfl, hb1⟩
  have bel2 := bel_go bel1 hb1
  go_wp2_with fail
  refine (CS.out _ (hE.below bel2) (hx.below bel2)).mono ?_
  rintro r w2 ⟨rfl, hb2⟩
  obtain ⟨r0, r1, r2, g0, g1, g2⟩ := ((R.al (.cells #[.slice a xs.length cap] 38)).below hb1).below hb2
  go_wp2
  refine bodyPost_ret (v := .agg #[.int .i64 0, .int .u64 B, .int .i64 F]) (by simp [results, Tryz.results24, go_sem, r0, r1, r2]) rfl ⟨rfl, ?_⟩
  exact (by repeat (first | (with_reducible refine Below.setCell ?_ ?_ _; rotate_left; focus (first | omega | (simp; done) | (simp; omega))) | (with_reducible exact Below.refl _ _) | (with_reducible refine Below.drew ?_) | (with_reducible refine bel_dn ?_ _) | (with_reducible refine bel_al ?_ _) | (with_reducible refine bel_go ?_ hb2) | (with_reducible refine bel_go ?_ bel2) | (with_reducible refine Below.alloc ?_ ?_ _; rotate_left; focus (first | omega | (simp; done) | (simp; omega))) | (with_reducible refine Below.trans ?_ (Below.mono hb2 ?_); rotate_left; focus (first | omega | (simp; done) | (simp; omega))) | (with_reducible refine Below.trans ?_ (Below.mono bel2 ?_); rotate_left; focus (first | omega | (simp; done) | (simp; omega)))))
theorem vs_no {fm mode : Int} {xs : List Int} (h : vecC fm mode xs ≠ 0) : vsB fm mode xs = 0 ∧ vsF fm mode xs = 0 := by unfold vsB vsF; rw [if_neg h, if_neg h]; exact ⟨rfl, rfl⟩
theorem sumi_all (fm mode : Int) (xs : List Int) (a : Option Addr) (cap : Nat) (u : Value) (w : World) (hE : E3 u w) (hx : Sl .u64 w (.slice a xs.length cap) xs) (dx : D64 xs) (hl : xs.length ≤ 1048576) (c B F : Int) (hc : c = vecC fm mode xs) (hB : B = vsB fm mode xs) (hF : F = vsF fm mode xs) :
    Calls Tryz.prog 24 #[.int .i64 fm, .int .i64 mode, .slice a xs.length cap] w fun r w' => r = .returned (.agg #[.int .i64 c, .int .u64 B, .int .i64 F]) ∧ Below w.heap.size w w' := by
  by_cases h0 : vecC fm mode xs = 0
  · rw [hc, h0]; exact sumi_yes fm mode xs a cap u w hE hx dx hl h0 B F hB hF
  · rw [hB, hF, (vs_no h0).1, (vs_no h0).2]; exact sumi_no fm mode xs a cap w hE.t.s.f hx dx hl c hc (by rw [hc]; exact h0)
theorem sums_all (fm mode : Int) (xs : List Int) (a : Option Addr) (cap : Nat) (w : World) (hx : Sl .u64 w (.slice a xs.length cap) xs) (dx : D64 xs) (hl : xs.length ≤ 1048576) (c B F : Int) (hc : c = vecC fm mode xs) (hB : B = vsB fm mode xs) (hF : F = vsF fm mode xs) :
    Calls Tryz.prog 22 #[.int .i64 fm, .int .i64 mode, .slice a xs.length cap] w fun r w' => r = .returned (.agg #[.int .i64 c, .int .u64 B, .int .i64 F]) ∧ Below w.heap.size w w' := by
  by_cases h0 : vecC fm mode xs = 0
  · obtain ⟨hfm, hm, hn, hok⟩ := vec_ok h0
    have hRt := foldS_Rt hfm (tmsF fm xs) xs.length (by omega) (fun k hk => tm_ok (hok k hk))
    unfold vsB at hB
    unfold vsF at hF
    rw [if_pos h0] at hB hF
    rw [hc, h0]
    exact sum_spec_yes fm mode hfm (foldS (tmsF fm xs)) rfl xs a cap w hx hl h0 (hRt _ (Nat.le_refl _)).len
      (fun k hk p c w'' hs' => accS fm (foldS (tmsF fm xs) k) (xs.getD k 0) p c w'' (hRt k (by omega)) (hok k hk) (dx.getD k).1 (dx.getD k).2 (by rw [foldS_T]; omega) hs' _ rfl) B F hB hF
  · rw [hB, hF, (vs_no h0).1, (vs_no h0).2]; exact sum_spec_no fm mode xs a cap w hx hl c hc (by rw [hc]; exact h0)
set_option maxHeartbeats 4000000 in
theorem law_SumOf (fm mode : Int) (a : Option Addr) (cap : Nat) (xs : List Int) (w : World) (hT : EX3 w) (hx : Sl .u64 w (.slice a xs.length cap) xs) (dx : D64 xs) :
    Calls Tryz.prog 4 #[.int .i64 fm, .int .i64 mode, .slice a xs.length cap] w fun e w' => e = .returned (.bool true) ∧ Below w.heap.size w w' := by
  have hlm : xs.length ≤ 9223372036854775807 := by obtain ⟨_, h1, h2, _⟩ := hx.cells; unfold maxLen at h2; omega
  by_cases hn : xs.length ≤ 1048576
  · have hl : xs.length ≤ 140737488355328 := by omega
    obtain ⟨u, hE⟩ := hT
    obtain ⟨c, hc⟩ : ∃ c, c = vecC fm mode xs := ⟨_, rfl⟩
    obtain ⟨B, hB⟩ : ∃ B, B = vsB fm mode xs := ⟨_, rfl⟩
    obtain ⟨F, hF⟩ : ∃ F, F = vsF fm mode xs := ⟨_, rfl⟩
    have CS := hid (fun a c' w' h => sums_all fm mode xs a c' w' h dx hn c B F hc hB hF)
    have CI := hid (fun a c' w' h h' => sumi_all fm mode xs a c' u w' h h' dx hn c B F hc hB hF)
    clear hc hB hF dx
    go_enter Tryz.func4, Tryz.ntmps4
    go_wp2_with fail
    refine (toV_any _ xs _ hx hn).mono ?_
    rintro e w1 ⟨a1, c1, rfl, s1, hb1⟩
    go_wp2_with fail
    refine (CS.out a1 c1 _ s1).mono ?_
    rintro e w2 ⟨rfl, hb2⟩
    have bel2 := bel_al (bel_go hb1 hb2) (.cells #[.int .i64 c, .int .u64 B, .int .i64 F] 40)
    have P := R3.new w2 (.int .i64 c) (.int .u64 B) (.int .i64 F) 40
    go_wp2_with fail
    refine (toV_any _ xs _ (hx.below bel2) hn).mono ?_
    rintro e w3 ⟨a3, c3, rfl, s3, hb3⟩
    have bel3 := bel_go bel2 hb3
    replace P := P.below hb3
    go_wp2_with fail
    refine (CI.out a3 c3 _ (hE.below bel3) s3).mono ?_
    rintro e w4 ⟨rfl, hb4⟩
    have bel4 := bel_al (bel_go bel3 hb4) (.cells #[.int .i64 c, .int .u64 B, .int .i64 F] 40)
    replace P := (P.below hb4).al (.cells #[.int .i64 c, .int .u64 B, .int .i64 F] 40)
    have Q := R3.new w4 (.int .i64 c) (.int .u64 B) (.int .i64 F) 40
    have s4 := (s3.below hb4).alloc (.cells #[.int .i64 c, .int .u64 B, .int .i64 F] 40)
    have p0 := P.c0
    have p1 := P.c1
    have p2 := P.c2
    have q0 := Q.c0
    have q1 := Q.c1
    have q2 := Q.c2
    go_wp2_with fail
    refine (eqRes_same c B F _).mono ?_
    rintro e w5 ⟨rfl, hb5⟩
    clear p0 p1 p2 q0 q1 q2
    have bel5 := bel_go bel4 hb5
    go_wp2_with fail
    refine (toV_any _ xs _ (hx.below bel5) hn).mono ?_
    rintro e w6 ⟨a6, c6, rfl, s6, hb6⟩
    go_wp2_with fail
    refine (eqV_same a3 a6 c3 c6 xs _ ((s4.below hb5).below hb6) s6 hl).mono ?_
    rintro e w7 ⟨rfl, hb7⟩
    go_wp2
    go_ret
    exact ⟨rfl, bel_go (bel_go bel5 hb6) hb7⟩
  · go_enter Tryz.func4, Tryz.ntmps4
    go_wp2
    go_ret
    exact ⟨rfl, Below.refl _ _⟩
end Go.Proofs.YtapjclcjojadaaaGreatDoor
