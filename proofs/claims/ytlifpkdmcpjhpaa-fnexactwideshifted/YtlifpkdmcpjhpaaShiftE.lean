/-
  Wides shifted, by the program.
-/
import Derived.Test.YtlifpkdmcpjhpaaShiftD
namespace Go.Proofs.Ytlifpkdmcpjhpaa
set_option linter.unusedVariables false
set_option linter.unusedSimpArgs false
open Go.RowKit Go.Deep
theorem keep2 {w w' : World} {b : Nat} {v0 v1 : Value} (h0 : w.cell? ⟨b, 0, none⟩ = some v0) (h1 : w.cell? ⟨b, 1, none⟩ = some v1) (hb : Below w.heap.size w w') : w'.cell? ⟨b, 0, none⟩ = some v0 ∧ w'.cell? ⟨b, 1, none⟩ = some v1 := Box.below ⟨h0, h1⟩ hb
theorem keep2_set {w : World} {b z : Nat} {v0 v1 : Value} (h0 : w.cell? ⟨b, 0, none⟩ = some v0) (h1 : w.cell? ⟨b, 1, none⟩ = some v1) (n1 : b ≠ z) (p q : Value) :
    ((w.setCell ⟨z, 0, none⟩ p).setCell ⟨z, 1, none⟩ q).cell? ⟨b, 0, none⟩ = some v0 ∧ ((w.setCell ⟨z, 0, none⟩ p).setCell ⟨z, 1, none⟩ q).cell? ⟨b, 1, none⟩ = some v1 :=
  ⟨(keep3_set h0 h1 h1 n1 n1 p q).1, (keep3_set h0 h1 h1 n1 n1 p q).2.1⟩
set_option maxHeartbeats 1000000 in
theorem wsh_impl_no (ng : Bool) (a : Option Addr) (cap : Nat) (xs : List Int) (n : Int) (w : World) (hx : Sl .u32 w (.slice a xs.length cap) xs) (hl : xs.length ≤ 1048576) (hk : (okB ng xs && inZ n (-10000) 10000) = false) :
    Calls Try.prog 32 #[.agg #[.bool ng, .slice a xs.length cap], .int .i64 n] w fun e w' => e = .returned (.tuple #[.agg #[.bool false, .slice none 0 0], .bool false]) ∧ Below w.heap.size w w' := by
  have sx := (hx.alloc (.cells #[.bool ng, .slice a xs.length cap] 26)).alloc (.cells #[.bool false, .slice none 0 0] 26)
  have Rz := R2.new2 w (.cells #[.bool ng, .slice a xs.length cap] 26) (.bool false) (.slice none 0 0) 26
  cases h1 : okB ng xs
  · clear hk
    go_enter Try.func32, Try.ntmps32
    go_wp2_with fail
    refine (ok_impl ng a cap xs _ sx (by omega)).mono ?_
    rintro e w1 ⟨rfl, hb1⟩
    obtain ⟨z0, z1, zf0, zf1⟩ := Rz.below hb1
    go_wp2
    exact bodyPost_ret (v := .tuple #[.agg #[.bool false, .slice none 0 0], .bool false]) (by simp [results, Try.results32, go_sem, z0, z1]) rfl ⟨rfl, (by repeat (first | exact Below.refl _ _ | refine Below.drew ?_ | refine bel_dn ?_ _ | refine bel_al ?_ _ | refine bel_go ?_ hb1 | refine Below.setCell ?_ (by first | omega | (simp; done) | (simp; omega)) _ | refine Below.alloc ?_ (by first | omega | (simp; done) | (simp; omega)) _ | refine Below.trans ?_ (Below.mono hb1 (by first | omega | (simp; done) | (simp; omega)))))⟩
  · have h2 : inZ n (-10000) 10000 = false := by rw [h1] at hk; simpa using hk
    have h3 : n < -10000 ∨ (¬ n < -10000 ∧ 10000 < n) := by simp [inZ] at h2; omega
    clear hk h2
    rcases h3 with h3 | ⟨h3, h4⟩
    all_goals
      go_enter Try.func32, Try.ntmps32
      go_wp2_with fail
      refine (ok_impl ng a cap xs _ sx (by omega)).mono ?_
      rintro e w1 ⟨rfl, hb1⟩
      obtain ⟨z0, z1, zf0, zf1⟩ := Rz.below hb1
      go_wp2
      exact bodyPost_ret (v := .tuple #[.agg #[.bool false, .slice none 0 0], .bool false]) (by simp [results, Try.results32, go_sem, z0, z1]) rfl ⟨rfl, (by repeat (first | exact Below.refl _ _ | refine Below.drew ?_ | refine bel_dn ?_ _ | refine bel_al ?_ _ | refine bel_go ?_ hb1 | refine Below.setCell ?_ (by first | omega | (simp; done) | (simp; omega)) _ | refine Below.alloc ?_ (by first | omega | (simp; done) | (simp; omega)) _ | refine Below.trans ?_ (Below.mono hb1 (by first | omega | (simp; done) | (simp; omega)))))⟩
set_option maxHeartbeats 1000000 in
theorem wsh_impl_up (ng : Bool) (a : Option Addr) (cap : Nat) (xs : List Int) (m : Int) (wh r : Nat) (w : World) (hx : Sl .u32 w (.slice a xs.length cap) xs) (dx : Nm.Dg xs) (h1 : okB ng xs = true) (h0 : 0 ≤ m) (h2 : m ≤ 10000) (hq : m / 32 = (wh : Int)) (hm : m % 32 = (r : Int)) (hw : wh ≤ 400000) (hr : r < 32) (x : Int) (hv : x = Nm.shV ng (Nm.val xs) (m)) :
    Calls Try.prog 32 #[.agg #[.bool ng, .slice a xs.length cap], .int .i64 (m)] w fun e w' => ∃ a' c', e = .returned (.tuple #[.agg #[.bool (Nm.outN x), .slice a' (Nm.outL x).length c'], .bool (Nm.fits x)]) ∧ Own w' w.heap.size a' c' (Nm.outL x) ∧ Below w.heap.size w w' := by
  have sx := (hx.alloc (.cells #[.bool ng, .slice a xs.length cap] 26)).alloc (.cells #[.bool false, .slice none 0 0] 26)
  have Rz := R2.new2 w (.cells #[.bool ng, .slice a xs.length cap] 26) (.bool false) (.slice none 0 0) 26
  have Bx := (Box.new w (.bool ng) (.slice a xs.length cap) 26).alloc (.cells #[.bool false, .slice none 0 0] 26)
  obtain ⟨nx, lx⟩ := okB_nz h1
  have HX : Hid (∀ os, Nm.val os = Nm.pw wh * ((2 : Int) ^ r * Nm.val xs) → x = Nm.wv ng os) := hid (fun os h => by rw [hv]; exact Nm.shV_wv (h.trans (Nm.shM_up h0 hq hm)))
  have kneg : IntKind.i64.wrap m = m := by rw [IntKind.wrap_i64]; omega
  have HQ := hid (And.intro hq hm)
  clear hv hq hm
  go_enter Try.func32, Try.ntmps32
  go_wp2_with fail
  refine (ok_impl ng a cap xs _ sx (by omega)).mono ?_
  rintro e W ⟨rfl, hb1⟩
  replace sx := sx.below hb1
  replace Rz := Rz.below hb1
  replace Bx := Bx.below hb1
  have lW : w.heap.size + 1 < W.heap.size := World.block_lt_of_cell? W _ Rz.c0
  go_wp2_with fail
  go_region_held3 (fun w' => w'.cell? ⟨w.heap.size, 0, none⟩ = some (.bool ng) ∧ w'.cell? ⟨w.heap.size, 1, none⟩ = some (.slice a xs.length cap)) (first | assumption | (refine keep2_set k3.1 k3.2 ?_ _ _ <;> omega) | exact ⟨Bx.1, Bx.2⟩)
    (first
      | (go_at_call 75; refine (up_any a cap xs m wh r _ (by exact sx.drew) dx (by omega) hw hr (by omega) (by omega) HQ.out.1 HQ.out.2).mono ?_; rintro e w2 ⟨a2, c2, os, rfl, ho2, dos, hvo, hlo, hb2⟩; have k2 := keep2 (w := W.drew) Bx.1 Bx.2 hb2; have Rz2 := Rz.drew.below hb2)
      | (go_at_call 66; refine (fitted_v ng a2 c2 os W.heap.size _ (by exact ho2) dos hlo x (HX.out os hvo)).mono ?_; rintro e w3 ⟨a3, c3, rfl, ho3, hb3⟩; have k3 := keep2 k2.1 k2.2 hb3; have Rz3 := Rz2.below hb3; obtain ⟨z0, z1, zf0, zf1⟩ := Rz3))
  have l2 : W.heap.size ≤ w2.heap.size := hb2.size
  have l3 : w2.heap.size ≤ w3.heap.size := hb3.size
  go_wp2
  refine bodyPost_ret (v := .tuple #[.agg #[.bool (Nm.outN x), .slice a3 (Nm.outL x).length c3], .bool (Nm.fits x)]) (by simp [results, Try.results32, go_sem, z0, z1]) rfl ⟨a3, c3, rfl, ?_, ?_⟩
  · exact Own.base ((ho3.setBelow (by simp; omega) _).setBelow (by simp; omega) _) (by omega)
  · have hb0 : Below w.heap.size w W := (by repeat (first | exact Below.refl _ _ | refine Below.drew ?_ | refine bel_dn ?_ _ | refine bel_al ?_ _ | refine bel_go ?_ hb1 | refine Below.setCell ?_ (by first | omega | (simp; done) | (simp; omega)) _ | refine Below.alloc ?_ (by first | omega | (simp; done) | (simp; omega)) _ | refine Below.trans ?_ (Below.mono hb1 (by first | omega | (simp; done) | (simp; omega)))))
    exact ((bel_go (bel_go (Below.drew hb0) hb2) hb3).setCell (by simp) _).setCell (by simp) _
set_option maxRecDepth 10000 in
set_option maxHeartbeats 1000000 in
theorem wsh_impl_down (ng : Bool) (a : Option Addr) (cap : Nat) (xs : List Int) (m : Int) (wh r : Nat) (w : World) (hx : Sl .u32 w (.slice a xs.length cap) xs) (dx : Nm.Dg xs) (h1 : okB ng xs = true) (h0 : 1 ≤ m) (h2 : m ≤ 10000) (hq : m / 32 = (wh : Int)) (hm : m % 32 = (r : Int)) (hw : wh ≤ 400000) (hr : r < 32) (x : Int) (hv : x = Nm.shV ng (Nm.val xs) (-m)) :
    Calls Try.prog 32 #[.agg #[.bool ng, .slice a xs.length cap], .int .i64 (-m)] w fun e w' => ∃ a' c', e = .returned (.tuple #[.agg #[.bool (Nm.outN x), .slice a' (Nm.outL x).length c'], .bool (Nm.fits x)]) ∧ Own w' w.heap.size a' c' (Nm.outL x) ∧ Below w.heap.size w w' := by
  have sx := (hx.alloc (.cells #[.bool ng, .slice a xs.length cap] 26)).alloc (.cells #[.bool false, .slice none 0 0] 26)
  have Rz := R2.new2 w (.cells #[.bool ng, .slice a xs.length cap] 26) (.bool false) (.slice none 0 0) 26
  have Bx := (Box.new w (.bool ng) (.slice a xs.length cap) 26).alloc (.cells #[.bool false, .slice none 0 0] 26)
  obtain ⟨nx, lx⟩ := okB_nz h1
  have HX : Hid (∀ os, Nm.val os = Nm.val xs / Nm.pw wh / (2 : Int) ^ r → x = Nm.wv ng os) := hid (fun os h => by rw [hv]; exact Nm.shV_wv (h.trans (Nm.shM_down (by omega) (by rw [Int.neg_neg]; exact hq) (by rw [Int.neg_neg]; exact hm))))
  have kneg : IntKind.i64.wrap m = m := by rw [IntKind.wrap_i64]; omega
  have HQ := hid (And.intro hq hm)
  clear hv hq hm
  go_enter Try.func32, Try.ntmps32
  go_wp2_with fail
  refine (ok_impl ng a cap xs _ sx (by omega)).mono ?_
  rintro e W ⟨rfl, hb1⟩
  replace sx := sx.below hb1
  replace Rz := Rz.below hb1
  replace Bx := Bx.below hb1
  have lW : w.heap.size + 1 < W.heap.size := World.block_lt_of_cell? W _ Rz.c0
  go_wp2_with fail
  go_region_held3 (fun w' => w'.cell? ⟨w.heap.size, 0, none⟩ = some (.bool ng) ∧ w'.cell? ⟨w.heap.size, 1, none⟩ = some (.slice a xs.length cap)) (first | assumption | (refine keep2_set k3.1 k3.2 ?_ _ _ <;> omega) | exact ⟨Bx.1, Bx.2⟩)
    (first
      | (go_at_call 74; refine (down_any a cap xs m wh r _ (by exact sx.drew) dx (by omega) hw hr (by omega) (by omega) HQ.out.1 HQ.out.2).mono ?_; rintro e w2 ⟨a2, c2, os, rfl, ho2, dos, hvo, hlo, hb2⟩; have k2 := keep2 (w := W.drew) Bx.1 Bx.2 hb2; have Rz2 := Rz.drew.below hb2)
      | (go_at_call 66; refine (fitted_v ng a2 c2 os W.heap.size _ (by exact ho2) dos hlo x (HX.out os hvo)).mono ?_; rintro e w3 ⟨a3, c3, rfl, ho3, hb3⟩; have k3 := keep2 k2.1 k2.2 hb3; have Rz3 := Rz2.below hb3; obtain ⟨z0, z1, zf0, zf1⟩ := Rz3))
  have l2 : W.heap.size ≤ w2.heap.size := hb2.size
  have l3 : w2.heap.size ≤ w3.heap.size := hb3.size
  go_wp2
  refine bodyPost_ret (v := .tuple #[.agg #[.bool (Nm.outN x), .slice a3 (Nm.outL x).length c3], .bool (Nm.fits x)]) (by simp [results, Try.results32, go_sem, z0, z1]) rfl ⟨a3, c3, rfl, ?_, ?_⟩
  · exact Own.base ((ho3.setBelow (by simp; omega) _).setBelow (by simp; omega) _) (by omega)
  · have hb0 : Below w.heap.size w W := (by repeat (first | exact Below.refl _ _ | refine Below.drew ?_ | refine bel_dn ?_ _ | refine bel_al ?_ _ | refine bel_go ?_ hb1 | refine Below.setCell ?_ (by first | omega | (simp; done) | (simp; omega)) _ | refine Below.alloc ?_ (by first | omega | (simp; done) | (simp; omega)) _ | refine Below.trans ?_ (Below.mono hb1 (by first | omega | (simp; done) | (simp; omega)))))
    exact ((bel_go (bel_go (Below.drew hb0) hb2) hb3).setCell (by simp) _).setCell (by simp) _
theorem wsh_impl (ng : Bool) (a : Option Addr) (cap : Nat) (xs : List Int) (n : Int) (w : World) (hx : Sl .u32 w (.slice a xs.length cap) xs) (dx : Nm.Dg xs) (hl : xs.length ≤ 1048576) :
    Calls Try.prog 32 #[.agg #[.bool ng, .slice a xs.length cap], .int .i64 n] w fun e w' => ∃ a' c', e = .returned (.tuple #[.agg #[.bool (opN (okB ng xs && inZ n (-10000) 10000) (Nm.shV ng (Nm.val xs) n)), .slice a' (opL (okB ng xs && inZ n (-10000) 10000) (Nm.shV ng (Nm.val xs) n)).length c'], .bool (opO (okB ng xs && inZ n (-10000) 10000) (Nm.shV ng (Nm.val xs) n))]) ∧ Own w' w.heap.size a' c' (opL (okB ng xs && inZ n (-10000) 10000) (Nm.shV ng (Nm.val xs) n)) ∧ Below w.heap.size w w' := by
  cases hk : (okB ng xs && inZ n (-10000) 10000)
  · exact (wsh_impl_no ng a cap xs n w hx hl hk).mono fun e w' ⟨he, hb⟩ => ⟨none, 0, by rw [he]; rfl, Own.nil _ _, hb⟩
  · have h1 : okB ng xs = true := by cases h : okB ng xs <;> simp_all
    have h2 : inZ n (-10000) 10000 = true := by rw [h1] at hk; simpa using hk
    obtain ⟨r0, r1⟩ := inZ_yes h2
    by_cases hn : 0 ≤ n
    · obtain ⟨wh, r, hq, hm, hw, hr⟩ := parts32 n hn (by omega)
      exact wsh_impl_up ng a cap xs n wh r w hx dx h1 hn r1 hq hm hw hr _ rfl
    · obtain ⟨m, rfl⟩ : ∃ m, n = -m := ⟨-n, by omega⟩
      obtain ⟨wh, r, hq, hm, hw, hr⟩ := parts32 m (by omega) (by omega)
      exact wsh_impl_down ng a cap xs m wh r w hx dx h1 (by omega) (by omega) hq hm hw hr _ rfl
end Go.Proofs.Ytlifpkdmcpjhpaa
