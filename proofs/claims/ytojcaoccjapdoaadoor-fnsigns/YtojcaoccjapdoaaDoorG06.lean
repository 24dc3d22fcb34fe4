/-
  Several texts in one: ShiftE, WideF, WideG, WideI.
-/
import Derived.Test.YtojcaoccjapdoaaDoorG05
import Derived.Test.YtojcaoccjapdoaaDoorG00
import Derived.Laws.MathBits
import Derived.Deep.RegionHeld3
/-
  Wides shifted, by the program.
-/
namespace Go.Proofs.YtojcaoccjapdoaaDoor
set_option linter.unusedVariables false
set_option linter.unusedSimpArgs false
open Go.RowKit Go.Deep
theorem keep2 {w w' : World} {b : Nat} {v0 v1 : Value} (h0 : w.cell? ⟨b, 0, none⟩ = some v0) (h1 : w.cell? ⟨b, 1, none⟩ = some v1) (hb : Below w.heap.size w w') : w'.cell? ⟨b, 0, none⟩ = some v0 ∧ w'.cell? ⟨b, 1, none⟩ = some v1 := Box.below ⟨h0, h1⟩ hb
theorem keep2_set {w : World} {b z : Nat} {v0 v1 : Value} (h0 : w.cell? ⟨b, 0, none⟩ = some v0) (h1 : w.cell? ⟨b, 1, none⟩ = some v1) (n1 : b ≠ z) (p q : Value) :
    ((w.setCell ⟨z, 0, none⟩ p).setCell ⟨z, 1, none⟩ q).cell? ⟨b, 0, none⟩ = some v0 ∧ ((w.setCell ⟨z, 0, none⟩ p).setCell ⟨z, 1, none⟩ q).cell? ⟨b, 1, none⟩ = some v1 :=
  ⟨(keep3_set h0 h1 h1 n1 n1 p q).1, (keep3_set h0 h1 h1 n1 n1 p q).2.1⟩
set_option maxHeartbeats 1000000 in
theorem wsh_impl_no (ng : Bool) (a : Option Addr) (cap : Nat) (xs : List Int) (n : Int) (w : World) (hx : Sl .u32 w (.slice a xs.length cap) xs) (hl : xs.length ≤ 1048576) (hk : (okB ng xs && inZ n (-10000) 10000) = false) :
    Calls Tryd.prog 44 #[.agg #[.bool ng, .slice a xs.length cap], .int .i64 n] w fun e w' => e = .returned (.tuple #[.agg #[.bool false, .slice none 0 0], .bool false]) ∧ Below w.heap.size w w' := by
  have sx := (hx.alloc (.cells #[.bool ng, .slice a xs.length cap] 31)).alloc (.cells #[.bool false, .slice none 0 0] 31)
  have Rz := R2.new2 w (.cells #[.bool ng, .slice a xs.length cap] 31) (.bool false) (.slice none 0 0) 31
  cases h1 : okB ng xs
  · clear hk
    go_enter Tryd.func44, Tryd.ntmps44
    go_wp2_with fail
    refine (ok_impl ng a cap xs _ sx (by omega)).mono ?_
    rintro e w1 ⟨rfl, hb1⟩
    obtain ⟨z0, z1, zf0, zf1⟩ := Rz.below hb1
    go_wp2
    exact bodyPost_ret (v := .tuple #[.agg #[.bool false, .slice none 0 0], .bool false]) (by simp [results, Tryd.results44, go_sem, z0, z1]) rfl ⟨rfl, (by repeat (first | exact Below.refl _ _ | refine Below.drew ?_ | refine bel_dn ?_ _ | refine bel_al ?_ _ | refine bel_go ?_ hb1 | refine Below.setCell ?_ (by first | omega | (simp; done) | (simp; omega)) _ | refine Below.alloc ?_ (by first | omega | (simp; done) | (simp; omega)) _ | refine Below.trans ?_ (Below.mono hb1 (by first | omega | (simp; done) | (simp; omega)))))⟩
  · have h2 : inZ n (-10000) 10000 = false := by rw [h1] at hk; simpa using hk
    have h3 : n < -10000 ∨ (¬ n < -10000 ∧ 10000 < n) := by simp [inZ] at h2; omega
    clear hk h2
    rcases h3 with h3 | ⟨h3, h4⟩
    all_goals
      go_enter Tryd.func44, Tryd.ntmps44
      go_wp2_with fail
      refine (ok_impl ng a cap xs _ sx (by omega)).mono ?_
      rintro e w1 ⟨rfl, hb1⟩
      obtain ⟨z0, z1, zf0, zf1⟩ := Rz.below hb1
      go_wp2
      exact bodyPost_ret (v := .tuple #[.agg #[.bool false, .slice none 0 0], .bool false]) (by simp [results, Tryd.results44, go_sem, z0, z1]) rfl ⟨rfl, (by repeat (first | exact Below.refl _ _ | refine Below.drew ?_ | refine bel_dn ?_ _ | refine bel_al ?_ _ | refine bel_go ?_ hb1 | refine Below.setCell ?_ (by first | omega | (simp; done) | (simp; omega)) _ | refine Below.alloc ?_ (by first | omega | (simp; done) | (simp; omega)) _ | refine Below.trans ?_ (Below.mono hb1 (by first | omega | (simp; done) | (simp; omega)))))⟩
set_option maxHeartbeats 1000000 in
theorem wsh_impl_up (ng : Bool) (a : Option Addr) (cap : Nat) (xs : List Int) (m : Int) (wh r : Nat) (w : World) (hx : Sl .u32 w (.slice a xs.length cap) xs) (dx : Nm.Dg xs) (h1 : okB ng xs = true) (h0 : 0 ≤ m) (h2 : m ≤ 10000) (hq : m / 32 = (wh : Int)) (hm : m % 32 = (r : Int)) (hw : wh ≤ 400000) (hr : r < 32) (x : Int) (hv : x = Nm.shV ng (Nm.val xs) (m)) :
    Calls Tryd.prog 44 #[.agg #[.bool ng, .slice a xs.length cap], .int .i64 (m)] w fun e w' => ∃ a' c', e = .returned (.tuple #[.agg #[.bool (Nm.outN x), .slice a' (Nm.outL x).length c'], .bool (Nm.fits x)]) ∧ Own w' w.heap.size a' c' (Nm.outL x) ∧ Below w.heap.size w w' := by
  have sx := (hx.alloc (.cells #[.bool ng, .slice a xs.length cap] 31)).alloc (.cells #[.bool false, .slice none 0 0] 31)
  have Rz := R2.new2 w (.cells #[.bool ng, .slice a xs.length cap] 31) (.bool false) (.slice none 0 0) 31
  have Bx := (Box.new w (.bool ng) (.slice a xs.length cap) 31).alloc (.cells #[.bool false, .slice none 0 0] 31)
  obtain ⟨nx, lx⟩ := okB_nz h1
  have HX : Hid (∀ os, Nm.val os = Nm.pw wh * ((2 : Int) ^ r * Nm.val xs) → x = Nm.wv ng os) := hid (fun os h => by rw [hv]; exact Nm.shV_wv (h.trans (Nm.shM_up h0 hq hm)))
  have kneg : IntKind.i64.wrap m = m := by rw [IntKind.wrap_i64]; omega
  have HQ := hid (And.intro hq hm)
  clear hv hq hm
  go_enter Tryd.func44, Tryd.ntmps44
  go_wp2_with fail
  refine (ok_impl ng a cap xs _ sx (by omega)).mono ?_
  rintro e W ⟨rfl, hb1⟩
  replace sx := sx.below hb1
  replace Rz := Rz.below hb1
  replace Bx := Bx.below hb1
  have lW : w.heap.size + 1 < W.heap.size := World.block_lt_of_cell? W _ Rz.c0
  go_wp2_with fail
  go_region_held3 (fun w' => w'.cell? ⟨w.heap.size, 0, none⟩ = some (.bool ng) ∧ w'.cell? ⟨w.heap.size, 1, none⟩ = some (.slice a xs.length cap)) (first | assumption | (refine keep2_set k3.1 k3.2 ?_ _ _ <;> omega) | exact ⟨Bx.1, Bx.2⟩)
    (first
      | (go_at_call 86; refine (up_any a cap xs m wh r _ (by exact sx.drew) dx (by omega) hw hr (by omega) (by omega) HQ.out.1 HQ.out.2).mono ?_; rintro e w2 ⟨a2, c2, os, rfl, ho2, dos, hvo, hlo, hb2⟩; have k2 := keep2 (w := W.drew) Bx.1 Bx.2 hb2; have Rz2 := Rz.drew.below hb2)
      | (go_at_call 59; refine (fitted_v ng a2 c2 os W.heap.size _ (by exact ho2) dos hlo x (HX.out os hvo)).mono ?_; rintro e w3 ⟨a3, c3, rfl, ho3, hb3⟩; have k3 := keep2 k2.1 k2.2 hb3; have Rz3 := Rz2.below hb3; obtain ⟨z0, z1, zf0, zf1⟩ := Rz3))
  have l2 : W.heap.size ≤ w2.heap.size := hb2.size
  have l3 : w2.heap.size ≤ w3.heap.size := hb3.size
  go_wp2
  refine bodyPost_ret (v := .tuple #[.agg #[.bool (Nm.outN x), .slice a3 (Nm.outL x).length c3], .bool (Nm.fits x)]) (by simp [results, Tryd.results44, go_sem, z0, z1]) rfl ⟨a3, c3, rfl, ?_, ?_⟩
  · exact Own.base ((ho3.setBelow (by simp; omega) _).setBelow (by simp; omega) _) (by omega)
  · have hb0 : Below w.heap.size w W := (by repeat (first | exact Below.refl _ _ | refine Below.drew ?_ | refine bel_dn ?_ _ | refine bel_al ?_ _ | refine bel_go ?_ hb1 | refine Below.setCell ?_ (by first | omega | (simp; done) | (simp; omega)) _ | refine Below.alloc ?_ (by first | omega | (simp; done) | (simp; omega)) _ | refine Below.trans ?_ (Below.mono hb1 (by first | omega | (simp; done) | (simp; omega)))))
    exact ((bel_go (bel_go (Below.drew hb0) hb2) hb3).setCell (by simp) _).setCell (by simp) _
set_option maxRecDepth 10000 in
set_option maxHeartbeats 1000000 in
theorem wsh_impl_down (ng : Bool) (a : Option Addr) (cap : Nat) (xs : List Int) (m : Int) (wh r : Nat) (w : World) (hx : Sl .u32 w (.slice a xs.length cap) xs) (dx : Nm.Dg xs) (h1 : okB ng xs = true) (h0 : 1 ≤ m) (h2 : m ≤ 10000) (hq : m / 32 = (wh : Int)) (hm : m % 32 = (r : Int)) (hw : wh ≤ 400000) (hr : r < 32) (x : Int) (hv : x = Nm.shV ng (Nm.val xs) (-m)) :
    Calls Tryd.prog 44 #[.agg #[.bool ng, .slice a xs.length cap], .int .i64 (-m)] w fun e w' => ∃ a' c', e = .returned (.tuple #[.agg #[.bool (Nm.outN x), .slice a' (Nm.outL x).length c'], .bool (Nm.fits x)]) ∧ Own w' w.heap.size a' c' (Nm.outL x) ∧ Below w.heap.size w w' := by
  have sx := (hx.alloc (.cells #[.bool ng, .slice a xs.length cap] 31)).alloc (.cells #[.bool false, .slice none 0 0] 31)
  have Rz := R2.new2 w (.cells #[.bool ng, .slice a xs.length cap] 31) (.bool false) (.slice none 0 0) 31
  have Bx := (Box.new w (.bool ng) (.slice a xs.length cap) 31).alloc (.cells #[.bool false, .slice none 0 0] 31)
  obtain ⟨nx, lx⟩ := okB_nz h1
  have HX : Hid (∀ os, Nm.val os = Nm.val xs / Nm.pw wh / (2 : Int) ^ r → x = Nm.wv ng os) := hid (fun os h => by rw [hv]; exact Nm.shV_wv (h.trans (Nm.shM_down (by omega) (by rw [Int.neg_neg]; exact hq) (by rw [Int.neg_neg]; exact hm))))
  have kneg : IntKind.i64.wrap m = m := by rw [IntKind.wrap_i64]; omega
  have HQ := hid (And.intro hq hm)
  clear hv hq hm
  go_enter Tryd.func44, Tryd.ntmps44
  go_wp2_with fail
  refine (ok_impl ng a cap xs _ sx (by omega)).mono ?_
  rintro e W ⟨rfl, hb1⟩
  replace sx := sx.below hb1
  replace Rz := Rz.below hb1
  replace Bx := Bx.below hb1
  have lW : w.heap.size + 1 < W.heap.size := World.block_lt_of_cell? W _ Rz.c0
  go_wp2_with fail
  go_region_held3 (fun w' => w'.cell? ⟨w.heap.size, 0, none⟩ = some (.bool ng) ∧ w'.cell? ⟨w.heap.size, 1, none⟩ = some (.slice a xs.length cap)) (first | assumption | (refine keep2_set k3.1 k3.2 ?_ _ _ <;> omega) | exact ⟨Bx.1, Bx.2⟩)
    (first
      | (go_at_call 85; refine (down_any a cap xs m wh r _ (by exact sx.drew) dx (by omega) hw hr (by omega) (by omega) HQ.out.1 HQ.out.2).mono ?_; rintro e w2 ⟨a2, c2, os, rfl, ho2, dos, hvo, hlo, hb2⟩; have k2 := keep2 (w := W.drew) Bx.1 Bx.2 hb2; have Rz2 := Rz.drew.below hb2)
      | (go_at_call 59; refine (fitted_v ng a2 c2 os W.heap.size _ (by exact ho2) dos hlo x (HX.out os hvo)).mono ?_; rintro e w3 ⟨a3, c3, rfl, ho3, hb3⟩; have k3 := keep2 k2.1 k2.2 hb3; have Rz3 := Rz2.below hb3; obtain ⟨z0, z1, zf0, zf1⟩ := Rz3))
  have l2 : W.heap.size ≤ w2.heap.size := hb2.size
  have l3 : w2.heap.size ≤ w3.heap.size := hb3.size
  go_wp2
  refine bodyPost_ret (v := .tuple #[.agg #[.bool (Nm.outN x), .slice a3 (Nm.outL x).length c3], .bool (Nm.fits x)]) (by simp [results, Tryd.results44, go_sem, z0, z1]) rfl ⟨a3, c3, rfl, ?_, ?_⟩
  · exact Own.base ((ho3.setBelow (by simp; omega) _).setBelow (by simp; omega) _) (by omega)
  · have hb0 : Below w.heap.size w W := (by repeat (first | exact Below.refl _ _ | refine Below.drew ?_ | refine bel_dn ?_ _ | refine bel_al ?_ _ | refine bel_go ?_ hb1 | refine Below.setCell ?_ (by first | omega | (simp; done) | (simp; omega)) _ | refine Below.alloc ?_ (by first | omega | (simp; done) | (simp; omega)) _ | refine Below.trans ?_ (Below.mono hb1 (by first | omega | (simp; done) | (simp; omega)))))
    exact ((bel_go (bel_go (Below.drew hb0) hb2) hb3).setCell (by simp) _).setCell (by simp) _
theorem wsh_impl (ng : Bool) (a : Option Addr) (cap : Nat) (xs : List Int) (n : Int) (w : World) (hx : Sl .u32 w (.slice a xs.length cap) xs) (dx : Nm.Dg xs) (hl : xs.length ≤ 1048576) :
    Calls Tryd.prog 44 #[.agg #[.bool ng, .slice a xs.length cap], .int .i64 n] w fun e w' => ∃ a' c', e = .returned (.tuple #[.agg #[.bool (opN (okB ng xs && inZ n (-10000) 10000) (Nm.shV ng (Nm.val xs) n)), .slice a' (opL (okB ng xs && inZ n (-10000) 10000) (Nm.shV ng (Nm.val xs) n)).length c'], .bool (opO (okB ng xs && inZ n (-10000) 10000) (Nm.shV ng (Nm.val xs) n))]) ∧ Own w' w.heap.size a' c' (opL (okB ng xs && inZ n (-10000) 10000) (Nm.shV ng (Nm.val xs) n)) ∧ Below w.heap.size w w' := by
  cases hk : (okB ng xs && inZ n (-10000) 10000)
  · exact (wsh_impl_no ng a cap xs n w hx hl hk).mono fun e w' ⟨he, hb⟩ => ⟨none, 0, by rw [he]; rfl, Own.nil _ _, hb⟩
  · have h1 : okB ng xs = true := by cases h : okB ng xs <;> simp_all
    have h2 : inZ n (-10000) 10000 = true := by rw [h1] at hk; simpa using hk
    obtain ⟨r0, r1⟩ := inZ_yes h2
    by_cases hn : 0 ≤ n
    · obtain ⟨wh, r, hq, hm, hw, hr⟩ := parts32 n hn (by omega)
      exact wsh_impl_up ng a cap xs n wh r w hx dx h1 hn r1 hq hm hw hr _ rfl
    · obtain ⟨m, rfl⟩ : ∃ m, n = -m := ⟨-n, by omega⟩
      obtain ⟨wh, r, hq, hm, hw, hr⟩ := parts32 m (by omega) (by omega)
      exact wsh_impl_down ng a cap xs m wh r w hx dx h1 (by omega) (by omega) hq hm hw hr _ rfl
end Go.Proofs.YtojcaoccjapdoaaDoor
/-
  The library bits.Len32.
-/
namespace Go.Proofs.YtojcaoccjapdoaaDoor
set_option linter.unusedVariables false
set_option linter.unusedSimpArgs false
open Go.RowKit Go.Deep
theorem wrap_small (t : Int) (h0 : 0 ≤ t) (h1 : t ≤ 1000) : wrap64 t = t := IntWalk.wrap64_in t ⟨by omega, by omega⟩
theorem bitLen_div (x : Int) (k : Nat) (h0 : 0 ≤ x) (hx : x / (2 ^ k : Nat) ≠ 0) : bitLen x.toNat = k + bitLen (x / (2 ^ k : Nat)).toNat := by
  obtain ⟨n, rfl⟩ := Int.eq_ofNat_of_zero_le h0
  have e : (((n : Int) / (2 ^ k : Nat)).toNat) = n / 2 ^ k := by rw [← Int.natCast_ediv]; exact Int.toNat_natCast _
  rw [e]
  simp only [Int.toNat_natCast]
  apply bitLen_shift
  intro h
  apply hx
  rw [← Int.natCast_ediv, h]; rfl
theorem wrap_two (c t : Int) (h0 : 0 ≤ c) (h1 : c ≤ 100) (t0 : 0 ≤ t) (t1 : t ≤ 8) : wrap64 (c + wrap64 t) = c + t := by rw [wrap_small t t0 (by omega), wrap_small _ (by omega) (by omega)]
theorem bl_le (i : Nat) (h : i < 256) : (bitLen i : Int) ≤ 8 := by have := bitLen_le8 i h; omega

set_option maxHeartbeats 4000000 in
set_option maxRecDepth 1000000 in
theorem len32_any (x : Int) (w : World) (h0 : 0 ≤ x) (h1 : x < 4294967296) :
    Calls Tryd.prog 163 #[.int .u32 x] w fun e w' => e = .returned (.int .i64 (bitLen x.toNat)) ∧ w' = w := by
  by_cases c2 : 65536 ≤ x
  · by_cases c1 : 256 ≤ x / 65536
    · have HB : Hid ((bitLen x.toNat : Int) = 24 + bitLen (x / 65536 / 256).toNat) := hid (by
        have h := bitLen_div x 24 h0 (by simp; omega)
        rw [h, show (x / ((2 ^ 24 : Nat) : Int)) = x / 65536 / 256 by first | (simp; done) | (simp; omega)]; simp)
      have HL := hid (bl_le (x / 65536 / 256).toNat (by omega))
      go_enter Tryd.func163, Tryd.ntmps163
      go_wp2
      go_ret
      refine ⟨ret_int ?_, rfl⟩
      simp only [len8tab_get]
      rw [wrap_two _ _ (by decide) (by decide) (by omega) HL.out, HB.out]
    · have HB : Hid ((bitLen x.toNat : Int) = 16 + bitLen (x / 65536).toNat) := hid (by
        have h := bitLen_div x 16 h0 (by simp; omega)
        rw [h, show (x / ((2 ^ 16 : Nat) : Int)) = x / 65536 by first | (simp; done) | (simp; omega)]; simp)
      have HL := hid (bl_le (x / 65536).toNat (by omega))
      go_enter Tryd.func163, Tryd.ntmps163
      go_wp2
      go_ret
      refine ⟨ret_int ?_, rfl⟩
      simp only [len8tab_get]
      rw [wrap_two _ _ (by decide) (by decide) (by omega) HL.out, HB.out]
  · by_cases c1 : 256 ≤ x
    · have HB : Hid ((bitLen x.toNat : Int) = 8 + bitLen (x / 256).toNat) := hid (by
        have h := bitLen_div x 8 h0 (by simp; omega)
        rw [h, show (x / ((2 ^ 8 : Nat) : Int)) = x / 256 by first | (simp; done) | (simp; omega)]; simp)
      have HL := hid (bl_le (x / 256).toNat (by omega))
      go_enter Tryd.func163, Tryd.ntmps163
      go_wp2
      go_ret
      refine ⟨ret_int ?_, rfl⟩
      simp only [len8tab_get]
      rw [wrap_two _ _ (by decide) (by decide) (by omega) HL.out, HB.out]
    · have HL := hid (bl_le x.toNat (by omega))
      go_enter Tryd.func163, Tryd.ntmps163
      go_wp2
      go_ret
      refine ⟨ret_int ?_, rfl⟩
      simp only [len8tab_get]
      have h8 := HL.out
      rw [wrap_small (wrap64 _) (by rw [wrap_small _ (by omega) (by omega)]; omega) (by rw [wrap_small _ (by omega) (by omega)]; omega), wrap_small _ (by omega) (by omega)]
end Go.Proofs.YtojcaoccjapdoaaDoor
/-
  How many bits a wide has, by the program and by the specification.
-/
namespace Go.Proofs.YtojcaoccjapdoaaDoor
set_option linter.unusedVariables false
set_option linter.unusedSimpArgs false
open Go.RowKit Go.Deep
/-- How many bits limbs are written with. -/
def blL (zs : List Int) : Int := if zs.length = 0 then 0 else 32 * ((zs.length : Int) - 1) + bitLen (zs.getD (zs.length - 1) 0).toNat
def blW (ng : Bool) (zs : List Int) : Int := if okB ng zs then blL zs else -1
theorem bitLen_le32 (z : Int) (h0 : 0 ≤ z) (h1 : z < 4294967296) : (bitLen z.toNat : Int) ≤ 32 := by
  have h := bitLen_spec z.toNat
  unfold bitLen
  split
  · omega
  · rename_i hz
    have := (Nat.log2_lt hz).2 (show z.toNat < 2 ^ 32 by omega)
    omega

set_option maxHeartbeats 2000000 in
theorem bl_impl (ng : Bool) (a : Option Addr) (cap : Nat) (zs : List Int) (w : World) (hs : Sl .u32 w (.slice a zs.length cap) zs) (hz : Nm.Dg zs) (hl : zs.length ≤ 1048576) :
    Calls Tryd.prog 150 #[.agg #[.bool ng, .slice a zs.length cap]] w fun e w' => e = .returned (.int .i64 (blW ng zs)) ∧ Below w.heap.size w w' := by
  have hl' : zs.length ≤ 140737488355328 := by omega
  cases h1 : okB ng zs
  · have HR : Hid (blW ng zs = -1) := hid (by unfold blW; rw [h1]; rfl)
    go_enter Tryd.func150, Tryd.ntmps150
    go_wp2_with fail
    refine (ok_impl ng a cap zs _ (hs.alloc _) hl').mono ?_
    rintro e w1 ⟨rfl, hb1⟩
    go_wp2
    go_ret
    exact ⟨ret_int HR.out.symm, (by repeat (first | exact Below.refl _ _ | refine Below.drew ?_ | refine bel_dn ?_ _ | refine bel_al ?_ _ | refine bel_go ?_ hb1 | refine Below.setCell ?_ (by first | omega | (simp; done) | (simp; omega)) _ | refine Below.alloc ?_ (by first | omega | (simp; done) | (simp; omega)) _ | refine Below.trans ?_ (Below.mono hb1 (by first | omega | (simp; done) | (simp; omega)))))⟩
  have HW : Hid (blW ng zs = blL zs) := hid (by unfold blW; rw [h1]; rfl)
  by_cases h0 : zs.length = 0
  · have HR : Hid (blW ng zs = 0) := hid (by rw [HW.out]; unfold blL; rw [if_pos h0])
    have hb0 : ((zs.length : Int) == 0) = true := by rw [beq_iff_eq]; omega
    clear h0
    go_enter Tryd.func150, Tryd.ntmps150
    go_wp2_with fail
    refine (ok_impl ng a cap zs _ (hs.alloc _) hl').mono ?_
    rintro e w1 ⟨rfl, hb1⟩
    obtain ⟨x10, x11⟩ := (Box.new w (.bool ng) (.slice a zs.length cap) 31).below hb1
    go_wp2
    go_ret
    exact ⟨ret_int HR.out.symm, (by repeat (first | exact Below.refl _ _ | refine Below.drew ?_ | refine bel_dn ?_ _ | refine bel_al ?_ _ | refine bel_go ?_ hb1 | refine Below.setCell ?_ (by first | omega | (simp; done) | (simp; omega)) _ | refine Below.alloc ?_ (by first | omega | (simp; done) | (simp; omega)) _ | refine Below.trans ?_ (Below.mono hb1 (by first | omega | (simp; done) | (simp; omega)))))⟩
  · have hb0 : ((zs.length : Int) == 0) = false := by rw [beq_eq_false_iff_ne]; omega
    obtain ⟨z, hzk⟩ : ∃ z, z = zs.getD (zs.length - 1) 0 := ⟨_, rfl⟩
    have HR : Hid (blW ng zs = 32 * ((zs.length : Int) - 1) + bitLen z.toNat) := hid (by rw [HW.out]; unfold blL; rw [if_neg h0, hzk])
    have hd := hz.getD (zs.length - 1)
    have hb32 := bitLen_le32 z (by rw [hzk]; exact hd.1) (by rw [hzk]; exact hd.2)
    rw [← hzk] at hd
    have HZ := hid hzk
    clear hzk
    go_enter Tryd.func150, Tryd.ntmps150
    go_wp2_with fail
    refine (ok_impl ng a cap zs _ (hs.alloc _) hl').mono ?_
    rintro e w1 ⟨rfl, hb1⟩
    obtain ⟨x10, x11⟩ := (Box.new w (.bool ng) (.slice a zs.length cap) 31).below hb1
    have s1 := (hs.alloc _).below hb1
    obtain ⟨-, _, _, hc3⟩ := s1.cells
    obtain ⟨b, off, rfl, hcell⟩ := hc3 (by omega)
    have hc := hcell (zs.length - 1) (by omega)
    rw [← HZ.out] at hc
    clear hcell hc3
    go_wp2_with fail
    refine (len32_any z _ hd.1 hd.2).mono ?_
    rintro e w2 ⟨rfl, rfl⟩
    go_wp2
    go_ret
    exact ⟨ret_int HR.out.symm, (by repeat (first | exact Below.refl _ _ | refine Below.drew ?_ | refine bel_dn ?_ _ | refine bel_al ?_ _ | refine bel_go ?_ hb1 | refine Below.setCell ?_ (by first | omega | (simp; done) | (simp; omega)) _ | refine Below.alloc ?_ (by first | omega | (simp; done) | (simp; omega)) _ | refine Below.trans ?_ (Below.mono hb1 (by first | omega | (simp; done) | (simp; omega)))))⟩

theorem bl_half (z : Int) (h0 : 0 < z) : bitLen z.toNat = 1 + bitLen (z / 2).toNat := by
  by_cases h1 : z = 1
  · subst h1; decide
  · have := bitLen_div z 1 (by omega) (by simp; omega)
    simpa using this

set_option maxHeartbeats 2000000 in
theorem l1Bits_any (ng : Bool) (a : Option Addr) (cap : Nat) (zs : List Int) (w : World) (hs : Sl .u32 w (.slice a zs.length cap) zs) (hz : Nm.Dg zs) (hl : zs.length ≤ 1048576) :
    Calls Tryd.prog 134 #[.agg #[.bool ng, .slice a zs.length cap]] w fun e w' => e = .returned (.int .i64 (blL zs)) ∧ Below w.heap.size w w' := by
  by_cases h0 : zs.length = 0
  · have HR : Hid (blL zs = 0) := hid (by unfold blL; rw [if_pos h0])
    have hb0 : ((zs.length : Int) == 0) = true := by rw [beq_iff_eq]; omega
    clear h0
    go_enter Tryd.func134, Tryd.ntmps134
    go_wp2
    go_ret
    exact ⟨ret_int HR.out.symm, (by repeat (first | exact Below.refl _ _ | refine Below.drew ?_ | refine bel_dn ?_ _ | refine bel_al ?_ _ | refine Below.setCell ?_ (by first | omega | (simp; done) | (simp; omega)) _ | refine Below.alloc ?_ (by first | omega | (simp; done) | (simp; omega)) _))⟩
  · have hb0 : ((zs.length : Int) == 0) = false := by rw [beq_eq_false_iff_ne]; omega
    obtain ⟨z, hzk⟩ : ∃ z, z = zs.getD (zs.length - 1) 0 := ⟨_, rfl⟩
    have HR : Hid (blL zs = 32 * ((zs.length : Int) - 1) + bitLen z.toNat) := hid (by unfold blL; rw [if_neg h0, hzk])
    have hd := hz.getD (zs.length - 1)
    have hb32 := bitLen_le32 z (by rw [hzk]; exact hd.1) (by rw [hzk]; exact hd.2)
    rw [← hzk] at hd
    obtain ⟨hd0, hd1⟩ := hd
    have hs' := hs.alloc (.cells #[.bool ng, .slice a zs.length cap] 31)
    obtain ⟨-, _, _, hc3⟩ := hs.cells
    obtain ⟨b, off, rfl, hcell⟩ := hc3 (by omega)
    have hc := hcell (zs.length - 1) (by omega)
    have hlt := World.block_lt_of_cell? w _ hc
    rw [← hzk] at hc
    have HB := hid hb32
    clear hzk hcell hc3 hs' hb32
    go_enter Tryd.func134, Tryd.ntmps134
    go_wp2_with fail
    go_loop [4, 5] (fun k x => ∃ kk q : Int, k = .int .i64 kk ∧ x = .int .u32 q ∧ 0 ≤ q ∧ q < 4294967296 ∧ 0 ≤ kk ∧ kk + bitLen q.toNat = 32 * ((zs.length : Int) - 1) + bitLen z.toNat) (fun _ x => (intOf x).toNat)
    case atStart => exact ⟨_, z, rfl, rfl, hd0, hd1, by omega, rfl⟩
    case round =>
      obtain ⟨kk, q, rfl, rfl, hq0, hq1, hk0, hrel⟩ := hrel
      have hkb : kk ≤ 33554464 := by have := HB.out; omega
      have REL := hid hrel
      clear hrel
      by_cases hq : 0 < q
      · have HH := hid (bl_half q hq)
        go_wp2
        go_round
        case rel => exact ⟨kk + 1, q / 2, rfl, rfl, by omega, by omega, by omega, by have := REL.out; have h2 := HH.out; omega⟩
        case measure => simp [intOf]; omega
      · have hq' : q = 0 := by omega
        have HF : Hid (blL zs = kk) := hid (by rw [HR.out]; have h := REL.out; rw [hq', show bitLen (0 : Int).toNat = 0 by decide] at h; omega)
        clear hq'
        go_wp2
        go_ret
        exact ⟨ret_int HF.out.symm, (by repeat (first | exact Below.refl _ _ | refine Below.drew ?_ | refine bel_dn ?_ _ | refine bel_al ?_ _ | refine Below.setCell ?_ (by first | omega | (simp; done) | (simp; omega)) _ | refine Below.alloc ?_ (by first | omega | (simp; done) | (simp; omega)) _))⟩

end Go.Proofs.YtojcaoccjapdoaaDoor
/-
  Wides as numbers of 64 bits, by the program and by the specification.
-/
namespace Go.Proofs.YtojcaoccjapdoaaDoor
set_option linter.unusedVariables false
set_option linter.unusedSimpArgs false
open Go.RowKit Go.Deep
theorem nor_shift (n m : Nat) (hn : n < 2 ^ 32) : n ||| (m * 2 ^ 32) = n + m * 2 ^ 32 := by
  rw [Nat.or_comm, nat_join 32 (m * 2 ^ 32) n (Nat.mul_mod_left m (2 ^ 32)) hn, Nat.add_comm]
theorem or_shift (x y : Int) (hx : 0 ≤ x) (hx1 : x < 4294967296) (hy : 0 ≤ y) (hy1 : y < 4294967296) : bits .or .u64 x (y * 4294967296) = x + y * 4294967296 := by
  obtain ⟨n, rfl⟩ := Int.eq_ofNat_of_zero_le hx
  obtain ⟨m, rfl⟩ := Int.eq_ofNat_of_zero_le hy
  have h := u64_or_nat n (m * 2 ^ 32) (by omega) (by omega)
  rw [nor_shift n m (by omega)] at h
  have e : ((m * 2 ^ 32 : Nat) : Int) = (m : Int) * 4294967296 := by omega
  have e2 : ((n + m * 2 ^ 32 : Nat) : Int) = (n : Int) + (m : Int) * 4294967296 := by omega
  exact (congrArg (bits .or .u64 (n : Int)) e).symm.trans (h.trans e2)
theorem or_zero (x : Int) (hx : 0 ≤ x) (hx1 : x < 18446744073709551616) : bits .or .u64 0 x = x := by
  obtain ⟨n, rfl⟩ := Int.eq_ofNat_of_zero_le hx
  have h := u64_or_nat 0 n (by omega) (by omega)
  rw [Nat.zero_or] at h
  exact h

theorem negv (v : Int) (h0 : 0 ≤ v) (h1 : v ≤ 9223372036854775808) : wrap64 (IntKind.u64.wrap (-v)) = -v := by
  rw [IntKind.wrap_u64]; unfold wrap64; omega
/-- The number that a wide of limbs worth v is, and whether it is one of 64 bits. -/
def smI (ng : Bool) (v : Int) : Int := if ng then (if v ≤ 9223372036854775808 then -v else 0) else (if v < 9223372036854775808 then v else 0)
def smB (ng : Bool) (v : Int) : Bool := if ng then decide (v ≤ 9223372036854775808) else decide (v < 9223372036854775808)
/-- .. and of any wide. -/
def smWI (ng : Bool) (zs : List Int) : Int := if okB ng zs && decide (zs.length ≤ 2) then smI ng (zs.getD 0 0 + zs.getD 1 0 * 4294967296) else 0
def smWB (ng : Bool) (zs : List Int) : Bool := if okB ng zs && decide (zs.length ≤ 2) then smB ng (zs.getD 0 0 + zs.getD 1 0 * 4294967296) else false
theorem sm_yes {ng : Bool} {zs : List Int} (h : okB ng zs = true) (k : zs.length ≤ 2) : smWI ng zs = smI ng (zs.getD 0 0 + zs.getD 1 0 * 4294967296) ∧ smWB ng zs = smB ng (zs.getD 0 0 + zs.getD 1 0 * 4294967296) := by
  unfold smWI smWB; rw [h]; simp [k]
theorem sm_no1 {ng : Bool} {zs : List Int} (h : okB ng zs = false) : smWI ng zs = 0 ∧ smWB ng zs = false := by unfold smWI smWB; rw [h]; simp
theorem sm_no2 {ng : Bool} {zs : List Int} (k : ¬ zs.length ≤ 2) : smWI ng zs = 0 ∧ smWB ng zs = false := by unfold smWI smWB; simp [k]
theorem ret_small {a a' : Int} {b b' : Bool} (h : a = a') (k : b = b') : Ending.returned (.tuple #[.int .i64 a, .bool b]) = .returned (.tuple #[.int .i64 a', .bool b']) := by rw [h, k]
set_option maxHeartbeats 2000000 in
theorem low0 (ng : Bool) (a : Option Addr) (cap : Nat) (w : World) (hs : Sl .u32 w (.slice a 0 cap) []) :
    Calls Tryd.prog 138 #[.agg #[.bool ng, .slice a 0 cap]] w fun e w' => e = .returned (.int .u64 0) ∧ Below w.heap.size w w' := by
  go_enter Tryd.func138, Tryd.ntmps138
  go_wp2_with fail
  refine wp_loop_rounds 1 ?_
  rw [rounds_succ]
  go_wp2
  go_ret
  exact ⟨rfl, (by repeat (first | exact Below.refl _ _ | refine Below.drew ?_ | refine bel_dn ?_ _ | refine bel_al ?_ _ | refine Below.setCell ?_ (by first | omega | (simp; done) | (simp; omega)) _ | refine Below.alloc ?_ (by first | omega | (simp; done) | (simp; omega)) _))⟩
set_option maxHeartbeats 2000000 in
theorem low1 (ng : Bool) (b off : Nat) (x : Int) (cap : Nat) (w : World) (hs : Sl .u32 w (.slice (some ⟨b, off, none⟩) 1 cap) [x]) (hx0 : 0 ≤ x) (hx1 : x < 4294967296) :
    Calls Tryd.prog 138 #[.agg #[.bool ng, .slice (some ⟨b, off, none⟩) 1 cap]] w fun e w' => e = .returned (.int .u64 x) ∧ Below w.heap.size w w' := by
  have e1 := or_zero x hx0 (by omega)
  obtain ⟨-, _, _, hc3⟩ := hs.cells
  obtain ⟨b', off', hbo, hcell⟩ := hc3 (by simp)
  simp at hbo
  obtain ⟨rfl, rfl⟩ := hbo
  have c0 : w.cell? ⟨b, off, none⟩ = some (.int .u32 x) := by simpa using hcell 0 (by simp)
  have hlt := World.block_lt_of_cell? w _ c0
  clear hcell hc3
  go_enter Tryd.func138, Tryd.ntmps138
  go_wp2_with fail
  refine wp_loop_rounds 2 ?_
  rw [rounds_succ]
  go_wp2
  rw [rounds_succ]
  go_wp2
  go_ret
  exact ⟨rfl, (by repeat (first | exact Below.refl _ _ | refine Below.drew ?_ | refine bel_dn ?_ _ | refine bel_al ?_ _ | refine Below.setCell ?_ (by first | omega | (simp; done) | (simp; omega)) _ | refine Below.alloc ?_ (by first | omega | (simp; done) | (simp; omega)) _))⟩
set_option maxHeartbeats 2000000 in
theorem low2 (ng : Bool) (b off : Nat) (x y : Int) (cap : Nat) (w : World) (hs : Sl .u32 w (.slice (some ⟨b, off, none⟩) 2 cap) [x, y]) (hx0 : 0 ≤ x) (hx1 : x < 4294967296) (hy0 : 0 ≤ y) (hy1 : y < 4294967296) :
    Calls Tryd.prog 138 #[.agg #[.bool ng, .slice (some ⟨b, off, none⟩) 2 cap]] w fun e w' => e = .returned (.int .u64 (x + y * 4294967296)) ∧ Below w.heap.size w w' := by
  have e1 := or_zero x hx0 (by omega)
  have e2 := or_shift x y hx0 hx1 hy0 hy1
  obtain ⟨-, _, _, hc3⟩ := hs.cells
  obtain ⟨b', off', hbo, hcell⟩ := hc3 (by simp)
  simp at hbo
  obtain ⟨rfl, rfl⟩ := hbo
  have c0 : w.cell? ⟨b, off, none⟩ = some (.int .u32 x) := by simpa using hcell 0 (by simp)
  have hlt := World.block_lt_of_cell? w _ c0
  have c1 : w.cell? ⟨b, off + 1, none⟩ = some (.int .u32 y) := by simpa using hcell 1 (by simp)
  clear hcell hc3
  go_enter Tryd.func138, Tryd.ntmps138
  go_wp2_with fail
  refine wp_loop_rounds 3 ?_
  rw [rounds_succ]
  go_wp2
  rw [rounds_succ]
  go_wp2
  rw [rounds_succ]
  go_wp2
  go_ret
  exact ⟨rfl, (by repeat (first | exact Below.refl _ _ | refine Below.drew ?_ | refine bel_dn ?_ _ | refine bel_al ?_ _ | refine Below.setCell ?_ (by first | omega | (simp; done) | (simp; omega)) _ | refine Below.alloc ?_ (by first | omega | (simp; done) | (simp; omega)) _))⟩
set_option maxHeartbeats 4000000 in
theorem smi0 (ng : Bool) (a : Option Addr) (cap : Nat) (w : World) (hs : Sl .u32 w (.slice a 0 cap) []) (hk : okB ng [] = true) :
    Calls Tryd.prog 164 #[.agg #[.bool ng, .slice a 0 cap]] w fun e w' => e = .returned (.tuple #[.int .i64 (smI ng 0), .bool (smB ng 0)]) ∧ Below w.heap.size w w' := by
  cases ng
  rotate_left
  · simp [okB] at hk
  have HA : Hid ((0 : Int) = smI false 0) := hid (by decide)
  have HB : Hid (true = smB false 0) := hid (by decide)
  go_enter Tryd.func164, Tryd.ntmps164
  go_wp2_with fail
  refine (ok_impl false _ cap [] _ (hs.alloc _) (by simp)).mono ?_
  rintro e w1 ⟨rfl, hb1⟩
  obtain ⟨x10, x11⟩ := (Box.new w (.bool false) (.slice a 0 cap) 31).below hb1
  have s1 := (hs.alloc _).below hb1
  go_wp2_with fail
  refine wp_loop_rounds 1 ?_
  rw [rounds_succ]
  go_wp2
  go_ret2
  exact ⟨ret_small HA.out HB.out, (by repeat (first | exact Below.refl _ _ | refine Below.drew ?_ | refine bel_dn ?_ _ | refine bel_al ?_ _ | refine bel_go ?_ hb1 | refine Below.setCell ?_ (by first | omega | (simp; done) | (simp; omega)) _ | refine Below.alloc ?_ (by first | omega | (simp; done) | (simp; omega)) _ | refine Below.trans ?_ (Below.mono hb1 (by first | omega | (simp; done) | (simp; omega)))))⟩
set_option maxHeartbeats 4000000 in
theorem smi1 (ng : Bool) (b off : Nat) (x : Int) (cap : Nat) (w : World) (hs : Sl .u32 w (.slice (some ⟨b, off, none⟩) 1 cap) [x]) (hk : okB ng [x] = true) (hx0 : 0 ≤ x) (hx1 : x < 4294967296) :
    Calls Tryd.prog 164 #[.agg #[.bool ng, .slice (some ⟨b, off, none⟩) 1 cap]] w fun e w' => e = .returned (.tuple #[.int .i64 (smI ng x), .bool (smB ng x)]) ∧ Below w.heap.size w w' := by
  have e1 := or_zero x hx0 (by omega)
  cases ng
  · by_cases hv : x < 9223372036854775808
    · have HA : Hid (x = smI false x) := hid (by unfold smI; rw [if_neg (by decide), if_pos hv])
      have HB : Hid (true = smB false x) := hid (by unfold smB; rw [if_neg (by decide)]; simpa using hv)
      go_enter Tryd.func164, Tryd.ntmps164
      go_wp2_with fail
      refine (ok_impl false _ cap [x] _ (hs.alloc _) (by simp)).mono ?_
      rintro e w1 ⟨rfl, hb1⟩
      obtain ⟨x10, x11⟩ := (Box.new w (.bool false) (.slice (some ⟨b, off, none⟩) 1 cap) 31).below hb1
      have s1 := (hs.alloc _).below hb1
      obtain ⟨-, _, _, hc3⟩ := s1.cells
      obtain ⟨b', off', hbo, hcell⟩ := hc3 (by simp)
      simp at hbo
      obtain ⟨rfl, rfl⟩ := hbo
      have c0 : w1.cell? ⟨b, off, none⟩ = some (.int .u32 x) := by simpa using hcell 0 (by simp)
      clear hcell hc3
      go_wp2_with fail
      refine wp_loop_rounds 2 ?_
      rw [rounds_succ]
      go_wp2
      rw [rounds_succ]
      go_wp2
      go_ret2
      exact ⟨ret_small HA.out HB.out, (by repeat (first | exact Below.refl _ _ | refine Below.drew ?_ | refine bel_dn ?_ _ | refine bel_al ?_ _ | refine bel_go ?_ hb1 | refine Below.setCell ?_ (by first | omega | (simp; done) | (simp; omega)) _ | refine Below.alloc ?_ (by first | omega | (simp; done) | (simp; omega)) _ | refine Below.trans ?_ (Below.mono hb1 (by first | omega | (simp; done) | (simp; omega)))))⟩
    · omega
  · by_cases hv : x ≤ 9223372036854775808
    · have HA : Hid (wrap64 (IntKind.u64.wrap (-x)) = smI true x) := hid (by rw [negv _ (by omega) hv]; unfold smI; rw [if_pos rfl, if_pos hv])
      have HB : Hid (true = smB true x) := hid (by unfold smB; rw [if_pos rfl]; simpa using hv)
      go_enter Tryd.func164, Tryd.ntmps164
      go_wp2_with fail
      refine (ok_impl true _ cap [x] _ (hs.alloc _) (by simp)).mono ?_
      rintro e w1 ⟨rfl, hb1⟩
      obtain ⟨x10, x11⟩ := (Box.new w (.bool true) (.slice (some ⟨b, off, none⟩) 1 cap) 31).below hb1
      have s1 := (hs.alloc _).below hb1
      obtain ⟨-, _, _, hc3⟩ := s1.cells
      obtain ⟨b', off', hbo, hcell⟩ := hc3 (by simp)
      simp at hbo
      obtain ⟨rfl, rfl⟩ := hbo
      have c0 : w1.cell? ⟨b, off, none⟩ = some (.int .u32 x) := by simpa using hcell 0 (by simp)
      clear hcell hc3
      go_wp2_with fail
      refine wp_loop_rounds 2 ?_
      rw [rounds_succ]
      go_wp2
      rw [rounds_succ]
      go_wp2
      go_ret2
      exact ⟨ret_small HA.out HB.out, (by repeat (first | exact Below.refl _ _ | refine Below.drew ?_ | refine bel_dn ?_ _ | refine bel_al ?_ _ | refine bel_go ?_ hb1 | refine Below.setCell ?_ (by first | omega | (simp; done) | (simp; omega)) _ | refine Below.alloc ?_ (by first | omega | (simp; done) | (simp; omega)) _ | refine Below.trans ?_ (Below.mono hb1 (by first | omega | (simp; done) | (simp; omega)))))⟩
    · omega
set_option maxHeartbeats 4000000 in
theorem smi2 (ng : Bool) (b off : Nat) (x y : Int) (cap : Nat) (w : World) (hs : Sl .u32 w (.slice (some ⟨b, off, none⟩) 2 cap) [x, y]) (hk : okB ng [x, y] = true) (hx0 : 0 ≤ x) (hx1 : x < 4294967296) (hy0 : 0 ≤ y) (hy1 : y < 4294967296) :
    Calls Tryd.prog 164 #[.agg #[.bool ng, .slice (some ⟨b, off, none⟩) 2 cap]] w fun e w' => e = .returned (.tuple #[.int .i64 (smI ng (x + y * 4294967296)), .bool (smB ng (x + y * 4294967296))]) ∧ Below w.heap.size w w' := by
  have e1 := or_zero x hx0 (by omega)
  have e2 := or_shift x y hx0 hx1 hy0 hy1
  cases ng
  · by_cases hv : (x + y * 4294967296) < 9223372036854775808
    · have HA : Hid ((x + y * 4294967296) = smI false (x + y * 4294967296)) := hid (by unfold smI; rw [if_neg (by decide), if_pos hv])
      have HB : Hid (true = smB false (x + y * 4294967296)) := hid (by unfold smB; rw [if_neg (by decide)]; simpa using hv)
      go_enter Tryd.func164, Tryd.ntmps164
      go_wp2_with fail
      refine (ok_impl false _ cap [x, y] _ (hs.alloc _) (by simp)).mono ?_
      rintro e w1 ⟨rfl, hb1⟩
      obtain ⟨x10, x11⟩ := (Box.new w (.bool false) (.slice (some ⟨b, off, none⟩) 2 cap) 31).below hb1
      have s1 := (hs.alloc _).below hb1
      obtain ⟨-, _, _, hc3⟩ := s1.cells
      obtain ⟨b', off', hbo, hcell⟩ := hc3 (by simp)
      simp at hbo
      obtain ⟨rfl, rfl⟩ := hbo
      have c0 : w1.cell? ⟨b, off, none⟩ = some (.int .u32 x) := by simpa using hcell 0 (by simp)
      have c1 : w1.cell? ⟨b, off + 1, none⟩ = some (.int .u32 y) := by simpa using hcell 1 (by simp)
      clear hcell hc3
      go_wp2_with fail
      refine wp_loop_rounds 3 ?_
      rw [rounds_succ]
      go_wp2
      rw [rounds_succ]
      go_wp2
      rw [rounds_succ]
      go_wp2
      go_ret2
      exact ⟨ret_small HA.out HB.out, (by repeat (first | exact Below.refl _ _ | refine Below.drew ?_ | refine bel_dn ?_ _ | refine bel_al ?_ _ | refine bel_go ?_ hb1 | refine Below.setCell ?_ (by first | omega | (simp; done) | (simp; omega)) _ | refine Below.alloc ?_ (by first | omega | (simp; done) | (simp; omega)) _ | refine Below.trans ?_ (Below.mono hb1 (by first | omega | (simp; done) | (simp; omega)))))⟩
    · have HA : Hid ((0 : Int) = smI false (x + y * 4294967296)) := hid (by unfold smI; rw [if_neg (by decide), if_neg hv])
      have HB : Hid (false = smB false (x + y * 4294967296)) := hid (by unfold smB; rw [if_neg (by decide)]; simpa using hv)
      go_enter Tryd.func164, Tryd.ntmps164
      go_wp2_with fail
      refine (ok_impl false _ cap [x, y] _ (hs.alloc _) (by simp)).mono ?_
      rintro e w1 ⟨rfl, hb1⟩
      obtain ⟨x10, x11⟩ := (Box.new w (.bool false) (.slice (some ⟨b, off, none⟩) 2 cap) 31).below hb1
      have s1 := (hs.alloc _).below hb1
      obtain ⟨-, _, _, hc3⟩ := s1.cells
      obtain ⟨b', off', hbo, hcell⟩ := hc3 (by simp)
      simp at hbo
      obtain ⟨rfl, rfl⟩ := hbo
      have c0 : w1.cell? ⟨b, off, none⟩ = some (.int .u32 x) := by simpa using hcell 0 (by simp)
      have c1 : w1.cell? ⟨b, off + 1, none⟩ = some (.int .u32 y) := by simpa using hcell 1 (by simp)
      clear hcell hc3
      go_wp2_with fail
      refine wp_loop_rounds 3 ?_
      rw [rounds_succ]
      go_wp2
      rw [rounds_succ]
      go_wp2
      rw [rounds_succ]
      go_wp2
      go_ret2
      exact ⟨ret_small HA.out HB.out, (by repeat (first | exact Below.refl _ _ | refine Below.drew ?_ | refine bel_dn ?_ _ | refine bel_al ?_ _ | refine bel_go ?_ hb1 | refine Below.setCell ?_ (by first | omega | (simp; done) | (simp; omega)) _ | refine Below.alloc ?_ (by first | omega | (simp; done) | (simp; omega)) _ | refine Below.trans ?_ (Below.mono hb1 (by first | omega | (simp; done) | (simp; omega)))))⟩
  · by_cases hv : (x + y * 4294967296) ≤ 9223372036854775808
    · have HA : Hid (wrap64 (IntKind.u64.wrap (-(x + y * 4294967296))) = smI true (x + y * 4294967296)) := hid (by rw [negv _ (by omega) hv]; unfold smI; rw [if_pos rfl, if_pos hv])
      have HB : Hid (true = smB true (x + y * 4294967296)) := hid (by unfold smB; rw [if_pos rfl]; simpa using hv)
      go_enter Tryd.func164, Tryd.ntmps164
      go_wp2_with fail
      refine (ok_impl true _ cap [x, y] _ (hs.alloc _) (by simp)).mono ?_
      rintro e w1 ⟨rfl, hb1⟩
      obtain ⟨x10, x11⟩ := (Box.new w (.bool true) (.slice (some ⟨b, off, none⟩) 2 cap) 31).below hb1
      have s1 := (hs.alloc _).below hb1
      obtain ⟨-, _, _, hc3⟩ := s1.cells
      obtain ⟨b', off', hbo, hcell⟩ := hc3 (by simp)
      simp at hbo
      obtain ⟨rfl, rfl⟩ := hbo
      have c0 : w1.cell? ⟨b, off, none⟩ = some (.int .u32 x) := by simpa using hcell 0 (by simp)
      have c1 : w1.cell? ⟨b, off + 1, none⟩ = some (.int .u32 y) := by simpa using hcell 1 (by simp)
      clear hcell hc3
      go_wp2_with fail
      refine wp_loop_rounds 3 ?_
      rw [rounds_succ]
      go_wp2
      rw [rounds_succ]
      go_wp2
      rw [rounds_succ]
      go_wp2
      go_ret2
      exact ⟨ret_small HA.out HB.out, (by repeat (first | exact Below.refl _ _ | refine Below.drew ?_ | refine bel_dn ?_ _ | refine bel_al ?_ _ | refine bel_go ?_ hb1 | refine Below.setCell ?_ (by first | omega | (simp; done) | (simp; omega)) _ | refine Below.alloc ?_ (by first | omega | (simp; done) | (simp; omega)) _ | refine Below.trans ?_ (Below.mono hb1 (by first | omega | (simp; done) | (simp; omega)))))⟩
    · have HA : Hid ((0 : Int) = smI true (x + y * 4294967296)) := hid (by unfold smI; rw [if_pos rfl, if_neg hv])
      have HB : Hid (false = smB true (x + y * 4294967296)) := hid (by unfold smB; rw [if_pos rfl]; simpa using hv)
      go_enter Tryd.func164, Tryd.ntmps164
      go_wp2_with fail
      refine (ok_impl true _ cap [x, y] _ (hs.alloc _) (by simp)).mono ?_
      rintro e w1 ⟨rfl, hb1⟩
      obtain ⟨x10, x11⟩ := (Box.new w (.bool true) (.slice (some ⟨b, off, none⟩) 2 cap) 31).below hb1
      have s1 := (hs.alloc _).below hb1
      obtain ⟨-, _, _, hc3⟩ := s1.cells
      obtain ⟨b', off', hbo, hcell⟩ := hc3 (by simp)
      simp at hbo
      obtain ⟨rfl, rfl⟩ := hbo
      have c0 : w1.cell? ⟨b, off, none⟩ = some (.int .u32 x) := by simpa using hcell 0 (by simp)
      have c1 : w1.cell? ⟨b, off + 1, none⟩ = some (.int .u32 y) := by simpa using hcell 1 (by simp)
      clear hcell hc3
      go_wp2_with fail
      refine wp_loop_rounds 3 ?_
      rw [rounds_succ]
      go_wp2
      rw [rounds_succ]
      go_wp2
      rw [rounds_succ]
      go_wp2
      go_ret2
      exact ⟨ret_small HA.out HB.out, (by repeat (first | exact Below.refl _ _ | refine Below.drew ?_ | refine bel_dn ?_ _ | refine bel_al ?_ _ | refine bel_go ?_ hb1 | refine Below.setCell ?_ (by first | omega | (simp; done) | (simp; omega)) _ | refine Below.alloc ?_ (by first | omega | (simp; done) | (simp; omega)) _ | refine Below.trans ?_ (Below.mono hb1 (by first | omega | (simp; done) | (simp; omega)))))⟩
set_option maxHeartbeats 2000000 in
theorem smi_any (ng : Bool) (a : Option Addr) (cap : Nat) (zs : List Int) (w : World) (hs : Sl .u32 w (.slice a zs.length cap) zs) (hz : Nm.Dg zs) (hl : zs.length ≤ 1048576) :
    Calls Tryd.prog 164 #[.agg #[.bool ng, .slice a zs.length cap]] w fun e w' => e = .returned (.tuple #[.int .i64 (smWI ng zs), .bool (smWB ng zs)]) ∧ Below w.heap.size w w' := by
  have hl' : zs.length ≤ 140737488355328 := by omega
  cases h1 : okB ng zs
  · have HR := hid (sm_no1 h1)
    go_enter Tryd.func164, Tryd.ntmps164
    go_wp2_with fail
    refine (ok_impl ng a cap zs _ (hs.alloc _) hl').mono ?_
    rintro e w1 ⟨rfl, hb1⟩
    go_wp2
    go_ret2
    exact ⟨ret_small HR.out.1.symm HR.out.2.symm, (by repeat (first | exact Below.refl _ _ | refine Below.drew ?_ | refine bel_dn ?_ _ | refine bel_al ?_ _ | refine bel_go ?_ hb1 | refine Below.setCell ?_ (by first | omega | (simp; done) | (simp; omega)) _ | refine Below.alloc ?_ (by first | omega | (simp; done) | (simp; omega)) _ | refine Below.trans ?_ (Below.mono hb1 (by first | omega | (simp; done) | (simp; omega)))))⟩
  by_cases h2 : zs.length ≤ 2
  · rw [(sm_yes h1 h2).1, (sm_yes h1 h2).2]
    match zs, hs, hz, h1, h2 with
    | [], hs, hz, h1, _ => exact smi0 ng a cap w hs h1
    | [x], hs, hz, h1, _ =>
      obtain ⟨-, _, _, hc3⟩ := hs.cells
      obtain ⟨b, off, rfl, _⟩ := hc3 (by simp)
      have hx := hz.head
      have := smi1 ng b off x cap w hs h1 hx.1 hx.2
      simpa using this
    | [x, y], hs, hz, h1, _ =>
      obtain ⟨-, _, _, hc3⟩ := hs.cells
      obtain ⟨b, off, rfl, _⟩ := hc3 (by simp)
      have hx := hz.head
      have hy := hz.tail.head
      exact smi2 ng b off x y cap w hs h1 hx.1 hx.2 hy.1 hy.2
    | _ :: _ :: _ :: _, _, _, _, h2 => simp at h2
  · have HR := hid (sm_no2 (ng := ng) h2)
    have hgt : (2 : Int) < (zs.length : Int) := by omega
    clear h2
    go_enter Tryd.func164, Tryd.ntmps164
    go_wp2_with fail
    refine (ok_impl ng a cap zs _ (hs.alloc _) hl').mono ?_
    rintro e w1 ⟨rfl, hb1⟩
    obtain ⟨x10, x11⟩ := (Box.new w (.bool ng) (.slice a zs.length cap) 31).below hb1
    go_wp2
    go_ret2
    exact ⟨ret_small HR.out.1.symm HR.out.2.symm, (by repeat (first | exact Below.refl _ _ | refine Below.drew ?_ | refine bel_dn ?_ _ | refine bel_al ?_ _ | refine bel_go ?_ hb1 | refine Below.setCell ?_ (by first | omega | (simp; done) | (simp; omega)) _ | refine Below.alloc ?_ (by first | omega | (simp; done) | (simp; omega)) _ | refine Below.trans ?_ (Below.mono hb1 (by first | omega | (simp; done) | (simp; omega)))))⟩
end Go.Proofs.YtojcaoccjapdoaaDoor
