/-
  What is needed of FloatG, FloatH, FloatJ, FloatN, IA, WideM, ShiftE, RA, IC, RD, RF, AccM, AccF.
-/
import Derived.Lib.TrailingZeros
import Derived.WideLaws
import Derived.Test.YtmnfidkpnogfmaaK10
import Derived.Test.YtmnfidkpnogfmaaK18
import Derived.Test.YtmnfidkpnogfmaaK22
import Derived.Test.YtmnfidkpnogfmaaK23
set_option maxHeartbeats 16000000
set_option maxRecDepth 1000000
namespace Go.Proofs.Ytmnfidkpnogfmaa
set_option linter.unusedVariables false
set_option linter.unusedSimpArgs false
open Go.RowKit
/-- The sign's place. -/
def sgOf (fm : Int) : Int := if fm = 32 then 2147483648 else 9223372036854775808
def absF (fm x : Int) : Int := if okF fm x then x % sgOf fm else 0
/-- Whether it has the sign. -/
def sigB (fm x : Int) : Bool := x != absF fm x
/-- Its place in the order. -/
def ordI (fm x : Int) : Int := if okF fm x then (if sigB fm x then -1 - absF fm x else absF fm x) else 0
def numB (fm x : Int) : Bool := decide (0 ≤ cls fm x ∧ cls fm x ≤ 3)


/-- How two floats compare. -/
def cmpF (fm a b : Int) : Int := if numB fm a && numB fm b then (if cls fm a == 0 && cls fm b == 0 then 0 else cmpI (ordI fm a) (ordI fm b)) else 2
/-- A box of three cells that may be written. -/
structure R3 (w : World) (b : Nat) (v0 v1 v2 : Value) : Prop where
  c0 : w.cell? ⟨b, 0, none⟩ = some v0
  c1 : w.cell? ⟨b, 1, none⟩ = some v1
  c2 : w.cell? ⟨b, 2, none⟩ = some v2
  f0 : w.frozen? ⟨b, 0, none⟩ = false
  f1 : w.frozen? ⟨b, 1, none⟩ = false
  f2 : w.frozen? ⟨b, 2, none⟩ = false
theorem R3.below {w w' : World} {b : Nat} {v0 v1 v2 : Value} (h : R3 w b v0 v1 v2) (hb : Below w.heap.size w w') : R3 w' b v0 v1 v2 := by
  have hlt := World.block_lt_of_cell? w _ h.c0
  exact ⟨(hb.cell (p := ⟨b, 0, none⟩) hlt).trans h.c0, (hb.cell (p := ⟨b, 1, none⟩) hlt).trans h.c1, (hb.cell (p := ⟨b, 2, none⟩) hlt).trans h.c2,
    (hb.frozen (p := ⟨b, 0, none⟩) hlt).trans h.f0, (hb.frozen (p := ⟨b, 1, none⟩) hlt).trans h.f1, (hb.frozen (p := ⟨b, 2, none⟩) hlt).trans h.f2⟩
theorem R3.new (w : World) (v0 v1 v2 : Value) (t : TypeId) : R3 (w.alloc (.cells #[v0, v1, v2] t)) w.heap.size v0 v1 v2 := ⟨by simp, by simp, by simp, by simp, by simp, by simp⟩
theorem R3.other {w : World} {b : Nat} {v0 v1 v2 : Value} (h : R3 w b v0 v1 v2) {p : Addr} (hp : b ≠ p.block) (u : Value) : R3 (w.setCell p u) b v0 v1 v2 := by
  have e := Below.heap_setCell w p u b hp
  exact ⟨(World.cell?_of_block (a := ⟨b, 0, none⟩) e).trans h.c0, (World.cell?_of_block (a := ⟨b, 1, none⟩) e).trans h.c1, (World.cell?_of_block (a := ⟨b, 2, none⟩) e).trans h.c2,
    (World.frozen?_of_block (a := ⟨b, 0, none⟩) e).trans h.f0, (World.frozen?_of_block (a := ⟨b, 1, none⟩) e).trans h.f1, (World.frozen?_of_block (a := ⟨b, 2, none⟩) e).trans h.f2⟩
theorem R3.set {w : World} {b : Nat} {v0 v1 v2 : Value} (h : R3 w b v0 v1 v2) (a0 a1 a2 : Value) : R3 (((w.setCell ⟨b, 0, none⟩ a0).setCell ⟨b, 1, none⟩ a1).setCell ⟨b, 2, none⟩ a2) b a0 a1 a2 := by
  obtain ⟨h0, h1, h2, f0, f1, f2⟩ := h
  exact ⟨by simp [go_sem, h0, h1, h2], by simp [go_sem, h0, h1, h2], by simp [go_sem, h0, h1, h2], by simp [go_sem, f0, f1, f2], by simp [go_sem, f0, f1, f2], by simp [go_sem, f0, f1, f2]⟩
end Go.Proofs.Ytmnfidkpnogfmaa
namespace Go.Proofs.Ytmnfidkpnogfmaa
set_option linter.unusedVariables false
set_option linter.unusedSimpArgs false
open Go.RowKit Go.Deep
/-- A table of bytes in the block g. -/
def Tb (w : World) (g : Nat) (zs : List Nat) : Prop := ∀ i, i < zs.length → w.cell? ⟨g, i, none⟩ = some (.int .u8 ((zs.getD i 0 : Nat) : Int))
theorem Tb.below {w w' : World} {g : Nat} {zs : List Nat} (h : Tb w g zs) (hp : 0 < zs.length) (hb : Below w.heap.size w w') : Tb w' g zs := fun i hi =>
  (hb.cell (p := ⟨g, i, none⟩) (World.block_lt_of_cell? w ⟨g, i, none⟩ (h i hi))).trans (h i hi)
theorem wl_len64 {n : Int} (h0 : -9223372036854775808 ≤ n) (h1 : n ≤ 9223372036854775807) : (Nm.wl n).length ≤ 200 := by
  have := fits_small (x := n) (by omega) (by omega)
  simpa [Nm.fits] using this
theorem keep2 {w w' : World} {b : Nat} {v0 v1 : Value} (h0 : w.cell? ⟨b, 0, none⟩ = some v0) (h1 : w.cell? ⟨b, 1, none⟩ = some v1) (hb : Below w.heap.size w w') : w'.cell? ⟨b, 0, none⟩ = some v0 ∧ w'.cell? ⟨b, 1, none⟩ = some v1 := Box.below ⟨h0, h1⟩ hb
theorem keep2_set {w : World} {b z : Nat} {v0 v1 : Value} (h0 : w.cell? ⟨b, 0, none⟩ = some v0) (h1 : w.cell? ⟨b, 1, none⟩ = some v1) (n1 : b ≠ z) (p q : Value) :
    ((w.setCell ⟨z, 0, none⟩ p).setCell ⟨z, 1, none⟩ q).cell? ⟨b, 0, none⟩ = some v0 ∧ ((w.setCell ⟨z, 0, none⟩ p).setCell ⟨z, 1, none⟩ q).cell? ⟨b, 1, none⟩ = some v1 :=
  ⟨(keep3_set h0 h1 h1 n1 n1 p q).1, (keep3_set h0 h1 h1 n1 n1 p q).2.1⟩
theorem wsh_impl_no (ng : Bool) (a : Option Addr) (cap : Nat) (xs : List Int) (n : Int) (w : World) (hx : Sl .u32 w (.slice a xs.length cap) xs) (hl : xs.length ≤ 1048576) (hk : (okB ng xs && inZ n (-10000) 10000) = false) :
    Calls Try.prog 54 #[.agg #[.bool ng, .slice a xs.length cap], .int .i64 n] w fun e w' => e = .returned (.tuple #[.agg #[.bool false, .slice none 0 0], .bool false]) ∧ Below w.heap.size w w' := by
  have sx := (hx.alloc (.cells #[.bool ng, .slice a xs.length cap] 65)).alloc (.cells #[.bool false, .slice none 0 0] 65)
  have Rz := R2.new2 w (.cells #[.bool ng, .slice a xs.length cap] 65) (.bool false) (.slice none 0 0) 65
  cases h1 : okB ng xs
  · clear hk
    go_enter Try.func54, Try.ntmps54
    go_wp2_with fail
    refine (ok_impl ng a cap xs _ sx (by omega)).mono ?_
    rintro e w1 ⟨rfl, hb1⟩
    obtain ⟨z0, z1, zf0, zf1⟩ := Rz.below hb1
    go_wp2
    exact bodyPost_ret (v := .tuple #[.agg #[.bool false, .slice none 0 0], .bool false]) (by simp [results, Try.results54, go_sem, z0, z1]) rfl ⟨rfl, (by repeat (first | exact bz0 _ _ | refine bz1 ?_ | refine bz2 ?_ _ | refine bz3 ?_ _ | refine bz4 ?_ hb1 | refine bz5 ?_ _ | refine bz6 ?_ _ | refine bz7 ?_ hb1))⟩
  · have h2 : inZ n (-10000) 10000 = false := by rw [h1] at hk; simpa using hk
    have h3 : n < -10000 ∨ (¬ n < -10000 ∧ 10000 < n) := by simp [inZ] at h2; omega
    clear hk h2
    rcases h3 with h3 | ⟨h3, h4⟩
    all_goals
      go_enter Try.func54, Try.ntmps54
      go_wp2_with fail
      refine (ok_impl ng a cap xs _ sx (by omega)).mono ?_
      rintro e w1 ⟨rfl, hb1⟩
      obtain ⟨z0, z1, zf0, zf1⟩ := Rz.below hb1
      go_wp2
      exact bodyPost_ret (v := .tuple #[.agg #[.bool false, .slice none 0 0], .bool false]) (by simp [results, Try.results54, go_sem, z0, z1]) rfl ⟨rfl, (by repeat (first | exact bz0 _ _ | refine bz1 ?_ | refine bz2 ?_ _ | refine bz3 ?_ _ | refine bz4 ?_ hb1 | refine bz5 ?_ _ | refine bz6 ?_ _ | refine bz7 ?_ hb1))⟩
theorem wsh_impl_up (ng : Bool) (a : Option Addr) (cap : Nat) (xs : List Int) (m : Int) (wh r : Nat) (w : World) (hx : Sl .u32 w (.slice a xs.length cap) xs) (dx : Nm.Dg xs) (h1 : okB ng xs = true) (h0 : 0 ≤ m) (h2 : m ≤ 10000) (hq : m / 32 = (wh : Int)) (hm : m % 32 = (r : Int)) (hw : wh ≤ 400000) (hr : r < 32) (x : Int) (hv : x = Nm.shV ng (Nm.val xs) (m)) :
    Calls Try.prog 54 #[.agg #[.bool ng, .slice a xs.length cap], .int .i64 (m)] w fun e w' => ∃ a' c', e = .returned (.tuple #[.agg #[.bool (Nm.outN x), .slice a' (Nm.outL x).length c'], .bool (Nm.fits x)]) ∧ Own w' w.heap.size a' c' (Nm.outL x) ∧ Below w.heap.size w w' := by
  have sx := (hx.alloc (.cells #[.bool ng, .slice a xs.length cap] 65)).alloc (.cells #[.bool false, .slice none 0 0] 65)
  have Rz := R2.new2 w (.cells #[.bool ng, .slice a xs.length cap] 65) (.bool false) (.slice none 0 0) 65
  have Bx := (Box.new w (.bool ng) (.slice a xs.length cap) 65).alloc (.cells #[.bool false, .slice none 0 0] 65)
  obtain ⟨nx, lx⟩ := okB_nz h1
  have HX : Hid (∀ os, Nm.val os = Nm.pw wh * ((2 : Int) ^ r * Nm.val xs) → x = Nm.wv ng os) := hid (fun os h => by rw [hv]; exact Nm.shV_wv (h.trans (Nm.shM_up h0 hq hm)))
  have kneg : IntKind.i64.wrap m = m := by rw [IntKind.wrap_i64]; omega
  have HQ := hid (And.intro hq hm)
  clear hv hq hm
  go_enter Try.func54, Try.ntmps54
  go_wp2_with fail
  refine (ok_impl ng a cap xs _ sx (by omega)).mono ?_
  rintro e W ⟨rfl, hb1⟩
  replace sx := sx.below hb1
  replace Rz := Rz.below hb1
  replace Bx := Bx.below hb1
  have lW : w.heap.size + 1 < W.heap.size := World.block_lt_of_cell? W _ Rz.c0
  go_wp2_with fail
  go_region_held3 (fun w' => w'.cell? ⟨w.heap.size, 0, none⟩ = some (.bool ng) ∧ w'.cell? ⟨w.heap.size, 1, none⟩ = some (.slice a xs.length cap)) (first | assumption | (refine keep2_set k3.1 k3.2 ?_ _ _ <;> omega) | exact ⟨Bx.1, Bx.2⟩)
    (first
      | (go_at_call 112; refine (up_any a cap xs m wh r _ (by exact sx.drew) dx (by omega) hw hr (by omega) (by omega) HQ.out.1 HQ.out.2).mono ?_; rintro e w2 ⟨a2, c2, os, rfl, ho2, dos, hvo, hlo, hb2⟩; have k2 := keep2 (w := W.drew) Bx.1 Bx.2 hb2; have Rz2 := Rz.drew.below hb2)
      | (go_at_call 101; refine (fitted_v ng a2 c2 os W.heap.size _ (by exact ho2) dos hlo x (HX.out os hvo)).mono ?_; rintro e w3 ⟨a3, c3, rfl, ho3, hb3⟩; have k3 := keep2 k2.1 k2.2 hb3; have Rz3 := Rz2.below hb3; obtain ⟨z0, z1, zf0, zf1⟩ := Rz3))
  have l2 : W.heap.size ≤ w2.heap.size := hb2.size
  have l3 : w2.heap.size ≤ w3.heap.size := hb3.size
  go_wp2
  refine bodyPost_ret (v := .tuple #[.agg #[.bool (Nm.outN x), .slice a3 (Nm.outL x).length c3], .bool (Nm.fits x)]) (by simp [results, Try.results54, go_sem, z0, z1]) rfl ⟨a3, c3, rfl, ?_, ?_⟩
  · exact Own.base ((ho3.setBelow (by simp; omega) _).setBelow (by simp; omega) _) (by omega)
  · have hb0 : Below w.heap.size w W := (by repeat (first | exact bz0 _ _ | refine bz1 ?_ | refine bz2 ?_ _ | refine bz3 ?_ _ | refine bz4 ?_ hb1 | refine bz5 ?_ _ | refine bz6 ?_ _ | refine bz7 ?_ hb1))
    exact ((bel_go (bel_go (Below.drew hb0) hb2) hb3).setCell (by simp) _).setCell (by simp) _
theorem wsh_impl_down (ng : Bool) (a : Option Addr) (cap : Nat) (xs : List Int) (m : Int) (wh r : Nat) (w : World) (hx : Sl .u32 w (.slice a xs.length cap) xs) (dx : Nm.Dg xs) (h1 : okB ng xs = true) (h0 : 1 ≤ m) (h2 : m ≤ 10000) (hq : m / 32 = (wh : Int)) (hm : m % 32 = (r : Int)) (hw : wh ≤ 400000) (hr : r < 32) (x : Int) (hv : x = Nm.shV ng (Nm.val xs) (-m)) :
    Calls Try.prog 54 #[.agg #[.bool ng, .slice a xs.length cap], .int .i64 (-m)] w fun e w' => ∃ a' c', e = .returned (.tuple #[.agg #[.bool (Nm.outN x), .slice a' (Nm.outL x).length c'], .bool (Nm.fits x)]) ∧ Own w' w.heap.size a' c' (Nm.outL x) ∧ Below w.heap.size w w' := by
  have sx := (hx.alloc (.cells #[.bool ng, .slice a xs.length cap] 65)).alloc (.cells #[.bool false, .slice none 0 0] 65)
  have Rz := R2.new2 w (.cells #[.bool ng, .slice a xs.length cap] 65) (.bool false) (.slice none 0 0) 65
  have Bx := (Box.new w (.bool ng) (.slice a xs.length cap) 65).alloc (.cells #[.bool false, .slice none 0 0] 65)
  obtain ⟨nx, lx⟩ := okB_nz h1
  have HX : Hid (∀ os, Nm.val os = Nm.val xs / Nm.pw wh / (2 : Int) ^ r → x = Nm.wv ng os) := hid (fun os h => by rw [hv]; exact Nm.shV_wv (h.trans (Nm.shM_down (by omega) (by rw [Int.neg_neg]; exact hq) (by rw [Int.neg_neg]; exact hm))))
  have kneg : IntKind.i64.wrap m = m := by rw [IntKind.wrap_i64]; omega
  have HQ := hid (And.intro hq hm)
  clear hv hq hm
  go_enter Try.func54, Try.ntmps54
  go_wp2_with fail
  refine (ok_impl ng a cap xs _ sx (by omega)).mono ?_
  rintro e W ⟨rfl, hb1⟩
  replace sx := sx.below hb1
  replace Rz := Rz.below hb1
  replace Bx := Bx.below hb1
  have lW : w.heap.size + 1 < W.heap.size := World.block_lt_of_cell? W _ Rz.c0
  go_wp2_with fail
  go_region_held3 (fun w' => w'.cell? ⟨w.heap.size, 0, none⟩ = some (.bool ng) ∧ w'.cell? ⟨w.heap.size, 1, none⟩ = some (.slice a xs.length cap)) (first | assumption | (refine keep2_set k3.1 k3.2 ?_ _ _ <;> omega) | exact ⟨Bx.1, Bx.2⟩)
    (first
      | (go_at_call 111; refine (down_any a cap xs m wh r _ (by exact sx.drew) dx (by omega) hw hr (by omega) (by omega) HQ.out.1 HQ.out.2).mono ?_; rintro e w2 ⟨a2, c2, os, rfl, ho2, dos, hvo, hlo, hb2⟩; have k2 := keep2 (w := W.drew) Bx.1 Bx.2 hb2; have Rz2 := Rz.drew.below hb2)
      | (go_at_call 101; refine (fitted_v ng a2 c2 os W.heap.size _ (by exact ho2) dos hlo x (HX.out os hvo)).mono ?_; rintro e w3 ⟨a3, c3, rfl, ho3, hb3⟩; have k3 := keep2 k2.1 k2.2 hb3; have Rz3 := Rz2.below hb3; obtain ⟨z0, z1, zf0, zf1⟩ := Rz3))
  have l2 : W.heap.size ≤ w2.heap.size := hb2.size
  have l3 : w2.heap.size ≤ w3.heap.size := hb3.size
  go_wp2
  refine bodyPost_ret (v := .tuple #[.agg #[.bool (Nm.outN x), .slice a3 (Nm.outL x).length c3], .bool (Nm.fits x)]) (by simp [results, Try.results54, go_sem, z0, z1]) rfl ⟨a3, c3, rfl, ?_, ?_⟩
  · exact Own.base ((ho3.setBelow (by simp; omega) _).setBelow (by simp; omega) _) (by omega)
  · have hb0 : Below w.heap.size w W := (by repeat (first | exact bz0 _ _ | refine bz1 ?_ | refine bz2 ?_ _ | refine bz3 ?_ _ | refine bz4 ?_ hb1 | refine bz5 ?_ _ | refine bz6 ?_ _ | refine bz7 ?_ hb1))
    exact ((bel_go (bel_go (Below.drew hb0) hb2) hb3).setCell (by simp) _).setCell (by simp) _
theorem wsh_impl (ng : Bool) (a : Option Addr) (cap : Nat) (xs : List Int) (n : Int) (w : World) (hx : Sl .u32 w (.slice a xs.length cap) xs) (dx : Nm.Dg xs) (hl : xs.length ≤ 1048576) :
    Calls Try.prog 54 #[.agg #[.bool ng, .slice a xs.length cap], .int .i64 n] w fun e w' => ∃ a' c', e = .returned (.tuple #[.agg #[.bool (opN (okB ng xs && inZ n (-10000) 10000) (Nm.shV ng (Nm.val xs) n)), .slice a' (opL (okB ng xs && inZ n (-10000) 10000) (Nm.shV ng (Nm.val xs) n)).length c'], .bool (opO (okB ng xs && inZ n (-10000) 10000) (Nm.shV ng (Nm.val xs) n))]) ∧ Own w' w.heap.size a' c' (opL (okB ng xs && inZ n (-10000) 10000) (Nm.shV ng (Nm.val xs) n)) ∧ Below w.heap.size w w' := by
  cases hk : (okB ng xs && inZ n (-10000) 10000)
  · exact (wsh_impl_no ng a cap xs n w hx hl hk).mono fun e w' ⟨he, hb⟩ => ⟨none, 0, by rw [he]; rfl, Own.nil _ _, hb⟩
  · have h1 : okB ng xs = true := by cases h : okB ng xs <;> simp_all
    have h2 : inZ n (-10000) 10000 = true := by rw [h1] at hk; simpa using hk
    obtain ⟨r0, r1⟩ := inZ_yes h2
    by_cases hn : 0 ≤ n
    · obtain ⟨wh, r, hq, hm, hw, hr⟩ := parts32 n hn (by omega)
      exact wsh_impl_up ng a cap xs n wh r w hx dx h1 hn r1 hq hm hw hr _ rfl
    · obtain ⟨m, rfl⟩ : ∃ m, n = -m := ⟨-n, by omega⟩
      obtain ⟨wh, r, hq, hm, hw, hr⟩ := parts32 m (by omega) (by omega)
      exact wsh_impl_down ng a cap xs m wh r w hx dx h1 (by omega) (by omega) hq hm hw hr _ rfl
theorem lim_len {x k : Nat} (h : bitLen x ≤ 32 * k) : (Nm.lim x).length ≤ k := (Nm.lim_length x k).2 (by rw [Nm.pw_two]; exact Int.ofNat_lt.2 ((Nm.bl_le_iff x (32 * k)).1 h))
theorem len_bl {x k : Nat} (h : (Nm.lim x).length ≤ k) : bitLen x ≤ 32 * k := (Nm.bl_le_iff x (32 * k)).2 (by have := (Nm.lim_length x k).1 h; rw [Nm.pw_two] at this; exact Int.ofNat_lt.1 this)
theorem cmpL_nat (x y : Nat) : cmpL (Nm.lim x) (Nm.lim y) = Nm.cmp2 x y := by
  have h := cmpL_val (Nm.lim_dg x) (Nm.lim_dg y) (Nm.lim_nz x) (Nm.lim_nz y)
  have hr := cmpL_rng (Nm.lim x) (Nm.lim y)
  rw [Nm.lim_val, Nm.lim_val] at h
  unfold Nm.cmp2
  split
  · omega
  · split <;> omega
theorem store_func (P : Program) (w : World) (a : Addr) (f : Fn) (xs ys) (m) : (store a (.func f xs ys) m).run P w = stored P w a (.func f xs ys) m := run_store P w a _ m rfl
attribute [local go_sem] store_func
theorem ok_lim {a : Nat} (ha : a ≠ 0) (hl : bitLen a ≤ 6400) (ng : Bool) : okB ng (Nm.lim a) = true := by
  have hlen := lim_len (x := a) (k := 200) (by omega)
  have hne : (Nm.lim a).length ≠ 0 := fun h => ha ((Nm.lim_length_zero a).1 h)
  have hz := Nm.lim_nz a
  unfold okB
  rw [if_neg hne, decide_eq_true hlen, Bool.true_and]
  have : (Nm.lim a).getD ((Nm.lim a).length - 1) 0 ≠ 0 := by
    apply hz
    rw [List.getLast?_eq_getElem?, List.getD_eq_getElem?_getD, List.getElem?_eq_getElem (by omega)]; rfl
  rw [decide_eq_false this]; rfl
end Go.Proofs.Ytmnfidkpnogfmaa
namespace Go.Proofs.Ytmnfidkpnogfmaa
set_option linter.unusedVariables false
set_option linter.unusedSimpArgs false
open Go.RowKit Go.Deep
/-- A wide in a box: the number x. -/
def WB (w : World) (b : Nat) (a : Option Addr) (c : Nat) (x : Nat) : Prop := R2 w b (.bool false) (.slice a (Nm.lim x).length c) ∧ Sl .u32 w (.slice a (Nm.lim x).length c) (Nm.lim x)
theorem WB.below {w w' : World} {b : Nat} {a : Option Addr} {c x : Nat} (h : WB w b a c x) (hb : Below w.heap.size w w') : WB w' b a c x := ⟨h.1.below hb, h.2.below hb⟩
theorem WB.new {w : World} {a : Option Addr} {c x : Nat} (h : Sl .u32 w (.slice a (Nm.lim x).length c) (Nm.lim x)) (t : TypeId) : WB (w.alloc (.cells #[.bool false, .slice a (Nm.lim x).length c] t)) w.heap.size a c x := ⟨R2.new w _ _ t, h.alloc _⟩
theorem WB.alloc {w : World} {b : Nat} {a : Option Addr} {c x : Nat} (h : WB w b a c x) (o : Obj) : WB (w.alloc o) b a c x := ⟨h.1.alloc o, h.2.alloc o⟩
theorem WB.drew {w : World} {b : Nat} {a : Option Addr} {c x : Nat} (h : WB w b a c x) : WB w.drew b a c x := ⟨h.1.drew, h.2.drew⟩
theorem WB.lt {w : World} {b : Nat} {a : Option Addr} {c x : Nat} (h : WB w b a c x) : b < w.heap.size := World.block_lt_of_cell? w _ h.1.c0
theorem Box.lt {w : World} {b : Nat} {v0 v1 : Value} (h : Box w b v0 v1) : b < w.heap.size := World.block_lt_of_cell? w _ h.1
theorem R2.box {w : World} {b : Nat} {v0 v1 : Value} (h : R2 w b v0 v1) : Box w b v0 v1 := ⟨h.c0, h.c1⟩
def fmtB (fm : Int) : Bool := decide (fm = 32) || decide (fm = 64)
theorem Box.of_block {w w' : World} {b : Nat} {v0 v1 : Value} (h : Box w b v0 v1) (e : w'.heap[b]? = w.heap[b]?) : Box w' b v0 v1 :=
  ⟨(World.cell?_of_block (a := ⟨b, 0, none⟩) e).trans h.1, (World.cell?_of_block (a := ⟨b, 1, none⟩) e).trans h.2⟩
theorem Q9.new2 (w : World) (o : Obj) (v0 v1 v2 v3 v4 v5 v6 v7 v8 : Value) (t : TypeId) : Q9 ((w.alloc o).alloc (.cells #[v0, v1, v2, v3, v4, v5, v6, v7, v8] t)) (w.heap.size + 1) v0 v1 v2 v3 v4 v5 v6 v7 v8 := by simpa using Q9.new (w.alloc o) v0 v1 v2 v3 v4 v5 v6 v7 v8 t
end Go.Proofs.Ytmnfidkpnogfmaa
