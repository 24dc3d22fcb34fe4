/-
  What is needed of ShiftD, ShiftE, RA.
-/
import Derived.Test.YtkfjmcdniohljaaGreatDoorE08
import Derived.Test.YtkfjmcdniohljaaGreatDoorE10
import Derived.Test.YtkfjmcdniohljaaGreatDoorE11
set_option maxHeartbeats 16000000
set_option maxRecDepth 1000000
namespace Go.Proofs.YtkfjmcdniohljaaGreatDoor
set_option linter.unusedVariables false
set_option linter.unusedSimpArgs false
open Go.RowKit Go.Deep
theorem parts32 (n : Int) (h : 0 ≤ n) (h1 : n ≤ 1000000) : ∃ wh r : Nat, n / 32 = (wh : Int) ∧ n % 32 = (r : Int) ∧ wh ≤ 400000 ∧ r < 32 :=
  ⟨(n / 32).toNat, (n % 32).toNat, by omega, by omega, by omega, by omega⟩
theorem l1shift_any (ng : Bool) (a : Option Addr) (cap : Nat) (xs : List Int) (n : Int) (w : World) (hx : Sl .u32 w (.slice a xs.length cap) xs) (dx : Nm.Dg xs) (hl : xs.length ≤ 400000) (h0 : -1000000 ≤ n) (h1 : n ≤ 1000000) (v : Int) (hv : v = Nm.shV ng (Nm.val xs) n) :
    Calls Tryz.prog 80 #[.agg #[.bool ng, .slice a xs.length cap], .int .i64 n] w fun e w' => ∃ a' c', e = .returned (.agg #[.bool (Nm.wn v), .slice a' (Nm.wl v).length c']) ∧ Own w' w.heap.size a' c' (Nm.wl v) ∧ Below w.heap.size w w' := by
  by_cases hn : 0 ≤ n
  · obtain ⟨wh, r, hq, hm, hw, hr⟩ := parts32 n hn h1
    exact l1up_any ng a cap xs n wh r w hx dx hl hw hr hn h1 hq hm v (fun os h => by rw [hv]; exact Nm.shV_wv (h.trans (Nm.shM_up hn hq hm)))
  · obtain ⟨m, rfl⟩ : ∃ m, n = -m := ⟨-n, by omega⟩
    obtain ⟨wh, r, hq, hm, hw, hr⟩ := parts32 m (by omega) (by omega)
    have hd : Nm.val (Nm.sd ((2 : Int) ^ r) (xs.drop wh)) = Nm.shM (Nm.val xs) (-m) := (sd_drop_val dx wh r hr).trans (Nm.shM_down (by omega) (by rw [Int.neg_neg]; exact hq) (by rw [Int.neg_neg]; exact hm))
    by_cases hc : xs.length ≤ wh
    · have hz : Nm.shV ng (Nm.val xs) (-m) = 0 := by
        rw [List.drop_eq_nil_of_le hc] at hd
        unfold Nm.shV; rw [← hd]; simp [Nm.sd, Nm.val]
      rw [hv, hz]
      have e1 : Nm.wl 0 = [] := Nm.lim_zero
      have e2 : Nm.wn 0 = false := by decide
      rw [e1, e2]
      exact (l1down_no ng a cap xs m wh w hx hl hw (by omega) (by omega) hq hc).mono fun e w' ⟨he, hb⟩ => ⟨none, 0, by rw [he]; rfl, Own.nil _ _, hb⟩
    · exact l1down_yes ng a cap xs m wh r w hx dx hl hw hr (by omega) (by omega) hq hm hc v (by rw [hv]; exact Nm.shV_wv hd)
/-- Whether a number lies between two. -/
def inZ (n lo hi : Int) : Bool := decide (lo ≤ n) && decide (n ≤ hi)
theorem in_any (n lo hi : Int) (w : World) :
    Calls Tryz.prog 142 #[.int .i64 n, .int .i64 lo, .int .i64 hi] w fun e w' => e = .returned (.bool (inZ n lo hi)) ∧ w' = w := by
  by_cases h1 : lo ≤ n
  · by_cases h2 : n ≤ hi
    · have HR : Hid (inZ n lo hi = true) := hid (by simp [inZ, h1, h2])
      go_enter Tryz.func142, Tryz.ntmps142
      go_wp2
      go_ret
      exact ⟨ret_bool HR.out.symm, rfl⟩
    · have HR : Hid (inZ n lo hi = false) := hid (by simp [inZ, h1, h2])
      go_enter Tryz.func142, Tryz.ntmps142
      go_wp2
      go_ret
      exact ⟨ret_bool HR.out.symm, rfl⟩
  · have HR : Hid (inZ n lo hi = false) := hid (by simp [inZ, h1])
    go_enter Tryz.func142, Tryz.ntmps142
    go_wp2
    go_ret
    exact ⟨ret_bool HR.out.symm, rfl⟩
theorem inZ_yes {n lo hi : Int} (h : inZ n lo hi = true) : lo ≤ n ∧ n ≤ hi := by simpa [inZ] using h
theorem keep2 {w w' : World} {b : Nat} {v0 v1 : Value} (h0 : w.cell? ⟨b, 0, none⟩ = some v0) (h1 : w.cell? ⟨b, 1, none⟩ = some v1) (hb : Below w.heap.size w w') : w'.cell? ⟨b, 0, none⟩ = some v0 ∧ w'.cell? ⟨b, 1, none⟩ = some v1 := Box.below ⟨h0, h1⟩ hb
theorem keep2_set {w : World} {b z : Nat} {v0 v1 : Value} (h0 : w.cell? ⟨b, 0, none⟩ = some v0) (h1 : w.cell? ⟨b, 1, none⟩ = some v1) (n1 : b ≠ z) (p q : Value) :
    ((w.setCell ⟨z, 0, none⟩ p).setCell ⟨z, 1, none⟩ q).cell? ⟨b, 0, none⟩ = some v0 ∧ ((w.setCell ⟨z, 0, none⟩ p).setCell ⟨z, 1, none⟩ q).cell? ⟨b, 1, none⟩ = some v1 :=
  ⟨(keep3_set h0 h1 h1 n1 n1 p q).1, (keep3_set h0 h1 h1 n1 n1 p q).2.1⟩
theorem wsh_impl_no (ng : Bool) (a : Option Addr) (cap : Nat) (xs : List Int) (n : Int) (w : World) (hx : Sl .u32 w (.slice a xs.length cap) xs) (hl : xs.length ≤ 1048576) (hk : (okB ng xs && inZ n (-10000) 10000) = false) :
    Calls Tryz.prog 21 #[.agg #[.bool ng, .slice a xs.length cap], .int .i64 n] w fun e w' => e = .returned (.tuple #[.agg #[.bool false, .slice none 0 0], .bool false]) ∧ Below w.heap.size w w' := by
  have sx := (hx.alloc (.cells #[.bool ng, .slice a xs.length cap] 32)).alloc (.cells #[.bool false, .slice none 0 0] 32)
  have Rz := R2.new2 w (.cells #[.bool ng, .slice a xs.length cap] 32) (.bool false) (.slice none 0 0) 32
  cases h1 : okB ng xs
  · clear hk
    go_enter Tryz.func21, Tryz.ntmps21
    go_wp2_with fail
    refine (ok_impl ng a cap xs _ sx (by omega)).mono ?_
    rintro e w1 ⟨rfl, hb1⟩
    obtain ⟨z0, z1, zf0, zf1⟩ := Rz.below hb1
    go_wp2
    exact bodyPost_ret (v := .tuple #[.agg #[.bool false, .slice none 0 0], .bool false]) (by simp [results, Tryz.results21, go_sem, z0, z1]) rfl ⟨rfl, (by repeat (first | exact bz0 _ _ | refine bz1 ?_ | refine bz2 ?_ _ | refine bz3 ?_ _ | refine bz4 ?_ hb1 | refine bz5 ?_ _ | refine bz6 ?_ _ | refine bz7 ?_ hb1))⟩
  · have h2 : inZ n (-10000) 10000 = false := by rw [h1] at hk; simpa using hk
    have h3 : n < -10000 ∨ (¬ n < -10000 ∧ 10000 < n) := by simp [inZ] at h2; omega
    clear hk h2
    rcases h3 with h3 | ⟨h3, h4⟩
    all_goals
      go_enter Tryz.func21, Tryz.ntmps21
      go_wp2_with fail
      refine (ok_impl ng a cap xs _ sx (by omega)).mono ?_
      rintro e w1 ⟨rfl, hb1⟩
      obtain ⟨z0, z1, zf0, zf1⟩ := Rz.below hb1
      go_wp2
      exact bodyPost_ret (v := .tuple #[.agg #[.bool false, .slice none 0 0], .bool false]) (by simp [results, Tryz.results21, go_sem, z0, z1]) rfl ⟨rfl, (by repeat (first | exact bz0 _ _ | refine bz1 ?_ | refine bz2 ?_ _ | refine bz3 ?_ _ | refine bz4 ?_ hb1 | refine bz5 ?_ _ | refine bz6 ?_ _ | refine bz7 ?_ hb1))⟩
theorem wsh_impl_up (ng : Bool) (a : Option Addr) (cap : Nat) (xs : List Int) (m : Int) (wh r : Nat) (w : World) (hx : Sl .u32 w (.slice a xs.length cap) xs) (dx : Nm.Dg xs) (h1 : okB ng xs = true) (h0 : 0 ≤ m) (h2 : m ≤ 10000) (hq : m / 32 = (wh : Int)) (hm : m % 32 = (r : Int)) (hw : wh ≤ 400000) (hr : r < 32) (x : Int) (hv : x = Nm.shV ng (Nm.val xs) (m)) :
    Calls Tryz.prog 21 #[.agg #[.bool ng, .slice a xs.length cap], .int .i64 (m)] w fun e w' => ∃ a' c', e = .returned (.tuple #[.agg #[.bool (Nm.outN x), .slice a' (Nm.outL x).length c'], .bool (Nm.fits x)]) ∧ Own w' w.heap.size a' c' (Nm.outL x) ∧ Below w.heap.size w w' := by
  have sx := (hx.alloc (.cells #[.bool ng, .slice a xs.length cap] 32)).alloc (.cells #[.bool false, .slice none 0 0] 32)
  have Rz := R2.new2 w (.cells #[.bool ng, .slice a xs.length cap] 32) (.bool false) (.slice none 0 0) 32
  have Bx := (Box.new w (.bool ng) (.slice a xs.length cap) 32).alloc (.cells #[.bool false, .slice none 0 0] 32)
  obtain ⟨nx, lx⟩ := okB_nz h1
  have HX : Hid (∀ os, Nm.val os = Nm.pw wh * ((2 : Int) ^ r * Nm.val xs) → x = Nm.wv ng os) := hid (fun os h => by rw [hv]; exact Nm.shV_wv (h.trans (Nm.shM_up h0 hq hm)))
  have kneg : IntKind.i64.wrap m = m := by rw [IntKind.wrap_i64]; omega
  have HQ := hid (And.intro hq hm)
  clear hv hq hm
  go_enter Tryz.func21, Tryz.ntmps21
  go_wp2_with fail
  refine (ok_impl ng a cap xs _ sx (by omega)).mono ?_
  rintro e W ⟨rfl, hb1⟩
  replace sx := sx.below hb1
  replace Rz := Rz.below hb1
  replace Bx := Bx.below hb1
  have lW : w.heap.size + 1 < W.heap.size := World.block_lt_of_cell? W _ Rz.c0
  go_wp2_with fail
  go_region_held3 (fun w' => w'.cell? ⟨w.heap.size, 0, none⟩ = some (.bool ng) ∧ w'.cell? ⟨w.heap.size, 1, none⟩ = some (.slice a xs.length cap)) (first | assumption | (refine keep2_set k3.1 k3.2 ?_ _ _ <;> omega) | exact ⟨Bx.1, Bx.2⟩)
    (first
      | (go_at_call 107; refine (up_any a cap xs m wh r _ (by exact sx.drew) dx (by omega) hw hr (by omega) (by omega) HQ.out.1 HQ.out.2).mono ?_; rintro e w2 ⟨a2, c2, os, rfl, ho2, dos, hvo, hlo, hb2⟩; have k2 := keep2 (w := W.drew) Bx.1 Bx.2 hb2; have Rz2 := Rz.drew.below hb2)
      | (go_at_call 105; refine (fitted_v ng a2 c2 os W.heap.size _ (by exact ho2) dos hlo x (HX.out os hvo)).mono ?_; rintro e w3 ⟨a3, c3, rfl, ho3, hb3⟩; have k3 := keep2 k2.1 k2.2 hb3; have Rz3 := Rz2.below hb3; obtain ⟨z0, z1, zf0, zf1⟩ := Rz3))
  have l2 : W.heap.size ≤ w2.heap.size := hb2.size
  have l3 : w2.heap.size ≤ w3.heap.size := hb3.size
  go_wp2
  refine bodyPost_ret (v := .tuple #[.agg #[.bool (Nm.outN x), .slice a3 (Nm.outL x).length c3], .bool (Nm.fits x)]) (by simp [results, Tryz.results21, go_sem, z0, z1]) rfl ⟨a3, c3, rfl, ?_, ?_⟩
  · exact Own.base ((ho3.setBelow (by simp; omega) _).setBelow (by simp; omega) _) (by omega)
  · have hb0 : Below w.heap.size w W := (by repeat (first | exact bz0 _ _ | refine bz1 ?_ | refine bz2 ?_ _ | refine bz3 ?_ _ | refine bz4 ?_ hb1 | refine bz5 ?_ _ | refine bz6 ?_ _ | refine bz7 ?_ hb1))
    exact ((bel_go (bel_go (Below.drew hb0) hb2) hb3).setCell (by simp) _).setCell (by simp) _
theorem wsh_impl_down (ng : Bool) (a : Option Addr) (cap : Nat) (xs : List Int) (m : Int) (wh r : Nat) (w : World) (hx : Sl .u32 w (.slice a xs.length cap) xs) (dx : Nm.Dg xs) (h1 : okB ng xs = true) (h0 : 1 ≤ m) (h2 : m ≤ 10000) (hq : m / 32 = (wh : Int)) (hm : m % 32 = (r : Int)) (hw : wh ≤ 400000) (hr : r < 32) (x : Int) (hv : x = Nm.shV ng (Nm.val xs) (-m)) :
    Calls Tryz.prog 21 #[.agg #[.bool ng, .slice a xs.length cap], .int .i64 (-m)] w fun e w' => ∃ a' c', e = .returned (.tuple #[.agg #[.bool (Nm.outN x), .slice a' (Nm.outL x).length c'], .bool (Nm.fits x)]) ∧ Own w' w.heap.size a' c' (Nm.outL x) ∧ Below w.heap.size w w' := by
  have sx := (hx.alloc (.cells #[.bool ng, .slice a xs.length cap] 32)).alloc (.cells #[.bool false, .slice none 0 0] 32)
  have Rz := R2.new2 w (.cells #[.bool ng, .slice a xs.length cap] 32) (.bool false) (.slice none 0 0) 32
  have Bx := (Box.new w (.bool ng) (.slice a xs.length cap) 32).alloc (.cells #[.bool false, .slice none 0 0] 32)
  obtain ⟨nx, lx⟩ := okB_nz h1
  have HX : Hid (∀ os, Nm.val os = Nm.val xs / Nm.pw wh / (2 : Int) ^ r → x = Nm.wv ng os) := hid (fun os h => by rw [hv]; exact Nm.shV_wv (h.trans (Nm.shM_down (by omega) (by rw [Int.neg_neg]; exact hq) (by rw [Int.neg_neg]; exact hm))))
  have kneg : IntKind.i64.wrap m = m := by rw [IntKind.wrap_i64]; omega
  have HQ := hid (And.intro hq hm)
  clear hv hq hm
  go_enter Tryz.func21, Tryz.ntmps21
  go_wp2_with fail
  refine (ok_impl ng a cap xs _ sx (by omega)).mono ?_
  rintro e W ⟨rfl, hb1⟩
  replace sx := sx.below hb1
  replace Rz := Rz.below hb1
  replace Bx := Bx.below hb1
  have lW : w.heap.size + 1 < W.heap.size := World.block_lt_of_cell? W _ Rz.c0
  go_wp2_with fail
  go_region_held3 (fun w' => w'.cell? ⟨w.heap.size, 0, none⟩ = some (.bool ng) ∧ w'.cell? ⟨w.heap.size, 1, none⟩ = some (.slice a xs.length cap)) (first | assumption | (refine keep2_set k3.1 k3.2 ?_ _ _ <;> omega) | exact ⟨Bx.1, Bx.2⟩)
    (first
      | (go_at_call 106; refine (down_any a cap xs m wh r _ (by exact sx.drew) dx (by omega) hw hr (by omega) (by omega) HQ.out.1 HQ.out.2).mono ?_; rintro e w2 ⟨a2, c2, os, rfl, ho2, dos, hvo, hlo, hb2⟩; have k2 := keep2 (w := W.drew) Bx.1 Bx.2 hb2; have Rz2 := Rz.drew.below hb2)
      | (go_at_call 105; refine (fitted_v ng a2 c2 os W.heap.size _ (by exact ho2) dos hlo x (HX.out os hvo)).mono ?_; rintro e w3 ⟨a3, c3, rfl, ho3, hb3⟩; have k3 := keep2 k2.1 k2.2 hb3; have Rz3 := Rz2.below hb3; obtain ⟨z0, z1, zf0, zf1⟩ := Rz3))
  have l2 : W.heap.size ≤ w2.heap.size := hb2.size
  have l3 : w2.heap.size ≤ w3.heap.size := hb3.size
  go_wp2
  refine bodyPost_ret (v := .tuple #[.agg #[.bool (Nm.outN x), .slice a3 (Nm.outL x).length c3], .bool (Nm.fits x)]) (by simp [results, Tryz.results21, go_sem, z0, z1]) rfl ⟨a3, c3, rfl, ?_, ?_⟩
  · exact Own.base ((ho3.setBelow (by simp; omega) _).setBelow (by simp; omega) _) (by omega)
  · have hb0 : Below w.heap.size w W := (by repeat (first | exact bz0 _ _ | refine bz1 ?_ | refine bz2 ?_ _ | refine bz3 ?_ _ | refine bz4 ?_ hb1 | refine bz5 ?_ _ | refine bz6 ?_ _ | refine bz7 ?_ hb1))
    exact ((bel_go (bel_go (Below.drew hb0) hb2) hb3).setCell (by simp) _).setCell (by simp) _
theorem wsh_impl (ng : Bool) (a : Option Addr) (cap : Nat) (xs : List Int) (n : Int) (w : World) (hx : Sl .u32 w (.slice a xs.length cap) xs) (dx : Nm.Dg xs) (hl : xs.length ≤ 1048576) :
    Calls Tryz.prog 21 #[.agg #[.bool ng, .slice a xs.length cap], .int .i64 n] w fun e w' => ∃ a' c', e = .returned (.tuple #[.agg #[.bool (opN (okB ng xs && inZ n (-10000) 10000) (Nm.shV ng (Nm.val xs) n)), .slice a' (opL (okB ng xs && inZ n (-10000) 10000) (Nm.shV ng (Nm.val xs) n)).length c'], .bool (opO (okB ng xs && inZ n (-10000) 10000) (Nm.shV ng (Nm.val xs) n))]) ∧ Own w' w.heap.size a' c' (opL (okB ng xs && inZ n (-10000) 10000) (Nm.shV ng (Nm.val xs) n)) ∧ Below w.heap.size w w' := by
  cases hk : (okB ng xs && inZ n (-10000) 10000)
  · exact (wsh_impl_no ng a cap xs n w hx hl hk).mono fun e w' ⟨he, hb⟩ => ⟨none, 0, by rw [he]; rfl, Own.nil _ _, hb⟩
  · have h1 : okB ng xs = true := by cases h : okB ng xs <;> simp_all
    have h2 : inZ n (-10000) 10000 = true := by rw [h1] at hk; simpa using hk
    obtain ⟨r0, r1⟩ := inZ_yes h2
    by_cases hn : 0 ≤ n
    · obtain ⟨wh, r, hq, hm, hw, hr⟩ := parts32 n hn (by omega)
      exact wsh_impl_up ng a cap xs n wh r w hx dx h1 hn r1 hq hm hw hr _ rfl
    · obtain ⟨m, rfl⟩ : ∃ m, n = -m := ⟨-n, by omega⟩
      obtain ⟨wh, r, hq, hm, hw, hr⟩ := parts32 m (by omega) (by omega)
      exact wsh_impl_down ng a cap xs m wh r w hx dx h1 (by omega) (by omega) hq hm hw hr _ rfl
theorem lim_len {x k : Nat} (h : bitLen x ≤ 32 * k) : (Nm.lim x).length ≤ k := (Nm.lim_length x k).2 (by rw [Nm.pw_two]; exact Int.ofNat_lt.2 ((Nm.bl_le_iff x (32 * k)).1 h))
theorem len_bl {x k : Nat} (h : (Nm.lim x).length ≤ k) : bitLen x ≤ 32 * k := (Nm.bl_le_iff x (32 * k)).2 (by have := (Nm.lim_length x k).1 h; rw [Nm.pw_two] at this; exact Int.ofNat_lt.1 this)
theorem wl_nat (x : Nat) : Nm.wl (x : Int) = Nm.lim x := by unfold Nm.wl; simp
theorem wn_nat (x : Nat) : Nm.wn (x : Int) = false := by unfold Nm.wn; exact decide_eq_false (by omega)
theorem wv_nat (x : Nat) : Nm.wv false (Nm.lim x) = (x : Int) := by unfold Nm.wv; simpa using Nm.lim_val x
/-- How many bits limbs are written with, by what they are worth. -/
theorem blL_val {zs : List Int} (d : Nm.Dg zs) (z : Nm.Nz zs) : blL zs = (bitLen (Nm.val zs).toNat : Int) := by
  unfold blL
  by_cases h0 : zs.length = 0
  · have : zs = [] := List.eq_nil_of_length_eq_zero h0
    subst this
    rw [if_pos h0]; simp [Nm.val, Nm.bl_zero]
  · rw [if_neg h0]
    have hlt : zs.length - 1 < zs.length := by omega
    have hv := Nm.val_take_succ zs (zs.length - 1)
    rw [show zs.length - 1 + 1 = zs.length by omega, List.take_length] at hv
    have hf := Nm.val_take_lt d (zs.length - 1)
    have ht := d.getD (zs.length - 1)
    have htop : zs.getD (zs.length - 1) 0 ≠ 0 := by
      apply z
      rw [List.getLast?_eq_getElem?, List.getD_eq_getElem?_getD, List.getElem?_eq_getElem hlt]; rfl
    rw [Nm.pw_two] at hv hf
    generalize zs.getD (zs.length - 1) 0 = t at *
    generalize Nm.val (zs.take (zs.length - 1)) = f at *
    have hn : (zs.length : Int) - 1 = ((zs.length - 1 : Nat) : Int) := by omega
    rw [hn]
    clear hn hlt h0
    generalize zs.length - 1 = n at *
    obtain ⟨T, rfl⟩ : ∃ T : Nat, t = T := ⟨t.toNat, by omega⟩
    obtain ⟨F, rfl⟩ : ∃ F : Nat, f = F := ⟨f.toNat, by omega⟩
    have hF : F < 2 ^ (32 * n) := Int.ofNat_lt.1 hf.2
    have hV : (Nm.val zs).toNat = F + 2 ^ (32 * n) * T := by rw [hv]; rw [← Int.natCast_mul, ← Int.natCast_add, Int.toNat_natCast]
    have hdiv : (F + 2 ^ (32 * n) * T) / 2 ^ (32 * n) = T := by
      rw [Nat.add_mul_div_left _ _ (Nm.pw_pos2 _), Nat.div_eq_of_lt hF]; omega
    have hb := bitLen_shift (F + 2 ^ (32 * n) * T) (32 * n) (by rw [hdiv]; omega)
    rw [hV, hb, hdiv]
    simp
theorem blL_lim (x : Nat) : blL (Nm.lim x) = (bitLen x : Int) := by
  rw [blL_val (Nm.lim_dg x) (Nm.lim_nz x), Nm.lim_val]; simp
theorem shift_n (x : Nat) (n : Int) (a : Option Addr) (c : Nat) (w : World) (hx : Sl .u32 w (.slice a (Nm.lim x).length c) (Nm.lim x)) (hl : bitLen x ≤ 100000) (h0 : -1000000 ≤ n) (h1 : n ≤ 1000000) :
    Calls Tryz.prog 80 #[.agg #[.bool false, .slice a (Nm.lim x).length c], .int .i64 n] w fun e w' => ∃ a' c', e = .returned (.agg #[.bool false, .slice a' (Nm.lim (Nm.sh x n)).length c']) ∧ Own w' w.heap.size a' c' (Nm.lim (Nm.sh x n)) ∧ Below w.heap.size w w' := by
  have h := l1shift_any false a c (Nm.lim x) n w hx (Nm.lim_dg x) (by have := lim_len (x := x) (k := 100000) (by omega); omega) h0 h1 ((Nm.sh x n : Nat) : Int) (by rw [Nm.lim_val, Nm.shV_sh])
  rw [wn_nat, wl_nat] at h
  exact h
theorem bits_n (x : Nat) (ng : Bool) (a : Option Addr) (c : Nat) (w : World) (hx : Sl .u32 w (.slice a (Nm.lim x).length c) (Nm.lim x)) (hl : bitLen x ≤ 1000000) :
    Calls Tryz.prog 227 #[.agg #[.bool ng, .slice a (Nm.lim x).length c]] w fun e w' => e = .returned (.int .i64 (bitLen x : Nat)) ∧ Below w.heap.size w w' := by
  have h := l1Bits_any ng a c (Nm.lim x) w hx (Nm.lim_dg x) (by have := lim_len (x := x) (k := 1000000) (by omega); omega)
  rw [blL_lim] at h
  exact h
theorem cmpL_nat (x y : Nat) : cmpL (Nm.lim x) (Nm.lim y) = Nm.cmp2 x y := by
  have h := cmpL_val (Nm.lim_dg x) (Nm.lim_dg y) (Nm.lim_nz x) (Nm.lim_nz y)
  have hr := cmpL_rng (Nm.lim x) (Nm.lim y)
  rw [Nm.lim_val, Nm.lim_val] at h
  unfold Nm.cmp2
  split
  · omega
  · split <;> omega
theorem cmp_n (x y : Nat) (a a' : Option Addr) (c c' : Nat) (w : World) (hx : Sl .u32 w (.slice a (Nm.lim x).length c) (Nm.lim x)) (hy : Sl .u32 w (.slice a' (Nm.lim y).length c') (Nm.lim y)) (hl : bitLen x ≤ 1000000) (hl' : bitLen y ≤ 1000000) :
    Calls Tryz.prog 85 #[.agg #[.bool false, .slice a (Nm.lim x).length c], .agg #[.bool false, .slice a' (Nm.lim y).length c']] w fun e w' => e = .returned (.int .i64 (Nm.cmp2 x y)) ∧ Below w.heap.size w w' := by
  have h := l1Cmp_any false false a a' c c' (Nm.lim x) (Nm.lim y) w hx hy (by have := lim_len (x := x) (k := 1000000) (by omega); omega) (by have := lim_len (x := y) (k := 1000000) (by omega); omega)
  have e : lcmp false false (Nm.lim x) (Nm.lim y) = Nm.cmp2 x y := cmpL_nat x y
  rw [e] at h
  exact h
theorem add_n (x y r : Nat) (ng : Bool) (hng : ng = Nm.wn (-(y : Int))) (hr : r + y = x) (a a' : Option Addr) (c c' : Nat) (w : World) (hx : Sl .u32 w (.slice a (Nm.lim x).length c) (Nm.lim x)) (hy : Sl .u32 w (.slice a' (Nm.lim y).length c') (Nm.lim y)) (hl : bitLen x ≤ 1000000) :
    Calls Tryz.prog 81 #[.agg #[.bool false, .slice a (Nm.lim x).length c], .agg #[.bool ng, .slice a' (Nm.lim y).length c']] w fun e w' => ∃ a1 c1, e = .returned (.agg #[.bool false, .slice a1 (Nm.lim r).length c1]) ∧ Own w' w.heap.size a1 c1 (Nm.lim r) ∧ Below w.heap.size w w' := by
  have hy' : bitLen y ≤ 1000000 := by have := Nm.bl_mono (show y ≤ x by omega); omega
  have hv : Nm.wv ng (Nm.lim y) = -(y : Int) := by
    have := Nm.wv_out (-(y : Int))
    rw [← hng] at this
    unfold Nm.wl at this; simpa using this
  have h := l1add_any false ng a a' c c' (Nm.lim x) (Nm.lim y) w hx hy (Nm.lim_dg x) (Nm.lim_dg y) (Nm.lim_nz x) (Nm.lim_nz y) (by have := lim_len (x := x) (k := 40000) (by omega); omega) (by have := lim_len (x := y) (k := 40000) (by omega); omega) (r : Int) (by rw [wv_nat, hv]; omega)
  rw [wn_nat, wl_nat] at h
  exact h
theorem plus_n (x y : Nat) (a a' : Option Addr) (c c' : Nat) (w : World) (hx : Sl .u32 w (.slice a (Nm.lim x).length c) (Nm.lim x)) (hy : Sl .u32 w (.slice a' (Nm.lim y).length c') (Nm.lim y)) (hl : bitLen x ≤ 1000000) (hl' : bitLen y ≤ 1000000) :
    Calls Tryz.prog 81 #[.agg #[.bool false, .slice a (Nm.lim x).length c], .agg #[.bool false, .slice a' (Nm.lim y).length c']] w fun e w' => ∃ a1 c1, e = .returned (.agg #[.bool false, .slice a1 (Nm.lim (x + y)).length c1]) ∧ Own w' w.heap.size a1 c1 (Nm.lim (x + y)) ∧ Below w.heap.size w w' := by
  have h := l1add_any false false a a' c c' (Nm.lim x) (Nm.lim y) w hx hy (Nm.lim_dg x) (Nm.lim_dg y) (Nm.lim_nz x) (Nm.lim_nz y) (by have := lim_len (x := x) (k := 40000) (by omega); omega) (by have := lim_len (x := y) (k := 40000) (by omega); omega) ((x + y : Nat) : Int) (by rw [wv_nat, wv_nat]; simp)
  rw [wn_nat, wl_nat] at h
  exact h
theorem one_n (w : World) :
    Calls Tryz.prog 86 #[.int .i64 1] w fun e w' => ∃ a' c', e = .returned (.agg #[.bool false, .slice a' (Nm.lim 1).length c']) ∧ Own w' w.heap.size a' c' (Nm.lim 1) ∧ Below w.heap.size w w' := by
  have h := wof_spec 1 w (by decide) (by decide)
  have e1 : Nm.wn 1 = false := by decide
  have e2 : Nm.wl 1 = Nm.lim 1 := wl_nat 1
  rw [e1, e2] at h
  exact h
theorem l1neg_v (ng : Bool) (a : Option Addr) (cap : Nat) (zs : List Int) (w : World) (hs : Sl .u32 w (.slice a zs.length cap) zs) (hz : Nm.Dg zs) (hl : zs.length ≤ 1048576) (x : Int) (hx : x = Nm.wv (!ng) zs) :
    Calls Tryz.prog 82 #[.agg #[.bool ng, .slice a zs.length cap]] w fun e w' => ∃ a' c', e = .returned (.agg #[.bool (Nm.wn x), .slice a' (Nm.wl x).length c']) ∧ Own w' w.heap.size a' c' (Nm.wl x) ∧ Below w.heap.size w w' := by
  have HX := hid hx
  clear hx
  go_enter Tryz.func82, Tryz.ntmps82
  go_wp2_with fail
  refine (made_v (!ng) a cap zs _ ((hs.alloc _).alloc _) hz hl x HX.out).mono ?_
  rintro e w1 ⟨a', c', rfl, ho, hb⟩
  obtain ⟨r0, r1, f0, f1⟩ := (R2.new2 w (.cells #[.bool ng, .slice a zs.length cap] 32) (.bool false) (.slice none 0 0) 32).below hb
  have ho : Own w1 (w.heap.size + 1 + 1) a' c' (Nm.wl x) := by simpa using ho
  go_wp2
  refine bodyPost_ret (v := .agg #[.bool (Nm.wn x), .slice a' (Nm.wl x).length c']) (by simp [results, Tryz.results82, go_sem, r0, r1]) rfl ⟨a', c', rfl, ?_, (by repeat (first | exact bz0 _ _ | refine bz1 ?_ | refine bz2 ?_ _ | refine bz3 ?_ _ | refine bz4 ?_ hb | refine bz5 ?_ _ | refine bz6 ?_ _ | refine bz7 ?_ hb))⟩
  exact Own.base ((ho.setBelow (by simp) _).setBelow (by simp) _) (by omega)
theorem neg_n (x : Nat) (a : Option Addr) (c : Nat) (w : World) (hx : Sl .u32 w (.slice a (Nm.lim x).length c) (Nm.lim x)) (hl : bitLen x ≤ 1000000) :
    Calls Tryz.prog 82 #[.agg #[.bool false, .slice a (Nm.lim x).length c]] w fun e w' => ∃ a1 c1, e = .returned (.agg #[.bool (Nm.wn (-(x : Int))), .slice a1 (Nm.lim x).length c1]) ∧ Own w' w.heap.size a1 c1 (Nm.lim x) ∧ Below w.heap.size w w' := by
  have e2 : Nm.wl (-(x : Int)) = Nm.lim x := by unfold Nm.wl; simp
  have hv : -(x : Int) = Nm.wv (!false) (Nm.lim x) := by unfold Nm.wv; simp [Nm.lim_val]
  have h := l1neg_v false a c (Nm.lim x) w hx (Nm.lim_dg x) (by have := lim_len (x := x) (k := 1000000) (by omega); omega) (-(x : Int)) hv
  rw [e2] at h
  exact h
theorem lim_two {x : Nat} (h : x < 18446744073709551616) : (Nm.lim x).length ≤ 2 := lim_len (k := 2) ((Nm.bl_le_iff x 64).2 (by simpa using h))
theorem two_val {x : Nat} {zs : List Int} (h : zs = Nm.lim x) (h2 : zs.length ≤ 2) : zs.getD 0 0 + zs.getD 1 0 * 4294967296 = (x : Int) := by
  have hv : Nm.val zs = x := by rw [h]; exact Nm.lim_val x
  match zs, h2, hv with
  | [], _, hv => simpa [Nm.val] using hv
  | [a], _, hv => simp [Nm.val] at hv ⊢; omega
  | [a, b], _, hv => simp [Nm.val] at hv ⊢; omega
  | _ :: _ :: _ :: _, h2, _ => simp at h2
theorem low_any (ng : Bool) (a : Option Addr) (c : Nat) (zs : List Int) (w : World) (hx : Sl .u32 w (.slice a zs.length c) zs) (hz : Nm.Dg zs) (h2 : zs.length ≤ 2) :
    Calls Tryz.prog 84 #[.agg #[.bool ng, .slice a zs.length c]] w fun e w' => e = .returned (.int .u64 (zs.getD 0 0 + zs.getD 1 0 * 4294967296)) ∧ Below w.heap.size w w' := by
  match zs, hx, hz, h2 with
  | [], hs, hz, _ => exact low0 ng a c w hs
  | [x], hs, hz, _ =>
    obtain ⟨-, _, _, hc3⟩ := hs.cells
    obtain ⟨b, off, rfl, _⟩ := hc3 (by simp)
    have hx := hz.head
    have := low1 ng b off x c w hs hx.1 hx.2
    simpa using this
  | [x, y], hs, hz, _ =>
    obtain ⟨-, _, _, hc3⟩ := hs.cells
    obtain ⟨b, off, rfl, _⟩ := hc3 (by simp)
    have hx := hz.head
    have hy := hz.tail.head
    exact low2 ng b off x y c w hs hx.1 hx.2 hy.1 hy.2
  | _ :: _ :: _ :: _, _, _, h2 => simp at h2
theorem low_n (x : Nat) (ng : Bool) (a : Option Addr) (c : Nat) (w : World) (hx : Sl .u32 w (.slice a (Nm.lim x).length c) (Nm.lim x)) (h : x < 18446744073709551616) :
    Calls Tryz.prog 84 #[.agg #[.bool ng, .slice a (Nm.lim x).length c]] w fun e w' => e = .returned (.int .u64 (x : Nat)) ∧ Below w.heap.size w w' := by
  have h2 := lim_two h
  have := low_any ng a c (Nm.lim x) w hx (Nm.lim_dg x) h2
  rw [two_val rfl h2] at this
  exact this
end Go.Proofs.YtkfjmcdniohljaaGreatDoor
