/-
  What is needed of IB0, FloatN.
-/
import Derived.Test.YtpalbhkihheogaaGreatDoorN14
import Derived.Test.YtpalbhkihheogaaGreatDoorN19
import Derived.Test.YtpalbhkihheogaaGreatDoorN20
set_option maxHeartbeats 16000000
set_option maxRecDepth 1000000
namespace Go.Proofs.YtpalbhkihheogaaGreatDoor
set_option linter.unusedVariables false
set_option linter.unusedSimpArgs false
open Go.RowKit Go.Deep
theorem Nm.tz_up {a : Nat} (h : a ≠ 0) (d : Nat) : Nm.tz (a * 2 ^ d) = Nm.tz a + d := by
  have hs := Nm.tz_spec a h
  have : a * 2 ^ d = Nm.od a * 2 ^ (Nm.tz a + d) := by rw [Nat.pow_add, ← Nat.mul_assoc, hs.1]
  rw [this, Nm.tz_mul hs.2]
theorem Nm.tz_low {x r : Nat} (h : x ≠ 0) (hx : x < 4294967296) : Nm.tz (x + 4294967296 * r) = Nm.tz x := by
  have hs := Nm.tz_spec x h
  have ht : Nm.tz x < 32 := by
    have h1 : 2 ^ Nm.tz x ≤ x := by
      have := Nat.le_mul_of_pos_left (2 ^ Nm.tz x) (Nat.pos_of_ne_zero (Nm.od_pos h)); omega
    have h2 : 2 ^ Nm.tz x < 2 ^ 32 := by omega
    exact (Nat.pow_lt_pow_iff_right (a := 2) (by decide)).1 h2
  obtain ⟨k, hk⟩ : ∃ k, 32 = Nm.tz x + (k + 1) := ⟨31 - Nm.tz x, by omega⟩
  have e32 : 4294967296 = 2 ^ Nm.tz x * (2 * 2 ^ k) := by
    have : (4294967296 : Nat) = 2 ^ 32 := by decide
    rw [this, hk, Nat.pow_add, Nat.pow_succ]; congr 1; omega
  have : x + 4294967296 * r = (Nm.od x + 2 * (2 ^ k * r)) * 2 ^ Nm.tz x := by
    rw [Nat.add_mul, hs.1, e32]; congr 1
    generalize 2 ^ Nm.tz x = p
    generalize 2 ^ k = q
    grind
  rw [this, Nm.tz_mul (by have := hs.2; omega)]
/-- Limbs that open with k noughts, and a limb that is not 0. -/
theorem tz_limbs {zs : List Int} (d : Nm.Dg zs) {k : Nat} (hk : k < zs.length) (h0 : ∀ j, j < k → zs.getD j 0 = 0) (hx : zs.getD k 0 ≠ 0) : (Nm.tz (Nm.val zs).toNat : Int) = 32 * (k : Int) + Nm.tz (zs.getD k 0).toNat := by
  have hd := d.getD k
  have e1 : Nm.val (zs.take k) = 0 := Nm.val_zeros (fun i hi => by
    have hi' : i < k := by simp at hi; omega
    rw [List.getD_eq_getElem?_getD, List.getElem?_take_of_lt hi', ← List.getD_eq_getElem?_getD]; exact h0 i hi')
  have e2 := Nm.val_append (zs.take k) (zs.drop k)
  rw [List.take_append_drop, e1, show (zs.take k).length = k by simp; omega] at e2
  have e3 : zs.drop k = zs.getD k 0 :: zs.drop (k + 1) := by
    rw [List.drop_eq_getElem_cons hk, List.getD_eq_getElem?_getD, List.getElem?_eq_getElem hk]; rfl
  have hr := Nm.val_nonneg (d.drop (k + 1))
  rw [e3] at e2
  simp only [Nm.val] at e2
  rw [Nm.pw_two] at e2
  generalize zs.getD k 0 = x at *
  generalize Nm.val (zs.drop (k + 1)) = r at *
  obtain ⟨X, rfl⟩ : ∃ X : Nat, x = X := ⟨x.toNat, by omega⟩
  obtain ⟨R, rfl⟩ : ∃ R : Nat, r = R := ⟨r.toNat, by omega⟩
  have e4 : (Nm.val zs).toNat = (X + 4294967296 * R) * 2 ^ (32 * k) := by
    rw [e2]
    have : (0 : Int) + ((2 ^ (32 * k) : Nat) : Int) * ((X : Int) + 4294967296 * (R : Int)) = (((X + 4294967296 * R) * 2 ^ (32 * k) : Nat) : Int) := by
      rw [Int.natCast_mul, Int.natCast_add, Int.natCast_mul, Int.mul_comm]; simp
    first | rw [this, Int.toNat_natCast] | (rw [Int.zero_add] at this; rw [Int.zero_add, this, Int.toNat_natCast])
  rw [e4, Nm.tz_up (by omega), Nm.tz_low (by omega) (by omega)]
  simp
  omega
def lzW (ng : Bool) (zs : List Int) : Int := if okB ng zs && !decide (zs.length = 0) then (Nm.tz (Nm.val zs).toNat : Int) else -1
theorem lz_impl (ng : Bool) (a : Option Addr) (cap : Nat) (zs : List Int) (w : World) (hT : Tb w 1 Lib.deBruijn32tab) (hs : Sl .u32 w (.slice a zs.length cap) zs) (hz : Nm.Dg zs) (hl : zs.length ≤ 1048576) :
    Calls Tryz.prog 95 #[.agg #[.bool ng, .slice a zs.length cap]] w fun e w' => e = .returned (.int .i64 (lzW ng zs)) ∧ Below w.heap.size w w' := by
  have hl' : zs.length ≤ 140737488355328 := by omega
  cases h1 : okB ng zs
  · have HR : Hid (lzW ng zs = -1) := hid (by unfold lzW; rw [h1]; rfl)
    go_enter Tryz.func95, Tryz.ntmps95
    go_wp2_with fail
    refine (ok_impl ng a cap zs _ (hs.alloc _) hl').mono ?_
    rintro e w1 ⟨rfl, hb1⟩
    go_wp2
    go_ret
    exact ⟨ret_int HR.out.symm, (by repeat (first | exact bz0 _ _ | refine bz1 ?_ | refine bz2 ?_ _ | refine bz3 ?_ _ | refine bz4 ?_ hb1 | refine bz5 ?_ _ | refine bz6 ?_ _ | refine bz7 ?_ hb1))⟩
  have HOK := hid h1
  go_enter Tryz.func95, Tryz.ntmps95
  go_wp2_with fail
  refine (ok_impl ng a cap zs _ (hs.alloc _) hl').mono ?_
  rintro e w1 ⟨rfl, hb1⟩
  obtain ⟨x10, x11⟩ := (Box.new w (.bool ng) (.slice a zs.length cap) 29).below hb1
  have s1 := (hs.alloc _).below hb1
  have hb : Below w.heap.size w w1 := (by repeat (first | exact bz0 _ _ | refine bz1 ?_ | refine bz2 ?_ _ | refine bz3 ?_ _ | refine bz4 ?_ hb1 | refine bz5 ?_ _ | refine bz6 ?_ _ | refine bz7 ?_ hb1))
  have hT1 := hT.below (by decide) hb
  clear hb1
  go_wp2_with fail
  obtain ⟨-, hx1, hx2, hx3⟩ := s1.cells
  go_loopw [11] (fun i wr => ∃ k : Nat, k ≤ zs.length ∧ i = .int .i64 k ∧ (∀ j, j < k → zs.getD j 0 = 0) ∧ wr = w1) (fun i _ => zs.length - (intOf i).toNat)
  case atStart => exact ⟨0, Nat.zero_le _, rfl, fun j hj => by omega, rfl⟩
  case round =>
    obtain ⟨k, hk, rfl, hpre, rfl⟩ := hrel
    have PRE := hid hpre
    clear hpre
    by_cases hlt : k < zs.length
    · obtain ⟨b, off, rfl, hc⟩ := hx3 (by omega)
      have h2 := hc k hlt
      clear hx3 hc
      have hdg := hz.getD k
      obtain ⟨x, hxk⟩ : ∃ x, x = zs.getD k 0 := ⟨_, rfl⟩
      rw [← hxk] at h2 hdg
      have HX := hid hxk
      clear hxk
      have hlt' : (k : Int) < (zs.length : Int) := by omega
      by_cases hx0 : x = 0
      · subst hx0
        go_wp2
        go_roundw
        case rel => exact ⟨k + 1, by omega, by go_num, fun j hj => by
          by_cases e : j = k
          · rw [e]; exact HX.out.symm
          · exact PRE.out j (by omega), (by first | rfl | trivial)⟩
        case measure => simp [intOf]; omega
      · have hne : (x != 0) = true := by rw [bne_iff_ne]; exact hx0
        have HR : Hid (lzW ng zs = 32 * (k : Int) + Nm.tz x.toNat) := hid (by
          unfold lzW; rw [HOK.out]
          have := tz_limbs hz hlt PRE.out (by rw [← HX.out]; exact hx0)
          rw [← HX.out] at this
          rw [decide_eq_false (show ¬ zs.length = 0 by omega)]
          exact this)
        have hxp : 0 < x := by omega
        have htz := (low_32 x hxp hdg.2).2
        clear hx0
        go_wp2_with fail
        refine (tz_32 x _ hT1 hxp hdg.2).mono ?_
        rintro e w2 ⟨rfl, rfl⟩
        go_wp2
        go_ret
        exact ⟨ret_int HR.out.symm, hb⟩
    · have hge : (zs.length : Int) ≤ (k : Int) := by omega
      have HR : Hid (lzW ng zs = -1) := hid (by
        unfold lzW; rw [HOK.out]
        by_cases hz0 : zs.length = 0
        · simp [hz0]
        · exfalso
          have hnz := (okB_nz HOK.out).1
          have := PRE.out (zs.length - 1) (by omega)
          refine hnz 0 ?_ rfl
          rw [List.getLast?_eq_getElem?, List.getElem?_eq_getElem (by omega)]
          rw [List.getD_eq_getElem?_getD, List.getElem?_eq_getElem (by omega)] at this
          simpa using this)
      clear hlt hx3
      go_wp2
      go_ret
      exact ⟨ret_int HR.out.symm, hb⟩
/-- A bit of a wide. -/
theorem lim_getD (a k : Nat) : (Nm.lim a).getD k 0 = ((a / 2 ^ (32 * k) % 4294967296 : Nat) : Int) := by
  induction k generalizing a with
  | zero =>
    by_cases h : a = 0
    · subst h; rw [Nm.lim_zero]; simp
    · rw [Nm.lim_pos h]; simp
  | succ k ih =>
    by_cases h : a = 0
    · subst h; rw [Nm.lim_zero]; simp
    · rw [Nm.lim_pos h, List.getD_cons_succ, ih, Nat.div_div_eq_div_mul]
      have : 4294967296 * 2 ^ (32 * k) = 2 ^ (32 * (k + 1)) := by
        rw [show 32 * (k + 1) = 32 + 32 * k by omega, Nat.pow_add]
      rw [this]
theorem bit_limb (a wh r : Nat) (hr : r < 32) : (Nm.lim a).getD wh 0 / ((2 ^ r : Nat) : Int) % 2 = ((a / 2 ^ (32 * wh + r) % 2 : Nat) : Int) := by
  rw [lim_getD]
  obtain ⟨k, hk⟩ : ∃ k, 32 = r + (k + 1) := ⟨31 - r, by omega⟩
  have e : 4294967296 = 2 ^ r * 2 ^ (k + 1) := by rw [← Nat.pow_add, ← hk]
  have h1 : a / 2 ^ (32 * wh) % 4294967296 / 2 ^ r % 2 = a / 2 ^ (32 * wh + r) % 2 := by
    rw [e, Nat.mod_mul_right_div_self, Nat.div_div_eq_div_mul, ← Nat.pow_add, Nat.pow_succ, Nat.mul_comm (2 ^ k) 2]
    exact Nat.mod_mul_right_mod _ 2 (2 ^ k)
  rw [← h1]; simp
end Go.Proofs.YtpalbhkihheogaaGreatDoor
namespace Go.Proofs.YtpalbhkihheogaaGreatDoor
set_option linter.unusedVariables false
set_option linter.unusedSimpArgs false
open Go.RowKit
/-- M and E of a finite float whose bits without sign are y. -/
def parM (L y : Int) : Int := if y / L = 0 then y % L else y % L + L
def parE (L q y : Int) : Int := if y / L = 0 then q else q + y / L - 1

theorem Tab.al {w : World} (h : Tab w) (o : Obj) : Tab (w.alloc o) := h.below ((Below.refl _ _).alloc (Nat.le_refl _) _)
theorem Tab.dr {w : World} (h : Tab w) : Tab w.drew := ⟨h.c0, h.c1, h.c2, h.c3, h.c4, h.c5, h.c6, h.c7, h.c8⟩
/-- A box of three cells that may be written. -/
structure R3 (w : World) (b : Nat) (v0 v1 v2 : Value) : Prop where
  c0 : w.cell? ⟨b, 0, none⟩ = some v0
  c1 : w.cell? ⟨b, 1, none⟩ = some v1
  c2 : w.cell? ⟨b, 2, none⟩ = some v2
  f0 : w.frozen? ⟨b, 0, none⟩ = false
  f1 : w.frozen? ⟨b, 1, none⟩ = false
  f2 : w.frozen? ⟨b, 2, none⟩ = false
theorem R3.below {w w' : World} {b : Nat} {v0 v1 v2 : Value} (h : R3 w b v0 v1 v2) (hb : Below w.heap.size w w') : R3 w' b v0 v1 v2 := by
  have hlt := World.block_lt_of_cell? w _ h.c0
  exact ⟨(hb.cell (p := ⟨b, 0, none⟩) hlt).trans h.c0, (hb.cell (p := ⟨b, 1, none⟩) hlt).trans h.c1, (hb.cell (p := ⟨b, 2, none⟩) hlt).trans h.c2,
    (hb.frozen (p := ⟨b, 0, none⟩) hlt).trans h.f0, (hb.frozen (p := ⟨b, 1, none⟩) hlt).trans h.f1, (hb.frozen (p := ⟨b, 2, none⟩) hlt).trans h.f2⟩
theorem R3.new (w : World) (v0 v1 v2 : Value) (t : TypeId) : R3 (w.alloc (.cells #[v0, v1, v2] t)) w.heap.size v0 v1 v2 := ⟨by simp, by simp, by simp, by simp, by simp, by simp⟩
theorem R3.dr {w : World} {b : Nat} {v0 v1 v2 : Value} (h : R3 w b v0 v1 v2) : R3 w.drew b v0 v1 v2 := ⟨h.c0, h.c1, h.c2, h.f0, h.f1, h.f2⟩
theorem R3.al {w : World} {b : Nat} {v0 v1 v2 : Value} (h : R3 w b v0 v1 v2) (o : Obj) : R3 (w.alloc o) b v0 v1 v2 := h.below ((Below.refl _ _).alloc (Nat.le_refl _) _)

theorem R3.other {w : World} {b : Nat} {v0 v1 v2 : Value} (h : R3 w b v0 v1 v2) {p : Addr} (hp : b ≠ p.block) (u : Value) : R3 (w.setCell p u) b v0 v1 v2 := by
  have e := Below.heap_setCell w p u b hp
  exact ⟨(World.cell?_of_block (a := ⟨b, 0, none⟩) e).trans h.c0, (World.cell?_of_block (a := ⟨b, 1, none⟩) e).trans h.c1, (World.cell?_of_block (a := ⟨b, 2, none⟩) e).trans h.c2,
    (World.frozen?_of_block (a := ⟨b, 0, none⟩) e).trans h.f0, (World.frozen?_of_block (a := ⟨b, 1, none⟩) e).trans h.f1, (World.frozen?_of_block (a := ⟨b, 2, none⟩) e).trans h.f2⟩
theorem R3.set {w : World} {b : Nat} {v0 v1 v2 : Value} (h : R3 w b v0 v1 v2) (a0 a1 a2 : Value) : R3 (((w.setCell ⟨b, 0, none⟩ a0).setCell ⟨b, 1, none⟩ a1).setCell ⟨b, 2, none⟩ a2) b a0 a1 a2 := by
  obtain ⟨h0, h1, h2, f0, f1, f2⟩ := h
  exact ⟨by simp [go_sem, h0, h1, h2], by simp [go_sem, h0, h1, h2], by simp [go_sem, h0, h1, h2], by simp [go_sem, f0, f1, f2], by simp [go_sem, f0, f1, f2], by simp [go_sem, f0, f1, f2]⟩
end Go.Proofs.YtpalbhkihheogaaGreatDoor
