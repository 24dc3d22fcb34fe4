/-
  What is needed of NumsF, Rnd, WideB, IA, WideC, WideK, WideS, WideT.
-/
import Derived.Laws.MathBits
import Derived.Lib.TrailingZeros
import Derived.Deep.RegionWith
import Derived.Deep.DeepCutAuto
import Derived.Deep.RegionHeldLaw
import Derived.Deep.DrawnRows
import Derived.Test.YtnliofakkkjpoaaGreatDoorA06
import Derived.Test.YtnliofakkkjpoaaGreatDoorA08
set_option maxHeartbeats 16000000
set_option maxRecDepth 1000000
namespace Go.Proofs.YtnliofakkkjpoaaGreatDoor
set_option linter.unusedVariables false
namespace Nm
/-- m times 2 to the n, cut. (m is not below 0.) -/
def shM (m n : Int) : Int := if n < 0 then m / (2 : Int) ^ (-n).toNat else m * (2 : Int) ^ n.toNat
/-- A wide's value shifted: towards 0. -/
def shV (ng : Bool) (m n : Int) : Int := if ng then - shM m n else shM m n
theorem pw_pow (n : Nat) : pw n = (2 : Int) ^ (32 * n) := by rw [pw_two]; simp
theorem shM_up {m n : Int} {wh r : Nat} (h0 : 0 ≤ n) (hq : n / 32 = (wh : Int)) (hm : n % 32 = (r : Int)) : pw wh * ((2 : Int) ^ r * m) = shM m n := by
  unfold shM
  rw [if_neg (by omega), pw_pow, show n.toNat = 32 * wh + r by omega, Int.pow_add, Int.mul_comm m, Int.mul_assoc]
theorem shM_down {m n : Int} {wh r : Nat} (h0 : n < 0) (hq : -n / 32 = (wh : Int)) (hm : -n % 32 = (r : Int)) : m / pw wh / (2 : Int) ^ r = shM m n := by
  unfold shM
  have hp := pw_pos wh
  rw [if_pos h0, show (-n).toNat = 32 * wh + r by omega, Int.pow_add, ← pw_pow, Int.ediv_ediv_of_nonneg (by omega)]
theorem shV_wv {ng : Bool} {m n : Int} {os : List Int} (h : val os = shM m n) : shV ng m n = wv ng os := by unfold shV wv; rw [h]
theorem bl_le_iff (a k : Nat) : bitLen a ≤ k ↔ a < 2 ^ k := by
  have h := bitLen_spec a
  constructor
  · intro hk
    exact Nat.lt_of_lt_of_le h.1 (Nat.pow_le_pow_right (by decide) hk)
  · intro hk
    by_cases h0 : a = 0
    · subst h0; simp [bitLen]
    · have h1 := h.2 h0
      have h2 := Nat.lt_of_le_of_lt h1 hk
      have := (Nat.pow_lt_pow_iff_right (a := 2) (by decide)).1 h2
      omega
theorem bl_zero : bitLen 0 = 0 := rfl
theorem bl_mul {a : Nat} (h : a ≠ 0) (d : Nat) : bitLen (a * 2 ^ d) = bitLen a + d := by
  have e : a * 2 ^ d / 2 ^ d = a := Nat.mul_div_cancel _ (Nat.two_pow_pos d)
  have := bitLen_shift (a * 2 ^ d) d (by rw [e]; exact h)
  rw [this, e]; omega
theorem bl_mono {a b : Nat} (h : a ≤ b) : bitLen a ≤ bitLen b := (bl_le_iff a _).2 (Nat.lt_of_le_of_lt h (bitLen_spec b).1)
/-- A shift of a number that is not below 0. -/
def sh (a : Nat) (n : Int) : Nat := if n < 0 then a / 2 ^ (-n).toNat else a * 2 ^ n.toNat
theorem shM_sh (a : Nat) (n : Int) : shM (a : Int) n = (sh a n : Nat) := by
  unfold shM sh
  split <;> simp
theorem shV_sh (a : Nat) (n : Int) : shV false (a : Int) n = (sh a n : Nat) := by unfold shV; simpa using shM_sh a n

end Nm
set_option linter.unusedSimpArgs false
open Go.RowKit Go.Deep
/-- -1, 0 or 1, as limbs are less, the same, or greater (the longer is the greater; else from the top down). -/
def cmpFrom (xs ys : List Int) : Nat → Int
  | 0 => 0
  | n + 1 => if xs.getD n 0 < ys.getD n 0 then -1 else if ys.getD n 0 < xs.getD n 0 then 1 else cmpFrom xs ys n
def cmpL (xs ys : List Int) : Int := if xs.length < ys.length then -1 else if ys.length < xs.length then 1 else cmpFrom xs ys xs.length
theorem cmpFrom_rng (xs ys : List Int) (n : Nat) : -1 ≤ cmpFrom xs ys n ∧ cmpFrom xs ys n ≤ 1 := by
  induction n with
  | zero => simp [cmpFrom]
  | succ n ih =>
    unfold cmpFrom
    split
    · omega
    · split <;> omega
theorem cmpL_lt {xs ys : List Int} (h : xs.length < ys.length) : cmpL xs ys = -1 := by unfold cmpL; rw [if_pos h]
theorem cmpL_gt {xs ys : List Int} (h : ys.length < xs.length) : cmpL xs ys = 1 := by unfold cmpL; rw [if_neg (by omega), if_pos h]
theorem cmpL_eq {xs ys : List Int} (h : xs.length = ys.length) : cmpL xs ys = cmpFrom xs ys xs.length := by unfold cmpL; rw [if_neg (by omega), if_neg (by omega)]

theorem mag_any (a a' : Option Addr) (cap cap' : Nat) (xs ys : List Int) (w : World) (hx : Sl .u32 w (.slice a xs.length cap) xs) (hy : Sl .u32 w (.slice a' ys.length cap') ys) (hl : xs.length ≤ 140737488355328) (hl' : ys.length ≤ 140737488355328) :
    Calls Tryz.prog 123 #[.slice a xs.length cap, .slice a' ys.length cap'] w fun e w' => e = .returned (.int .i64 (cmpL xs ys)) ∧ Below w.heap.size w w' := by
  obtain ⟨-, hx1, hx2, hx3⟩ := hx.cells
  obtain ⟨-, hy1, hy2, hy3⟩ := hy.cells
  by_cases hn : xs.length = ys.length
  · have hne : ((xs.length : Int) != (ys.length : Int)) = false := by simp [hn]
    have HN : Hid (cmpL xs ys = cmpFrom xs ys xs.length) := hid (cmpL_eq hn)
    have hn1 : xs.length ≤ ys.length := by omega
    have hn2 : ys.length ≤ xs.length := by omega
    clear hn
    go_enter Tryz.func123, Tryz.ntmps123
    go_wp2_with fail
    go_loopw [5] (fun i wr => ∃ n : Nat, n ≤ xs.length ∧ i = .int .i64 ((n : Int) - 1) ∧ cmpFrom xs ys xs.length = cmpFrom xs ys n ∧ Below w.heap.size w wr) (fun i _ => (intOf i + 1).toNat)
    case atStart => exact ⟨xs.length, Nat.le_refl _, rfl, rfl, Below.refl _ _⟩
    case round =>
      obtain ⟨n, hk, rfl, hpre, hb⟩ := hrel
      have PRE := hid hpre
      clear hpre
      by_cases h0 : n = 0
      · subst h0
        have HR : Hid (cmpL xs ys = 0) := hid (by rw [HN.out, PRE.out]; rfl)
        clear hx3 hy3
        go_wp2
        go_ret
        exact ⟨ret_int HR.out.symm, hb⟩
      · obtain ⟨m, rfl⟩ : ∃ m, n = m + 1 := ⟨n - 1, by omega⟩
        have em : (((m + 1 : Nat) : Int) - 1) = (m : Int) := by omega
        rw [em]
        clear em h0
        obtain ⟨b, off, rfl, hcx⟩ := hx3 (by omega)
        obtain ⟨b', off', rfl, hcy⟩ := hy3 (by omega)
        have h1 := hcx m (by omega)
        have h2 := hcy m (by omega)
        have h1 : wr.cell? ⟨b, off + m, none⟩ = some (.int .u32 (xs.getD m 0)) := (hb.cell (p := ⟨b, off + m, none⟩) (World.block_lt_of_cell? w _ h1)).trans h1
        have h2 : wr.cell? ⟨b', off' + m, none⟩ = some (.int .u32 (ys.getD m 0)) := (hb.cell (p := ⟨b', off' + m, none⟩) (World.block_lt_of_cell? w _ h2)).trans h2
        clear hx3 hy3 hcx hcy
        obtain ⟨x, hxk⟩ : ∃ x, x = xs.getD m 0 := ⟨_, rfl⟩
        obtain ⟨y, hyk⟩ : ∃ y, y = ys.getD m 0 := ⟨_, rfl⟩
        have ST : Hid (cmpFrom xs ys xs.length = if x < y then -1 else if y < x then 1 else cmpFrom xs ys m) := hid (by rw [PRE.out, hxk, hyk]; rfl)
        rw [← hxk] at h1; rw [← hyk] at h2
        clear hxk hyk
        by_cases hlt : x < y
        · have HR : Hid (cmpL xs ys = -1) := hid (by rw [HN.out, ST.out, if_pos hlt])
          go_wp2
          go_region
          all_goals go_wp2
          all_goals go_ret
          all_goals exact ⟨ret_int HR.out.symm, (by repeat (first | exact bz0 _ _ | refine bz1 ?_ | refine bz2 ?_ _ | refine bz3 ?_ _ | refine bz4 ?_ hb | refine bz5 ?_ _ | refine bz6 ?_ _ | refine bz7 ?_ hb))⟩
        by_cases hgt : y < x
        · have HR : Hid (cmpL xs ys = 1) := hid (by rw [HN.out, ST.out, if_neg hlt, if_pos hgt])
          go_wp2
          go_region
          all_goals go_wp2
          all_goals go_region
          all_goals go_wp2
          all_goals go_ret
          all_goals exact ⟨ret_int HR.out.symm, (by repeat (first | exact bz0 _ _ | refine bz1 ?_ | refine bz2 ?_ _ | refine bz3 ?_ _ | refine bz4 ?_ hb | refine bz5 ?_ _ | refine bz6 ?_ _ | refine bz7 ?_ hb))⟩
        · have HR : Hid (cmpFrom xs ys xs.length = cmpFrom xs ys m) := hid (by rw [ST.out, if_neg hlt, if_neg hgt])
          go_wp2
          go_region
          all_goals go_wp2
          all_goals go_region
          all_goals go_wp2
          all_goals go_roundw
          case rel => exact ⟨m, by omega, rfl, HR.out, (by repeat (first | exact bz0 _ _ | refine bz1 ?_ | refine bz2 ?_ _ | refine bz3 ?_ _ | refine bz4 ?_ hb | refine bz5 ?_ _ | refine bz6 ?_ _ | refine bz7 ?_ hb))⟩
          case measure => simp [intOf]
  · have hne : ((xs.length : Int) != (ys.length : Int)) = true := by simp; omega
    clear hx3 hy3
    by_cases hlt : xs.length < ys.length
    · have HR := hid (cmpL_lt hlt)
      go_enter Tryz.func123, Tryz.ntmps123
      go_wp2
      go_ret
      exact ⟨ret_int HR.out.symm, Below.refl _ _⟩
    · have hgt : ys.length < xs.length := by omega
      have HR := hid (cmpL_gt hgt)
      go_enter Tryz.func123, Tryz.ntmps123
      go_wp2
      go_ret
      exact ⟨ret_int HR.out.symm, Below.refl _ _⟩

/-- A table of bytes in the block g. -/
def Tb (w : World) (g : Nat) (zs : List Nat) : Prop := ∀ i, i < zs.length → w.cell? ⟨g, i, none⟩ = some (.int .u8 ((zs.getD i 0 : Nat) : Int))
theorem Tb.below {w w' : World} {g : Nat} {zs : List Nat} (h : Tb w g zs) (hp : 0 < zs.length) (hb : Below w.heap.size w w') : Tb w' g zs := fun i hi =>
  (hb.cell (p := ⟨g, i, none⟩) (World.block_lt_of_cell? w ⟨g, i, none⟩ (h i hi))).trans (h i hi)
theorem cmpL_rng (xs ys : List Int) : -1 ≤ cmpL xs ys ∧ cmpL xs ys ≤ 1 := by
  have := cmpFrom_rng xs ys xs.length
  unfold cmpL
  split
  · omega
  · split <;> omega

/-- A right wide's limbs end in no nought. -/
theorem okB_nz {ng : Bool} {zs : List Int} (h : okB ng zs = true) : Nm.Nz zs ∧ zs.length ≤ 200 := by
  unfold okB at h
  split at h
  · rename_i h0
    have : zs = [] := List.eq_nil_of_length_eq_zero h0
    subst this; exact ⟨Nm.Nz.nil, by simp⟩
  · rename_i h0
    simp at h
    refine ⟨fun z hz => ?_, h.1⟩
    have h2 := h.2
    rw [List.getLast?_eq_getElem?] at hz
    rw [hz] at h2
    simpa using h2
theorem cmpFrom_F (xs ys : List Int) (n : Nat) : cmpFrom xs ys n = Nm.cmpF xs ys n := by
  induction n with
  | zero => rfl
  | succ n ih => simp only [cmpFrom, Nm.cmpF, ih]
theorem cmpL_val {xs ys : List Int} (dx : Nm.Dg xs) (dy : Nm.Dg ys) (nx : Nm.Nz xs) (ny : Nm.Nz ys) : (cmpL xs ys < 0 ↔ Nm.val xs < Nm.val ys) ∧ (0 < cmpL xs ys ↔ Nm.val ys < Nm.val xs) := by
  have e : cmpL xs ys = Nm.cmpB xs ys := by unfold cmpL Nm.cmpB; rw [cmpFrom_F]
  rw [e]; exact Nm.cmpB_val dx dy nx ny
theorem keep3 {w w' : World} {b b' : Nat} {v0 v1 u1 : Value} (h0 : w.cell? ⟨b, 0, none⟩ = some v0) (h1 : w.cell? ⟨b, 1, none⟩ = some v1) (k1 : w.cell? ⟨b', 1, none⟩ = some u1) (hb : Below w.heap.size w w') :
    w'.cell? ⟨b, 0, none⟩ = some v0 ∧ w'.cell? ⟨b, 1, none⟩ = some v1 ∧ w'.cell? ⟨b', 1, none⟩ = some u1 :=
  ⟨(hb.cell (World.block_lt_of_cell? w _ h0)).trans h0, (hb.cell (World.block_lt_of_cell? w _ h1)).trans h1, (hb.cell (World.block_lt_of_cell? w _ k1)).trans k1⟩
theorem keep3_set {w : World} {b b' z : Nat} {v0 v1 u1 : Value} (h0 : w.cell? ⟨b, 0, none⟩ = some v0) (h1 : w.cell? ⟨b, 1, none⟩ = some v1) (k1 : w.cell? ⟨b', 1, none⟩ = some u1) (n1 : b ≠ z) (n2 : b' ≠ z) (p q : Value) :
    ((w.setCell ⟨z, 0, none⟩ p).setCell ⟨z, 1, none⟩ q).cell? ⟨b, 0, none⟩ = some v0 ∧ ((w.setCell ⟨z, 0, none⟩ p).setCell ⟨z, 1, none⟩ q).cell? ⟨b, 1, none⟩ = some v1 ∧ ((w.setCell ⟨z, 0, none⟩ p).setCell ⟨z, 1, none⟩ q).cell? ⟨b', 1, none⟩ = some u1 := by
  have e1 := Below.heap_setCell w ⟨z, 0, none⟩ p b n1
  have e2 := Below.heap_setCell (w.setCell ⟨z, 0, none⟩ p) ⟨z, 1, none⟩ q b n1
  have f1 := Below.heap_setCell w ⟨z, 0, none⟩ p b' n2
  have f2 := Below.heap_setCell (w.setCell ⟨z, 0, none⟩ p) ⟨z, 1, none⟩ q b' n2
  exact ⟨(World.cell?_of_block (a := ⟨b, 0, none⟩) (e2.trans e1)).trans h0, (World.cell?_of_block (a := ⟨b, 1, none⟩) (e2.trans e1)).trans h1, (World.cell?_of_block (a := ⟨b', 1, none⟩) (f2.trans f1)).trans k1⟩
theorem l1add_same (na nb : Bool) (a b : Option Addr) (cap cap' : Nat) (xs ys : List Int) (w : World) (hx : Sl .u32 w (.slice a xs.length cap) xs) (hy : Sl .u32 w (.slice b ys.length cap') ys) (dx : Nm.Dg xs) (dy : Nm.Dg ys) (nx : Nm.Nz xs) (ny : Nm.Nz ys) (hl : xs.length ≤ 500000) (hl' : ys.length ≤ 500000) (x : Int) (hx0 : x = Nm.wv na xs + Nm.wv nb ys) (hc : (na == nb) = true) :
    Calls Tryz.prog 59 #[.agg #[.bool na, .slice a xs.length cap], .agg #[.bool nb, .slice b ys.length cap']] w fun e w' => ∃ a' c', e = .returned (.agg #[.bool (Nm.wn x), .slice a' (Nm.wl x).length c']) ∧ Own w' w.heap.size a' c' (Nm.wl x) ∧ Below w.heap.size w w' := by
  have HX : Hid (∀ os, Nm.val os = Nm.val xs + Nm.val ys → x = Nm.wv na os) := hid (fun os h => by
    have hc' : na = nb := by simpa using hc
    rw [hx0, ← hc']; exact Nm.wv_same h)
  clear hx0
  go_enter Tryz.func59, Tryz.ntmps59
  have Bx := ((Box.new w (.bool na) (.slice a xs.length cap) 29).alloc (.cells #[.bool nb, .slice b ys.length cap'] 29)).alloc (.cells #[.bool false, .slice none 0 0] 29)
  have By := (Box.new2 w (.cells #[.bool na, .slice a xs.length cap] 29) (.bool nb) (.slice b ys.length cap') 29).alloc (.cells #[.bool false, .slice none 0 0] 29)
  have Rz : R2 (((w.alloc (.cells #[.bool na, .slice a xs.length cap] 29)).alloc (.cells #[.bool nb, .slice b ys.length cap'] 29)).alloc (.cells #[.bool false, .slice none 0 0] 29)) (w.heap.size + 1 + 1) (.bool false) (.slice none 0 0) := by simpa using R2.new2 (w.alloc (.cells #[.bool na, .slice a xs.length cap] 29)) (.cells #[.bool nb, .slice b ys.length cap'] 29) (.bool false) (.slice none 0 0) 29
  have sx := ((hx.alloc (.cells #[.bool na, .slice a xs.length cap] 29)).alloc (.cells #[.bool nb, .slice b ys.length cap'] 29)).alloc (.cells #[.bool false, .slice none 0 0] 29)
  have sy := ((hy.alloc (.cells #[.bool na, .slice a xs.length cap] 29)).alloc (.cells #[.bool nb, .slice b ys.length cap'] 29)).alloc (.cells #[.bool false, .slice none 0 0] 29)
  have hbW : Below w.heap.size w (((w.alloc (.cells #[.bool na, .slice a xs.length cap] 29)).alloc (.cells #[.bool nb, .slice b ys.length cap'] 29)).alloc (.cells #[.bool false, .slice none 0 0] 29)) := (by repeat (first | exact bz0 _ _ | refine bz1 ?_ | refine bz2 ?_ _ | refine bz3 ?_ _ | refine bz5 ?_ _ | refine bz6 ?_ _))
  go_wp2_with fail
  generalize ((w.alloc (.cells #[.bool na, .slice a xs.length cap] 29)).alloc (.cells #[.bool nb, .slice b ys.length cap'] 29)).alloc (.cells #[.bool false, .slice none 0 0] 29) = W at Bx By Rz sx sy hbW ⊢
  have lW : w.heap.size + 1 + 1 < W.heap.size := World.block_lt_of_cell? W _ Rz.c0
  go_region_held3 (fun w' => w'.cell? ⟨w.heap.size, 0, none⟩ = some (.bool na) ∧ w'.cell? ⟨w.heap.size, 1, none⟩ = some (.slice a xs.length cap) ∧ w'.cell? ⟨w.heap.size + 1, 1, none⟩ = some (.slice b ys.length cap')) (first | assumption | (refine keep3_set k3.1 k3.2.1 k3.2.2 ?_ ?_ _ _ <;> omega) | exact ⟨Bx.1, Bx.2, By.2⟩)
    (first
      | (go_at_call 127; refine (plus_any a b cap cap' xs ys _ (by exact sx.drew) (by exact sy.drew) dx dy hl hl' ).mono ?_; rintro e w2 ⟨a2, c2, os, rfl, ho2, dos, hv, hlo, hb2⟩; have k2 := keep3 (w := W.drew) Bx.1 Bx.2 By.2 hb2; have Rz2 := Rz.drew.below hb2)
      | (go_at_call 124; refine (made_v na a2 c2 os _ (by exact ho2.sl) dos hlo x (HX.out os hv)).mono ?_; rintro e w3 ⟨a3, c3, rfl, ho3, hb3⟩; have k3 := keep3 k2.1 k2.2.1 k2.2.2 hb3; have Rz3 := Rz2.below hb3; obtain ⟨z0, z1, zf0, zf1⟩ := Rz3))
  have l2 : W.heap.size ≤ w2.heap.size := hb2.size
  have l3 : w2.heap.size ≤ w3.heap.size := hb3.size
  go_wp2
  refine bodyPost_ret (v := .agg #[.bool (Nm.wn x), .slice a3 (Nm.wl x).length c3]) (by simp [results, Tryz.results59, go_sem, z0, z1]) rfl ⟨a3, c3, rfl, ?_, ?_⟩
  · exact Own.base ((ho3.setBelow (by simp; omega) _).setBelow (by simp; omega) _) (by omega)
  · exact ((bel_go (bel_go (Below.drew hbW) hb2) hb3).setCell (by simp; omega) _).setCell (by simp; omega) _
theorem l1add_low (na nb : Bool) (a b : Option Addr) (cap cap' : Nat) (xs ys : List Int) (w : World) (hx : Sl .u32 w (.slice a xs.length cap) xs) (hy : Sl .u32 w (.slice b ys.length cap') ys) (dx : Nm.Dg xs) (dy : Nm.Dg ys) (nx : Nm.Nz xs) (ny : Nm.Nz ys) (hl : xs.length ≤ 500000) (hl' : ys.length ≤ 500000) (x : Int) (hx0 : x = Nm.wv na xs + Nm.wv nb ys) (hc : (na == nb) = false) (hm : cmpL xs ys < 0) :
    Calls Tryz.prog 59 #[.agg #[.bool na, .slice a xs.length cap], .agg #[.bool nb, .slice b ys.length cap']] w fun e w' => ∃ a' c', e = .returned (.agg #[.bool (Nm.wn x), .slice a' (Nm.wl x).length c']) ∧ Own w' w.heap.size a' c' (Nm.wl x) ∧ Below w.heap.size w w' := by
  have HX : Hid (∀ os, Nm.val os = Nm.val ys - Nm.val xs → x = Nm.wv nb os) := hid (fun os h => by rw [hx0]; exact Nm.wv_less' hc h)
  have hge : Nm.val xs ≤ Nm.val ys := by have := (cmpL_val dx dy nx ny).1; omega
  have hln : xs.length ≤ ys.length := Nm.len_le_of_val dy dx nx hge
  have HGE := hid (And.intro hge hln)
  clear hx0 hge hln
  go_enter Tryz.func59, Tryz.ntmps59
  have Bx := ((Box.new w (.bool na) (.slice a xs.length cap) 29).alloc (.cells #[.bool nb, .slice b ys.length cap'] 29)).alloc (.cells #[.bool false, .slice none 0 0] 29)
  have By := (Box.new2 w (.cells #[.bool na, .slice a xs.length cap] 29) (.bool nb) (.slice b ys.length cap') 29).alloc (.cells #[.bool false, .slice none 0 0] 29)
  have Rz : R2 (((w.alloc (.cells #[.bool na, .slice a xs.length cap] 29)).alloc (.cells #[.bool nb, .slice b ys.length cap'] 29)).alloc (.cells #[.bool false, .slice none 0 0] 29)) (w.heap.size + 1 + 1) (.bool false) (.slice none 0 0) := by simpa using R2.new2 (w.alloc (.cells #[.bool na, .slice a xs.length cap] 29)) (.cells #[.bool nb, .slice b ys.length cap'] 29) (.bool false) (.slice none 0 0) 29
  have sx := ((hx.alloc (.cells #[.bool na, .slice a xs.length cap] 29)).alloc (.cells #[.bool nb, .slice b ys.length cap'] 29)).alloc (.cells #[.bool false, .slice none 0 0] 29)
  have sy := ((hy.alloc (.cells #[.bool na, .slice a xs.length cap] 29)).alloc (.cells #[.bool nb, .slice b ys.length cap'] 29)).alloc (.cells #[.bool false, .slice none 0 0] 29)
  have hbW : Below w.heap.size w (((w.alloc (.cells #[.bool na, .slice a xs.length cap] 29)).alloc (.cells #[.bool nb, .slice b ys.length cap'] 29)).alloc (.cells #[.bool false, .slice none 0 0] 29)) := (by repeat (first | exact bz0 _ _ | refine bz1 ?_ | refine bz2 ?_ _ | refine bz3 ?_ _ | refine bz5 ?_ _ | refine bz6 ?_ _))
  go_wp2_with fail
  refine (mag_any a b cap cap' xs ys _ sx sy (by omega) (by omega)).mono ?_
  rintro e W ⟨rfl, hb1⟩
  replace Bx := Bx.below hb1
  replace By := By.below hb1
  replace Rz := Rz.below hb1
  replace sx := sx.below hb1
  replace sy := sy.below hb1
  replace hbW := bel_go hbW hb1
  have lW : w.heap.size + 1 + 1 < W.heap.size := World.block_lt_of_cell? W _ Rz.c0
  clear hb1
  go_wp2_with fail
  go_region_held3 (fun w' => w'.cell? ⟨w.heap.size + 1, 0, none⟩ = some (.bool nb) ∧ w'.cell? ⟨w.heap.size + 1, 1, none⟩ = some (.slice b ys.length cap') ∧ w'.cell? ⟨w.heap.size, 1, none⟩ = some (.slice a xs.length cap)) (first | assumption | (refine keep3_set k3.1 k3.2.1 k3.2.2 ?_ ?_ _ _ <;> omega) | exact ⟨By.1, By.2, Bx.2⟩)
    (first
      | (go_at_call 128; refine (less_any b a cap' cap ys xs _ (by exact sy.drew) (by exact sx.drew) dy dx hl' HGE.out.2 HGE.out.1).mono ?_; rintro e w2 ⟨a2, c2, os, rfl, ho2, dos, hv, hlo, hb2⟩; have k2 := keep3 (w := W.drew) By.1 By.2 Bx.2 hb2; have Rz2 := Rz.drew.below hb2)
      | (go_at_call 124; refine (made_v nb a2 c2 os _ (by exact ho2.sl) dos hlo x (HX.out os hv)).mono ?_; rintro e w3 ⟨a3, c3, rfl, ho3, hb3⟩; have k3 := keep3 k2.1 k2.2.1 k2.2.2 hb3; have Rz3 := Rz2.below hb3; obtain ⟨z0, z1, zf0, zf1⟩ := Rz3))
  have l2 : W.heap.size ≤ w2.heap.size := hb2.size
  have l3 : w2.heap.size ≤ w3.heap.size := hb3.size
  go_wp2
  refine bodyPost_ret (v := .agg #[.bool (Nm.wn x), .slice a3 (Nm.wl x).length c3]) (by simp [results, Tryz.results59, go_sem, z0, z1]) rfl ⟨a3, c3, rfl, ?_, ?_⟩
  · exact Own.base ((ho3.setBelow (by simp; omega) _).setBelow (by simp; omega) _) (by omega)
  · exact ((bel_go (bel_go (Below.drew hbW) hb2) hb3).setCell (by simp; omega) _).setCell (by simp; omega) _
theorem l1add_high (na nb : Bool) (a b : Option Addr) (cap cap' : Nat) (xs ys : List Int) (w : World) (hx : Sl .u32 w (.slice a xs.length cap) xs) (hy : Sl .u32 w (.slice b ys.length cap') ys) (dx : Nm.Dg xs) (dy : Nm.Dg ys) (nx : Nm.Nz xs) (ny : Nm.Nz ys) (hl : xs.length ≤ 500000) (hl' : ys.length ≤ 500000) (x : Int) (hx0 : x = Nm.wv na xs + Nm.wv nb ys) (hc : (na == nb) = false) (hm : ¬ cmpL xs ys < 0) :
    Calls Tryz.prog 59 #[.agg #[.bool na, .slice a xs.length cap], .agg #[.bool nb, .slice b ys.length cap']] w fun e w' => ∃ a' c', e = .returned (.agg #[.bool (Nm.wn x), .slice a' (Nm.wl x).length c']) ∧ Own w' w.heap.size a' c' (Nm.wl x) ∧ Below w.heap.size w w' := by
  have HX : Hid (∀ os, Nm.val os = Nm.val xs - Nm.val ys → x = Nm.wv na os) := hid (fun os h => by rw [hx0]; exact Nm.wv_less hc h)
  have hge : Nm.val ys ≤ Nm.val xs := by have := (cmpL_val dx dy nx ny).1; omega
  have hln : ys.length ≤ xs.length := Nm.len_le_of_val dx dy ny hge
  have HGE := hid (And.intro hge hln)
  clear hx0 hge hln
  go_enter Tryz.func59, Tryz.ntmps59
  have Bx := ((Box.new w (.bool na) (.slice a xs.length cap) 29).alloc (.cells #[.bool nb, .slice b ys.length cap'] 29)).alloc (.cells #[.bool false, .slice none 0 0] 29)
  have By := (Box.new2 w (.cells #[.bool na, .slice a xs.length cap] 29) (.bool nb) (.slice b ys.length cap') 29).alloc (.cells #[.bool false, .slice none 0 0] 29)
  have Rz : R2 (((w.alloc (.cells #[.bool na, .slice a xs.length cap] 29)).alloc (.cells #[.bool nb, .slice b ys.length cap'] 29)).alloc (.cells #[.bool false, .slice none 0 0] 29)) (w.heap.size + 1 + 1) (.bool false) (.slice none 0 0) := by simpa using R2.new2 (w.alloc (.cells #[.bool na, .slice a xs.length cap] 29)) (.cells #[.bool nb, .slice b ys.length cap'] 29) (.bool false) (.slice none 0 0) 29
  have sx := ((hx.alloc (.cells #[.bool na, .slice a xs.length cap] 29)).alloc (.cells #[.bool nb, .slice b ys.length cap'] 29)).alloc (.cells #[.bool false, .slice none 0 0] 29)
  have sy := ((hy.alloc (.cells #[.bool na, .slice a xs.length cap] 29)).alloc (.cells #[.bool nb, .slice b ys.length cap'] 29)).alloc (.cells #[.bool false, .slice none 0 0] 29)
  have hbW : Below w.heap.size w (((w.alloc (.cells #[.bool na, .slice a xs.length cap] 29)).alloc (.cells #[.bool nb, .slice b ys.length cap'] 29)).alloc (.cells #[.bool false, .slice none 0 0] 29)) := (by repeat (first | exact bz0 _ _ | refine bz1 ?_ | refine bz2 ?_ _ | refine bz3 ?_ _ | refine bz5 ?_ _ | refine bz6 ?_ _))
  go_wp2_with fail
  refine (mag_any a b cap cap' xs ys _ sx sy (by omega) (by omega)).mono ?_
  rintro e W ⟨rfl, hb1⟩
  replace Bx := Bx.below hb1
  replace By := By.below hb1
  replace Rz := Rz.below hb1
  replace sx := sx.below hb1
  replace sy := sy.below hb1
  replace hbW := bel_go hbW hb1
  have lW : w.heap.size + 1 + 1 < W.heap.size := World.block_lt_of_cell? W _ Rz.c0
  clear hb1
  go_wp2_with fail
  go_region_held3 (fun w' => w'.cell? ⟨w.heap.size, 0, none⟩ = some (.bool na) ∧ w'.cell? ⟨w.heap.size, 1, none⟩ = some (.slice a xs.length cap) ∧ w'.cell? ⟨w.heap.size + 1, 1, none⟩ = some (.slice b ys.length cap')) (first | assumption | (refine keep3_set k3.1 k3.2.1 k3.2.2 ?_ ?_ _ _ <;> omega) | exact ⟨Bx.1, Bx.2, By.2⟩)
    (first
      | (go_at_call 128; refine (less_any a b cap cap' xs ys _ (by exact sx.drew) (by exact sy.drew) dx dy hl HGE.out.2 HGE.out.1).mono ?_; rintro e w2 ⟨a2, c2, os, rfl, ho2, dos, hv, hlo, hb2⟩; have k2 := keep3 (w := W.drew) Bx.1 Bx.2 By.2 hb2; have Rz2 := Rz.drew.below hb2)
      | (go_at_call 124; refine (made_v na a2 c2 os _ (by exact ho2.sl) dos hlo x (HX.out os hv)).mono ?_; rintro e w3 ⟨a3, c3, rfl, ho3, hb3⟩; have k3 := keep3 k2.1 k2.2.1 k2.2.2 hb3; have Rz3 := Rz2.below hb3; obtain ⟨z0, z1, zf0, zf1⟩ := Rz3))
  have l2 : W.heap.size ≤ w2.heap.size := hb2.size
  have l3 : w2.heap.size ≤ w3.heap.size := hb3.size
  go_wp2
  refine bodyPost_ret (v := .agg #[.bool (Nm.wn x), .slice a3 (Nm.wl x).length c3]) (by simp [results, Tryz.results59, go_sem, z0, z1]) rfl ⟨a3, c3, rfl, ?_, ?_⟩
  · exact Own.base ((ho3.setBelow (by simp; omega) _).setBelow (by simp; omega) _) (by omega)
  · exact ((bel_go (bel_go (Below.drew hbW) hb2) hb3).setCell (by simp; omega) _).setCell (by simp; omega) _
theorem l1add_any (na nb : Bool) (a b : Option Addr) (cap cap' : Nat) (xs ys : List Int) (w : World) (hx : Sl .u32 w (.slice a xs.length cap) xs) (hy : Sl .u32 w (.slice b ys.length cap') ys) (dx : Nm.Dg xs) (dy : Nm.Dg ys) (nx : Nm.Nz xs) (ny : Nm.Nz ys) (hl : xs.length ≤ 500000) (hl' : ys.length ≤ 500000) (x : Int) (hx0 : x = Nm.wv na xs + Nm.wv nb ys) :
    Calls Tryz.prog 59 #[.agg #[.bool na, .slice a xs.length cap], .agg #[.bool nb, .slice b ys.length cap']] w fun e w' => ∃ a' c', e = .returned (.agg #[.bool (Nm.wn x), .slice a' (Nm.wl x).length c']) ∧ Own w' w.heap.size a' c' (Nm.wl x) ∧ Below w.heap.size w w' := by
  cases hc : (na == nb)
  · by_cases hm : cmpL xs ys < 0
    · exact l1add_low na nb a b cap cap' xs ys w hx hy dx dy nx ny hl hl' x hx0 hc hm
    · exact l1add_high na nb a b cap cap' xs ys w hx hy dx dy nx ny hl hl' x hx0 hc hm
  · exact l1add_same na nb a b cap cap' xs ys w hx hy dx dy nx ny hl hl' x hx0 hc
/-- What is answered where the arguments may not be right: x, or nothing. -/
def opL (ok : Bool) (x : Int) : List Int := if ok then Nm.outL x else []
def opN (ok : Bool) (x : Int) : Bool := ok && Nm.outN x
def opO (ok : Bool) (x : Int) : Bool := ok && Nm.fits x
theorem op_yes (x : Int) : opL true x = Nm.outL x ∧ opN true x = Nm.outN x ∧ opO true x = Nm.fits x := ⟨rfl, rfl, rfl⟩
end Go.Proofs.YtnliofakkkjpoaaGreatDoor
