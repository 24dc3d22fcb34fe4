/-
  Several texts in one: WideK, WideT, NumsF, ShiftD, ShiftE, WideF, WideG, WideI.
-/
import Derived.Test.YtdjfajjlmjkpdaaDoorG03
import Derived.Test.YtdjfajjlmjkpdaaDoorG06
import Derived.Deep.RegionWith
import Derived.Deep.DeepCutAuto
import Derived.Deep.RegionHeldLaw
import Derived.Deep.AppendLies
import Derived.Deep.DrawnRows
import Derived.Test.YtdjfajjlmjkpdaaDoorG05
import Derived.Test.YtdjfajjlmjkpdaaDoorG01
import Derived.Laws.MathBits
import Derived.Deep.RegionHeld3
/-
  0 less a wide, by the program.
-/
namespace Go.Proofs.YtdjfajjlmjkpdaaDoor
set_option linter.unusedVariables false
set_option linter.unusedSimpArgs false
open Go.RowKit Go.Deep
/-- A right wide's limbs end in no nought. -/
theorem okB_nz {ng : Bool} {zs : List Int} (h : okB ng zs = true) : Nm.Nz zs ∧ zs.length ≤ 200 := by
  unfold okB at h
  split at h
  · rename_i h0
    have : zs = [] := List.eq_nil_of_length_eq_zero h0
    subst this; exact ⟨Nm.Nz.nil, by simp⟩
  · rename_i h0
    simp at h
    refine ⟨fun z hz => ?_, h.1⟩
    have h2 := h.2
    rw [List.getLast?_eq_getElem?] at hz
    rw [hz] at h2
    simpa using h2
theorem fit_ok {ng : Bool} {zs : List Int} (hd : Nm.Dg zs) (h : okB ng zs = true) (m : Bool) : fitL zs = zs ∧ fitN m zs = (m && !decide (zs.length = 0)) ∧ fitO zs = true := by
  obtain ⟨h1, h2⟩ := okB_nz h
  have ht := Nm.trim_eq hd h1
  unfold fitL fitN fitO
  rw [ht, if_pos h2, if_pos h2]
  exact ⟨rfl, rfl, by simpa using h2⟩
/-- 0 less a wide: its limbs and its sign. -/
def negL (ng : Bool) (zs : List Int) : List Int := if okB ng zs then Nm.wl (Nm.wv (!ng) zs) else []
def negN (ng : Bool) (zs : List Int) : Bool := if okB ng zs then Nm.wn (Nm.wv (!ng) zs) else false
theorem ok_fits {ng : Bool} {zs : List Int} (hd : Nm.Dg zs) (h : okB ng zs = true) (m : Bool) : Nm.fits (Nm.wv m zs) = true := by
  obtain ⟨h1, h2⟩ := okB_nz h
  unfold Nm.fits
  rw [Nm.wl_wv m hd, Nm.trim_eq hd h1]; simpa using h2

theorem sl_news {W : World} {b off cap : Nat} {zs : List Int} (h : Sl .u32 W (.slice (some ⟨b, off, none⟩) zs.length cap) zs) : ∀ j u, (zs.map (Value.int .u32))[j]? = some u → W.cell? ((⟨b, off, none⟩ : Addr).add j) = some u := fun j u hj => by
  have hjn : j < zs.length := by
    rcases Nat.lt_or_ge j zs.length with h | h
    · exact h
    · rw [List.getElem?_eq_none (by simpa using h)] at hj; cases hj
  obtain ⟨a, c, he, _, _, h3⟩ := h
  rcases h3 with h3 | ⟨b', off', ha, hc⟩
  · subst h3; simp at hjn
  · cases he
    cases ha
    have hju : u = .int .u32 (zs.getD j 0) := by
      rw [List.getElem?_map] at hj
      rw [List.getD_eq_getElem?_getD]
      cases hzj : zs[j]? with
      | none => rw [hzj] at hj; cases hj
      | some q => rw [hzj] at hj; simp at hj ⊢; exact hj.symm
    have e : (⟨b, off, none⟩ : Addr).add j = ⟨b, off + j, none⟩ := by unfold Addr.add; split <;> simp_all
    rw [e, hju]
    exact hc j hjn
theorem own_empty (W : World) {B : Nat} (hB : B ≤ W.heap.size) : (W.alloc (.cells #[] 95)).ownsRow B 95 1 (.slice (some ⟨W.heap.size, 0, none⟩) 0 0) 0 [] := by
  have := World.ownsRow_made (base := B) (e := 95) (size := 1) W #[] 0 (by simpa using hB) (by decide) rfl
  simpa using this
theorem emp1 (w1 : World) : (w1.alloc (.cells #[] 95)).ownsRow w1.heap.size 95 1 (.slice (some ⟨w1.heap.size, 0, none⟩) 0 0) 0 [] := own_empty w1 (Nat.le_refl _)
theorem emp2 (w1 : World) (o : Obj) : ((w1.alloc o).alloc (.cells #[] 95)).ownsRow w1.heap.size 95 1 (.slice (some ⟨w1.heap.size + 1, 0, none⟩) 0 0) 0 [] := by
  have := own_empty (w1.alloc o) (B := w1.heap.size) (by simp)
  simpa using this
theorem emp3 (w1 : World) (o : Obj) : ((w1.alloc (.cells #[] 95)).alloc o).ownsRow w1.heap.size 95 1 (.slice (some ⟨w1.heap.size, 0, none⟩) 0 0) 0 [] := (emp1 w1).alloc o
theorem grow_below {w1 W w2 : World} {row : Option Nat} (h : Below w1.heap.size w1 W) (hg : W.grownBy w2 row) (hge : ∀ k, row = some k → w1.heap.size ≤ k) : Below w1.heap.size w1 w2 := h.grown hg h.size hge
theorem keepS {w1 W : World} {B : Nat} {u v : Value} (hb : Below w1.heap.size w1 W) (hbw : B < w1.heap.size) (x10 : w1.cell? ⟨B, 0, none⟩ = some u) (x11 : w1.cell? ⟨B, 1, none⟩ = some v) : W.cell? ⟨B, 0, none⟩ = some u ∧ W.cell? ⟨B, 1, none⟩ = some v :=
  ⟨(hb.cell (p := ⟨B, 0, none⟩) hbw).trans x10, (hb.cell (p := ⟨B, 1, none⟩) hbw).trans x11⟩
theorem boxA {w1 w2 : World} {v0 v1 : Value} {t : TypeId} {o : Obj} (h : ((w1.alloc (.cells #[v0, v1] t)).alloc o).grownBy w2 (some (w1.heap.size + 1))) : R2 w2 w1.heap.size v0 v1 :=
  R2.grown ((R2.new w1 v0 v1 t).alloc o) h (by omega)
theorem boxB {w1 w2 : World} {v0 v1 : Value} {t : TypeId} {o : Obj} (h : ((w1.alloc o).alloc (.cells #[v0, v1] t)).grownBy w2 (some w1.heap.size)) : R2 w2 (w1.heap.size + 1) v0 v1 :=
  R2.grown (R2.new2 w1 o v0 v1 t) h (by omega)
attribute [local go_sem ↓] Go.wp_at_zero Go.wp_at_succ
end Go.Proofs.YtdjfajjlmjkpdaaDoor
/-
  Sums of wides: the specification's whole function.
-/
namespace Go.Proofs.YtdjfajjlmjkpdaaDoor
set_option linter.unusedVariables false
set_option linter.unusedSimpArgs false
open Go.RowKit Go.Deep
/-- What is answered where the arguments may not be right: x, or nothing. -/
def opL (ok : Bool) (x : Int) : List Int := if ok then Nm.outL x else []
def opN (ok : Bool) (x : Int) : Bool := ok && Nm.outN x
def opO (ok : Bool) (x : Int) : Bool := ok && Nm.fits x
theorem op_200 (ok : Bool) (x : Int) : (opL ok x).length ≤ 200 ∧ Nm.Dg (opL ok x) := by
  unfold opL; split
  · exact ⟨Nm.outL_length x, Nm.outL_dg x⟩
  · exact ⟨by simp, Nm.Dg.nil⟩
theorem op_no (x : Int) : opL false x = [] ∧ opN false x = false ∧ opO false x = false := ⟨rfl, rfl, rfl⟩
theorem op_yes (x : Int) : opL true x = Nm.outL x ∧ opN true x = Nm.outN x ∧ opO true x = Nm.fits x := ⟨rfl, rfl, rfl⟩
theorem val_200 {zs : List Int} (d : Nm.Dg zs) (h : zs.length ≤ 200) : 0 ≤ Nm.val zs ∧ Nm.val zs < Nm.pw 200 := by
  have h1 := Nm.val_lt d
  have h2 := Nm.pw_mono h
  have h3 := Nm.val_nonneg d
  exact ⟨h3, by omega⟩
theorem sum_short {na nb : Bool} {xs ys : List Int} {x : Int} (hx : x = Nm.wv na xs + Nm.wv nb ys) (dx : Nm.Dg xs) (dy : Nm.Dg ys) (lx : xs.length ≤ 200) (ly : ys.length ≤ 200) : (Nm.wl x).length ≤ 1048576 := by
  have h1 := val_200 dx lx
  have h2 := val_200 dy ly
  have h3 : Nm.pw 201 = 4294967296 * Nm.pw 200 := rfl
  have : (Nm.wl x).length ≤ 201 := by
    unfold Nm.wl
    rw [Nm.lim_length, hx]
    unfold Nm.wv
    cases na <;> cases nb <;> simp <;> omega
  omega
end Go.Proofs.YtdjfajjlmjkpdaaDoor
/-
  Plain mathematics, no Go: shifts as powers of 2.
-/
namespace Go.Proofs.YtdjfajjlmjkpdaaDoor
set_option linter.unusedVariables false
namespace Nm
/-- m times 2 to the n, cut. (m is not below 0.) -/
def shM (m n : Int) : Int := if n < 0 then m / (2 : Int) ^ (-n).toNat else m * (2 : Int) ^ n.toNat
/-- A wide's value shifted: towards 0. -/
def shV (ng : Bool) (m n : Int) : Int := if ng then - shM m n else shM m n
theorem pw_pow (n : Nat) : pw n = (2 : Int) ^ (32 * n) := by rw [pw_two]; simp
theorem shM_up {m n : Int} {wh r : Nat} (h0 : 0 ≤ n) (hq : n / 32 = (wh : Int)) (hm : n % 32 = (r : Int)) : pw wh * ((2 : Int) ^ r * m) = shM m n := by
  unfold shM
  rw [if_neg (by omega), pw_pow, show n.toNat = 32 * wh + r by omega, Int.pow_add, Int.mul_comm m, Int.mul_assoc]
theorem shM_down {m n : Int} {wh r : Nat} (h0 : n < 0) (hq : -n / 32 = (wh : Int)) (hm : -n % 32 = (r : Int)) : m / pw wh / (2 : Int) ^ r = shM m n := by
  unfold shM
  have hp := pw_pos wh
  rw [if_pos h0, show (-n).toNat = 32 * wh + r by omega, Int.pow_add, ← pw_pow, Int.ediv_ediv_of_nonneg (by omega)]
theorem shV_wv {ng : Bool} {m n : Int} {os : List Int} (h : val os = shM m n) : shV ng m n = wv ng os := by unfold shV wv; rw [h]
theorem shM_nonneg {m n : Int} (h : 0 ≤ m) : 0 ≤ shM m n := by
  unfold shM; split
  · exact Int.ediv_nonneg h (Int.le_of_lt (Int.pow_pos (by decide)))
  · exact Int.mul_nonneg h (Int.le_of_lt (Int.pow_pos (by decide)))
theorem shV_natAbs (ng : Bool) {m n : Int} (h : 0 ≤ m) : (shV ng m n).natAbs = (shM m n).toNat := by
  have := shM_nonneg (n := n) h
  unfold shV; cases ng <;> simp <;> omega
/-- How long what is shifted is. -/
theorem sh_len {m n : Int} {k : Nat} (ng : Bool) (h0 : 0 ≤ m) (h : m < pw k) (hn : n ≤ 10000) : (wl (shV ng m n)).length ≤ k + 313 := by
  unfold wl
  rw [lim_length, shV_natAbs ng h0]
  have hs := shM_nonneg (n := n) h0
  have h1 : shM m n < pw (k + 313) := by
    unfold shM
    have hp1 := pw_pos k
    have hp2 := pw_pos 313
    have hpa : pw (k + 313) = pw k * pw 313 := pw_add k 313
    split
    · have hd : m / (2 : Int) ^ (-n).toNat ≤ m := Int.ediv_le_self _ h0
      have : pw k ≤ pw (k + 313) := pw_mono (by omega)
      omega
    · rename_i hc
      have hle : (2 : Int) ^ n.toNat ≤ pw 313 := by
        rw [pw_pow]
        have := Nat.pow_le_pow_right (n := 2) (by decide) (show n.toNat ≤ 32 * 313 by omega)
        have h2 : ∀ k : Nat, ((2 ^ k : Nat) : Int) = (2 : Int) ^ k := fun k => by simp
        rw [← h2, ← h2]; exact Int.ofNat_le.2 this
      have hpp : (0 : Int) < (2 : Int) ^ n.toNat := Int.pow_pos (by decide)
      have e1 : m * (2 : Int) ^ n.toNat < pw k * (2 : Int) ^ n.toNat := Int.mul_lt_mul_of_pos_right h hpp
      have e2 : pw k * (2 : Int) ^ n.toNat ≤ pw k * pw 313 := Int.mul_le_mul_of_nonneg_left hle (by omega)
      omega
  omega
end Nm
end Go.Proofs.YtdjfajjlmjkpdaaDoor
/-
  Wides shifted: the specification's whole function.
-/
namespace Go.Proofs.YtdjfajjlmjkpdaaDoor
set_option linter.unusedVariables false
set_option linter.unusedSimpArgs false
open Go.RowKit Go.Deep
theorem parts32 (n : Int) (h : 0 ≤ n) (h1 : n ≤ 1000000) : ∃ wh r : Nat, n / 32 = (wh : Int) ∧ n % 32 = (r : Int) ∧ wh ≤ 400000 ∧ r < 32 :=
  ⟨(n / 32).toNat, (n % 32).toNat, by omega, by omega, by omega, by omega⟩
theorem l1shift_any (ng : Bool) (a : Option Addr) (cap : Nat) (xs : List Int) (n : Int) (w : World) (hx : Sl .u32 w (.slice a xs.length cap) xs) (dx : Nm.Dg xs) (hl : xs.length ≤ 400000) (h0 : -1000000 ≤ n) (h1 : n ≤ 1000000) (v : Int) (hv : v = Nm.shV ng (Nm.val xs) n) :
    Calls Tryd.prog 106 #[.agg #[.bool ng, .slice a xs.length cap], .int .i64 n] w fun e w' => ∃ a' c', e = .returned (.agg #[.bool (Nm.wn v), .slice a' (Nm.wl v).length c']) ∧ Own w' w.heap.size a' c' (Nm.wl v) ∧ Below w.heap.size w w' := by
  by_cases hn : 0 ≤ n
  · obtain ⟨wh, r, hq, hm, hw, hr⟩ := parts32 n hn h1
    exact l1up_any ng a cap xs n wh r w hx dx hl hw hr hn h1 hq hm v (fun os h => by rw [hv]; exact Nm.shV_wv (h.trans (Nm.shM_up hn hq hm)))
  · obtain ⟨m, rfl⟩ : ∃ m, n = -m := ⟨-n, by omega⟩
    obtain ⟨wh, r, hq, hm, hw, hr⟩ := parts32 m (by omega) (by omega)
    have hd : Nm.val (Nm.sd ((2 : Int) ^ r) (xs.drop wh)) = Nm.shM (Nm.val xs) (-m) := (sd_drop_val dx wh r hr).trans (Nm.shM_down (by omega) (by rw [Int.neg_neg]; exact hq) (by rw [Int.neg_neg]; exact hm))
    by_cases hc : xs.length ≤ wh
    · have hz : Nm.shV ng (Nm.val xs) (-m) = 0 := by
        rw [List.drop_eq_nil_of_le hc] at hd
        unfold Nm.shV; rw [← hd]; simp [Nm.sd, Nm.val]
      rw [hv, hz]
      have e1 : Nm.wl 0 = [] := Nm.lim_zero
      have e2 : Nm.wn 0 = false := by decide
      rw [e1, e2]
      exact (l1down_no ng a cap xs m wh w hx hl hw (by omega) (by omega) hq hc).mono fun e w' ⟨he, hb⟩ => ⟨none, 0, by rw [he]; rfl, Own.nil _ _, hb⟩
    · exact l1down_yes ng a cap xs m wh r w hx dx hl hw hr (by omega) (by omega) hq hm hc v (by rw [hv]; exact Nm.shV_wv hd)
/-- Whether a number lies between two. -/
def inZ (n lo hi : Int) : Bool := decide (lo ≤ n) && decide (n ≤ hi)
set_option maxHeartbeats 400000 in
theorem in_any (n lo hi : Int) (w : World) :
    Calls Tryd.prog 47 #[.int .i64 n, .int .i64 lo, .int .i64 hi] w fun e w' => e = .returned (.bool (inZ n lo hi)) ∧ w' = w := by
  by_cases h1 : lo ≤ n
  · by_cases h2 : n ≤ hi
    · have HR : Hid (inZ n lo hi = true) := hid (by simp [inZ, h1, h2])
      go_enter Tryd.func47, Tryd.ntmps47
      go_wp2
      go_ret
      exact ⟨ret_bool HR.out.symm, rfl⟩
    · have HR : Hid (inZ n lo hi = false) := hid (by simp [inZ, h1, h2])
      go_enter Tryd.func47, Tryd.ntmps47
      go_wp2
      go_ret
      exact ⟨ret_bool HR.out.symm, rfl⟩
  · have HR : Hid (inZ n lo hi = false) := hid (by simp [inZ, h1])
    go_enter Tryd.func47, Tryd.ntmps47
    go_wp2
    go_ret
    exact ⟨ret_bool HR.out.symm, rfl⟩
theorem inZ_yes {n lo hi : Int} (h : inZ n lo hi = true) : lo ≤ n ∧ n ≤ hi := by simpa [inZ] using h
end Go.Proofs.YtdjfajjlmjkpdaaDoor
/-
  Wides shifted, by the program.
-/
namespace Go.Proofs.YtdjfajjlmjkpdaaDoor
set_option linter.unusedVariables false
set_option linter.unusedSimpArgs false
open Go.RowKit Go.Deep
theorem keep2 {w w' : World} {b : Nat} {v0 v1 : Value} (h0 : w.cell? ⟨b, 0, none⟩ = some v0) (h1 : w.cell? ⟨b, 1, none⟩ = some v1) (hb : Below w.heap.size w w') : w'.cell? ⟨b, 0, none⟩ = some v0 ∧ w'.cell? ⟨b, 1, none⟩ = some v1 := Box.below ⟨h0, h1⟩ hb
theorem keep2_set {w : World} {b z : Nat} {v0 v1 : Value} (h0 : w.cell? ⟨b, 0, none⟩ = some v0) (h1 : w.cell? ⟨b, 1, none⟩ = some v1) (n1 : b ≠ z) (p q : Value) :
    ((w.setCell ⟨z, 0, none⟩ p).setCell ⟨z, 1, none⟩ q).cell? ⟨b, 0, none⟩ = some v0 ∧ ((w.setCell ⟨z, 0, none⟩ p).setCell ⟨z, 1, none⟩ q).cell? ⟨b, 1, none⟩ = some v1 :=
  ⟨(keep3_set h0 h1 h1 n1 n1 p q).1, (keep3_set h0 h1 h1 n1 n1 p q).2.1⟩
end Go.Proofs.YtdjfajjlmjkpdaaDoor
/-
  The library bits.Len32.
-/
namespace Go.Proofs.YtdjfajjlmjkpdaaDoor
set_option linter.unusedVariables false
set_option linter.unusedSimpArgs false
open Go.RowKit Go.Deep
theorem wrap_small (t : Int) (h0 : 0 ≤ t) (h1 : t ≤ 1000) : wrap64 t = t := IntWalk.wrap64_in t ⟨by omega, by omega⟩
theorem bitLen_div (x : Int) (k : Nat) (h0 : 0 ≤ x) (hx : x / (2 ^ k : Nat) ≠ 0) : bitLen x.toNat = k + bitLen (x / (2 ^ k : Nat)).toNat := by
  obtain ⟨n, rfl⟩ := Int.eq_ofNat_of_zero_le h0
  have e : (((n : Int) / (2 ^ k : Nat)).toNat) = n / 2 ^ k := by rw [← Int.natCast_ediv]; exact Int.toNat_natCast _
  rw [e]
  simp only [Int.toNat_natCast]
  apply bitLen_shift
  intro h
  apply hx
  rw [← Int.natCast_ediv, h]; rfl
theorem wrap_two (c t : Int) (h0 : 0 ≤ c) (h1 : c ≤ 100) (t0 : 0 ≤ t) (t1 : t ≤ 8) : wrap64 (c + wrap64 t) = c + t := by rw [wrap_small t t0 (by omega), wrap_small _ (by omega) (by omega)]
theorem bl_le (i : Nat) (h : i < 256) : (bitLen i : Int) ≤ 8 := by have := bitLen_le8 i h; omega

end Go.Proofs.YtdjfajjlmjkpdaaDoor
/-
  How many bits a wide has, by the program and by the specification.
-/
namespace Go.Proofs.YtdjfajjlmjkpdaaDoor
set_option linter.unusedVariables false
set_option linter.unusedSimpArgs false
open Go.RowKit Go.Deep
/-- How many bits limbs are written with. -/
def blL (zs : List Int) : Int := if zs.length = 0 then 0 else 32 * ((zs.length : Int) - 1) + bitLen (zs.getD (zs.length - 1) 0).toNat
def blW (ng : Bool) (zs : List Int) : Int := if okB ng zs then blL zs else -1
theorem bitLen_le32 (z : Int) (h0 : 0 ≤ z) (h1 : z < 4294967296) : (bitLen z.toNat : Int) ≤ 32 := by
  have h := bitLen_spec z.toNat
  unfold bitLen
  split
  · omega
  · rename_i hz
    have := (Nat.log2_lt hz).2 (show z.toNat < 2 ^ 32 by omega)
    omega

theorem bl_half (z : Int) (h0 : 0 < z) : bitLen z.toNat = 1 + bitLen (z / 2).toNat := by
  by_cases h1 : z = 1
  · subst h1; decide
  · have := bitLen_div z 1 (by omega) (by simp; omega)
    simpa using this

set_option maxHeartbeats 2000000 in
theorem l1Bits_any (ng : Bool) (a : Option Addr) (cap : Nat) (zs : List Int) (w : World) (hs : Sl .u32 w (.slice a zs.length cap) zs) (hz : Nm.Dg zs) (hl : zs.length ≤ 1048576) :
    Calls Tryd.prog 30 #[.agg #[.bool ng, .slice a zs.length cap]] w fun e w' => e = .returned (.int .i64 (blL zs)) ∧ Below w.heap.size w w' := by
  by_cases h0 : zs.length = 0
  · have HR : Hid (blL zs = 0) := hid (by unfold blL; rw [if_pos h0])
    have hb0 : ((zs.length : Int) == 0) = true := by rw [beq_iff_eq]; omega
    clear h0
    go_enter Tryd.func30, Tryd.ntmps30
    go_wp2
    go_ret
    exact ⟨ret_int HR.out.symm, (by repeat (first | exact Below.refl _ _ | refine Below.drew ?_ | refine bel_dn ?_ _ | refine bel_al ?_ _ | refine Below.setCell ?_ (by first | omega | (simp; done) | (simp; omega)) _ | refine Below.alloc ?_ (by first | omega | (simp; done) | (simp; omega)) _))⟩
  · have hb0 : ((zs.length : Int) == 0) = false := by rw [beq_eq_false_iff_ne]; omega
    obtain ⟨z, hzk⟩ : ∃ z, z = zs.getD (zs.length - 1) 0 := ⟨_, rfl⟩
    have HR : Hid (blL zs = 32 * ((zs.length : Int) - 1) + bitLen z.toNat) := hid (by unfold blL; rw [if_neg h0, hzk])
    have hd := hz.getD (zs.length - 1)
    have hb32 := bitLen_le32 z (by rw [hzk]; exact hd.1) (by rw [hzk]; exact hd.2)
    rw [← hzk] at hd
    obtain ⟨hd0, hd1⟩ := hd
    have hs' := hs.alloc (.cells #[.bool ng, .slice a zs.length cap] 29)
    obtain ⟨-, _, _, hc3⟩ := hs.cells
    obtain ⟨b, off, rfl, hcell⟩ := hc3 (by omega)
    have hc := hcell (zs.length - 1) (by omega)
    have hlt := World.block_lt_of_cell? w _ hc
    rw [← hzk] at hc
    have HB := hid hb32
    clear hzk hcell hc3 hs' hb32
    go_enter Tryd.func30, Tryd.ntmps30
    go_wp2_with fail
    go_loop [4, 5] (fun k x => ∃ kk q : Int, k = .int .i64 kk ∧ x = .int .u32 q ∧ 0 ≤ q ∧ q < 4294967296 ∧ 0 ≤ kk ∧ kk + bitLen q.toNat = 32 * ((zs.length : Int) - 1) + bitLen z.toNat) (fun _ x => (intOf x).toNat)
    case atStart => exact ⟨_, z, rfl, rfl, hd0, hd1, by omega, rfl⟩
    case round =>
      obtain ⟨kk, q, rfl, rfl, hq0, hq1, hk0, hrel⟩ := hrel
      have hkb : kk ≤ 33554464 := by have := HB.out; omega
      have REL := hid hrel
      clear hrel
      by_cases hq : 0 < q
      · have HH := hid (bl_half q hq)
        go_wp2
        go_round
        case rel => exact ⟨kk + 1, q / 2, rfl, rfl, by omega, by omega, by omega, by have := REL.out; have h2 := HH.out; omega⟩
        case measure => simp [intOf]; omega
      · have hq' : q = 0 := by omega
        have HF : Hid (blL zs = kk) := hid (by rw [HR.out]; have h := REL.out; rw [hq', show bitLen (0 : Int).toNat = 0 by decide] at h; omega)
        clear hq'
        go_wp2
        go_ret
        exact ⟨ret_int HF.out.symm, (by repeat (first | exact Below.refl _ _ | refine Below.drew ?_ | refine bel_dn ?_ _ | refine bel_al ?_ _ | refine Below.setCell ?_ (by first | omega | (simp; done) | (simp; omega)) _ | refine Below.alloc ?_ (by first | omega | (simp; done) | (simp; omega)) _))⟩

end Go.Proofs.YtdjfajjlmjkpdaaDoor
/-
  Wides as numbers of 64 bits, by the program and by the specification.
-/
namespace Go.Proofs.YtdjfajjlmjkpdaaDoor
set_option linter.unusedVariables false
set_option linter.unusedSimpArgs false
open Go.RowKit Go.Deep
theorem nor_shift (n m : Nat) (hn : n < 2 ^ 32) : n ||| (m * 2 ^ 32) = n + m * 2 ^ 32 := by
  rw [Nat.or_comm, nat_join 32 (m * 2 ^ 32) n (Nat.mul_mod_left m (2 ^ 32)) hn, Nat.add_comm]
theorem or_shift (x y : Int) (hx : 0 ≤ x) (hx1 : x < 4294967296) (hy : 0 ≤ y) (hy1 : y < 4294967296) : bits .or .u64 x (y * 4294967296) = x + y * 4294967296 := by
  obtain ⟨n, rfl⟩ := Int.eq_ofNat_of_zero_le hx
  obtain ⟨m, rfl⟩ := Int.eq_ofNat_of_zero_le hy
  have h := u64_or_nat n (m * 2 ^ 32) (by omega) (by omega)
  rw [nor_shift n m (by omega)] at h
  have e : ((m * 2 ^ 32 : Nat) : Int) = (m : Int) * 4294967296 := by omega
  have e2 : ((n + m * 2 ^ 32 : Nat) : Int) = (n : Int) + (m : Int) * 4294967296 := by omega
  exact (congrArg (bits .or .u64 (n : Int)) e).symm.trans (h.trans e2)
theorem or_zero (x : Int) (hx : 0 ≤ x) (hx1 : x < 18446744073709551616) : bits .or .u64 0 x = x := by
  obtain ⟨n, rfl⟩ := Int.eq_ofNat_of_zero_le hx
  have h := u64_or_nat 0 n (by omega) (by omega)
  rw [Nat.zero_or] at h
  exact h

theorem negv (v : Int) (h0 : 0 ≤ v) (h1 : v ≤ 9223372036854775808) : wrap64 (IntKind.u64.wrap (-v)) = -v := by
  rw [IntKind.wrap_u64]; unfold wrap64; omega
/-- The number that a wide of limbs worth v is, and whether it is one of 64 bits. -/
def smI (ng : Bool) (v : Int) : Int := if ng then (if v ≤ 9223372036854775808 then -v else 0) else (if v < 9223372036854775808 then v else 0)
def smB (ng : Bool) (v : Int) : Bool := if ng then decide (v ≤ 9223372036854775808) else decide (v < 9223372036854775808)
/-- .. and of any wide. -/
def smWI (ng : Bool) (zs : List Int) : Int := if okB ng zs && decide (zs.length ≤ 2) then smI ng (zs.getD 0 0 + zs.getD 1 0 * 4294967296) else 0
def smWB (ng : Bool) (zs : List Int) : Bool := if okB ng zs && decide (zs.length ≤ 2) then smB ng (zs.getD 0 0 + zs.getD 1 0 * 4294967296) else false
theorem sm_yes {ng : Bool} {zs : List Int} (h : okB ng zs = true) (k : zs.length ≤ 2) : smWI ng zs = smI ng (zs.getD 0 0 + zs.getD 1 0 * 4294967296) ∧ smWB ng zs = smB ng (zs.getD 0 0 + zs.getD 1 0 * 4294967296) := by
  unfold smWI smWB; rw [h]; simp [k]
theorem sm_no1 {ng : Bool} {zs : List Int} (h : okB ng zs = false) : smWI ng zs = 0 ∧ smWB ng zs = false := by unfold smWI smWB; rw [h]; simp
theorem sm_no2 {ng : Bool} {zs : List Int} (k : ¬ zs.length ≤ 2) : smWI ng zs = 0 ∧ smWB ng zs = false := by unfold smWI smWB; simp [k]
theorem ret_small {a a' : Int} {b b' : Bool} (h : a = a') (k : b = b') : Ending.returned (.tuple #[.int .i64 a, .bool b]) = .returned (.tuple #[.int .i64 a', .bool b']) := by rw [h, k]
set_option maxHeartbeats 2000000 in
theorem low0 (ng : Bool) (a : Option Addr) (cap : Nat) (w : World) (hs : Sl .u32 w (.slice a 0 cap) []) :
    Calls Tryd.prog 114 #[.agg #[.bool ng, .slice a 0 cap]] w fun e w' => e = .returned (.int .u64 0) ∧ Below w.heap.size w w' := by
  go_enter Tryd.func114, Tryd.ntmps114
  go_wp2_with fail
  refine wp_loop_rounds 1 ?_
  rw [rounds_succ]
  go_wp2
  go_ret
  exact ⟨rfl, (by repeat (first | exact Below.refl _ _ | refine Below.drew ?_ | refine bel_dn ?_ _ | refine bel_al ?_ _ | refine Below.setCell ?_ (by first | omega | (simp; done) | (simp; omega)) _ | refine Below.alloc ?_ (by first | omega | (simp; done) | (simp; omega)) _))⟩
set_option maxHeartbeats 2000000 in
theorem low1 (ng : Bool) (b off : Nat) (x : Int) (cap : Nat) (w : World) (hs : Sl .u32 w (.slice (some ⟨b, off, none⟩) 1 cap) [x]) (hx0 : 0 ≤ x) (hx1 : x < 4294967296) :
    Calls Tryd.prog 114 #[.agg #[.bool ng, .slice (some ⟨b, off, none⟩) 1 cap]] w fun e w' => e = .returned (.int .u64 x) ∧ Below w.heap.size w w' := by
  have e1 := or_zero x hx0 (by omega)
  obtain ⟨-, _, _, hc3⟩ := hs.cells
  obtain ⟨b', off', hbo, hcell⟩ := hc3 (by simp)
  simp at hbo
  obtain ⟨rfl, rfl⟩ := hbo
  have c0 : w.cell? ⟨b, off, none⟩ = some (.int .u32 x) := by simpa using hcell 0 (by simp)
  have hlt := World.block_lt_of_cell? w _ c0
  clear hcell hc3
  go_enter Tryd.func114, Tryd.ntmps114
  go_wp2_with fail
  refine wp_loop_rounds 2 ?_
  rw [rounds_succ]
  go_wp2
  rw [rounds_succ]
  go_wp2
  go_ret
  exact ⟨rfl, (by repeat (first | exact Below.refl _ _ | refine Below.drew ?_ | refine bel_dn ?_ _ | refine bel_al ?_ _ | refine Below.setCell ?_ (by first | omega | (simp; done) | (simp; omega)) _ | refine Below.alloc ?_ (by first | omega | (simp; done) | (simp; omega)) _))⟩
set_option maxHeartbeats 2000000 in
theorem low2 (ng : Bool) (b off : Nat) (x y : Int) (cap : Nat) (w : World) (hs : Sl .u32 w (.slice (some ⟨b, off, none⟩) 2 cap) [x, y]) (hx0 : 0 ≤ x) (hx1 : x < 4294967296) (hy0 : 0 ≤ y) (hy1 : y < 4294967296) :
    Calls Tryd.prog 114 #[.agg #[.bool ng, .slice (some ⟨b, off, none⟩) 2 cap]] w fun e w' => e = .returned (.int .u64 (x + y * 4294967296)) ∧ Below w.heap.size w w' := by
  have e1 := or_zero x hx0 (by omega)
  have e2 := or_shift x y hx0 hx1 hy0 hy1
  obtain ⟨-, _, _, hc3⟩ := hs.cells
  obtain ⟨b', off', hbo, hcell⟩ := hc3 (by simp)
  simp at hbo
  obtain ⟨rfl, rfl⟩ := hbo
  have c0 : w.cell? ⟨b, off, none⟩ = some (.int .u32 x) := by simpa using hcell 0 (by simp)
  have hlt := World.block_lt_of_cell? w _ c0
  have c1 : w.cell? ⟨b, off + 1, none⟩ = some (.int .u32 y) := by simpa using hcell 1 (by simp)
  clear hcell hc3
  go_enter Tryd.func114, Tryd.ntmps114
  go_wp2_with fail
  refine wp_loop_rounds 3 ?_
  rw [rounds_succ]
  go_wp2
  rw [rounds_succ]
  go_wp2
  rw [rounds_succ]
  go_wp2
  go_ret
  exact ⟨rfl, (by repeat (first | exact Below.refl _ _ | refine Below.drew ?_ | refine bel_dn ?_ _ | refine bel_al ?_ _ | refine Below.setCell ?_ (by first | omega | (simp; done) | (simp; omega)) _ | refine Below.alloc ?_ (by first | omega | (simp; done) | (simp; omega)) _))⟩
end Go.Proofs.YtdjfajjlmjkpdaaDoor
