/-
  Several texts in one: NumsD, Rows2, WideP, ShiftA.
-/
import Derived.Test.YtojcaoccjapdoaaDoorG01
/-
  Plain mathematics, no Go: shifts of limbs up and down.
-/
namespace Go.Proofs.YtojcaoccjapdoaaDoor
set_option linter.unusedVariables false
namespace Nm

/-- Shifted up, in place: i limbs are done. -/
structure UpAt (xs os : List Int) (wh : Nat) (p : Int) (i : Nat) : Prop where
  v : val os = pw wh * (p * val (xs.take i))
  d : Dg os
  lo : os.getD (wh + i) 0 < p
  z : ∀ j, wh + i < j → os.getD j 0 = 0
theorem UpAt.zero (xs : List Int) (wh n : Nat) (p : Int) (hp : 1 ≤ p) : UpAt xs (List.replicate n 0) wh p 0 :=
  ⟨by simp [val, val_replicate], Dg.replicate n, by rw [getD_replicate]; omega, fun j _ => getD_replicate n j⟩
/-- What a shifted limb is parted to. -/
theorem up_parts {x p q : Int} (hx : 0 ≤ x ∧ x < 4294967296) (hp : 1 ≤ p) (hq : 1 ≤ q) (e : p * q = 4294967296) : 0 ≤ x * p ∧ x * p < 18446744073709551616 ∧ 0 ≤ x * p % 4294967296 ∧ x * p % 4294967296 ≤ 4294967296 - p ∧ 0 ≤ x * p / 4294967296 ∧ x * p / 4294967296 < p := by
  have h0 : 0 ≤ x * p := Int.mul_nonneg hx.1 (by omega)
  have hpb : p ≤ 4294967296 := by
    have : p * 1 ≤ p * q := Int.mul_le_mul_of_nonneg_left hq (by omega)
    omega
  have h1 : x * p ≤ 4294967295 * p := Int.mul_le_mul_of_nonneg_right (by omega) (by omega)
  have e1 : x * p % 4294967296 = (x % q) * p := by rw [← e, Int.mul_comm x p, Int.mul_emod_mul_of_pos x q (by omega), Int.mul_comm]
  have h2 : x % q * p ≤ (q - 1) * p := Int.mul_le_mul_of_nonneg_right (by have := Int.emod_lt_of_pos x (show 0 < q by omega); omega) (by omega)
  have h3 : 0 ≤ x % q * p := Int.mul_nonneg (Int.emod_nonneg x (by omega)) (by omega)
  rw [Int.sub_mul, Int.mul_comm q p, e] at h2
  refine ⟨h0, by omega, by omega, by omega, by omega, ?_⟩
  have : 4294967295 * p < p * 4294967296 := by omega
  exact Int.ediv_lt_of_lt_mul (by decide) (by omega)
theorem UpAt.step {xs os : List Int} {wh : Nat} {p : Int} {i : Nat} {q : Int} (h : UpAt xs os wh p i) (hp : 1 ≤ p) (hq : 1 ≤ q) (e : p * q = 4294967296) (dx : Dg xs) (hl : wh + i + 1 < os.length) :
    UpAt xs ((os.set (wh + i) (os.getD (wh + i) 0 + xs.getD i 0 * p % 4294967296)).set (wh + i + 1) (xs.getD i 0 * p / 4294967296)) wh p (i + 1) := by
  obtain ⟨hv, hd, hlo, hz⟩ := h
  obtain ⟨u0, u1, u2, u3, u4, u5⟩ := up_parts (dx.getD i) hp hq e
  have hg := hd.getD (wh + i)
  have hpb : p ≤ 4294967296 := by omega
  have hd1 : Dg (os.set (wh + i) (os.getD (wh + i) 0 + xs.getD i 0 * p % 4294967296)) := hd.set _ (by omega)
  refine ⟨?_, hd1.set _ (by omega), ?_, fun j hj => ?_⟩
  · rw [val_set _ _ _ (by simp; omega), val_set _ _ _ (by omega), getD_set _ _ _ _ (by omega), if_neg (by omega), hz (wh + i + 1) (by omega), hv, val_take_succ]
    have e1 : pw (wh + i) * (os.getD (wh + i) 0 + xs.getD i 0 * p % 4294967296 - os.getD (wh + i) 0) + pw (wh + i + 1) * (xs.getD i 0 * p / 4294967296 - 0) = pw (wh + i) * (xs.getD i 0 * p) := by
      rw [show pw (wh + i + 1) = 4294967296 * pw (wh + i) from rfl, Int.mul_comm 4294967296 (pw _), Int.mul_assoc, ← Int.mul_add]
      congr 1; omega
    have e2 : pw wh * (p * (val (xs.take i) + pw i * xs.getD i 0)) = pw wh * (p * val (xs.take i)) + pw (wh + i) * (xs.getD i 0 * p) := by
      rw [pw_add, Int.mul_add, Int.mul_add, Int.mul_comm (xs.getD i 0) p, ← Int.mul_assoc p (pw i), Int.mul_comm p (pw i), Int.mul_assoc, Int.mul_assoc]
    omega
  · rw [show wh + (i + 1) = wh + i + 1 by omega, getD_set _ _ _ _ (by simp; omega), if_pos rfl]; exact u5
  · rw [getD_set _ _ _ _ (by simp; omega), if_neg (by omega), getD_set _ _ _ _ (by omega), if_neg (by omega)]; exact hz j (by omega)

/-- Shifted up, limb behind limb: i limbs are done, c is carried. -/
structure UpTo (xs os : List Int) (wh : Nat) (p : Int) (i : Nat) (c : Int) : Prop where
  v : val os + pw (wh + i) * c = pw wh * (p * val (xs.take i))
  d : Dg os
  l : os.length = wh + i
  c0 : 0 ≤ c
  c1 : c < p
theorem UpTo.zero (xs : List Int) (wh : Nat) (p : Int) (hp : 1 ≤ p) : UpTo xs (List.replicate wh 0) wh p 0 0 :=
  ⟨by simp [val, val_replicate], Dg.replicate wh, by simp, Int.le_refl _, by omega⟩
theorem UpTo.step {xs os : List Int} {wh : Nat} {p : Int} {i : Nat} {c q : Int} (h : UpTo xs os wh p i c) (hp : 1 ≤ p) (hq : 1 ≤ q) (e : p * q = 4294967296) (dx : Dg xs) :
    UpTo xs (os ++ [(c + xs.getD i 0 * p) % 4294967296]) wh p (i + 1) ((c + xs.getD i 0 * p) / 4294967296) := by
  obtain ⟨hv, hd, hl, h0, h1⟩ := h
  obtain ⟨u0, u1, u2, u3, u4, u5⟩ := up_parts (dx.getD i) hp hq e
  refine ⟨?_, hd.append (Dg.cons (by omega) Dg.nil), by simp; omega, by omega, by omega⟩
  rw [val_snoc, hl, val_take_succ]
  have e1 : pw (wh + i) * ((c + xs.getD i 0 * p) % 4294967296) + pw (wh + (i + 1)) * ((c + xs.getD i 0 * p) / 4294967296) = pw (wh + i) * c + pw (wh + i) * (xs.getD i 0 * p) := by
    rw [show wh + (i + 1) = wh + i + 1 by omega, show pw (wh + i + 1) = 4294967296 * pw (wh + i) from rfl, Int.mul_comm 4294967296 (pw _), Int.mul_assoc, ← Int.mul_add, ← Int.mul_add]
    congr 1; omega
  have e2 : pw wh * (p * (val (xs.take i) + pw i * xs.getD i 0)) = pw wh * (p * val (xs.take i)) + pw (wh + i) * (xs.getD i 0 * p) := by
    rw [pw_add, Int.mul_add, Int.mul_add, Int.mul_comm (xs.getD i 0) p, ← Int.mul_assoc p (pw i), Int.mul_comm p (pw i), Int.mul_assoc, Int.mul_assoc]
  omega
/-- Behind the last limb nothing is carried. -/
theorem UpTo.full {xs os : List Int} {wh : Nat} {p : Int} {c q : Int} (h : UpTo xs os wh p (xs.length + 1) c) (hc : c = 0) : val os = pw wh * (p * val xs) := by
  have := h.v; rw [hc, List.take_of_length_le (by omega)] at this; simpa using this
theorem UpAt.full {xs os : List Int} {wh : Nat} {p : Int} (h : UpAt xs os wh p xs.length) : val os = pw wh * (p * val xs) := by
  have := h.v; rwa [List.take_of_length_le (by omega)] at this

/-- Shifted down: each limb with the low part of the next one. -/
def sd (p : Int) : List Int → List Int
  | [] => []
  | x :: r => (r.getD 0 0 * 4294967296 + x) / p % 4294967296 :: sd p r
theorem sd_length (p : Int) (l : List Int) : (sd p l).length = l.length := by
  induction l with
  | nil => rfl
  | cons x r ih => simp [sd, ih]
theorem sd_getD (p : Int) (l : List Int) (i : Nat) (h : i < l.length) : (sd p l).getD i 0 = (l.getD (i + 1) 0 * 4294967296 + l.getD i 0) / p % 4294967296 := by
  induction l generalizing i with
  | nil => simp at h
  | cons x r ih =>
    cases i with
    | zero => simp [sd]
    | succ i => simpa [sd] using ih i (by simpa using h)
theorem sd_dg (p : Int) (l : List Int) : Dg (sd p l) := by
  induction l with
  | nil => exact Dg.nil
  | cons x r ih => exact Dg.cons (by omega) ih
theorem getD_drop (l : List Int) (n i : Nat) : (l.drop n).getD i 0 = l.getD (n + i) 0 := by
  rw [List.getD_eq_getElem?_getD, List.getElem?_drop, ← List.getD_eq_getElem?_getD]
theorem sd_val {p q : Int} (hp : 1 ≤ p) (hq : 1 ≤ q) (e : p * q = 4294967296) {l : List Int} (h : Dg l) : val (sd p l) = val l / p := by
  induction l with
  | nil => simp [sd, val]
  | cons x r ih =>
    have ih := ih h.tail
    have hx := h.head
    simp only [sd, val, ih]
    have hv := val_nonneg h.tail
    have hy : r.getD 0 0 = val r % 4294967296 := by
      cases r with
      | nil => simp [val]
      | cons y s => have := h.tail.head; simp [val]; omega
    rw [hy]
    generalize val r = v at hv ⊢
    -- v is p s and u
    have es : v = p * (v / p) + v % p := (Int.mul_ediv_add_emod v p).symm
    have hu0 := Int.emod_nonneg v (show p ≠ 0 by omega)
    have hu1 := Int.emod_lt_of_pos v (show 0 < p by omega)
    have ey : v % 4294967296 % p = v % p := Int.emod_emod_of_dvd v ⟨q, e.symm⟩
    have et : v % 4294967296 = p * (v % 4294967296 / p) + v % p := by rw [← ey]; exact (Int.mul_ediv_add_emod _ p).symm
    have hp0 : p ≠ 0 := by omega
    have k1 : (x + 4294967296 * v) / p = (x + 4294967296 * (v % p)) / p + 4294967296 * (v / p) := by
      have : x + 4294967296 * v = (x + 4294967296 * (v % p)) + (4294967296 * (v / p)) * p := by
        conv => lhs; rw [es]
        rw [Int.mul_add, ← Int.mul_assoc, Int.mul_comm 4294967296 p, Int.mul_assoc, Int.mul_comm p]; omega
      rw [this, Int.add_mul_ediv_right _ _ hp0]
    have k2 : (v % 4294967296 * 4294967296 + x) / p = (x + 4294967296 * (v % p)) / p + 4294967296 * (v % 4294967296 / p) := by
      have : v % 4294967296 * 4294967296 + x = (x + 4294967296 * (v % p)) + (4294967296 * (v % 4294967296 / p)) * p := by
        conv => lhs; rw [et]
        rw [Int.add_mul, Int.mul_assoc, Int.mul_comm _ 4294967296, ← Int.mul_assoc p, Int.mul_comm p 4294967296, Int.mul_assoc 4294967296 p, Int.mul_comm p (_ / p), ← Int.mul_assoc]; omega
      rw [this, Int.add_mul_ediv_right _ _ hp0]
    have k3 : (x + 4294967296 * (v % p)) / p < 4294967296 := by
      apply Int.ediv_lt_of_lt_mul (by omega)
      have : 4294967296 * (v % p) ≤ 4294967296 * (p - 1) := Int.mul_le_mul_of_nonneg_left (by omega) (by decide)
      omega
    have k4 : 0 ≤ (x + 4294967296 * (v % p)) / p := Int.ediv_nonneg (by omega) (by omega)
    rw [k1, k2, Int.add_mul_emod_self_left]
    omega
theorem val_drop {l : List Int} (h : Dg l) (n : Nat) : val (l.drop n) = val l / pw n := by
  by_cases hn : n ≤ l.length
  · have e : l = l.take n ++ l.drop n := (List.take_append_drop n l).symm
    have h2 := val_append (l.take n) (l.drop n)
    rw [← e] at h2
    have hl : (l.take n).length = n := by simp; omega
    rw [hl] at h2
    have h3 := val_lt (h.take n)
    rw [hl] at h3
    have h4 := val_nonneg (h.take n)
    have := pw_pos n
    rw [h2, Int.add_mul_ediv_left _ _ (by omega), Int.ediv_eq_zero_of_lt h4 h3]; omega
  · rw [List.drop_eq_nil_of_le (by omega)]
    have h3 := val_lt h
    have h4 := val_nonneg h
    have := pw_mono (show l.length ≤ n by omega)
    rw [Int.ediv_eq_zero_of_lt h4 (by omega)]; rfl
theorem pw_two (n : Nat) : pw n = (2 ^ (32 * n) : Nat) := by
  induction n with
  | zero => rfl
  | succ n ih => rw [show 32 * (n + 1) = 32 * n + 32 by omega, Nat.pow_add]; simp only [pw]; rw [ih]; simp; omega
end Nm
end Go.Proofs.YtojcaoccjapdoaaDoor
/-
  Rows of limbs that a call makes and writes; single limbs; sums of three limbs.
-/
namespace Go.Proofs.YtojcaoccjapdoaaDoor
set_option linter.unusedVariables false
set_option linter.unusedSimpArgs false
open Go.RowKit Go.Deep
/-- The block b holds the limbs os, whole, and may be written. -/
def Rw (w : World) (b : Nat) (os : List Int) : Prop := w.rowIs b 74 os.length (fun i => .int .u32 (os.getD i 0))
theorem Rw.set {w : World} {b : Nat} {os : List Int} (h : Rw w b os) {k : Nat} (hk : k < os.length) (v : Int) : Rw (w.setCell ⟨b, k, none⟩ (.int .u32 v)) b (os.set k v) := by
  unfold Rw at *
  rw [List.length_set]
  refine (World.rowIs.set h k _).congr fun i _ => ?_
  rw [Nm.getD_set _ _ _ _ hk]
  by_cases e : i = k <;> simp [e]
theorem Rw.own {w : World} {b base : Nat} {os : List Int} (h : Rw w b os) (hb : base ≤ b) (hm : os.length ≤ maxLen) : Own w base (some ⟨b, 0, none⟩) os.length os := Own.of_row h (fun _ _ => rfl) hb hm
theorem Rw.cell {w : World} {b : Nat} {os : List Int} (h : Rw w b os) {k : Nat} (hk : k < os.length) : w.cell? ⟨b, k, none⟩ = some (.int .u32 (os.getD k 0)) := World.rowIs.cell h hk
theorem Rw.frozen {w : World} {b : Nat} {os : List Int} (h : Rw w b os) (k : Nat) : w.frozen? ⟨b, k, none⟩ = false := World.rowIs.frozen h k
theorem Rw.made (w : World) (n : Nat) : Rw (w.alloc (.cells (madeCells #[.int .u32 0] n) 74)) w.heap.size (List.replicate n 0) := by
  unfold Rw
  rw [List.length_replicate]
  refine (World.rowIs_made w (.int .u32 0) n 74).congr fun i _ => ?_
  rw [Nm.getD_replicate]
theorem Rw.below {w w' : World} {b : Nat} {os : List Int} (h : Rw w b os) (hb : Below w.heap.size w w') (hlt : b < w.heap.size) : Rw w' b os := by
  obtain ⟨c, h1, h2, h3⟩ := h
  exact ⟨c, by rw [hb.block b hlt]; exact h1, h2, h3⟩

set_option maxHeartbeats 1000000 in
theorem limbAt_any (a : Option Addr) (cap : Nat) (zs : List Int) (i : Nat) (w : World) (hs : Sl .u32 w (.slice a zs.length cap) zs) (hl : zs.length ≤ 140737488355328) (hi : i ≤ 140737488355328) :
    Calls Tryd.prog 116 #[.slice a zs.length cap, .int .i64 i] w fun e w' => e = .returned (.int .u32 (zs.getD i 0)) ∧ w' = w := by
  obtain ⟨-, hx1, hx2, hx3⟩ := hs.cells
  by_cases hlt : i < zs.length
  · obtain ⟨b, off, rfl, hcx⟩ := hx3 (by omega)
    have hc := hcx i hlt
    clear hcx hx3
    obtain ⟨x, hx⟩ : ∃ x, x = zs.getD i 0 := ⟨_, rfl⟩
    rw [← hx] at hc ⊢
    clear hx
    go_enter Tryd.func116, Tryd.ntmps116
    go_wp2
    go_ret
    exact ⟨rfl, rfl⟩
  · have HR : Hid (zs.getD i 0 = 0) := hid (Nm.getD_out (by omega))
    clear hx3
    go_enter Tryd.func116, Tryd.ntmps116
    go_wp2
    go_ret
    exact ⟨ret_int HR.out.symm, rfl⟩
set_option maxHeartbeats 1000000 in
theorem limb_any (a : Option Addr) (cap : Nat) (zs : List Int) (i : Nat) (w : World) (hs : Sl .u32 w (.slice a zs.length cap) zs) (hz : Nm.Dg zs) (hl : zs.length ≤ 140737488355328) (hi : i ≤ 140737488355328) :
    Calls Tryd.prog 144 #[.slice a zs.length cap, .int .i64 i] w fun e w' => e = .returned (.int .u64 (zs.getD i 0)) ∧ w' = w := by
  obtain ⟨-, hx1, hx2, hx3⟩ := hs.cells
  by_cases hlt : i < zs.length
  · obtain ⟨b, off, rfl, hcx⟩ := hx3 (by omega)
    have hc := hcx i hlt
    have hd := hz.getD i
    clear hcx hx3
    obtain ⟨x, hx⟩ : ∃ x, x = zs.getD i 0 := ⟨_, rfl⟩
    rw [← hx] at hc hd ⊢
    clear hx
    obtain ⟨hd0, hd1⟩ := hd
    go_enter Tryd.func144, Tryd.ntmps144
    go_wp2
    go_ret
    exact ⟨rfl, rfl⟩
  · have HR : Hid (zs.getD i 0 = 0) := hid (Nm.getD_out (by omega))
    clear hx3
    go_enter Tryd.func144, Tryd.ntmps144
    go_wp2
    go_ret
    exact ⟨ret_int HR.out.symm, rfl⟩
set_option maxHeartbeats 1000000 in
theorem add32_any (x y c : Int) (w : World) (hx : 0 ≤ x) (hx1 : x < 4294967296) (hy : 0 ≤ y) (hy1 : y < 4294967296) (hc : 0 ≤ c) (hc1 : c ≤ 1) :
    Calls Tryd.prog 167 #[.int .u32 x, .int .u32 y, .int .u32 c] w fun e w' => e = .returned (.tuple #[.int .u32 ((x + y + c) % 4294967296), .int .u32 ((x + y + c) / 4294967296)]) ∧ w' = w := by
  go_enter Tryd.func167, Tryd.ntmps167
  go_wp2
  go_ret2
  exact ⟨rfl, rfl⟩
end Go.Proofs.YtojcaoccjapdoaaDoor
/-
  Sums of limbs, by the program and by the specification.
-/
namespace Go.Proofs.YtojcaoccjapdoaaDoor
set_option linter.unusedVariables false
set_option linter.unusedSimpArgs false
open Go.RowKit Go.Deep
theorem mk1 (N : Nat) (h : N ≤ 1000000) : ∀ w : World, (Instr.makeSlice 29 (.int .i64 ((N : Int) + 1)) (.int .i64 ((N : Int) + 1))).run Tryd.prog w = .ok (.slice (some ⟨w.heap.size, 0, none⟩) (N + 1) (N + 1)) (w.alloc (.cells (madeCells #[.int .u32 0] (N + 1)) 74)) :=
  run_make_row' (P := Tryd.prog) 29 74 (.int .u32 0) 4 Tryd.underlying29 info32 rfl .i64 .i64 (N + 1) (by omega) (by omega)
set_option maxRecDepth 10000 in
set_option maxHeartbeats 800000 in
theorem addLimbs_lt (a a' : Option Addr) (cap cap' : Nat) (xs ys : List Int) (w : World) (hx : Sl .u32 w (.slice a xs.length cap) xs) (hy : Sl .u32 w (.slice a' ys.length cap') ys) (dx : Nm.Dg xs) (dy : Nm.Dg ys) (hl : xs.length ≤ 1000000) (hl' : ys.length ≤ 1000000) (hc : xs.length < ys.length) :
    Calls Tryd.prog 153 #[.slice a xs.length cap, .slice a' ys.length cap'] w fun e w' => ∃ a1 c1 os, e = .returned (.slice a1 os.length c1) ∧ Own w' w.heap.size a1 c1 os ∧ Nm.Dg os ∧ Nm.val os = Nm.val xs + Nm.val ys ∧ os.length ≤ 1048576 ∧ Below w.heap.size w w' := by
  have hmk := mk1 ys.length (by omega)
  go_enter Tryd.func153, Tryd.ntmps153
  go_wp2_with fail
  clear hmk
  go_loopw [7, 18] (fun cy i wr => ∃ k : Nat, ∃ os : List Int, ∃ c : Int, k ≤ ys.length ∧ i = .int .i64 k ∧ cy = .int .u32 c ∧ 0 ≤ c ∧ c ≤ 1 ∧ os.length = ys.length + 1 ∧ Rw wr w.heap.size os ∧ Nm.Dg os ∧ Nm.AddAt xs ys os k c ∧ Below w.heap.size w wr) (fun _ i _ => ys.length - (intOf i).toNat)
  case atStart => exact ⟨0, List.replicate (ys.length + 1) 0, 0, Nat.zero_le _, rfl, rfl, by omega, by omega, by simp, Rw.made w (ys.length + 1), Nm.Dg.replicate _, Nm.AddAt.zero _ _ _, (by repeat (first | exact Below.refl _ _ | refine Below.drew ?_ | refine bel_dn ?_ _ | refine bel_al ?_ _ | refine Below.setCell ?_ (by first | omega | (simp; done) | (simp; omega)) _ | refine Below.alloc ?_ (by first | omega | (simp; done) | (simp; omega)) _))⟩
  case round =>
    obtain ⟨k, os, c, hk, rfl, rfl, hc0, hc1, hol, hrw, hdo, hadd, hb⟩ := hrel
    have HOL := hid hol
    have hol1 : ys.length + 1 ≤ os.length := by omega
    have HADD := hid hadd
    have HDO := hid hdo
    clear hol hadd hdo
    have sx := hx.below hb
    have sy := hy.below hb
    by_cases hlt : k < ys.length
    · have hcell := hrw.cell (k := k) (by omega)
      have hfr := hrw.frozen k
      have c1 := limbAt_any a cap xs k wr sx (by omega) (by omega)
      have c2 := limbAt_any a' cap' ys k wr sy (by omega) (by omega)
      have hst := fun d c' => Nm.AddAt.step (d := d) (c' := c') HADD.out (show k < os.length by omega)
      obtain ⟨ex0, ex1⟩ := dx.getD k
      obtain ⟨ey0, ey1⟩ := dy.getD k
      obtain ⟨x, hxk⟩ : ∃ x, x = xs.getD k 0 := ⟨_, rfl⟩
      obtain ⟨y, hyk⟩ : ∃ y, y = ys.getD k 0 := ⟨_, rfl⟩
      rw [← hxk] at c1 ex0 ex1
      rw [← hyk] at c2 ey0 ey1
      rw [← hxk, ← hyk] at hst
      have C1 := hid c1
      have C2 := hid c2
      have HST := hid hst
      clear c1 c2 hst hxk hyk
      go_wp2_with fail
      refine C1.out.mono ?_
      rintro e w1 ⟨rfl, rfl⟩
      go_wp2_with fail
      refine C2.out.mono ?_
      rintro e w1 ⟨rfl, rfl⟩
      go_wp2_with fail
      refine (add32_any x y c _ ex0 ex1 ey0 ey1 hc0 hc1).mono ?_
      rintro e w1 ⟨rfl, rfl⟩
      go_wp2
      go_roundw
      case rel =>
        refine ⟨k + 1, os.set k ((x + y + c) % 4294967296), (x + y + c) / 4294967296, by omega, by go_num, rfl, by omega, by omega, by rw [List.length_set]; exact HOL.out, hrw.set (by omega) _, HDO.out.set _ (by omega), HST.out _ _ (by omega), hb.setCell (Nat.le_refl _) _⟩
      case measure => simp [intOf]; omega
    · obtain rfl : k = ys.length := by omega
      have hcell := hrw.cell (k := ys.length) (by omega)
      have hfr := hrw.frozen ys.length
      go_wp2
      go_ret
      have hfull : Nm.val (os.set ys.length c) = Nm.val xs + Nm.val ys := by
        have h1 := HADD.out
        have h2 := Nm.val_take_succ (os.set ys.length c) ys.length
        have h3 : (os.set ys.length c).take (ys.length + 1) = os.set ys.length c := List.take_of_length_le (by rw [List.length_set]; exact Nat.le_of_eq HOL.out)
        rw [h3, List.take_set_of_le (Nat.le_refl _), Nm.getD_set _ _ _ _ (by omega), if_pos rfl] at h2
        unfold Nm.AddAt at h1
        rw [List.take_of_length_le (l := xs) (by omega), List.take_of_length_le (l := ys) (by omega)] at h1
        omega
      have hlen : (os.set ys.length c).length = ys.length + 1 := by rw [List.length_set]; exact HOL.out
      have hown : Own (wr.setCell ⟨w.heap.size, ys.length, none⟩ (.int .u32 c)) w.heap.size (some ⟨w.heap.size, 0, none⟩) (ys.length + 1) (os.set ys.length c) := by
        have := (hrw.set (k := ys.length) (by omega) c).own (base := w.heap.size) (Nat.le_refl _) (by unfold maxLen; omega)
        rwa [hlen] at this
      refine ⟨some ⟨w.heap.size, 0, none⟩, ys.length + 1, os.set ys.length c, by rw [hlen]; rfl, hown, HDO.out.set _ (by omega), hfull, by omega, hb.setCell (Nat.le_refl _) _⟩
set_option maxRecDepth 10000 in
set_option maxHeartbeats 800000 in
theorem addLimbs_ge (a a' : Option Addr) (cap cap' : Nat) (xs ys : List Int) (w : World) (hx : Sl .u32 w (.slice a xs.length cap) xs) (hy : Sl .u32 w (.slice a' ys.length cap') ys) (dx : Nm.Dg xs) (dy : Nm.Dg ys) (hl : xs.length ≤ 1000000) (hl' : ys.length ≤ 1000000) (hc : ¬ xs.length < ys.length) :
    Calls Tryd.prog 153 #[.slice a xs.length cap, .slice a' ys.length cap'] w fun e w' => ∃ a1 c1 os, e = .returned (.slice a1 os.length c1) ∧ Own w' w.heap.size a1 c1 os ∧ Nm.Dg os ∧ Nm.val os = Nm.val xs + Nm.val ys ∧ os.length ≤ 1048576 ∧ Below w.heap.size w w' := by
  have hmk := mk1 xs.length (by omega)
  go_enter Tryd.func153, Tryd.ntmps153
  go_wp2_with fail
  clear hmk
  go_loopw [7, 18] (fun cy i wr => ∃ k : Nat, ∃ os : List Int, ∃ c : Int, k ≤ xs.length ∧ i = .int .i64 k ∧ cy = .int .u32 c ∧ 0 ≤ c ∧ c ≤ 1 ∧ os.length = xs.length + 1 ∧ Rw wr w.heap.size os ∧ Nm.Dg os ∧ Nm.AddAt xs ys os k c ∧ Below w.heap.size w wr) (fun _ i _ => xs.length - (intOf i).toNat)
  case atStart => exact ⟨0, List.replicate (xs.length + 1) 0, 0, Nat.zero_le _, rfl, rfl, by omega, by omega, by simp, Rw.made w (xs.length + 1), Nm.Dg.replicate _, Nm.AddAt.zero _ _ _, (by repeat (first | exact Below.refl _ _ | refine Below.drew ?_ | refine bel_dn ?_ _ | refine bel_al ?_ _ | refine Below.setCell ?_ (by first | omega | (simp; done) | (simp; omega)) _ | refine Below.alloc ?_ (by first | omega | (simp; done) | (simp; omega)) _))⟩
  case round =>
    obtain ⟨k, os, c, hk, rfl, rfl, hc0, hc1, hol, hrw, hdo, hadd, hb⟩ := hrel
    have HOL := hid hol
    have hol1 : xs.length + 1 ≤ os.length := by omega
    have HADD := hid hadd
    have HDO := hid hdo
    clear hol hadd hdo
    have sx := hx.below hb
    have sy := hy.below hb
    by_cases hlt : k < xs.length
    · have hcell := hrw.cell (k := k) (by omega)
      have hfr := hrw.frozen k
      have c1 := limbAt_any a cap xs k wr sx (by omega) (by omega)
      have c2 := limbAt_any a' cap' ys k wr sy (by omega) (by omega)
      have hst := fun d c' => Nm.AddAt.step (d := d) (c' := c') HADD.out (show k < os.length by omega)
      obtain ⟨ex0, ex1⟩ := dx.getD k
      obtain ⟨ey0, ey1⟩ := dy.getD k
      obtain ⟨x, hxk⟩ : ∃ x, x = xs.getD k 0 := ⟨_, rfl⟩
      obtain ⟨y, hyk⟩ : ∃ y, y = ys.getD k 0 := ⟨_, rfl⟩
      rw [← hxk] at c1 ex0 ex1
      rw [← hyk] at c2 ey0 ey1
      rw [← hxk, ← hyk] at hst
      have C1 := hid c1
      have C2 := hid c2
      have HST := hid hst
      clear c1 c2 hst hxk hyk
      go_wp2_with fail
      refine C1.out.mono ?_
      rintro e w1 ⟨rfl, rfl⟩
      go_wp2_with fail
      refine C2.out.mono ?_
      rintro e w1 ⟨rfl, rfl⟩
      go_wp2_with fail
      refine (add32_any x y c _ ex0 ex1 ey0 ey1 hc0 hc1).mono ?_
      rintro e w1 ⟨rfl, rfl⟩
      go_wp2
      go_roundw
      case rel =>
        refine ⟨k + 1, os.set k ((x + y + c) % 4294967296), (x + y + c) / 4294967296, by omega, by go_num, rfl, by omega, by omega, by rw [List.length_set]; exact HOL.out, hrw.set (by omega) _, HDO.out.set _ (by omega), HST.out _ _ (by omega), hb.setCell (Nat.le_refl _) _⟩
      case measure => simp [intOf]; omega
    · obtain rfl : k = xs.length := by omega
      have hcell := hrw.cell (k := xs.length) (by omega)
      have hfr := hrw.frozen xs.length
      go_wp2
      go_ret
      have hfull : Nm.val (os.set xs.length c) = Nm.val xs + Nm.val ys := by
        have h1 := HADD.out
        have h2 := Nm.val_take_succ (os.set xs.length c) xs.length
        have h3 : (os.set xs.length c).take (xs.length + 1) = os.set xs.length c := List.take_of_length_le (by rw [List.length_set]; exact Nat.le_of_eq HOL.out)
        rw [h3, List.take_set_of_le (Nat.le_refl _), Nm.getD_set _ _ _ _ (by omega), if_pos rfl] at h2
        unfold Nm.AddAt at h1
        rw [List.take_of_length_le (l := xs) (by omega), List.take_of_length_le (l := ys) (by omega)] at h1
        omega
      have hlen : (os.set xs.length c).length = xs.length + 1 := by rw [List.length_set]; exact HOL.out
      have hown : Own (wr.setCell ⟨w.heap.size, xs.length, none⟩ (.int .u32 c)) w.heap.size (some ⟨w.heap.size, 0, none⟩) (xs.length + 1) (os.set xs.length c) := by
        have := (hrw.set (k := xs.length) (by omega) c).own (base := w.heap.size) (Nat.le_refl _) (by unfold maxLen; omega)
        rwa [hlen] at this
      refine ⟨some ⟨w.heap.size, 0, none⟩, xs.length + 1, os.set xs.length c, by rw [hlen]; rfl, hown, HDO.out.set _ (by omega), hfull, by omega, hb.setCell (Nat.le_refl _) _⟩
theorem addLimbs_any (a a' : Option Addr) (cap cap' : Nat) (xs ys : List Int) (w : World) (hx : Sl .u32 w (.slice a xs.length cap) xs) (hy : Sl .u32 w (.slice a' ys.length cap') ys) (dx : Nm.Dg xs) (dy : Nm.Dg ys) (hl : xs.length ≤ 1000000) (hl' : ys.length ≤ 1000000) :
    Calls Tryd.prog 153 #[.slice a xs.length cap, .slice a' ys.length cap'] w fun e w' => ∃ a1 c1 os, e = .returned (.slice a1 os.length c1) ∧ Own w' w.heap.size a1 c1 os ∧ Nm.Dg os ∧ Nm.val os = Nm.val xs + Nm.val ys ∧ os.length ≤ 1048576 ∧ Below w.heap.size w w' := by
  by_cases h : xs.length < ys.length
  · exact addLimbs_lt a a' cap cap' xs ys w hx hy dx dy hl hl' h
  · exact addLimbs_ge a a' cap cap' xs ys w hx hy dx dy hl hl' h
end Go.Proofs.YtojcaoccjapdoaaDoor
/-
  Limbs shifted up, by the program.
-/
namespace Go.Proofs.YtojcaoccjapdoaaDoor
set_option linter.unusedVariables false
set_option linter.unusedSimpArgs false
open Go.RowKit Go.Deep
theorem mk3 (N M : Nat) (h : N ≤ 400000) (h' : M ≤ 400000) : ∀ w : World, (Instr.makeSlice 29 (.int .i64 ((N : Int) + (M : Int) + 1)) (.int .i64 ((N : Int) + (M : Int) + 1))).run Tryd.prog w = .ok (.slice (some ⟨w.heap.size, 0, none⟩) (N + M + 1) (N + M + 1)) (w.alloc (.cells (madeCells #[.int .u32 0] (N + M + 1)) 74)) :=
  run_make_row' (P := Tryd.prog) 29 74 (.int .u32 0) 4 Tryd.underlying29 info32 rfl .i64 .i64 (N + M + 1) (by omega) (by omega)
theorem pq (r : Nat) (hr : r < 32) : ∃ q : Int, 1 ≤ q ∧ (2 : Int) ^ r * q = 4294967296 ∧ 1 ≤ (2 : Int) ^ r := by
  refine ⟨(2 : Int) ^ (32 - r), ?_, ?_, ?_⟩
  · exact Int.pow_pos (by decide)
  · rw [← Int.pow_add, show r + (32 - r) = 32 by omega]; decide
  · exact Int.pow_pos (by decide)
theorem wrapu (t : Int) (h0 : 0 ≤ t) (h1 : t < 18446744073709551616) : IntKind.u64.wrap t = t := by rw [IntKind.wrap_u64]; omega
/-- What a limb is, and what is put to it above. -/
theorem or_up (o x : Int) (r : Nat) (hr : r < 32) (ho : 0 ≤ o) (ho1 : o < (2 : Int) ^ r) (hx : 0 ≤ x) (hx1 : x < 4294967296) : bits .or .u32 o (x * (2 : Int) ^ r % 4294967296) = o + x * (2 : Int) ^ r % 4294967296 := by
  obtain ⟨q, hq, e, hp⟩ := pq r hr
  obtain ⟨u0, u1, u2, u3, u4, u5⟩ := Nm.up_parts (x := x) (p := (2 : Int) ^ r) (q := q) ⟨hx, hx1⟩ hp hq e
  have em : x * (2 : Int) ^ r % 4294967296 = (2 : Int) ^ r * (x % q) := by rw [← e, Int.mul_comm x, Int.mul_emod_mul_of_pos x q (by omega)]
  have hq0 := Int.emod_nonneg x (show q ≠ 0 by omega)
  obtain ⟨O, rfl⟩ := Int.eq_ofNat_of_zero_le ho
  obtain ⟨Q, hQ⟩ := Int.eq_ofNat_of_zero_le hq0
  obtain ⟨A, hA⟩ := Int.eq_ofNat_of_zero_le u2
  have hAQ : A = 2 ^ r * Q := by
    have h : (A : Int) = (2 : Int) ^ r * (Q : Int) := by rw [← hA, ← hQ]; exact em
    have h2 : ((2 ^ r * Q : Nat) : Int) = (2 : Int) ^ r * (Q : Int) := by simp
    omega
  have hO : O < 2 ^ r := by
    have h2 : ((2 ^ r : Nat) : Int) = (2 : Int) ^ r := by simp
    omega
  rw [hA, u32_or_nat O A (by omega) (by omega), Nat.or_comm, nat_join r A O (by rw [hAQ]; exact Nat.mul_mod_right _ _) hO]
  omega
set_option maxRecDepth 10000 in
set_option maxHeartbeats 1600000 in
theorem up_any (a : Option Addr) (cap : Nat) (xs : List Int) (n : Int) (wh r : Nat) (w : World) (hx : Sl .u32 w (.slice a xs.length cap) xs) (dx : Nm.Dg xs) (hl : xs.length ≤ 400000) (hw : wh ≤ 400000) (hr : r < 32) (h0 : 0 ≤ n) (h1 : n ≤ 1000000) (hq : n / 32 = (wh : Int)) (hm : n % 32 = (r : Int)) :
    Calls Tryd.prog 86 #[.slice a xs.length cap, .int .i64 n] w fun e w' => ∃ a1 c1 os, e = .returned (.slice a1 os.length c1) ∧ Own w' w.heap.size a1 c1 os ∧ Nm.Dg os ∧ Nm.val os = Nm.pw wh * ((2 : Int) ^ r * Nm.val xs) ∧ os.length ≤ 1048576 ∧ Below w.heap.size w w' := by
  have hmk := mk3 wh xs.length hw hl
  obtain ⟨q, hp⟩ := pq r hr
  have HP := hid hp
  clear hp
  obtain ⟨-, hx1, hx2, hx3⟩ := hx.cells
  have HX3 := hid hx3
  clear hx3
  go_enter Tryd.func86, Tryd.ntmps86
  go_wp2_with fail
  clear hmk
  go_loopw [23] (fun iv wr => ∃ i : Nat, ∃ os : List Int, i ≤ xs.length ∧ iv = .int .i64 i ∧ os.length = wh + xs.length + 1 ∧ Rw wr w.heap.size os ∧ Nm.UpAt xs os wh ((2 : Int) ^ r) i ∧ Below w.heap.size w wr) (fun iv _ => xs.length - (intOf iv).toNat)
  case atStart => exact ⟨0, List.replicate (wh + xs.length + 1) 0, Nat.zero_le _, rfl, by simp, Rw.made w _, Nm.UpAt.zero _ _ _ _ HP.out.2.2, (by repeat (first | exact Below.refl _ _ | refine Below.drew ?_ | refine bel_dn ?_ _ | refine bel_al ?_ _ | refine Below.setCell ?_ (by first | omega | (simp; done) | (simp; omega)) _ | refine Below.alloc ?_ (by first | omega | (simp; done) | (simp; omega)) _))⟩
  case round =>
    obtain ⟨i, os, hi, rfl, hol, hrw, hup, hb⟩ := hrel
    have H0 := hid (And.intro hol hup)
    have hol1 : wh + xs.length + 1 ≤ os.length := by omega
    clear hol hup
    by_cases hlt : i < xs.length
    · obtain ⟨b, off, rfl, hcx⟩ := HX3.out (by omega)
      have hca0 := hcx i hlt
      have hbl := World.block_lt_of_cell? w _ hca0
      have hca : wr.cell? ⟨b, off + i, none⟩ = some (.int .u32 (xs.getD i 0)) := (hb.cell (p := ⟨b, off + i, none⟩) hbl).trans hca0
      obtain ⟨ex0, ex1⟩ := dx.getD i
      obtain ⟨x, hxk⟩ : ∃ x, x = xs.getD i 0 := ⟨_, rfl⟩
      rw [← hxk] at hca ex0 ex1
      have HXK := hid hxk
      have hcell := hrw.cell (k := wh + i) (by omega)
      have hfr := hrw.frozen (wh + i)
      have hcell' := hrw.cell (k := wh + i + 1) (by omega)
      have hfr' := hrw.frozen (wh + i + 1)
      obtain ⟨o, hok⟩ : ∃ o, o = os.getD (wh + i) 0 := ⟨_, rfl⟩
      rw [← hok] at hcell
      have hlo := H0.out.2.lo
      have hog := H0.out.2.d.getD (wh + i)
      have hst := H0.out.2.step HP.out.2.2 HP.out.1 HP.out.2.1 dx (show wh + i + 1 < os.length by omega)
      rw [← hok] at hlo hog hst
      rw [← HXK.out] at hst
      obtain ⟨p0, p1, p2, p3, p4, p5⟩ := Nm.up_parts (x := x) (p := (2 : Int) ^ r) (q := q) ⟨ex0, ex1⟩ HP.out.2.2 HP.out.1 HP.out.2.1
      have hpb : (2 : Int) ^ r ≤ 4294967296 := by omega
      have k1 := wrapu _ p0 p1
      have k2 := or_up o x r hr hog.1 hlo ex0 ex1
      have k3 : x * (2 : Int) ^ r / 4294967296 % 4294967296 = x * (2 : Int) ^ r / 4294967296 := by omega
      have HK := hid (And.intro k1 (And.intro k2 k3))
      have HST := hid hst
      clear hxk hca0 hcx hok hst k1 k2 k3 hlo hog p0 p1 p2 p3 p4 p5 hpb
      go_wp2_with fail
      rw [HK.out.1, HK.out.2.1, HK.out.2.2]
      go_roundw
      case rel => exact ⟨i + 1, (os.set (wh + i) (o + x * (2 : Int) ^ r % 4294967296)).set (wh + i + 1) (x * (2 : Int) ^ r / 4294967296), by omega, by go_num, by rw [List.length_set, List.length_set]; exact H0.out.1, (hrw.set (by omega) _).set (by rw [List.length_set]; omega) _, HST.out, (hb.setCell (Nat.le_refl _) _).setCell (Nat.le_refl _) _⟩
      case measure => simp [intOf]; omega
    · obtain rfl : i = xs.length := by omega
      have hlen := H0.out.1
      have hown := hrw.own (base := w.heap.size) (Nat.le_refl _) (by unfold maxLen; omega)
      have hfull := H0.out.2.full
      have HF := hid (And.intro hown (And.intro hfull hlen))
      clear hown hfull hlen
      go_wp2
      go_ret
      exact ⟨some ⟨w.heap.size, 0, none⟩, os.length, os, by rw [HF.out.2.2]; rfl, HF.out.1, H0.out.2.d, HF.out.2.1, by have := HF.out.2.2; omega, hb⟩
end Go.Proofs.YtojcaoccjapdoaaDoor
