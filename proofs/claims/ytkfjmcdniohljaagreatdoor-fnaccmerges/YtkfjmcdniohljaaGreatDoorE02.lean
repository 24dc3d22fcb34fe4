/-
  What is needed of FloatA, FloatB, NumsD, FloatD, FloatE.
-/
import Derived.Deep.RegionHeld3
import Derived.Deep.QuietTactic
import Derived.BigQuiet
import Derived.Test.YtkfjmcdniohljaaGreatDoorE00
set_option maxHeartbeats 16000000
set_option maxRecDepth 1000000
namespace Go.Proofs.YtkfjmcdniohljaaGreatDoor
set_option linter.unusedVariables false
set_option linter.unusedSimpArgs false
open Go.RowKit
/-- The table of the formats' sizes, as it lies. -/
structure Tab (w : World) : Prop where
  c0 : w.cell? ⟨1, 0, none⟩ = some (.int .u64 0)
  c1 : w.cell? ⟨1, 1, none⟩ = some (.int .u64 0)
  c2 : w.cell? ⟨1, 2, none⟩ = some (.int .i64 0)
  c3 : w.cell? ⟨1, 3, none⟩ = some (.int .u64 23)
  c4 : w.cell? ⟨1, 4, none⟩ = some (.int .u64 255)
  c5 : w.cell? ⟨1, 5, none⟩ = some (.int .i64 (-149))
  c6 : w.cell? ⟨1, 6, none⟩ = some (.int .u64 52)
  c7 : w.cell? ⟨1, 7, none⟩ = some (.int .u64 2047)
  c8 : w.cell? ⟨1, 8, none⟩ = some (.int .i64 (-1074))
theorem Tab.below {w w' : World} (h : Tab w) (hb : Below w.heap.size w w') : Tab w' := by
  have hlt := World.block_lt_of_cell? w _ h.c0
  have e : ∀ i, w'.cell? ⟨1, i, none⟩ = w.cell? ⟨1, i, none⟩ := fun i => hb.cell (p := ⟨1, i, none⟩) hlt
  exact ⟨(e 0).trans h.c0, (e 1).trans h.c1, (e 2).trans h.c2, (e 3).trans h.c3, (e 4).trans h.c4, (e 5).trans h.c5, (e 6).trans h.c6, (e 7).trans h.c7, (e 8).trans h.c8⟩

/-- With the sign S, where there is one. -/
def sgn (S x : Int) (ng : Bool) : Int := if ng then x + S else x
theorem Tab.pos {w : World} (h : Tab w) : 1 < w.heap.size := World.block_lt_of_cell? w _ h.c0

theorem sizes32 (w : World) (h : Tab w) :
    Calls Tryz.prog 102 #[.int .i64 32] w fun e w' => e = .returned (.tuple #[.agg #[.int .u64 23, .int .u64 255, .int .i64 (-149)], .bool true]) ∧ Below w.heap.size w w' := by
  have hp := h.pos
  obtain ⟨h0, h1, h2, h3, h4, h5, h6, h7, h8⟩ := h
  go_enter Tryz.func102, Tryz.ntmps102
  go_wp2
  exact bodyPost_ret (v := .tuple #[.agg #[.int .u64 23, .int .u64 255, .int .i64 (-149)], .bool true]) (by simp [results, Tryz.results102, go_sem]) rfl ⟨rfl, (by repeat (first | exact bz0 _ _ | refine bz1 ?_ | refine bz2 ?_ _ | refine bz3 ?_ _ | refine bz5 ?_ _ | refine bz6 ?_ _))⟩
theorem sizes64 (w : World) (h : Tab w) :
    Calls Tryz.prog 102 #[.int .i64 64] w fun e w' => e = .returned (.tuple #[.agg #[.int .u64 52, .int .u64 2047, .int .i64 (-1074)], .bool true]) ∧ Below w.heap.size w w' := by
  have hp := h.pos
  obtain ⟨h0, h1, h2, h3, h4, h5, h6, h7, h8⟩ := h
  go_enter Tryz.func102, Tryz.ntmps102
  go_wp2
  exact bodyPost_ret (v := .tuple #[.agg #[.int .u64 52, .int .u64 2047, .int .i64 (-1074)], .bool true]) (by simp [results, Tryz.results102, go_sem]) rfl ⟨rfl, (by repeat (first | exact bz0 _ _ | refine bz1 ?_ | refine bz2 ?_ _ | refine bz3 ?_ _ | refine bz5 ?_ _ | refine bz6 ?_ _))⟩
theorem sizes0 (fm : Int) (w : World) (h : Tab w) (h32 : fm ≠ 32) (h64 : fm ≠ 64) :
    Calls Tryz.prog 102 #[.int .i64 fm] w fun e w' => e = .returned (.tuple #[.agg #[.int .u64 0, .int .u64 0, .int .i64 0], .bool false]) ∧ Below w.heap.size w w' := by
  have hp := h.pos
  obtain ⟨h0, h1, h2, h3, h4, h5, h6, h7, h8⟩ := h
  have e1 : (fm == 32) = false := by simpa using h32
  have e2 : (fm == 64) = false := by simpa using h64
  clear h32 h64
  go_enter Tryz.func102, Tryz.ntmps102
  go_wp2
  exact bodyPost_ret (v := .tuple #[.agg #[.int .u64 0, .int .u64 0, .int .i64 0], .bool false]) (by simp [results, Tryz.results102, go_sem]) rfl ⟨rfl, (by repeat (first | exact bz0 _ _ | refine bz1 ?_ | refine bz2 ?_ _ | refine bz3 ?_ _ | refine bz5 ?_ _ | refine bz6 ?_ _))⟩

/-- The three cells of a format's sizes. -/
def Z3 (w : World) (b : Nat) (v0 v1 v2 : Value) : Prop := w.cell? ⟨b, 0, none⟩ = some v0 ∧ w.cell? ⟨b, 1, none⟩ = some v1 ∧ w.cell? ⟨b, 2, none⟩ = some v2
theorem Z3.below {w w' : World} {b : Nat} {v0 v1 v2 : Value} (h : Z3 w b v0 v1 v2) (hb : Below w.heap.size w w') : w'.cell? ⟨b, 0, none⟩ = some v0 ∧ w'.cell? ⟨b, 1, none⟩ = some v1 ∧ w'.cell? ⟨b, 2, none⟩ = some v2 := by
  have hlt := World.block_lt_of_cell? w _ h.1
  exact ⟨(hb.cell (p := ⟨b, 0, none⟩) hlt).trans h.1, (hb.cell (p := ⟨b, 1, none⟩) hlt).trans h.2.1, (hb.cell (p := ⟨b, 2, none⟩) hlt).trans h.2.2⟩
theorem Z3.new (w : World) (v0 v1 v2 : Value) (t : TypeId) : Z3 (w.alloc (.cells #[v0, v1, v2] t)) w.heap.size v0 v1 v2 := ⟨by simp, by simp, by simp⟩
theorem Z3.drew {w : World} {b : Nat} {v0 v1 v2 : Value} (h : Z3 w b v0 v1 v2) : Z3 w.drew b v0 v1 v2 := h

end Go.Proofs.YtkfjmcdniohljaaGreatDoor
namespace Go.Proofs.YtkfjmcdniohljaaGreatDoor
set_option linter.unusedVariables false
namespace Nm
/-- Shifted up, in place: i limbs are done. -/
structure UpAt (xs os : List Int) (wh : Nat) (p : Int) (i : Nat) : Prop where
  v : val os = pw wh * (p * val (xs.take i))
  d : Dg os
  lo : os.getD (wh + i) 0 < p
  z : ∀ j, wh + i < j → os.getD j 0 = 0
theorem UpAt.zero (xs : List Int) (wh n : Nat) (p : Int) (hp : 1 ≤ p) : UpAt xs (List.replicate n 0) wh p 0 :=
  ⟨by simp [val, val_replicate], Dg.replicate n, by rw [getD_replicate]; omega, fun j _ => getD_replicate n j⟩
/-- What a shifted limb is parted to. -/
theorem up_parts {x p q : Int} (hx : 0 ≤ x ∧ x < 4294967296) (hp : 1 ≤ p) (hq : 1 ≤ q) (e : p * q = 4294967296) : 0 ≤ x * p ∧ x * p < 18446744073709551616 ∧ 0 ≤ x * p % 4294967296 ∧ x * p % 4294967296 ≤ 4294967296 - p ∧ 0 ≤ x * p / 4294967296 ∧ x * p / 4294967296 < p := by
  have h0 : 0 ≤ x * p := Int.mul_nonneg hx.1 (by omega)
  have hpb : p ≤ 4294967296 := by
    have : p * 1 ≤ p * q := Int.mul_le_mul_of_nonneg_left hq (by omega)
    omega
  have h1 : x * p ≤ 4294967295 * p := Int.mul_le_mul_of_nonneg_right (by omega) (by omega)
  have e1 : x * p % 4294967296 = (x % q) * p := by rw [← e, Int.mul_comm x p, Int.mul_emod_mul_of_pos x q (by omega), Int.mul_comm]
  have h2 : x % q * p ≤ (q - 1) * p := Int.mul_le_mul_of_nonneg_right (by have := Int.emod_lt_of_pos x (show 0 < q by omega); omega) (by omega)
  have h3 : 0 ≤ x % q * p := Int.mul_nonneg (Int.emod_nonneg x (by omega)) (by omega)
  rw [Int.sub_mul, Int.mul_comm q p, e] at h2
  refine ⟨h0, by omega, by omega, by omega, by omega, ?_⟩
  have : 4294967295 * p < p * 4294967296 := by omega
  exact Int.ediv_lt_of_lt_mul (by decide) (by omega)
theorem UpAt.step {xs os : List Int} {wh : Nat} {p : Int} {i : Nat} {q : Int} (h : UpAt xs os wh p i) (hp : 1 ≤ p) (hq : 1 ≤ q) (e : p * q = 4294967296) (dx : Dg xs) (hl : wh + i + 1 < os.length) :
    UpAt xs ((os.set (wh + i) (os.getD (wh + i) 0 + xs.getD i 0 * p % 4294967296)).set (wh + i + 1) (xs.getD i 0 * p / 4294967296)) wh p (i + 1) := by
  obtain ⟨hv, hd, hlo, hz⟩ := h
  obtain ⟨u0, u1, u2, u3, u4, u5⟩ := up_parts (dx.getD i) hp hq e
  have hg := hd.getD (wh + i)
  have hpb : p ≤ 4294967296 := by omega
  have hd1 : Dg (os.set (wh + i) (os.getD (wh + i) 0 + xs.getD i 0 * p % 4294967296)) := hd.set _ (by omega)
  refine ⟨?_, hd1.set _ (by omega), ?_, fun j hj => ?_⟩
  · rw [val_set _ _ _ (by simp; omega), val_set _ _ _ (by omega), getD_set _ _ _ _ (by omega), if_neg (by omega), hz (wh + i + 1) (by omega), hv, val_take_succ]
    have e1 : pw (wh + i) * (os.getD (wh + i) 0 + xs.getD i 0 * p % 4294967296 - os.getD (wh + i) 0) + pw (wh + i + 1) * (xs.getD i 0 * p / 4294967296 - 0) = pw (wh + i) * (xs.getD i 0 * p) := by
      rw [show pw (wh + i + 1) = 4294967296 * pw (wh + i) from rfl, Int.mul_comm 4294967296 (pw _), Int.mul_assoc, ← Int.mul_add]
      congr 1; omega
    have e2 : pw wh * (p * (val (xs.take i) + pw i * xs.getD i 0)) = pw wh * (p * val (xs.take i)) + pw (wh + i) * (xs.getD i 0 * p) := by
      rw [pw_add, Int.mul_add, Int.mul_add, Int.mul_comm (xs.getD i 0) p, ← Int.mul_assoc p (pw i), Int.mul_comm p (pw i), Int.mul_assoc, Int.mul_assoc]
    omega
  · rw [show wh + (i + 1) = wh + i + 1 by omega, getD_set _ _ _ _ (by simp; omega), if_pos rfl]; exact u5
  · rw [getD_set _ _ _ _ (by simp; omega), if_neg (by omega), getD_set _ _ _ _ (by omega), if_neg (by omega)]; exact hz j (by omega)

/-- Shifted up, limb behind limb: i limbs are done, c is carried. -/
structure UpTo (xs os : List Int) (wh : Nat) (p : Int) (i : Nat) (c : Int) : Prop where
  v : val os + pw (wh + i) * c = pw wh * (p * val (xs.take i))
  d : Dg os
  l : os.length = wh + i
  c0 : 0 ≤ c
  c1 : c < p
theorem UpTo.zero (xs : List Int) (wh : Nat) (p : Int) (hp : 1 ≤ p) : UpTo xs (List.replicate wh 0) wh p 0 0 :=
  ⟨by simp [val, val_replicate], Dg.replicate wh, by simp, Int.le_refl _, by omega⟩
theorem UpTo.step {xs os : List Int} {wh : Nat} {p : Int} {i : Nat} {c q : Int} (h : UpTo xs os wh p i c) (hp : 1 ≤ p) (hq : 1 ≤ q) (e : p * q = 4294967296) (dx : Dg xs) :
    UpTo xs (os ++ [(c + xs.getD i 0 * p) % 4294967296]) wh p (i + 1) ((c + xs.getD i 0 * p) / 4294967296) := by
  obtain ⟨hv, hd, hl, h0, h1⟩ := h
  obtain ⟨u0, u1, u2, u3, u4, u5⟩ := up_parts (dx.getD i) hp hq e
  refine ⟨?_, hd.append (Dg.cons (by omega) Dg.nil), by simp; omega, by omega, by omega⟩
  rw [val_snoc, hl, val_take_succ]
  have e1 : pw (wh + i) * ((c + xs.getD i 0 * p) % 4294967296) + pw (wh + (i + 1)) * ((c + xs.getD i 0 * p) / 4294967296) = pw (wh + i) * c + pw (wh + i) * (xs.getD i 0 * p) := by
    rw [show wh + (i + 1) = wh + i + 1 by omega, show pw (wh + i + 1) = 4294967296 * pw (wh + i) from rfl, Int.mul_comm 4294967296 (pw _), Int.mul_assoc, ← Int.mul_add, ← Int.mul_add]
    congr 1; omega
  have e2 : pw wh * (p * (val (xs.take i) + pw i * xs.getD i 0)) = pw wh * (p * val (xs.take i)) + pw (wh + i) * (xs.getD i 0 * p) := by
    rw [pw_add, Int.mul_add, Int.mul_add, Int.mul_comm (xs.getD i 0) p, ← Int.mul_assoc p (pw i), Int.mul_comm p (pw i), Int.mul_assoc, Int.mul_assoc]
  omega
/-- Behind the last limb nothing is carried. -/
theorem UpTo.full {xs os : List Int} {wh : Nat} {p : Int} {c q : Int} (h : UpTo xs os wh p (xs.length + 1) c) (hc : c = 0) : val os = pw wh * (p * val xs) := by
  have := h.v; rw [hc, List.take_of_length_le (by omega)] at this; simpa using this
theorem UpAt.full {xs os : List Int} {wh : Nat} {p : Int} (h : UpAt xs os wh p xs.length) : val os = pw wh * (p * val xs) := by
  have := h.v; rwa [List.take_of_length_le (by omega)] at this

/-- Shifted down: each limb with the low part of the next one. -/
def sd (p : Int) : List Int → List Int
  | [] => []
  | x :: r => (r.getD 0 0 * 4294967296 + x) / p % 4294967296 :: sd p r
theorem sd_length (p : Int) (l : List Int) : (sd p l).length = l.length := by
  induction l with
  | nil => rfl
  | cons x r ih => simp [sd, ih]
theorem sd_getD (p : Int) (l : List Int) (i : Nat) (h : i < l.length) : (sd p l).getD i 0 = (l.getD (i + 1) 0 * 4294967296 + l.getD i 0) / p % 4294967296 := by
  induction l generalizing i with
  | nil => simp at h
  | cons x r ih =>
    cases i with
    | zero => simp [sd]
    | succ i => simpa [sd] using ih i (by simpa using h)
theorem sd_dg (p : Int) (l : List Int) : Dg (sd p l) := by
  induction l with
  | nil => exact Dg.nil
  | cons x r ih => exact Dg.cons (by omega) ih
theorem getD_drop (l : List Int) (n i : Nat) : (l.drop n).getD i 0 = l.getD (n + i) 0 := by
  rw [List.getD_eq_getElem?_getD, List.getElem?_drop, ← List.getD_eq_getElem?_getD]
theorem sd_val {p q : Int} (hp : 1 ≤ p) (hq : 1 ≤ q) (e : p * q = 4294967296) {l : List Int} (h : Dg l) : val (sd p l) = val l / p := by
  induction l with
  | nil => simp [sd, val]
  | cons x r ih =>
    have ih := ih h.tail
    have hx := h.head
    simp only [sd, val, ih]
    have hv := val_nonneg h.tail
    have hy : r.getD 0 0 = val r % 4294967296 := by
      cases r with
      | nil => simp [val]
      | cons y s => have := h.tail.head; simp [val]; omega
    rw [hy]
    generalize val r = v at hv ⊢
    -- v is p s and u
    have es : v = p * (v / p) + v % p := (Int.mul_ediv_add_emod v p).symm
    have hu0 := Int.emod_nonneg v (show p ≠ 0 by omega)
    have hu1 := Int.emod_lt_of_pos v (show 0 < p by omega)
    have ey : v % 4294967296 % p = v % p := Int.emod_emod_of_dvd v ⟨q, e.symm⟩
    have et : v % 4294967296 = p * (v % 4294967296 / p) + v % p := by rw [← ey]; exact (Int.mul_ediv_add_emod _ p).symm
    have hp0 : p ≠ 0 := by omega
    have k1 : (x + 4294967296 * v) / p = (x + 4294967296 * (v % p)) / p + 4294967296 * (v / p) := by
      have : x + 4294967296 * v = (x + 4294967296 * (v % p)) + (4294967296 * (v / p)) * p := by
        conv => lhs; rw [es]
        rw [Int.mul_add, ← Int.mul_assoc, Int.mul_comm 4294967296 p, Int.mul_assoc, Int.mul_comm p]; omega
      rw [this, Int.add_mul_ediv_right _ _ hp0]
    have k2 : (v % 4294967296 * 4294967296 + x) / p = (x + 4294967296 * (v % p)) / p + 4294967296 * (v % 4294967296 / p) := by
      have : v % 4294967296 * 4294967296 + x = (x + 4294967296 * (v % p)) + (4294967296 * (v % 4294967296 / p)) * p := by
        conv => lhs; rw [et]
        rw [Int.add_mul, Int.mul_assoc, Int.mul_comm _ 4294967296, ← Int.mul_assoc p, Int.mul_comm p 4294967296, Int.mul_assoc 4294967296 p, Int.mul_comm p (_ / p), ← Int.mul_assoc]; omega
      rw [this, Int.add_mul_ediv_right _ _ hp0]
    have k3 : (x + 4294967296 * (v % p)) / p < 4294967296 := by
      apply Int.ediv_lt_of_lt_mul (by omega)
      have : 4294967296 * (v % p) ≤ 4294967296 * (p - 1) := Int.mul_le_mul_of_nonneg_left (by omega) (by decide)
      omega
    have k4 : 0 ≤ (x + 4294967296 * (v % p)) / p := Int.ediv_nonneg (by omega) (by omega)
    rw [k1, k2, Int.add_mul_emod_self_left]
    omega
theorem val_drop {l : List Int} (h : Dg l) (n : Nat) : val (l.drop n) = val l / pw n := by
  by_cases hn : n ≤ l.length
  · have e : l = l.take n ++ l.drop n := (List.take_append_drop n l).symm
    have h2 := val_append (l.take n) (l.drop n)
    rw [← e] at h2
    have hl : (l.take n).length = n := by simp; omega
    rw [hl] at h2
    have h3 := val_lt (h.take n)
    rw [hl] at h3
    have h4 := val_nonneg (h.take n)
    have := pw_pos n
    rw [h2, Int.add_mul_ediv_left _ _ (by omega), Int.ediv_eq_zero_of_lt h4 h3]; omega
  · rw [List.drop_eq_nil_of_le (by omega)]
    have h3 := val_lt h
    have h4 := val_nonneg h
    have := pw_mono (show l.length ≤ n by omega)
    rw [Int.ediv_eq_zero_of_lt h4 (by omega)]; rfl
theorem pw_two (n : Nat) : pw n = (2 ^ (32 * n) : Nat) := by
  induction n with
  | zero => rfl
  | succ n ih => rw [show 32 * (n + 1) = 32 * n + 32 by omega, Nat.pow_add]; simp only [pw]; rw [ih]; simp; omega
end Nm
set_option linter.unusedSimpArgs false
open Go.RowKit
/-- Whether it is a float of the format. -/
def okF (fm x : Int) : Bool := fm == 64 || (fm == 32 && decide (x < 4294967296))
theorem okF0 {fm x : Int} (h32 : fm ≠ 32) (h64 : fm ≠ 64) : okF fm x = false := by simp [okF, h32, h64]

theorem spec_ok (fm x : Int) (w : World) :
    Calls Tryz.prog 126 #[.int .i64 fm, .int .u64 x] w fun e w' => e = .returned (.bool (okF fm x)) ∧ Below w.heap.size w w' := by
  by_cases h64 : fm = 64
  · subst h64
    have HX : Hid (okF 64 x = true) := hid (by simp [okF])
    go_enter Tryz.func126, Tryz.ntmps126
    go_wp2
    go_ret
    exact ⟨ret_bool HX.out.symm, (by repeat (first | exact bz0 _ _ | refine bz1 ?_ | refine bz2 ?_ _ | refine bz3 ?_ _ | refine bz5 ?_ _ | refine bz6 ?_ _))⟩
  · have e2 : (fm == 64) = false := by simpa using h64
    by_cases h32 : fm = 32
    · subst h32
      have HX : Hid (okF 32 x = decide (x < 4294967296)) := hid (by simp [okF])
      clear h64 e2
      go_enter Tryz.func126, Tryz.ntmps126
      go_wp2
      go_ret
      exact ⟨ret_bool HX.out.symm, (by repeat (first | exact bz0 _ _ | refine bz1 ?_ | refine bz2 ?_ _ | refine bz3 ?_ _ | refine bz5 ?_ _ | refine bz6 ?_ _))⟩
    · have e1 : (fm == 32) = false := by simpa using h32
      have HX : Hid (okF fm x = false) := hid (okF0 h32 h64)
      clear h32 h64
      go_enter Tryz.func126, Tryz.ntmps126
      go_wp2
      go_ret
      exact ⟨ret_bool HX.out.symm, (by repeat (first | exact bz0 _ _ | refine bz1 ?_ | refine bz2 ?_ _ | refine bz3 ?_ _ | refine bz5 ?_ _ | refine bz6 ?_ _))⟩

/-- The class of a float whose bits without sign are y. -/
def clsY (L I Q y : Int) : Int := if y = 0 then 0 else if y < L then 1 else if y < I then 2 else if y = I then 3 else if y / Q % 2 = 1 then 4 else 5
/-- The class of bits of a format; -1 when they are no float. -/
def cls (fm x : Int) : Int := if okF fm x then (if fm = 32 then clsY 8388608 2139095040 4194304 (x % 2147483648) else clsY 4503599627370496 9218868437227405312 2251799813685248 (x % 9223372036854775808)) else -1
theorem okF32 {x : Int} (h : x < 4294967296) : okF 32 x = true := by simp [okF, h]
theorem okF64 {x : Int} : okF 64 x = true := by simp [okF]
theorem cls32 {x : Int} (h : x < 4294967296) : cls 32 x = clsY 8388608 2139095040 4194304 (x % 2147483648) := by unfold cls; rw [okF32 h]; simp
theorem cls64 {x : Int} : cls 64 x = clsY 4503599627370496 9218868437227405312 2251799813685248 (x % 9223372036854775808) := by unfold cls; rw [okF64]; simp
theorem cls_no {fm x : Int} (h : okF fm x = false) : cls fm x = -1 := by unfold cls; rw [h]; simp

theorem okF_cases {fm x : Int} (h : okF fm x = true) : fm = 32 ∧ x < 4294967296 ∨ fm = 64 := by
  unfold okF at h
  by_cases h64 : fm = 64
  · exact .inr h64
  · simp [h64] at h; exact .inl h
theorem spec_cls32 (x : Int) (w : World) (h0 : 0 ≤ x) (h1 : x < 4294967296) :
    Calls Tryz.prog 62 #[.int .i64 32, .int .u64 x] w fun e w' => e = .returned (.int .i64 (clsY 8388608 2139095040 4194304 (x % 2147483648))) ∧ Below w.heap.size w w' := by
  have hok : okF 32 x = true := by simp [okF, h1]
  obtain ⟨y, hy⟩ : ∃ y, y = x % 2147483648 := ⟨_, rfl⟩
  have e : bits .andNot .u64 x 2147483648 = y := by rw [Bt.andNot31 x h0 (by omega)]; omega
  have y0 : 0 ≤ y := by omega
  have y1 : y < 2147483648 := by omega
  have eb := Bt.bit22 y y0 (by omega)
  rw [← hy]
  clear hy
  by_cases c0 : y = 0
  · have t0 : (y == 0) = true := by simpa using c0
    have HR : Hid (clsY 8388608 2139095040 4194304 y = 0) := hid (by unfold clsY; rw [if_pos c0])
    clear c0 eb
    go_enter Tryz.func62, Tryz.ntmps62
    go_wp2_with (first | (go_at_call 126; refine (spec_ok 32 x _).mono ?_; rintro e w1 ⟨rfl, hb1⟩) | go_in)
    go_ret
    exact ⟨ret_int HR.out.symm, (by repeat (first | exact bz0 _ _ | refine bz1 ?_ | refine bz2 ?_ _ | refine bz3 ?_ _ | refine bz4 ?_ hb1 | refine bz5 ?_ _ | refine bz6 ?_ _ | refine bz7 ?_ hb1))⟩
  have t0 : (y == 0) = false := by simpa using c0
  have p0 : 0 < y := by omega
  by_cases c1 : y < 8388608
  · have HR : Hid (clsY 8388608 2139095040 4194304 y = 1) := hid (by unfold clsY; rw [if_neg c0, if_pos c1])
    clear c0 eb
    go_enter Tryz.func62, Tryz.ntmps62
    go_wp2_with (first | (go_at_call 126; refine (spec_ok 32 x _).mono ?_; rintro e w1 ⟨rfl, hb1⟩) | go_in)
    go_ret
    exact ⟨ret_int HR.out.symm, (by repeat (first | exact bz0 _ _ | refine bz1 ?_ | refine bz2 ?_ _ | refine bz3 ?_ _ | refine bz4 ?_ hb1 | refine bz5 ?_ _ | refine bz6 ?_ _ | refine bz7 ?_ hb1))⟩
  by_cases c2 : y < 2139095040
  · have HR : Hid (clsY 8388608 2139095040 4194304 y = 2) := hid (by unfold clsY; rw [if_neg c0, if_neg c1, if_pos c2])
    clear c0 eb
    go_enter Tryz.func62, Tryz.ntmps62
    go_wp2_with (first | (go_at_call 126; refine (spec_ok 32 x _).mono ?_; rintro e w1 ⟨rfl, hb1⟩) | go_in)
    go_ret
    exact ⟨ret_int HR.out.symm, (by repeat (first | exact bz0 _ _ | refine bz1 ?_ | refine bz2 ?_ _ | refine bz3 ?_ _ | refine bz4 ?_ hb1 | refine bz5 ?_ _ | refine bz6 ?_ _ | refine bz7 ?_ hb1))⟩
  by_cases c3 : y = 2139095040
  · have t3 : (y == 2139095040) = true := by simpa using c3
    have HR : Hid (clsY 8388608 2139095040 4194304 y = 3) := hid (by unfold clsY; rw [if_neg c0, if_neg c1, if_neg c2, if_pos c3])
    clear c0 eb c3
    go_enter Tryz.func62, Tryz.ntmps62
    go_wp2_with (first | (go_at_call 126; refine (spec_ok 32 x _).mono ?_; rintro e w1 ⟨rfl, hb1⟩) | go_in)
    go_ret
    exact ⟨ret_int HR.out.symm, (by repeat (first | exact bz0 _ _ | refine bz1 ?_ | refine bz2 ?_ _ | refine bz3 ?_ _ | refine bz4 ?_ hb1 | refine bz5 ?_ _ | refine bz6 ?_ _ | refine bz7 ?_ hb1))⟩
  have t3 : (y == 2139095040) = false := by simpa using c3
  have p3 : 2139095040 < y := by omega
  by_cases c4 : y / 4194304 % 2 = 1
  · have t4 : (bits .and .u64 y 4194304 != 0) = true := by rw [eb, c4]; decide
    have HR : Hid (clsY 8388608 2139095040 4194304 y = 4) := hid (by unfold clsY; rw [if_neg c0, if_neg c1, if_neg c2, if_neg c3, if_pos c4])
    clear c0 eb c3 c4
    go_enter Tryz.func62, Tryz.ntmps62
    go_wp2_with (first | (go_at_call 126; refine (spec_ok 32 x _).mono ?_; rintro e w1 ⟨rfl, hb1⟩) | go_in)
    go_ret
    exact ⟨ret_int HR.out.symm, (by repeat (first | exact bz0 _ _ | refine bz1 ?_ | refine bz2 ?_ _ | refine bz3 ?_ _ | refine bz4 ?_ hb1 | refine bz5 ?_ _ | refine bz6 ?_ _ | refine bz7 ?_ hb1))⟩
  · have t4 : (bits .and .u64 y 4194304 != 0) = false := by rw [eb, show y / 4194304 % 2 = 0 by omega]; decide
    have HR : Hid (clsY 8388608 2139095040 4194304 y = 5) := hid (by unfold clsY; rw [if_neg c0, if_neg c1, if_neg c2, if_neg c3, if_neg c4])
    clear c0 eb c3 c4
    go_enter Tryz.func62, Tryz.ntmps62
    go_wp2_with (first | (go_at_call 126; refine (spec_ok 32 x _).mono ?_; rintro e w1 ⟨rfl, hb1⟩) | go_in)
    go_ret
    exact ⟨ret_int HR.out.symm, (by repeat (first | exact bz0 _ _ | refine bz1 ?_ | refine bz2 ?_ _ | refine bz3 ?_ _ | refine bz4 ?_ hb1 | refine bz5 ?_ _ | refine bz6 ?_ _ | refine bz7 ?_ hb1))⟩
theorem spec_cls64 (x : Int) (w : World) (h0 : 0 ≤ x) (h1 : x < 18446744073709551616) :
    Calls Tryz.prog 62 #[.int .i64 64, .int .u64 x] w fun e w' => e = .returned (.int .i64 (clsY 4503599627370496 9218868437227405312 2251799813685248 (x % 9223372036854775808))) ∧ Below w.heap.size w w' := by
  have hok : okF 64 x = true := by simp [okF, h1]
  obtain ⟨y, hy⟩ : ∃ y, y = x % 9223372036854775808 := ⟨_, rfl⟩
  have e : bits .andNot .u64 x 9223372036854775808 = y := by rw [Bt.andNot63 x h0 (by omega)]; omega
  have y0 : 0 ≤ y := by omega
  have y1 : y < 9223372036854775808 := by omega
  have eb := Bt.bit51 y y0 (by omega)
  rw [← hy]
  clear hy
  by_cases c0 : y = 0
  · have t0 : (y == 0) = true := by simpa using c0
    have HR : Hid (clsY 4503599627370496 9218868437227405312 2251799813685248 y = 0) := hid (by unfold clsY; rw [if_pos c0])
    clear c0 eb
    go_enter Tryz.func62, Tryz.ntmps62
    go_wp2_with (first | (go_at_call 126; refine (spec_ok 64 x _).mono ?_; rintro e w1 ⟨rfl, hb1⟩) | go_in)
    go_ret
    exact ⟨ret_int HR.out.symm, (by repeat (first | exact bz0 _ _ | refine bz1 ?_ | refine bz2 ?_ _ | refine bz3 ?_ _ | refine bz4 ?_ hb1 | refine bz5 ?_ _ | refine bz6 ?_ _ | refine bz7 ?_ hb1))⟩
  have t0 : (y == 0) = false := by simpa using c0
  have p0 : 0 < y := by omega
  by_cases c1 : y < 4503599627370496
  · have HR : Hid (clsY 4503599627370496 9218868437227405312 2251799813685248 y = 1) := hid (by unfold clsY; rw [if_neg c0, if_pos c1])
    clear c0 eb
    go_enter Tryz.func62, Tryz.ntmps62
    go_wp2_with (first | (go_at_call 126; refine (spec_ok 64 x _).mono ?_; rintro e w1 ⟨rfl, hb1⟩) | go_in)
    go_ret
    exact ⟨ret_int HR.out.symm, (by repeat (first | exact bz0 _ _ | refine bz1 ?_ | refine bz2 ?_ _ | refine bz3 ?_ _ | refine bz4 ?_ hb1 | refine bz5 ?_ _ | refine bz6 ?_ _ | refine bz7 ?_ hb1))⟩
  by_cases c2 : y < 9218868437227405312
  · have HR : Hid (clsY 4503599627370496 9218868437227405312 2251799813685248 y = 2) := hid (by unfold clsY; rw [if_neg c0, if_neg c1, if_pos c2])
    clear c0 eb
    go_enter Tryz.func62, Tryz.ntmps62
    go_wp2_with (first | (go_at_call 126; refine (spec_ok 64 x _).mono ?_; rintro e w1 ⟨rfl, hb1⟩) | go_in)
    go_ret
    exact ⟨ret_int HR.out.symm, (by repeat (first | exact bz0 _ _ | refine bz1 ?_ | refine bz2 ?_ _ | refine bz3 ?_ _ | refine bz4 ?_ hb1 | refine bz5 ?_ _ | refine bz6 ?_ _ | refine bz7 ?_ hb1))⟩
  by_cases c3 : y = 9218868437227405312
  · have t3 : (y == 9218868437227405312) = true := by simpa using c3
    have HR : Hid (clsY 4503599627370496 9218868437227405312 2251799813685248 y = 3) := hid (by unfold clsY; rw [if_neg c0, if_neg c1, if_neg c2, if_pos c3])
    clear c0 eb c3
    go_enter Tryz.func62, Tryz.ntmps62
    go_wp2_with (first | (go_at_call 126; refine (spec_ok 64 x _).mono ?_; rintro e w1 ⟨rfl, hb1⟩) | go_in)
    go_ret
    exact ⟨ret_int HR.out.symm, (by repeat (first | exact bz0 _ _ | refine bz1 ?_ | refine bz2 ?_ _ | refine bz3 ?_ _ | refine bz4 ?_ hb1 | refine bz5 ?_ _ | refine bz6 ?_ _ | refine bz7 ?_ hb1))⟩
  have t3 : (y == 9218868437227405312) = false := by simpa using c3
  have p3 : 9218868437227405312 < y := by omega
  by_cases c4 : y / 2251799813685248 % 2 = 1
  · have t4 : (bits .and .u64 y 2251799813685248 != 0) = true := by rw [eb, c4]; decide
    have HR : Hid (clsY 4503599627370496 9218868437227405312 2251799813685248 y = 4) := hid (by unfold clsY; rw [if_neg c0, if_neg c1, if_neg c2, if_neg c3, if_pos c4])
    clear c0 eb c3 c4
    go_enter Tryz.func62, Tryz.ntmps62
    go_wp2_with (first | (go_at_call 126; refine (spec_ok 64 x _).mono ?_; rintro e w1 ⟨rfl, hb1⟩) | go_in)
    go_ret
    exact ⟨ret_int HR.out.symm, (by repeat (first | exact bz0 _ _ | refine bz1 ?_ | refine bz2 ?_ _ | refine bz3 ?_ _ | refine bz4 ?_ hb1 | refine bz5 ?_ _ | refine bz6 ?_ _ | refine bz7 ?_ hb1))⟩
  · have t4 : (bits .and .u64 y 2251799813685248 != 0) = false := by rw [eb, show y / 2251799813685248 % 2 = 0 by omega]; decide
    have HR : Hid (clsY 4503599627370496 9218868437227405312 2251799813685248 y = 5) := hid (by unfold clsY; rw [if_neg c0, if_neg c1, if_neg c2, if_neg c3, if_neg c4])
    clear c0 eb c3 c4
    go_enter Tryz.func62, Tryz.ntmps62
    go_wp2_with (first | (go_at_call 126; refine (spec_ok 64 x _).mono ?_; rintro e w1 ⟨rfl, hb1⟩) | go_in)
    go_ret
    exact ⟨ret_int HR.out.symm, (by repeat (first | exact bz0 _ _ | refine bz1 ?_ | refine bz2 ?_ _ | refine bz3 ?_ _ | refine bz4 ?_ hb1 | refine bz5 ?_ _ | refine bz6 ?_ _ | refine bz7 ?_ hb1))⟩

theorem spec_clsNo (fm x : Int) (w : World) (h : okF fm x = false) :
    Calls Tryz.prog 62 #[.int .i64 fm, .int .u64 x] w fun e w' => e = .returned (.int .i64 (-1)) ∧ Below w.heap.size w w' := by
  go_enter Tryz.func62, Tryz.ntmps62
  go_wp2_with (go_at_call 126; refine (spec_ok fm x _).mono ?_; rintro e w1 ⟨rfl, hb1⟩)
  go_ret
  exact ⟨rfl, (by repeat (first | exact bz0 _ _ | refine bz1 ?_ | refine bz2 ?_ _ | refine bz3 ?_ _ | refine bz4 ?_ hb1 | refine bz5 ?_ _ | refine bz6 ?_ _ | refine bz7 ?_ hb1))⟩
theorem spec_cls (fm x : Int) (w : World) (h0 : 0 ≤ x) (h1 : x < 18446744073709551616) :
    Calls Tryz.prog 62 #[.int .i64 fm, .int .u64 x] w fun e w' => e = .returned (.int .i64 (cls fm x)) ∧ Below w.heap.size w w' := by
  cases h : okF fm x
  · rw [cls_no h]; exact spec_clsNo fm x w h
  · rcases okF_cases h with ⟨rfl, hx⟩ | rfl
    · rw [cls32 hx]; exact spec_cls32 x w h0 hx
    · rw [cls64]; exact spec_cls64 x w h0 h1
end Go.Proofs.YtkfjmcdniohljaaGreatDoor
