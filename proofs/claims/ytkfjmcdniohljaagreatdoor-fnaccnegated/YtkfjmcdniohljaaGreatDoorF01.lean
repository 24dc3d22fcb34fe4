/-
  What is needed of NumsB, NumsC, NumsD, NumsE, NumsF.
-/
import Derived.Test.YtkfjmcdniohljaaGreatDoorF00
set_option maxHeartbeats 16000000
set_option maxRecDepth 1000000
namespace Go.Proofs.YtkfjmcdniohljaaGreatDoor
set_option linter.unusedVariables false
namespace Nm
def lim (n : Nat) : List Int := if h : n = 0 then [] else ((n % 4294967296 : Nat) : Int) :: lim (n / 4294967296)
termination_by n
decreasing_by exact Nat.div_lt_self (by omega) (by decide)

theorem lim_zero : lim 0 = [] := by unfold lim; simp
theorem lim_pos {n : Nat} (h : n ≠ 0) : lim n = ((n % 4294967296 : Nat) : Int) :: lim (n / 4294967296) := by rw [lim]; simp [h]

theorem lim_dg (n : Nat) : Dg (lim n) := by
 induction n using Nat.strongRecOn with
 | _ n ih =>
  by_cases h : n = 0
  ·subst h; rw [lim_zero]; exact Dg.nil
  ·rw [lim_pos h]; exact Dg.cons (by omega) (ih _ (Nat.div_lt_self (by omega) (by decide)))

theorem lim_val (n : Nat) : val (lim n) = n := by
 induction n using Nat.strongRecOn with
 | _ n ih =>
  by_cases h : n = 0
  ·subst h; rw [lim_zero]; rfl
  ·rw [lim_pos h, val, ih _ (Nat.div_lt_self (by omega) (by decide))]; omega

theorem lim_nil {n : Nat} (h : lim n = []) : n = 0 := by
 by_cases h0 : n = 0
 ·exact h0
 ·rw [lim_pos h0] at h; cases h

theorem lim_nz (n : Nat) : Nz (lim n) := by
 induction n using Nat.strongRecOn with
 | _ n ih =>
  by_cases h : n = 0
  ·subst h; rw [lim_zero]; exact Nz.nil
  ·rw [lim_pos h]
   have h1 := ih _ (Nat.div_lt_self (by omega : 0 < n) (by decide : 1 < 4294967296))
   intro z hz
   cases e : lim (n / 4294967296) with
   | nil => rw [e] at hz; have := lim_nil e; simp at hz; omega
   | cons y r => rw [e] at hz; rw [List.getLast?_cons_cons, ← e] at hz; exact h1 z hz

theorem lim_of {l : List Int} (h : Dg l) (k : Nz l) : lim (val l).toNat = l :=
 val_inj (lim_dg _) h (lim_nz _) k (by rw [lim_val]; have := val_nonneg h; omega)
theorem trim_lim {l : List Int} (h : Dg l) : trim l = lim (val l).toNat :=
 val_inj (trim_dg h) (lim_dg _) (trim_nz _) (lim_nz _) (by rw [lim_val, trim_val]; have := val_nonneg h; omega)
theorem lim_length (n k : Nat) : (lim n).length ≤ k ↔ (n : Int) < pw k := by
 rw [length_le_iff (lim_dg n) (lim_nz n) k, lim_val]
theorem lim_length_zero (n : Nat) : (lim n).length = 0 ↔ n = 0 := by
 constructor
 ·intro h; exact lim_nil (List.eq_nil_of_length_eq_zero h)
 ·rintro rfl; rw [lim_zero]; rfl

theorem val_set (l : List Int) (k : Nat) (v : Int) (h : k < l.length) : val (l.set k v) = val l + pw k * (v - l.getD k 0) := by
 induction l generalizing k with
 | nil => simp at h
 | cons z r ih =>
  cases k with
  | zero => simp [val, pw]; omega
  | succ k =>
   have := ih k (by simpa using h)
   simp only [List.set_cons_succ, val, this, pw, List.getD_cons_succ]
   rw [Int.mul_add, Int.mul_assoc]; omega
theorem Dg.set {l : List Int} (h : Dg l) (k : Nat) {v : Int} (hv : 0 ≤ v ∧ v < 4294967296) : Dg (l.set k v) := fun x hx => by
 rcases List.mem_or_eq_of_mem_set hx with hx | rfl
 ·exact h x hx
 ·exact hv
theorem getD_set (l : List Int) (k i : Nat) (v : Int) (h : k < l.length) : (l.set k v).getD i 0 = if i = k then v else l.getD i 0 := by
 rw [List.getD_eq_getElem?_getD, List.getElem?_set, List.getD_eq_getElem?_getD]
 by_cases e : k = i
 ·subst e; simp [h]
 ·rw [if_neg e, if_neg (fun h => e h.symm)]

theorem take_snoc {l : List Int} {k : Nat} (h : k < l.length) : l.take (k + 1) = l.take k ++ [l.getD k 0] := by
 rw [List.take_succ_eq_append_getElem h]; simp [List.getD_eq_getElem?_getD, h]
theorem val_take_succ (l : List Int) (k : Nat) : val (l.take (k + 1)) = val (l.take k) + pw k * l.getD k 0 := by
 by_cases h : k < l.length
 ·rw [take_snoc h, val_append]
  simp [val, Nat.min_eq_left (Nat.le_of_lt h)]
 ·rw [List.take_of_length_le (by omega), List.take_of_length_le (by omega), List.getD_eq_getElem?_getD, List.getElem?_eq_none (by omega)]; simp
theorem val_snoc (l : List Int) (z : Int) : val (l ++ [z]) = val l + pw l.length * z := by rw [val_append]; simp [val]
theorem getD_out {l : List Int} {k : Nat} (h : l.length ≤ k) : l.getD k 0 = 0 := by rw [List.getD_eq_getElem?_getD, List.getElem?_eq_none (by omega)]; rfl
theorem getD_replicate (n k : Nat) : (List.replicate n (0 : Int)).getD k 0 = 0 := by
 rw [List.getD_eq_getElem?_getD]
 by_cases h : k < n
 ·simp [h]
 ·simp [h]

def wl (x : Int) : List Int := lim x.natAbs
def wn (x : Int) : Bool := decide (x < 0)
def fits (x : Int) : Bool := decide ((wl x).length ≤ 200)
def outL (x : Int) : List Int := if fits x then wl x else []
def outN (x : Int) : Bool := fits x && wn x
def wv (ng : Bool) (zs : List Int) : Int := if ng then - val zs else val zs
theorem natAbs_wv {zs : List Int} (ng : Bool) (h : Dg zs) : (wv ng zs).natAbs = (val zs).toNat := by
 have := val_nonneg h
 unfold wv; cases ng <;> simp <;> omega
theorem wl_wv {zs : List Int} (ng : Bool) (h : Dg zs) : wl (wv ng zs) = trim zs := by
 unfold wl; rw [natAbs_wv ng h, trim_lim h]
theorem wn_wv {zs : List Int} (ng : Bool) (h : Dg zs) : wn (wv ng zs) = (ng && !decide ((trim zs).length = 0)) := by
 have h0 := val_nonneg h
 have h1 : (trim zs).length = 0 ↔ val zs = 0 := by rw [trim_lim h, lim_length_zero]; omega
 unfold wn wv
 by_cases e : val zs = 0
 ·rw [decide_eq_true (h1.2 e), e]; cases ng <;> simp
 ·rw [decide_eq_false (fun h => e (h1.1 h))]; cases ng
  ·simp; omega
  ·simp; omega
theorem wl_dg (x : Int) : Dg (wl x) := lim_dg _
theorem wl_nz (x : Int) : Nz (wl x) := lim_nz _
theorem val_wl (x : Int) : val (wl x) = x.natAbs := lim_val _
theorem wv_out (x : Int) : wv (wn x) (wl x) = x := by
 unfold wv wn; rw [val_wl]; by_cases h : x < 0 <;> simp [h] <;> omega
def AddAt (xs ys os : List Int) (k : Nat) (c : Int) : Prop := val (os.take k) + pw k * c = val (xs.take k) + val (ys.take k)
theorem AddAt.zero (xs ys os : List Int) : AddAt xs ys os 0 0 := by simp [AddAt, val]
theorem AddAt.step {xs ys os : List Int} {k : Nat} {c d c' : Int} (h : AddAt xs ys os k c) (hk : k < os.length) (e : d + 4294967296 * c' = xs.getD k 0 + ys.getD k 0 + c) : AddAt xs ys (os.set k d) (k + 1) c' := by
 unfold AddAt at *
 rw [val_take_succ, val_take_succ, val_take_succ, List.take_set_of_le (Nat.le_refl k), getD_set _ _ _ _ hk, if_pos rfl]
 have e2 : pw k * d + pw (k + 1) * c' = pw k * (xs.getD k 0 + ys.getD k 0 + c) := by
  rw [← e, Int.mul_add, show pw (k + 1) = 4294967296 * pw k from rfl, ← Int.mul_assoc, Int.mul_comm (pw k) 4294967296]
 rw [Int.mul_add, Int.mul_add] at e2
 omega
theorem AddAt.stepSnoc {xs ys os : List Int} {c d c' : Int} (h : AddAt xs ys os os.length c) (e : d + 4294967296 * c' = xs.getD os.length 0 + ys.getD os.length 0 + c) : AddAt xs ys (os ++ [d]) (os ++ [d]).length c' := by
 have h1 : AddAt xs ys (os ++ [0]) os.length c := by unfold AddAt at *; simpa using h
 have h2 := AddAt.step h1 (by simp) e
 simpa using h2
theorem AddAt.full {xs ys os : List Int} {k : Nat} {c : Int} (h : AddAt xs ys os k c) (hx : xs.length ≤ k) (hy : ys.length ≤ k) (ho : os.length = k) : val os + pw k * c = val xs + val ys := by
 unfold AddAt at h; rwa [List.take_of_length_le (by omega), List.take_of_length_le hx, List.take_of_length_le hy] at h

def SubAt (xs ys os : List Int) (k : Nat) (c : Int) : Prop := val (os.take k) - pw k * c = val (xs.take k) - val (ys.take k)
theorem SubAt.zero (xs ys os : List Int) : SubAt xs ys os 0 0 := by simp [SubAt, val]
theorem SubAt.step {xs ys os : List Int} {k : Nat} {c d c' : Int} (h : SubAt xs ys os k c) (hk : k < os.length) (e : d - 4294967296 * c' = xs.getD k 0 - ys.getD k 0 - c) : SubAt xs ys (os.set k d) (k + 1) c' := by
 unfold SubAt at *
 rw [val_take_succ, val_take_succ, val_take_succ, List.take_set_of_le (Nat.le_refl k), getD_set _ _ _ _ hk, if_pos rfl]
 have e2 : pw k * d - pw (k + 1) * c' = pw k * (xs.getD k 0 - ys.getD k 0 - c) := by
  rw [← e, Int.mul_sub, show pw (k + 1) = 4294967296 * pw k from rfl, ← Int.mul_assoc, Int.mul_comm (pw k) 4294967296]
 rw [Int.mul_sub, Int.mul_sub] at e2
 omega
theorem SubAt.stepSnoc {xs ys os : List Int} {c d c' : Int} (h : SubAt xs ys os os.length c) (e : d - 4294967296 * c' = xs.getD os.length 0 - ys.getD os.length 0 - c) : SubAt xs ys (os ++ [d]) (os ++ [d]).length c' := by
 have h1 : SubAt xs ys (os ++ [0]) os.length c := by unfold SubAt at *; simpa using h
 have h2 := SubAt.step h1 (by simp) e
 simpa using h2
theorem SubAt.full {xs ys os : List Int} {c : Int} (h : SubAt xs ys os os.length c) (hx : xs.length = os.length) (hy : ys.length ≤ os.length) (dx : Dg xs) (dy : Dg ys) (dos : Dg os) (hc : 0 ≤ c) (hge : val ys ≤ val xs) : val os = val xs - val ys := by
 unfold SubAt at h
 rw [List.take_of_length_le (Nat.le_refl _), List.take_of_length_le (by omega), List.take_of_length_le hy] at h
 have h1 := val_lt dos
 have h2 := val_nonneg dos
 have hz : c = 0 := by
  rcases Int.lt_or_le 0 c with h3 | h3
  ·exfalso
   have := pw_pos os.length
   have h4 : pw os.length * 1 ≤ pw os.length * c := Int.mul_le_mul_of_nonneg_left (by omega) (by omega)
   omega
  ·omega
 subst hz
 omega

def MulAt (xs ys os : List Int) (i j : Nat) (c : Int) : Prop := val os + pw (i + j) * c = val (xs.take i) * val ys + pw i * (xs.getD i 0 * val (ys.take j))
theorem MulAt.zero (xs ys os : List Int) (h : val os = 0) : MulAt xs ys os 0 0 0 := by simp [MulAt, val, h]
theorem MulAt.step {xs ys os : List Int} {i j : Nat} {c d c' : Int} (h : MulAt xs ys os i j c) (hk : i + j < os.length) (e : d + 4294967296 * c' = xs.getD i 0 * ys.getD j 0 + os.getD (i + j) 0 + c) : MulAt xs ys (os.set (i + j) d) i (j + 1) c' := by
 unfold MulAt at *
 rw [val_set _ _ _ hk, val_take_succ]
 have e2 : pw (i + j) * d + pw (i + (j + 1)) * c' = pw (i + j) * (xs.getD i 0 * ys.getD j 0) + pw (i + j) * os.getD (i + j) 0 + pw (i + j) * c := by
  rw [← Int.mul_add, ← Int.mul_add, ← e, Int.mul_add, show i + (j + 1) = (i + j) + 1 by omega, show pw (i + j + 1) = 4294967296 * pw (i + j) from rfl, ← Int.mul_assoc, Int.mul_comm (pw (i + j)) 4294967296]
 have e3 : pw i * (xs.getD i 0 * (val (ys.take j) + pw j * ys.getD j 0)) = pw i * (xs.getD i 0 * val (ys.take j)) + pw (i + j) * (xs.getD i 0 * ys.getD j 0) := by
  rw [pw_add, Int.mul_add, Int.mul_add, ← Int.mul_assoc (xs.getD i 0) (pw j), Int.mul_comm (xs.getD i 0) (pw j), Int.mul_assoc, Int.mul_assoc]
 rw [e3, Int.mul_sub]
 omega
theorem MulAt.next {xs ys os : List Int} {i j : Nat} (h : MulAt xs ys os i j 0) (hj : ys.length ≤ j) : MulAt xs ys os (i + 1) 0 0 := by
 unfold MulAt at *
 rw [List.take_of_length_le hj] at h
 rw [val_take_succ]
 simp [val]
 rw [Int.add_mul, Int.mul_assoc]
 simpa using h
theorem MulAt.full {xs ys os : List Int} {i : Nat} (h : MulAt xs ys os i 0 0) (hi : xs.length ≤ i) : val os = val xs * val ys := by
 unfold MulAt at h; rw [List.take_of_length_le hi] at h; simpa [val] using h

theorem prod_bound {x y o c : Int} (hx : 0 ≤ x ∧ x < 4294967296) (hy : 0 ≤ y ∧ y < 4294967296) (ho : 0 ≤ o ∧ o < 4294967296) (hc : 0 ≤ c ∧ c < 4294967296) : 0 ≤ x * y ∧ x * y ≤ 18446744065119617025 ∧ x * y + o + c < 18446744073709551616 ∧ (x * y + o + c) / 4294967296 < 4294967296 ∧ 0 ≤ (x * y + o + c) / 4294967296 := by
 have h1 : x * y ≤ 4294967295 * 4294967295 := Int.mul_le_mul (by omega) (by omega) hy.1 (by omega)
 have h0 : 0 ≤ x * y := Int.mul_nonneg hx.1 hy.1
 refine ⟨h0, by omega, by omega, by omega, by omega⟩
structure UpAt (xs os : List Int) (wh : Nat) (p : Int) (i : Nat) : Prop where
 v : val os = pw wh * (p * val (xs.take i))
 d : Dg os
 lo : os.getD (wh + i) 0 < p
 z : ∀ j, wh + i < j → os.getD j 0 = 0
theorem UpAt.zero (xs : List Int) (wh n : Nat) (p : Int) (hp : 1 ≤ p) : UpAt xs (List.replicate n 0) wh p 0 :=
 ⟨by simp [val, val_replicate], Dg.replicate n, by rw [getD_replicate]; omega, fun j _ => getD_replicate n j⟩
theorem up_parts {x p q : Int} (hx : 0 ≤ x ∧ x < 4294967296) (hp : 1 ≤ p) (hq : 1 ≤ q) (e : p * q = 4294967296) : 0 ≤ x * p ∧ x * p < 18446744073709551616 ∧ 0 ≤ x * p % 4294967296 ∧ x * p % 4294967296 ≤ 4294967296 - p ∧ 0 ≤ x * p / 4294967296 ∧ x * p / 4294967296 < p := by
 have h0 : 0 ≤ x * p := Int.mul_nonneg hx.1 (by omega)
 have hpb : p ≤ 4294967296 := by
  have : p * 1 ≤ p * q := Int.mul_le_mul_of_nonneg_left hq (by omega)
  omega
 have h1 : x * p ≤ 4294967295 * p := Int.mul_le_mul_of_nonneg_right (by omega) (by omega)
 have e1 : x * p % 4294967296 = (x % q) * p := by rw [← e, Int.mul_comm x p, Int.mul_emod_mul_of_pos x q (by omega), Int.mul_comm]
 have h2 : x % q * p ≤ (q - 1) * p := Int.mul_le_mul_of_nonneg_right (by have := Int.emod_lt_of_pos x (show 0 < q by omega); omega) (by omega)
 have h3 : 0 ≤ x % q * p := Int.mul_nonneg (Int.emod_nonneg x (by omega)) (by omega)
 rw [Int.sub_mul, Int.mul_comm q p, e] at h2
 refine ⟨h0, by omega, by omega, by omega, by omega, ?_⟩
 have : 4294967295 * p < p * 4294967296 := by omega
 exact Int.ediv_lt_of_lt_mul (by decide) (by omega)
theorem UpAt.step {xs os : List Int} {wh : Nat} {p : Int} {i : Nat} {q : Int} (h : UpAt xs os wh p i) (hp : 1 ≤ p) (hq : 1 ≤ q) (e : p * q = 4294967296) (dx : Dg xs) (hl : wh + i + 1 < os.length) :
  UpAt xs ((os.set (wh + i) (os.getD (wh + i) 0 + xs.getD i 0 * p % 4294967296)).set (wh + i + 1) (xs.getD i 0 * p / 4294967296)) wh p (i + 1) := by
 obtain ⟨hv, hd, hlo, hz⟩ := h
 obtain ⟨u0, u1, u2, u3, u4, u5⟩ := up_parts (dx.getD i) hp hq e
 have hg := hd.getD (wh + i)
 have hpb : p ≤ 4294967296 := by omega
 have hd1 : Dg (os.set (wh + i) (os.getD (wh + i) 0 + xs.getD i 0 * p % 4294967296)) := hd.set _ (by omega)
 refine ⟨?_, hd1.set _ (by omega), ?_, fun j hj => ?_⟩
 ·rw [val_set _ _ _ (by simp; omega), val_set _ _ _ (by omega), getD_set _ _ _ _ (by omega), if_neg (by omega), hz (wh + i + 1) (by omega), hv, val_take_succ]
  have e1 : pw (wh + i) * (os.getD (wh + i) 0 + xs.getD i 0 * p % 4294967296 - os.getD (wh + i) 0) + pw (wh + i + 1) * (xs.getD i 0 * p / 4294967296 - 0) = pw (wh + i) * (xs.getD i 0 * p) := by
   rw [show pw (wh + i + 1) = 4294967296 * pw (wh + i) from rfl, Int.mul_comm 4294967296 (pw _), Int.mul_assoc, ← Int.mul_add]
   congr 1; omega
  have e2 : pw wh * (p * (val (xs.take i) + pw i * xs.getD i 0)) = pw wh * (p * val (xs.take i)) + pw (wh + i) * (xs.getD i 0 * p) := by
   rw [pw_add, Int.mul_add, Int.mul_add, Int.mul_comm (xs.getD i 0) p, ← Int.mul_assoc p (pw i), Int.mul_comm p (pw i), Int.mul_assoc, Int.mul_assoc]
  omega
 ·rw [show wh + (i + 1) = wh + i + 1 by omega, getD_set _ _ _ _ (by simp; omega), if_pos rfl]; exact u5
 ·rw [getD_set _ _ _ _ (by simp; omega), if_neg (by omega), getD_set _ _ _ _ (by omega), if_neg (by omega)]; exact hz j (by omega)

structure UpTo (xs os : List Int) (wh : Nat) (p : Int) (i : Nat) (c : Int) : Prop where
 v : val os + pw (wh + i) * c = pw wh * (p * val (xs.take i))
 d : Dg os
 l : os.length = wh + i
 c0 : 0 ≤ c
 c1 : c < p
theorem UpTo.zero (xs : List Int) (wh : Nat) (p : Int) (hp : 1 ≤ p) : UpTo xs (List.replicate wh 0) wh p 0 0 :=
 ⟨by simp [val, val_replicate], Dg.replicate wh, by simp, Int.le_refl _, by omega⟩
theorem UpTo.step {xs os : List Int} {wh : Nat} {p : Int} {i : Nat} {c q : Int} (h : UpTo xs os wh p i c) (hp : 1 ≤ p) (hq : 1 ≤ q) (e : p * q = 4294967296) (dx : Dg xs) :
  UpTo xs (os ++ [(c + xs.getD i 0 * p) % 4294967296]) wh p (i + 1) ((c + xs.getD i 0 * p) / 4294967296) := by
 obtain ⟨hv, hd, hl, h0, h1⟩ := h
 obtain ⟨u0, u1, u2, u3, u4, u5⟩ := up_parts (dx.getD i) hp hq e
 refine ⟨?_, hd.append (Dg.cons (by omega) Dg.nil), by simp; omega, by omega, by omega⟩
 rw [val_snoc, hl, val_take_succ]
 have e1 : pw (wh + i) * ((c + xs.getD i 0 * p) % 4294967296) + pw (wh + (i + 1)) * ((c + xs.getD i 0 * p) / 4294967296) = pw (wh + i) * c + pw (wh + i) * (xs.getD i 0 * p) := by
  rw [show wh + (i + 1) = wh + i + 1 by omega, show pw (wh + i + 1) = 4294967296 * pw (wh + i) from rfl, Int.mul_comm 4294967296 (pw _), Int.mul_assoc, ← Int.mul_add, ← Int.mul_add]
  congr 1; omega
 have e2 : pw wh * (p * (val (xs.take i) + pw i * xs.getD i 0)) = pw wh * (p * val (xs.take i)) + pw (wh + i) * (xs.getD i 0 * p) := by
  rw [pw_add, Int.mul_add, Int.mul_add, Int.mul_comm (xs.getD i 0) p, ← Int.mul_assoc p (pw i), Int.mul_comm p (pw i), Int.mul_assoc, Int.mul_assoc]
 omega
theorem UpTo.full {xs os : List Int} {wh : Nat} {p : Int} {c q : Int} (h : UpTo xs os wh p (xs.length + 1) c) (hc : c = 0) : val os = pw wh * (p * val xs) := by
 have := h.v; rw [hc, List.take_of_length_le (by omega)] at this; simpa using this
theorem UpAt.full {xs os : List Int} {wh : Nat} {p : Int} (h : UpAt xs os wh p xs.length) : val os = pw wh * (p * val xs) := by
 have := h.v; rwa [List.take_of_length_le (by omega)] at this

def sd (p : Int) : List Int → List Int
 | [] => []
 | x :: r => (r.getD 0 0 * 4294967296 + x) / p % 4294967296 :: sd p r
theorem sd_length (p : Int) (l : List Int) : (sd p l).length = l.length := by
 induction l with
 | nil => rfl
 | cons x r ih => simp [sd, ih]
theorem sd_getD (p : Int) (l : List Int) (i : Nat) (h : i < l.length) : (sd p l).getD i 0 = (l.getD (i + 1) 0 * 4294967296 + l.getD i 0) / p % 4294967296 := by
 induction l generalizing i with
 | nil => simp at h
 | cons x r ih =>
  cases i with
  | zero => simp [sd]
  | succ i => simpa [sd] using ih i (by simpa using h)
theorem sd_dg (p : Int) (l : List Int) : Dg (sd p l) := by
 induction l with
 | nil => exact Dg.nil
 | cons x r ih => exact Dg.cons (by omega) ih
theorem getD_drop (l : List Int) (n i : Nat) : (l.drop n).getD i 0 = l.getD (n + i) 0 := by
 rw [List.getD_eq_getElem?_getD, List.getElem?_drop, ← List.getD_eq_getElem?_getD]
theorem sd_val {p q : Int} (hp : 1 ≤ p) (hq : 1 ≤ q) (e : p * q = 4294967296) {l : List Int} (h : Dg l) : val (sd p l) = val l / p := by
 induction l with
 | nil => simp [sd, val]
 | cons x r ih =>
  have ih := ih h.tail
  have hx := h.head
  simp only [sd, val, ih]
  have hv := val_nonneg h.tail
  have hy : r.getD 0 0 = val r % 4294967296 := by
   cases r with
   | nil => simp [val]
   | cons y s => have := h.tail.head; simp [val]; omega
  rw [hy]
  generalize val r = v at hv ⊢
  -- v is p s and u
  have es : v = p * (v / p) + v % p := (Int.mul_ediv_add_emod v p).symm
  have hu0 := Int.emod_nonneg v (show p ≠ 0 by omega)
  have hu1 := Int.emod_lt_of_pos v (show 0 < p by omega)
  have ey : v % 4294967296 % p = v % p := Int.emod_emod_of_dvd v ⟨q, e.symm⟩
  have et : v % 4294967296 = p * (v % 4294967296 / p) + v % p := by rw [← ey]; exact (Int.mul_ediv_add_emod _ p).symm
  have hp0 : p ≠ 0 := by omega
  have k1 : (x + 4294967296 * v) / p = (x + 4294967296 * (v % p)) / p + 4294967296 * (v / p) := by
   have : x + 4294967296 * v = (x + 4294967296 * (v % p)) + (4294967296 * (v / p)) * p := by
    conv => lhs; rw [es]
    rw [Int.mul_add, ← Int.mul_assoc, Int.mul_comm 4294967296 p, Int.mul_assoc, Int.mul_comm p]; omega
   rw [this, Int.add_mul_ediv_right _ _ hp0]
  have k2 : (v % 4294967296 * 4294967296 + x) / p = (x + 4294967296 * (v % p)) / p + 4294967296 * (v % 4294967296 / p) := by
   have : v % 4294967296 * 4294967296 + x = (x + 4294967296 * (v % p)) + (4294967296 * (v % 4294967296 / p)) * p := by
    conv => lhs; rw [et]
    rw [Int.add_mul, Int.mul_assoc, Int.mul_comm _ 4294967296, ← Int.mul_assoc p, Int.mul_comm p 4294967296, Int.mul_assoc 4294967296 p, Int.mul_comm p (_ / p), ← Int.mul_assoc]; omega
   rw [this, Int.add_mul_ediv_right _ _ hp0]
  have k3 : (x + 4294967296 * (v % p)) / p < 4294967296 := by
   apply Int.ediv_lt_of_lt_mul (by omega)
   have : 4294967296 * (v % p) ≤ 4294967296 * (p - 1) := Int.mul_le_mul_of_nonneg_left (by omega) (by decide)
   omega
  have k4 : 0 ≤ (x + 4294967296 * (v % p)) / p := Int.ediv_nonneg (by omega) (by omega)
  rw [k1, k2, Int.add_mul_emod_self_left]
  omega
theorem val_drop {l : List Int} (h : Dg l) (n : Nat) : val (l.drop n) = val l / pw n := by
 by_cases hn : n ≤ l.length
 ·have e : l = l.take n ++ l.drop n := (List.take_append_drop n l).symm
  have h2 := val_append (l.take n) (l.drop n)
  rw [← e] at h2
  have hl : (l.take n).length = n := by simp; omega
  rw [hl] at h2
  have h3 := val_lt (h.take n)
  rw [hl] at h3
  have h4 := val_nonneg (h.take n)
  have := pw_pos n
  rw [h2, Int.add_mul_ediv_left _ _ (by omega), Int.ediv_eq_zero_of_lt h4 h3]; omega
 ·rw [List.drop_eq_nil_of_le (by omega)]
  have h3 := val_lt h
  have h4 := val_nonneg h
  have := pw_mono (show l.length ≤ n by omega)
  rw [Int.ediv_eq_zero_of_lt h4 (by omega)]; rfl
theorem pw_two (n : Nat) : pw n = (2 ^ (32 * n) : Nat) := by
 induction n with
 | zero => rfl
 | succ n ih => rw [show 32 * (n + 1) = 32 * n + 32 by omega, Nat.pow_add]; simp only [pw]; rw [ih]; simp; omega
def cmpF (xs ys : List Int) : Nat → Int
 | 0 => 0
 | n + 1 => if xs.getD n 0 < ys.getD n 0 then -1 else if ys.getD n 0 < xs.getD n 0 then 1 else cmpF xs ys n
def cmpB (xs ys : List Int) : Int := if xs.length < ys.length then -1 else if ys.length < xs.length then 1 else cmpF xs ys xs.length
theorem val_take_lt {xs : List Int} (d : Dg xs) (n : Nat) : 0 ≤ val (xs.take n) ∧ val (xs.take n) < pw n := by
 refine ⟨val_nonneg (d.take n), ?_⟩
 have h1 := val_lt (d.take n)
 have h2 := pw_mono (show (xs.take n).length ≤ n by simp; omega)
 omega
theorem mul_step {p u v : Int} (hp : 1 ≤ p) (h : u < v) : p * u + p ≤ p * v := by
 have : p * (u + 1) ≤ p * v := Int.mul_le_mul_of_nonneg_left (by omega) (by omega)
 rw [Int.mul_add] at this; omega
theorem cmpF_val {xs ys : List Int} (dx : Dg xs) (dy : Dg ys) (n : Nat) : (cmpF xs ys n < 0 ↔ val (xs.take n) < val (ys.take n)) ∧ (0 < cmpF xs ys n ↔ val (ys.take n) < val (xs.take n)) := by
 induction n with
 | zero => simp [cmpF]
 | succ n ih =>
  rw [val_take_succ, val_take_succ]
  have h1 := val_take_lt dx n
  have h2 := val_take_lt dy n
  have hp := pw_pos n
  simp only [cmpF]
  by_cases c1 : xs.getD n 0 < ys.getD n 0
  ·have := mul_step hp c1
   rw [if_pos c1]; constructor <;> constructor <;> intro _ <;> omega
  ·rw [if_neg c1]
   by_cases c2 : ys.getD n 0 < xs.getD n 0
   ·have := mul_step hp c2
    rw [if_pos c2]; constructor <;> constructor <;> intro _ <;> omega
   ·rw [if_neg c2, show xs.getD n 0 = ys.getD n 0 by omega]
    constructor
    ·rw [ih.1]; omega
    ·rw [ih.2]; omega
theorem val_len_lt {xs ys : List Int} (dx : Dg xs) (dy : Dg ys) (ny : Nz ys) (h : xs.length < ys.length) : val xs < val ys := by
 have h1 := val_lt dx
 have h2 : ¬ val ys < pw xs.length := fun h' => by have := (length_le_iff dy ny xs.length).2 h'; omega
 omega
theorem cmpB_val {xs ys : List Int} (dx : Dg xs) (dy : Dg ys) (nx : Nz xs) (ny : Nz ys) : (cmpB xs ys < 0 ↔ val xs < val ys) ∧ (0 < cmpB xs ys ↔ val ys < val xs) := by
 unfold cmpB
 by_cases c1 : xs.length < ys.length
 ·have := val_len_lt dx dy ny c1
  rw [if_pos c1]; constructor <;> constructor <;> intro _ <;> omega
 ·rw [if_neg c1]
  by_cases c2 : ys.length < xs.length
  ·have := val_len_lt dy dx nx c2
   rw [if_pos c2]; constructor <;> constructor <;> intro _ <;> omega
  ·rw [if_neg c2]
   have h := cmpF_val dx dy xs.length
   rwa [List.take_of_length_le (Nat.le_refl _), List.take_of_length_le (l := ys) (by omega)] at h
theorem len_le_of_val {xs ys : List Int} (dx : Dg xs) (dy : Dg ys) (ny : Nz ys) (h : val ys ≤ val xs) : ys.length ≤ xs.length := by
 have := val_lt dx
 exact (length_le_iff dy ny xs.length).2 (by omega)
theorem wv_same {n : Bool} {xs ys os : List Int} (h : val os = val xs + val ys) : wv n xs + wv n ys = wv n os := by
 unfold wv; cases n <;> simp <;> omega
theorem wv_less {n m : Bool} {xs ys os : List Int} (hn : (n == m) = false) (h : val os = val xs - val ys) : wv n xs + wv m ys = wv n os := by
 unfold wv; cases n <;> cases m <;> simp at hn ⊢ <;> omega
theorem wv_less' {n m : Bool} {xs ys os : List Int} (hn : (n == m) = false) (h : val os = val ys - val xs) : wv n xs + wv m ys = wv m os := by
 unfold wv; cases n <;> cases m <;> simp at hn ⊢ <;> omega
theorem wv_mul {n m : Bool} {xs ys os : List Int} (h : val os = val xs * val ys) : wv n xs * wv m ys = wv (n != m) os := by
 unfold wv; cases n <;> cases m <;> simp [h, Int.neg_mul, Int.mul_neg]
def shM (m n : Int) : Int := if n < 0 then m / (2 : Int) ^ (-n).toNat else m * (2 : Int) ^ n.toNat
def shV (ng : Bool) (m n : Int) : Int := if ng then - shM m n else shM m n
theorem pw_pow (n : Nat) : pw n = (2 : Int) ^ (32 * n) := by rw [pw_two]; simp
theorem shM_up {m n : Int} {wh r : Nat} (h0 : 0 ≤ n) (hq : n / 32 = (wh : Int)) (hm : n % 32 = (r : Int)) : pw wh * ((2 : Int) ^ r * m) = shM m n := by
 unfold shM
 rw [if_neg (by omega), pw_pow, show n.toNat = 32 * wh + r by omega, Int.pow_add, Int.mul_comm m, Int.mul_assoc]
theorem shM_down {m n : Int} {wh r : Nat} (h0 : n < 0) (hq : -n / 32 = (wh : Int)) (hm : -n % 32 = (r : Int)) : m / pw wh / (2 : Int) ^ r = shM m n := by
 unfold shM
 have hp := pw_pos wh
 rw [if_pos h0, show (-n).toNat = 32 * wh + r by omega, Int.pow_add, ← pw_pow, Int.ediv_ediv_of_nonneg (by omega)]
theorem shV_wv {ng : Bool} {m n : Int} {os : List Int} (h : val os = shM m n) : shV ng m n = wv ng os := by unfold shV wv; rw [h]
end Nm
end Go.Proofs.YtkfjmcdniohljaaGreatDoor
