/-
  What is needed of RN, DrawC, FM.
-/
import Derived.Test.YtmcflggionkhlaaGreatDoorK36
import Derived.Test.YtmcflggionkhlaaGreatDoorK37
set_option maxHeartbeats 16000000
set_option maxRecDepth 1000000
namespace Go.Proofs.YtmcflggionkhlaaGreatDoor
set_option linter.unusedVariables false
set_option linter.unusedSimpArgs false
namespace Nm
/-- The unit of the last place in which is rounded. -/
def rk (P : Nat) (q : Int) (a : Nat) (e : Int) : Nat := (rn P q a e + e - q).toNat
theorem rU_dn (P : Nat) (q : Int) (a : Nat) (e : Int) : rU P q a e false = rm P q a e * 2 ^ rk P q a e := by
  unfold rU r1 rk; simp
theorem rU_up {P : Nat} {q : Int} {a : Nat} {e : Int} (h : rr P q a e ≠ 0) : rU P q a e true = (rm P q a e + 1) * 2 ^ rk P q a e := by
  unfold rU r1 rk; simp [h]
theorem rU_ex {P : Nat} {q : Int} {a : Nat} {e : Int} (h : rr P q a e = 0) (up : Bool) : rU P q a e up = rm P q a e * 2 ^ rk P q a e := by
  unfold rU r1 rk; simp [h]
/-- Above the least place what is cut has all of its bits. -/
theorem rm_top {P : Nat} {q : Int} {a : Nat} {e : Int} (hP : 1 ≤ P) (ha : a ≠ 0) (hk : rk P q a e ≠ 0) : 2 ^ (P - 1) ≤ rm P q a e := by
  have hn : q - e < rn P q a e := by unfold rk at hk; omega
  exact rm_ge ha hP hn
theorem pw_dbl {P : Nat} (hP : 1 ≤ P) : 2 ^ P = 2 * 2 ^ (P - 1) := by
  obtain ⟨k, rfl⟩ : ∃ k, P = k + 1 := ⟨P - 1, by omega⟩
  rw [Nat.add_sub_cancel, Nat.pow_succ, Nat.mul_comm]
/-- The bits of m places of 2 to the k. -/
theorem flb_mk {P m k : Nat} (hP : 1 ≤ P) (hm : m < 2 ^ P) (hk : k ≠ 0 → 2 ^ (P - 1) ≤ m) : flb P (m * 2 ^ k) = m + k * 2 ^ (P - 1) ∧ bitLen (m * 2 ^ k) - P = k ∧ m * 2 ^ k / 2 ^ (bitLen (m * 2 ^ k) - P) = m := by
  have hp := Nat.two_pow_pos (P - 1)
  have hd := pw_dbl hP
  by_cases h0 : k = 0
  · subst h0
    have hb : bitLen (m * 2 ^ 0) - P = 0 := by
      have := (bl_le_iff m P).2 hm
      rw [Nat.pow_zero, Nat.mul_one]; omega
    refine ⟨?_, hb, by rw [hb]; simp⟩
    unfold flb
    rw [hb]
    simp
  · have hmk := hk h0
    have hm0 : m ≠ 0 := by omega
    have hb : bitLen (m * 2 ^ k) - P = k := by
      rw [bl_mul hm0]
      have h1 := (bl_le_iff m P).2 hm
      have h2 : ¬ bitLen m ≤ P - 1 := fun h => by have := (bl_le_iff m (P - 1)).1 h; omega
      omega
    have hq : m * 2 ^ k / 2 ^ (bitLen (m * 2 ^ k) - P) = m := by rw [hb]; exact Nat.mul_div_cancel m (Nat.two_pow_pos k)
    refine ⟨?_, hb, hq⟩
    unfold flb
    rw [hq, if_pos hmk, hb]
/-- .. and those of one place more. -/
theorem flb_mk1 {P m k : Nat} (hP : 1 ≤ P) (hm : m < 2 ^ P) (hk : k ≠ 0 → 2 ^ (P - 1) ≤ m) : flb P ((m + 1) * 2 ^ k) = m + 1 + k * 2 ^ (P - 1) ∧ bitLen ((m + 1) * 2 ^ k) - P ≤ k + 1 ∧ (m + 1) * 2 ^ k / 2 ^ (bitLen ((m + 1) * 2 ^ k) - P) * 2 ^ (bitLen ((m + 1) * 2 ^ k) - P) = (m + 1) * 2 ^ k := by
  have hp := Nat.two_pow_pos (P - 1)
  have hd := pw_dbl hP
  by_cases h : m + 1 < 2 ^ P
  · obtain ⟨h1, h2, h3⟩ := flb_mk (P := P) (m := m + 1) (k := k) hP h (fun h => by have := hk h; omega)
    exact ⟨h1, by omega, by rw [h3, h2]⟩
  · have e : m + 1 = 2 ^ P := by omega
    have e2 : (m + 1) * 2 ^ k = 2 ^ (P - 1) * 2 ^ (k + 1) := by
      rw [e, hd, Nat.pow_succ, Nat.mul_comm 2 (2 ^ (P - 1)), Nat.mul_assoc, Nat.mul_comm (2 ^ k) 2]
    obtain ⟨h1, h2, h3⟩ := flb_mk (P := P) (m := 2 ^ (P - 1)) (k := k + 1) hP (by omega) (fun _ => Nat.le_refl _)
    rw [e2, h1, h2]
    refine ⟨?_, Nat.le_refl _, by rw [Nat.mul_div_cancel _ (Nat.two_pow_pos _)]⟩
    rw [Nat.add_mul, Nat.one_mul]; omega
/-- The neighbours' bits are one apart. -/
theorem nb_bits {P : Nat} {q : Int} {a : Nat} {e : Int} (hP : 1 ≤ P) (ha : a ≠ 0) (hr : rr P q a e ≠ 0) :
    flb P (rU P q a e true) = flb P (rU P q a e false) + 1 ∧ rU P q a e false < rU P q a e true := by
  rw [rU_up hr, rU_dn]
  have h1 := flb_mk (P := P) (m := rm P q a e) (k := rk P q a e) hP rm_lt (rm_top hP ha)
  have h2 := flb_mk1 (P := P) (m := rm P q a e) (k := rk P q a e) hP rm_lt (rm_top hP ha)
  refine ⟨by rw [h1.1, h2.1]; omega, ?_⟩
  rw [Nat.add_mul, Nat.one_mul]
  have := Nat.two_pow_pos (rk P q a e)
  omega
/-- What is one place more is a float's units where the bits are a float's. -/
theorem flo_up {P I : Nat} {q : Int} {a : Nat} {e : Int} (hP : 1 ≤ P) (ha : a ≠ 0) (hr : rr P q a e ≠ 0) (hI : I ≤ 2100 * 2 ^ (P - 1)) (hf : flo P I (rU P q a e false) = true) (h : flb P (rU P q a e false) + 1 < I) : flo P I (rU P q a e true) = true := by
  have hb := (nb_bits (P := P) hP ha hr).1
  rw [rU_up hr] at hb ⊢
  have h2 := flb_mk1 (P := P) (m := rm P q a e) (k := rk P q a e) hP rm_lt (rm_top hP ha)
  unfold flo
  simp only [Bool.and_eq_true, decide_eq_true_eq]
  refine ⟨⟨?_, h2.2.2⟩, by omega⟩
  rw [h2.1] at hb
  have h3 : (rm P q a e + 1 + rk P q a e * 2 ^ (P - 1)) < 2100 * 2 ^ (P - 1) := by omega
  have h4 : rk P q a e < 2100 := by
    rcases Nat.lt_or_ge (rk P q a e) 2100 with h | h
    · exact h
    · have := Nat.mul_le_mul_right (2 ^ (P - 1)) h; omega
  omega
/-- The distances, in units of 2 to the lower one of both exponents. -/
theorem off_dn {P : Nat} {q : Int} {a : Nat} {e : Int} : rU P q a e false * 2 ^ (q - min e q).toNat + rr P q a e * 2 ^ (e - min e q).toNat = a * 2 ^ (e - min e q).toNat := by
  rw [rU_dn]
  have hn : q - e ≤ rn P q a e := by unfold rn; omega
  by_cases h : 0 ≤ rn P q a e
  · have e1 : rk P q a e + (q - min e q).toNat = (rn P q a e).toNat + (e - min e q).toNat := by unfold rk; omega
    have hm : rm P q a e = a / 2 ^ (rn P q a e).toNat := by
      unfold rm sh
      by_cases h0 : rn P q a e = 0
      · rw [h0]; simp
      · rw [if_pos (by omega), show (- -rn P q a e).toNat = (rn P q a e).toNat by omega]
    rw [Nat.mul_assoc, ← Nat.pow_add, e1, Nat.pow_add, ← Nat.mul_assoc, ← Nat.add_mul]
    have : rm P q a e * 2 ^ (rn P q a e).toNat + rr P q a e = a := by
      rw [hm]; unfold rr; rw [Nat.mul_comm]; exact Nat.div_add_mod _ _
    rw [this]
  · have hr : rr P q a e = 0 := by
      unfold rr
      rw [show (rn P q a e).toNat = 0 by omega, Nat.pow_zero, Nat.mod_one]
    have hm : rm P q a e = a * 2 ^ (-rn P q a e).toNat := by
      unfold rm sh
      rw [if_neg (by omega)]
    rw [hr, Nat.zero_mul, Nat.add_zero, hm, Nat.mul_assoc, Nat.mul_assoc, ← Nat.pow_add, ← Nat.pow_add]
    congr 2
    unfold rk; omega
theorem off_up {P : Nat} {q : Int} {a : Nat} {e : Int} (hr : rr P q a e ≠ 0) : rU P q a e true * 2 ^ (q - min e q).toNat = a * 2 ^ (e - min e q).toNat + (2 ^ (rn P q a e).toNat - rr P q a e) * 2 ^ (e - min e q).toNat ∧ rr P q a e < 2 ^ (rn P q a e).toNat := by
  have hlt : rr P q a e < 2 ^ (rn P q a e).toNat := Nat.mod_lt _ (Nat.two_pow_pos _)
  refine ⟨?_, hlt⟩
  have h1 : 1 ≤ rn P q a e := rr_pos hr
  have hd := off_dn (P := P) (q := q) (a := a) (e := e)
  rw [rU_dn] at hd
  rw [rU_up hr, Nat.add_mul, Nat.add_mul, Nat.one_mul, ← hd, Nat.add_assoc (rm P q a e * 2 ^ rk P q a e * 2 ^ (q - min e q).toNat), ← Nat.add_mul (rr P q a e), show rr P q a e + (2 ^ (rn P q a e).toNat - rr P q a e) = 2 ^ (rn P q a e).toNat by omega]
  rw [← Nat.pow_add, ← Nat.pow_add]
  congr 2
  have hn : q - e ≤ rn P q a e := by unfold rn; omega
  unfold rk; omega
/-- Half a place: what the remainder is held against. -/
theorem rh_cases {P : Nat} {q : Int} {a : Nat} {e : Int} : (rh P q a e = -1 ∧ 2 * rr P q a e < 2 ^ (rn P q a e).toNat) ∨ (rh P q a e = 0 ∧ 2 * rr P q a e = 2 ^ (rn P q a e).toNat) ∨ (rh P q a e = 1 ∧ 2 ^ (rn P q a e).toNat < 2 * rr P q a e) := by
  unfold rh cmp2
  rcases Nat.lt_trichotomy (2 * rr P q a e) (2 ^ (rn P q a e).toNat) with h | h | h
  · left; rw [if_pos h]; exact ⟨rfl, h⟩
  · right; left; rw [if_neg (by omega), if_neg (by omega)]; exact ⟨rfl, h⟩
  · right; right; rw [if_neg (by omega), if_pos h]; exact ⟨rfl, h⟩
/-- What is cut is no more than the greatest place. -/
theorem flb_mono' {P u v : Nat} (hP : 1 ≤ P) (h : u ≤ v) : flb P u ≤ flb P v := by
  have hbl := bl_mono h
  have mu := flm_lt P u
  have mv := flm_lt P v
  have h2 : 2 ^ P = 2 * 2 ^ (P - 1) := by
    obtain ⟨k, rfl⟩ : ∃ k, P = k + 1 := ⟨P - 1, by omega⟩
    rw [Nat.add_sub_cancel, Nat.pow_succ, Nat.mul_comm]
  have hp := Nat.two_pow_pos (P - 1)
  have ge : ∀ w : Nat, 0 < bitLen w - P → 2 ^ (P - 1) ≤ w / 2 ^ (bitLen w - P) := fun w hw => by
    have hw0 : w ≠ 0 := fun h => by subst h; rw [bl_zero] at hw; omega
    rw [Nat.le_div_iff_mul_le (Nat.two_pow_pos _), ← Nat.pow_add, show P - 1 + (bitLen w - P) = bitLen w - 1 by omega]
    exact bl_ge hw0
  have gv := ge v
  rcases Nat.lt_or_eq_of_le (show bitLen u - P ≤ bitLen v - P by omega) with hlt | heq
  · have hv := gv (by omega)
    unfold flb
    rw [if_pos hv]
    have hmul : (bitLen u - P + 1) * 2 ^ (P - 1) ≤ (bitLen v - P) * 2 ^ (P - 1) := Nat.mul_le_mul_right _ (by omega)
    rw [Nat.add_mul, Nat.one_mul] at hmul
    split <;> omega
  · have hd : u / 2 ^ (bitLen u - P) ≤ v / 2 ^ (bitLen v - P) := by rw [heq]; exact Nat.div_le_div_right h
    unfold flb
    rw [heq] at hd ⊢
    split <;> split <;> omega
theorem flb_lt_flo {P I u v : Nat} (h : u ≤ v) (hP : 1 ≤ P) (hx : u / 2 ^ (bitLen u - P) * 2 ^ (bitLen u - P) = u) (hf : flo P I v = true) (hm : flb P u ≤ flb P v) : flo P I u = true := by
  unfold flo at hf ⊢
  simp only [Bool.and_eq_true, decide_eq_true_eq] at hf ⊢
  have := bl_mono h
  exact ⟨⟨by omega, hx⟩, by omega⟩
end Nm
namespace Fd
open Nm
/-- A difference of two floats' units that is no farther from 0 than both are is a float's. -/
theorem near_flo {P I : Nat} (hP : 2 ≤ P) (hI : I ≤ 2100 * 2 ^ (P - 1)) (y1 y2 : Nat) (h1 : y1 < I) (h2 : y2 < I) (hu : uf (2 ^ (P - 1)) y1 ≤ 2 * uf (2 ^ (P - 1)) y2) (hv : uf (2 ^ (P - 1)) y2 ≤ 2 * uf (2 ^ (P - 1)) y1) (d : Nat) (hd : d + uf (2 ^ (P - 1)) y2 = uf (2 ^ (P - 1)) y1 ∨ d + uf (2 ^ (P - 1)) y1 = uf (2 ^ (P - 1)) y2) :
    ∃ y, y < I ∧ uf (2 ^ (P - 1)) y = d := by
  -- both in places of 2 to the c1 and the c2
  have key : ∀ z w : Nat, z < I → d ≤ uf (2 ^ (P - 1)) z → z / 2 ^ (P - 1) - 1 ≤ w / 2 ^ (P - 1) - 1 → (d + uf (2 ^ (P - 1)) w = uf (2 ^ (P - 1)) z ∨ d + uf (2 ^ (P - 1)) z = uf (2 ^ (P - 1)) w) → ∃ y, y < I ∧ uf (2 ^ (P - 1)) y = d := by
    intro z w hz hdz hc hdd
    obtain ⟨a1, a2, a3⟩ := uf_cut P (by omega) z
    obtain ⟨b1, b2, b3⟩ := uf_cut P (by omega) w
    have hdv : 2 ^ (z / 2 ^ (P - 1) - 1) ∣ d := by
      have e1 : 2 ^ (z / 2 ^ (P - 1) - 1) ∣ uf (2 ^ (P - 1)) z := by rw [← a1]; exact Nat.dvd_of_mod_eq_zero a3
      have e2 : 2 ^ (z / 2 ^ (P - 1) - 1) ∣ uf (2 ^ (P - 1)) w := Nat.dvd_trans (Nat.pow_dvd_pow 2 hc) (by rw [← b1]; exact Nat.dvd_of_mod_eq_zero b3)
      rcases hdd with h | h
      · exact (Nat.dvd_add_left e2).1 (by rw [h]; exact e1)
      · exact (Nat.dvd_add_left e1).1 (by rw [h]; exact e2)
    have hbl : bitLen d - P ≤ z / 2 ^ (P - 1) - 1 := by rw [← a1]; have := bl_mono hdz; omega
    have hx : d / 2 ^ (bitLen d - P) * 2 ^ (bitLen d - P) = d := Nat.div_mul_cancel (Nat.dvd_trans (Nat.pow_dvd_pow 2 hbl) hdv)
    have hfz := uf_flo P I (by omega) z hz hI
    have hbz := uf_flb P (by omega) z
    by_cases h0 : d = 0
    · exact ⟨0, by omega, by rw [h0]; exact uf_zero _ (by
        have := Nat.pow_le_pow_right (n := 2) (by decide) (show 1 ≤ P - 1 by omega); omega)⟩
    · have hmono : flb P d ≤ flb P (uf (2 ^ (P - 1)) z) := flb_mono' (by omega) hdz
      have hfd := flb_lt_flo (I := I) hdz (by omega) hx hfz hmono
      refine ⟨flb P d, by omega, flb_uf P I d (by omega) hfd⟩
  rcases Nat.le_total (y1 / 2 ^ (P - 1) - 1) (y2 / 2 ^ (P - 1) - 1) with hc | hc
  · exact key y1 y2 h1 (by omega) hc hd
  · exact key y2 y1 h2 (by omega) hc (hd.symm)
end Fd
open Go.RowKit Go.Deep
/-- Only the reader's block, one row, and what is new has turned. -/
structure Gr2 (w w' : World) (rb : Nat) (a : Option Addr) : Prop where
  os : w'.os = w.os
  tape : w'.tape = w.tape
  output : w'.output = w.output
  size : w.heap.size ≤ w'.heap.size
  block : ∀ k, k < w.heap.size → k ≠ rb → (∀ g, a = some ⟨g, 0, none⟩ → k ≠ g) → w'.heap[k]? = w.heap[k]?
theorem Gr2.of {w w' : World} {rb : Nat} {a : Option Addr} (h : w.grownBy w' (some rb)) : Gr2 w w' rb a := ⟨h.os, h.tape, h.output, h.size, fun k hk hne _ => h.block k hk (by intro e; exact hne (Option.some.inj e))⟩
theorem Gr2.trans {w w1 w2 : World} {rb : Nat} {a : Option Addr} (h : Gr2 w w1 rb a) (k : Gr2 w1 w2 rb a) : Gr2 w w2 rb a :=
  ⟨k.os.trans h.os, k.tape.trans h.tape, k.output.trans h.output, Nat.le_trans h.size k.size, fun i hi h1 h2 => (k.block i (Nat.lt_of_lt_of_le hi h.size) h1 h2).trans (h.block i hi h1 h2)⟩
theorem Gr2.below {w w1 w2 : World} {rb : Nat} {a : Option Addr} (h : Gr2 w w1 rb a) (hb : Below w1.heap.size w1 w2) : Gr2 w w2 rb a := h.trans (Gr2.of (grown_below hb _))
theorem Gr2.box {w w' : World} {rb b : Nat} {a : Option Addr} {v0 v1 : Value} (h : Box w b v0 v1) (hg : Gr2 w w' rb a) (h1 : b ≠ rb) (h2 : ∀ g, a = some ⟨g, 0, none⟩ → b ≠ g) : Box w' b v0 v1 := by
  have e := hg.block b (World.block_lt_of_cell? w _ h.1) h1 h2
  exact ⟨(World.cell?_of_block (a := ⟨b, 0, none⟩) e).trans h.1, (World.cell?_of_block (a := ⟨b, 1, none⟩) e).trans h.2⟩
theorem Gr2.own {w w' : World} {rb B : Nat} {a o : Option Addr} {c : Nat} {zs : List Int} (h : Own w B o c zs) (hg : Gr2 w w' rb a) (h1 : ∀ g, o = some ⟨g, 0, none⟩ → g ≠ rb ∧ ∀ g', a = some ⟨g', 0, none⟩ → g ≠ g') : Own w' B o c zs := by
  refine ⟨h.1, ?_⟩
  rcases h.2 with h2 | ⟨g, cap', cur, e1, e2, e3, e4⟩
  · exact .inl h2
  · have hg' : o = some ⟨g, 0, none⟩ := by simpa using (Value.slice.inj e1).1
    refine .inr ⟨g, cap', cur, e1, e2, ?_, e4⟩
    rw [hg.block g (Array.getElem?_eq_some_iff.1 e3).1 (h1 g hg').1 (h1 g hg').2]; exact e3
theorem own_at {w : World} {B : Nat} {a : Option Addr} {c : Nat} {zs : List Int} (h : Own w B a c zs) : ∀ g, a = some ⟨g, 0, none⟩ → B ≤ g ∧ g < w.heap.size := by
  intro g hg
  rcases h.block with ⟨e, _⟩ | ⟨g', e, h1, h2⟩
  · rw [e] at hg; cases hg
  · rw [e] at hg; cases hg; exact ⟨h1, h2⟩
theorem set_grown (w : World) (p : Addr) (v : Value) : w.grownBy (w.setCell p v) (some p.block) :=
  ⟨by simp [World.setCell], by simp [World.setCell], by simp [World.setCell], by simp [World.setCell], fun k hk hne => Below.heap_setCell w p v k (by intro e; exact hne (by rw [e]))⟩
theorem Gr2.set {w w1 : World} {rb : Nat} {a : Option Addr} (h : Gr2 w w1 rb a) {p : Addr} (hp : w.heap.size ≤ p.block) (v : Value) : Gr2 w (w1.setCell p v) rb a := by
  have hg := set_grown w1 p v
  exact ⟨hg.os.trans h.os, hg.tape.trans h.tape, hg.output.trans h.output, Nat.le_trans h.size hg.size, fun i hi h1 h2 => (hg.block i (Nat.lt_of_lt_of_le hi h.size) (by intro e; have : i = p.block := Option.some.inj e; omega)).trans (h.block i hi h1 h2)⟩
theorem RD.other {w : World} {rb : Nat} {ca : Option Addr} {cc : Nat} {cs : List Int} (h : RD w rb ca cc cs) {p : Addr} (hp : rb < p.block) (v : Value) : RD (w.setCell p v) rb ca cc cs := h.grown (set_grown w p v) hp
theorem sl64_1 (w : World) (x : Int) (t : TypeId) : Sl .u64 (w.alloc (.cells #[.int .u64 x] t)) (.slice (some ⟨w.heap.size, 0, none⟩) [x].length 1) [x] :=
  ⟨_, 1, rfl, Nat.le_refl _, by unfold maxLen; omega, .inr ⟨w.heap.size, 0, rfl, fun i hi => by
    have : i = 0 := by simpa using hi
    subst this; simp⟩⟩
theorem sl64_2 (w : World) (x y : Int) (t : TypeId) : Sl .u64 (w.alloc (.cells #[.int .u64 x, .int .u64 y] t)) (.slice (some ⟨w.heap.size, 0, none⟩) [x, y].length 2) [x, y] :=
  ⟨_, 2, rfl, Nat.le_refl _, by unfold maxLen; simp, .inr ⟨w.heap.size, 0, rfl, fun i hi => by
    have h2 : i < 2 := by simpa using hi
    match i, h2 with
    | 0, _ => simp
    | 1, _ => simp⟩⟩
theorem sl64_3 (w : World) (x y z : Int) (t : TypeId) : Sl .u64 (w.alloc (.cells #[.int .u64 x, .int .u64 y, .int .u64 z] t)) (.slice (some ⟨w.heap.size, 0, none⟩) [x, y, z].length 3) [x, y, z] :=
  ⟨_, 3, rfl, Nat.le_refl _, by unfold maxLen; simp, .inr ⟨w.heap.size, 0, rfl, fun i hi => by
    have h2 : i < 3 := by simpa using hi
    match i, h2 with
    | 0, _ => simp
    | 1, _ => simp
    | 2, _ => simp⟩⟩
theorem d64_1 {x : Int} (x0 : 0 ≤ x) (x1 : x < 18446744073709551616) : D64 [x] := fun z hz => by
  simp only [List.mem_cons, List.not_mem_nil, or_false] at hz; subst hz; exact ⟨x0, x1⟩
theorem d64_2 {x y : Int} (x0 : 0 ≤ x) (x1 : x < 18446744073709551616) (y0 : 0 ≤ y) (y1 : y < 18446744073709551616) : D64 [x, y] := fun z hz => by
  simp only [List.mem_cons, List.not_mem_nil, or_false] at hz; rcases hz with rfl | rfl
  · exact ⟨x0, x1⟩
  · exact ⟨y0, y1⟩
/-- A product, of what are no NaNs: i: one is infinity; z: one is zero. -/
def mB (nan inf sg : Int) (i z neg : Bool) (rb : Int) : Int := if i && z then nan else if i then sgn sg inf neg else if z then sgn sg 0 neg else rb
def mF (i z : Bool) (rf : Int) : Int := if i && z then 8 else if i || z then 0 else rf
def zF (fm x : Int) : Bool := absF fm x == 0
theorem zF_fin {fm x : Int} (hx : okF fm x = true) (hf : finB fm x = true) : zF fm x = decide (nZ fm x = 0) := by
  have hM := pM_bd fm x
  have e : (nZ fm x = 0) ↔ pM fm x = 0 := by
    rw [(fin_facts hx hf).2.2.1]; cases pS fm x <;> simp
  have h := cls_zero hx
  show (absF fm x == 0) = _
  rw [← h, Bool.eq_iff_iff, beq_iff_eq, decide_eq_true_eq, e]
  constructor
  · intro h
    have ha : (absF fm x == 0) = true := by rw [← cls_zero hx, h]; rfl
    have ha' : absF fm x = 0 := by simpa using ha
    unfold pM; rw [hf, if_pos rfl]
    rcases okF_cases hx with ⟨rfl, hx'⟩ | rfl
    · rw [abs32 hx'] at ha'
      rw [if_pos rfl, ha']; rfl
    · rw [abs64] at ha'
      rw [if_neg (by decide), ha']; rfl
  · intro h
    have hc : 0 ≤ cls fm x ∧ cls fm x ≤ 2 := by simpa [finB] using hf
    by_cases h12 : cls fm x = 1 ∨ cls fm x = 2
    · have := (pM_pos h12).2; omega
    · omega
theorem zF_inf {fm x : Int} (hx : okF fm x = true) (h : nI fm x = true) : zF fm x = false := by
  have h3 : cls fm x = 3 := by simpa [nI] using h
  unfold zF; rw [← cls_zero hx, h3]; rfl
theorem nan_cases {fm x : Int} (hx : okF fm x = true) (h : nanB fm x = false) : finB fm x = true ∨ nI fm x = true := by
  rcases cls_sixE hx with hf | h3 | h4 | h5
  · exact .inl hf
  · exact .inr (by unfold nI; rw [h3]; rfl)
  · rw [nan_ofE hx, h4] at h; simp at h
  · rw [nan_ofE hx, h5] at h; simp at h
theorem nZ_bd (fm x : Int) : (nZ fm x).natAbs < 9007199254740992 ∧ -1074 ≤ nE fm x ∧ nE fm x ≤ 2000 := by
  have h1 := pM_bd fm x
  have h2 := pE_bd fm x
  unfold nZ nE
  cases finB fm x
  · simp
  · simp; refine ⟨?_, h2⟩; cases pS fm x <;> simp <;> omega
theorem wl_of {z : Int} {k : Nat} (h : z.natAbs < 2 ^ k) (hk : k ≤ 6400) : (Nm.wl z).length ≤ 200 := by
  unfold Nm.wl; exact lim_len (k := 200) (by have := (Nm.bl_le_iff z.natAbs k).2 h; omega)
theorem nZ_len (fm x : Int) : (Nm.wl (nZ fm x)).length ≤ 200 := wl_of (k := 53) (by have := (nZ_bd fm x).1; omega) (by decide)
theorem nZm_bd (fm x y : Int) : (nZ fm x * nZ fm y).natAbs < 2 ^ 106 := by
  have h1 := (nZ_bd fm x).1
  have h2 := (nZ_bd fm y).1
  rw [Int.natAbs_mul]
  have : (nZ fm x).natAbs * (nZ fm y).natAbs ≤ 9007199254740991 * 9007199254740991 := Nat.mul_le_mul (by omega) (by omega)
  omega
theorem nZm_len (fm x y : Int) : (Nm.wl (nZ fm x * nZ fm y)).length ≤ 200 := wl_of (nZm_bd fm x y) (by decide)
theorem rdo_any {fm mode : Int} {z e : Int} (hf : fmtB fm = true) (hm : modeB mode = true) (hl : (Nm.wl z).length ≤ 200) (h0 : -10000 ≤ e) (h1 : e ≤ 10000) : RdO fm mode (Nm.wn z) (Nm.wl z) e = true := by
  unfold RdO inZ; rw [hf, hm, okB_wl hl, decide_eq_true h0, decide_eq_true h1]; rfl
theorem l3r_any (fm mode : Int) (z e : Int) (p : Option Addr) (cap : Nat) (w : World) (hs : Sl .u32 w (.slice p (Nm.wl z).length cap) (Nm.wl z)) (hz : z ≠ 0) (ho : RdO fm mode (Nm.wn z) (Nm.wl z) e = true) :
    Calls Tryz.prog 103 #[.int .i64 fm, .int .i64 mode, .agg #[.bool (Nm.wn z), .slice p (Nm.wl z).length cap], .int .i64 e] w fun x w' => x = .returned (.tuple #[.int .u64 (RdB fm mode (Nm.wn z) (Nm.wl z) e), .int .i64 (RdF fm mode (Nm.wn z) (Nm.wl z) e)]) ∧ Below w.heap.size w w' := by
  have h0 : (Nm.wl z).length ≠ 0 := by unfold Nm.wl; rw [Ne, Nm.lim_length_zero]; omega
  have hf : fmtB fm = true := by unfold RdO at ho; simp only [Bool.and_eq_true] at ho; exact ho.1.1.1
  rcases fmt_cases hf with rfl | rfl
  · exact l3r_at32 mode (Nm.wn z) (Nm.wl z) e p cap w hs (Nm.wl_dg _) h0 ho
  · exact l3r_at64 mode (Nm.wn z) (Nm.wl z) e p cap w hs (Nm.wl_dg _) h0 ho
theorem exact4 (fm x y : Int) (w : World) (hx : finB fm x = true) (hy : finB fm y = true) (x0 : 0 ≤ x) (x1 : x < 18446744073709551616) (y0 : 0 ≤ y) (y1 : y < 18446744073709551616) (hox : okF fm x = true) (hoy : okF fm y = true) (G : Bool) (L : List Int) (E : Int) (hG : G = Nm.wn (nZ fm x * nZ fm y)) (hL : L = Nm.wl (nZ fm x * nZ fm y)) (hE : E = nE fm x + nE fm y) :
    Calls Tryz.prog 97 #[.int .i64 fm, .int .u64 x, .int .u64 y] w fun r w' => ∃ a' c', r = .returned (.tuple #[.agg #[.bool G, .slice a' L.length c'], .int .i64 E]) ∧ Own w' w.heap.size a' c' L ∧ Below w.heap.size w w' := by
  have C1 := hid (fun w' => sparts_any fm x w' hx x0 x1)
  have C2 := hid (fun w' => sparts_any fm y w' hy y0 y1)
  obtain ⟨fx1, fx2, fx3, fx4, -, -⟩ := fin_facts hox hx
  obtain ⟨fy1, fy2, fy3, fy4, -, -⟩ := fin_facts hoy hy
  have bx := pM_bd fm x
  have by' := pM_bd fm y
  have ex := pE_bd fm x
  have ey := pE_bd fm y
  have U1 := hid (fun w' => l1uint_z (pM fm x) (pS fm x) w' bx.1 (by omega))
  have U2 := hid (fun w' => l1uint_z (pM fm y) (pS fm y) w' by'.1 (by omega))
  rw [← fx3] at U1
  rw [← fy3] at U2
  have CM := hid (fun a c b d w' h h' => l1mul_any (Nm.wn (nZ fm x)) (Nm.wn (nZ fm y)) a b c d (Nm.wl (nZ fm x)) (Nm.wl (nZ fm y)) w' h h' (Nm.wl_dg _) (Nm.wl_dg _) (Nm.wl_nz _) (Nm.wl_nz _) (by have := nZ_len fm x; omega) (by have := nZ_len fm y; omega) (nZ fm x * nZ fm y) (by rw [Nm.wv_out, Nm.wv_out]))
  rw [fx4, fy4] at hE
  simp only [← hG, ← hL] at CM
  obtain ⟨s1, hs1⟩ : ∃ s, s = pS fm x := ⟨_, rfl⟩
  obtain ⟨s2, hs2⟩ : ∃ s, s = pS fm y := ⟨_, rfl⟩
  obtain ⟨m1, hm1⟩ : ∃ s, s = pM fm x := ⟨_, rfl⟩
  obtain ⟨m2, hm2⟩ : ∃ s, s = pM fm y := ⟨_, rfl⟩
  obtain ⟨e1, he1⟩ : ∃ s, s = pE fm x := ⟨_, rfl⟩
  obtain ⟨e2, he2⟩ : ∃ s, s = pE fm y := ⟨_, rfl⟩
  obtain ⟨G1, hG1⟩ : ∃ s, s = Nm.wn (nZ fm x) := ⟨_, rfl⟩
  obtain ⟨G2, hG2⟩ : ∃ s, s = Nm.wn (nZ fm y) := ⟨_, rfl⟩
  obtain ⟨L1, hL1⟩ : ∃ s, s = Nm.wl (nZ fm x) := ⟨_, rfl⟩
  obtain ⟨L2, hL2⟩ : ∃ s, s = Nm.wl (nZ fm y) := ⟨_, rfl⟩
  rw [← hs1, ← hm1, ← he1] at C1
  rw [← hs2, ← hm2, ← he2] at C2
  rw [← hs1, ← hm1, ← hG1, ← hL1] at U1
  rw [← hs2, ← hm2, ← hG2, ← hL2] at U2
  simp only [← hG1, ← hL1, ← hG2, ← hL2] at CM
  rw [← he1, ← he2] at hE
  rw [← hm1] at bx
  rw [← hm2] at by'
  rw [← he1] at ex
  rw [← he2] at ey
  have hwE : IntKind.i64.wrap (e1 + e2) = E := by rw [hE, IntKind.wrap_i64]; omega
  have hw1 : IntKind.u64.wrap m1 = m1 := by rw [IntKind.wrap_u64]; omega
  have hw2 : IntKind.u64.wrap m2 = m2 := by rw [IntKind.wrap_u64]; omega
  clear hs1 hs2 hm1 hm2 he1 he2 hG1 hG2 hL1 hL2 hE fx1 fx2 fx3 fx4 fy1 fy2 fy3 fy4 hG hL hx hy hox hoy bx by' ex ey
  have R := R2.new w (.bool false) (.slice none 0 0) 31
  go_enter Tryz.func97, Tryz.ntmps97
  go_wp2_with fail
  refine (C1.out _).mono ?_
  rintro r w1 ⟨rfl, hb1⟩
  replace R := (R.below hb1).alloc (.cells #[.bool s1, .int .i64 m1, .int .i64 e1] 77)
  have P := R3.new w1 (.bool s1) (.int .i64 m1) (.int .i64 e1) 77
  have bel1 : Below w.heap.size w (w1.alloc (.cells #[.bool s1, .int .i64 m1, .int .i64 e1] 77)) := (by repeat (first | exact bz0 _ _ | refine bz1 ?_ | refine bz2 ?_ _ | refine bz3 ?_ _ | refine bz4 ?_ hb1 | refine bz5 ?_ _ | refine bz6 ?_ _ | refine bz7 ?_ hb1))
  have lw1 : w.heap.size < w1.heap.size := by have := hb1.size; simp at this; omega
  go_wp2_with fail
  refine (C2.out _).mono ?_
  rintro r w2 ⟨rfl, hb2⟩
  replace R := (R.below hb2).alloc (.cells #[.bool s2, .int .i64 m2, .int .i64 e2] 77)
  replace P := (P.below hb2).al (.cells #[.bool s2, .int .i64 m2, .int .i64 e2] 77)
  have Q := R3.new w2 (.bool s2) (.int .i64 m2) (.int .i64 e2) 77
  have bel2w := bel_go bel1 hb2
  have bel2 := bel_al (bel_go bel1 hb2) (.cells #[.bool s2, .int .i64 m2, .int .i64 e2] 77)
  have lw2 : w1.heap.size < w2.heap.size := by have := hb2.size; simp at this; omega
  clear hb1 hb2 bel1
  have Pd := P.dr
  have Qd := Q.dr
  have pd := And.intro (And.intro Pd.c0 (And.intro Pd.c1 Pd.c2)) (And.intro Qd.c0 (And.intro Qd.c1 Qd.c2))
  go_wp2_with fail
  go_region_held3 (fun w' => (w'.cell? ⟨w1.heap.size, 0, none⟩ = some (.bool s1) ∧ w'.cell? ⟨w1.heap.size, 1, none⟩ = some (.int .i64 m1) ∧ w'.cell? ⟨w1.heap.size, 2, none⟩ = some (.int .i64 e1)) ∧ (w'.cell? ⟨w2.heap.size, 0, none⟩ = some (.bool s2) ∧ w'.cell? ⟨w2.heap.size, 1, none⟩ = some (.int .i64 m2) ∧ w'.cell? ⟨w2.heap.size, 2, none⟩ = some (.int .i64 e2)))
    (first | with_reducible assumption | with_reducible exact pd | with_reducible exact ss3 _ _ | fail)
    (first
      | (go_at_call 114; with_reducible refine (U1.out _).mono ?_; rintro r q1 ⟨a1, k1, rfl, hp1, hq1⟩; have P1 := Pd.below hq1; have Q1 := Qd.below hq1; have R1 := R.drew.below hq1; have u1 := And.intro (And.intro P1.c0 (And.intro P1.c1 P1.c2)) (And.intro Q1.c0 (And.intro Q1.c1 Q1.c2)))
      | (go_at_call 114; with_reducible refine (U2.out _).mono ?_; rintro r q2 ⟨a2, k2, rfl, hp2, hq2⟩; have P2 := P1.below hq2; have Q2 := Q1.below hq2; have R2' := R1.below hq2; have u2 := And.intro (And.intro P2.c0 (And.intro P2.c1 P2.c2)) (And.intro Q2.c0 (And.intro Q2.c1 Q2.c2)); have hp12 := hp1.below hq2)
      | (go_at_call 165; refine (CM.out a1 k1 a2 k2 _ hp12.sl hp2.sl).mono ?_; rintro r q3 ⟨a3, k3, rfl, hp3, hq3⟩; have P3 := P2.below hq3; have Q3 := Q2.below hq3; have u3 := And.intro (And.intro P3.c0 (And.intro P3.c1 P3.c2)) (And.intro Q3.c0 (And.intro Q3.c1 Q3.c2)); have ss3 := fun u v => And.intro (let P4 := (R3.other P3 (p := ⟨w.heap.size, 0, none⟩) (by simp; omega) u).other (p := ⟨w.heap.size, 1, none⟩) (by simp; omega) v; And.intro P4.c0 (And.intro P4.c1 P4.c2)) (let Q4 := (R3.other Q3 (p := ⟨w.heap.size, 0, none⟩) (by simp; omega) u).other (p := ⟨w.heap.size, 1, none⟩) (by simp; omega) v; And.intro Q4.c0 (And.intro Q4.c1 Q4.c2)); obtain ⟨r0, r1, g0, g1⟩ := R2'.below hq3))
  have z1 := hq1.size
  have z2 := hq2.size
  have z0 : w2.heap.size + 1 ≤ q1.heap.size := by simpa using z1
  go_wp2
  refine bodyPost_ret (v := .tuple #[.agg #[.bool G, .slice a3 L.length k3], .int .i64 E]) (by simp [results, Tryz.results97, go_sem, r0, r1]) rfl ⟨a3, k3, rfl, ?_, ?_⟩
  · exact Own.base ((hp3.setBelow (by simp; omega) _).setBelow (by simp; omega) _) (by omega)
  · exact (by (repeat with_reducible first | refine Below.setCell ?_ ?_ _ | exact bz0 _ _ | refine bz1 ?_ | refine bz2 ?_ _ | refine bz3 ?_ _ | refine bz4 ?_ hq3 | refine bz4 ?_ hq2 | refine bz4 ?_ hq1 | refine bz4 ?_ bel2w | refine Below.alloc ?_ ?_ _ | refine Below.trans ?_ (Below.mono hq3 ?_) | refine Below.trans ?_ (Below.mono hq2 ?_) | refine Below.trans ?_ (Below.mono hq1 ?_) | refine Below.trans ?_ (Below.mono bel2w ?_)) <;> first | omega | (simp; done) | (simp; omega))
end Go.Proofs.YtmcflggionkhlaaGreatDoor
