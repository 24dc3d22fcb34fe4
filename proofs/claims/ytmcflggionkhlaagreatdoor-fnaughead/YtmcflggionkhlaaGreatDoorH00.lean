/-
  What is needed of AppendZ, Base, Cmp, Nums, Mem.
-/
import Derived.Deep.AppendLies
import Derived.WalkKit
import Derived.Deep.Draws
import Derived.Test.YtmcflggionkhlaaGreatDoorRows
import Derived.WalkSpells
import Derived.WalkLawsBesides
import Derived.Deep.OwnRows
set_option maxHeartbeats 16000000
set_option maxRecDepth 1000000
namespace Go.Proofs.YtmcflggionkhlaaGreatDoor
set_option linter.unusedVariables false
set_option linter.unusedSimpArgs false
open Go.RowKit
theorem run_append_zero {P : Program} (w : World) (t ty e : TypeId) (i : TypeInfo) (ht : P.underlying t = some (.slice e)) (hi : P.info? e = some i) (g a : Option Addr) (cap : Nat) :
    (Builtin.append_ #[t, t] ty #[.slice g 0 0, .slice a 0 cap]).run P w = .ok (.slice g 0 0) w := by
  cases a <;> cases g <;> simp [Builtin.append_, run_underlying ht, sizeOf, typeInfo, hi, Builtin.lenOf, Builtin.firstCells, storeCells, go_sem, loadCellsFrom]
theorem step_append_zero {P : Program} {ops : Array Oper} {o : Oper} {a : Act} {w : World} {K : Act → World → Prop} {Q : Exit → Act → World → Prop} {E : Prop} (hgd : o.guard = none) (s x : Operand) (t : TypeId)
    (ho : o.op = .call { callee := .builtin .append, args := #[s, x], argTypes := #[t, t] })
    (e : TypeId) (i : TypeInfo) (ht : P.underlying t = some (.slice e)) (hi : P.info? e = some i) (g b : Option Addr) (cap : Nat) (hs : a.eval s = .slice g 0 0) (hx : a.eval x = .slice b 0 cap)
    (h : K (a.put o.dst (.slice g 0 0)) w) :
    if Region.wanted o (yielded ops a.tmps) = true then Oper.wp P o a w K Q else E := by
  have hw : Region.wanted o (yielded ops a.tmps) = true := by simp [Region.wanted, hgd]
  rw [if_pos hw]
  have hr := run_append_zero (P := P) w t o.type e i ht hi g b cap
  unfold Oper.wp execOp
  simp only [ho, resolve, invoke, builtin, Sem.run_bind, Sem.run_pure, Result.andThen_ok, List.map_toArray, List.map_cons, List.map_nil, hs, hx, hr]
  exact h
theorem hid {p : Prop} (h : p) : Hid p := h
theorem ret_int {k : IntKind} {a b : Int} (h : a = b) : Ending.returned (.int k a) = .returned (.int k b) := by rw [h]
theorem ret_bool {a b : Bool} (h : a = b) : Ending.returned (.bool a) = .returned (.bool b) := by rw [h]
theorem bel_go {w w1 w2 : World} (h : Below w.heap.size w w1) (hb : Below w1.heap.size w1 w2) : Below w.heap.size w w2 := h.trans (hb.mono h.size)
theorem bel_al {w w1 : World} (h : Below w.heap.size w w1) (o : Obj) : Below w.heap.size w (w1.alloc o) := h.alloc h.size o
theorem bel_dn {w w1 : World} {B : Nat} (h : Below B w w1) (n : Nat) : Below B w (w1.drewN n) := ⟨h.os, h.tape, h.output, h.size, h.block⟩
theorem bz0 (B : Nat) (w : World) : Below B w w := Below.refl B w
theorem bz1 {B : Nat} {w w1 : World} (h : Below B w w1) : Below B w w1.drew := Below.drew h
theorem bz2 {w w1 : World} {B : Nat} (h : Below B w w1) (n : Nat) : Below B w (w1.drewN n) := bel_dn h n
theorem bz3 {w w1 : World} (h : Below w.heap.size w w1) (o : Obj) : Below w.heap.size w (w1.alloc o) := bel_al h o
theorem bz4 {w w1 w2 : World} (h : Below w.heap.size w w1) (hb : Below w1.heap.size w1 w2) : Below w.heap.size w w2 := bel_go h hb
theorem bz5 {B : Nat} {w w1 : World} {p : Addr} (h : Below B w w1) (v : Value) (hp : B ≤ p.block := by first | omega | (simp; done) | (simp; omega)) : Below B w (w1.setCell p v) := h.setCell hp v
theorem bz6 {B : Nat} {w w1 : World} (h : Below B w w1) (o : Obj) (hp : B ≤ w1.heap.size := by first | omega | (simp; done) | (simp; omega)) : Below B w (w1.alloc o) := h.alloc hp o
theorem bz7 {B C : Nat} {w w1 w2 : World} (h : Below B w w1) (k : Below C w1 w2) (hp : B ≤ C := by first | omega | (simp; done) | (simp; omega)) : Below B w w2 := h.trans (k.mono hp)
/-- Less, the same, greater. -/
def cmpI (x y : Int) : Int := if x < y then -1 else if y < x then 1 else 0
theorem compare_int (x y : Int) (w : World) :
    Calls Tryz.prog 147 #[.int .i64 x, .int .i64 y] w fun e w' => e = .returned (.int .i64 (cmpI x y)) ∧ Below w.heap.size w w' := by
  have ex : (x != x) = false := by simp
  have ey : (y != y) = false := by simp
  by_cases h1 : x < y
  · have HR : Hid (cmpI x y = -1) := hid (by unfold cmpI; rw [if_pos h1])
    go_enter Tryz.func147, Tryz.ntmps147
    go_wp2
    go_ret
    exact ⟨ret_int HR.out.symm, (by repeat (first | exact bz0 _ _ | refine bz1 ?_ | refine bz2 ?_ _ | refine bz3 ?_ _ | refine bz5 ?_ _ | refine bz6 ?_ _))⟩
  by_cases h2 : y < x
  · have HR : Hid (cmpI x y = 1) := hid (by unfold cmpI; rw [if_neg h1, if_pos h2])
    go_enter Tryz.func147, Tryz.ntmps147
    go_wp2
    go_ret
    exact ⟨ret_int HR.out.symm, (by repeat (first | exact bz0 _ _ | refine bz1 ?_ | refine bz2 ?_ _ | refine bz3 ?_ _ | refine bz5 ?_ _ | refine bz6 ?_ _))⟩
  · have HR : Hid (cmpI x y = 0) := hid (by unfold cmpI; rw [if_neg h1, if_neg h2])
    go_enter Tryz.func147, Tryz.ntmps147
    go_wp2
    go_ret
    exact ⟨ret_int HR.out.symm, (by repeat (first | exact bz0 _ _ | refine bz1 ?_ | refine bz2 ?_ _ | refine bz3 ?_ _ | refine bz5 ?_ _ | refine bz6 ?_ _))⟩
theorem compare_uint32 (x y : Int) (w : World) :
    Calls Tryz.prog 148 #[.int .u32 x, .int .u32 y] w fun e w' => e = .returned (.int .i64 (cmpI x y)) ∧ Below w.heap.size w w' := by
  have ex : (x != x) = false := by simp
  have ey : (y != y) = false := by simp
  by_cases h1 : x < y
  · have HR : Hid (cmpI x y = -1) := hid (by unfold cmpI; rw [if_pos h1])
    go_enter Tryz.func148, Tryz.ntmps148
    go_wp2
    go_ret
    exact ⟨ret_int HR.out.symm, (by repeat (first | exact bz0 _ _ | refine bz1 ?_ | refine bz2 ?_ _ | refine bz3 ?_ _ | refine bz5 ?_ _ | refine bz6 ?_ _))⟩
  by_cases h2 : y < x
  · have HR : Hid (cmpI x y = 1) := hid (by unfold cmpI; rw [if_neg h1, if_pos h2])
    go_enter Tryz.func148, Tryz.ntmps148
    go_wp2
    go_ret
    exact ⟨ret_int HR.out.symm, (by repeat (first | exact bz0 _ _ | refine bz1 ?_ | refine bz2 ?_ _ | refine bz3 ?_ _ | refine bz5 ?_ _ | refine bz6 ?_ _))⟩
  · have HR : Hid (cmpI x y = 0) := hid (by unfold cmpI; rw [if_neg h1, if_neg h2])
    go_enter Tryz.func148, Tryz.ntmps148
    go_wp2
    go_ret
    exact ⟨ret_int HR.out.symm, (by repeat (first | exact bz0 _ _ | refine bz1 ?_ | refine bz2 ?_ _ | refine bz3 ?_ _ | refine bz5 ?_ _ | refine bz6 ?_ _))⟩
theorem cmpI_rng (x y : Int) : -1 ≤ cmpI x y ∧ cmpI x y ≤ 1 := by unfold cmpI; repeat' split <;> omega

end Go.Proofs.YtmcflggionkhlaaGreatDoor
namespace Go.Proofs.YtmcflggionkhlaaGreatDoor
namespace Nm
/-- What limbs are worth. -/
def val : List Int → Int
  | [] => 0
  | z :: r => z + 4294967296 * val r

/-- Each limb has at most 32 bits. -/
def Dg (l : List Int) : Prop := ∀ z ∈ l, 0 ≤ z ∧ z < 4294967296

/-- The last limb is not 0. -/
def Nz (l : List Int) : Prop := ∀ z, l.getLast? = some z → z ≠ 0

/-- 2 to the 32 n. -/
def pw : Nat → Int
  | 0 => 1
  | n + 1 => 4294967296 * pw n

theorem pw_pos (n : Nat) : 1 ≤ pw n := by
  induction n with
  | zero => decide
  | succ n ih => simp only [pw]; omega

theorem pw_mono {a b : Nat} (h : a ≤ b) : pw a ≤ pw b := by
  induction b with
  | zero => have : a = 0 := by omega
            subst this; exact Int.le_refl _
  | succ b ih =>
    by_cases e : a = b + 1
    · subst e; exact Int.le_refl _
    · have := ih (by omega); have := pw_pos b; simp only [pw]; omega

theorem pw_add (a b : Nat) : pw (a + b) = pw a * pw b := by
  induction a with
  | zero => simp [pw]
  | succ a ih => rw [show a + 1 + b = (a + b) + 1 by omega]; simp only [pw]; rw [ih, Int.mul_assoc]

theorem Dg.nil : Dg [] := fun _ h => by cases h
theorem Dg.cons {z : Int} {l : List Int} (h : 0 ≤ z ∧ z < 4294967296) (k : Dg l) : Dg (z :: l) := fun x hx => by
  rcases List.mem_cons.1 hx with rfl | hx
  · exact h
  · exact k x hx
theorem Dg.head {z : Int} {l : List Int} (h : Dg (z :: l)) : 0 ≤ z ∧ z < 4294967296 := h z (by simp)
theorem Dg.tail {z : Int} {l : List Int} (h : Dg (z :: l)) : Dg l := fun x hx => h x (by simp [hx])
theorem Dg.append {a b : List Int} (h : Dg a) (k : Dg b) : Dg (a ++ b) := fun x hx => by
  rcases List.mem_append.1 hx with hx | hx
  · exact h x hx
  · exact k x hx
theorem Dg.getD {l : List Int} (h : Dg l) (i : Nat) : 0 ≤ l.getD i 0 ∧ l.getD i 0 < 4294967296 := by
  by_cases hi : i < l.length
  · rw [List.getD_eq_getElem?_getD, List.getElem?_eq_getElem hi]; exact h _ (List.getElem_mem hi)
  · rw [List.getD_eq_getElem?_getD, List.getElem?_eq_none (by omega)]; simp
theorem Dg.take {l : List Int} (h : Dg l) (n : Nat) : Dg (l.take n) := fun x hx => h x (List.mem_of_mem_take hx)
theorem Dg.drop {l : List Int} (h : Dg l) (n : Nat) : Dg (l.drop n) := fun x hx => h x (List.mem_of_mem_drop hx)
theorem Dg.replicate (n : Nat) : Dg (List.replicate n 0) := fun x hx => by
  have := List.eq_of_mem_replicate hx; subst this; decide

theorem Nz.nil : Nz [] := fun z h => by simp at h
theorem Nz.tail {z : Int} {l : List Int} (h : Nz (z :: l)) : Nz l := by
  intro x hx
  apply h x
  cases l with
  | nil => simp at hx
  | cons y r => simpa using hx
theorem Nz.one {z : Int} (h : Nz [z]) : z ≠ 0 := h z (by simp)

theorem val_nonneg {l : List Int} (h : Dg l) : 0 ≤ val l := by
  induction l with
  | nil => simp [val]
  | cons z r ih => have := ih h.tail; have := h.head; simp only [val]; omega

theorem val_lt {l : List Int} (h : Dg l) : val l < pw l.length := by
  induction l with
  | nil => simp [val, pw]
  | cons z r ih => have := ih h.tail; have := h.head; simp only [val, List.length_cons, pw]; omega

theorem val_append (a b : List Int) : val (a ++ b) = val a + pw a.length * val b := by
  induction a with
  | nil => simp [val, pw]
  | cons z r ih =>
    simp only [List.cons_append, val, List.length_cons, pw, ih]
    rw [Int.mul_add, Int.mul_assoc]; omega

theorem val_replicate (n : Nat) : val (List.replicate n 0) = 0 := by
  induction n with
  | zero => simp [val]
  | succ n ih => simp [List.replicate_succ, val, ih]

/-- Noughts on top cut off. -/
def trim : List Int → List Int
  | [] => []
  | z :: r => if trim r = [] ∧ z = 0 then [] else z :: trim r

theorem trim_val (l : List Int) : val (trim l) = val l := by
  induction l with
  | nil => rfl
  | cons z r ih =>
    simp only [trim]
    split
    · rename_i h; obtain ⟨h, rfl⟩ := h; rw [h] at ih; simp only [val] at ih ⊢; omega
    · simp only [val]; rw [ih]

theorem trim_dg {l : List Int} (h : Dg l) : Dg (trim l) := by
  induction l with
  | nil => exact h
  | cons z r ih =>
    simp only [trim]
    split
    · exact Dg.nil
    · exact Dg.cons h.head (ih h.tail)

theorem trim_nz (l : List Int) : Nz (trim l) := by
  induction l with
  | nil => exact Nz.nil
  | cons z r ih =>
    simp only [trim]
    split
    · exact Nz.nil
    · rename_i hc
      intro x hx
      cases ht : trim r with
      | nil => rw [ht] at hx hc; simp at hx hc; subst hx; exact hc
      | cons y s => rw [ht] at hx; rw [List.getLast?_cons_cons, ← ht] at hx; exact ih x hx

/-- With a last limb that is not 0 a list of n + 1 limbs is worth 2 to the 32 n at least. -/
theorem val_ge {z : Int} {r : List Int} (h : Dg (z :: r)) (k : Nz (z :: r)) : pw r.length ≤ val (z :: r) := by
  induction r generalizing z with
  | nil => have := k.one; have := h.head; simp only [val, pw, List.length_nil]; omega
  | cons y s ih => have := ih h.tail k.tail; have := h.head; simp only [val, pw, List.length_cons] at *; omega

theorem val_pos {l : List Int} (h : Dg l) (k : Nz l) (hl : l ≠ []) : 1 ≤ val l := by
  cases l with
  | nil => exact absurd rfl hl
  | cons z r => have := val_ge h k; have := pw_pos r.length; omega

theorem val_inj {a b : List Int} (ha : Dg a) (hb : Dg b) (ka : Nz a) (kb : Nz b) (e : val a = val b) : a = b := by
  induction a generalizing b with
  | nil =>
    cases b with
    | nil => rfl
    | cons y s => have := val_pos hb kb (by simp); simp only [val] at e this; omega
  | cons z r ih =>
    cases b with
    | nil => have := val_pos ha ka (by simp); simp only [val] at e this; omega
    | cons y s =>
      have h1 := ha.head; have h2 := hb.head
      have v1 := val_nonneg ha.tail; have v2 := val_nonneg hb.tail
      simp only [val] at e
      have hz : z = y := by omega
      have hr : val r = val s := by omega
      rw [hz, ih ha.tail hb.tail ka.tail kb.tail hr]

theorem trim_eq {l : List Int} (h : Dg l) (k : Nz l) : trim l = l := val_inj (trim_dg h) h (trim_nz l) k (trim_val l)

/-- How long what is worth so much is. -/
theorem length_le_iff {l : List Int} (h : Dg l) (k : Nz l) (n : Nat) : l.length ≤ n ↔ val l < pw n := by
  constructor
  · intro hn; have := val_lt h; have := pw_mono hn; omega
  · intro hv
    cases l with
    | nil => simp
    | cons z r =>
      have h1 := val_ge h k
      by_cases hc : (z :: r).length ≤ n
      · exact hc
      · have := pw_mono (show n ≤ r.length by simp at hc; omega); omega

theorem val_zeros {l : List Int} (h : ∀ i, i < l.length → l.getD i 0 = 0) : val l = 0 := by
  induction l with
  | nil => rfl
  | cons z r ih =>
    have hz := h 0 (by simp)
    have hr := ih (fun i hi => by have := h (i + 1) (by simpa using hi); simpa using this)
    simp at hz
    simp only [val, hz, hr]; rfl

theorem trim_take {l : List Int} {n : Nat} (hd : Dg l) (hn : n ≤ l.length) (h0 : ∀ i, n ≤ i → i < l.length → l.getD i 0 = 0) (h1 : n = 0 ∨ l.getD (n - 1) 0 ≠ 0) : trim l = l.take n := by
  refine val_inj (trim_dg hd) (hd.take n) (trim_nz l) ?_ ?_
  · intro z hz
    by_cases e : n = 0
    · subst e; simp at hz
    · have h2 := h1.resolve_left e
      rw [List.getLast?_eq_getElem?] at hz
      have hlen : (l.take n).length = n := by simp; omega
      rw [hlen, List.getElem?_take_of_lt (by omega)] at hz
      rw [List.getD_eq_getElem?_getD, hz] at h2
      simpa using h2
  · rw [trim_val]
    have e : l = l.take n ++ l.drop n := (List.take_append_drop n l).symm
    have hz : val (l.drop n) = 0 := val_zeros (fun i hi => by
      have := h0 (n + i) (by omega) (by simp at hi; omega)
      rw [List.getD_eq_getElem?_getD, List.getElem?_drop, ← List.getD_eq_getElem?_getD]; exact this)
    have h2 := val_append (l.take n) (l.drop n)
    rw [← e, hz] at h2
    omega

end Nm
set_option linter.unusedVariables false
set_option linter.unusedSimpArgs false
open Go.RowKit Go.Deep
/-- The slice v reads as the integers zs of kind k. -/
def Sl (k : IntKind) (w : World) (v : Value) (zs : List Int) : Prop :=
  ∃ a cap, v = .slice a zs.length cap ∧ zs.length ≤ cap ∧ cap ≤ maxLen ∧
    (zs = [] ∨ ∃ b off, a = some ⟨b, off, none⟩ ∧ ∀ i, i < zs.length → w.cell? ⟨b, off + i, none⟩ = some (.int k (zs.getD i 0)))

theorem Sl.below {k : IntKind} {w w' : World} {v : Value} {zs : List Int} (h : Sl k w v zs) (hb : Below w.heap.size w w') : Sl k w' v zs := by
  obtain ⟨a, cap, rfl, h1, h2, h3⟩ := h
  refine ⟨a, cap, rfl, h1, h2, ?_⟩
  rcases h3 with h3 | ⟨b, off, rfl, hc⟩
  · exact .inl h3
  · refine .inr ⟨b, off, rfl, fun i hi => ?_⟩
    have := hc i hi
    rw [hb.cell (p := ⟨b, off + i, none⟩) (World.block_lt_of_cell? w _ this)]; exact this

theorem Sl.nil (k : IntKind) (w : World) : Sl k w (.slice none 0 0) [] := ⟨none, 0, rfl, Nat.le_refl _, Nat.zero_le _, .inl rfl⟩

theorem Sl.of_own {k : IntKind} {w : World} {base : Nat} {e : TypeId} {v : Value} {zs : List Int} (h : w.ownsRow base e 1 v zs.length (zs.map (Value.int k))) : Sl k w v zs := by
  obtain ⟨h1, h2⟩ := h
  rcases h2 with ⟨rfl, hn⟩ | ⟨g, cap, cur, rfl, hb, hh, hl, hm, hs, ht⟩
  · have : zs = [] := List.eq_nil_of_length_eq_zero hn
    subst this; exact Sl.nil k w
  · refine ⟨some ⟨g, 0, none⟩, cap, rfl, hl, hm, .inr ⟨g, 0, rfl, fun i hi => ?_⟩⟩
    have e1 : (cur.toList.take (zs.length * 1))[i]? = (zs.map (Value.int k))[i]? := by rw [ht]
    rw [Nat.mul_one, List.getElem?_take_of_lt hi, List.getElem?_map, List.getElem?_eq_getElem hi] at e1
    simp only [World.cell?, hh, Nat.zero_add]
    simp only [Array.getElem?_toList] at e1
    simp [e1, List.getD_eq_getElem?_getD, List.getElem?_eq_getElem hi]

theorem Sl.alloc {k : IntKind} {w : World} {v : Value} {zs : List Int} (h : Sl k w v zs) (o : Obj) : Sl k (w.alloc o) v zs := h.below ((Below.refl _ _).alloc (Nat.le_refl _) _)
theorem Sl.drew {k : IntKind} {w : World} {v : Value} {zs : List Int} (h : Sl k w v zs) : Sl k w.drew v zs := h
/-- What a reader of a slice of integers gives. -/
theorem Sl.of_cells {k : IntKind} {w : World} {x : Addr} {l c : Nat} {zs : List Int} (hl : l ≤ c) (hm : c ≤ maxLen) (hz : zs.length = c) (hcell : ∀ i, i < zs.length → w.cell? (x.add i) = some (.int k (zs.getD i 0))) :
    Sl k w (.slice (some x) l c) (zs.take l) := by
  have hlen : (zs.take l).length = l := by simp; omega
  refine ⟨some x, c, by rw [hlen], by rw [hlen]; exact hl, hm, ?_⟩
  by_cases h0 : l = 0
  · left; simp [h0]
  · right
    obtain ⟨b, off, spot⟩ := x
    have hc := hcell 0 (by omega)
    have hspot : spot = none := by simpa [Addr.add] using World.cell?_spot hc
    subst hspot
    refine ⟨b, off, rfl, fun i hi => ?_⟩
    rw [hlen] at hi
    have := hcell i (by omega)
    simp only [Addr.add] at this
    rw [List.getD_eq_getElem?_getD, List.getElem?_take_of_lt hi, ← List.getD_eq_getElem?_getD]
    by_cases e : i = 0
    · subst e; simpa using this
    · rw [if_neg e] at this; exact this

theorem Sl.cells {k : IntKind} {w : World} {a : Option Addr} {n cap : Nat} {zs : List Int} (h : Sl k w (.slice a n cap) zs) : n = zs.length ∧ zs.length ≤ cap ∧ cap ≤ maxLen ∧ (0 < zs.length → ∃ b off, a = some ⟨b, off, none⟩ ∧ ∀ i, i < zs.length → w.cell? ⟨b, off + i, none⟩ = some (.int k (zs.getD i 0))) := by
  obtain ⟨a0, cap0, he, hc1, hc2, hz⟩ := h
  simp at he; obtain ⟨rfl, rfl, rfl⟩ := he
  refine ⟨rfl, hc1, hc2, fun hp => ?_⟩
  rcases hz with rfl | hz
  · simp at hp
  · exact hz


theorem own_base {w : World} {B B' : Nat} {e : TypeId} {size : Nat} {v : Value} {n : Nat} {xs : List Value} (h : w.ownsRow B e size v n xs) (hB : B' ≤ B) : w.ownsRow B' e size v n xs := by
  obtain ⟨h1, h2⟩ := h
  refine ⟨h1, ?_⟩
  rcases h2 with h2 | ⟨g, cap, cur, e1, e2, e3⟩
  · exact .inl h2
  · exact .inr ⟨g, cap, cur, e1, Nat.le_trans hB e2, e3⟩
/-- The limbs zs lie in a block of the call's own, from B on. -/
def Own (w : World) (B : Nat) (a : Option Addr) (cap : Nat) (zs : List Int) : Prop := w.ownsRow B 89 1 (.slice a zs.length cap) zs.length (zs.map (Value.int .u32))
theorem Own.sl {w : World} {B : Nat} {a : Option Addr} {cap : Nat} {zs : List Int} (h : Own w B a cap zs) : Sl .u32 w (.slice a zs.length cap) zs := Sl.of_own h
theorem Own.block {w : World} {B : Nat} {a : Option Addr} {cap : Nat} {zs : List Int} (h : Own w B a cap zs) : (a = none ∧ cap = 0 ∧ zs = []) ∨ ∃ g, a = some ⟨g, 0, none⟩ ∧ B ≤ g ∧ g < w.heap.size := by
  rcases h.2 with ⟨h1, h2⟩ | ⟨g, cap', cur, h1, h2, h3, _⟩
  · simp at h1; exact .inl ⟨h1.1, h1.2.2, h1.2.1⟩
  · simp at h1; exact .inr ⟨g, h1.1, h2, (Array.getElem?_eq_some_iff.1 h3).1⟩
/-- It stays so while blocks that were there are let alone. -/
theorem Own.below {w w' : World} {B : Nat} {a : Option Addr} {cap : Nat} {zs : List Int} (h : Own w B a cap zs) (hb : Below w.heap.size w w') : Own w' B a cap zs := by
  refine ⟨h.1, ?_⟩
  rcases h.2 with h2 | ⟨g, cap', cur, h1, h2, h3, h4⟩
  · exact .inl h2
  · exact .inr ⟨g, cap', cur, h1, h2, by rw [hb.block g (Array.getElem?_eq_some_iff.1 h3).1]; exact h3, h4⟩
/-- .. and while another block is written. -/
theorem Own.kept {w w' : World} {B : Nat} {a : Option Addr} {cap : Nat} {zs : List Int} {row : Option Nat} (h : Own w B a cap zs) (hg : w.grownBy w' row) (hne : ∀ g, a = some ⟨g, 0, none⟩ → row ≠ some g) : Own w' B a cap zs := by
  refine World.ownsRow.kept h hg ?_
  rcases h.block with ⟨rfl, _⟩ | ⟨g, rfl, _⟩
  · exact .inl rfl
  · exact .inr (fun e => hne g rfl (by rw [← e]; rfl))

/-- The two cells of a struct of two. -/
def Box (w : World) (b : Nat) (v0 v1 : Value) : Prop := w.cell? ⟨b, 0, none⟩ = some v0 ∧ w.cell? ⟨b, 1, none⟩ = some v1
theorem Box.below {w w' : World} {b : Nat} {v0 v1 : Value} (h : Box w b v0 v1) (hb : Below w.heap.size w w') : Box w' b v0 v1 := by
  have hlt := World.block_lt_of_cell? w _ h.1
  exact ⟨(hb.cell (p := ⟨b, 0, none⟩) hlt).trans h.1, (hb.cell (p := ⟨b, 1, none⟩) hlt).trans h.2⟩
theorem Box.new (w : World) (v0 v1 : Value) (t : TypeId) : Box (w.alloc (.cells #[v0, v1] t)) w.heap.size v0 v1 := ⟨by simp, by simp⟩
theorem Box.alloc {w : World} {b : Nat} {v0 v1 : Value} (h : Box w b v0 v1) (o : Obj) : Box (w.alloc o) b v0 v1 := h.below ((Below.refl _ _).alloc (Nat.le_refl _) _)
theorem Box.new2 (w : World) (o : Obj) (v0 v1 : Value) (t : TypeId) : Box ((w.alloc o).alloc (.cells #[v0, v1] t)) (w.heap.size + 1) v0 v1 := by simpa using Box.new (w.alloc o) v0 v1 t
/-- A box of two cells that may be written. -/
structure R2 (w : World) (b : Nat) (v0 v1 : Value) : Prop where
  c0 : w.cell? ⟨b, 0, none⟩ = some v0
  c1 : w.cell? ⟨b, 1, none⟩ = some v1
  f0 : w.frozen? ⟨b, 0, none⟩ = false
  f1 : w.frozen? ⟨b, 1, none⟩ = false
theorem R2.below {w w' : World} {b : Nat} {v0 v1 : Value} (h : R2 w b v0 v1) (hb : Below w.heap.size w w') : R2 w' b v0 v1 := by
  have hlt := World.block_lt_of_cell? w _ h.c0
  exact ⟨(hb.cell (p := ⟨b, 0, none⟩) hlt).trans h.c0, (hb.cell (p := ⟨b, 1, none⟩) hlt).trans h.c1, (hb.frozen (p := ⟨b, 0, none⟩) hlt).trans h.f0, (hb.frozen (p := ⟨b, 1, none⟩) hlt).trans h.f1⟩
theorem R2.new (w : World) (v0 v1 : Value) (t : TypeId) : R2 (w.alloc (.cells #[v0, v1] t)) w.heap.size v0 v1 := ⟨by simp, by simp, by simp, by simp⟩
theorem R2.new2 (w : World) (o : Obj) (v0 v1 : Value) (t : TypeId) : R2 ((w.alloc o).alloc (.cells #[v0, v1] t)) (w.heap.size + 1) v0 v1 := ⟨by simp, by simp, by simp, by simp⟩
theorem R2.alloc {w : World} {b : Nat} {v0 v1 : Value} (h : R2 w b v0 v1) (o : Obj) : R2 (w.alloc o) b v0 v1 := h.below ((Below.refl _ _).alloc (Nat.le_refl _) _)
theorem R2.drew {w : World} {b : Nat} {v0 v1 : Value} (h : R2 w b v0 v1) : R2 w.drew b v0 v1 := ⟨h.c0, h.c1, h.f0, h.f1⟩
theorem R2.grown {w w' : World} {b : Nat} {v0 v1 : Value} {g : Nat} (h : R2 w b v0 v1) (hg : w.grownBy w' (some g)) (hne : b ≠ g) : R2 w' b v0 v1 := by
  have hlt := World.block_lt_of_cell? w _ h.c0
  have e := hg.block b hlt (by simpa using hne)
  exact ⟨(World.cell?_of_block (a := ⟨b, 0, none⟩) e).trans h.c0, (World.cell?_of_block (a := ⟨b, 1, none⟩) e).trans h.c1, (World.frozen?_of_block (a := ⟨b, 0, none⟩) e).trans h.f0, (World.frozen?_of_block (a := ⟨b, 1, none⟩) e).trans h.f1⟩
theorem Own.base {w : World} {B B' : Nat} {a : Option Addr} {cap : Nat} {zs : List Int} (h : Own w B a cap zs) (hB : B' ≤ B) : Own w B' a cap zs := own_base h hB
theorem Own.alloc {w : World} {B : Nat} {a : Option Addr} {cap : Nat} {zs : List Int} (h : Own w B a cap zs) (o : Obj) : Own (w.alloc o) B a cap zs := World.ownsRow.alloc h o
theorem Own.drew {w : World} {B : Nat} {a : Option Addr} {cap : Nat} {zs : List Int} (h : Own w B a cap zs) : Own w.drew B a cap zs := h
theorem Own.setBelow {w : World} {B : Nat} {a : Option Addr} {cap : Nat} {zs : List Int} (h : Own w B a cap zs) {p : Addr} (hp : p.block < B) (u : Value) : Own (w.setCell p u) B a cap zs := ownsRow_setCell_below h hp u
theorem Own.setOther {w : World} {B : Nat} {a : Option Addr} {cap : Nat} {zs : List Int} (h : Own w B a cap zs) {p : Addr} (hp : ∀ g, a = some ⟨g, 0, none⟩ → g ≠ p.block) (u : Value) : Own (w.setCell p u) B a cap zs := by
  refine ⟨h.1, ?_⟩
  rcases h.2 with h2 | ⟨g, cap', cur, h1, h2, h3, h4⟩
  · exact .inl h2
  · refine .inr ⟨g, cap', cur, h1, h2, ?_, h4⟩
    rw [Below.heap_setCell w p u g (hp g (by simpa using (Value.slice.inj h1).1))]; exact h3
theorem R2.other {w : World} {b : Nat} {v0 v1 : Value} (h : R2 w b v0 v1) {p : Addr} (hp : b ≠ p.block) (u : Value) : R2 (w.setCell p u) b v0 v1 := by
  have e := Below.heap_setCell w p u b hp
  exact ⟨(World.cell?_of_block (a := ⟨b, 0, none⟩) e).trans h.c0, (World.cell?_of_block (a := ⟨b, 1, none⟩) e).trans h.c1, (World.frozen?_of_block (a := ⟨b, 0, none⟩) e).trans h.f0, (World.frozen?_of_block (a := ⟨b, 1, none⟩) e).trans h.f1⟩
theorem R2.set {w : World} {b : Nat} {v0 v1 : Value} (h : R2 w b v0 v1) (a0 a1 : Value) : R2 ((w.setCell ⟨b, 0, none⟩ a0).setCell ⟨b, 1, none⟩ a1) b a0 a1 := by
  obtain ⟨h0, h1, f0, f1⟩ := h
  exact ⟨by simp [go_sem, h0, h1], by simp [go_sem, h0, h1], by simp [go_sem, f0, f1], by simp [go_sem, f0, f1]⟩
theorem Own.of_row {w : World} {base b : Nat} {zs : List Int} {f : Nat → Value} (h : w.rowIs b 89 zs.length f) (hf : ∀ i, i < zs.length → f i = .int .u32 (zs.getD i 0)) (hb : base ≤ b) (hm : zs.length ≤ maxLen) :
    Own w base (some ⟨b, 0, none⟩) zs.length zs := by
  obtain ⟨c, h1, h2, h3⟩ := h
  refine ⟨by simp, .inr ⟨b, zs.length, c, rfl, hb, h1, Nat.le_refl _, hm, by simpa using h2, ?_⟩⟩
  apply List.ext_getElem?
  intro i
  by_cases hi : i < zs.length
  · have := h3 i hi
    rw [hf i hi] at this
    simp [hi, this, List.getD_eq_getElem?_getD]
  · simp [hi]; omega

end Go.Proofs.YtmcflggionkhlaaGreatDoor
