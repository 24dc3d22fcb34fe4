/-
  What is needed of AppendZ, Base, ModeA, Nums.
-/
import Derived.Deep.AppendLies
import Derived.WalkKit
import Derived.Deep.Draws
import Derived.Test.YtkfjmcdniohljaaGreatDoorRows
import Derived.WalkSpells
import Derived.WalkLawsBesides
set_option maxHeartbeats 16000000
set_option maxRecDepth 1000000
namespace Go.Proofs.YtkfjmcdniohljaaGreatDoor
set_option linter.unusedVariables false
set_option linter.unusedSimpArgs false
open Go.RowKit
theorem run_append_zero {P : Program} (w : World) (t ty e : TypeId) (i : TypeInfo) (ht : P.underlying t = some (.slice e)) (hi : P.info? e = some i) (g a : Option Addr) (cap : Nat) :
  (Builtin.append_ #[t, t] ty #[.slice g 0 0, .slice a 0 cap]).run P w = .ok (.slice g 0 0) w := by
 cases a <;> cases g <;> simp [Builtin.append_, run_underlying ht, sizeOf, typeInfo, hi, Builtin.lenOf, Builtin.firstCells, storeCells, go_sem, loadCellsFrom]
theorem step_append_zero {P : Program} {ops : Array Oper} {o : Oper} {a : Act} {w : World} {K : Act → World → Prop} {Q : Exit → Act → World → Prop} {E : Prop} (hgd : o.guard = none) (s x : Operand) (t : TypeId)
  (ho : o.op = .call { callee := .builtin .append, args := #[s, x], argTypes := #[t, t] })
  (e : TypeId) (i : TypeInfo) (ht : P.underlying t = some (.slice e)) (hi : P.info? e = some i) (g b : Option Addr) (cap : Nat) (hs : a.eval s = .slice g 0 0) (hx : a.eval x = .slice b 0 cap)
  (h : K (a.put o.dst (.slice g 0 0)) w) :
  if Region.wanted o (yielded ops a.tmps) = true then Oper.wp P o a w K Q else E := by
 have hw : Region.wanted o (yielded ops a.tmps) = true := by simp [Region.wanted, hgd]
 rw [if_pos hw]
 have hr := run_append_zero (P := P) w t o.type e i ht hi g b cap
 unfold Oper.wp execOp
 simp only [ho, resolve, invoke, builtin, Sem.run_bind, Sem.run_pure, Result.andThen_ok, List.map_toArray, List.map_cons, List.map_nil, hs, hx, hr]
 exact h
theorem hid {p : Prop} (h : p) : Hid p := h
theorem ret_int {k : IntKind} {a b : Int} (h : a = b) : Ending.returned (.int k a) = .returned (.int k b) := by rw [h]
theorem ret_bool {a b : Bool} (h : a = b) : Ending.returned (.bool a) = .returned (.bool b) := by rw [h]
theorem bel_go {w w1 w2 : World} (h : Below w.heap.size w w1) (hb : Below w1.heap.size w1 w2) : Below w.heap.size w w2 := h.trans (hb.mono h.size)
theorem bel_al {w w1 : World} (h : Below w.heap.size w w1) (o : Obj) : Below w.heap.size w (w1.alloc o) := h.alloc h.size o
theorem bel_dn {w w1 : World} {B : Nat} (h : Below B w w1) (n : Nat) : Below B w (w1.drewN n) := ⟨h.os, h.tape, h.output, h.size, h.block⟩
theorem bz0 (B : Nat) (w : World) : Below B w w := Below.refl B w
theorem bz1 {B : Nat} {w w1 : World} (h : Below B w w1) : Below B w w1.drew := Below.drew h
theorem bz2 {w w1 : World} {B : Nat} (h : Below B w w1) (n : Nat) : Below B w (w1.drewN n) := bel_dn h n
theorem bz3 {w w1 : World} (h : Below w.heap.size w w1) (o : Obj) : Below w.heap.size w (w1.alloc o) := bel_al h o
theorem bz4 {w w1 w2 : World} (h : Below w.heap.size w w1) (hb : Below w1.heap.size w1 w2) : Below w.heap.size w w2 := bel_go h hb
theorem bz5 {B : Nat} {w w1 : World} {p : Addr} (h : Below B w w1) (v : Value) (hp : B ≤ p.block := by first | omega | (simp; done) | (simp; omega)) : Below B w (w1.setCell p v) := h.setCell hp v
theorem bz6 {B : Nat} {w w1 : World} (h : Below B w w1) (o : Obj) (hp : B ≤ w1.heap.size := by first | omega | (simp; done) | (simp; omega)) : Below B w (w1.alloc o) := h.alloc hp o
theorem bz7 {B C : Nat} {w w1 w2 : World} (h : Below B w w1) (k : Below C w1 w2) (hp : B ≤ C := by first | omega | (simp; done) | (simp; omega)) : Below B w w2 := h.trans (k.mono hp)
def modeB (m : Int) : Bool := decide (0 ≤ m) && decide (m ≤ 5)
def inB (n lo hi : Int) : Bool := decide (lo ≤ n) && decide (n ≤ hi)
theorem in_spec (n lo hi : Int) (w : World) :
  Calls Tryz.prog 142 #[.int .i64 n, .int .i64 lo, .int .i64 hi] w fun e w' => e = .returned (.bool (inB n lo hi)) ∧ w' = w := by
 by_cases h1 : lo ≤ n
 ·by_cases h2 : n ≤ hi
  ·have HR : Hid (inB n lo hi = true) := hid (by simp [inB, h1, h2])
   go_enter Tryz.func142, Tryz.ntmps142
   go_wp2
   go_ret
   exact ⟨ret_bool HR.out.symm, rfl⟩
  ·have HR : Hid (inB n lo hi = false) := hid (by simp [inB, h1, h2])
   go_enter Tryz.func142, Tryz.ntmps142
   go_wp2
   go_ret
   exact ⟨ret_bool HR.out.symm, rfl⟩
 ·have HR : Hid (inB n lo hi = false) := hid (by simp [inB, h1])
  go_enter Tryz.func142, Tryz.ntmps142
  go_wp2
  go_ret
  exact ⟨ret_bool HR.out.symm, rfl⟩
theorem mode_spec (m : Int) (w : World) :
  Calls Tryz.prog 152 #[.int .i64 m] w fun e w' => e = .returned (.bool (modeB m)) ∧ w' = w := by
 go_enter Tryz.func152, Tryz.ntmps152
 go_wp2_with fail
 refine (in_spec m 0 5 _).mono ?_
 rintro e w1 ⟨rfl, rfl⟩
 go_wp2
 go_ret
 exact ⟨rfl, rfl⟩
theorem mode_impl (m : Int) (w : World) :
  Calls Tryz.prog 145 #[.int .i64 m] w fun e w' => e = .returned (.bool (modeB m)) ∧ w' = w := by
 by_cases h1 : 0 ≤ m
 ·by_cases h2 : m ≤ 5
  ·have HR : Hid (modeB m = true) := hid (by simp [modeB, h1, h2])
   go_enter Tryz.func145, Tryz.ntmps145
   go_wp2
   go_ret
   exact ⟨ret_bool HR.out.symm, rfl⟩
  ·have HR : Hid (modeB m = false) := hid (by simp [modeB, h1, h2])
   go_enter Tryz.func145, Tryz.ntmps145
   go_wp2
   go_ret
   exact ⟨ret_bool HR.out.symm, rfl⟩
 ·have HR : Hid (modeB m = false) := hid (by simp [modeB, h1])
  go_enter Tryz.func145, Tryz.ntmps145
  go_wp2
  go_ret
  exact ⟨ret_bool HR.out.symm, rfl⟩
end Go.Proofs.YtkfjmcdniohljaaGreatDoor
namespace Go.Proofs.YtkfjmcdniohljaaGreatDoor
namespace Nm
def val : List Int → Int
 | [] => 0
 | z :: r => z + 4294967296 * val r

def Dg (l : List Int) : Prop := ∀ z ∈ l, 0 ≤ z ∧ z < 4294967296

def Nz (l : List Int) : Prop := ∀ z, l.getLast? = some z → z ≠ 0

def pw : Nat → Int
 | 0 => 1
 | n + 1 => 4294967296 * pw n

theorem pw_pos (n : Nat) : 1 ≤ pw n := by
 induction n with
 | zero => decide
 | succ n ih => simp only [pw]; omega

theorem pw_mono {a b : Nat} (h : a ≤ b) : pw a ≤ pw b := by
 induction b with
 | zero => (have : a = 0 := by omega); subst this; exact Int.le_refl _
 | succ b ih =>
  by_cases e : a = b + 1
  ·subst e; exact Int.le_refl _
  ·have := ih (by omega); have := pw_pos b; simp only [pw]; omega

theorem pw_add (a b : Nat) : pw (a + b) = pw a * pw b := by
 induction a with
 | zero => simp [pw]
 | succ a ih => rw [show a + 1 + b = (a + b) + 1 by omega]; simp only [pw]; rw [ih, Int.mul_assoc]

theorem Dg.nil : Dg [] := fun _ h => by cases h
theorem Dg.cons {z : Int} {l : List Int} (h : 0 ≤ z ∧ z < 4294967296) (k : Dg l) : Dg (z :: l) := fun x hx => by
 rcases List.mem_cons.1 hx with rfl | hx
 ·exact h
 ·exact k x hx
theorem Dg.head {z : Int} {l : List Int} (h : Dg (z :: l)) : 0 ≤ z ∧ z < 4294967296 := h z (by simp)
theorem Dg.tail {z : Int} {l : List Int} (h : Dg (z :: l)) : Dg l := fun x hx => h x (by simp [hx])
theorem Dg.append {a b : List Int} (h : Dg a) (k : Dg b) : Dg (a ++ b) := fun x hx => by
 rcases List.mem_append.1 hx with hx | hx
 ·exact h x hx
 ·exact k x hx
theorem Dg.getD {l : List Int} (h : Dg l) (i : Nat) : 0 ≤ l.getD i 0 ∧ l.getD i 0 < 4294967296 := by
 by_cases hi : i < l.length
 ·rw [List.getD_eq_getElem?_getD, List.getElem?_eq_getElem hi]; exact h _ (List.getElem_mem hi)
 ·rw [List.getD_eq_getElem?_getD, List.getElem?_eq_none (by omega)]; simp
theorem Dg.take {l : List Int} (h : Dg l) (n : Nat) : Dg (l.take n) := fun x hx => h x (List.mem_of_mem_take hx)
theorem Dg.drop {l : List Int} (h : Dg l) (n : Nat) : Dg (l.drop n) := fun x hx => h x (List.mem_of_mem_drop hx)
theorem Dg.replicate (n : Nat) : Dg (List.replicate n 0) := fun x hx => by
 have := List.eq_of_mem_replicate hx; subst this; decide

theorem Nz.nil : Nz [] := fun z h => by simp at h
theorem Nz.tail {z : Int} {l : List Int} (h : Nz (z :: l)) : Nz l := by
 intro x hx
 apply h x
 cases l with
 | nil => simp at hx
 | cons y r => simpa using hx
theorem Nz.one {z : Int} (h : Nz [z]) : z ≠ 0 := h z (by simp)

theorem val_nonneg {l : List Int} (h : Dg l) : 0 ≤ val l := by
 induction l with
 | nil => simp [val]
 | cons z r ih => have := ih h.tail; have := h.head; simp only [val]; omega

theorem val_lt {l : List Int} (h : Dg l) : val l < pw l.length := by
 induction l with
 | nil => simp [val, pw]
 | cons z r ih => have := ih h.tail; have := h.head; simp only [val, List.length_cons, pw]; omega

theorem val_append (a b : List Int) : val (a ++ b) = val a + pw a.length * val b := by
 induction a with
 | nil => simp [val, pw]
 | cons z r ih =>
  simp only [List.cons_append, val, List.length_cons, pw, ih]
  rw [Int.mul_add, Int.mul_assoc]; omega

theorem val_replicate (n : Nat) : val (List.replicate n 0) = 0 := by
 induction n with
 | zero => simp [val]
 | succ n ih => simp [List.replicate_succ, val, ih]

def trim : List Int → List Int
 | [] => []
 | z :: r => if trim r = [] ∧ z = 0 then [] else z :: trim r

theorem trim_val (l : List Int) : val (trim l) = val l := by
 induction l with
 | nil => rfl
 | cons z r ih =>
  simp only [trim]
  split
  ·rename_i h; obtain ⟨h, rfl⟩ := h; rw [h] at ih; simp only [val] at ih ⊢; omega
  ·simp only [val]; rw [ih]

theorem trim_dg {l : List Int} (h : Dg l) : Dg (trim l) := by
 induction l with
 | nil => exact h
 | cons z r ih =>
  simp only [trim]
  split
  ·exact Dg.nil
  ·exact Dg.cons h.head (ih h.tail)

theorem trim_nz (l : List Int) : Nz (trim l) := by
 induction l with
 | nil => exact Nz.nil
 | cons z r ih =>
  simp only [trim]
  split
  ·exact Nz.nil
  ·rename_i hc
   intro x hx
   cases ht : trim r with
   | nil => rw [ht] at hx hc; simp at hx hc; subst hx; exact hc
   | cons y s => rw [ht] at hx; rw [List.getLast?_cons_cons, ← ht] at hx; exact ih x hx

theorem trim_length (l : List Int) : (trim l).length ≤ l.length := by
 induction l with
 | nil => simp [trim]
 | cons z r ih => simp only [trim]; split <;> simp <;> omega

theorem val_ge {z : Int} {r : List Int} (h : Dg (z :: r)) (k : Nz (z :: r)) : pw r.length ≤ val (z :: r) := by
 induction r generalizing z with
 | nil => have := k.one; have := h.head; simp only [val, pw, List.length_nil]; omega
 | cons y s ih => have := ih h.tail k.tail; have := h.head; simp only [val, pw, List.length_cons] at *; omega

theorem val_pos {l : List Int} (h : Dg l) (k : Nz l) (hl : l ≠ []) : 1 ≤ val l := by
 cases l with
 | nil => exact absurd rfl hl
 | cons z r => have := val_ge h k; have := pw_pos r.length; omega

theorem val_inj {a b : List Int} (ha : Dg a) (hb : Dg b) (ka : Nz a) (kb : Nz b) (e : val a = val b) : a = b := by
 induction a generalizing b with
 | nil =>
  cases b with
  | nil => rfl
  | cons y s => have := val_pos hb kb (by simp); simp only [val] at e this; omega
 | cons z r ih =>
  cases b with
  | nil => have := val_pos ha ka (by simp); simp only [val] at e this; omega
  | cons y s =>
   have h1 := ha.head; have h2 := hb.head
   have v1 := val_nonneg ha.tail; have v2 := val_nonneg hb.tail
   simp only [val] at e
   have hz : z = y := by omega
   have hr : val r = val s := by omega
   rw [hz, ih ha.tail hb.tail ka.tail kb.tail hr]

theorem trim_eq {l : List Int} (h : Dg l) (k : Nz l) : trim l = l := val_inj (trim_dg h) h (trim_nz l) k (trim_val l)

theorem length_le_iff {l : List Int} (h : Dg l) (k : Nz l) (n : Nat) : l.length ≤ n ↔ val l < pw n := by
 constructor
 ·intro hn; have := val_lt h; have := pw_mono hn; omega
 ·intro hv
  cases l with
  | nil => simp
  | cons z r =>
   have h1 := val_ge h k
   by_cases hc : (z :: r).length ≤ n
   ·exact hc
   ·have := pw_mono (show n ≤ r.length by simp at hc; omega); omega

theorem val_zeros {l : List Int} (h : ∀ i, i < l.length → l.getD i 0 = 0) : val l = 0 := by
 induction l with
 | nil => rfl
 | cons z r ih =>
  have hz := h 0 (by simp)
  have hr := ih (fun i hi => by have := h (i + 1) (by simpa using hi); simpa using this)
  simp at hz
  simp only [val, hz, hr]; rfl

theorem trim_take {l : List Int} {n : Nat} (hd : Dg l) (hn : n ≤ l.length) (h0 : ∀ i, n ≤ i → i < l.length → l.getD i 0 = 0) (h1 : n = 0 ∨ l.getD (n - 1) 0 ≠ 0) : trim l = l.take n := by
 refine val_inj (trim_dg hd) (hd.take n) (trim_nz l) ?_ ?_
 ·intro z hz
  by_cases e : n = 0
  ·subst e; simp at hz
  ·have h2 := h1.resolve_left e
   rw [List.getLast?_eq_getElem?] at hz
   have hlen : (l.take n).length = n := by simp; omega
   rw [hlen, List.getElem?_take_of_lt (by omega)] at hz
   rw [List.getD_eq_getElem?_getD, hz] at h2
   simpa using h2
 ·rw [trim_val]
  have e : l = l.take n ++ l.drop n := (List.take_append_drop n l).symm
  have hz : val (l.drop n) = 0 := val_zeros (fun i hi => by
   have := h0 (n + i) (by omega) (by simp at hi; omega)
   rw [List.getD_eq_getElem?_getD, List.getElem?_drop, ← List.getD_eq_getElem?_getD]; exact this)
  have h2 := val_append (l.take n) (l.drop n)
  rw [← e, hz] at h2
  omega

end Nm
end Go.Proofs.YtkfjmcdniohljaaGreatDoor
