/-
  The laws' own helpers: sizes, copies, 'right'.
-/
import Derived.Test.YtklpajphbkokcaaRows
import Derived.Test.YtklpajphbkokcaaMem
import Derived.WalkKit
import Derived.WalkSpells
import Derived.WalkLawsBesides
namespace Go.Proofs.Ytklpajphbkokcaa
set_option linter.unusedVariables false
set_option linter.unusedSimpArgs false
open Go.RowKit Go.Deep
/-- What is left of 'left' behind so many values; -1 when there are too many. -/
def szR (left : Int) (len : Nat) : Int := if left < len then -1 else left - len

theorem info32 : (Try.prog.info? 156).map (fun i => (i.zero, i.size, i.bytes)) = some (some (.int .u32 0), 1, 4) := by kernel_rfl

/-- k limbs are copied. -/
def cop (zs : List Int) (k : Nat) : Nat → Value := fun i => if i < k then .int .u32 (zs.getD i 0) else .int .u32 0

theorem cop_step {w : World} {b : Nat} {t : TypeId} {zs : List Int} {k : Nat} {u : Int} (h : w.rowIs b t zs.length (cop zs k)) (hu : u = zs.getD k 0) : (w.setCell ⟨b, k, none⟩ (.int .u32 u)).rowIs b t zs.length (cop zs (k + 1)) :=
  (h.set k _).congr fun i _ => by
    subst hu
    unfold cop
    by_cases e : i = k
    · subst e; simp
    · rw [if_neg e]
      by_cases hlt : i < k
      · rw [if_pos hlt, if_pos (by omega)]
      · rw [if_neg hlt, if_neg (by omega)]

/-- Whether a wide of these limbs is right. -/
def okB (ng : Bool) (zs : List Int) : Bool := if zs.length = 0 then !ng else decide (zs.length ≤ 200) && !decide (zs.getD (zs.length - 1) 0 = 0)

/-- Whether two lists are one. -/
def eqL (xs ys : List Int) : Bool := decide (xs = ys)
theorem eqL_no {xs ys : List Int} {k : Nat} (h : xs.getD k 0 ≠ ys.getD k 0) : eqL xs ys = false := by
  unfold eqL; rw [decide_eq_false_iff_not]; rintro rfl; exact h rfl
theorem eqL_len {xs ys : List Int} (h : xs.length ≠ ys.length) : eqL xs ys = false := by
  unfold eqL; rw [decide_eq_false_iff_not]; rintro rfl; exact h rfl
theorem eqL_yes {xs ys : List Int} (h : xs.length = ys.length) (hk : ∀ i, i < xs.length → xs.getD i 0 = ys.getD i 0) : eqL xs ys = true := by
  unfold eqL; rw [decide_eq_true_iff]
  apply List.ext_getElem h
  intro i h1 h2
  have := hk i h1
  simpa [List.getD_eq_getElem?_getD, h1, h2] using this


end Go.Proofs.Ytklpajphbkokcaa
