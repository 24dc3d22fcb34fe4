/-
  Accumulators merged: by the specification.
-/
import Derived.Test.YtapjclcjojadaaaGreatDoorAccN
namespace Go.Proofs.YtapjclcjojadaaaGreatDoor
set_option linter.unusedVariables false
set_option linter.unusedSimpArgs false
open Go.RowKit Go.Deep
theorem amW_eq {T Tq : Int} {nn bd pl mi am nnq bdq plq miq amq : Bool} (h : mkB T nn bd pl mi am = true) (h' : mkB Tq nnq bdq plq miq amq = true) :
    ((am || decide (T = 0)) && (amq || decide (Tq = 0)) && decide (T + Tq > 0)) = amW T am Tq amq := by
  obtain ⟨t0, -⟩ := mkB_T h
  obtain ⟨q0, -⟩ := mkB_T h'
  have e1 := (mk_am h).2.2
  have e2 := (mk_am h').2.2
  unfold amW
  by_cases a1 : T = 0
  · obtain rfl := (e1 a1).2.2.2.2
    by_cases a2 : Tq = 0
    · obtain rfl := (e2 a2).2.2.2.2
      rw [decide_eq_true a1, decide_eq_true a2, decide_eq_false (by omega)]; rfl
    · rw [decide_eq_true a1, decide_eq_false a2, decide_eq_true (by omega)]; cases amq <;> rfl
  · by_cases a2 : Tq = 0
    · obtain rfl := (e2 a2).2.2.2.2
      rw [decide_eq_false a1, decide_eq_true a2, decide_eq_true (by omega)]; cases am <;> rfl
    · rw [decide_eq_false a1, decide_eq_false a2, decide_eq_true (by omega)]; cases am <;> cases amq <;> rfl
theorem Q9.set4 {w : World} {b : Nat} {v0 v1 v2 v3 v4 v5 v6 v7 v8 : Value} (h : Q9 w b v0 v1 v2 v3 v4 v5 v6 v7 v8) (u : Value) : Q9 (w.setCell ⟨b, 4, none⟩ u) b v0 v1 v2 v3 u v5 v6 v7 v8 := by
  obtain ⟨c0, c1, c2, c3, c4, c5, c6, c7, c8, f0, f1, f2, f3, f4, f5, f6, f7, f8⟩ := h
  exact ⟨by simp [go_sem, c0, c4], by simp [go_sem, c1, c4], by simp [go_sem, c2, c4], by simp [go_sem, c3, c4], by simp [go_sem, c4, c4], by simp [go_sem, c5, c4], by simp [go_sem, c6, c4], by simp [go_sem, c7, c4], by simp [go_sem, c8, c4], by simp [go_sem, f0], by simp [go_sem, f1], by simp [go_sem, f2], by simp [go_sem, f3], by simp [go_sem, f4], by simp [go_sem, f5], by simp [go_sem, f6], by simp [go_sem, f7], by simp [go_sem, f8]⟩
theorem Q9.set5 {w : World} {b : Nat} {v0 v1 v2 v3 v4 v5 v6 v7 v8 : Value} (h : Q9 w b v0 v1 v2 v3 v4 v5 v6 v7 v8) (u : Value) : Q9 (w.setCell ⟨b, 5, none⟩ u) b v0 v1 v2 v3 v4 u v6 v7 v8 := by
  obtain ⟨c0, c1, c2, c3, c4, c5, c6, c7, c8, f0, f1, f2, f3, f4, f5, f6, f7, f8⟩ := h
  exact ⟨by simp [go_sem, c0, c5], by simp [go_sem, c1, c5], by simp [go_sem, c2, c5], by simp [go_sem, c3, c5], by simp [go_sem, c4, c5], by simp [go_sem, c5, c5], by simp [go_sem, c6, c5], by simp [go_sem, c7, c5], by simp [go_sem, c8, c5], by simp [go_sem, f0], by simp [go_sem, f1], by simp [go_sem, f2], by simp [go_sem, f3], by simp [go_sem, f4], by simp [go_sem, f5], by simp [go_sem, f6], by simp [go_sem, f7], by simp [go_sem, f8]⟩
theorem Q9.set6 {w : World} {b : Nat} {v0 v1 v2 v3 v4 v5 v6 v7 v8 : Value} (h : Q9 w b v0 v1 v2 v3 v4 v5 v6 v7 v8) (u : Value) : Q9 (w.setCell ⟨b, 6, none⟩ u) b v0 v1 v2 v3 v4 v5 u v7 v8 := by
  obtain ⟨c0, c1, c2, c3, c4, c5, c6, c7, c8, f0, f1, f2, f3, f4, f5, f6, f7, f8⟩ := h
  exact ⟨by simp [go_sem, c0, c6], by simp [go_sem, c1, c6], by simp [go_sem, c2, c6], by simp [go_sem, c3, c6], by simp [go_sem, c4, c6], by simp [go_sem, c5, c6], by simp [go_sem, c6, c6], by simp [go_sem, c7, c6], by simp [go_sem, c8, c6], by simp [go_sem, f0], by simp [go_sem, f1], by simp [go_sem, f2], by simp [go_sem, f3], by simp [go_sem, f4], by simp [go_sem, f5], by simp [go_sem, f6], by simp [go_sem, f7], by simp [go_sem, f8]⟩
theorem Q9.set7 {w : World} {b : Nat} {v0 v1 v2 v3 v4 v5 v6 v7 v8 : Value} (h : Q9 w b v0 v1 v2 v3 v4 v5 v6 v7 v8) (u : Value) : Q9 (w.setCell ⟨b, 7, none⟩ u) b v0 v1 v2 v3 v4 v5 v6 u v8 := by
  obtain ⟨c0, c1, c2, c3, c4, c5, c6, c7, c8, f0, f1, f2, f3, f4, f5, f6, f7, f8⟩ := h
  exact ⟨by simp [go_sem, c0, c7], by simp [go_sem, c1, c7], by simp [go_sem, c2, c7], by simp [go_sem, c3, c7], by simp [go_sem, c4, c7], by simp [go_sem, c5, c7], by simp [go_sem, c6, c7], by simp [go_sem, c7, c7], by simp [go_sem, c8, c7], by simp [go_sem, f0], by simp [go_sem, f1], by simp [go_sem, f2], by simp [go_sem, f3], by simp [go_sem, f4], by simp [go_sem, f5], by simp [go_sem, f6], by simp [go_sem, f7], by simp [go_sem, f8]⟩
theorem Q9.set8 {w : World} {b : Nat} {v0 v1 v2 v3 v4 v5 v6 v7 v8 : Value} (h : Q9 w b v0 v1 v2 v3 v4 v5 v6 v7 v8) (u : Value) : Q9 (w.setCell ⟨b, 8, none⟩ u) b v0 v1 v2 v3 v4 v5 v6 v7 u := by
  obtain ⟨c0, c1, c2, c3, c4, c5, c6, c7, c8, f0, f1, f2, f3, f4, f5, f6, f7, f8⟩ := h
  exact ⟨by simp [go_sem, c0, c8], by simp [go_sem, c1, c8], by simp [go_sem, c2, c8], by simp [go_sem, c3, c8], by simp [go_sem, c4, c8], by simp [go_sem, c5, c8], by simp [go_sem, c6, c8], by simp [go_sem, c7, c8], by simp [go_sem, c8, c8], by simp [go_sem, f0], by simp [go_sem, f1], by simp [go_sem, f2], by simp [go_sem, f3], by simp [go_sem, f4], by simp [go_sem, f5], by simp [go_sem, f6], by simp [go_sem, f7], by simp [go_sem, f8]⟩
theorem Q9.set9 {w : World} {b : Nat} {v0 v1 v2 v3 v4 v5 v6 v7 v8 : Value} (h : Q9 w b v0 v1 v2 v3 v4 v5 v6 v7 v8) (u0 u1 u2 u3 u4 u5 u6 u7 u8 : Value) : Q9 (((((((((w.setCell ⟨b, 0, none⟩ u0).setCell ⟨b, 1, none⟩ u1).setCell ⟨b, 2, none⟩ u2).setCell ⟨b, 3, none⟩ u3).setCell ⟨b, 4, none⟩ u4).setCell ⟨b, 5, none⟩ u5).setCell ⟨b, 6, none⟩ u6).setCell ⟨b, 7, none⟩ u7).setCell ⟨b, 8, none⟩ u8) b u0 u1 u2 u3 u4 u5 u6 u7 u8 := by
  obtain ⟨c0, c1, c2, c3, c4, c5, c6, c7, c8, f0, f1, f2, f3, f4, f5, f6, f7, f8⟩ := h
  exact ⟨by simp [go_sem, c0, c1, c2, c3, c4, c5, c6, c7, c8], by simp [go_sem, c0, c1, c2, c3, c4, c5, c6, c7, c8], by simp [go_sem, c0, c1, c2, c3, c4, c5, c6, c7, c8], by simp [go_sem, c0, c1, c2, c3, c4, c5, c6, c7, c8], by simp [go_sem, c0, c1, c2, c3, c4, c5, c6, c7, c8], by simp [go_sem, c0, c1, c2, c3, c4, c5, c6, c7, c8], by simp [go_sem, c0, c1, c2, c3, c4, c5, c6, c7, c8], by simp [go_sem, c0, c1, c2, c3, c4, c5, c6, c7, c8], by simp [go_sem, c0, c1, c2, c3, c4, c5, c6, c7, c8], by simp [go_sem, f0], by simp [go_sem, f1], by simp [go_sem, f2], by simp [go_sem, f3], by simp [go_sem, f4], by simp [go_sem, f5], by simp [go_sem, f6], by simp [go_sem, f7], by simp [go_sem, f8]⟩
/-- What is known while the answer's flags are laid: the two arguments, the answer's own box, the box o that is laid, its limbs elsewhere. -/
structure MS (w wx : World) (o : Nat) (a1 : Option Addr) (k1 : Nat) (L : List Int) : Prop where
  own : Own wx w.heap.size a1 k1 L
  apart : ∀ g, a1 = some ⟨g, 0, none⟩ → g ≠ o ∧ g ≠ w.heap.size + 1 + 1
  bel : Below w.heap.size w wx
  lo : w.heap.size + 1 + 1 < o
theorem MS.set {w wx : World} {o : Nat} {a1 : Option Addr} {k1 : Nat} {L : List Int} (h : MS w wx o a1 k1 L) (i : Nat) (u : Value) : MS w (wx.setCell ⟨o, i, none⟩ u) o a1 k1 L :=
  ⟨h.own.setOther (fun g e => (h.apart g e).1) u, h.apart, h.bel.setCell (by have := h.lo; simp; omega) u, h.lo⟩
theorem MS.drew {w wx : World} {o : Nat} {a1 : Option Addr} {k1 : Nat} {L : List Int} (h : MS w wx o a1 k1 L) : MS w wx.drew o a1 k1 L := ⟨h.own.drew, h.apart, Below.drew h.bel, h.lo⟩
end Go.Proofs.YtapjclcjojadaaaGreatDoor
