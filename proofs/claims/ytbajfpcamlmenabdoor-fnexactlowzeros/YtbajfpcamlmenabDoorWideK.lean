/-
  0 less a wide, by the program.
-/
import Derived.Test.YtbajfpcamlmenabDoorWideL
import Derived.Test.YtbajfpcamlmenabDoorLawsC
import Derived.Test.YtbajfpcamlmenabDoorAppendZ
import Derived.Deep.RegionWith
import Derived.Deep.DeepCutAuto
import Derived.Deep.RegionHeldLaw
import Derived.Deep.AppendLies
import Derived.Deep.DrawnRows
namespace Go.Proofs.YtbajfpcamlmenabDoor
set_option linter.unusedVariables false
set_option linter.unusedSimpArgs false
open Go.RowKit Go.Deep
/-- A right wide's limbs end in no nought. -/
theorem okB_nz {ng : Bool} {zs : List Int} (h : okB ng zs = true) : Nm.Nz zs ∧ zs.length ≤ 200 := by
  unfold okB at h
  split at h
  · rename_i h0
    have : zs = [] := List.eq_nil_of_length_eq_zero h0
    subst this; exact ⟨Nm.Nz.nil, by simp⟩
  · rename_i h0
    simp at h
    refine ⟨fun z hz => ?_, h.1⟩
    have h2 := h.2
    rw [List.getLast?_eq_getElem?] at hz
    rw [hz] at h2
    simpa using h2
theorem fit_ok {ng : Bool} {zs : List Int} (hd : Nm.Dg zs) (h : okB ng zs = true) (m : Bool) : fitL zs = zs ∧ fitN m zs = (m && !decide (zs.length = 0)) ∧ fitO zs = true := by
  obtain ⟨h1, h2⟩ := okB_nz h
  have ht := Nm.trim_eq hd h1
  unfold fitL fitN fitO
  rw [ht, if_pos h2, if_pos h2]
  exact ⟨rfl, rfl, by simpa using h2⟩
/-- 0 less a wide: its limbs and its sign. -/
def negL (ng : Bool) (zs : List Int) : List Int := if okB ng zs then Nm.wl (Nm.wv (!ng) zs) else []
def negN (ng : Bool) (zs : List Int) : Bool := if okB ng zs then Nm.wn (Nm.wv (!ng) zs) else false
theorem ok_fits {ng : Bool} {zs : List Int} (hd : Nm.Dg zs) (h : okB ng zs = true) (m : Bool) : Nm.fits (Nm.wv m zs) = true := by
  obtain ⟨h1, h2⟩ := okB_nz h
  unfold Nm.fits
  rw [Nm.wl_wv m hd, Nm.trim_eq hd h1]; simpa using h2

theorem sl_news {W : World} {b off cap : Nat} {zs : List Int} (h : Sl .u32 W (.slice (some ⟨b, off, none⟩) zs.length cap) zs) : ∀ j u, (zs.map (Value.int .u32))[j]? = some u → W.cell? ((⟨b, off, none⟩ : Addr).add j) = some u := fun j u hj => by
  have hjn : j < zs.length := by
    rcases Nat.lt_or_ge j zs.length with h | h
    · exact h
    · rw [List.getElem?_eq_none (by simpa using h)] at hj; cases hj
  obtain ⟨a, c, he, _, _, h3⟩ := h
  rcases h3 with h3 | ⟨b', off', ha, hc⟩
  · subst h3; simp at hjn
  · cases he
    cases ha
    have hju : u = .int .u32 (zs.getD j 0) := by
      rw [List.getElem?_map] at hj
      rw [List.getD_eq_getElem?_getD]
      cases hzj : zs[j]? with
      | none => rw [hzj] at hj; cases hj
      | some q => rw [hzj] at hj; simp at hj ⊢; exact hj.symm
    have e : (⟨b, off, none⟩ : Addr).add j = ⟨b, off + j, none⟩ := by unfold Addr.add; split <;> simp_all
    rw [e, hju]
    exact hc j hjn
theorem own_empty (W : World) {B : Nat} (hB : B ≤ W.heap.size) : (W.alloc (.cells #[] 33)).ownsRow B 33 1 (.slice (some ⟨W.heap.size, 0, none⟩) 0 0) 0 [] := by
  have := World.ownsRow_made (base := B) (e := 33) (size := 1) W #[] 0 (by simpa using hB) (by decide) rfl
  simpa using this
theorem emp1 (w1 : World) : (w1.alloc (.cells #[] 33)).ownsRow w1.heap.size 33 1 (.slice (some ⟨w1.heap.size, 0, none⟩) 0 0) 0 [] := own_empty w1 (Nat.le_refl _)
theorem emp2 (w1 : World) (o : Obj) : ((w1.alloc o).alloc (.cells #[] 33)).ownsRow w1.heap.size 33 1 (.slice (some ⟨w1.heap.size + 1, 0, none⟩) 0 0) 0 [] := by
  have := own_empty (w1.alloc o) (B := w1.heap.size) (by simp)
  simpa using this
theorem emp3 (w1 : World) (o : Obj) : ((w1.alloc (.cells #[] 33)).alloc o).ownsRow w1.heap.size 33 1 (.slice (some ⟨w1.heap.size, 0, none⟩) 0 0) 0 [] := (emp1 w1).alloc o
theorem grow_below {w1 W w2 : World} {row : Option Nat} (h : Below w1.heap.size w1 W) (hg : W.grownBy w2 row) (hge : ∀ k, row = some k → w1.heap.size ≤ k) : Below w1.heap.size w1 w2 := h.grown hg h.size hge
theorem keepS {w1 W : World} {B : Nat} {u v : Value} (hb : Below w1.heap.size w1 W) (hbw : B < w1.heap.size) (x10 : w1.cell? ⟨B, 0, none⟩ = some u) (x11 : w1.cell? ⟨B, 1, none⟩ = some v) : W.cell? ⟨B, 0, none⟩ = some u ∧ W.cell? ⟨B, 1, none⟩ = some v :=
  ⟨(hb.cell (p := ⟨B, 0, none⟩) hbw).trans x10, (hb.cell (p := ⟨B, 1, none⟩) hbw).trans x11⟩
theorem boxA {w1 w2 : World} {v0 v1 : Value} {t : TypeId} {o : Obj} (h : ((w1.alloc (.cells #[v0, v1] t)).alloc o).grownBy w2 (some (w1.heap.size + 1))) : R2 w2 w1.heap.size v0 v1 :=
  R2.grown ((R2.new w1 v0 v1 t).alloc o) h (by omega)
theorem boxB {w1 w2 : World} {v0 v1 : Value} {t : TypeId} {o : Obj} (h : ((w1.alloc o).alloc (.cells #[v0, v1] t)).grownBy w2 (some w1.heap.size)) : R2 w2 (w1.heap.size + 1) v0 v1 :=
  R2.grown (R2.new2 w1 o v0 v1 t) h (by omega)
attribute [local go_sem ↓] Go.wp_at_zero Go.wp_at_succ
end Go.Proofs.YtbajfpcamlmenabDoor
