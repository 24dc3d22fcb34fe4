/-
  Rows of limbs that a call makes and writes; single limbs; sums of three limbs.
-/
import Derived.Test.YtklpajphbkokcaaWideL
import Derived.Test.YtklpajphbkokcaaNumsD
namespace Go.Proofs.Ytklpajphbkokcaa
set_option linter.unusedVariables false
set_option linter.unusedSimpArgs false
open Go.RowKit Go.Deep
/-- The block b holds the limbs os, whole, and may be written. -/
def Rw (w : World) (b : Nat) (os : List Int) : Prop := w.rowIs b 156 os.length (fun i => .int .u32 (os.getD i 0))
theorem Rw.set {w : World} {b : Nat} {os : List Int} (h : Rw w b os) {k : Nat} (hk : k < os.length) (v : Int) : Rw (w.setCell ⟨b, k, none⟩ (.int .u32 v)) b (os.set k v) := by
  unfold Rw at *
  rw [List.length_set]
  refine (World.rowIs.set h k _).congr fun i _ => ?_
  rw [Nm.getD_set _ _ _ _ hk]
  by_cases e : i = k <;> simp [e]
theorem Rw.own {w : World} {b base : Nat} {os : List Int} (h : Rw w b os) (hb : base ≤ b) (hm : os.length ≤ maxLen) : Own w base (some ⟨b, 0, none⟩) os.length os := Own.of_row h (fun _ _ => rfl) hb hm
theorem Rw.cell {w : World} {b : Nat} {os : List Int} (h : Rw w b os) {k : Nat} (hk : k < os.length) : w.cell? ⟨b, k, none⟩ = some (.int .u32 (os.getD k 0)) := World.rowIs.cell h hk
theorem Rw.frozen {w : World} {b : Nat} {os : List Int} (h : Rw w b os) (k : Nat) : w.frozen? ⟨b, k, none⟩ = false := World.rowIs.frozen h k
theorem Rw.made (w : World) (n : Nat) : Rw (w.alloc (.cells (madeCells #[.int .u32 0] n) 156)) w.heap.size (List.replicate n 0) := by
  unfold Rw
  rw [List.length_replicate]
  refine (World.rowIs_made w (.int .u32 0) n 156).congr fun i _ => ?_
  rw [Nm.getD_replicate]
theorem Rw.below {w w' : World} {b : Nat} {os : List Int} (h : Rw w b os) (hb : Below w.heap.size w w') (hlt : b < w.heap.size) : Rw w' b os := by
  obtain ⟨c, h1, h2, h3⟩ := h
  exact ⟨c, by rw [hb.block b hlt]; exact h1, h2, h3⟩

end Go.Proofs.Ytklpajphbkokcaa
