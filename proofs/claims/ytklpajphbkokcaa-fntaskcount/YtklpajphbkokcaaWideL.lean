/-
  Limbs made to wides, told by the integer that the wide is; numbers of 64 bits as wides, by the program and by the specification.
-/
import Derived.Test.YtklpajphbkokcaaWideE
import Derived.Test.YtklpajphbkokcaaNumsB
namespace Go.Proofs.Ytklpajphbkokcaa
set_option linter.unusedVariables false
set_option linter.unusedSimpArgs false
open Go.RowKit Go.Deep

theorem fit_out (ng : Bool) {zs : List Int} (hd : Nm.Dg zs) : fitL zs = Nm.outL (Nm.wv ng zs) ∧ fitN ng zs = Nm.outN (Nm.wv ng zs) ∧ fitO zs = Nm.fits (Nm.wv ng zs) := by
  have h1 := Nm.wl_wv ng hd
  have h2 := Nm.wn_wv ng hd
  unfold fitL fitN fitO Nm.outL Nm.outN Nm.fits
  rw [h1, h2]
  by_cases h : (Nm.trim zs).length ≤ 200 <;> simp [h]
/-- What is a number of 64 bits without sign fits. -/
theorem fits_small {x : Int} (h0 : -18446744073709551616 < x) (h1 : x < 18446744073709551616) : Nm.fits x = true := by
  unfold Nm.fits Nm.wl
  rw [decide_eq_true_iff, Nm.lim_length]
  have h2 : Nm.pw 2 ≤ Nm.pw 200 := Nm.pw_mono (by decide)
  have h3 : Nm.pw 2 = 18446744073709551616 := by decide
  omega
theorem out_fits {x : Int} (h : Nm.fits x = true) : Nm.outL x = Nm.wl x ∧ Nm.outN x = Nm.wn x := by
  unfold Nm.outL Nm.outN; rw [h]; simp
/-- Two limbs. -/
def two (m : Int) : List Int := [m % 4294967296, m / 4294967296]
theorem two_dg {m : Int} (h0 : 0 ≤ m) (h1 : m < 18446744073709551616) : Nm.Dg (two m) := by
  unfold two; exact Nm.Dg.cons (by omega) (Nm.Dg.cons (by omega) Nm.Dg.nil)
theorem two_wv {m : Int} (ng : Bool) (h0 : 0 ≤ m) : Nm.wv ng (two m) = if ng then -m else m := by
  unfold Nm.wv two; simp only [Nm.val]; cases ng <;> simp <;> omega
theorem own_two {w : World} {B g : Nat} (hB : B ≤ w.heap.size) (hg : g = w.heap.size) (x y : Int) : Own (w.alloc (.cells #[.int .u32 x, .int .u32 y] 156)) B (some ⟨g, 0, none⟩) 2 [x, y] := by
  subst hg
  exact ⟨by simp, .inr ⟨w.heap.size, 2, #[.int .u32 x, .int .u32 y], rfl, hB, heap_alloc_new w _, by simp, by decide, by simp, by simp⟩⟩

theorem w64_neg {n : Int} (h0 : -9223372036854775808 ≤ n) (h : n < 0) : IntKind.u64.wrap (-(IntKind.u64.wrap n)) = -n := by
  rw [IntKind.wrap_u64, IntKind.wrap_u64]; omega
theorem w64_pos {n : Int} (h0 : 0 ≤ n) (h : n ≤ 9223372036854775807) : IntKind.u64.wrap n = n := by
  rw [IntKind.wrap_u64]; omega
end Go.Proofs.Ytklpajphbkokcaa
