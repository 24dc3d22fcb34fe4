/-
  Numbers of 64 bits as wides, and back; sums of two.
-/
import Derived.Test.YtlifpkdmcpjhpaaDrawG
import Derived.Test.YtlifpkdmcpjhpaaWideI
import Derived.Test.YtlifpkdmcpjhpaaPAddB
namespace Go.Proofs.Ytlifpkdmcpjhpaa
set_option linter.unusedVariables false
set_option linter.unusedSimpArgs false
open Go.RowKit Go.Deep
namespace PSm
theorem val_two : ∀ {zs : List Int}, zs.length ≤ 2 → zs.getD 0 0 + zs.getD 1 0 * 4294967296 = Nm.val zs
  | [], _ => by simp [Nm.val]
  | [x], _ => by simp [Nm.val]
  | [x, y], _ => by simp [Nm.val]; omega
  | _ :: _ :: _ :: _, h => by simp at h
/-- A wide that is a number of 64 bits is the wide of that number. -/
theorem small_is {ng : Bool} {zs : List Int} (hd : Nm.Dg zs) (h : smWB ng zs = true) : Nm.wn (smWI ng zs) = ng ∧ Nm.wl (smWI ng zs) = zs ∧ -9223372036854775808 ≤ smWI ng zs ∧ smWI ng zs ≤ 9223372036854775807 := by
  have hk : okB ng zs = true := by cases e : okB ng zs <;> simp_all [smWB]
  have hl : zs.length ≤ 2 := Classical.byContradiction fun e => by rw [(sm_no2 (ng := ng) e).2] at h; cases h
  obtain ⟨e1, e2⟩ := sm_yes hk hl
  rw [e2, val_two hl] at h
  rw [e1, val_two hl]
  have h0 := Nm.val_nonneg hd
  have e3 : smI ng (Nm.val zs) = Nm.wv ng zs := by
    unfold smB at h; unfold smI Nm.wv
    cases ng <;> simp at h ⊢ <;> omega
  rw [e3]
  obtain ⟨q1, q2⟩ := PAdd.ok_is hd hk
  refine ⟨q1, q2, ?_, ?_⟩
  · unfold smB at h; unfold Nm.wv; cases ng <;> simp at h ⊢ <;> omega
  · unfold smB at h; unfold Nm.wv; cases ng <;> simp at h ⊢ <;> omega
/-- The wide of a number of 64 bits is that number. -/
theorem of_small {n : Int} (h0 : -9223372036854775808 ≤ n) (h1 : n ≤ 9223372036854775807) : smWI (Nm.wn n) (Nm.wl n) = n ∧ smWB (Nm.wn n) (Nm.wl n) = true := by
  have hk := PAdd.ok_out (fits_small (x := n) (by omega) (by omega))
  have hl : (Nm.wl n).length ≤ 2 := by
    unfold Nm.wl; rw [Nm.lim_length]
    have : Nm.pw 2 = 18446744073709551616 := by decide
    omega
  obtain ⟨e1, e2⟩ := sm_yes hk hl
  rw [e1, e2, val_two hl, Nm.val_wl]
  unfold smI smB Nm.wn
  by_cases h : n < 0
  · rw [decide_eq_true h]; simp; omega
  · rw [decide_eq_false h]; simp; omega
theorem sm64 (n : Int) (h0 : -9223372036854775808 ≤ n) (h1 : n ≤ 9223372036854775807) (a : Option Addr) (c : Nat) (w : World) (hs : Sl .u32 w (.slice a (Nm.wl n).length c) (Nm.wl n)) :
    Calls Try.prog 48 #[.agg #[.bool (Nm.wn n), .slice a (Nm.wl n).length c]] w fun e w' => e = .returned (.tuple #[.int .i64 n, .bool true]) ∧ Below w.heap.size w w' := by
  have := smi_any (Nm.wn n) a c (Nm.wl n) w hs (Nm.wl_dg n) (by have := wl_64 h0 h1; omega)
  rwa [(of_small h0 h1).1, (of_small h0 h1).2] at this
theorem add64 (p q : Int) (h0 : -4611686018427387904 ≤ p) (h1 : p ≤ 4611686018427387903) (k0 : -4611686018427387904 ≤ q) (k1 : q ≤ 4611686018427387903) (a b : Option Addr) (c d : Nat) (w : World) (hp : Sl .u32 w (.slice a (Nm.wl p).length c) (Nm.wl p)) (hq : Sl .u32 w (.slice b (Nm.wl q).length d) (Nm.wl q)) :
    Calls Try.prog 22 #[.agg #[.bool (Nm.wn p), .slice a (Nm.wl p).length c], .agg #[.bool (Nm.wn q), .slice b (Nm.wl q).length d]] w fun e w' => ∃ a' c', e = .returned (.tuple #[.agg #[.bool (Nm.wn (p + q)), .slice a' (Nm.wl (p + q)).length c'], .bool true]) ∧ Own w' w.heap.size a' c' (Nm.wl (p + q)) ∧ Below w.heap.size w w' := by
  have lp := wl_64 (n := p) (by omega) (by omega)
  have lq := wl_64 (n := q) (by omega) (by omega)
  have := wadd_impl (Nm.wn p) (Nm.wn q) a b c d (Nm.wl p) (Nm.wl q) w hp hq (Nm.wl_dg p) (Nm.wl_dg q) (by omega) (by omega) (p + q) (wv_sum p q)
  have hf := fits_small (x := p + q) (by omega) (by omega)
  have e : (okB (Nm.wn p) (Nm.wl p) && okB (Nm.wn q) (Nm.wl q)) = true := by
    rw [PAdd.ok_out (fits_small (x := p) (by omega) (by omega)), PAdd.ok_out (fits_small (x := q) (by omega) (by omega))]; rfl
  rw [e] at this
  obtain ⟨o1, o2⟩ := out_fits hf
  have f1 : opL true (p + q) = Nm.wl (p + q) := o1
  have f2 : opN true (p + q) = Nm.wn (p + q) := o2
  have f3 : opO true (p + q) = true := hf
  rwa [f1, f2, f3] at this
end PSm
end Go.Proofs.Ytlifpkdmcpjhpaa
