/-
  One term more, a float, at every argument: by both.
-/
import Derived.Test.YtapjclcjojadaaaGreatDoorG22
import Derived.Test.YtapjclcjojadaaaGreatDoorEF
import Derived.Test.YtapjclcjojadaaaGreatDoorG18
namespace Go.Proofs.YtapjclcjojadaaaGreatDoor
set_option linter.unusedVariables false
set_option linter.unusedSimpArgs false
open Go.RowKit Go.Deep
theorem sh_sh (m : Nat) {a b : Int} (ha : 0 ≤ a) (hb : 0 ≤ b) : Nm.sh (Nm.sh m a) b = Nm.sh m (a + b) := by
  unfold Nm.sh
  rw [if_neg (by omega), if_neg (by omega), if_neg (by omega), Nat.mul_assoc, ← Nat.pow_add]
  congr 2; omega
/-- The term that a finite float is, in 2 to the 2 Q. -/
def tmV (fm x : Int) : Int := Nm.shV (Nm.wn (unI fm x)) (Nm.val (Nm.wl (unI fm x))) (-unQ fm)
theorem tm_eq {fm x : Int} (hf : finB fm x = true) : tmV fm x = Nm.shV (Nm.wn (if pS fm x then -pM fm x else pM fm x)) (Nm.val (Nm.wl (if pS fm x then -pM fm x else pM fm x))) (pE fm x - 2 * unQ fm) ∧ bitLen (tmV fm x).natAbs ≤ 4216 := by
  have h1 := pM_bd fm x
  have h3 := pE_q hf
  have hb := un_bits hf
  have hq : -1074 ≤ unQ fm ∧ unQ fm ≤ -149 := by unfold unQ; split <;> omega
  obtain ⟨m, hm⟩ : ∃ m : Nat, pM fm x = m := ⟨(pM fm x).toNat, by omega⟩
  have hu : unI fm x = if pS fm x then -((Nm.sh m (pE fm x - unQ fm) : Nat) : Int) else ((Nm.sh m (pE fm x - unQ fm) : Nat) : Int) := by
    unfold unI; rw [hf, if_pos rfl, hm, Int.toNat_natCast]
  rw [hm, Int.toNat_natCast] at hb
  unfold tmV
  rw [hu, sg_shift, hm, sg_shift, sh_sh m h3.1 (by omega)]
  refine ⟨by rw [show pE fm x - unQ fm + -unQ fm = pE fm x - 2 * unQ fm by omega], ?_⟩
  have e : (if pS fm x then -((Nm.sh m (pE fm x - unQ fm + -unQ fm) : Nat) : Int) else ((Nm.sh m (pE fm x - unQ fm + -unQ fm) : Nat) : Int)).natAbs = Nm.sh m (pE fm x - unQ fm + -unQ fm) := by cases pS fm x <;> simp
  rw [e, ← sh_sh m h3.1 (by omega)]
  obtain ⟨k, hk⟩ : ∃ k, k = Nm.sh m (pE fm x - unQ fm) := ⟨_, rfl⟩
  rw [← hk] at hb ⊢
  unfold Nm.sh
  rw [if_neg (by omega)]
  by_cases h0 : k = 0
  · subst h0; rw [Nat.zero_mul]; decide
  · rw [Nm.bl_mul h0]; omega
theorem wl_len {V : Int} (h : bitLen V.natAbs ≤ 6400) : (Nm.wl V).length ≤ 200 := by unfold Nm.wl; exact lim_len (k := 200) (by omega)
theorem add_fits {fm : Int} {ng : Bool} {zs : List Int} {T : Int} {nn bd pl mi am : Bool} (dz : Nm.Dg zs) (h : accB fm ng zs T nn bd pl mi am = true) {V : Int} (hV : bitLen V.natAbs ≤ 4216) : Nm.fits (Nm.wv ng zs + V) = true := by
  refine fits_bl ?_
  have h1 := acc_val dz h
  have e1 := wv_abs ng dz
  have t1 := (mkB_T (acc_parts h).2.1).2
  have b := sum_bl (far_bl fm t1) hV
  have hm := Nm.bl_mono (show (Nm.wv ng zs + V).natAbs ≤ far fm T + V.natAbs by omega)
  omega
theorem wsh_at (G : Bool) (p : Option Addr) (c : Nat) (L : List Int) (n : Int) (w : World) (hs : Sl .u32 w (.slice p L.length c) L) (d : Nm.Dg L) (ho : okB G L = true) (h0 : -10000 ≤ n) (h1 : n ≤ 10000) (V : Int) (hV : V = Nm.shV G (Nm.val L) n) (hf : (Nm.wl V).length ≤ 200) :
    Calls Tryz.prog 138 #[.agg #[.bool G, .slice p L.length c], .int .i64 n] w fun r w' => ∃ a' c', r = .returned (.tuple #[.agg #[.bool (Nm.wn V), .slice a' (Nm.wl V).length c'], .bool true]) ∧ Own w' w.heap.size a' c' (Nm.wl V) ∧ Below w.heap.size w w' := by
  have h := wsh_impl G p c L n w hs d (by have := (okB_nz ho).2; omega)
  have e1 : (okB G L && inZ n (-10000) 10000) = true := by rw [ho]; unfold inZ; rw [decide_eq_true h0, decide_eq_true h1]; rfl
  have e3 : Nm.fits V = true := by unfold Nm.fits; exact decide_eq_true hf
  have e4 := out_fits e3
  rw [e1, ← hV, (op_yes _).1, (op_yes _).2.1, (op_yes _).2.2, e3, e4.1, e4.2] at h
  exact h
theorem wsh_nil (n : Int) (w : World) (h0 : -10000 ≤ n) (h1 : n ≤ 10000) (p : Option Addr) (c : Nat) (hs : Sl .u32 w (.slice p ([] : List Int).length c) []) :
    Calls Tryz.prog 138 #[.agg #[.bool false, .slice p ([] : List Int).length c], .int .i64 n] w fun r w' => ∃ a' c', r = .returned (.tuple #[.agg #[.bool false, .slice a' ([] : List Int).length c'], .bool true]) ∧ Own w' w.heap.size a' c' [] ∧ Below w.heap.size w w' := by
  have e : Nm.shV false (Nm.val []) n = 0 := by
    have : Nm.val [] = ((0 : Nat) : Int) := rfl
    rw [this, Nm.shV_sh]; unfold Nm.sh; split <;> simp
  have hw : Nm.wl 0 = [] := Nm.lim_zero
  have hn : Nm.wn 0 = false := by decide
  have h := wsh_at false p c [] n w hs Nm.Dg.nil rfl h0 h1 0 e.symm (by rw [hw]; simp)
  rw [hw, hn] at h
  exact h
theorem one_odd_32 (neg inf : Bool) (ev : Value) (m1 m2 m3 m4 m5 : Bool) (w : World) (hT : Tab w) (hg : EA.ErrT w) (p : Option Addr) (c : Nat) (hs : Sl .u32 w (.slice p ([] : List Int).length c) [])
    (hm : ∀ w' : World, EA.ErrT w' → Calls Tryz.prog 139 #[.agg #[.bool neg, .bool inf, .bool false, .slice p ([] : List Int).length c, .int .i64 0], ev] w' fun r w'' => r = .returned (.agg #[.int .i64 1, .bool m1, .bool m2, .bool m3, .bool m4, .bool m5]) ∧ Below w'.heap.size w' w'') :
    Calls Tryz.prog 68 #[.int .i64 32, .agg #[.bool neg, .bool inf, .bool false, .slice p ([] : List Int).length c, .int .i64 0], ev] w fun r w' => ∃ a' c', r = .returned (.agg #[.int .i64 1, .bool m1, .bool m2, .bool m3, .bool m4, .bool m5, .int .i64 32, .bool false, .slice a' ([] : List Int).length c']) ∧ Own w' w.heap.size a' c' [] ∧ Below w.heap.size w w' :=
  one_32 neg inf false p c [] 0 ev m1 m2 m3 m4 m5 false [] w hT hg hs (by decide) (by decide) hm (fun w' h => wsh_nil (0 + 298) w' (by decide) (by decide) p c h)
theorem one_odd_64 (neg inf : Bool) (ev : Value) (m1 m2 m3 m4 m5 : Bool) (w : World) (hT : Tab w) (hg : EA.ErrT w) (p : Option Addr) (c : Nat) (hs : Sl .u32 w (.slice p ([] : List Int).length c) [])
    (hm : ∀ w' : World, EA.ErrT w' → Calls Tryz.prog 139 #[.agg #[.bool neg, .bool inf, .bool false, .slice p ([] : List Int).length c, .int .i64 0], ev] w' fun r w'' => r = .returned (.agg #[.int .i64 1, .bool m1, .bool m2, .bool m3, .bool m4, .bool m5]) ∧ Below w'.heap.size w' w'') :
    Calls Tryz.prog 68 #[.int .i64 64, .agg #[.bool neg, .bool inf, .bool false, .slice p ([] : List Int).length c, .int .i64 0], ev] w fun r w' => ∃ a' c', r = .returned (.agg #[.int .i64 1, .bool m1, .bool m2, .bool m3, .bool m4, .bool m5, .int .i64 64, .bool false, .slice a' ([] : List Int).length c']) ∧ Own w' w.heap.size a' c' [] ∧ Below w.heap.size w w' :=
  one_64 neg inf false p c [] 0 ev m1 m2 m3 m4 m5 false [] w hT hg hs (by decide) (by decide) hm (fun w' h => wsh_nil (0 + 2148) w' (by decide) (by decide) p c h)
theorem one_odd (fm : Int) (hfm : fmtB fm = true) (neg inf : Bool) (ev : Value) (m1 m2 m3 m4 m5 : Bool) (w : World) (hT : Tab w) (hg : EA.ErrT w) (p : Option Addr) (c : Nat) (hs : Sl .u32 w (.slice p ([] : List Int).length c) [])
    (hm : ∀ w' : World, EA.ErrT w' → Calls Tryz.prog 139 #[.agg #[.bool neg, .bool inf, .bool false, .slice p ([] : List Int).length c, .int .i64 0], ev] w' fun r w'' => r = .returned (.agg #[.int .i64 1, .bool m1, .bool m2, .bool m3, .bool m4, .bool m5]) ∧ Below w'.heap.size w' w'') :
    Calls Tryz.prog 68 #[.int .i64 fm, .agg #[.bool neg, .bool inf, .bool false, .slice p ([] : List Int).length c, .int .i64 0], ev] w fun r w' => ∃ a' c', r = .returned (.agg #[.int .i64 1, .bool m1, .bool m2, .bool m3, .bool m4, .bool m5, .int .i64 fm, .bool false, .slice a' ([] : List Int).length c']) ∧ Own w' w.heap.size a' c' [] ∧ Below w.heap.size w w' := by
  rcases fmt_cases hfm with rfl | rfl
  · exact one_odd_32 neg inf ev m1 m2 m3 m4 m5 w hT hg p c hs hm
  · exact one_odd_64 neg inf ev m1 m2 m3 m4 m5 w hT hg p c hs hm
end Go.Proofs.YtapjclcjojadaaaGreatDoor
