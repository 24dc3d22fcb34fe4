/-
  What is needed of RH, RI, RK, NA.
-/
import Derived.Test.YtkfjmcdniohljaaGreatDoorC03
import Derived.Test.YtkfjmcdniohljaaGreatDoorC29
set_option maxHeartbeats 16000000
set_option maxRecDepth 1000000
namespace Go.Proofs.YtkfjmcdniohljaaGreatDoor
set_option linter.unusedVariables false
set_option linter.unusedSimpArgs false
open Go.RowKit Go.Deep
theorem l1uint_v (m : Int) (ng : Bool) (w : World) (h0 : 0 ≤ m) (h1 : m < 18446744073709551616) (x : Int) (hx : x = if ng then -m else m) :
    Calls Tryz.prog 79 #[.int .u64 m, .bool ng] w fun e w' => ∃ a' c', e = .returned (.agg #[.bool (Nm.wn x), .slice a' (Nm.wl x).length c']) ∧ Own w' w.heap.size a' c' (Nm.wl x) ∧ Below w.heap.size w w' := by
  have HV : Hid (x = Nm.wv ng (two m)) := hid (by rw [two_wv ng h0]; exact hx)
  have HD := hid (two_dg h0 h1)
  clear hx
  go_enter Tryz.func79, Tryz.ntmps79
  go_wp2_with fail
  refine (made_v ng _ 2 (two m) _ (by refine Own.sl (own_two (B := 0) ?_ ?_ _ _) <;> simp) HD.out (by simp [two]) x HV.out).mono ?_
  rintro e w1 ⟨a', c', rfl, ho, hb⟩
  have r := (R2.new w (.bool false) (.slice none 0 0) 32).alloc (.cells #[.int .u32 (m % 4294967296), .int .u32 (m / 4294967296)] 128)
  obtain ⟨rc0, rc1, rf0, rf1⟩ := r.below hb
  have ho : Own w1 (w.heap.size + 1 + 1) a' c' (Nm.wl x) := by simpa using ho
  go_wp2
  refine bodyPost_ret (v := .agg #[.bool (Nm.wn x), .slice a' (Nm.wl x).length c']) (by simp [results, Tryz.results79, go_sem, rc0, rc1]) rfl ⟨a', c', rfl, ?_, (by repeat (first | exact bz0 _ _ | refine bz1 ?_ | refine bz2 ?_ _ | refine bz3 ?_ _ | refine bz4 ?_ hb | refine bz5 ?_ _ | refine bz6 ?_ _ | refine bz7 ?_ hb))⟩
  exact Own.base ((ho.setBelow (by simp; omega) _).setBelow (by simp; omega) _) (by omega)
theorem sparts_any (fm x : Int) (w : World) (hf : finB fm x = true) (h0 : 0 ≤ x) (h1 : x < 18446744073709551616) :
    Calls Tryz.prog 77 #[.int .i64 fm, .int .u64 x] w fun e w' => e = .returned (.agg #[.bool (pS fm x), .int .i64 (pM fm x), .int .i64 (pE fm x)]) ∧ Below w.heap.size w w' := by
  have ho : okF fm x = true := by
    cases ho : okF fm x
    · rw [fin_no ho] at hf; cases hf
    · rfl
  rcases okF_cases ho with ⟨rfl, hx⟩ | rfl
  · refine (spec_l2Parts32 x w h0 hx).mono ?_
    rintro e w1 ⟨rfl, hb1⟩
    exact ⟨ret_p3 (by unfold pS; rw [hf]; rfl) (by unfold pM; rw [hf]; rfl) (by unfold pE; rw [hf]; rfl), hb1⟩
  · refine (spec_l2Parts64 x w h0 h1).mono ?_
    rintro e w1 ⟨rfl, hb1⟩
    exact ⟨ret_p3 (by unfold pS; rw [hf]; rfl) (by unfold pM; rw [hf]; rfl) (by unfold pE; rw [hf]; rfl), hb1⟩
/-- The bounds of a finite float's parts. -/
theorem par_bd {L y : Int} (h0 : 0 ≤ y) (hL : 0 < L) : 0 ≤ parM L y ∧ parM L y < 2 * L := by
  have h1 := Int.emod_nonneg y (show L ≠ 0 by omega)
  have h2 := Int.emod_lt_of_pos y hL
  unfold parM; split <;> omega
theorem pM_bd (fm x : Int) : 0 ≤ pM fm x ∧ pM fm x < 9007199254740992 := by
  unfold pM
  split
  · split
    · have := par_bd (L := 8388608) (y := x % 2147483648) (by omega) (by decide); omega
    · have := par_bd (L := 4503599627370496) (y := x % 9223372036854775808) (by omega) (by decide); omega
  · omega
theorem pE_bd (fm x : Int) : -1074 ≤ pE fm x ∧ pE fm x ≤ 2000 := by
  unfold pE parE
  split
  · split
    · split <;> omega
    · split <;> omega
  · omega
theorem pM_pos {fm x : Int} (h : cls fm x = 1 ∨ cls fm x = 2) : finB fm x = true ∧ 0 < pM fm x := by
  have hf : finB fm x = true := by unfold finB; exact decide_eq_true (by omega)
  have ho : okF fm x = true := by
    cases ho : okF fm x
    · rw [fin_no ho] at hf; cases hf
    · rfl
  refine ⟨hf, ?_⟩
  unfold pM
  rw [hf, if_pos rfl]
  rcases okF_cases ho with ⟨rfl, hx⟩ | rfl
  · rw [cls32 hx] at h
    rw [if_pos rfl]
    unfold clsY at h; unfold parM
    split at h
    · omega
    · split <;> omega
  · rw [cls64] at h
    rw [if_neg (by decide)]
    unfold clsY at h; unfold parM
    split at h
    · omega
    · split <;> omega
/-- Units of a finite float, as a number; 0 for others. -/
def unQ (fm : Int) : Int := if fm = 32 then -149 else -1074
theorem pE_q {fm x : Int} (h : finB fm x = true) : 0 ≤ pE fm x - unQ fm ∧ pE fm x - unQ fm ≤ 2100 := by
  have ho : okF fm x = true := by
    cases ho : okF fm x
    · rw [fin_no ho] at h; cases h
    · rfl
  have hlt := fin_lt ho
  rw [h] at hlt
  have hlt' := of_decide_eq_true hlt.symm
  unfold pE unQ
  rw [h, if_pos rfl]
  rcases okF_cases ho with ⟨rfl, hx⟩ | rfl
  · rw [if_pos rfl, if_pos rfl]
    rw [abs32 hx] at hlt'
    unfold infOf at hlt'; rw [if_pos rfl] at hlt'
    unfold parE; split <;> omega
  · rw [if_neg (by decide), if_neg (by decide)]
    rw [abs64] at hlt'
    unfold infOf at hlt'; rw [if_neg (by decide)] at hlt'
    unfold parE; split <;> omega
/-- A wide with a sign, shifted up. -/
theorem shV_sg (ng : Bool) (m : Nat) (n : Int) : Nm.shV ng (m : Int) n = if ng then -((Nm.sh m n : Nat) : Int) else ((Nm.sh m n : Nat) : Int) := by
  unfold Nm.shV; rw [Nm.shM_sh]
theorem okB_wl {x : Int} (h : (Nm.wl x).length ≤ 200) : okB (Nm.wn x) (Nm.wl x) = true := by
  by_cases h0 : x = 0
  · subst h0
    have e1 : Nm.wl 0 = [] := Nm.lim_zero
    have e2 : Nm.wn 0 = false := by decide
    rw [e1, e2]; rfl
  · have hb : bitLen x.natAbs ≤ 6400 := len_bl (k := 200) h
    exact ok_lim (by omega) hb _
theorem l1uint_z (m : Int) (ng : Bool) (w : World) (h0 : 0 ≤ m) (h1 : m < 18446744073709551616) :
    Calls Tryz.prog 79 #[.int .u64 m, .bool ng] w fun e w' => ∃ a' c', e = .returned (.agg #[.bool (Nm.wn (if ng then -m else m)), .slice a' (Nm.wl (if ng then -m else m)).length c']) ∧ Own w' w.heap.size a' c' (Nm.wl (if ng then -m else m)) ∧ Below w.heap.size w w' :=
  l1uint_v m ng w h0 h1 _ rfl
theorem signedM_z (ng : Bool) (m : Int) (E : Int) (w : World) (h0 : 0 ≤ m) (h1 : m < 9223372036854775808) :
    Calls Tryz.prog 103 #[.agg #[.bool ng, .int .i64 m, .int .i64 E]] w fun e w' => ∃ a' c', e = .returned (.agg #[.bool (Nm.wn (if ng then -m else m)), .slice a' (Nm.wl (if ng then -m else m)).length c']) ∧ Own w' w.heap.size a' c' (Nm.wl (if ng then -m else m)) ∧ Below w.heap.size w w' := by
  have CN := hid (fun w' => wof_impl (-m) w' (by omega) (by omega))
  have CP := hid (fun w' => wof_impl m w' (by omega) (by omega))
  cases ng with
  | true =>
    have e : (if true = true then -m else m) = -m := rfl
    rw [e]
    obtain ⟨G, hG⟩ : ∃ G, G = Nm.wn (-m) := ⟨_, rfl⟩
    obtain ⟨L, hL⟩ : ∃ L, L = Nm.wl (-m) := ⟨_, rfl⟩
    rw [← hG, ← hL] at CN ⊢
    clear hG hL e CP
    go_enter Tryz.func103, Tryz.ntmps103
    go_wp2_with fail
    refine (CN.out _).mono ?_
    rintro e w1 ⟨a', c', rfl, ho, hb⟩
    obtain ⟨r0, r1, f0, f1⟩ := (R2.new2 w (.cells #[.bool true, .int .i64 m, .int .i64 E] 89) (.bool false) (.slice none 0 0) 32).below hb
    have ho : Own w1 (w.heap.size + 1 + 1) a' c' L := by simpa using ho
    go_wp2
    refine bodyPost_ret (v := .agg #[.bool G, .slice a' L.length c']) (by simp [results, Tryz.results103, go_sem, r0, r1]) rfl ⟨a', c', rfl, ?_, (by repeat (first | exact bz0 _ _ | refine bz1 ?_ | refine bz2 ?_ _ | refine bz3 ?_ _ | refine bz4 ?_ hb | refine bz5 ?_ _ | refine bz6 ?_ _ | refine bz7 ?_ hb))⟩
    exact Own.base ((ho.setBelow (by simp) _).setBelow (by simp) _) (by omega)
  | false =>
    have e : (if false = true then -m else m) = m := rfl
    rw [e]
    obtain ⟨G, hG⟩ : ∃ G, G = Nm.wn m := ⟨_, rfl⟩
    obtain ⟨L, hL⟩ : ∃ L, L = Nm.wl m := ⟨_, rfl⟩
    rw [← hG, ← hL] at CP ⊢
    clear hG hL e CN
    go_enter Tryz.func103, Tryz.ntmps103
    go_wp2_with fail
    refine (CP.out _).mono ?_
    rintro e w1 ⟨a', c', rfl, ho, hb⟩
    obtain ⟨r0, r1, f0, f1⟩ := (R2.new2 w (.cells #[.bool false, .int .i64 m, .int .i64 E] 89) (.bool false) (.slice none 0 0) 32).below hb
    have ho : Own w1 (w.heap.size + 1 + 1) a' c' L := by simpa using ho
    go_wp2
    refine bodyPost_ret (v := .agg #[.bool G, .slice a' L.length c']) (by simp [results, Tryz.results103, go_sem, r0, r1]) rfl ⟨a', c', rfl, ?_, (by repeat (first | exact bz0 _ _ | refine bz1 ?_ | refine bz2 ?_ _ | refine bz3 ?_ _ | refine bz4 ?_ hb | refine bz5 ?_ _ | refine bz6 ?_ _ | refine bz7 ?_ hb))⟩
    exact Own.base ((ho.setBelow (by simp) _).setBelow (by simp) _) (by omega)
theorem sQ_any (fm : Int) (w : World) (h : fmtB fm = true) :
    Calls Tryz.prog 133 #[.int .i64 fm] w fun e w' => e = .returned (.int .i64 (unQ fm)) ∧ w' = w := by
  rcases fmt_cases h with rfl | rfl
  · exact sQ_32 w
  · exact sQ_64 w
/-- A box of five cells that may be written. -/
structure Q5 (w : World) (b : Nat) (v0 v1 v2 v3 v4 : Value) : Prop where
  c0 : w.cell? ⟨b, 0, none⟩ = some v0
  c1 : w.cell? ⟨b, 1, none⟩ = some v1
  c2 : w.cell? ⟨b, 2, none⟩ = some v2
  c3 : w.cell? ⟨b, 3, none⟩ = some v3
  c4 : w.cell? ⟨b, 4, none⟩ = some v4
  f0 : w.frozen? ⟨b, 0, none⟩ = false
  f1 : w.frozen? ⟨b, 1, none⟩ = false
  f2 : w.frozen? ⟨b, 2, none⟩ = false
  f3 : w.frozen? ⟨b, 3, none⟩ = false
  f4 : w.frozen? ⟨b, 4, none⟩ = false
theorem Q5.lt {w : World} {b : Nat} {v0 v1 v2 v3 v4 : Value} (h : Q5 w b v0 v1 v2 v3 v4) : b < w.heap.size := World.block_lt_of_cell? w _ h.c0
theorem Q5.of_block {w w' : World} {b : Nat} {v0 v1 v2 v3 v4 : Value} (h : Q5 w b v0 v1 v2 v3 v4) (e : w'.heap[b]? = w.heap[b]?) : Q5 w' b v0 v1 v2 v3 v4 :=
  ⟨(World.cell?_of_block (a := ⟨b, 0, none⟩) e).trans h.c0, (World.cell?_of_block (a := ⟨b, 1, none⟩) e).trans h.c1, (World.cell?_of_block (a := ⟨b, 2, none⟩) e).trans h.c2, (World.cell?_of_block (a := ⟨b, 3, none⟩) e).trans h.c3, (World.cell?_of_block (a := ⟨b, 4, none⟩) e).trans h.c4, (World.frozen?_of_block (a := ⟨b, 0, none⟩) e).trans h.f0, (World.frozen?_of_block (a := ⟨b, 1, none⟩) e).trans h.f1, (World.frozen?_of_block (a := ⟨b, 2, none⟩) e).trans h.f2, (World.frozen?_of_block (a := ⟨b, 3, none⟩) e).trans h.f3, (World.frozen?_of_block (a := ⟨b, 4, none⟩) e).trans h.f4⟩
theorem Q5.below {w w' : World} {b : Nat} {v0 v1 v2 v3 v4 : Value} (h : Q5 w b v0 v1 v2 v3 v4) (hb : Below w.heap.size w w') : Q5 w' b v0 v1 v2 v3 v4 := h.of_block (hb.block b h.lt)
theorem Q5.new (w : World) (v0 v1 v2 v3 v4 : Value) (t : TypeId) : Q5 (w.alloc (.cells #[v0, v1, v2, v3, v4] t)) w.heap.size v0 v1 v2 v3 v4 := ⟨by simp, by simp, by simp, by simp, by simp, by simp, by simp, by simp, by simp, by simp⟩
theorem Q5.alloc {w : World} {b : Nat} {v0 v1 v2 v3 v4 : Value} (h : Q5 w b v0 v1 v2 v3 v4) (o : Obj) : Q5 (w.alloc o) b v0 v1 v2 v3 v4 := h.below ((Below.refl _ _).alloc (Nat.le_refl _) _)
theorem Q5.drew {w : World} {b : Nat} {v0 v1 v2 v3 v4 : Value} (h : Q5 w b v0 v1 v2 v3 v4) : Q5 w.drew b v0 v1 v2 v3 v4 := ⟨h.c0, h.c1, h.c2, h.c3, h.c4, h.f0, h.f1, h.f2, h.f3, h.f4⟩
theorem Q5.cs {w : World} {b : Nat} {v0 v1 v2 v3 v4 : Value} (h : Q5 w b v0 v1 v2 v3 v4) : w.cell? ⟨b, 0, none⟩ = some v0 ∧ w.cell? ⟨b, 1, none⟩ = some v1 ∧ w.cell? ⟨b, 2, none⟩ = some v2 ∧ w.cell? ⟨b, 3, none⟩ = some v3 ∧ w.cell? ⟨b, 4, none⟩ = some v4 := ⟨h.c0, h.c1, h.c2, h.c3, h.c4⟩
theorem heap5 (w : World) (B b : Nat) (h : b ≠ B) (u0 u1 u2 u3 u4 : Value) :
    (((((w.setCell ⟨B, 0, none⟩ u0).setCell ⟨B, 1, none⟩ u1).setCell ⟨B, 2, none⟩ u2).setCell ⟨B, 3, none⟩ u3).setCell ⟨B, 4, none⟩ u4).heap[b]? = w.heap[b]? := by
  rw [Below.heap_setCell _ _ _ _ h, Below.heap_setCell _ _ _ _ h, Below.heap_setCell _ _ _ _ h, Below.heap_setCell _ _ _ _ h, Below.heap_setCell _ _ _ _ h]
theorem keep5 {w : World} {B b : Nat} {v0 v1 v2 : Value} (h0 : w.cell? ⟨b, 0, none⟩ = some v0) (h1 : w.cell? ⟨b, 1, none⟩ = some v1) (h2 : w.cell? ⟨b, 2, none⟩ = some v2) (n : b ≠ B) (u0 u1 u2 u3 u4 : Value) (W : World)
    (hW : W = ((((w.setCell ⟨B, 0, none⟩ u0).setCell ⟨B, 1, none⟩ u1).setCell ⟨B, 2, none⟩ u2).setCell ⟨B, 3, none⟩ u3).setCell ⟨B, 4, none⟩ u4) :
    W.cell? ⟨b, 0, none⟩ = some v0 ∧ W.cell? ⟨b, 1, none⟩ = some v1 ∧ W.cell? ⟨b, 2, none⟩ = some v2 := by
  subst hW
  have e := heap5 w B b n u0 u1 u2 u3 u4
  exact ⟨(World.cell?_of_block (a := ⟨b, 0, none⟩) e).trans h0, (World.cell?_of_block (a := ⟨b, 1, none⟩) e).trans h1, (World.cell?_of_block (a := ⟨b, 2, none⟩) e).trans h2⟩
/-- The program's error for a quiet NaN lies in its cell. -/
abbrev ErrQ (w : World) (u : Value) : Prop := w.cell? ⟨0, 0, none⟩ = some (.iface 246 u)
theorem num_quiet (fm x : Int) (u : Value) (w : World) (hT : Tab w) (hq : ErrQ w u) (h0 : 0 ≤ x) (h1 : x < 18446744073709551616) (hc : cls fm x = 4) :
    Calls Tryz.prog 90 #[.int .i64 fm, .int .u64 x] w fun e w' => e = .returned (.tuple #[.agg #[.bool false, .bool false, .bool false, .slice none 0 0, .int .i64 0], .iface 179 (.agg #[.iface 246 u])]) ∧ Below w.heap.size w w' := by
  have C := hid (fun w' h => impl_cls fm x w' h h0 h1)
  rw [hc] at C
  clear hc
  have Q := Q5.new w (.bool false) (.bool false) (.bool false) (.slice none 0 0) (.int .i64 0) 98
  go_enter Tryz.func90, Tryz.ntmps90
  go_wp2_with fail
  refine (C.out _ (hT.below ((Below.refl _ _).alloc (Nat.le_refl _) _))).mono ?_
  rintro e w1 ⟨rfl, hb1⟩
  have hlt := World.block_lt_of_cell? w _ hq
  have hq1 : w1.cell? ⟨0, 0, none⟩ = some (.iface 246 u) := (hb1.cell (p := ⟨0, 0, none⟩) (by first | omega | (simp; done) | (simp; omega))).trans ((Below.cell ((Below.refl w.heap.size w).alloc (Nat.le_refl _) _) (p := ⟨0, 0, none⟩) hlt).trans hq)
  obtain ⟨r0, r1, r2, r3, r4, f0, f1, f2, f3, f4⟩ := Q.below hb1
  have hne : w.heap.size ≠ 0 := by (have h9 : (0 : Nat) < w.heap.size := hlt); omega
  clear Q hq
  go_wp2_with fail
  go_region
  all_goals go_wp2
  all_goals refine bodyPost_ret (v := .tuple #[.agg #[.bool false, .bool false, .bool false, .slice none 0 0, .int .i64 0], .iface 179 (.agg #[.iface 246 u])]) (by simp [results, Tryz.results90, go_sem, r0, r1, r2, r3, r4]) rfl ⟨rfl, ?_⟩
  all_goals exact (by (repeat with_reducible first | refine Below.setCell ?_ ?_ _ | exact bz0 _ _ | refine bz1 ?_ | refine bz2 ?_ _ | refine bz3 ?_ _ | refine bz4 ?_ hb1 | refine Below.alloc ?_ ?_ _ | refine Below.trans ?_ (Below.mono hb1 ?_)) <;> first | omega | (simp; done) | (simp; omega))
theorem num_signal (fm x : Int) (w : World) (hT : Tab w) (h0 : 0 ≤ x) (h1 : x < 18446744073709551616) (hc : cls fm x = 5) :
    Calls Tryz.prog 90 #[.int .i64 fm, .int .u64 x] w fun e w' => ∃ s : ByteArray, e = .returned (.tuple #[.agg #[.bool false, .bool false, .bool false, .slice none 0 0, .int .i64 0], .iface 179 (.agg #[.iface 181 (.agg #[.string s])])]) ∧ Below w.heap.size w w' := by
  have C := hid (fun w' h => impl_cls fm x w' h h0 h1)
  rw [hc] at C
  clear hc
  have Q := Q5.new w (.bool false) (.bool false) (.bool false) (.slice none 0 0) (.int .i64 0) 98
  go_enter Tryz.func90, Tryz.ntmps90
  go_wp2_with fail
  refine (C.out _ (hT.below ((Below.refl _ _).alloc (Nat.le_refl _) _))).mono ?_
  rintro e w1 ⟨rfl, hb1⟩
  obtain ⟨r0, r1, r2, r3, r4, f0, f1, f2, f3, f4⟩ := Q.below hb1
  clear Q
  go_wp2
  refine bodyPost_ret (by simp [results, Tryz.results90, go_sem, r0, r1, r2, r3, r4]; rfl) rfl ⟨_, rfl, ?_⟩
  exact (by (repeat with_reducible first | refine Below.setCell ?_ ?_ _ | exact bz0 _ _ | refine bz1 ?_ | refine bz2 ?_ _ | refine bz3 ?_ _ | refine bz4 ?_ hb1 | refine Below.alloc ?_ ?_ _ | refine Below.trans ?_ (Below.mono hb1 ?_)) <;> first | omega | (simp; done) | (simp; omega))
theorem num_inf (fm x : Int) (w : World) (hT : Tab w) (h0 : 0 ≤ x) (h1 : x < 18446744073709551616) (hc : cls fm x = 3) :
    Calls Tryz.prog 90 #[.int .i64 fm, .int .u64 x] w fun e w' => e = .returned (.tuple #[.agg #[.bool (sigB fm x), .bool true, .bool false, .slice none 0 0, .int .i64 0], .nilIface]) ∧ Below w.heap.size w w' := by
  have C := hid (fun w' h => impl_cls fm x w' h h0 h1)
  rw [hc] at C
  clear hc
  have CS := hid (fun w' h => impl_sig fm x w' h h0 h1)
  obtain ⟨sg, hsg⟩ : ∃ sg, sg = sigB fm x := ⟨_, rfl⟩
  rw [← hsg] at CS ⊢
  clear hsg
  have Q := Q5.new w (.bool false) (.bool false) (.bool false) (.slice none 0 0) (.int .i64 0) 98
  go_enter Tryz.func90, Tryz.ntmps90
  go_wp2_with fail
  have hT1 : Tab (w.alloc (.cells #[.bool false, .bool false, .bool false, .slice none 0 0, .int .i64 0] 98)) := hT.below ((Below.refl _ _).alloc (Nat.le_refl _) _)
  refine (C.out _ hT1).mono ?_
  rintro e w1 ⟨rfl, hb1⟩
  go_wp2_with fail
  refine (CS.out _ (hT1.below hb1)).mono ?_
  rintro e w2 ⟨rfl, hb2⟩
  obtain ⟨r0, r1, r2, r3, r4, f0, f1, f2, f3, f4⟩ := (Q.below hb1).below hb2
  clear Q
  go_wp2
  refine bodyPost_ret (v := .tuple #[.agg #[.bool sg, .bool true, .bool false, .slice none 0 0, .int .i64 0], .nilIface]) (by simp [results, Tryz.results90, go_sem, r0, r1, r2, r3, r4]) rfl ⟨rfl, ?_⟩
  exact (by (repeat with_reducible first | refine Below.setCell ?_ ?_ _ | exact bz0 _ _ | refine bz1 ?_ | refine bz2 ?_ _ | refine bz3 ?_ _ | refine bz4 ?_ hb2 | refine bz4 ?_ hb1 | refine Below.alloc ?_ ?_ _ | refine Below.trans ?_ (Below.mono hb2 ?_) | refine Below.trans ?_ (Below.mono hb1 ?_)) <;> first | omega | (simp; done) | (simp; omega))
theorem num_fin (fm x : Int) (w : World) (hT : Tab w) (h0 : 0 ≤ x) (h1 : x < 18446744073709551616) (hf : finB fm x = true) (G : Bool) (L : List Int) (E : Int) (hG : G = Nm.wn (if pS fm x then -pM fm x else pM fm x)) (hL : L = Nm.wl (if pS fm x then -pM fm x else pM fm x)) (hE : E = pE fm x) :
    Calls Tryz.prog 90 #[.int .i64 fm, .int .u64 x] w fun e w' => ∃ a' c', e = .returned (.tuple #[.agg #[.bool (pS fm x), .bool false, .bool G, .slice a' L.length c', .int .i64 E], .nilIface]) ∧ Own w' w.heap.size a' c' L ∧ Below w.heap.size w w' := by
  have hc : 0 ≤ cls fm x ∧ cls fm x ≤ 2 := by simpa [finB] using hf
  have C := hid (fun w' h => impl_cls fm x w' h h0 h1)
  have CP := hid (fun w' h => impl_parts fm x w' h h0 h1)
  have CG := hid (fun w' => signedM_z (pS fm x) (pM fm x) (pE fm x) w' (pM_bd fm x).1 (by have := (pM_bd fm x).2; omega))
  rw [← hG, ← hL] at CG
  rw [hf] at CP
  rw [← hE] at CP CG
  obtain ⟨sg, hsg⟩ : ∃ sg, sg = pS fm x := ⟨_, rfl⟩
  obtain ⟨m, hm⟩ : ∃ m, m = pM fm x := ⟨_, rfl⟩
  obtain ⟨c, hcc⟩ : ∃ c, c = cls fm x := ⟨_, rfl⟩
  rw [← hsg, ← hm] at CP CG
  rw [← hsg]
  rw [← hcc] at C hc
  clear hsg hm hcc hG hL hE hf
  have g3 : (c == 3) = false := by rw [beq_eq_false_iff_ne]; omega
  have g4 : (c == 4) = false := by rw [beq_eq_false_iff_ne]; omega
  have g5 : (c == 5) = false := by rw [beq_eq_false_iff_ne]; omega
  clear hc
  have Q := Q5.new w (.bool false) (.bool false) (.bool false) (.slice none 0 0) (.int .i64 0) 98
  go_enter Tryz.func90, Tryz.ntmps90
  go_wp2_with fail
  have hT1 : Tab (w.alloc (.cells #[.bool false, .bool false, .bool false, .slice none 0 0, .int .i64 0] 98)) := hT.below ((Below.refl _ _).alloc (Nat.le_refl _) _)
  refine (C.out _ hT1).mono ?_
  rintro e w1 ⟨rfl, hb1⟩
  go_wp2_with fail
  refine (CP.out _ (hT1.below hb1)).mono ?_
  rintro e w2 ⟨rfl, hb2⟩
  replace Q := ((Q.below hb1).below hb2).alloc (.cells #[.bool sg, .int .i64 m, .int .i64 E] 89)
  have bel2 : Below w.heap.size w w2 := (by repeat (first | exact bz0 _ _ | refine bz1 ?_ | refine bz2 ?_ _ | refine bz3 ?_ _ | refine bz4 ?_ hb2 | refine bz4 ?_ hb1 | refine bz5 ?_ _ | refine bz6 ?_ _ | refine bz7 ?_ hb2 | refine bz7 ?_ hb1))
  have R := R3.new w2 (.bool sg) (.int .i64 m) (.int .i64 E) 89
  have lw : w.heap.size < w2.heap.size := by have := hb1.size; have := hb2.size; simp at *; omega
  clear hb1 hb2 hT1
  have Rd := R3.dr R
  have rd0 := Rd.c0
  have rd1 := Rd.c1
  have rd2 := Rd.c2
  go_wp2_with fail
  go_region_held3 (fun w' => w'.cell? ⟨w2.heap.size, 0, none⟩ = some (.bool sg) ∧ w'.cell? ⟨w2.heap.size, 1, none⟩ = some (.int .i64 m) ∧ w'.cell? ⟨w2.heap.size, 2, none⟩ = some (.int .i64 E))
    (first | with_reducible assumption | with_reducible exact ⟨rd0, rd1, rd2⟩ | with_reducible exact keep5 k0 k1 k2 (by omega) _ _ _ _ _ _ rfl | fail)
    (first
      | (go_at_call 103; refine (CG.out _).mono ?_; rintro e q1 ⟨a1, k1', rfl, hp1, hq1⟩; have R1 := R3.below Rd hq1; have k0 := R1.c0; have k1 := R1.c1; have k2 := R1.c2; have f1 := And.intro k0 (And.intro k1 k2); obtain ⟨r0, r1, r2, r3, r4, g0, g1, g2, g3', g4'⟩ := Q.drew.below hq1))
  have hp2 : Own q1 (w2.heap.size + 1) a1 k1' L := by simpa using hp1
  go_wp2
  refine bodyPost_ret (v := .tuple #[.agg #[.bool sg, .bool false, .bool G, .slice a1 L.length k1', .int .i64 E], .nilIface]) (by simp [results, Tryz.results90, go_sem, r0, r1, r2, r3, r4]) rfl ⟨a1, k1', rfl, ?_, ?_⟩
  · refine Own.base (B := w2.heap.size + 1) ?_ (by omega)
    repeat (first | with_reducible exact hp2 | (with_reducible refine Own.setBelow ?_ ?_ _; rotate_left; (simp; try omega)))
  · exact (by (repeat with_reducible first | refine Below.setCell ?_ ?_ _ | exact bz0 _ _ | refine bz1 ?_ | refine bz2 ?_ _ | refine bz3 ?_ _ | refine bz4 ?_ hq1 | refine bz4 ?_ bel2 | refine Below.alloc ?_ ?_ _ | refine Below.trans ?_ (Below.mono hq1 ?_) | refine Below.trans ?_ (Below.mono bel2 ?_)) <;> first | omega | (simp; done) | (simp; omega))
end Go.Proofs.YtkfjmcdniohljaaGreatDoor
