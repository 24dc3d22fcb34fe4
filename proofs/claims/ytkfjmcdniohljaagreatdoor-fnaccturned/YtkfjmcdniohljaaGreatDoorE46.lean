/-
  What is needed of FloatO, VecA, RK, NA.
-/
import Derived.Test.YtkfjmcdniohljaaGreatDoorE24
import Derived.Test.YtkfjmcdniohljaaGreatDoorE30
import Derived.Test.YtkfjmcdniohljaaGreatDoorE37
set_option maxHeartbeats 16000000
set_option maxRecDepth 1000000
namespace Go.Proofs.YtkfjmcdniohljaaGreatDoor
set_option linter.unusedVariables false
set_option linter.unusedSimpArgs false
open Go.RowKit
theorem impl_partsNo (fm x : Int) (w : World) (hT : Tab w) (hf : finB fm x = false) (h0 : 0 ≤ x) (h1 : x < 18446744073709551616) :
    Calls Tryz.prog 101 #[.int .i64 fm, .int .u64 x] w fun e w' => e = .returned (.tuple #[.agg #[.bool false, .int .i64 0, .int .i64 0], .bool false]) ∧ Below w.heap.size w w' := by
  go_enter Tryz.func101, Tryz.ntmps101
  go_wp2_with fail
  refine (impl_fin fm x _ (hT.below ((Below.refl _ _).alloc (Nat.le_refl _) _)) h0 h1).mono ?_
  rintro e w1 ⟨rfl, hb1⟩
  have c0 : w1.cell? ⟨w.heap.size, 0, none⟩ = some (.bool false) := (hb1.cell (p := ⟨w.heap.size, 0, none⟩) (by simp)).trans (by simp)
  have c1 : w1.cell? ⟨w.heap.size, 1, none⟩ = some (.int .i64 0) := (hb1.cell (p := ⟨w.heap.size, 1, none⟩) (by simp)).trans (by simp)
  have c2 : w1.cell? ⟨w.heap.size, 2, none⟩ = some (.int .i64 0) := (hb1.cell (p := ⟨w.heap.size, 2, none⟩) (by simp)).trans (by simp)
  have f0 : w1.frozen? ⟨w.heap.size, 0, none⟩ = false := (hb1.frozen (p := ⟨w.heap.size, 0, none⟩) (by simp)).trans (by simp)
  have f1 : w1.frozen? ⟨w.heap.size, 1, none⟩ = false := (hb1.frozen (p := ⟨w.heap.size, 1, none⟩) (by simp)).trans (by simp)
  have f2 : w1.frozen? ⟨w.heap.size, 2, none⟩ = false := (hb1.frozen (p := ⟨w.heap.size, 2, none⟩) (by simp)).trans (by simp)
  go_wp2
  exact bodyPost_ret (v := .tuple #[.agg #[.bool false, .int .i64 0, .int .i64 0], .bool false]) (by simp [results, Tryz.results101, go_sem, c0, c1, c2]) rfl ⟨rfl, (by repeat (first | exact bz0 _ _ | refine bz1 ?_ | refine bz2 ?_ _ | refine bz3 ?_ _ | refine bz4 ?_ hb1 | refine bz5 ?_ _ | refine bz6 ?_ _ | refine bz7 ?_ hb1))⟩
theorem impl_parts (fm x : Int) (w : World) (hT : Tab w) (h0 : 0 ≤ x) (h1 : x < 18446744073709551616) :
    Calls Tryz.prog 101 #[.int .i64 fm, .int .u64 x] w fun e w' => e = .returned (.tuple #[.agg #[.bool (pS fm x), .int .i64 (pM fm x), .int .i64 (pE fm x)], .bool (finB fm x)]) ∧ Below w.heap.size w w' := by
  cases hf : finB fm x
  · refine (impl_partsNo fm x w hT hf h0 h1).mono ?_
    rintro e w1 ⟨rfl, hb1⟩
    exact ⟨ret_p4 (by unfold pS; rw [hf]; rfl) (by unfold pM; rw [hf]; rfl) (by unfold pE; rw [hf]; rfl) rfl, hb1⟩
  have ho : okF fm x = true := by
    cases ho : okF fm x
    · rw [fin_no ho] at hf; cases hf
    · rfl
  have hlt := fin_lt ho
  rw [hf] at hlt
  have hlt' := of_decide_eq_true hlt.symm
  rcases okF_cases ho with ⟨rfl, hx⟩ | rfl
  · rw [abs32 hx] at hlt'
    refine (impl_parts32 x w hT hf h0 hx hlt').mono ?_
    rintro e w1 ⟨rfl, hb1⟩
    exact ⟨ret_p4 (by unfold pS; rw [hf]; rfl) (by unfold pM; rw [hf]; rfl) (by unfold pE; rw [hf]; rfl) rfl, hb1⟩
  · rw [abs64] at hlt'
    refine (impl_parts64 x w hT hf h0 h1 hlt').mono ?_
    rintro e w1 ⟨rfl, hb1⟩
    exact ⟨ret_p4 (by unfold pS; rw [hf]; rfl) (by unfold pM; rw [hf]; rfl) (by unfold pE; rw [hf]; rfl) rfl, hb1⟩
end Go.Proofs.YtkfjmcdniohljaaGreatDoor
namespace Go.Proofs.YtkfjmcdniohljaaGreatDoor
set_option linter.unusedVariables false
set_option linter.unusedSimpArgs false
open Go.RowKit Go.Deep
/-- Whether all are floats of the format. -/
def allB (fm : Int) (xs : List Int) : Bool := xs.all (fun x => okF fm x)
theorem allB_yes {fm : Int} {xs : List Int} (h : ∀ j, j < xs.length → okF fm (xs.getD j 0) = true) : allB fm xs = true := by
  unfold allB
  rw [List.all_eq_true]
  intro x hx
  obtain ⟨j, hj, rfl⟩ := List.getElem_of_mem hx
  have := h j hj
  rwa [List.getD_eq_getElem?_getD, List.getElem?_eq_getElem hj] at this
theorem allB_no {fm : Int} {xs : List Int} {j : Nat} (hj : j < xs.length) (h : okF fm (xs.getD j 0) = false) : allB fm xs = false := by
  cases h' : allB fm xs
  · rfl
  · unfold allB at h'
    rw [List.all_eq_true] at h'
    have := h' _ (List.getElem_mem hj)
    rw [List.getD_eq_getElem?_getD, List.getElem?_eq_getElem hj] at h
    simp at h this
    rw [h] at this; exact absurd this (by decide)
theorem allf_impl (fm : Int) (a : Option Addr) (cap : Nat) (xs : List Int) (w : World) (hT : Tab w) (hx : Sl .u64 w (.slice a xs.length cap) xs) (dx : D64 xs) (hl : xs.length ≤ 1048576) :
    Calls Tryz.prog 181 #[.int .i64 fm, .slice a xs.length cap] w fun e w' => e = .returned (.bool (allB fm xs)) ∧ Below w.heap.size w w' := by
  obtain ⟨-, hx1, hx2, hx3⟩ := hx.cells
  have CO := hid (fun k w' h => impl_ok fm (xs.getD k 0) w' h (dx.getD k).1 (dx.getD k).2)
  have DX := hid dx
  clear dx
  go_enter Tryz.func181, Tryz.ntmps181
  go_wp2
  go_loopw [9] (fun i wr => ∃ k : Nat, k ≤ xs.length ∧ i = .int .i64 k ∧ (∀ j, j < k → okF fm (xs.getD j 0) = true) ∧ Below w.heap.size w wr) (fun i _ => xs.length - (intOf i).toNat)
  case atStart => exact ⟨0, Nat.zero_le _, rfl, fun j hj => absurd hj (Nat.not_lt_zero _), Below.refl _ _⟩
  case round =>
    obtain ⟨k, hk, rfl, hpre, hb⟩ := hrel
    have PRE := hid hpre
    clear hpre
    by_cases hlt : k < xs.length
    · obtain ⟨b, off, rfl, hcx⟩ := hx3 (by omega)
      have h1 := hcx k hlt
      have h1 : wr.cell? ⟨b, off + k, none⟩ = some (.int .u64 (xs.getD k 0)) := (hb.cell (p := ⟨b, off + k, none⟩) (World.block_lt_of_cell? w _ h1)).trans h1
      clear hx3 hcx
      have C := hid (fun w' h => CO.out k w' h)
      have HNO := hid (allB_no (fm := fm) hlt)
      have PRE2 : Hid (okF fm (xs.getD k 0) = true → ∀ j, j < k + 1 → okF fm (xs.getD j 0) = true) := hid (fun h j hj => by
        by_cases e : j = k
        · subst e; exact h
        · exact PRE.out j (by omega))
      obtain ⟨x, hxk⟩ : ∃ x, x = xs.getD k 0 := ⟨_, rfl⟩
      obtain ⟨o, hok⟩ : ∃ o, o = okF fm x := ⟨_, rfl⟩
      rw [← hxk] at h1 C HNO
      rw [← hok] at C HNO
      have PRE2 : Hid (o = true → ∀ j, j < k + 1 → okF fm (xs.getD j 0) = true) := hid (fun h => PRE2.out (by rw [← hxk, ← hok]; exact h))
      clear hxk hok CO PRE
      cases o with
      | true =>
        have PRE3 := hid (PRE2.out rfl)
        clear PRE2 HNO
        go_wp2_with fail
        refine (C.out _ (hT.below hb)).mono ?_
        rintro e w1 ⟨rfl, hb1⟩
        go_wp2
        go_roundw
        case rel => exact ⟨k + 1, by omega, by go_num, PRE3.out, bel_go hb hb1⟩
        case measure => simp [intOf]; omega
      | false =>
        have HN2 := hid (HNO.out rfl)
        clear PRE2 HNO
        go_wp2_with fail
        refine (C.out _ (hT.below hb)).mono ?_
        rintro e w1 ⟨rfl, hb1⟩
        go_wp2
        go_ret
        exact ⟨ret_bool HN2.out.symm, bel_go hb hb1⟩
    · obtain rfl : k = xs.length := by omega
      have HY := hid (allB_yes PRE.out)
      clear hx3 CO PRE
      go_wp2
      go_ret
      exact ⟨ret_bool HY.out.symm, hb⟩
theorem signedM_z (ng : Bool) (m : Int) (E : Int) (w : World) (h0 : 0 ≤ m) (h1 : m < 9223372036854775808) :
    Calls Tryz.prog 103 #[.agg #[.bool ng, .int .i64 m, .int .i64 E]] w fun e w' => ∃ a' c', e = .returned (.agg #[.bool (Nm.wn (if ng then -m else m)), .slice a' (Nm.wl (if ng then -m else m)).length c']) ∧ Own w' w.heap.size a' c' (Nm.wl (if ng then -m else m)) ∧ Below w.heap.size w w' := by
  have CN := hid (fun w' => wof_impl (-m) w' (by omega) (by omega))
  have CP := hid (fun w' => wof_impl m w' (by omega) (by omega))
  cases ng with
  | true =>
    have e : (if true = true then -m else m) = -m := rfl
    rw [e]
    obtain ⟨G, hG⟩ : ∃ G, G = Nm.wn (-m) := ⟨_, rfl⟩
    obtain ⟨L, hL⟩ : ∃ L, L = Nm.wl (-m) := ⟨_, rfl⟩
    rw [← hG, ← hL] at CN ⊢
    clear hG hL e CP
    go_enter Tryz.func103, Tryz.ntmps103
    go_wp2_with fail
    refine (CN.out _).mono ?_
    rintro e w1 ⟨a', c', rfl, ho, hb⟩
    obtain ⟨r0, r1, f0, f1⟩ := (R2.new2 w (.cells #[.bool true, .int .i64 m, .int .i64 E] 89) (.bool false) (.slice none 0 0) 32).below hb
    have ho : Own w1 (w.heap.size + 1 + 1) a' c' L := by simpa using ho
    go_wp2
    refine bodyPost_ret (v := .agg #[.bool G, .slice a' L.length c']) (by simp [results, Tryz.results103, go_sem, r0, r1]) rfl ⟨a', c', rfl, ?_, (by repeat (first | exact bz0 _ _ | refine bz1 ?_ | refine bz2 ?_ _ | refine bz3 ?_ _ | refine bz4 ?_ hb | refine bz5 ?_ _ | refine bz6 ?_ _ | refine bz7 ?_ hb))⟩
    exact Own.base ((ho.setBelow (by simp) _).setBelow (by simp) _) (by omega)
  | false =>
    have e : (if false = true then -m else m) = m := rfl
    rw [e]
    obtain ⟨G, hG⟩ : ∃ G, G = Nm.wn m := ⟨_, rfl⟩
    obtain ⟨L, hL⟩ : ∃ L, L = Nm.wl m := ⟨_, rfl⟩
    rw [← hG, ← hL] at CP ⊢
    clear hG hL e CN
    go_enter Tryz.func103, Tryz.ntmps103
    go_wp2_with fail
    refine (CP.out _).mono ?_
    rintro e w1 ⟨a', c', rfl, ho, hb⟩
    obtain ⟨r0, r1, f0, f1⟩ := (R2.new2 w (.cells #[.bool false, .int .i64 m, .int .i64 E] 89) (.bool false) (.slice none 0 0) 32).below hb
    have ho : Own w1 (w.heap.size + 1 + 1) a' c' L := by simpa using ho
    go_wp2
    refine bodyPost_ret (v := .agg #[.bool G, .slice a' L.length c']) (by simp [results, Tryz.results103, go_sem, r0, r1]) rfl ⟨a', c', rfl, ?_, (by repeat (first | exact bz0 _ _ | refine bz1 ?_ | refine bz2 ?_ _ | refine bz3 ?_ _ | refine bz4 ?_ hb | refine bz5 ?_ _ | refine bz6 ?_ _ | refine bz7 ?_ hb))⟩
    exact Own.base ((ho.setBelow (by simp) _).setBelow (by simp) _) (by omega)
theorem heap5 (w : World) (B b : Nat) (h : b ≠ B) (u0 u1 u2 u3 u4 : Value) :
    (((((w.setCell ⟨B, 0, none⟩ u0).setCell ⟨B, 1, none⟩ u1).setCell ⟨B, 2, none⟩ u2).setCell ⟨B, 3, none⟩ u3).setCell ⟨B, 4, none⟩ u4).heap[b]? = w.heap[b]? := by
  rw [Below.heap_setCell _ _ _ _ h, Below.heap_setCell _ _ _ _ h, Below.heap_setCell _ _ _ _ h, Below.heap_setCell _ _ _ _ h, Below.heap_setCell _ _ _ _ h]
theorem keep5 {w : World} {B b : Nat} {v0 v1 v2 : Value} (h0 : w.cell? ⟨b, 0, none⟩ = some v0) (h1 : w.cell? ⟨b, 1, none⟩ = some v1) (h2 : w.cell? ⟨b, 2, none⟩ = some v2) (n : b ≠ B) (u0 u1 u2 u3 u4 : Value) (W : World)
    (hW : W = ((((w.setCell ⟨B, 0, none⟩ u0).setCell ⟨B, 1, none⟩ u1).setCell ⟨B, 2, none⟩ u2).setCell ⟨B, 3, none⟩ u3).setCell ⟨B, 4, none⟩ u4) :
    W.cell? ⟨b, 0, none⟩ = some v0 ∧ W.cell? ⟨b, 1, none⟩ = some v1 ∧ W.cell? ⟨b, 2, none⟩ = some v2 := by
  subst hW
  have e := heap5 w B b n u0 u1 u2 u3 u4
  exact ⟨(World.cell?_of_block (a := ⟨b, 0, none⟩) e).trans h0, (World.cell?_of_block (a := ⟨b, 1, none⟩) e).trans h1, (World.cell?_of_block (a := ⟨b, 2, none⟩) e).trans h2⟩
theorem num_quiet (fm x : Int) (u : Value) (w : World) (hT : Tab w) (hq : ErrQ w u) (h0 : 0 ≤ x) (h1 : x < 18446744073709551616) (hc : cls fm x = 4) :
    Calls Tryz.prog 90 #[.int .i64 fm, .int .u64 x] w fun e w' => e = .returned (.tuple #[.agg #[.bool false, .bool false, .bool false, .slice none 0 0, .int .i64 0], .iface 179 (.agg #[.iface 246 u])]) ∧ Below w.heap.size w w' := by
  have C := hid (fun w' h => impl_cls fm x w' h h0 h1)
  rw [hc] at C
  clear hc
  have Q := Q5.new w (.bool false) (.bool false) (.bool false) (.slice none 0 0) (.int .i64 0) 98
  go_enter Tryz.func90, Tryz.ntmps90
  go_wp2_with fail
  refine (C.out _ (hT.below ((Below.refl _ _).alloc (Nat.le_refl _) _))).mono ?_
  rintro e w1 ⟨rfl, hb1⟩
  have hlt := World.block_lt_of_cell? w _ hq
  have hq1 : w1.cell? ⟨0, 0, none⟩ = some (.iface 246 u) := (hb1.cell (p := ⟨0, 0, none⟩) (by first | omega | (simp; done) | (simp; omega))).trans ((Below.cell ((Below.refl w.heap.size w).alloc (Nat.le_refl _) _) (p := ⟨0, 0, none⟩) hlt).trans hq)
  obtain ⟨r0, r1, r2, r3, r4, f0, f1, f2, f3, f4⟩ := Q.below hb1
  have hne : w.heap.size ≠ 0 := by (have h9 : (0 : Nat) < w.heap.size := hlt); omega
  clear Q hq
  go_wp2_with fail
  go_region
  all_goals go_wp2
  all_goals refine bodyPost_ret (v := .tuple #[.agg #[.bool false, .bool false, .bool false, .slice none 0 0, .int .i64 0], .iface 179 (.agg #[.iface 246 u])]) (by simp [results, Tryz.results90, go_sem, r0, r1, r2, r3, r4]) rfl ⟨rfl, ?_⟩
  all_goals exact (by (repeat with_reducible first | refine Below.setCell ?_ ?_ _ | exact bz0 _ _ | refine bz1 ?_ | refine bz2 ?_ _ | refine bz3 ?_ _ | refine bz4 ?_ hb1 | refine Below.alloc ?_ ?_ _ | refine Below.trans ?_ (Below.mono hb1 ?_)) <;> first | omega | (simp; done) | (simp; omega))
theorem num_inf (fm x : Int) (w : World) (hT : Tab w) (h0 : 0 ≤ x) (h1 : x < 18446744073709551616) (hc : cls fm x = 3) :
    Calls Tryz.prog 90 #[.int .i64 fm, .int .u64 x] w fun e w' => e = .returned (.tuple #[.agg #[.bool (sigB fm x), .bool true, .bool false, .slice none 0 0, .int .i64 0], .nilIface]) ∧ Below w.heap.size w w' := by
  have C := hid (fun w' h => impl_cls fm x w' h h0 h1)
  rw [hc] at C
  clear hc
  have CS := hid (fun w' h => impl_sig fm x w' h h0 h1)
  obtain ⟨sg, hsg⟩ : ∃ sg, sg = sigB fm x := ⟨_, rfl⟩
  rw [← hsg] at CS ⊢
  clear hsg
  have Q := Q5.new w (.bool false) (.bool false) (.bool false) (.slice none 0 0) (.int .i64 0) 98
  go_enter Tryz.func90, Tryz.ntmps90
  go_wp2_with fail
  have hT1 : Tab (w.alloc (.cells #[.bool false, .bool false, .bool false, .slice none 0 0, .int .i64 0] 98)) := hT.below ((Below.refl _ _).alloc (Nat.le_refl _) _)
  refine (C.out _ hT1).mono ?_
  rintro e w1 ⟨rfl, hb1⟩
  go_wp2_with fail
  refine (CS.out _ (hT1.below hb1)).mono ?_
  rintro e w2 ⟨rfl, hb2⟩
  obtain ⟨r0, r1, r2, r3, r4, f0, f1, f2, f3, f4⟩ := (Q.below hb1).below hb2
  clear Q
  go_wp2
  refine bodyPost_ret (v := .tuple #[.agg #[.bool sg, .bool true, .bool false, .slice none 0 0, .int .i64 0], .nilIface]) (by simp [results, Tryz.results90, go_sem, r0, r1, r2, r3, r4]) rfl ⟨rfl, ?_⟩
  exact (by (repeat with_reducible first | refine Below.setCell ?_ ?_ _ | exact bz0 _ _ | refine bz1 ?_ | refine bz2 ?_ _ | refine bz3 ?_ _ | refine bz4 ?_ hb2 | refine bz4 ?_ hb1 | refine Below.alloc ?_ ?_ _ | refine Below.trans ?_ (Below.mono hb2 ?_) | refine Below.trans ?_ (Below.mono hb1 ?_)) <;> first | omega | (simp; done) | (simp; omega))
theorem num_fin (fm x : Int) (w : World) (hT : Tab w) (h0 : 0 ≤ x) (h1 : x < 18446744073709551616) (hf : finB fm x = true) (G : Bool) (L : List Int) (E : Int) (hG : G = Nm.wn (if pS fm x then -pM fm x else pM fm x)) (hL : L = Nm.wl (if pS fm x then -pM fm x else pM fm x)) (hE : E = pE fm x) :
    Calls Tryz.prog 90 #[.int .i64 fm, .int .u64 x] w fun e w' => ∃ a' c', e = .returned (.tuple #[.agg #[.bool (pS fm x), .bool false, .bool G, .slice a' L.length c', .int .i64 E], .nilIface]) ∧ Own w' w.heap.size a' c' L ∧ Below w.heap.size w w' := by
  have hc : 0 ≤ cls fm x ∧ cls fm x ≤ 2 := by simpa [finB] using hf
  have C := hid (fun w' h => impl_cls fm x w' h h0 h1)
  have CP := hid (fun w' h => impl_parts fm x w' h h0 h1)
  have CG := hid (fun w' => signedM_z (pS fm x) (pM fm x) (pE fm x) w' (pM_bd fm x).1 (by have := (pM_bd fm x).2; omega))
  rw [← hG, ← hL] at CG
  rw [hf] at CP
  rw [← hE] at CP CG
  obtain ⟨sg, hsg⟩ : ∃ sg, sg = pS fm x := ⟨_, rfl⟩
  obtain ⟨m, hm⟩ : ∃ m, m = pM fm x := ⟨_, rfl⟩
  obtain ⟨c, hcc⟩ : ∃ c, c = cls fm x := ⟨_, rfl⟩
  rw [← hsg, ← hm] at CP CG
  rw [← hsg]
  rw [← hcc] at C hc
  clear hsg hm hcc hG hL hE hf
  have g3 : (c == 3) = false := by rw [beq_eq_false_iff_ne]; omega
  have g4 : (c == 4) = false := by rw [beq_eq_false_iff_ne]; omega
  have g5 : (c == 5) = false := by rw [beq_eq_false_iff_ne]; omega
  clear hc
  have Q := Q5.new w (.bool false) (.bool false) (.bool false) (.slice none 0 0) (.int .i64 0) 98
  go_enter Tryz.func90, Tryz.ntmps90
  go_wp2_with fail
  have hT1 : Tab (w.alloc (.cells #[.bool false, .bool false, .bool false, .slice none 0 0, .int .i64 0] 98)) := hT.below ((Below.refl _ _).alloc (Nat.le_refl _) _)
  refine (C.out _ hT1).mono ?_
  rintro e w1 ⟨rfl, hb1⟩
  go_wp2_with fail
  refine (CP.out _ (hT1.below hb1)).mono ?_
  rintro e w2 ⟨rfl, hb2⟩
  replace Q := ((Q.below hb1).below hb2).alloc (.cells #[.bool sg, .int .i64 m, .int .i64 E] 89)
  have bel2 : Below w.heap.size w w2 := (by repeat (first | exact bz0 _ _ | refine bz1 ?_ | refine bz2 ?_ _ | refine bz3 ?_ _ | refine bz4 ?_ hb2 | refine bz4 ?_ hb1 | refine bz5 ?_ _ | refine bz6 ?_ _ | refine bz7 ?_ hb2 | refine bz7 ?_ hb1))
  have R := R3.new w2 (.bool sg) (.int .i64 m) (.int .i64 E) 89
  have lw : w.heap.size < w2.heap.size := by have := hb1.size; have := hb2.size; simp at *; omega
  clear hb1 hb2 hT1
  have Rd := R3.dr R
  have rd0 := Rd.c0
  have rd1 := Rd.c1
  have rd2 := Rd.c2
  go_wp2_with fail
  go_region_held3 (fun w' => w'.cell? ⟨w2.heap.size, 0, none⟩ = some (.bool sg) ∧ w'.cell? ⟨w2.heap.size, 1, none⟩ = some (.int .i64 m) ∧ w'.cell? ⟨w2.heap.size, 2, none⟩ = some (.int .i64 E))
    (first | with_reducible assumption | with_reducible exact ⟨rd0, rd1, rd2⟩ | with_reducible exact keep5 k0 k1 k2 (by omega) _ _ _ _ _ _ rfl | fail)
    (first
      | (go_at_call 103; refine (CG.out _).mono ?_; rintro e q1 ⟨a1, k1', rfl, hp1, hq1⟩; have R1 := R3.below Rd hq1; have k0 := R1.c0; have k1 := R1.c1; have k2 := R1.c2; have f1 := And.intro k0 (And.intro k1 k2); obtain ⟨r0, r1, r2, r3, r4, g0, g1, g2, g3', g4'⟩ := Q.drew.below hq1))
  have hp2 : Own q1 (w2.heap.size + 1) a1 k1' L := by simpa using hp1
  go_wp2
  refine bodyPost_ret (v := .tuple #[.agg #[.bool sg, .bool false, .bool G, .slice a1 L.length k1', .int .i64 E], .nilIface]) (by simp [results, Tryz.results90, go_sem, r0, r1, r2, r3, r4]) rfl ⟨a1, k1', rfl, ?_, ?_⟩
  · refine Own.base (B := w2.heap.size + 1) ?_ (by omega)
    repeat (first | with_reducible exact hp2 | (with_reducible refine Own.setBelow ?_ ?_ _; rotate_left; (simp; try omega)))
  · exact (by (repeat with_reducible first | refine Below.setCell ?_ ?_ _ | exact bz0 _ _ | refine bz1 ?_ | refine bz2 ?_ _ | refine bz3 ?_ _ | refine bz4 ?_ hq1 | refine bz4 ?_ bel2 | refine Below.alloc ?_ ?_ _ | refine Below.trans ?_ (Below.mono hq1 ?_) | refine Below.trans ?_ (Below.mono bel2 ?_)) <;> first | omega | (simp; done) | (simp; omega))
end Go.Proofs.YtkfjmcdniohljaaGreatDoor
