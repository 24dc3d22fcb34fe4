/-
  Several texts in one: RL, VecA, VecB.
-/
import Derived.Test.YtbalefbcpnoieaaDoorG22
import Derived.Deep.RegionHeld3
import Derived.Test.YtbalefbcpnoieaaDoorG10
import Derived.Test.YtbalefbcpnoieaaDoorG18
import Derived.Test.YtbalefbcpnoieaaDoorG15
import Derived.Test.YtbalefbcpnoieaaDoorG21
import Derived.LoopN
/-
  The law on units.
-/
namespace Go.Proofs.YtbalefbcpnoieaaDoor
set_option linter.unusedVariables false
set_option linter.unusedSimpArgs false
open Go.RowKit Go.Deep
theorem un_len (fm x : Int) : (Nm.wl (unI fm x)).length ≤ 200 := by
  cases hf : finB fm x
  · rw [un_no hf]; have : Nm.wl 0 = [] := Nm.lim_zero
    rw [this]; simp
  · obtain ⟨G, L, z, E, Q, hz, hE, hQ, z0, z1, e0, e1, q0, q1, d0, d1, hG, hL, hd, hl2, hsh, hok, hl200⟩ := un_parts hf
    exact hl200
end Go.Proofs.YtbalefbcpnoieaaDoor
/-
  Vectors in memory; the laws' own helpers over them; whether all are floats of a format.
-/
namespace Go.Proofs.YtbalefbcpnoieaaDoor
set_option linter.unusedVariables false
set_option linter.unusedSimpArgs false
open Go.RowKit Go.Deep
/-- Numbers of 64 bits. -/
def D64 (xs : List Int) : Prop := ∀ x ∈ xs, 0 ≤ x ∧ x < 18446744073709551616
theorem D64.getD {xs : List Int} (h : D64 xs) (k : Nat) : 0 ≤ xs.getD k 0 ∧ xs.getD k 0 < 18446744073709551616 := by
  rw [List.getD_eq_getElem?_getD]
  by_cases hk : k < xs.length
  · rw [List.getElem?_eq_getElem hk]; exact h _ (List.getElem_mem hk)
  · rw [List.getElem?_eq_none (by omega)]; decide
theorem info64 : (Tryd.prog.info? 22).map (fun i => (i.zero, i.size, i.bytes)) = some (some (.int .u64 0), 1, 8) := by kernel_rfl
/-- k numbers are copied. -/
def copV (zs : List Int) (k : Nat) : Nat → Value := fun i => if i < k then .int .u64 (zs.getD i 0) else .int .u64 0
theorem copV_step {w : World} {b : Nat} {t : TypeId} {zs : List Int} {k : Nat} {u : Int} (h : w.rowIs b t zs.length (copV zs k)) (hu : u = zs.getD k 0) : (w.setCell ⟨b, k, none⟩ (.int .u64 u)).rowIs b t zs.length (copV zs (k + 1)) :=
  (h.set k _).congr fun i _ => by
    subst hu
    unfold copV
    by_cases e : i = k
    · subst e; simp
    · rw [if_neg e]
      by_cases hlt : i < k
      · rw [if_pos hlt, if_pos (by omega)]
      · rw [if_neg hlt, if_neg (by omega)]
theorem Sl.of_row64 {w : World} {b : Nat} {t : TypeId} {zs : List Int} {f : Nat → Value} (h : w.rowIs b t zs.length f) (hf : ∀ i, i < zs.length → f i = .int .u64 (zs.getD i 0)) (hm : zs.length ≤ maxLen) : Sl .u64 w (.slice (some ⟨b, 0, none⟩) zs.length zs.length) zs :=
  ⟨some ⟨b, 0, none⟩, zs.length, rfl, Nat.le_refl _, hm, .inr ⟨b, 0, rfl, fun i hi => by rw [Nat.zero_add, h.cell hi, hf i hi]⟩⟩
set_option maxHeartbeats 1000000 in
theorem toV_any (v : Value) (zs : List Int) (w : World) (hs : Sl .u64 w v zs) (hl : zs.length ≤ 1048576) :
    Calls Tryd.prog 13 #[v] w fun e w' => ∃ a' c', e = .returned (.slice a' zs.length c') ∧ Sl .u64 w' (.slice a' zs.length c') zs ∧ Below w.heap.size w w' := by
  obtain ⟨a, cap, rfl, hc1, hc2, hz⟩ := hs
  have hmk := run_make_row' (P := Tryd.prog) 27 22 (.int .u64 0) 8 Tryd.underlying27 info64 rfl .i64 .i64 zs.length (by omega) (by omega)
  go_enter Tryd.func13, Tryd.ntmps13
  go_wp2
  go_loopw [4] (fun i wr => ∃ k : Nat, k ≤ zs.length ∧ i = .int .i64 k ∧ wr.rowIs w.heap.size 22 zs.length (copV zs k) ∧ Below w.heap.size w wr) (fun i _ => zs.length - (intOf i).toNat)
  case atStart => exact ⟨0, Nat.zero_le _, rfl, (World.rowIs_made w _ zs.length 22).congr (fun j _ => by simp [copV]), (Below.refl _ _).alloc (Nat.le_refl _) _⟩
  case round =>
    obtain ⟨k, hk, rfl, hrow, hb⟩ := hrel
    by_cases hlt : k < zs.length
    · obtain ⟨b, off, rfl, hcell⟩ : ∃ b off, a = some ⟨b, off, none⟩ ∧ ∀ i, i < zs.length → w.cell? ⟨b, off + i, none⟩ = some (.int .u64 (zs.getD i 0)) := by
        rcases hz with rfl | hz
        · simp at hlt
        · exact hz
      have hc0 := hcell k hlt
      have hc : wr.cell? ⟨b, off + k, none⟩ = some (.int .u64 (zs.getD k 0)) := (hb.cell (p := ⟨b, off + k, none⟩) (World.block_lt_of_cell? w _ hc0)).trans hc0
      have hold := hrow.cell hlt
      have hfr := hrow.frozen k
      clear hz hcell hc0
      go_wp2
      go_roundw
      case rel => exact ⟨k + 1, by omega, by go_num, copV_step hrow (by simp [hlt]), hb.setCell (Nat.le_refl _) _⟩
      case measure => simp [intOf]; omega
    · obtain rfl : k = zs.length := by omega
      clear hz
      go_wp2
      go_ret
      exact ⟨_, _, rfl, Sl.of_row64 hrow (fun i hi => by simp [copV, hi]) (by unfold maxLen; omega), hb⟩
set_option maxHeartbeats 1000000 in
theorem eqV_same (a a' : Option Addr) (cap cap' : Nat) (xs : List Int) (w : World) (hx : Sl .u64 w (.slice a xs.length cap) xs) (hy : Sl .u64 w (.slice a' xs.length cap') xs) (hl : xs.length ≤ 140737488355328) :
    Calls Tryd.prog 16 #[.slice a xs.length cap, .slice a' xs.length cap'] w fun e w' => e = .returned (.bool true) ∧ Below w.heap.size w w' := by
  obtain ⟨-, hx1, hx2, hx3⟩ := hx.cells
  obtain ⟨-, hy1, hy2, hy3⟩ := hy.cells
  have hne : ((xs.length : Int) != (xs.length : Int)) = false := by simp
  go_enter Tryd.func16, Tryd.ntmps16
  go_wp2
  go_loopw [5] (fun i wr => ∃ k : Nat, k ≤ xs.length ∧ i = .int .i64 k ∧ Below w.heap.size w wr) (fun i _ => xs.length - (intOf i).toNat)
  case atStart => exact ⟨0, Nat.zero_le _, rfl, Below.refl _ _⟩
  case round =>
    obtain ⟨k, hk, rfl, hb⟩ := hrel
    by_cases hlt : k < xs.length
    · obtain ⟨b, off, rfl, hcx⟩ := hx3 (by omega)
      obtain ⟨b', off', rfl, hcy⟩ := hy3 (by omega)
      have h1 := hcx k hlt
      have h2 := hcy k hlt
      have h1 : wr.cell? ⟨b, off + k, none⟩ = some (.int .u64 (xs.getD k 0)) := (hb.cell (p := ⟨b, off + k, none⟩) (World.block_lt_of_cell? w _ h1)).trans h1
      have h2 : wr.cell? ⟨b', off' + k, none⟩ = some (.int .u64 (xs.getD k 0)) := (hb.cell (p := ⟨b', off' + k, none⟩) (World.block_lt_of_cell? w _ h2)).trans h2
      clear hx3 hy3 hcx hcy
      obtain ⟨x, hxk⟩ : ∃ x, x = xs.getD k 0 := ⟨_, rfl⟩
      rw [← hxk] at h1 h2
      clear hxk
      have hbe : (x != x) = false := by simp
      go_wp2
      go_region
      all_goals go_wp2
      all_goals go_roundw
      case rel => exact ⟨k + 1, by omega, by go_num, (by repeat (first | exact Below.refl _ _ | refine Below.drew ?_ | refine bel_dn ?_ _ | refine bel_al ?_ _ | refine bel_go ?_ hb | refine Below.setCell ?_ (by first | omega | (simp; done) | (simp; omega)) _ | refine Below.alloc ?_ (by first | omega | (simp; done) | (simp; omega)) _ | refine Below.trans ?_ (Below.mono hb (by first | omega | (simp; done) | (simp; omega)))))⟩
      case measure => simp [intOf]; omega
    · obtain rfl : k = xs.length := by omega
      clear hx3 hy3
      go_wp2
      go_ret
      exact ⟨rfl, hb⟩
/-- Whether all are floats of the format. -/
def allB (fm : Int) (xs : List Int) : Bool := xs.all (fun x => okF fm x)
theorem allB_yes {fm : Int} {xs : List Int} (h : ∀ j, j < xs.length → okF fm (xs.getD j 0) = true) : allB fm xs = true := by
  unfold allB
  rw [List.all_eq_true]
  intro x hx
  obtain ⟨j, hj, rfl⟩ := List.getElem_of_mem hx
  have := h j hj
  rwa [List.getD_eq_getElem?_getD, List.getElem?_eq_getElem hj] at this
theorem allB_no {fm : Int} {xs : List Int} {j : Nat} (hj : j < xs.length) (h : okF fm (xs.getD j 0) = false) : allB fm xs = false := by
  cases h' : allB fm xs
  · rfl
  · unfold allB at h'
    rw [List.all_eq_true] at h'
    have := h' _ (List.getElem_mem hj)
    rw [List.getD_eq_getElem?_getD, List.getElem?_eq_getElem hj] at h
    simp at h this
    rw [h] at this; exact absurd this (by decide)
set_option maxHeartbeats 2000000 in
theorem allf_impl (fm : Int) (a : Option Addr) (cap : Nat) (xs : List Int) (w : World) (hT : Tab w) (hx : Sl .u64 w (.slice a xs.length cap) xs) (dx : D64 xs) (hl : xs.length ≤ 1048576) :
    Calls Tryd.prog 103 #[.int .i64 fm, .slice a xs.length cap] w fun e w' => e = .returned (.bool (allB fm xs)) ∧ Below w.heap.size w w' := by
  obtain ⟨-, hx1, hx2, hx3⟩ := hx.cells
  have CO := hid (fun k w' h => impl_ok fm (xs.getD k 0) w' h (dx.getD k).1 (dx.getD k).2)
  have DX := hid dx
  clear dx
  go_enter Tryd.func103, Tryd.ntmps103
  go_wp2
  go_loopw [9] (fun i wr => ∃ k : Nat, k ≤ xs.length ∧ i = .int .i64 k ∧ (∀ j, j < k → okF fm (xs.getD j 0) = true) ∧ Below w.heap.size w wr) (fun i _ => xs.length - (intOf i).toNat)
  case atStart => exact ⟨0, Nat.zero_le _, rfl, fun j hj => absurd hj (Nat.not_lt_zero _), Below.refl _ _⟩
  case round =>
    obtain ⟨k, hk, rfl, hpre, hb⟩ := hrel
    have PRE := hid hpre
    clear hpre
    by_cases hlt : k < xs.length
    · obtain ⟨b, off, rfl, hcx⟩ := hx3 (by omega)
      have h1 := hcx k hlt
      have h1 : wr.cell? ⟨b, off + k, none⟩ = some (.int .u64 (xs.getD k 0)) := (hb.cell (p := ⟨b, off + k, none⟩) (World.block_lt_of_cell? w _ h1)).trans h1
      clear hx3 hcx
      have C := hid (fun w' h => CO.out k w' h)
      have HNO := hid (allB_no (fm := fm) hlt)
      have PRE2 : Hid (okF fm (xs.getD k 0) = true → ∀ j, j < k + 1 → okF fm (xs.getD j 0) = true) := hid (fun h j hj => by
        by_cases e : j = k
        · subst e; exact h
        · exact PRE.out j (by omega))
      obtain ⟨x, hxk⟩ : ∃ x, x = xs.getD k 0 := ⟨_, rfl⟩
      obtain ⟨o, hok⟩ : ∃ o, o = okF fm x := ⟨_, rfl⟩
      rw [← hxk] at h1 C HNO
      rw [← hok] at C HNO
      have PRE2 : Hid (o = true → ∀ j, j < k + 1 → okF fm (xs.getD j 0) = true) := hid (fun h => PRE2.out (by rw [← hxk, ← hok]; exact h))
      clear hxk hok CO PRE
      cases o with
      | true =>
        have PRE3 := hid (PRE2.out rfl)
        clear PRE2 HNO
        go_wp2_with fail
        refine (C.out _ (hT.below hb)).mono ?_
        rintro e w1 ⟨rfl, hb1⟩
        go_wp2
        go_roundw
        case rel => exact ⟨k + 1, by omega, by go_num, PRE3.out, bel_go hb hb1⟩
        case measure => simp [intOf]; omega
      | false =>
        have HN2 := hid (HNO.out rfl)
        clear PRE2 HNO
        go_wp2_with fail
        refine (C.out _ (hT.below hb)).mono ?_
        rintro e w1 ⟨rfl, hb1⟩
        go_wp2
        go_ret
        exact ⟨ret_bool HN2.out.symm, bel_go hb hb1⟩
    · obtain rfl : k = xs.length := by omega
      have HY := hid (allB_yes PRE.out)
      clear hx3 CO PRE
      go_wp2
      go_ret
      exact ⟨ret_bool HY.out.symm, hb⟩
/-- What is wrong with a vector. -/
def vecC (fm mode : Int) (xs : List Int) : Int := if fmtB fm && modeB mode then (if xs.length ≤ 300 then (if allB fm xs then 0 else 4) else 2) else 1
theorem form_impl (fm : Int) (w : World) :
    Calls Tryd.prog 99 #[.int .i64 fm] w fun e w' => e = .returned (.int .i64 (if fm = 32 then 1 else if fm = 64 then 2 else 0)) ∧ w' = w := by
  by_cases h1 : fm = 32
  · subst h1
    go_enter Tryd.func99, Tryd.ntmps99
    go_wp2
    go_ret
    exact ⟨rfl, rfl⟩
  · by_cases h2 : fm = 64
    · subst h2
      go_enter Tryd.func99, Tryd.ntmps99
      go_wp2
      go_ret
      exact ⟨rfl, rfl⟩
    · have e1 : (fm == 32) = false := by simpa using h1
      have e2 : (fm == 64) = false := by simpa using h2
      rw [if_neg h1, if_neg h2]
      clear h1 h2
      go_enter Tryd.func99, Tryd.ntmps99
      go_wp2
      go_ret
      exact ⟨rfl, rfl⟩
theorem form_B (fm : Int) (w : World) :
    Calls Tryd.prog 99 #[.int .i64 fm] w fun e w' => ∃ n : Int, e = .returned (.int .i64 n) ∧ (n == 0) = !fmtB fm ∧ Below w.heap.size w w' := (form_impl fm w).mono fun e w' ⟨h, h'⟩ => by
  subst h'
  refine ⟨_, h, ?_, Below.refl _ _⟩
  unfold fmtB
  by_cases h1 : fm = 32
  · subst h1; decide
  · by_cases h2 : fm = 64
    · subst h2; decide
    · rw [if_neg h1, if_neg h2, decide_eq_false h1, decide_eq_false h2]; rfl
end Go.Proofs.YtbalefbcpnoieaaDoor
/-
  What is wrong with a vector: by the program and by the specification; the law on vectors.
-/
namespace Go.Proofs.YtbalefbcpnoieaaDoor
set_option linter.unusedVariables false
set_option linter.unusedSimpArgs false
open Go.RowKit Go.Deep
theorem vec_form {fm mode : Int} {xs : List Int} (h : (fmtB fm && modeB mode) = false) : vecC fm mode xs = 1 := by unfold vecC; rw [h]; rfl
theorem vec_many {fm mode : Int} {xs : List Int} (h : (fmtB fm && modeB mode) = true) (h' : ¬ xs.length ≤ 300) : vecC fm mode xs = 2 := by unfold vecC; rw [h, if_pos rfl, if_neg h']
theorem vec_fits {fm mode : Int} {xs : List Int} (h : (fmtB fm && modeB mode) = true) (h' : xs.length ≤ 300) : vecC fm mode xs = if allB fm xs then 0 else 4 := by unfold vecC; rw [h, if_pos rfl, if_pos h']
set_option maxHeartbeats 4000000 in
set_option maxRecDepth 100000 in
theorem vcode_impl (fm mode : Int) (a : Option Addr) (cap : Nat) (xs : List Int) (B : Nat) (w : World) (hT : Tab w) (hx : Sl .u64 w (.slice a xs.length cap) xs) (dx : D64 xs) (hl : xs.length ≤ 1048576) (hB : w.cell? ⟨B, 0, none⟩ = some (.slice a xs.length cap)) :
    Calls Tryd.prog 85 #[.int .i64 fm, .int .i64 mode, .slice (some ⟨B, 0, none⟩) 1 1] w fun e w' => e = .returned (.int .i64 (vecC fm mode xs)) ∧ Below w.heap.size w w' := by
  have CF := hid (fun w' => form_B fm w')
  have CM := hid (fun w' => mode_impl mode w')
  have CA := hid (fun w' h h' => allf_impl fm a cap xs w' h h' dx hl)
  have H1 := hid (vec_form (fm := fm) (mode := mode) (xs := xs))
  have H2 := hid (vec_many (fm := fm) (mode := mode) (xs := xs))
  have H3 := hid (vec_fits (fm := fm) (mode := mode) (xs := xs))
  clear dx
  have hlt := World.block_lt_of_cell? w _ hB
  have hnn : ((xs.length : Int) != (xs.length : Int)) = false := by simp
  cases hf : fmtB fm with
  | false =>
    rw [hf] at CF
    have H1 := hid (H1.out (by rw [hf]; rfl))
    clear H2 H3 CA hf CM
    go_enter Tryd.func85, Tryd.ntmps85
    go_wp2_with fail
    refine (CF.out _).mono ?_
    rintro e w1 ⟨n, rfl, hn, hb1⟩
    simp only [Bool.not_false] at hn
    go_wp2
    go_ret
    exact ⟨ret_int H1.out.symm, (by repeat (first | exact Below.refl _ _ | refine Below.drew ?_ | refine bel_dn ?_ _ | refine bel_al ?_ _ | refine bel_go ?_ hb1 | refine Below.setCell ?_ (by first | omega | (simp; done) | (simp; omega)) _ | refine Below.alloc ?_ (by first | omega | (simp; done) | (simp; omega)) _ | refine Below.trans ?_ (Below.mono hb1 (by first | omega | (simp; done) | (simp; omega)))))⟩
  | true =>
  rw [hf] at CF
  cases hm : modeB mode with
  | false =>
    rw [hm] at CM
    have H1 := hid (H1.out (by rw [hf, hm]; rfl))
    clear H2 H3 CA hf hm
    go_enter Tryd.func85, Tryd.ntmps85
    go_wp2_with fail
    refine (CF.out _).mono ?_
    rintro e w1 ⟨n, rfl, hn, hb1⟩
    simp only [Bool.not_true] at hn
    go_wp2_with fail
    refine (CM.out _).mono ?_
    rintro e w2 ⟨rfl, rfl⟩
    go_wp2
    go_ret
    exact ⟨ret_int H1.out.symm, (by repeat (first | exact Below.refl _ _ | refine Below.drew ?_ | refine bel_dn ?_ _ | refine bel_al ?_ _ | refine bel_go ?_ hb1 | refine Below.setCell ?_ (by first | omega | (simp; done) | (simp; omega)) _ | refine Below.alloc ?_ (by first | omega | (simp; done) | (simp; omega)) _ | refine Below.trans ?_ (Below.mono hb1 (by first | omega | (simp; done) | (simp; omega)))))⟩
  | true =>
  rw [hm] at CM
  by_cases h3 : xs.length ≤ 300
  · have H3 := hid (H3.out (by rw [hf, hm]; rfl) h3)
    clear H1 H2 hf hm
    obtain ⟨r, hr⟩ : ∃ r, r = allB fm xs := ⟨_, rfl⟩
    rw [← hr] at CA H3
    clear hr
    cases r with
    | true =>
      go_enter Tryd.func85, Tryd.ntmps85
      go_wp2_with fail
      refine (CF.out _).mono ?_
      rintro e w1 ⟨n, rfl, hn, hb1⟩
      simp only [Bool.not_true] at hn
      have b1 := (hb1.cell (p := ⟨B, 0, none⟩) hlt).trans hB
      go_wp2_with fail
      refine (CM.out _).mono ?_
      rintro e w2 ⟨rfl, rfl⟩
      go_wp2_with fail
      refine wp_loop_rounds 2 ?_
      rw [rounds_succ]
      go_wp2_with fail
      rw [rounds_succ]
      go_wp2_with fail
      refine wp_loop_rounds 2 ?_
      rw [rounds_succ]
      go_wp2_with fail
      rw [rounds_succ]
      go_wp2_with fail
      refine wp_loop_rounds 2 ?_
      rw [rounds_succ]
      go_wp2_with fail
      refine (CA.out _ (hT.below hb1) (hx.below hb1)).mono ?_
      rintro e w3 ⟨rfl, hb3⟩
      go_wp2_with fail
      rw [rounds_succ]
      go_wp2
      go_ret
      exact ⟨ret_int H3.out.symm, bel_go hb1 hb3⟩
    | false =>
      go_enter Tryd.func85, Tryd.ntmps85
      go_wp2_with fail
      refine (CF.out _).mono ?_
      rintro e w1 ⟨n, rfl, hn, hb1⟩
      simp only [Bool.not_true] at hn
      have b1 := (hb1.cell (p := ⟨B, 0, none⟩) hlt).trans hB
      go_wp2_with fail
      refine (CM.out _).mono ?_
      rintro e w2 ⟨rfl, rfl⟩
      go_wp2_with fail
      refine wp_loop_rounds 2 ?_
      rw [rounds_succ]
      go_wp2_with fail
      rw [rounds_succ]
      go_wp2_with fail
      refine wp_loop_rounds 2 ?_
      rw [rounds_succ]
      go_wp2_with fail
      rw [rounds_succ]
      go_wp2_with fail
      refine wp_loop_rounds 2 ?_
      rw [rounds_succ]
      go_wp2_with fail
      refine (CA.out _ (hT.below hb1) (hx.below hb1)).mono ?_
      rintro e w3 ⟨rfl, hb3⟩
      go_wp2
      go_ret
      exact ⟨ret_int H3.out.symm, bel_go hb1 hb3⟩
  · have H2 := hid (H2.out (by rw [hf, hm]; rfl) h3)
    clear H1 H3 hf hm CA
    go_enter Tryd.func85, Tryd.ntmps85
    go_wp2_with fail
    refine (CF.out _).mono ?_
    rintro e w1 ⟨n, rfl, hn, hb1⟩
    simp only [Bool.not_true] at hn
    have b1 := (hb1.cell (p := ⟨B, 0, none⟩) hlt).trans hB
    go_wp2_with fail
    refine (CM.out _).mono ?_
    rintro e w2 ⟨rfl, rfl⟩
    go_wp2_with fail
    refine wp_loop_rounds 2 ?_
    rw [rounds_succ]
    go_wp2
    go_ret
    exact ⟨ret_int H2.out.symm, (by repeat (first | exact Below.refl _ _ | refine Below.drew ?_ | refine bel_dn ?_ _ | refine bel_al ?_ _ | refine bel_go ?_ hb1 | refine Below.setCell ?_ (by first | omega | (simp; done) | (simp; omega)) _ | refine Below.alloc ?_ (by first | omega | (simp; done) | (simp; omega)) _ | refine Below.trans ?_ (Below.mono hb1 (by first | omega | (simp; done) | (simp; omega)))))⟩
end Go.Proofs.YtbalefbcpnoieaaDoor
