/-
  What is needed of NewA, VecA, VecB, VecC, AccG, AccO, ND.
-/
import Derived.Test.YtnliofakkkjpoaaGreatDoorA07
import Derived.Test.YtnliofakkkjpoaaGreatDoorA36
import Derived.Test.YtnliofakkkjpoaaGreatDoorA37
set_option maxHeartbeats 16000000
set_option maxRecDepth 1000000
namespace Go.Proofs.YtnliofakkkjpoaaGreatDoor
set_option linter.unusedVariables false
set_option linter.unusedSimpArgs false
open Go.RowKit Go.Deep
def nwF (fm : Int) : Int := if fm = 32 ∨ fm = 64 then fm else 0
theorem nform_impl (fm : Int) (w : World) :
    Calls Tryz.prog 145 #[.int .i64 fm] w fun e w' => ∃ n : Int, e = .returned (.int .i64 n) ∧ (n == 0) = (nwF fm == 0) ∧ Below w.heap.size w w' := by
  by_cases h1 : fm = 32
  · subst h1
    go_enter Tryz.func145, Tryz.ntmps145
    go_wp2
    go_ret
    exact ⟨1, rfl, rfl, Below.refl _ _⟩
  · by_cases h2 : fm = 64
    · subst h2
      go_enter Tryz.func145, Tryz.ntmps145
      go_wp2
      go_ret
      exact ⟨2, rfl, rfl, Below.refl _ _⟩
    · have e1 : (fm == 32) = false := by simpa using h1
      have e2 : (fm == 64) = false := by simpa using h2
      have H : Hid (nwF fm = 0) := hid (by unfold nwF; rw [if_neg (by omega)])
      clear h1 h2
      go_enter Tryz.func145, Tryz.ntmps145
      go_wp2
      go_ret
      exact ⟨0, rfl, by rw [H.out], Below.refl _ _⟩
theorem nform_spec (fm : Int) (w : World) :
    Calls Tryz.prog 120 #[.int .i64 fm] w fun e w' => e = .returned (.bool (!(nwF fm == 0))) ∧ Below w.heap.size w w' := by
  by_cases h1 : fm = 32
  · subst h1
    go_enter Tryz.func120, Tryz.ntmps120
    go_wp2
    go_ret
    exact ⟨rfl, Below.refl _ _⟩
  · by_cases h2 : fm = 64
    · subst h2
      go_enter Tryz.func120, Tryz.ntmps120
      go_wp2
      go_ret
      exact ⟨rfl, Below.refl _ _⟩
    · have e1 : (fm == 32) = false := by simpa using h1
      have e2 : (fm == 64) = false := by simpa using h2
      have H : Hid (nwF fm = 0) := hid (by unfold nwF; rw [if_neg (by omega)])
      clear h1 h2
      go_enter Tryz.func120, Tryz.ntmps120
      go_wp2
      go_ret
      exact ⟨ret_bool (by rw [H.out]; rfl), Below.refl _ _⟩
theorem nw_yes {fm : Int} (h : (nwF fm == 0) = false) : nwF fm = fm := by
  unfold nwF at *
  by_cases h1 : fm = 32 ∨ fm = 64
  · rw [if_pos h1]
  · rw [if_neg h1] at h; simp at h
theorem new_impl (fm : Int) (w : World) (f : Int) (hf : f = nwF fm) :
    Calls Tryz.prog 149 #[.int .i64 fm] w fun e w' => e = .returned (.agg #[.int .i64 f, .bool false, .slice none 0 0, .int .i64 0, .bool false, .bool false, .bool false, .bool false, .bool false]) ∧ Below w.heap.size w w' := by
  have C := hid (fun w' => nform_impl fm w')
  rw [← hf] at C
  have Q := Q9.new w (.int .i64 0) (.bool false) (.slice none 0 0) (.int .i64 0) (.bool false) (.bool false) (.bool false) (.bool false) (.bool false) 31
  cases h0 : (f == 0) with
  | true =>
    rw [h0] at C
    have hf0 : f = 0 := by simpa using h0
    subst hf0
    clear h0 hf
    go_enter Tryz.func149, Tryz.ntmps149
    go_wp2_with fail
    refine (C.out _).mono ?_
    first | (rintro e w1 ⟨n, rfl, hn, hb1⟩) | (rintro e w1 ⟨rfl, hb1⟩)
    obtain ⟨r0, r1, r2, r3, r4, r5, r6, r7, r8, f0, f1, f2, f3, f4, f5, f6, f7, f8⟩ := Q.below hb1
    clear Q
    go_wp2
    refine bodyPost_ret (v := .agg #[.int .i64 0, .bool false, .slice none 0 0, .int .i64 0, .bool false, .bool false, .bool false, .bool false, .bool false]) (by simp [results, Tryz.results149, go_sem, r0, r1, r2, r3, r4, r5, r6, r7, r8]) rfl ⟨rfl, ?_⟩
    exact (by (repeat with_reducible first | refine Below.setCell ?_ ?_ _ | exact bz0 _ _ | refine bz1 ?_ | refine bz2 ?_ _ | refine bz3 ?_ _ | refine bz4 ?_ hb1 | refine Below.alloc ?_ ?_ _ | refine Below.trans ?_ (Below.mono hb1 ?_)) <;> first | omega | (simp; done) | (simp; omega))
  | false =>
    rw [h0] at C
    have hff : f = fm := by rw [hf]; exact nw_yes (by rw [← hf]; exact h0)
    subst hff
    clear h0 hf
    go_enter Tryz.func149, Tryz.ntmps149
    go_wp2_with fail
    refine (C.out _).mono ?_
    first | (rintro e w1 ⟨n, rfl, hn, hb1⟩) | (rintro e w1 ⟨rfl, hb1⟩)
    obtain ⟨r0, r1, r2, r3, r4, r5, r6, r7, r8, f0, f1, f2, f3, f4, f5, f6, f7, f8⟩ := Q.below hb1
    clear Q
    go_wp2
    refine bodyPost_ret (v := .agg #[.int .i64 f, .bool false, .slice none 0 0, .int .i64 0, .bool false, .bool false, .bool false, .bool false, .bool false]) (by simp [results, Tryz.results149, go_sem, r0, r1, r2, r3, r4, r5, r6, r7, r8]) rfl ⟨rfl, ?_⟩
    exact (by (repeat with_reducible first | refine Below.setCell ?_ ?_ _ | exact bz0 _ _ | refine bz1 ?_ | refine bz2 ?_ _ | refine bz3 ?_ _ | refine bz4 ?_ hb1 | refine Below.alloc ?_ ?_ _ | refine Below.trans ?_ (Below.mono hb1 ?_)) <;> first | omega | (simp; done) | (simp; omega))
theorem new_spec (fm : Int) (w : World) (f : Int) (hf : f = nwF fm) :
    Calls Tryz.prog 74 #[.int .i64 fm] w fun e w' => e = .returned (.agg #[.int .i64 f, .bool false, .slice none 0 0, .int .i64 0, .bool false, .bool false, .bool false, .bool false, .bool false]) ∧ Below w.heap.size w w' := by
  have C := hid (fun w' => nform_spec fm w')
  rw [← hf] at C
  have Q := Q9.new w (.int .i64 0) (.bool false) (.slice none 0 0) (.int .i64 0) (.bool false) (.bool false) (.bool false) (.bool false) (.bool false) 31
  cases h0 : (f == 0) with
  | true =>
    rw [h0] at C
    have hf0 : f = 0 := by simpa using h0
    subst hf0
    clear h0 hf
    go_enter Tryz.func74, Tryz.ntmps74
    go_wp2_with fail
    refine (C.out _).mono ?_
    first | (rintro e w1 ⟨n, rfl, hn, hb1⟩) | (rintro e w1 ⟨rfl, hb1⟩)
    obtain ⟨r0, r1, r2, r3, r4, r5, r6, r7, r8, f0, f1, f2, f3, f4, f5, f6, f7, f8⟩ := Q.below hb1
    clear Q
    go_wp2
    refine bodyPost_ret (v := .agg #[.int .i64 0, .bool false, .slice none 0 0, .int .i64 0, .bool false, .bool false, .bool false, .bool false, .bool false]) (by simp [results, Tryz.results74, go_sem, r0, r1, r2, r3, r4, r5, r6, r7, r8]) rfl ⟨rfl, ?_⟩
    exact (by (repeat with_reducible first | refine Below.setCell ?_ ?_ _ | exact bz0 _ _ | refine bz1 ?_ | refine bz2 ?_ _ | refine bz3 ?_ _ | refine bz4 ?_ hb1 | refine Below.alloc ?_ ?_ _ | refine Below.trans ?_ (Below.mono hb1 ?_)) <;> first | omega | (simp; done) | (simp; omega))
  | false =>
    rw [h0] at C
    have hff : f = fm := by rw [hf]; exact nw_yes (by rw [← hf]; exact h0)
    subst hff
    clear h0 hf
    go_enter Tryz.func74, Tryz.ntmps74
    go_wp2_with fail
    refine (C.out _).mono ?_
    first | (rintro e w1 ⟨n, rfl, hn, hb1⟩) | (rintro e w1 ⟨rfl, hb1⟩)
    obtain ⟨r0, r1, r2, r3, r4, r5, r6, r7, r8, f0, f1, f2, f3, f4, f5, f6, f7, f8⟩ := Q.below hb1
    clear Q
    go_wp2
    refine bodyPost_ret (v := .agg #[.int .i64 f, .bool false, .slice none 0 0, .int .i64 0, .bool false, .bool false, .bool false, .bool false, .bool false]) (by simp [results, Tryz.results74, go_sem, r0, r1, r2, r3, r4, r5, r6, r7, r8]) rfl ⟨rfl, ?_⟩
    exact (by (repeat with_reducible first | refine Below.setCell ?_ ?_ _ | exact bz0 _ _ | refine bz1 ?_ | refine bz2 ?_ _ | refine bz3 ?_ _ | refine bz4 ?_ hb1 | refine Below.alloc ?_ ?_ _ | refine Below.trans ?_ (Below.mono hb1 ?_)) <;> first | omega | (simp; done) | (simp; omega))
theorem info64 : (Tryz.prog.info? 27).map (fun i => (i.zero, i.size, i.bytes)) = some (some (.int .u64 0), 1, 8) := by kernel_rfl
/-- k numbers are copied. -/
def copV (zs : List Int) (k : Nat) : Nat → Value := fun i => if i < k then .int .u64 (zs.getD i 0) else .int .u64 0
theorem copV_step {w : World} {b : Nat} {t : TypeId} {zs : List Int} {k : Nat} {u : Int} (h : w.rowIs b t zs.length (copV zs k)) (hu : u = zs.getD k 0) : (w.setCell ⟨b, k, none⟩ (.int .u64 u)).rowIs b t zs.length (copV zs (k + 1)) :=
  (h.set k _).congr fun i _ => by
    subst hu
    unfold copV
    by_cases e : i = k
    · subst e; simp
    · rw [if_neg e]
      by_cases hlt : i < k
      · rw [if_pos hlt, if_pos (by omega)]
      · rw [if_neg hlt, if_neg (by omega)]
theorem Sl.of_row64 {w : World} {b : Nat} {t : TypeId} {zs : List Int} {f : Nat → Value} (h : w.rowIs b t zs.length f) (hf : ∀ i, i < zs.length → f i = .int .u64 (zs.getD i 0)) (hm : zs.length ≤ maxLen) : Sl .u64 w (.slice (some ⟨b, 0, none⟩) zs.length zs.length) zs :=
  ⟨some ⟨b, 0, none⟩, zs.length, rfl, Nat.le_refl _, hm, .inr ⟨b, 0, rfl, fun i hi => by rw [Nat.zero_add, h.cell hi, hf i hi]⟩⟩
theorem toV_any (v : Value) (zs : List Int) (w : World) (hs : Sl .u64 w v zs) (hl : zs.length ≤ 1048576) :
    Calls Tryz.prog 23 #[v] w fun e w' => ∃ a' c', e = .returned (.slice a' zs.length c') ∧ Sl .u64 w' (.slice a' zs.length c') zs ∧ Below w.heap.size w w' := by
  obtain ⟨a, cap, rfl, hc1, hc2, hz⟩ := hs
  have hmk := run_make_row' (P := Tryz.prog) 38 27 (.int .u64 0) 8 Tryz.underlying38 info64 rfl .i64 .i64 zs.length (by omega) (by omega)
  go_enter Tryz.func23, Tryz.ntmps23
  go_wp2
  go_loopw [4] (fun i wr => ∃ k : Nat, k ≤ zs.length ∧ i = .int .i64 k ∧ wr.rowIs w.heap.size 27 zs.length (copV zs k) ∧ Below w.heap.size w wr) (fun i _ => zs.length - (intOf i).toNat)
  case atStart => exact ⟨0, Nat.zero_le _, rfl, (World.rowIs_made w _ zs.length 27).congr (fun j _ => by simp [copV]), (Below.refl _ _).alloc (Nat.le_refl _) _⟩
  case round =>
    obtain ⟨k, hk, rfl, hrow, hb⟩ := hrel
    by_cases hlt : k < zs.length
    · obtain ⟨b, off, rfl, hcell⟩ : ∃ b off, a = some ⟨b, off, none⟩ ∧ ∀ i, i < zs.length → w.cell? ⟨b, off + i, none⟩ = some (.int .u64 (zs.getD i 0)) := by
        rcases hz with rfl | hz
        · simp at hlt
        · exact hz
      have hc0 := hcell k hlt
      have hc : wr.cell? ⟨b, off + k, none⟩ = some (.int .u64 (zs.getD k 0)) := (hb.cell (p := ⟨b, off + k, none⟩) (World.block_lt_of_cell? w _ hc0)).trans hc0
      have hold := hrow.cell hlt
      have hfr := hrow.frozen k
      clear hz hcell hc0
      go_wp2
      go_roundw
      case rel => exact ⟨k + 1, by omega, by go_num, copV_step hrow (by simp [hlt]), hb.setCell (Nat.le_refl _) _⟩
      case measure => simp [intOf]; omega
    · obtain rfl : k = zs.length := by omega
      clear hz
      go_wp2
      go_ret
      exact ⟨_, _, rfl, Sl.of_row64 hrow (fun i hi => by simp [copV, hi]) (by unfold maxLen; omega), hb⟩
theorem eqV_same (a a' : Option Addr) (cap cap' : Nat) (xs : List Int) (w : World) (hx : Sl .u64 w (.slice a xs.length cap) xs) (hy : Sl .u64 w (.slice a' xs.length cap') xs) (hl : xs.length ≤ 140737488355328) :
    Calls Tryz.prog 26 #[.slice a xs.length cap, .slice a' xs.length cap'] w fun e w' => e = .returned (.bool true) ∧ Below w.heap.size w w' := by
  obtain ⟨-, hx1, hx2, hx3⟩ := hx.cells
  obtain ⟨-, hy1, hy2, hy3⟩ := hy.cells
  have hne : ((xs.length : Int) != (xs.length : Int)) = false := by simp
  go_enter Tryz.func26, Tryz.ntmps26
  go_wp2
  go_loopw [5] (fun i wr => ∃ k : Nat, k ≤ xs.length ∧ i = .int .i64 k ∧ Below w.heap.size w wr) (fun i _ => xs.length - (intOf i).toNat)
  case atStart => exact ⟨0, Nat.zero_le _, rfl, Below.refl _ _⟩
  case round =>
    obtain ⟨k, hk, rfl, hb⟩ := hrel
    by_cases hlt : k < xs.length
    · obtain ⟨b, off, rfl, hcx⟩ := hx3 (by omega)
      obtain ⟨b', off', rfl, hcy⟩ := hy3 (by omega)
      have h1 := hcx k hlt
      have h2 := hcy k hlt
      have h1 : wr.cell? ⟨b, off + k, none⟩ = some (.int .u64 (xs.getD k 0)) := (hb.cell (p := ⟨b, off + k, none⟩) (World.block_lt_of_cell? w _ h1)).trans h1
      have h2 : wr.cell? ⟨b', off' + k, none⟩ = some (.int .u64 (xs.getD k 0)) := (hb.cell (p := ⟨b', off' + k, none⟩) (World.block_lt_of_cell? w _ h2)).trans h2
      clear hx3 hy3 hcx hcy
      obtain ⟨x, hxk⟩ : ∃ x, x = xs.getD k 0 := ⟨_, rfl⟩
      rw [← hxk] at h1 h2
      clear hxk
      have hbe : (x != x) = false := by simp
      go_wp2
      go_region
      all_goals go_wp2
      all_goals go_roundw
      case rel => exact ⟨k + 1, by omega, by go_num, (by repeat (first | exact bz0 _ _ | refine bz1 ?_ | refine bz2 ?_ _ | refine bz3 ?_ _ | refine bz4 ?_ hb | refine bz5 ?_ _ | refine bz6 ?_ _ | refine bz7 ?_ hb))⟩
      case measure => simp [intOf]; omega
    · obtain rfl : k = xs.length := by omega
      clear hx3 hy3
      go_wp2
      go_ret
      exact ⟨rfl, hb⟩
/-- What is wrong with a vector. -/
def vecC (fm mode : Int) (xs : List Int) : Int := if fmtB fm && modeB mode then (if xs.length ≤ 300 then (if allB fm xs then 0 else 4) else 2) else 1
theorem form_impl (fm : Int) (w : World) :
    Calls Tryz.prog 145 #[.int .i64 fm] w fun e w' => e = .returned (.int .i64 (if fm = 32 then 1 else if fm = 64 then 2 else 0)) ∧ w' = w := by
  by_cases h1 : fm = 32
  · subst h1
    go_enter Tryz.func145, Tryz.ntmps145
    go_wp2
    go_ret
    exact ⟨rfl, rfl⟩
  · by_cases h2 : fm = 64
    · subst h2
      go_enter Tryz.func145, Tryz.ntmps145
      go_wp2
      go_ret
      exact ⟨rfl, rfl⟩
    · have e1 : (fm == 32) = false := by simpa using h1
      have e2 : (fm == 64) = false := by simpa using h2
      rw [if_neg h1, if_neg h2]
      clear h1 h2
      go_enter Tryz.func145, Tryz.ntmps145
      go_wp2
      go_ret
      exact ⟨rfl, rfl⟩
theorem form_B (fm : Int) (w : World) :
    Calls Tryz.prog 145 #[.int .i64 fm] w fun e w' => ∃ n : Int, e = .returned (.int .i64 n) ∧ (n == 0) = !fmtB fm ∧ Below w.heap.size w w' := (form_impl fm w).mono fun e w' ⟨h, h'⟩ => by
  subst h'
  refine ⟨_, h, ?_, Below.refl _ _⟩
  unfold fmtB
  by_cases h1 : fm = 32
  · subst h1; decide
  · by_cases h2 : fm = 64
    · subst h2; decide
    · rw [if_neg h1, if_neg h2, decide_eq_false h1, decide_eq_false h2]; rfl
theorem vec_form {fm mode : Int} {xs : List Int} (h : (fmtB fm && modeB mode) = false) : vecC fm mode xs = 1 := by unfold vecC; rw [h]; rfl
theorem vec_many {fm mode : Int} {xs : List Int} (h : (fmtB fm && modeB mode) = true) (h' : ¬ xs.length ≤ 300) : vecC fm mode xs = 2 := by unfold vecC; rw [h, if_pos rfl, if_neg h']
theorem vec_fits {fm mode : Int} {xs : List Int} (h : (fmtB fm && modeB mode) = true) (h' : xs.length ≤ 300) : vecC fm mode xs = if allB fm xs then 0 else 4 := by unfold vecC; rw [h, if_pos rfl, if_pos h']
theorem vcode_impl (fm mode : Int) (a : Option Addr) (cap : Nat) (xs : List Int) (B : Nat) (w : World) (hT : Tab w) (hx : Sl .u64 w (.slice a xs.length cap) xs) (dx : D64 xs) (hl : xs.length ≤ 1048576) (hB : w.cell? ⟨B, 0, none⟩ = some (.slice a xs.length cap)) :
    Calls Tryz.prog 77 #[.int .i64 fm, .int .i64 mode, .slice (some ⟨B, 0, none⟩) 1 1] w fun e w' => e = .returned (.int .i64 (vecC fm mode xs)) ∧ Below w.heap.size w w' := by
  have CF := hid (fun w' => form_B fm w')
  have CM := hid (fun w' => mode_impl mode w')
  have CA := hid (fun w' h h' => allf_impl fm a cap xs w' h h' dx hl)
  have H1 := hid (vec_form (fm := fm) (mode := mode) (xs := xs))
  have H2 := hid (vec_many (fm := fm) (mode := mode) (xs := xs))
  have H3 := hid (vec_fits (fm := fm) (mode := mode) (xs := xs))
  clear dx
  have hlt := World.block_lt_of_cell? w _ hB
  have hnn : ((xs.length : Int) != (xs.length : Int)) = false := by simp
  cases hf : fmtB fm with
  | false =>
    rw [hf] at CF
    have H1 := hid (H1.out (by rw [hf]; rfl))
    clear H2 H3 CA hf CM
    go_enter Tryz.func77, Tryz.ntmps77
    go_wp2_with fail
    refine (CF.out _).mono ?_
    rintro e w1 ⟨n, rfl, hn, hb1⟩
    simp only [Bool.not_false] at hn
    go_wp2
    go_ret
    exact ⟨ret_int H1.out.symm, (by repeat (first | exact bz0 _ _ | refine bz1 ?_ | refine bz2 ?_ _ | refine bz3 ?_ _ | refine bz4 ?_ hb1 | refine bz5 ?_ _ | refine bz6 ?_ _ | refine bz7 ?_ hb1))⟩
  | true =>
  rw [hf] at CF
  cases hm : modeB mode with
  | false =>
    rw [hm] at CM
    have H1 := hid (H1.out (by rw [hf, hm]; rfl))
    clear H2 H3 CA hf hm
    go_enter Tryz.func77, Tryz.ntmps77
    go_wp2_with fail
    refine (CF.out _).mono ?_
    rintro e w1 ⟨n, rfl, hn, hb1⟩
    simp only [Bool.not_true] at hn
    go_wp2_with fail
    refine (CM.out _).mono ?_
    rintro e w2 ⟨rfl, rfl⟩
    go_wp2
    go_ret
    exact ⟨ret_int H1.out.symm, (by repeat (first | exact bz0 _ _ | refine bz1 ?_ | refine bz2 ?_ _ | refine bz3 ?_ _ | refine bz4 ?_ hb1 | refine bz5 ?_ _ | refine bz6 ?_ _ | refine bz7 ?_ hb1))⟩
  | true =>
  rw [hm] at CM
  by_cases h3 : xs.length ≤ 300
  · have H3 := hid (H3.out (by rw [hf, hm]; rfl) h3)
    clear H1 H2 hf hm
    obtain ⟨r, hr⟩ : ∃ r, r = allB fm xs := ⟨_, rfl⟩
    rw [← hr] at CA H3
    clear hr
    cases r with
    | true =>
      go_enter Tryz.func77, Tryz.ntmps77
      go_wp2_with fail
      refine (CF.out _).mono ?_
      rintro e w1 ⟨n, rfl, hn, hb1⟩
      simp only [Bool.not_true] at hn
      have b1 := (hb1.cell (p := ⟨B, 0, none⟩) hlt).trans hB
      go_wp2_with fail
      refine (CM.out _).mono ?_
      rintro e w2 ⟨rfl, rfl⟩
      go_wp2_with fail
      refine wp_loop_rounds 2 ?_
      rw [rounds_succ]
      go_wp2_with fail
      rw [rounds_succ]
      go_wp2_with fail
      refine wp_loop_rounds 2 ?_
      rw [rounds_succ]
      go_wp2_with fail
      rw [rounds_succ]
      go_wp2_with fail
      refine wp_loop_rounds 2 ?_
      rw [rounds_succ]
      go_wp2_with fail
      refine (CA.out _ (hT.below hb1) (hx.below hb1)).mono ?_
      rintro e w3 ⟨rfl, hb3⟩
      go_wp2_with fail
      rw [rounds_succ]
      go_wp2
      go_ret
      exact ⟨ret_int H3.out.symm, bel_go hb1 hb3⟩
    | false =>
      go_enter Tryz.func77, Tryz.ntmps77
      go_wp2_with fail
      refine (CF.out _).mono ?_
      rintro e w1 ⟨n, rfl, hn, hb1⟩
      simp only [Bool.not_true] at hn
      have b1 := (hb1.cell (p := ⟨B, 0, none⟩) hlt).trans hB
      go_wp2_with fail
      refine (CM.out _).mono ?_
      rintro e w2 ⟨rfl, rfl⟩
      go_wp2_with fail
      refine wp_loop_rounds 2 ?_
      rw [rounds_succ]
      go_wp2_with fail
      rw [rounds_succ]
      go_wp2_with fail
      refine wp_loop_rounds 2 ?_
      rw [rounds_succ]
      go_wp2_with fail
      rw [rounds_succ]
      go_wp2_with fail
      refine wp_loop_rounds 2 ?_
      rw [rounds_succ]
      go_wp2_with fail
      refine (CA.out _ (hT.below hb1) (hx.below hb1)).mono ?_
      rintro e w3 ⟨rfl, hb3⟩
      go_wp2
      go_ret
      exact ⟨ret_int H3.out.symm, bel_go hb1 hb3⟩
  · have H2 := hid (H2.out (by rw [hf, hm]; rfl) h3)
    clear H1 H3 hf hm CA
    go_enter Tryz.func77, Tryz.ntmps77
    go_wp2_with fail
    refine (CF.out _).mono ?_
    rintro e w1 ⟨n, rfl, hn, hb1⟩
    simp only [Bool.not_true] at hn
    have b1 := (hb1.cell (p := ⟨B, 0, none⟩) hlt).trans hB
    go_wp2_with fail
    refine (CM.out _).mono ?_
    rintro e w2 ⟨rfl, rfl⟩
    go_wp2_with fail
    refine wp_loop_rounds 2 ?_
    rw [rounds_succ]
    go_wp2
    go_ret
    exact ⟨ret_int H2.out.symm, (by repeat (first | exact bz0 _ _ | refine bz1 ?_ | refine bz2 ?_ _ | refine bz3 ?_ _ | refine bz4 ?_ hb1 | refine bz5 ?_ _ | refine bz6 ?_ _ | refine bz7 ?_ hb1))⟩
/-- What is wrong with two vectors. -/
def vec2 (fm mode : Int) (xs ys : List Int) : Int := if fmtB fm && modeB mode then (if xs.length ≤ 300 ∧ ys.length ≤ 300 then (if xs.length = ys.length then (if allB fm xs && allB fm ys then 0 else 4) else 3) else 2) else 1
theorem vec2_self (fm mode : Int) (xs : List Int) : vec2 fm mode xs xs = vecC fm mode xs := by
  unfold vec2 vecC
  by_cases h : xs.length ≤ 300
  · simp [h]
  · simp [h]
theorem v2_form {fm mode : Int} {xs ys : List Int} (h : (fmtB fm && modeB mode) = false) : vec2 fm mode xs ys = 1 := by unfold vec2; rw [h]; rfl
theorem v2_many {fm mode : Int} {xs ys : List Int} (h : (fmtB fm && modeB mode) = true) (h' : 300 < xs.length ∨ 300 < ys.length) : vec2 fm mode xs ys = 2 := by unfold vec2; rw [h, if_pos rfl, if_neg (by omega)]
theorem v2_len {fm mode : Int} {xs ys : List Int} (h : (fmtB fm && modeB mode) = true) (h1 : xs.length ≤ 300) (h2 : ys.length ≤ 300) (h' : xs.length ≠ ys.length) : vec2 fm mode xs ys = 3 := by unfold vec2; rw [h, if_pos rfl, if_pos ⟨h1, h2⟩, if_neg h']
theorem v2_fits {fm mode : Int} {xs ys : List Int} (h : (fmtB fm && modeB mode) = true) (h1 : xs.length ≤ 300) (h2 : ys.length ≤ 300) (h' : xs.length = ys.length) : vec2 fm mode xs ys = if allB fm xs && allB fm ys then 0 else 4 := by unfold vec2; rw [h, if_pos rfl, if_pos ⟨h1, h2⟩, if_pos h']
theorem l8_fits (fm mode : Int) (a b : Option Addr) (cap cap' : Nat) (xs ys : List Int) (w : World) (hx : Sl .u64 w (.slice a xs.length cap) xs) (hy : Sl .u64 w (.slice b ys.length cap') ys) (hk : fmtB fm = true) (hm : modeB mode = true) (h1 : xs.length ≤ 300) (h2 : ys.length ≤ 300) (hl : xs.length = ys.length) :
    Calls Tryz.prog 73 #[.int .i64 fm, .int .i64 mode, .slice a xs.length cap, .slice b ys.length cap'] w fun e w' => e = .returned (.int .i64 (if allB fm xs && allB fm ys then 0 else 4)) ∧ Below w.heap.size w w' := by
  obtain ⟨-, hx1, hx2, hx3⟩ := hx.cells
  obtain ⟨-, hy1, hy2, hy3⟩ := hy.cells
  have CF := hid (fun w' => fmt_spec fm w')
  have CM := hid (fun w' => mode_spec mode w')
  rw [hk] at CF
  rw [hm] at CM
  have CO := hid (fun x w' => spec_ok fm x w')
  have hne : ((xs.length : Int) != (ys.length : Int)) = false := by simp [hl]
  have HL := hid hl
  have hl1 : xs.length ≤ ys.length := by omega
  have hl2 : ys.length ≤ xs.length := by omega
  clear hl hk hm
  obtain ⟨c, hc⟩ : ∃ c : Int, c = if allB fm xs && allB fm ys then 0 else 4 := ⟨_, rfl⟩
  rw [← hc]
  have HC1 : Hid (allB fm xs = false → c = 4) := hid (fun h => by rw [hc, h]; rfl)
  have HC2 : Hid (allB fm ys = false → c = 4) := hid (fun h => by rw [hc, h, Bool.and_false]; rfl)
  have HC3 : Hid (allB fm xs = true → allB fm ys = true → c = 0) := hid (fun h h' => by rw [hc, h, h']; rfl)
  clear hc
  go_enter Tryz.func73, Tryz.ntmps73
  go_wp2_with fail
  refine (CF.out _).mono ?_
  rintro e w1 ⟨rfl, rfl⟩
  go_wp2_with fail
  refine (CM.out _).mono ?_
  rintro e w2 ⟨rfl, rfl⟩
  go_wp2_with fail
  go_loopw [9] (fun i wr => ∃ k : Nat, k ≤ xs.length ∧ i = .int .i64 k ∧ (∀ j, j < k → okF fm (xs.getD j 0) = true ∧ okF fm (ys.getD j 0) = true) ∧ Below w2.heap.size w2 wr) (fun i _ => xs.length - (intOf i).toNat)
  case atStart => exact ⟨0, Nat.zero_le _, rfl, fun j hj => absurd hj (Nat.not_lt_zero _), Below.refl _ _⟩
  case round =>
    obtain ⟨k, hk, rfl, hpre, hb⟩ := hrel
    have PRE := hid hpre
    clear hpre
    by_cases hlt : k < xs.length
    · obtain ⟨g, off, rfl, hcx⟩ := hx3 (by omega)
      obtain ⟨g', off', rfl, hcy⟩ := hy3 (by omega)
      have c1 := hcx k hlt
      have c2 := hcy k (by omega)
      have c1 : wr.cell? ⟨g, off + k, none⟩ = some (.int .u64 (xs.getD k 0)) := (hb.cell (p := ⟨g, off + k, none⟩) (World.block_lt_of_cell? w2 _ c1)).trans c1
      have c2 : wr.cell? ⟨g', off' + k, none⟩ = some (.int .u64 (ys.getD k 0)) := (hb.cell (p := ⟨g', off' + k, none⟩) (World.block_lt_of_cell? w2 _ c2)).trans c2
      clear hx3 hy3 hcx hcy
      have hlt' : k < ys.length := by omega
      have HN1 := hid (allB_no (fm := fm) hlt)
      have HN2 := hid (allB_no (fm := fm) hlt')
      obtain ⟨x, hxk⟩ : ∃ x, x = xs.getD k 0 := ⟨_, rfl⟩
      obtain ⟨y, hyk⟩ : ∃ y, y = ys.getD k 0 := ⟨_, rfl⟩
      have PRE2 : Hid (okF fm x = true → okF fm y = true → ∀ j, j < k + 1 → okF fm (xs.getD j 0) = true ∧ okF fm (ys.getD j 0) = true) := hid (fun h h' j hj => by
        by_cases e : j = k
        · subst e; rw [← hxk, ← hyk]; exact ⟨h, h'⟩
        · exact PRE.out j (by omega))
      rw [← hxk] at c1 HN1
      rw [← hyk] at c2 HN2
      have C1 := hid (fun w' => CO.out x w')
      have C2 := hid (fun w' => CO.out y w')
      clear hxk hyk CO PRE
      cases ox : okF fm x with
      | false =>
        have HN := hid (HC1.out (HN1.out ox))
        rw [ox] at C1
        clear ox HN1 HN2 PRE2 C2
        go_wp2_with fail
        refine (C1.out _).mono ?_
        rintro e w3 ⟨rfl, hb3⟩
        go_wp2
        go_ret
        exact ⟨ret_int HN.out.symm, bel_go hb hb3⟩
      | true =>
      rw [ox] at C1
      cases oy : okF fm y with
      | false =>
        have HN := hid (HC2.out (HN2.out oy))
        rw [oy] at C2
        clear ox oy HN1 HN2 PRE2
        go_wp2_with fail
        refine (C1.out _).mono ?_
        rintro e w3 ⟨rfl, hb3⟩
        have c2 := (hb3.cell (p := ⟨g', off' + k, none⟩) (World.block_lt_of_cell? wr _ c2)).trans c2
        go_wp2_with fail
        refine (C2.out _).mono ?_
        rintro e w4 ⟨rfl, hb4⟩
        go_wp2
        go_ret
        exact ⟨ret_int HN.out.symm, bel_go (bel_go hb hb3) hb4⟩
      | true =>
        have PRE3 := hid (PRE2.out ox oy)
        rw [oy] at C2
        clear ox oy HN1 HN2 PRE2
        go_wp2_with fail
        refine (C1.out _).mono ?_
        rintro e w3 ⟨rfl, hb3⟩
        have c2 := (hb3.cell (p := ⟨g', off' + k, none⟩) (World.block_lt_of_cell? wr _ c2)).trans c2
        go_wp2_with fail
        refine (C2.out _).mono ?_
        rintro e w4 ⟨rfl, hb4⟩
        go_wp2
        go_roundw
        case rel => exact ⟨k + 1, by omega, by go_num, PRE3.out, bel_go (bel_go hb hb3) hb4⟩
        case measure => simp [intOf]; omega
    · obtain rfl : k = xs.length := by omega
      have HY := hid (HC3.out (allB_yes (fun j hj => (PRE.out j hj).1)) (allB_yes (fun j hj => (PRE.out j (by omega)).2)))
      clear hx3 hy3 CO PRE
      go_wp2
      go_ret
      exact ⟨ret_int HY.out.symm, hb⟩
theorem l8_spec (fm mode : Int) (a b : Option Addr) (cap cap' : Nat) (xs ys : List Int) (w : World) (hx : Sl .u64 w (.slice a xs.length cap) xs) (hy : Sl .u64 w (.slice b ys.length cap') ys) (hlx : xs.length ≤ 1048576) (hly : ys.length ≤ 1048576) :
    Calls Tryz.prog 73 #[.int .i64 fm, .int .i64 mode, .slice a xs.length cap, .slice b ys.length cap'] w fun e w' => e = .returned (.int .i64 (vec2 fm mode xs ys)) ∧ Below w.heap.size w w' := by
  have CF := hid (fun w' => fmt_spec fm w')
  have CM := hid (fun w' => mode_spec mode w')
  cases hk : fmtB fm with
  | false =>
    rw [hk] at CF
    have HR := hid (v2_form (mode := mode) (xs := xs) (ys := ys) (show (fmtB fm && modeB mode) = false by rw [hk]; rfl))
    clear hk
    go_enter Tryz.func73, Tryz.ntmps73
    go_wp2_with fail
    refine (CF.out _).mono ?_
    rintro e w1 ⟨rfl, rfl⟩
    go_wp2
    go_ret
    exact ⟨ret_int HR.out.symm, Below.refl _ _⟩
  | true =>
  rw [hk] at CF
  cases hm : modeB mode with
  | false =>
    rw [hm] at CM
    have HR := hid (v2_form (xs := xs) (ys := ys) (show (fmtB fm && modeB mode) = false by rw [hk, hm]; rfl))
    clear hk hm
    go_enter Tryz.func73, Tryz.ntmps73
    go_wp2_with fail
    refine (CF.out _).mono ?_
    rintro e w1 ⟨rfl, rfl⟩
    go_wp2_with fail
    refine (CM.out _).mono ?_
    rintro e w2 ⟨rfl, rfl⟩
    go_wp2
    go_ret
    exact ⟨ret_int HR.out.symm, Below.refl _ _⟩
  | true =>
  have hkm : (fmtB fm && modeB mode) = true := by rw [hk, hm]; rfl
  rw [hm] at CM
  by_cases h1 : xs.length ≤ 300
  · by_cases h2 : ys.length ≤ 300
    · by_cases hl : xs.length = ys.length
      · rw [v2_fits hkm h1 h2 hl]
        exact l8_fits fm mode a b cap cap' xs ys w hx hy hk hm h1 h2 hl
      · have HR := hid (v2_len hkm h1 h2 hl)
        have hne : ((xs.length : Int) != (ys.length : Int)) = true := by simp; omega
        clear hkm hk hm hl
        go_enter Tryz.func73, Tryz.ntmps73
        go_wp2_with fail
        refine (CF.out _).mono ?_
        rintro e w1 ⟨rfl, rfl⟩
        go_wp2_with fail
        refine (CM.out _).mono ?_
        rintro e w2 ⟨rfl, rfl⟩
        go_wp2
        go_ret
        exact ⟨ret_int HR.out.symm, Below.refl _ _⟩
    · have HR := hid (v2_many (xs := xs) (ys := ys) hkm (.inr (by omega)))
      clear hkm hk hm
      go_enter Tryz.func73, Tryz.ntmps73
      go_wp2_with fail
      refine (CF.out _).mono ?_
      rintro e w1 ⟨rfl, rfl⟩
      go_wp2_with fail
      refine (CM.out _).mono ?_
      rintro e w2 ⟨rfl, rfl⟩
      go_wp2
      go_ret
      exact ⟨ret_int HR.out.symm, Below.refl _ _⟩
  · have HR := hid (v2_many (xs := xs) (ys := ys) hkm (.inl (by omega)))
    clear hkm hk hm
    go_enter Tryz.func73, Tryz.ntmps73
    go_wp2_with fail
    refine (CF.out _).mono ?_
    rintro e w1 ⟨rfl, rfl⟩
    go_wp2_with fail
    refine (CM.out _).mono ?_
    rintro e w2 ⟨rfl, rfl⟩
    go_wp2
    go_ret
    exact ⟨ret_int HR.out.symm, Below.refl _ _⟩
/-- What comes of terms with these marks: nan, inf, sg: the format's; z: their sum is 0; rb, rf: else that. -/
def clB (nan inf sg mode T : Int) (nn bd pl mi am z : Bool) (rb : Int) : Int := if bd || (pl && mi) || nn then nan else if pl || mi then sgn sg inf mi else if z then sgn sg 0 (am || (decide (mode = 3) && decide (0 < T))) else rb
def clF (nn bd pl mi z : Bool) (rf : Int) : Int := if bd || (pl && mi) then 8 else if nn || pl || mi || z then 0 else rf
theorem cl_bd (nan inf sg mode T : Int) (nn pl mi am z : Bool) (rb rf : Int) : clB nan inf sg mode T nn true pl mi am z rb = nan ∧ clF nn true pl mi z rf = 8 := ⟨rfl, rfl⟩
theorem cl_pm (nan inf sg mode T : Int) (nn bd am z : Bool) (rb rf : Int) : clB nan inf sg mode T nn bd true true am z rb = nan ∧ clF nn bd true true z rf = 8 := by cases bd <;> exact ⟨rfl, rfl⟩
theorem cl_nn (nan inf sg mode T : Int) (pl mi am z : Bool) (h : (pl && mi) = false) (rb rf : Int) : clB nan inf sg mode T true false pl mi am z rb = nan ∧ clF true false pl mi z rf = 0 := by cases pl <;> cases mi <;> first | exact ⟨rfl, rfl⟩ | cases h
theorem cl_pl (nan inf sg mode T : Int) (am z : Bool) (rb rf : Int) : clB nan inf sg mode T false false true false am z rb = sgn sg inf false ∧ clF false false true false z rf = 0 := ⟨rfl, rfl⟩
theorem cl_mi (nan inf sg mode T : Int) (am z : Bool) (rb rf : Int) : clB nan inf sg mode T false false false true am z rb = sgn sg inf true ∧ clF false false false true z rf = 0 := ⟨rfl, rfl⟩
theorem cl_z (nan inf sg mode T : Int) (am : Bool) (rb rf : Int) : clB nan inf sg mode T false false false false am true rb = sgn sg 0 (am || (decide (mode = 3) && decide (0 < T))) ∧ clF false false false false true rf = 0 := ⟨rfl, rfl⟩
theorem cl_r (nan inf sg mode T : Int) (am : Bool) (rb rf : Int) : clB nan inf sg mode T false false false false am false rb = rb ∧ clF false false false false false rf = rf := ⟨rfl, rfl⟩
theorem mrd_32 (T : Int) (nn bd pl mi am : Bool) (mode : Int) (ng : Bool) (zs : List Int) (e : Int) (p : Option Addr) (cap : Nat) (w : World) (hT : T3 w) (hs : Sl .u32 w (.slice p zs.length cap) zs) (hz : Nm.Dg zs) (hl : zs.length ≤ 1048576) (rb rf : Int) (hrb : rb = RdB 32 mode ng zs e) (hrf : rf = RdF 32 mode ng zs e) (hro : RdO 32 mode ng zs e = true) :
    Calls Tryz.prog 186 #[.agg #[.int .i64 T, .bool nn, .bool bd, .bool pl, .bool mi, .bool am], .int .i64 32, .int .i64 mode, .agg #[.bool ng, .slice p zs.length cap], .int .i64 e] w fun x w' => x = .returned (.tuple #[.int .u64 (clB 2143289344 2139095040 2147483648 mode T nn bd pl mi am (decide (zs.length = 0)) rb), .int .i64 (clF nn bd pl mi (decide (zs.length = 0)) rf), .bool true]) ∧ Below w.heap.size w w' := by
  have CR := hid (fun w' h h' => rounded_impl 32 mode ng zs e p cap w' h h' hz hl)
  rw [← hrb, ← hrf, hro] at CR
  clear hrb hrf hro
  obtain ⟨z, hz0⟩ : ∃ z, z = decide (zs.length = 0) := ⟨_, rfl⟩
  rw [← hz0]
  have hb0 : ((zs.length : Int) == 0) = z := by rw [hz0, Bool.eq_iff_iff, beq_iff_eq, decide_eq_true_eq]; omega
  clear hz0 hz
  cases bd with
  | true =>
    have HR := hid (cl_bd 2143289344 2139095040 2147483648 mode T nn pl mi am z rb rf)
    clear CR
    go_enter Tryz.func186, Tryz.ntmps186
    go_wp2_with fail
    refine (impl_nan32 _ ((hT.s.f.al _).al _)).mono ?_
    rintro x w1 ⟨rfl, hb1⟩
    go_wp2
    go_ret3
    exact ⟨ret_uib2 HR.out.1.symm HR.out.2.symm rfl, (by repeat (first | exact bz0 _ _ | refine bz1 ?_ | refine bz2 ?_ _ | refine bz3 ?_ _ | refine bz4 ?_ hb1 | refine bz5 ?_ _ | refine bz6 ?_ _ | refine bz7 ?_ hb1))⟩
  | false =>
  cases hpm : (pl && mi) with
  | true =>
    obtain ⟨rfl, rfl⟩ : pl = true ∧ mi = true := by simpa using hpm
    have HR := hid (cl_pm 2143289344 2139095040 2147483648 mode T nn false am z rb rf)
    clear CR hpm
    go_enter Tryz.func186, Tryz.ntmps186
    go_wp2_with fail
    refine (impl_nan32 _ ((hT.s.f.al _).al _)).mono ?_
    rintro x w1 ⟨rfl, hb1⟩
    go_wp2
    go_ret3
    exact ⟨ret_uib2 HR.out.1.symm HR.out.2.symm rfl, (by repeat (first | exact bz0 _ _ | refine bz1 ?_ | refine bz2 ?_ _ | refine bz3 ?_ _ | refine bz4 ?_ hb1 | refine bz5 ?_ _ | refine bz6 ?_ _ | refine bz7 ?_ hb1))⟩
  | false =>
  cases nn with
  | true =>
    have HR := hid (cl_nn 2143289344 2139095040 2147483648 mode T pl mi am z hpm rb rf)
    clear CR
    cases pl with
    | false =>
      clear hpm
      go_enter Tryz.func186, Tryz.ntmps186
      go_wp2_with fail
      refine (impl_nan32 _ ((hT.s.f.al _).al _)).mono ?_
      rintro x w1 ⟨rfl, hb1⟩
      go_wp2
      go_ret3
      exact ⟨ret_uib2 HR.out.1.symm HR.out.2.symm rfl, (by repeat (first | exact bz0 _ _ | refine bz1 ?_ | refine bz2 ?_ _ | refine bz3 ?_ _ | refine bz4 ?_ hb1 | refine bz5 ?_ _ | refine bz6 ?_ _ | refine bz7 ?_ hb1))⟩
    | true =>
      obtain rfl : mi = false := by simpa using hpm
      clear hpm
      go_enter Tryz.func186, Tryz.ntmps186
      go_wp2_with fail
      refine (impl_nan32 _ ((hT.s.f.al _).al _)).mono ?_
      rintro x w1 ⟨rfl, hb1⟩
      go_wp2
      go_ret3
      exact ⟨ret_uib2 HR.out.1.symm HR.out.2.symm rfl, (by repeat (first | exact bz0 _ _ | refine bz1 ?_ | refine bz2 ?_ _ | refine bz3 ?_ _ | refine bz4 ?_ hb1 | refine bz5 ?_ _ | refine bz6 ?_ _ | refine bz7 ?_ hb1))⟩
  | false =>
  cases pl with
  | true =>
    obtain rfl : mi = false := by simpa using hpm
    have HR := hid (cl_pl 2143289344 2139095040 2147483648 mode T am z rb rf)
    clear CR hpm
    go_enter Tryz.func186, Tryz.ntmps186
    go_wp2_with fail
    refine (impl_Inf32 false _ ((hT.s.f.al _).al _)).mono ?_
    rintro x w1 ⟨rfl, hb1⟩
    go_wp2
    go_ret3
    exact ⟨ret_uib2 HR.out.1.symm HR.out.2.symm rfl, (by repeat (first | exact bz0 _ _ | refine bz1 ?_ | refine bz2 ?_ _ | refine bz3 ?_ _ | refine bz4 ?_ hb1 | refine bz5 ?_ _ | refine bz6 ?_ _ | refine bz7 ?_ hb1))⟩
  | false =>
  clear hpm
  cases mi with
  | true =>
    have HR := hid (cl_mi 2143289344 2139095040 2147483648 mode T am z rb rf)
    clear CR
    go_enter Tryz.func186, Tryz.ntmps186
    go_wp2_with fail
    refine (impl_Inf32 true _ ((hT.s.f.al _).al _)).mono ?_
    rintro x w1 ⟨rfl, hb1⟩
    go_wp2
    go_ret3
    exact ⟨ret_uib2 HR.out.1.symm HR.out.2.symm rfl, (by repeat (first | exact bz0 _ _ | refine bz1 ?_ | refine bz2 ?_ _ | refine bz3 ?_ _ | refine bz4 ?_ hb1 | refine bz5 ?_ _ | refine bz6 ?_ _ | refine bz7 ?_ hb1))⟩
  | false =>
  cases z with
  | false =>
    have HR := hid (cl_r 2143289344 2139095040 2147483648 mode T am rb rf)
    go_enter Tryz.func186, Tryz.ntmps186
    go_wp2_with fail
    refine (CR.out _ ((hT.al _).al _) ((hs.alloc _).alloc _)).mono ?_
    rintro x w1 ⟨rfl, hb1⟩
    go_wp2
    go_ret3
    exact ⟨ret_uib2 HR.out.1.symm HR.out.2.symm rfl, (by repeat (first | exact bz0 _ _ | refine bz1 ?_ | refine bz2 ?_ _ | refine bz3 ?_ _ | refine bz4 ?_ hb1 | refine bz5 ?_ _ | refine bz6 ?_ _ | refine bz7 ?_ hb1))⟩
  | true =>
    have HR := hid (cl_z 2143289344 2139095040 2147483648 mode T am rb rf)
    clear CR
    cases am with
    | true =>
      go_enter Tryz.func186, Tryz.ntmps186
      go_wp2_with fail
      refine (impl_Zero32 true _ ((hT.s.f.al _).al _)).mono ?_
      rintro x w1 ⟨rfl, hb1⟩
      go_wp2
      go_ret3
      exact ⟨ret_uib2 HR.out.1.symm HR.out.2.symm rfl, (by repeat (first | exact bz0 _ _ | refine bz1 ?_ | refine bz2 ?_ _ | refine bz3 ?_ _ | refine bz4 ?_ hb1 | refine bz5 ?_ _ | refine bz6 ?_ _ | refine bz7 ?_ hb1))⟩
    | false =>
      by_cases hm3 : mode = 3
      · subst hm3
        by_cases ht : 0 < T
        · rw [decide_eq_true ht] at HR
          go_enter Tryz.func186, Tryz.ntmps186
          go_wp2_with fail
          refine (impl_Zero32 true _ ((hT.s.f.al _).al _)).mono ?_
          rintro x w1 ⟨rfl, hb1⟩
          go_wp2
          go_ret3
          exact ⟨ret_uib2 HR.out.1.symm HR.out.2.symm rfl, (by repeat (first | exact bz0 _ _ | refine bz1 ?_ | refine bz2 ?_ _ | refine bz3 ?_ _ | refine bz4 ?_ hb1 | refine bz5 ?_ _ | refine bz6 ?_ _ | refine bz7 ?_ hb1))⟩
        · rw [decide_eq_false ht] at HR
          go_enter Tryz.func186, Tryz.ntmps186
          go_wp2_with fail
          refine (impl_Zero32 false _ ((hT.s.f.al _).al _)).mono ?_
          rintro x w1 ⟨rfl, hb1⟩
          go_wp2
          go_ret3
          exact ⟨ret_uib2 HR.out.1.symm HR.out.2.symm rfl, (by repeat (first | exact bz0 _ _ | refine bz1 ?_ | refine bz2 ?_ _ | refine bz3 ?_ _ | refine bz4 ?_ hb1 | refine bz5 ?_ _ | refine bz6 ?_ _ | refine bz7 ?_ hb1))⟩
      · have hm3' : (mode == 3) = false := by simpa using hm3
        rw [decide_eq_false hm3] at HR
        clear hm3
        go_enter Tryz.func186, Tryz.ntmps186
        go_wp2_with fail
        refine (impl_Zero32 false _ ((hT.s.f.al _).al _)).mono ?_
        rintro x w1 ⟨rfl, hb1⟩
        go_wp2
        go_ret3
        exact ⟨ret_uib2 HR.out.1.symm HR.out.2.symm rfl, (by repeat (first | exact bz0 _ _ | refine bz1 ?_ | refine bz2 ?_ _ | refine bz3 ?_ _ | refine bz4 ?_ hb1 | refine bz5 ?_ _ | refine bz6 ?_ _ | refine bz7 ?_ hb1))⟩
theorem mrd_64 (T : Int) (nn bd pl mi am : Bool) (mode : Int) (ng : Bool) (zs : List Int) (e : Int) (p : Option Addr) (cap : Nat) (w : World) (hT : T3 w) (hs : Sl .u32 w (.slice p zs.length cap) zs) (hz : Nm.Dg zs) (hl : zs.length ≤ 1048576) (rb rf : Int) (hrb : rb = RdB 64 mode ng zs e) (hrf : rf = RdF 64 mode ng zs e) (hro : RdO 64 mode ng zs e = true) :
    Calls Tryz.prog 186 #[.agg #[.int .i64 T, .bool nn, .bool bd, .bool pl, .bool mi, .bool am], .int .i64 64, .int .i64 mode, .agg #[.bool ng, .slice p zs.length cap], .int .i64 e] w fun x w' => x = .returned (.tuple #[.int .u64 (clB 9221120237041090560 9218868437227405312 9223372036854775808 mode T nn bd pl mi am (decide (zs.length = 0)) rb), .int .i64 (clF nn bd pl mi (decide (zs.length = 0)) rf), .bool true]) ∧ Below w.heap.size w w' := by
  have CR := hid (fun w' h h' => rounded_impl 64 mode ng zs e p cap w' h h' hz hl)
  rw [← hrb, ← hrf, hro] at CR
  clear hrb hrf hro
  obtain ⟨z, hz0⟩ : ∃ z, z = decide (zs.length = 0) := ⟨_, rfl⟩
  rw [← hz0]
  have hb0 : ((zs.length : Int) == 0) = z := by rw [hz0, Bool.eq_iff_iff, beq_iff_eq, decide_eq_true_eq]; omega
  clear hz0 hz
  cases bd with
  | true =>
    have HR := hid (cl_bd 9221120237041090560 9218868437227405312 9223372036854775808 mode T nn pl mi am z rb rf)
    clear CR
    go_enter Tryz.func186, Tryz.ntmps186
    go_wp2_with fail
    refine (impl_nan64 _ ((hT.s.f.al _).al _)).mono ?_
    rintro x w1 ⟨rfl, hb1⟩
    go_wp2
    go_ret3
    exact ⟨ret_uib2 HR.out.1.symm HR.out.2.symm rfl, (by repeat (first | exact bz0 _ _ | refine bz1 ?_ | refine bz2 ?_ _ | refine bz3 ?_ _ | refine bz4 ?_ hb1 | refine bz5 ?_ _ | refine bz6 ?_ _ | refine bz7 ?_ hb1))⟩
  | false =>
  cases hpm : (pl && mi) with
  | true =>
    obtain ⟨rfl, rfl⟩ : pl = true ∧ mi = true := by simpa using hpm
    have HR := hid (cl_pm 9221120237041090560 9218868437227405312 9223372036854775808 mode T nn false am z rb rf)
    clear CR hpm
    go_enter Tryz.func186, Tryz.ntmps186
    go_wp2_with fail
    refine (impl_nan64 _ ((hT.s.f.al _).al _)).mono ?_
    rintro x w1 ⟨rfl, hb1⟩
    go_wp2
    go_ret3
    exact ⟨ret_uib2 HR.out.1.symm HR.out.2.symm rfl, (by repeat (first | exact bz0 _ _ | refine bz1 ?_ | refine bz2 ?_ _ | refine bz3 ?_ _ | refine bz4 ?_ hb1 | refine bz5 ?_ _ | refine bz6 ?_ _ | refine bz7 ?_ hb1))⟩
  | false =>
  cases nn with
  | true =>
    have HR := hid (cl_nn 9221120237041090560 9218868437227405312 9223372036854775808 mode T pl mi am z hpm rb rf)
    clear CR
    cases pl with
    | false =>
      clear hpm
      go_enter Tryz.func186, Tryz.ntmps186
      go_wp2_with fail
      refine (impl_nan64 _ ((hT.s.f.al _).al _)).mono ?_
      rintro x w1 ⟨rfl, hb1⟩
      go_wp2
      go_ret3
      exact ⟨ret_uib2 HR.out.1.symm HR.out.2.symm rfl, (by repeat (first | exact bz0 _ _ | refine bz1 ?_ | refine bz2 ?_ _ | refine bz3 ?_ _ | refine bz4 ?_ hb1 | refine bz5 ?_ _ | refine bz6 ?_ _ | refine bz7 ?_ hb1))⟩
    | true =>
      obtain rfl : mi = false := by simpa using hpm
      clear hpm
      go_enter Tryz.func186, Tryz.ntmps186
      go_wp2_with fail
      refine (impl_nan64 _ ((hT.s.f.al _).al _)).mono ?_
      rintro x w1 ⟨rfl, hb1⟩
      go_wp2
      go_ret3
      exact ⟨ret_uib2 HR.out.1.symm HR.out.2.symm rfl, (by repeat (first | exact bz0 _ _ | refine bz1 ?_ | refine bz2 ?_ _ | refine bz3 ?_ _ | refine bz4 ?_ hb1 | refine bz5 ?_ _ | refine bz6 ?_ _ | refine bz7 ?_ hb1))⟩
  | false =>
  cases pl with
  | true =>
    obtain rfl : mi = false := by simpa using hpm
    have HR := hid (cl_pl 9221120237041090560 9218868437227405312 9223372036854775808 mode T am z rb rf)
    clear CR hpm
    go_enter Tryz.func186, Tryz.ntmps186
    go_wp2_with fail
    refine (impl_Inf64 false _ ((hT.s.f.al _).al _)).mono ?_
    rintro x w1 ⟨rfl, hb1⟩
    go_wp2
    go_ret3
    exact ⟨ret_uib2 HR.out.1.symm HR.out.2.symm rfl, (by repeat (first | exact bz0 _ _ | refine bz1 ?_ | refine bz2 ?_ _ | refine bz3 ?_ _ | refine bz4 ?_ hb1 | refine bz5 ?_ _ | refine bz6 ?_ _ | refine bz7 ?_ hb1))⟩
  | false =>
  clear hpm
  cases mi with
  | true =>
    have HR := hid (cl_mi 9221120237041090560 9218868437227405312 9223372036854775808 mode T am z rb rf)
    clear CR
    go_enter Tryz.func186, Tryz.ntmps186
    go_wp2_with fail
    refine (impl_Inf64 true _ ((hT.s.f.al _).al _)).mono ?_
    rintro x w1 ⟨rfl, hb1⟩
    go_wp2
    go_ret3
    exact ⟨ret_uib2 HR.out.1.symm HR.out.2.symm rfl, (by repeat (first | exact bz0 _ _ | refine bz1 ?_ | refine bz2 ?_ _ | refine bz3 ?_ _ | refine bz4 ?_ hb1 | refine bz5 ?_ _ | refine bz6 ?_ _ | refine bz7 ?_ hb1))⟩
  | false =>
  cases z with
  | false =>
    have HR := hid (cl_r 9221120237041090560 9218868437227405312 9223372036854775808 mode T am rb rf)
    go_enter Tryz.func186, Tryz.ntmps186
    go_wp2_with fail
    refine (CR.out _ ((hT.al _).al _) ((hs.alloc _).alloc _)).mono ?_
    rintro x w1 ⟨rfl, hb1⟩
    go_wp2
    go_ret3
    exact ⟨ret_uib2 HR.out.1.symm HR.out.2.symm rfl, (by repeat (first | exact bz0 _ _ | refine bz1 ?_ | refine bz2 ?_ _ | refine bz3 ?_ _ | refine bz4 ?_ hb1 | refine bz5 ?_ _ | refine bz6 ?_ _ | refine bz7 ?_ hb1))⟩
  | true =>
    have HR := hid (cl_z 9221120237041090560 9218868437227405312 9223372036854775808 mode T am rb rf)
    clear CR
    cases am with
    | true =>
      go_enter Tryz.func186, Tryz.ntmps186
      go_wp2_with fail
      refine (impl_Zero64 true _ ((hT.s.f.al _).al _)).mono ?_
      rintro x w1 ⟨rfl, hb1⟩
      go_wp2
      go_ret3
      exact ⟨ret_uib2 HR.out.1.symm HR.out.2.symm rfl, (by repeat (first | exact bz0 _ _ | refine bz1 ?_ | refine bz2 ?_ _ | refine bz3 ?_ _ | refine bz4 ?_ hb1 | refine bz5 ?_ _ | refine bz6 ?_ _ | refine bz7 ?_ hb1))⟩
    | false =>
      by_cases hm3 : mode = 3
      · subst hm3
        by_cases ht : 0 < T
        · rw [decide_eq_true ht] at HR
          go_enter Tryz.func186, Tryz.ntmps186
          go_wp2_with fail
          refine (impl_Zero64 true _ ((hT.s.f.al _).al _)).mono ?_
          rintro x w1 ⟨rfl, hb1⟩
          go_wp2
          go_ret3
          exact ⟨ret_uib2 HR.out.1.symm HR.out.2.symm rfl, (by repeat (first | exact bz0 _ _ | refine bz1 ?_ | refine bz2 ?_ _ | refine bz3 ?_ _ | refine bz4 ?_ hb1 | refine bz5 ?_ _ | refine bz6 ?_ _ | refine bz7 ?_ hb1))⟩
        · rw [decide_eq_false ht] at HR
          go_enter Tryz.func186, Tryz.ntmps186
          go_wp2_with fail
          refine (impl_Zero64 false _ ((hT.s.f.al _).al _)).mono ?_
          rintro x w1 ⟨rfl, hb1⟩
          go_wp2
          go_ret3
          exact ⟨ret_uib2 HR.out.1.symm HR.out.2.symm rfl, (by repeat (first | exact bz0 _ _ | refine bz1 ?_ | refine bz2 ?_ _ | refine bz3 ?_ _ | refine bz4 ?_ hb1 | refine bz5 ?_ _ | refine bz6 ?_ _ | refine bz7 ?_ hb1))⟩
      · have hm3' : (mode == 3) = false := by simpa using hm3
        rw [decide_eq_false hm3] at HR
        clear hm3
        go_enter Tryz.func186, Tryz.ntmps186
        go_wp2_with fail
        refine (impl_Zero64 false _ ((hT.s.f.al _).al _)).mono ?_
        rintro x w1 ⟨rfl, hb1⟩
        go_wp2
        go_ret3
        exact ⟨ret_uib2 HR.out.1.symm HR.out.2.symm rfl, (by repeat (first | exact bz0 _ _ | refine bz1 ?_ | refine bz2 ?_ _ | refine bz3 ?_ _ | refine bz4 ?_ hb1 | refine bz5 ?_ _ | refine bz6 ?_ _ | refine bz7 ?_ hb1))⟩
theorem Q9.set9 {w : World} {b : Nat} {v0 v1 v2 v3 v4 v5 v6 v7 v8 : Value} (h : Q9 w b v0 v1 v2 v3 v4 v5 v6 v7 v8) (u0 u1 u2 u3 u4 u5 u6 u7 u8 : Value) : Q9 (((((((((w.setCell ⟨b, 0, none⟩ u0).setCell ⟨b, 1, none⟩ u1).setCell ⟨b, 2, none⟩ u2).setCell ⟨b, 3, none⟩ u3).setCell ⟨b, 4, none⟩ u4).setCell ⟨b, 5, none⟩ u5).setCell ⟨b, 6, none⟩ u6).setCell ⟨b, 7, none⟩ u7).setCell ⟨b, 8, none⟩ u8) b u0 u1 u2 u3 u4 u5 u6 u7 u8 := by
  obtain ⟨c0, c1, c2, c3, c4, c5, c6, c7, c8, f0, f1, f2, f3, f4, f5, f6, f7, f8⟩ := h
  exact ⟨by simp [go_sem, c0, c1, c2, c3, c4, c5, c6, c7, c8], by simp [go_sem, c0, c1, c2, c3, c4, c5, c6, c7, c8], by simp [go_sem, c0, c1, c2, c3, c4, c5, c6, c7, c8], by simp [go_sem, c0, c1, c2, c3, c4, c5, c6, c7, c8], by simp [go_sem, c0, c1, c2, c3, c4, c5, c6, c7, c8], by simp [go_sem, c0, c1, c2, c3, c4, c5, c6, c7, c8], by simp [go_sem, c0, c1, c2, c3, c4, c5, c6, c7, c8], by simp [go_sem, c0, c1, c2, c3, c4, c5, c6, c7, c8], by simp [go_sem, c0, c1, c2, c3, c4, c5, c6, c7, c8], by simp [go_sem, f0], by simp [go_sem, f1], by simp [go_sem, f2], by simp [go_sem, f3], by simp [go_sem, f4], by simp [go_sem, f5], by simp [go_sem, f6], by simp [go_sem, f7], by simp [go_sem, f8]⟩
theorem cell_top (W : World) (v : Value) (t : TypeId) (n : Nat) (hn : n = W.heap.size) : (W.alloc (.cells #[v] t)).cell? ⟨n, 0, none⟩ = some v := by subst hn; simp
end Go.Proofs.YtnliofakkkjpoaaGreatDoor
