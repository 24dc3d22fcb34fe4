/-
  What is needed of VecC, SU, SV, DY.
-/
import Derived.Test.YtkfjmcdniohljaaGreatDoorC40
import Derived.Test.YtkfjmcdniohljaaGreatDoorC45
set_option maxHeartbeats 16000000
set_option maxRecDepth 1000000
namespace Go.Proofs.YtkfjmcdniohljaaGreatDoor
set_option linter.unusedVariables false
set_option linter.unusedSimpArgs false
open Go.RowKit Go.Deep
/-- What is wrong with two vectors. -/
def vec2 (fm mode : Int) (xs ys : List Int) : Int := if fmtB fm && modeB mode then (if xs.length ≤ 300 ∧ ys.length ≤ 300 then (if xs.length = ys.length then (if allB fm xs && allB fm ys then 0 else 4) else 3) else 2) else 1
theorem v2_form {fm mode : Int} {xs ys : List Int} (h : (fmtB fm && modeB mode) = false) : vec2 fm mode xs ys = 1 := by unfold vec2; rw [h]; rfl
theorem v2_many {fm mode : Int} {xs ys : List Int} (h : (fmtB fm && modeB mode) = true) (h' : 300 < xs.length ∨ 300 < ys.length) : vec2 fm mode xs ys = 2 := by unfold vec2; rw [h, if_pos rfl, if_neg (by omega)]
theorem v2_len {fm mode : Int} {xs ys : List Int} (h : (fmtB fm && modeB mode) = true) (h1 : xs.length ≤ 300) (h2 : ys.length ≤ 300) (h' : xs.length ≠ ys.length) : vec2 fm mode xs ys = 3 := by unfold vec2; rw [h, if_pos rfl, if_pos ⟨h1, h2⟩, if_neg h']
theorem v2_fits {fm mode : Int} {xs ys : List Int} (h : (fmtB fm && modeB mode) = true) (h1 : xs.length ≤ 300) (h2 : ys.length ≤ 300) (h' : xs.length = ys.length) : vec2 fm mode xs ys = if allB fm xs && allB fm ys then 0 else 4 := by unfold vec2; rw [h, if_pos rfl, if_pos ⟨h1, h2⟩, if_pos h']
theorem l8_fits (fm mode : Int) (a b : Option Addr) (cap cap' : Nat) (xs ys : List Int) (w : World) (hx : Sl .u64 w (.slice a xs.length cap) xs) (hy : Sl .u64 w (.slice b ys.length cap') ys) (hk : fmtB fm = true) (hm : modeB mode = true) (h1 : xs.length ≤ 300) (h2 : ys.length ≤ 300) (hl : xs.length = ys.length) :
    Calls Tryz.prog 111 #[.int .i64 fm, .int .i64 mode, .slice a xs.length cap, .slice b ys.length cap'] w fun e w' => e = .returned (.int .i64 (if allB fm xs && allB fm ys then 0 else 4)) ∧ Below w.heap.size w w' := by
  obtain ⟨-, hx1, hx2, hx3⟩ := hx.cells
  obtain ⟨-, hy1, hy2, hy3⟩ := hy.cells
  have CF := hid (fun w' => fmt_spec fm w')
  have CM := hid (fun w' => mode_spec mode w')
  rw [hk] at CF
  rw [hm] at CM
  have CO := hid (fun x w' => spec_ok fm x w')
  have hne : ((xs.length : Int) != (ys.length : Int)) = false := by simp [hl]
  have HL := hid hl
  have hl1 : xs.length ≤ ys.length := by omega
  have hl2 : ys.length ≤ xs.length := by omega
  clear hl hk hm
  obtain ⟨c, hc⟩ : ∃ c : Int, c = if allB fm xs && allB fm ys then 0 else 4 := ⟨_, rfl⟩
  rw [← hc]
  have HC1 : Hid (allB fm xs = false → c = 4) := hid (fun h => by rw [hc, h]; rfl)
  have HC2 : Hid (allB fm ys = false → c = 4) := hid (fun h => by rw [hc, h, Bool.and_false]; rfl)
  have HC3 : Hid (allB fm xs = true → allB fm ys = true → c = 0) := hid (fun h h' => by rw [hc, h, h']; rfl)
  clear hc
  go_enter Tryz.func111, Tryz.ntmps111
  go_wp2_with fail
  refine (CF.out _).mono ?_
  rintro e w1 ⟨rfl, rfl⟩
  go_wp2_with fail
  refine (CM.out _).mono ?_
  rintro e w2 ⟨rfl, rfl⟩
  go_wp2_with fail
  go_loopw [9] (fun i wr => ∃ k : Nat, k ≤ xs.length ∧ i = .int .i64 k ∧ (∀ j, j < k → okF fm (xs.getD j 0) = true ∧ okF fm (ys.getD j 0) = true) ∧ Below w2.heap.size w2 wr) (fun i _ => xs.length - (intOf i).toNat)
  case atStart => exact ⟨0, Nat.zero_le _, rfl, fun j hj => absurd hj (Nat.not_lt_zero _), Below.refl _ _⟩
  case round =>
    obtain ⟨k, hk, rfl, hpre, hb⟩ := hrel
    have PRE := hid hpre
    clear hpre
    by_cases hlt : k < xs.length
    · obtain ⟨g, off, rfl, hcx⟩ := hx3 (by omega)
      obtain ⟨g', off', rfl, hcy⟩ := hy3 (by omega)
      have c1 := hcx k hlt
      have c2 := hcy k (by omega)
      have c1 : wr.cell? ⟨g, off + k, none⟩ = some (.int .u64 (xs.getD k 0)) := (hb.cell (p := ⟨g, off + k, none⟩) (World.block_lt_of_cell? w2 _ c1)).trans c1
      have c2 : wr.cell? ⟨g', off' + k, none⟩ = some (.int .u64 (ys.getD k 0)) := (hb.cell (p := ⟨g', off' + k, none⟩) (World.block_lt_of_cell? w2 _ c2)).trans c2
      clear hx3 hy3 hcx hcy
      have hlt' : k < ys.length := by omega
      have HN1 := hid (allB_no (fm := fm) hlt)
      have HN2 := hid (allB_no (fm := fm) hlt')
      obtain ⟨x, hxk⟩ : ∃ x, x = xs.getD k 0 := ⟨_, rfl⟩
      obtain ⟨y, hyk⟩ : ∃ y, y = ys.getD k 0 := ⟨_, rfl⟩
      have PRE2 : Hid (okF fm x = true → okF fm y = true → ∀ j, j < k + 1 → okF fm (xs.getD j 0) = true ∧ okF fm (ys.getD j 0) = true) := hid (fun h h' j hj => by
        by_cases e : j = k
        · subst e; rw [← hxk, ← hyk]; exact ⟨h, h'⟩
        · exact PRE.out j (by omega))
      rw [← hxk] at c1 HN1
      rw [← hyk] at c2 HN2
      have C1 := hid (fun w' => CO.out x w')
      have C2 := hid (fun w' => CO.out y w')
      clear hxk hyk CO PRE
      cases ox : okF fm x with
      | false =>
        have HN := hid (HC1.out (HN1.out ox))
        rw [ox] at C1
        clear ox HN1 HN2 PRE2 C2
        go_wp2_with fail
        refine (C1.out _).mono ?_
        rintro e w3 ⟨rfl, hb3⟩
        go_wp2
        go_ret
        exact ⟨ret_int HN.out.symm, bel_go hb hb3⟩
      | true =>
      rw [ox] at C1
      cases oy : okF fm y with
      | false =>
        have HN := hid (HC2.out (HN2.out oy))
        rw [oy] at C2
        clear ox oy HN1 HN2 PRE2
        go_wp2_with fail
        refine (C1.out _).mono ?_
        rintro e w3 ⟨rfl, hb3⟩
        have c2 := (hb3.cell (p := ⟨g', off' + k, none⟩) (World.block_lt_of_cell? wr _ c2)).trans c2
        go_wp2_with fail
        refine (C2.out _).mono ?_
        rintro e w4 ⟨rfl, hb4⟩
        go_wp2
        go_ret
        exact ⟨ret_int HN.out.symm, bel_go (bel_go hb hb3) hb4⟩
      | true =>
        have PRE3 := hid (PRE2.out ox oy)
        rw [oy] at C2
        clear ox oy HN1 HN2 PRE2
        go_wp2_with fail
        refine (C1.out _).mono ?_
        rintro e w3 ⟨rfl, hb3⟩
        have c2 := (hb3.cell (p := ⟨g', off' + k, none⟩) (World.block_lt_of_cell? wr _ c2)).trans c2
        go_wp2_with fail
        refine (C2.out _).mono ?_
        rintro e w4 ⟨rfl, hb4⟩
        go_wp2
        go_roundw
        case rel => exact ⟨k + 1, by omega, by go_num, PRE3.out, bel_go (bel_go hb hb3) hb4⟩
        case measure => simp [intOf]; omega
    · obtain rfl : k = xs.length := by omega
      have HY := hid (HC3.out (allB_yes (fun j hj => (PRE.out j hj).1)) (allB_yes (fun j hj => (PRE.out j (by omega)).2)))
      clear hx3 hy3 CO PRE
      go_wp2
      go_ret
      exact ⟨ret_int HY.out.symm, hb⟩
theorem l8_spec (fm mode : Int) (a b : Option Addr) (cap cap' : Nat) (xs ys : List Int) (w : World) (hx : Sl .u64 w (.slice a xs.length cap) xs) (hy : Sl .u64 w (.slice b ys.length cap') ys) (hlx : xs.length ≤ 1048576) (hly : ys.length ≤ 1048576) :
    Calls Tryz.prog 111 #[.int .i64 fm, .int .i64 mode, .slice a xs.length cap, .slice b ys.length cap'] w fun e w' => e = .returned (.int .i64 (vec2 fm mode xs ys)) ∧ Below w.heap.size w w' := by
  have CF := hid (fun w' => fmt_spec fm w')
  have CM := hid (fun w' => mode_spec mode w')
  cases hk : fmtB fm with
  | false =>
    rw [hk] at CF
    have HR := hid (v2_form (mode := mode) (xs := xs) (ys := ys) (show (fmtB fm && modeB mode) = false by rw [hk]; rfl))
    clear hk
    go_enter Tryz.func111, Tryz.ntmps111
    go_wp2_with fail
    refine (CF.out _).mono ?_
    rintro e w1 ⟨rfl, rfl⟩
    go_wp2
    go_ret
    exact ⟨ret_int HR.out.symm, Below.refl _ _⟩
  | true =>
  rw [hk] at CF
  cases hm : modeB mode with
  | false =>
    rw [hm] at CM
    have HR := hid (v2_form (xs := xs) (ys := ys) (show (fmtB fm && modeB mode) = false by rw [hk, hm]; rfl))
    clear hk hm
    go_enter Tryz.func111, Tryz.ntmps111
    go_wp2_with fail
    refine (CF.out _).mono ?_
    rintro e w1 ⟨rfl, rfl⟩
    go_wp2_with fail
    refine (CM.out _).mono ?_
    rintro e w2 ⟨rfl, rfl⟩
    go_wp2
    go_ret
    exact ⟨ret_int HR.out.symm, Below.refl _ _⟩
  | true =>
  have hkm : (fmtB fm && modeB mode) = true := by rw [hk, hm]; rfl
  rw [hm] at CM
  by_cases h1 : xs.length ≤ 300
  · by_cases h2 : ys.length ≤ 300
    · by_cases hl : xs.length = ys.length
      · rw [v2_fits hkm h1 h2 hl]
        exact l8_fits fm mode a b cap cap' xs ys w hx hy hk hm h1 h2 hl
      · have HR := hid (v2_len hkm h1 h2 hl)
        have hne : ((xs.length : Int) != (ys.length : Int)) = true := by simp; omega
        clear hkm hk hm hl
        go_enter Tryz.func111, Tryz.ntmps111
        go_wp2_with fail
        refine (CF.out _).mono ?_
        rintro e w1 ⟨rfl, rfl⟩
        go_wp2_with fail
        refine (CM.out _).mono ?_
        rintro e w2 ⟨rfl, rfl⟩
        go_wp2
        go_ret
        exact ⟨ret_int HR.out.symm, Below.refl _ _⟩
    · have HR := hid (v2_many (xs := xs) (ys := ys) hkm (.inr (by omega)))
      clear hkm hk hm
      go_enter Tryz.func111, Tryz.ntmps111
      go_wp2_with fail
      refine (CF.out _).mono ?_
      rintro e w1 ⟨rfl, rfl⟩
      go_wp2_with fail
      refine (CM.out _).mono ?_
      rintro e w2 ⟨rfl, rfl⟩
      go_wp2
      go_ret
      exact ⟨ret_int HR.out.symm, Below.refl _ _⟩
  · have HR := hid (v2_many (xs := xs) (ys := ys) hkm (.inl (by omega)))
    clear hkm hk hm
    go_enter Tryz.func111, Tryz.ntmps111
    go_wp2_with fail
    refine (CF.out _).mono ?_
    rintro e w1 ⟨rfl, rfl⟩
    go_wp2_with fail
    refine (CM.out _).mono ?_
    rintro e w2 ⟨rfl, rfl⟩
    go_wp2
    go_ret
    exact ⟨ret_int HR.out.symm, Below.refl _ _⟩
/-- Without terms. -/
def St0 : St := ⟨0, 0, false, false, false, false, false⟩
theorem Rt0 {fm : Int} (h : fmtB fm = true) : Rt fm St0 := Rt.mk h rfl (by show (0 : Int).natAbs ≤ _; exact Nat.zero_le _) (fun _ => rfl)
/-- What a fold has come to, by its terms. -/
def foldS (t : Nat → Tm) : Nat → St
  | 0 => St0
  | k + 1 => (foldS t k).add (t k)
theorem foldS_T (t : Nat → Tm) (k : Nat) : (foldS t k).T = k := by
  induction k with
  | zero => rfl
  | succ k ih => show (foldS t k).T + 1 = _; rw [ih]; omega
theorem foldS_Rt {fm : Int} (hf : fmtB fm = true) (t : Nat → Tm) (n : Nat) (hn : n ≤ 1000000) (ht : ∀ k, k < n → TmOk fm (t k)) : ∀ k, k ≤ n → Rt fm (foldS t k) := by
  intro k
  induction k with
  | zero => intro _; exact Rt0 hf
  | succ k ih => intro hk; exact (ih (by omega)).add (ht k (by omega)) (by rw [foldS_T]; omega)
/-- A function's number is called as it stands. -/
def Dir (fid : Nat) : Prop := ∀ (args : Array Value) (w : World), (callFunc fid args).run Tryz.prog w = .ok (.enter fid args) w
theorem nw_fm {fm : Int} (h : fmtB fm = true) : fm = nwF fm := by
  rcases fmt_cases h with rfl | rfl <;> rfl
theorem res_spec (fm mode : Int) (s : St) (p : Option Addr) (c : Nat) (w : World) (hs : Sl .u32 w (.slice p (Nm.wl s.z).length c) (Nm.wl s.z)) (hl : (Nm.wl s.z).length ≤ 200) (B F : Int) (hB : B = (arB fm (Nm.wn s.z) (Nm.wl s.z) s.T s.nn s.bd s.pl s.mi s.am mode)) (hF : F = (arF fm (Nm.wn s.z) (Nm.wl s.z) s.T s.nn s.bd s.pl s.mi s.am mode)) :
    Calls Tryz.prog 112 #[.agg #[.int .i64 fm, .bool (Nm.wn s.z), .slice p (Nm.wl s.z).length c, .int .i64 s.T, .bool s.nn, .bool s.bd, .bool s.pl, .bool s.mi, .bool s.am], .int .i64 mode] w fun r w' => r = .returned (.agg #[.int .i64 0, .int .u64 B, .int .i64 F]) ∧ Below w.heap.size w w' := by
  have CR := hid (fun w' h => round_spec fm (Nm.wn s.z) s.T s.nn s.bd s.pl s.mi s.am p c (Nm.wl s.z) mode w' h (Nm.wl_dg _) (by omega))
  rw [← hB, ← hF] at CR
  obtain ⟨O, hO⟩ : ∃ O, O = (arO fm (Nm.wn s.z) (Nm.wl s.z) s.T s.nn s.bd s.pl s.mi s.am mode) := ⟨_, rfl⟩
  rw [← hO] at CR
  clear hB hF hO hl
  have A := (Q9.new w (.int .i64 fm) (.bool (Nm.wn s.z)) (.slice p (Nm.wl s.z).length c) (.int .i64 s.T) (.bool s.nn) (.bool s.bd) (.bool s.pl) (.bool s.mi) (.bool s.am) 50).alloc (.cells #[.int .i64 0, .int .u64 0, .int .i64 0] 43)
  have R : R3 ((w.alloc (.cells #[.int .i64 fm, .bool (Nm.wn s.z), .slice p (Nm.wl s.z).length c, .int .i64 s.T, .bool s.nn, .bool s.bd, .bool s.pl, .bool s.mi, .bool s.am] 50)).alloc (.cells #[.int .i64 0, .int .u64 0, .int .i64 0] 43)) (w.heap.size + 1) (.int .i64 0) (.int .u64 0) (.int .i64 0) := by simpa using R3.new (w.alloc (.cells #[.int .i64 fm, .bool (Nm.wn s.z), .slice p (Nm.wl s.z).length c, .int .i64 s.T, .bool s.nn, .bool s.bd, .bool s.pl, .bool s.mi, .bool s.am] 50)) (.int .i64 0) (.int .u64 0) (.int .i64 0) 43
  have bel0 : Below w.heap.size w ((w.alloc (.cells #[.int .i64 fm, .bool (Nm.wn s.z), .slice p (Nm.wl s.z).length c, .int .i64 s.T, .bool s.nn, .bool s.bd, .bool s.pl, .bool s.mi, .bool s.am] 50)).alloc (.cells #[.int .i64 0, .int .u64 0, .int .i64 0] 43)) := (by repeat (first | exact bz0 _ _ | refine bz1 ?_ | refine bz2 ?_ _ | refine bz3 ?_ _ | refine bz5 ?_ _ | refine bz6 ?_ _))
  obtain ⟨c0, c1, c2, c3, c4, c5, c6, c7, c8⟩ := A.cs
  go_enter Tryz.func112, Tryz.ntmps112
  go_wp2_with fail
  refine (CR.out _ (hs.below bel0)).mono ?_
  rintro r w1 ⟨rfl, hb1⟩
  clear c0 c1 c2 c3 c4 c5 c6 c7 c8
  obtain ⟨r0, r1, r2, g0, g1, g2⟩ := R.below hb1
  go_wp2
  refine bodyPost_ret (v := .agg #[.int .i64 0, .int .u64 B, .int .i64 F]) (by simp [results, Tryz.results112, go_sem, r0, r1, r2]) rfl ⟨rfl, ?_⟩
  exact (by (repeat with_reducible first | refine Below.setCell ?_ ?_ _ | exact bz0 _ _ | refine bz1 ?_ | refine bz2 ?_ _ | refine bz3 ?_ _ | refine bz4 ?_ hb1 | refine bz4 ?_ bel0 | refine Below.alloc ?_ ?_ _ | refine Below.trans ?_ (Below.mono hb1 ?_) | refine Below.trans ?_ (Below.mono bel0 ?_)) <;> first | omega | (simp; done) | (simp; omega))
theorem eqRes_same (c b f : Int) (w : World) :
    Calls Tryz.prog 30 #[.agg #[.int .i64 c, .int .u64 b, .int .i64 f], .agg #[.int .i64 c, .int .u64 b, .int .i64 f]] w fun e w' => e = .returned (.bool true) ∧ Below w.heap.size w w' := by
  have h1 : (c != c) = false := by simp
  have h2 : (b != b) = false := by simp
  have h3 : (f != f) = false := by simp
  go_enter Tryz.func30, Tryz.ntmps30
  go_wp2
  go_ret
  exact ⟨rfl, (by repeat (first | exact bz0 _ _ | refine bz1 ?_ | refine bz2 ?_ _ | refine bz3 ?_ _ | refine bz5 ?_ _ | refine bz6 ?_ _))⟩
theorem vec_ok {fm mode : Int} {xs : List Int} (h : vecC fm mode xs = 0) : fmtB fm = true ∧ modeB mode = true ∧ xs.length ≤ 300 ∧ ∀ k, k < xs.length → okF fm (xs.getD k 0) = true := by
  unfold vecC at h
  cases h1 : (fmtB fm && modeB mode)
  · rw [h1] at h; simp at h
  rw [h1, if_pos rfl] at h
  obtain ⟨hf, hm⟩ : fmtB fm = true ∧ modeB mode = true := by simpa using h1
  by_cases h2 : xs.length ≤ 300
  · rw [if_pos h2] at h
    refine ⟨hf, hm, h2, fun k hk => ?_⟩
    cases ha : allB fm xs
    · rw [ha] at h; simp at h
    unfold allB at ha; rw [List.all_eq_true] at ha
    have := ha _ (List.getElem_mem hk)
    rwa [List.getD_eq_getElem?_getD, List.getElem?_eq_getElem hk]
  · rw [if_neg h2] at h; simp at h
theorem Rt.len {fm : Int} {s : St} (h : Rt fm s) : (Nm.wl s.z).length ≤ 200 := (okB_nz (acc_parts h).2.2.1).2
theorem vcode2_impl (fm mode : Int) (a a2 : Option Addr) (cap cap2 : Nat) (xs ys : List Int) (B : Nat) (w : World) (hT : Tab w) (hx : Sl .u64 w (.slice a xs.length cap) xs) (hy : Sl .u64 w (.slice a2 ys.length cap2) ys) (dx : D64 xs) (dy : D64 ys) (hl : xs.length ≤ 1048576) (hl2 : ys.length ≤ 1048576) (hB : w.cell? ⟨B, 0, none⟩ = some (.slice a xs.length cap)) (hB2 : w.cell? ⟨B, 1, none⟩ = some (.slice a2 ys.length cap2)) :
    Calls Tryz.prog 113 #[.int .i64 fm, .int .i64 mode, .slice (some ⟨B, 0, none⟩) 2 2] w fun e w' => e = .returned (.int .i64 (vec2 fm mode xs ys)) ∧ Below w.heap.size w w' := by
  have CF := hid (fun w' => form_B fm w')
  have CM := hid (fun w' => mode_impl mode w')
  have CA := hid (fun w' h h' => allf_impl fm a cap xs w' h h' dx hl)
  have CB := hid (fun w' h h' => allf_impl fm a2 cap2 ys w' h h' dy hl2)
  have H1 := hid (v2_form (fm := fm) (mode := mode) (xs := xs) (ys := ys))
  have H2 := hid (v2_many (fm := fm) (mode := mode) (xs := xs) (ys := ys))
  have H3 := hid (v2_len (fm := fm) (mode := mode) (xs := xs) (ys := ys))
  have H4 := hid (v2_fits (fm := fm) (mode := mode) (xs := xs) (ys := ys))
  clear dx dy
  have hlt := World.block_lt_of_cell? w _ hB
  have hnn : ((xs.length : Int) != (xs.length : Int)) = false := by simp
  cases hf : fmtB fm with
  | false =>
    rw [hf] at CF
    have H1 := hid (H1.out (by rw [hf]; rfl))
    clear H2 H3 H4 CA CB hf CM
    go_enter Tryz.func113, Tryz.ntmps113
    go_wp2_with fail
    refine (CF.out _).mono ?_
    rintro e w1 ⟨n, rfl, hn, hb1⟩
    simp only [Bool.not_false] at hn
    go_wp2
    go_ret
    exact ⟨ret_int H1.out.symm, (by repeat (first | exact bz0 _ _ | refine bz1 ?_ | refine bz2 ?_ _ | refine bz3 ?_ _ | refine bz4 ?_ hb1 | refine bz5 ?_ _ | refine bz6 ?_ _ | refine bz7 ?_ hb1))⟩
  | true =>
  rw [hf] at CF
  cases hm : modeB mode with
  | false =>
    rw [hm] at CM
    have H1 := hid (H1.out (by rw [hf, hm]; rfl))
    clear H2 H3 H4 CA CB hf hm
    go_enter Tryz.func113, Tryz.ntmps113
    go_wp2_with fail
    refine (CF.out _).mono ?_
    rintro e w1 ⟨n, rfl, hn, hb1⟩
    simp only [Bool.not_true] at hn
    go_wp2_with fail
    refine (CM.out _).mono ?_
    rintro e w2 ⟨rfl, rfl⟩
    go_wp2
    go_ret
    exact ⟨ret_int H1.out.symm, (by repeat (first | exact bz0 _ _ | refine bz1 ?_ | refine bz2 ?_ _ | refine bz3 ?_ _ | refine bz4 ?_ hb1 | refine bz5 ?_ _ | refine bz6 ?_ _ | refine bz7 ?_ hb1))⟩
  | true =>
  rw [hm] at CM
  have HM : Hid ((fmtB fm && modeB mode) = true) := hid (by rw [hf, hm]; rfl)
  clear H1 hf hm
  by_cases h3 : xs.length ≤ 300
  · by_cases h4 : ys.length ≤ 300
    · by_cases h5 : xs.length = ys.length
      · have H4 := hid (H4.out HM.out h3 h4 h5)
        have hne : ((ys.length : Int) != (xs.length : Int)) = false := by simp [h5]
        clear H2 H3 HM h5
        obtain ⟨r, hr⟩ : ∃ r, r = allB fm xs := ⟨_, rfl⟩
        obtain ⟨q, hq⟩ : ∃ q, q = allB fm ys := ⟨_, rfl⟩
        rw [← hr] at CA H4
        rw [← hq] at CB H4
        clear hr hq
        cases r with
        | false =>
          go_enter Tryz.func113, Tryz.ntmps113
          go_wp2_with fail
          refine (CF.out _).mono ?_
          rintro e w1 ⟨n, rfl, hn, hb1⟩
          simp only [Bool.not_true] at hn
          have b1 := (hb1.cell (p := ⟨B, 0, none⟩) hlt).trans hB
          have b2 := (hb1.cell (p := ⟨B, 1, none⟩) hlt).trans hB2
          go_wp2_with fail
          refine (CM.out _).mono ?_
          rintro e w2 ⟨rfl, rfl⟩
          go_wp2_with fail
          refine wp_loop_rounds 3 ?_
          rw [rounds_succ]
          go_wp2_with fail
          rw [rounds_succ]
          go_wp2_with fail
          rw [rounds_succ]
          go_wp2_with fail
          refine wp_loop_rounds 3 ?_
          rw [rounds_succ]
          go_wp2_with fail
          rw [rounds_succ]
          go_wp2_with fail
          rw [rounds_succ]
          go_wp2_with fail
          refine wp_loop_rounds 3 ?_
          rw [rounds_succ]
          go_wp2_with fail
          refine (CA.out _ (hT.below hb1) (hx.below hb1)).mono ?_
          rintro e w3 ⟨rfl, hb3⟩
          go_wp2
          go_ret
          exact ⟨ret_int H4.out.symm, bel_go hb1 hb3⟩
        | true =>
        cases q with
        | false =>
          go_enter Tryz.func113, Tryz.ntmps113
          go_wp2_with fail
          refine (CF.out _).mono ?_
          rintro e w1 ⟨n, rfl, hn, hb1⟩
          simp only [Bool.not_true] at hn
          have b1 := (hb1.cell (p := ⟨B, 0, none⟩) hlt).trans hB
          have b2 := (hb1.cell (p := ⟨B, 1, none⟩) hlt).trans hB2
          go_wp2_with fail
          refine (CM.out _).mono ?_
          rintro e w2 ⟨rfl, rfl⟩
          go_wp2_with fail
          refine wp_loop_rounds 3 ?_
          rw [rounds_succ]
          go_wp2_with fail
          rw [rounds_succ]
          go_wp2_with fail
          rw [rounds_succ]
          go_wp2_with fail
          refine wp_loop_rounds 3 ?_
          rw [rounds_succ]
          go_wp2_with fail
          rw [rounds_succ]
          go_wp2_with fail
          rw [rounds_succ]
          go_wp2_with fail
          refine wp_loop_rounds 3 ?_
          rw [rounds_succ]
          go_wp2_with fail
          refine (CA.out _ (hT.below hb1) (hx.below hb1)).mono ?_
          rintro e w3 ⟨rfl, hb3⟩
          have bel3 := bel_go hb1 hb3
          have c2 := (hb3.cell (p := ⟨B, 1, none⟩) (World.block_lt_of_cell? _ _ b2)).trans b2
          go_wp2_with fail
          rw [rounds_succ]
          go_wp2_with fail
          refine (CB.out _ (hT.below bel3) (hy.below bel3)).mono ?_
          rintro e w4 ⟨rfl, hb4⟩
          go_wp2
          go_ret
          exact ⟨ret_int H4.out.symm, bel_go bel3 hb4⟩
        | true =>
          go_enter Tryz.func113, Tryz.ntmps113
          go_wp2_with fail
          refine (CF.out _).mono ?_
          rintro e w1 ⟨n, rfl, hn, hb1⟩
          simp only [Bool.not_true] at hn
          have b1 := (hb1.cell (p := ⟨B, 0, none⟩) hlt).trans hB
          have b2 := (hb1.cell (p := ⟨B, 1, none⟩) hlt).trans hB2
          go_wp2_with fail
          refine (CM.out _).mono ?_
          rintro e w2 ⟨rfl, rfl⟩
          go_wp2_with fail
          refine wp_loop_rounds 3 ?_
          rw [rounds_succ]
          go_wp2_with fail
          rw [rounds_succ]
          go_wp2_with fail
          rw [rounds_succ]
          go_wp2_with fail
          refine wp_loop_rounds 3 ?_
          rw [rounds_succ]
          go_wp2_with fail
          rw [rounds_succ]
          go_wp2_with fail
          rw [rounds_succ]
          go_wp2_with fail
          refine wp_loop_rounds 3 ?_
          rw [rounds_succ]
          go_wp2_with fail
          refine (CA.out _ (hT.below hb1) (hx.below hb1)).mono ?_
          rintro e w3 ⟨rfl, hb3⟩
          have bel3 := bel_go hb1 hb3
          have c2 := (hb3.cell (p := ⟨B, 1, none⟩) (World.block_lt_of_cell? _ _ b2)).trans b2
          go_wp2_with fail
          rw [rounds_succ]
          go_wp2_with fail
          refine (CB.out _ (hT.below bel3) (hy.below bel3)).mono ?_
          rintro e w4 ⟨rfl, hb4⟩
          go_wp2_with fail
          rw [rounds_succ]
          go_wp2
          go_ret
          exact ⟨ret_int H4.out.symm, bel_go bel3 hb4⟩
      · have H3 := hid (H3.out HM.out h3 h4 h5)
        have hne : ((ys.length : Int) != (xs.length : Int)) = true := by
          have : ¬ (ys.length : Int) = (xs.length : Int) := by omega
          simpa using this
        clear H2 H4 HM CA CB h5
        go_enter Tryz.func113, Tryz.ntmps113
        go_wp2_with fail
        refine (CF.out _).mono ?_
        rintro e w1 ⟨n, rfl, hn, hb1⟩
        simp only [Bool.not_true] at hn
        have b1 := (hb1.cell (p := ⟨B, 0, none⟩) hlt).trans hB
        have b2 := (hb1.cell (p := ⟨B, 1, none⟩) hlt).trans hB2
        go_wp2_with fail
        refine (CM.out _).mono ?_
        rintro e w2 ⟨rfl, rfl⟩
        go_wp2_with fail
        refine wp_loop_rounds 3 ?_
        rw [rounds_succ]
        go_wp2_with fail
        rw [rounds_succ]
        go_wp2_with fail
        rw [rounds_succ]
        go_wp2_with fail
        refine wp_loop_rounds 3 ?_
        rw [rounds_succ]
        go_wp2_with fail
        rw [rounds_succ]
        go_wp2
        go_ret
        exact ⟨ret_int H3.out.symm, (by repeat (first | exact bz0 _ _ | refine bz1 ?_ | refine bz2 ?_ _ | refine bz3 ?_ _ | refine bz4 ?_ hb1 | refine bz5 ?_ _ | refine bz6 ?_ _ | refine bz7 ?_ hb1))⟩
    · have H2 := hid (H2.out HM.out (.inr (by omega)))
      clear H3 H4 HM CA CB
      go_enter Tryz.func113, Tryz.ntmps113
      go_wp2_with fail
      refine (CF.out _).mono ?_
      rintro e w1 ⟨n, rfl, hn, hb1⟩
      simp only [Bool.not_true] at hn
      have b1 := (hb1.cell (p := ⟨B, 0, none⟩) hlt).trans hB
      have b2 := (hb1.cell (p := ⟨B, 1, none⟩) hlt).trans hB2
      go_wp2_with fail
      refine (CM.out _).mono ?_
      rintro e w2 ⟨rfl, rfl⟩
      go_wp2_with fail
      refine wp_loop_rounds 3 ?_
      rw [rounds_succ]
      go_wp2_with fail
      rw [rounds_succ]
      go_wp2
      go_ret
      exact ⟨ret_int H2.out.symm, (by repeat (first | exact bz0 _ _ | refine bz1 ?_ | refine bz2 ?_ _ | refine bz3 ?_ _ | refine bz4 ?_ hb1 | refine bz5 ?_ _ | refine bz6 ?_ _ | refine bz7 ?_ hb1))⟩
  · have H2 := hid (H2.out HM.out (.inl (by omega)))
    clear H3 H4 HM CA CB
    go_enter Tryz.func113, Tryz.ntmps113
    go_wp2_with fail
    refine (CF.out _).mono ?_
    rintro e w1 ⟨n, rfl, hn, hb1⟩
    simp only [Bool.not_true] at hn
    have b1 := (hb1.cell (p := ⟨B, 0, none⟩) hlt).trans hB
    have b2 := (hb1.cell (p := ⟨B, 1, none⟩) hlt).trans hB2
    go_wp2_with fail
    refine (CM.out _).mono ?_
    rintro e w2 ⟨rfl, rfl⟩
    go_wp2_with fail
    refine wp_loop_rounds 3 ?_
    rw [rounds_succ]
    go_wp2
    go_ret
    exact ⟨ret_int H2.out.symm, (by repeat (first | exact bz0 _ _ | refine bz1 ?_ | refine bz2 ?_ _ | refine bz3 ?_ _ | refine bz4 ?_ hb1 | refine bz5 ?_ _ | refine bz6 ?_ _ | refine bz7 ?_ hb1))⟩
theorem v2_ok {fm mode : Int} {xs ys : List Int} (h : vec2 fm mode xs ys = 0) : fmtB fm = true ∧ modeB mode = true ∧ xs.length ≤ 300 ∧ ys.length = xs.length ∧ (∀ k, k < xs.length → okF fm (xs.getD k 0) = true) ∧ (∀ k, k < xs.length → okF fm (ys.getD k 0) = true) := by
  unfold vec2 at h
  cases h1 : (fmtB fm && modeB mode)
  · rw [h1] at h; simp at h
  rw [h1, if_pos rfl] at h
  by_cases h2 : xs.length ≤ 300 ∧ ys.length ≤ 300
  · rw [if_pos h2] at h
    by_cases h3 : xs.length = ys.length
    · rw [if_pos h3] at h
      cases ha : allB fm xs
      · rw [ha] at h; simp at h
      cases hb : allB fm ys
      · rw [ha, hb] at h; simp at h
      have vx : vecC fm mode xs = 0 := by unfold vecC; rw [h1, if_pos rfl, if_pos h2.1, ha]; rfl
      have vy : vecC fm mode ys = 0 := by unfold vecC; rw [h1, if_pos rfl, if_pos h2.2, hb]; rfl
      obtain ⟨p1, p2, p3, p4⟩ := vec_ok vx
      obtain ⟨-, -, -, q4⟩ := vec_ok vy
      exact ⟨p1, p2, p3, h3.symm, p4, fun k hk => q4 k (by omega)⟩
    · rw [if_neg h3] at h; omega
  · rw [if_neg h2] at h; omega
end Go.Proofs.YtkfjmcdniohljaaGreatDoor
