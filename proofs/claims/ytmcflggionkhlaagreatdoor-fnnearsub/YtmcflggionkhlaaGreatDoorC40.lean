/-
  What is needed of FS, FM, FN, FO, FC.
-/
import Derived.Test.YtmcflggionkhlaaGreatDoorC39
set_option maxHeartbeats 16000000
set_option maxRecDepth 1000000
namespace Go.Proofs.YtmcflggionkhlaaGreatDoor
set_option linter.unusedVariables false
set_option linter.unusedSimpArgs false
open Go.RowKit Go.Deep
theorem fok_impl (fm mode : Int) (a : Option Addr) (cap : Nat) (xs : List Int) (w : World) (hT : Tab w) (hx : Sl .u64 w (.slice a xs.length cap) xs) (dx : D64 xs) (hl : xs.length ≤ 1048576) :
    Calls Tryz.prog 83 #[.int .i64 fm, .int .i64 mode, .slice a xs.length cap] w fun e w' => e = .returned (.bool (modeB mode && allB fm xs)) ∧ Below w.heap.size w w' := by
  have CM := hid (fun w' => mode_impl mode w')
  have CA := hid (fun w' h h' => allf_impl fm a cap xs w' h h' dx hl)
  obtain ⟨m, hm⟩ : ∃ m, m = modeB mode := ⟨_, rfl⟩
  obtain ⟨o, ho⟩ : ∃ o, o = allB fm xs := ⟨_, rfl⟩
  rw [← hm] at CM ⊢
  rw [← ho] at CA ⊢
  clear hm ho dx
  cases m with
  | false =>
    go_enter Tryz.func83, Tryz.ntmps83
    go_wp2_with fail
    refine (CM.out _).mono ?_
    rintro e w1 ⟨rfl, rfl⟩
    go_wp2
    go_ret
    exact ⟨rfl, (by repeat (first | exact bz0 _ _ | refine bz1 ?_ | refine bz2 ?_ _ | refine bz3 ?_ _ | refine bz5 ?_ _ | refine bz6 ?_ _))⟩
  | true =>
    go_enter Tryz.func83, Tryz.ntmps83
    go_wp2_with fail
    refine (CM.out _).mono ?_
    rintro e w1 ⟨rfl, rfl⟩
    go_wp2_with fail
    refine (CA.out _ hT hx).mono ?_
    rintro e w2 ⟨rfl, hb2⟩
    go_wp2
    go_ret
    exact ⟨rfl, hb2⟩
theorem l4form (fm mode : Int) (a : Option Addr) (cap : Nat) (xs : List Int) (w : World) (hx : Sl .u64 w (.slice a xs.length cap) xs) (hl : xs.length ≤ 1048576) :
    Calls Tryz.prog 61 #[.int .i64 fm, .int .i64 mode, .slice a xs.length cap] w fun e w' => e = .returned (.bool (allB fm xs && fmtB fm && modeB mode)) ∧ Below w.heap.size w w' := by
  obtain ⟨-, hx1, hx2, hx3⟩ := hx.cells
  have CO := hid (fun k w' => spec_ok fm (xs.getD k 0) w')
  have CF := hid (fun w' => fmt_spec fm w')
  have CM := hid (fun w' => mode_spec mode w')
  go_enter Tryz.func61, Tryz.ntmps61
  go_wp2
  go_loopw [7] (fun i wr => ∃ k : Nat, k ≤ xs.length ∧ i = .int .i64 k ∧ (∀ j, j < k → okF fm (xs.getD j 0) = true) ∧ Below w.heap.size w wr) (fun i _ => xs.length - (intOf i).toNat)
  case atStart => exact ⟨0, Nat.zero_le _, rfl, fun j hj => absurd hj (Nat.not_lt_zero _), Below.refl _ _⟩
  case round =>
    obtain ⟨k, hk, rfl, hpre, hb⟩ := hrel
    have PRE := hid hpre
    clear hpre
    by_cases hlt : k < xs.length
    · obtain ⟨b, off, rfl, hcx⟩ := hx3 (by omega)
      have h1 := hcx k hlt
      have h1 : wr.cell? ⟨b, off + k, none⟩ = some (.int .u64 (xs.getD k 0)) := (hb.cell (p := ⟨b, off + k, none⟩) (World.block_lt_of_cell? w _ h1)).trans h1
      clear hx3 hcx
      have C := hid (fun w' => CO.out k w')
      have HNO : Hid (okF fm (xs.getD k 0) = false → (allB fm xs && fmtB fm && modeB mode) = false) := hid (fun h => by rw [allB_no (fm := fm) hlt h]; rfl)
      have PRE2 : Hid (okF fm (xs.getD k 0) = true → ∀ j, j < k + 1 → okF fm (xs.getD j 0) = true) := hid (fun h j hj => by
        by_cases e : j = k
        · subst e; exact h
        · exact PRE.out j (by omega))
      obtain ⟨o, hok⟩ : ∃ o, o = okF fm (xs.getD k 0) := ⟨_, rfl⟩
      obtain ⟨x, hxk⟩ : ∃ x, x = xs.getD k 0 := ⟨_, rfl⟩
      rw [← hok] at C HNO PRE2
      rw [← hxk] at h1 C
      clear hxk hok CO PRE
      cases o with
      | true =>
        have PRE3 := hid (PRE2.out rfl)
        clear PRE2 HNO
        go_wp2_with fail
        refine (C.out _).mono ?_
        rintro e w1 ⟨rfl, hb1⟩
        go_wp2
        go_roundw
        case rel => exact ⟨k + 1, by omega, by go_num, PRE3.out, bel_go hb hb1⟩
        case measure => simp [intOf]; omega
      | false =>
        have HN2 := hid (HNO.out rfl)
        clear PRE2 HNO
        go_wp2_with fail
        refine (C.out _).mono ?_
        rintro e w1 ⟨rfl, hb1⟩
        go_wp2
        go_ret
        exact ⟨ret_bool HN2.out.symm, bel_go hb hb1⟩
    · obtain rfl : k = xs.length := by omega
      have HY := hid (allB_yes PRE.out)
      clear hx3 CO PRE
      cases hf : fmtB fm with
      | false =>
        rw [hf] at CF
        have HR : Hid ((allB fm xs && fmtB fm && modeB mode) = false) := hid (by rw [hf]; simp)
        clear hf HY CM
        go_wp2_with fail
        refine (CF.out _).mono ?_
        rintro e w1 ⟨rfl, rfl⟩
        go_wp2
        go_ret
        exact ⟨ret_bool HR.out.symm, hb⟩
      | true =>
        rw [hf] at CF
        have HR : Hid ((allB fm xs && fmtB fm && modeB mode) = modeB mode) := hid (by rw [hf, HY.out]; simp)
        obtain ⟨m, hm⟩ : ∃ m, m = modeB mode := ⟨_, rfl⟩
        rw [← hm] at CM
        have HM := hid hm
        clear hf HY hm
        go_wp2_with fail
        refine (CF.out _).mono ?_
        rintro e w1 ⟨rfl, rfl⟩
        go_wp2_with fail
        refine (CM.out _).mono ?_
        rintro e w2 ⟨rfl, rfl⟩
        go_wp2
        go_ret
        exact ⟨ret_bool (by rw [HR.out]; exact HM.out), hb⟩
/-- The flag of what is invalid. -/
def fl8 (b : Bool) : Int := if b then 8 else 0
/-- Whether one of the first k has it. -/
def anyK (p : Int → Bool) (xs : List Int) (k : Nat) : Bool := (xs.take k).any p
theorem anyK_succ (p : Int → Bool) {xs : List Int} {k : Nat} (h : k < xs.length) : anyK p xs (k + 1) = (anyK p xs k || p (xs.getD k 0)) := by
  unfold anyK; rw [Nm.take_snoc h, List.any_append]; simp
theorem anyK_all (p : Int → Bool) (xs : List Int) : anyK p xs xs.length = xs.any p := by unfold anyK; rw [List.take_length]
theorem nan_s (fm : Int) (w : World) (h : fmtB fm = true) : Calls Tryz.prog 92 #[.int .i64 fm] w fun e w' => e = .returned (.int .u64 (nanOf fm)) ∧ Below w.heap.size w w' := by
  rcases fmt_cases h with rfl | rfl
  · exact nanS32 w
  · exact nanS64 w
theorem l4nan (fm : Int) (a : Option Addr) (cap : Nat) (xs : List Int) (w : World) (hx : Sl .u64 w (.slice a xs.length cap) xs) (dx : D64 xs) (hl : xs.length ≤ 1048576) (hf : fmtB fm = true) (ha : allB fm xs = true) :
    Calls Tryz.prog 89 #[.int .i64 fm, .slice a xs.length cap] w fun e w' => e = .returned (.tuple #[.int .u64 (nanOf fm), .int .i64 (fl8 (xs.any (nB fm))), .bool (xs.any (nanB fm))]) ∧ Below w.heap.size w w' := by
  obtain ⟨-, hx1, hx2, hx3⟩ := hx.cells
  have hok : ∀ k, k < xs.length → okF fm (xs.getD k 0) = true := fun k hk => by
    unfold allB at ha; rw [List.all_eq_true] at ha
    have := ha _ (List.getElem_mem hk)
    rwa [List.getD_eq_getElem?_getD, List.getElem?_eq_getElem hk]
  have CN := hid (fun k w' (h : k < xs.length) => spec_nan fm (xs.getD k 0) w' (hok k h) (dx.getD k).1 (dx.getD k).2)
  have CC := hid (fun k w' => spec_cls fm (xs.getD k 0) w' (dx.getD k).1 (dx.getD k).2)
  have CA : Hid (∀ w' : World, Calls Tryz.prog 92 #[.int .i64 fm] w' fun e w'' => e = .returned (.int .u64 (nanOf fm)) ∧ Below w'.heap.size w' w'') := hid (fun w' => nan_s fm w' hf)
  clear dx hok hf ha
  have HA1 := hid (anyK_all (nanB fm) xs)
  have HA2 := hid (anyK_all (nB fm) xs)
  obtain ⟨NN, hNN⟩ : ∃ n, n = nanOf fm := ⟨_, rfl⟩
  rw [← hNN] at CA ⊢
  clear hNN
  go_enter Tryz.func89, Tryz.ntmps89
  go_wp2
  go_loopw [7, 8, 9] (fun is fl i wr => ∃ k : Nat, k ≤ xs.length ∧ i = .int .i64 k ∧ is = .bool (anyK (nanB fm) xs k) ∧ fl = .int .i64 (fl8 (anyK (nB fm) xs k)) ∧ Below w.heap.size w wr) (fun _ _ i _ => xs.length - (intOf i).toNat)
  case atStart => exact ⟨0, Nat.zero_le _, rfl, rfl, rfl, Below.refl _ _⟩
  case round =>
    obtain ⟨k, hk, rfl, rfl, rfl, hb⟩ := hrel
    by_cases hlt : k < xs.length
    · obtain ⟨b, off, rfl, hcx⟩ := hx3 (by omega)
      have h1 := hcx k hlt
      have h1 : wr.cell? ⟨b, off + k, none⟩ = some (.int .u64 (xs.getD k 0)) := (hb.cell (p := ⟨b, off + k, none⟩) (World.block_lt_of_cell? w _ h1)).trans h1
      clear hx3 hcx
      have C1 := hid (fun w' => CN.out k w' hlt)
      have C2 := hid (fun w' => CC.out k w')
      have E1 := hid (anyK_succ (nanB fm) hlt)
      have E2 := hid (anyK_succ (nB fm) hlt)
      have hn5 : nB fm (xs.getD k 0) = (cls fm (xs.getD k 0) == 5) := rfl
      rw [hn5] at E2
      obtain ⟨i0, hi0⟩ : ∃ o, o = anyK (nanB fm) xs k := ⟨_, rfl⟩
      obtain ⟨f0, hf0⟩ : ∃ o, o = anyK (nB fm) xs k := ⟨_, rfl⟩
      obtain ⟨n, hn⟩ : ∃ o, o = nanB fm (xs.getD k 0) := ⟨_, rfl⟩
      obtain ⟨c, hc⟩ : ∃ c, c = cls fm (xs.getD k 0) := ⟨_, rfl⟩
      obtain ⟨x, hxk⟩ : ∃ x, x = xs.getD k 0 := ⟨_, rfl⟩
      rw [← hi0, ← hn] at E1
      rw [← hf0, ← hc] at E2
      rw [← hn] at C1
      rw [← hc] at C2
      rw [← hxk] at h1 C1 C2
      rw [← hi0, ← hf0]
      clear hi0 hf0 hn hc hxk CN CC hn5
      have hlt1 := World.block_lt_of_cell? wr _ h1
      by_cases h5 : c = 5
      · subst h5
        have E2' : Hid (anyK (nB fm) xs (k + 1) = true) := hid (by rw [E2.out]; cases f0 <;> rfl)
        clear E2
        cases i0 with
        | true =>
          have E1' : Hid (anyK (nanB fm) xs (k + 1) = true) := hid (by rw [E1.out]; rfl)
          go_wp2_with fail
          refine (C2.out _).mono ?_
          rintro e w2 ⟨rfl, hb2⟩
          go_wp2
          go_roundw
          case rel => exact ⟨k + 1, by omega, by go_num, by rw [E1'.out], by rw [E2'.out]; rfl, bel_go hb hb2⟩
          case measure => simp [intOf]; omega
        | false =>
          have E1' : Hid (anyK (nanB fm) xs (k + 1) = n) := hid (by rw [E1.out]; rfl)
          go_wp2_with fail
          refine (C1.out _).mono ?_
          rintro e w1 ⟨rfl, hb1⟩
          have h2 := (hb1.cell (p := ⟨b, off + k, none⟩) hlt1).trans h1
          go_wp2_with fail
          refine (C2.out _).mono ?_
          rintro e w2 ⟨rfl, hb2⟩
          go_wp2
          go_roundw
          case rel => exact ⟨k + 1, by omega, by go_num, by rw [E1'.out], by rw [E2'.out]; rfl, bel_go (bel_go hb hb1) hb2⟩
          case measure => simp [intOf]; omega
      · have e5 : (c == 5) = false := by simpa using h5
        have E2' : Hid (anyK (nB fm) xs (k + 1) = f0) := hid (by rw [E2.out, e5]; cases f0 <;> rfl)
        clear E2 h5
        cases i0 with
        | true =>
          have E1' : Hid (anyK (nanB fm) xs (k + 1) = true) := hid (by rw [E1.out]; rfl)
          go_wp2_with fail
          refine (C2.out _).mono ?_
          rintro e w2 ⟨rfl, hb2⟩
          go_wp2
          go_roundw
          case rel => exact ⟨k + 1, by omega, by go_num, by rw [E1'.out], by rw [E2'.out], bel_go hb hb2⟩
          case measure => simp [intOf]; omega
        | false =>
          have E1' : Hid (anyK (nanB fm) xs (k + 1) = n) := hid (by rw [E1.out]; rfl)
          go_wp2_with fail
          refine (C1.out _).mono ?_
          rintro e w1 ⟨rfl, hb1⟩
          have h2 := (hb1.cell (p := ⟨b, off + k, none⟩) hlt1).trans h1
          go_wp2_with fail
          refine (C2.out _).mono ?_
          rintro e w2 ⟨rfl, hb2⟩
          go_wp2
          go_roundw
          case rel => exact ⟨k + 1, by omega, by go_num, by rw [E1'.out], by rw [E2'.out], bel_go (bel_go hb hb1) hb2⟩
          case measure => simp [intOf]; omega
    · obtain rfl : k = xs.length := by omega
      obtain ⟨q1, hq1⟩ : ∃ o, o = anyK (nanB fm) xs xs.length := ⟨_, rfl⟩
      obtain ⟨q2, hq2⟩ : ∃ o : Int, o = fl8 (anyK (nB fm) xs xs.length) := ⟨_, rfl⟩
      rw [← hq1, ← hq2]
      have HQ1 : Hid (q1 = xs.any (nanB fm)) := hid (by rw [hq1, HA1.out])
      have HQ2 : Hid (q2 = fl8 (xs.any (nB fm))) := hid (by rw [hq2, HA2.out])
      clear hq1 hq2 hx3 CN CC HA1 HA2
      go_wp2_with fail
      refine (CA.out _).mono ?_
      rintro e w1 ⟨rfl, hb1⟩
      go_wp2
      go_ret3
      exact ⟨ret_uib2 rfl HQ2.out HQ1.out, bel_go hb hb1⟩
theorem cls_inf {fm x : Int} (hx : okF fm x = true) (x0 : 0 ≤ x) : (absF fm x == infOf fm) = (cls fm x == 3) := by
  rw [Bool.eq_iff_iff, beq_iff_eq, beq_iff_eq]
  rcases okF_cases hx with ⟨rfl, hx'⟩ | rfl
  · rw [abs32 hx', cls32 hx']
    unfold infOf clsY
    rw [if_pos rfl]
    have := Int.emod_nonneg x (show (2147483648 : Int) ≠ 0 by decide)
    repeat (first | omega | split)
  · rw [abs64, cls64]
    unfold infOf clsY
    rw [if_neg (by decide)]
    have := Int.emod_nonneg x (show (9223372036854775808 : Int) ≠ 0 by decide)
    repeat (first | omega | split)
theorem inf_s (fm : Int) (w : World) (h : fmtB fm = true) : Calls Tryz.prog 96 #[.int .i64 fm] w fun e w' => e = .returned (.int .u64 (infOf fm)) ∧ Below w.heap.size w w' := by
  rcases fmt_cases h with rfl | rfl
  · exact infS32 w
  · exact infS64 w
theorem with_s (fm x : Int) (ng : Bool) (w : World) (h : fmtB fm = true) (x0 : 0 ≤ x) (x1 : x < 2147483648 ∨ (fm = 64 ∧ x < 9223372036854775808)) : Calls Tryz.prog 95 #[.int .i64 fm, .int .u64 x, .bool ng] w fun e w' => e = .returned (.int .u64 (sgn (sgOf fm) x ng)) ∧ Below w.heap.size w w' := by
  rcases fmt_cases h with rfl | rfl
  · exact with_32 x ng w (fun _ => ⟨x0, by rcases x1 with h' | ⟨h', _⟩; exact h'; exact absurd h' (by decide)⟩)
  · exact with_64 x ng w (fun _ => ⟨x0, by omega⟩)
theorem ok_fmt {fm x : Int} (h : okF fm x = true) : fmtB fm = true := by
  rcases okF_cases h with ⟨rfl, _⟩ | rfl <;> rfl
theorem inf4 (fm x : Int) (w : World) (h : okF fm x = true) (h0 : 0 ≤ x) (h1 : x < 18446744073709551616) (i : Bool) (hi : i = nI fm x) :
    Calls Tryz.prog 93 #[.int .i64 fm, .int .u64 x] w fun e w' => e = .returned (.bool i) ∧ Below w.heap.size w w' := by
  have C := hid (fun w' => spec_l2abs fm x w' h h0 h1)
  have CI := hid (fun w' => inf_s fm w' (ok_fmt h))
  have e := cls_inf h h0
  have hi' : i = (cls fm x == 3) := hi
  rw [← e] at hi'
  obtain ⟨a, ha⟩ : ∃ a, a = absF fm x := ⟨_, rfl⟩
  obtain ⟨b, hb⟩ : ∃ b, b = infOf fm := ⟨_, rfl⟩
  rw [← ha] at C hi'
  rw [← hb] at CI hi'
  subst hi'
  clear ha hb e hi
  go_enter Tryz.func93, Tryz.ntmps93
  go_wp2_with fail
  refine (C.out _).mono ?_
  rintro r w1 ⟨rfl, hb1⟩
  go_wp2_with fail
  refine (CI.out _).mono ?_
  rintro r w2 ⟨rfl, hb2⟩
  go_wp2
  go_ret
  exact ⟨rfl, (by repeat (first | exact bz0 _ _ | refine bz1 ?_ | refine bz2 ?_ _ | refine bz3 ?_ _ | refine bz4 ?_ hb2 | refine bz4 ?_ hb1 | refine bz5 ?_ _ | refine bz6 ?_ _ | refine bz7 ?_ hb2 | refine bz7 ?_ hb1))⟩
theorem zer4 (fm x : Int) (w : World) (h : okF fm x = true) (h0 : 0 ≤ x) (h1 : x < 18446744073709551616) (z : Bool) (hz : z = (absF fm x == 0)) :
    Calls Tryz.prog 164 #[.int .i64 fm, .int .u64 x] w fun e w' => e = .returned (.bool z) ∧ Below w.heap.size w w' := by
  have C := hid (fun w' => spec_l2abs fm x w' h h0 h1)
  obtain ⟨a, ha⟩ : ∃ a, a = absF fm x := ⟨_, rfl⟩
  rw [← ha] at C hz
  subst hz
  clear ha
  go_enter Tryz.func164, Tryz.ntmps164
  go_wp2_with fail
  refine (C.out _).mono ?_
  rintro r w1 ⟨rfl, hb1⟩
  go_wp2
  go_ret
  exact ⟨rfl, (by repeat (first | exact bz0 _ _ | refine bz1 ?_ | refine bz2 ?_ _ | refine bz3 ?_ _ | refine bz4 ?_ hb1 | refine bz5 ?_ _ | refine bz6 ?_ _ | refine bz7 ?_ hb1))⟩
def zF (fm x : Int) : Bool := absF fm x == 0
theorem zF_fin {fm x : Int} (hx : okF fm x = true) (hf : finB fm x = true) : zF fm x = decide (nZ fm x = 0) := by
  have hM := pM_bd fm x
  have e : (nZ fm x = 0) ↔ pM fm x = 0 := by
    rw [(fin_facts hx hf).2.2.1]; cases pS fm x <;> simp
  have h := cls_zero hx
  show (absF fm x == 0) = _
  rw [← h, Bool.eq_iff_iff, beq_iff_eq, decide_eq_true_eq, e]
  constructor
  · intro h
    have ha : (absF fm x == 0) = true := by rw [← cls_zero hx, h]; rfl
    have ha' : absF fm x = 0 := by simpa using ha
    unfold pM; rw [hf, if_pos rfl]
    rcases okF_cases hx with ⟨rfl, hx'⟩ | rfl
    · rw [abs32 hx'] at ha'
      rw [if_pos rfl, ha']; rfl
    · rw [abs64] at ha'
      rw [if_neg (by decide), ha']; rfl
  · intro h
    have hc : 0 ≤ cls fm x ∧ cls fm x ≤ 2 := by simpa [finB] using hf
    by_cases h12 : cls fm x = 1 ∨ cls fm x = 2
    · have := (pM_pos h12).2; omega
    · omega
theorem nan_cases {fm x : Int} (hx : okF fm x = true) (h : nanB fm x = false) : finB fm x = true ∨ nI fm x = true := by
  rcases cls_sixE hx with hf | h3 | h4 | h5
  · exact .inl hf
  · exact .inr (by unfold nI; rw [h3]; rfl)
  · rw [nan_ofE hx, h4] at h; simp at h
  · rw [nan_ofE hx, h5] at h; simp at h
theorem nZ_bd (fm x : Int) : (nZ fm x).natAbs < 9007199254740992 ∧ -1074 ≤ nE fm x ∧ nE fm x ≤ 2000 := by
  have h1 := pM_bd fm x
  have h2 := pE_bd fm x
  unfold nZ nE
  cases finB fm x
  · simp
  · simp; refine ⟨?_, h2⟩; cases pS fm x <;> simp <;> omega
theorem wl_of {z : Int} {k : Nat} (h : z.natAbs < 2 ^ k) (hk : k ≤ 6400) : (Nm.wl z).length ≤ 200 := by
  unfold Nm.wl; exact lim_len (k := 200) (by have := (Nm.bl_le_iff z.natAbs k).2 h; omega)
theorem nZ_len (fm x : Int) : (Nm.wl (nZ fm x)).length ≤ 200 := wl_of (k := 53) (by have := (nZ_bd fm x).1; omega) (by decide)
theorem rdo_any {fm mode : Int} {z e : Int} (hf : fmtB fm = true) (hm : modeB mode = true) (hl : (Nm.wl z).length ≤ 200) (h0 : -10000 ≤ e) (h1 : e ≤ 10000) : RdO fm mode (Nm.wn z) (Nm.wl z) e = true := by
  unfold RdO inZ; rw [hf, hm, okB_wl hl, decide_eq_true h0, decide_eq_true h1]; rfl
theorem l3r_any (fm mode : Int) (z e : Int) (p : Option Addr) (cap : Nat) (w : World) (hs : Sl .u32 w (.slice p (Nm.wl z).length cap) (Nm.wl z)) (hz : z ≠ 0) (ho : RdO fm mode (Nm.wn z) (Nm.wl z) e = true) :
    Calls Tryz.prog 103 #[.int .i64 fm, .int .i64 mode, .agg #[.bool (Nm.wn z), .slice p (Nm.wl z).length cap], .int .i64 e] w fun x w' => x = .returned (.tuple #[.int .u64 (RdB fm mode (Nm.wn z) (Nm.wl z) e), .int .i64 (RdF fm mode (Nm.wn z) (Nm.wl z) e)]) ∧ Below w.heap.size w w' := by
  have h0 : (Nm.wl z).length ≠ 0 := by unfold Nm.wl; rw [Ne, Nm.lim_length_zero]; omega
  have hf : fmtB fm = true := by unfold RdO at ho; simp only [Bool.and_eq_true] at ho; exact ho.1.1.1
  rcases fmt_cases hf with rfl | rfl
  · exact l3r_at32 mode (Nm.wn z) (Nm.wl z) e p cap w hs (Nm.wl_dg _) h0 ho
  · exact l3r_at64 mode (Nm.wn z) (Nm.wl z) e p cap w hs (Nm.wl_dg _) h0 ho
/-- A product, of all floats. -/
def muO (fm mode x y : Int) : Bool := modeB mode && allB fm [x, y]
theorem all2 {fm x y : Int} (h : allB fm [x, y] = true) : okF fm x = true ∧ okF fm y = true := by
  unfold allB at h; simpa using h
theorem told_any (fm mode : Int) (hfm : fmtB fm = true) (neg inf G : Bool) (L : List Int) (e : Int) (p : Option Addr) (cap : Nat) (u ev : Value) (n b : Bool) (hk : EK u ev n b) (w : World) (hT : T3 w) (hg : EA.ErrT w) (hs : Sl .u32 w (.slice p L.length cap) L) (hd : Nm.Dg L) (hl : L.length ≤ 200) (rb rf : Int) (hro : n = false → inf = false → L.length ≠ 0 → RdO fm mode G L e = true ∧ rb = RdB fm mode G L e ∧ rf = RdF fm mode G L e) (B F : Int) (hB : B = tdB (nanOf fm) (infOf fm) (sgOf fm) n inf (decide (L.length = 0)) neg rb) (hF : F = tdF n b inf (decide (L.length = 0)) rf) :
    Calls Tryz.prog 88 #[.int .i64 fm, .int .i64 mode, .agg #[.bool neg, .bool inf, .bool G, .slice p L.length cap, .int .i64 e], ev] w fun r w' => r = .returned (.tuple #[.int .u64 B, .int .i64 F, .bool true]) ∧ Below w.heap.size w w' := by
  subst hB hF
  rcases fmt_cases hfm with rfl | rfl
  · exact told_32 mode neg inf G L e p cap u ev n b hk w hT hg hs hd hl rb rf hro
  · exact told_64 mode neg inf G L e p cap u ev n b hk w hT hg hs hd hl rb rf hro
theorem numAt {u : Value} {fm x : Int} (hx : okF fm x = true) (x0 : 0 ≤ x) (x1 : x < 18446744073709551616) : NumAt u fm x (nS fm x) (nI fm x) (Nm.wn (nZ fm x)) (Nm.wl (nZ fm x)) (nE fm x) (nanB fm x) (nB fm x) :=
  fun w hE => num_all fm x u w hE hx x0 x1 _ _ _ _ _ _ _ rfl rfl rfl rfl rfl rfl rfl
theorem abs_sig {fm x : Int} (hx : okF fm x = true) (x0 : 0 ≤ x) (x1 : x < 18446744073709551616) : x = sgn (sgOf fm) (absF fm x) (sigB fm x) := by
  rcases okF_cases hx with ⟨rfl, hx'⟩ | rfl
  · have e := abs32 hx'
    unfold sgn sigB sgOf
    rw [e, if_pos (show ((32 : Int) = 32) from rfl)]
    by_cases h : x = x % 2147483648
    · rw [if_neg (by simpa using h)]; exact h
    · rw [if_pos (by simpa using h)]; omega
  · have e := abs64 (x := x)
    unfold sgn sigB sgOf
    rw [e, if_neg (show ¬ ((64 : Int) = 32) by decide)]
    by_cases h : x = x % 9223372036854775808
    · rw [if_neg (by simpa using h)]; exact h
    · rw [if_pos (by simpa using h)]; omega
end Go.Proofs.YtmcflggionkhlaaGreatDoor
