/-
  What is needed of FS.
-/
import Derived.Test.YtmcflggionkhlaaGreatDoorH33
set_option maxHeartbeats 16000000
set_option maxRecDepth 1000000
namespace Go.Proofs.YtmcflggionkhlaaGreatDoor
set_option linter.unusedVariables false
set_option linter.unusedSimpArgs false
open Go.RowKit Go.Deep
theorem fok_impl (fm mode : Int) (a : Option Addr) (cap : Nat) (xs : List Int) (w : World) (hT : Tab w) (hx : Sl .u64 w (.slice a xs.length cap) xs) (dx : D64 xs) (hl : xs.length ≤ 1048576) :
    Calls Tryz.prog 83 #[.int .i64 fm, .int .i64 mode, .slice a xs.length cap] w fun e w' => e = .returned (.bool (modeB mode && allB fm xs)) ∧ Below w.heap.size w w' := by
  have CM := hid (fun w' => mode_impl mode w')
  have CA := hid (fun w' h h' => allf_impl fm a cap xs w' h h' dx hl)
  obtain ⟨m, hm⟩ : ∃ m, m = modeB mode := ⟨_, rfl⟩
  obtain ⟨o, ho⟩ : ∃ o, o = allB fm xs := ⟨_, rfl⟩
  rw [← hm] at CM ⊢
  rw [← ho] at CA ⊢
  clear hm ho dx
  cases m with
  | false =>
    go_enter Tryz.func83, Tryz.ntmps83
    go_wp2_with fail
    refine (CM.out _).mono ?_
    rintro e w1 ⟨rfl, rfl⟩
    go_wp2
    go_ret
    exact ⟨rfl, (by repeat (first | exact bz0 _ _ | refine bz1 ?_ | refine bz2 ?_ _ | refine bz3 ?_ _ | refine bz5 ?_ _ | refine bz6 ?_ _))⟩
  | true =>
    go_enter Tryz.func83, Tryz.ntmps83
    go_wp2_with fail
    refine (CM.out _).mono ?_
    rintro e w1 ⟨rfl, rfl⟩
    go_wp2_with fail
    refine (CA.out _ hT hx).mono ?_
    rintro e w2 ⟨rfl, hb2⟩
    go_wp2
    go_ret
    exact ⟨rfl, hb2⟩
theorem l4form (fm mode : Int) (a : Option Addr) (cap : Nat) (xs : List Int) (w : World) (hx : Sl .u64 w (.slice a xs.length cap) xs) (hl : xs.length ≤ 1048576) :
    Calls Tryz.prog 61 #[.int .i64 fm, .int .i64 mode, .slice a xs.length cap] w fun e w' => e = .returned (.bool (allB fm xs && fmtB fm && modeB mode)) ∧ Below w.heap.size w w' := by
  obtain ⟨-, hx1, hx2, hx3⟩ := hx.cells
  have CO := hid (fun k w' => spec_ok fm (xs.getD k 0) w')
  have CF := hid (fun w' => fmt_spec fm w')
  have CM := hid (fun w' => mode_spec mode w')
  go_enter Tryz.func61, Tryz.ntmps61
  go_wp2
  go_loopw [7] (fun i wr => ∃ k : Nat, k ≤ xs.length ∧ i = .int .i64 k ∧ (∀ j, j < k → okF fm (xs.getD j 0) = true) ∧ Below w.heap.size w wr) (fun i _ => xs.length - (intOf i).toNat)
  case atStart => exact ⟨0, Nat.zero_le _, rfl, fun j hj => absurd hj (Nat.not_lt_zero _), Below.refl _ _⟩
  case round =>
    obtain ⟨k, hk, rfl, hpre, hb⟩ := hrel
    have PRE := hid hpre
    clear hpre
    by_cases hlt : k < xs.length
    · obtain ⟨b, off, rfl, hcx⟩ := hx3 (by omega)
      have h1 := hcx k hlt
      have h1 : wr.cell? ⟨b, off + k, none⟩ = some (.int .u64 (xs.getD k 0)) := (hb.cell (p := ⟨b, off + k, none⟩) (World.block_lt_of_cell? w _ h1)).trans h1
      clear hx3 hcx
      have C := hid (fun w' => CO.out k w')
      have HNO : Hid (okF fm (xs.getD k 0) = false → (allB fm xs && fmtB fm && modeB mode) = false) := hid (fun h => by rw [allB_no (fm := fm) hlt h]; rfl)
      have PRE2 : Hid (okF fm (xs.getD k 0) = true → ∀ j, j < k + 1 → okF fm (xs.getD j 0) = true) := hid (fun h j hj => by
        by_cases e : j = k
        · subst e; exact h
        · exact PRE.out j (by omega))
      obtain ⟨o, hok⟩ : ∃ o, o = okF fm (xs.getD k 0) := ⟨_, rfl⟩
      obtain ⟨x, hxk⟩ : ∃ x, x = xs.getD k 0 := ⟨_, rfl⟩
      rw [← hok] at C HNO PRE2
      rw [← hxk] at h1 C
      clear hxk hok CO PRE
      cases o with
      | true =>
        have PRE3 := hid (PRE2.out rfl)
        clear PRE2 HNO
        go_wp2_with fail
        refine (C.out _).mono ?_
        rintro e w1 ⟨rfl, hb1⟩
        go_wp2
        go_roundw
        case rel => exact ⟨k + 1, by omega, by go_num, PRE3.out, bel_go hb hb1⟩
        case measure => simp [intOf]; omega
      | false =>
        have HN2 := hid (HNO.out rfl)
        clear PRE2 HNO
        go_wp2_with fail
        refine (C.out _).mono ?_
        rintro e w1 ⟨rfl, hb1⟩
        go_wp2
        go_ret
        exact ⟨ret_bool HN2.out.symm, bel_go hb hb1⟩
    · obtain rfl : k = xs.length := by omega
      have HY := hid (allB_yes PRE.out)
      clear hx3 CO PRE
      cases hf : fmtB fm with
      | false =>
        rw [hf] at CF
        have HR : Hid ((allB fm xs && fmtB fm && modeB mode) = false) := hid (by rw [hf]; simp)
        clear hf HY CM
        go_wp2_with fail
        refine (CF.out _).mono ?_
        rintro e w1 ⟨rfl, rfl⟩
        go_wp2
        go_ret
        exact ⟨ret_bool HR.out.symm, hb⟩
      | true =>
        rw [hf] at CF
        have HR : Hid ((allB fm xs && fmtB fm && modeB mode) = modeB mode) := hid (by rw [hf, HY.out]; simp)
        obtain ⟨m, hm⟩ : ∃ m, m = modeB mode := ⟨_, rfl⟩
        rw [← hm] at CM
        have HM := hid hm
        clear hf HY hm
        go_wp2_with fail
        refine (CF.out _).mono ?_
        rintro e w1 ⟨rfl, rfl⟩
        go_wp2_with fail
        refine (CM.out _).mono ?_
        rintro e w2 ⟨rfl, rfl⟩
        go_wp2
        go_ret
        exact ⟨ret_bool (by rw [HR.out]; exact HM.out), hb⟩
/-- The flag of what is invalid. -/
def fl8 (b : Bool) : Int := if b then 8 else 0
/-- Whether one of the first k has it. -/
def anyK (p : Int → Bool) (xs : List Int) (k : Nat) : Bool := (xs.take k).any p
theorem anyK_succ (p : Int → Bool) {xs : List Int} {k : Nat} (h : k < xs.length) : anyK p xs (k + 1) = (anyK p xs k || p (xs.getD k 0)) := by
  unfold anyK; rw [Nm.take_snoc h, List.any_append]; simp
theorem anyK_all (p : Int → Bool) (xs : List Int) : anyK p xs xs.length = xs.any p := by unfold anyK; rw [List.take_length]
theorem nan_s (fm : Int) (w : World) (h : fmtB fm = true) : Calls Tryz.prog 92 #[.int .i64 fm] w fun e w' => e = .returned (.int .u64 (nanOf fm)) ∧ Below w.heap.size w w' := by
  rcases fmt_cases h with rfl | rfl
  · exact nanS32 w
  · exact nanS64 w
theorem l4nan (fm : Int) (a : Option Addr) (cap : Nat) (xs : List Int) (w : World) (hx : Sl .u64 w (.slice a xs.length cap) xs) (dx : D64 xs) (hl : xs.length ≤ 1048576) (hf : fmtB fm = true) (ha : allB fm xs = true) :
    Calls Tryz.prog 89 #[.int .i64 fm, .slice a xs.length cap] w fun e w' => e = .returned (.tuple #[.int .u64 (nanOf fm), .int .i64 (fl8 (xs.any (nB fm))), .bool (xs.any (nanB fm))]) ∧ Below w.heap.size w w' := by
  obtain ⟨-, hx1, hx2, hx3⟩ := hx.cells
  have hok : ∀ k, k < xs.length → okF fm (xs.getD k 0) = true := fun k hk => by
    unfold allB at ha; rw [List.all_eq_true] at ha
    have := ha _ (List.getElem_mem hk)
    rwa [List.getD_eq_getElem?_getD, List.getElem?_eq_getElem hk]
  have CN := hid (fun k w' (h : k < xs.length) => spec_nan fm (xs.getD k 0) w' (hok k h) (dx.getD k).1 (dx.getD k).2)
  have CC := hid (fun k w' => spec_cls fm (xs.getD k 0) w' (dx.getD k).1 (dx.getD k).2)
  have CA : Hid (∀ w' : World, Calls Tryz.prog 92 #[.int .i64 fm] w' fun e w'' => e = .returned (.int .u64 (nanOf fm)) ∧ Below w'.heap.size w' w'') := hid (fun w' => nan_s fm w' hf)
  clear dx hok hf ha
  have HA1 := hid (anyK_all (nanB fm) xs)
  have HA2 := hid (anyK_all (nB fm) xs)
  obtain ⟨NN, hNN⟩ : ∃ n, n = nanOf fm := ⟨_, rfl⟩
  rw [← hNN] at CA ⊢
  clear hNN
  go_enter Tryz.func89, Tryz.ntmps89
  go_wp2
  go_loopw [7, 8, 9] (fun is fl i wr => ∃ k : Nat, k ≤ xs.length ∧ i = .int .i64 k ∧ is = .bool (anyK (nanB fm) xs k) ∧ fl = .int .i64 (fl8 (anyK (nB fm) xs k)) ∧ Below w.heap.size w wr) (fun _ _ i _ => xs.length - (intOf i).toNat)
  case atStart => exact ⟨0, Nat.zero_le _, rfl, rfl, rfl, Below.refl _ _⟩
  case round =>
    obtain ⟨k, hk, rfl, rfl, rfl, hb⟩ := hrel
    by_cases hlt : k < xs.length
    · obtain ⟨b, off, rfl, hcx⟩ := hx3 (by omega)
      have h1 := hcx k hlt
      have h1 : wr.cell? ⟨b, off + k, none⟩ = some (.int .u64 (xs.getD k 0)) := (hb.cell (p := ⟨b, off + k, none⟩) (World.block_lt_of_cell? w _ h1)).trans h1
      clear hx3 hcx
      have C1 := hid (fun w' => CN.out k w' hlt)
      have C2 := hid (fun w' => CC.out k w')
      have E1 := hid (anyK_succ (nanB fm) hlt)
      have E2 := hid (anyK_succ (nB fm) hlt)
      have hn5 : nB fm (xs.getD k 0) = (cls fm (xs.getD k 0) == 5) := rfl
      rw [hn5] at E2
      obtain ⟨i0, hi0⟩ : ∃ o, o = anyK (nanB fm) xs k := ⟨_, rfl⟩
      obtain ⟨f0, hf0⟩ : ∃ o, o = anyK (nB fm) xs k := ⟨_, rfl⟩
      obtain ⟨n, hn⟩ : ∃ o, o = nanB fm (xs.getD k 0) := ⟨_, rfl⟩
      obtain ⟨c, hc⟩ : ∃ c, c = cls fm (xs.getD k 0) := ⟨_, rfl⟩
      obtain ⟨x, hxk⟩ : ∃ x, x = xs.getD k 0 := ⟨_, rfl⟩
      rw [← hi0, ← hn] at E1
      rw [← hf0, ← hc] at E2
      rw [← hn] at C1
      rw [← hc] at C2
      rw [← hxk] at h1 C1 C2
      rw [← hi0, ← hf0]
      clear hi0 hf0 hn hc hxk CN CC hn5
      have hlt1 := World.block_lt_of_cell? wr _ h1
      by_cases h5 : c = 5
      · subst h5
        have E2' : Hid (anyK (nB fm) xs (k + 1) = true) := hid (by rw [E2.out]; cases f0 <;> rfl)
        clear E2
        cases i0 with
        | true =>
          have E1' : Hid (anyK (nanB fm) xs (k + 1) = true) := hid (by rw [E1.out]; rfl)
          go_wp2_with fail
          refine (C2.out _).mono ?_
          rintro e w2 ⟨rfl, hb2⟩
          go_wp2
          go_roundw
          case rel => exact ⟨k + 1, by omega, by go_num, by rw [E1'.out], by rw [E2'.out]; rfl, bel_go hb hb2⟩
          case measure => simp [intOf]; omega
        | false =>
          have E1' : Hid (anyK (nanB fm) xs (k + 1) = n) := hid (by rw [E1.out]; rfl)
          go_wp2_with fail
          refine (C1.out _).mono ?_
          rintro e w1 ⟨rfl, hb1⟩
          have h2 := (hb1.cell (p := ⟨b, off + k, none⟩) hlt1).trans h1
          go_wp2_with fail
          refine (C2.out _).mono ?_
          rintro e w2 ⟨rfl, hb2⟩
          go_wp2
          go_roundw
          case rel => exact ⟨k + 1, by omega, by go_num, by rw [E1'.out], by rw [E2'.out]; rfl, bel_go (bel_go hb hb1) hb2⟩
          case measure => simp [intOf]; omega
      · have e5 : (c == 5) = false := by simpa using h5
        have E2' : Hid (anyK (nB fm) xs (k + 1) = f0) := hid (by rw [E2.out, e5]; cases f0 <;> rfl)
        clear E2 h5
        cases i0 with
        | true =>
          have E1' : Hid (anyK (nanB fm) xs (k + 1) = true) := hid (by rw [E1.out]; rfl)
          go_wp2_with fail
          refine (C2.out _).mono ?_
          rintro e w2 ⟨rfl, hb2⟩
          go_wp2
          go_roundw
          case rel => exact ⟨k + 1, by omega, by go_num, by rw [E1'.out], by rw [E2'.out], bel_go hb hb2⟩
          case measure => simp [intOf]; omega
        | false =>
          have E1' : Hid (anyK (nanB fm) xs (k + 1) = n) := hid (by rw [E1.out]; rfl)
          go_wp2_with fail
          refine (C1.out _).mono ?_
          rintro e w1 ⟨rfl, hb1⟩
          have h2 := (hb1.cell (p := ⟨b, off + k, none⟩) hlt1).trans h1
          go_wp2_with fail
          refine (C2.out _).mono ?_
          rintro e w2 ⟨rfl, hb2⟩
          go_wp2
          go_roundw
          case rel => exact ⟨k + 1, by omega, by go_num, by rw [E1'.out], by rw [E2'.out], bel_go (bel_go hb hb1) hb2⟩
          case measure => simp [intOf]; omega
    · obtain rfl : k = xs.length := by omega
      obtain ⟨q1, hq1⟩ : ∃ o, o = anyK (nanB fm) xs xs.length := ⟨_, rfl⟩
      obtain ⟨q2, hq2⟩ : ∃ o : Int, o = fl8 (anyK (nB fm) xs xs.length) := ⟨_, rfl⟩
      rw [← hq1, ← hq2]
      have HQ1 : Hid (q1 = xs.any (nanB fm)) := hid (by rw [hq1, HA1.out])
      have HQ2 : Hid (q2 = fl8 (xs.any (nB fm))) := hid (by rw [hq2, HA2.out])
      clear hq1 hq2 hx3 CN CC HA1 HA2
      go_wp2_with fail
      refine (CA.out _).mono ?_
      rintro e w1 ⟨rfl, hb1⟩
      go_wp2
      go_ret3
      exact ⟨ret_uib2 rfl HQ2.out HQ1.out, bel_go hb hb1⟩
theorem cls_inf {fm x : Int} (hx : okF fm x = true) (x0 : 0 ≤ x) : (absF fm x == infOf fm) = (cls fm x == 3) := by
  rw [Bool.eq_iff_iff, beq_iff_eq, beq_iff_eq]
  rcases okF_cases hx with ⟨rfl, hx'⟩ | rfl
  · rw [abs32 hx', cls32 hx']
    unfold infOf clsY
    rw [if_pos rfl]
    have := Int.emod_nonneg x (show (2147483648 : Int) ≠ 0 by decide)
    repeat (first | omega | split)
  · rw [abs64, cls64]
    unfold infOf clsY
    rw [if_neg (by decide)]
    have := Int.emod_nonneg x (show (9223372036854775808 : Int) ≠ 0 by decide)
    repeat (first | omega | split)
theorem inf_s (fm : Int) (w : World) (h : fmtB fm = true) : Calls Tryz.prog 96 #[.int .i64 fm] w fun e w' => e = .returned (.int .u64 (infOf fm)) ∧ Below w.heap.size w w' := by
  rcases fmt_cases h with rfl | rfl
  · exact infS32 w
  · exact infS64 w
theorem with_s (fm x : Int) (ng : Bool) (w : World) (h : fmtB fm = true) (x0 : 0 ≤ x) (x1 : x < 2147483648 ∨ (fm = 64 ∧ x < 9223372036854775808)) : Calls Tryz.prog 95 #[.int .i64 fm, .int .u64 x, .bool ng] w fun e w' => e = .returned (.int .u64 (sgn (sgOf fm) x ng)) ∧ Below w.heap.size w w' := by
  rcases fmt_cases h with rfl | rfl
  · exact with_32 x ng w (fun _ => ⟨x0, by rcases x1 with h' | ⟨h', _⟩; exact h'; exact absurd h' (by decide)⟩)
  · exact with_64 x ng w (fun _ => ⟨x0, by omega⟩)
theorem ok_fmt {fm x : Int} (h : okF fm x = true) : fmtB fm = true := by
  rcases okF_cases h with ⟨rfl, _⟩ | rfl <;> rfl
theorem inf4 (fm x : Int) (w : World) (h : okF fm x = true) (h0 : 0 ≤ x) (h1 : x < 18446744073709551616) (i : Bool) (hi : i = nI fm x) :
    Calls Tryz.prog 93 #[.int .i64 fm, .int .u64 x] w fun e w' => e = .returned (.bool i) ∧ Below w.heap.size w w' := by
  have C := hid (fun w' => spec_l2abs fm x w' h h0 h1)
  have CI := hid (fun w' => inf_s fm w' (ok_fmt h))
  have e := cls_inf h h0
  have hi' : i = (cls fm x == 3) := hi
  rw [← e] at hi'
  obtain ⟨a, ha⟩ : ∃ a, a = absF fm x := ⟨_, rfl⟩
  obtain ⟨b, hb⟩ : ∃ b, b = infOf fm := ⟨_, rfl⟩
  rw [← ha] at C hi'
  rw [← hb] at CI hi'
  subst hi'
  clear ha hb e hi
  go_enter Tryz.func93, Tryz.ntmps93
  go_wp2_with fail
  refine (C.out _).mono ?_
  rintro r w1 ⟨rfl, hb1⟩
  go_wp2_with fail
  refine (CI.out _).mono ?_
  rintro r w2 ⟨rfl, hb2⟩
  go_wp2
  go_ret
  exact ⟨rfl, (by repeat (first | exact bz0 _ _ | refine bz1 ?_ | refine bz2 ?_ _ | refine bz3 ?_ _ | refine bz4 ?_ hb2 | refine bz4 ?_ hb1 | refine bz5 ?_ _ | refine bz6 ?_ _ | refine bz7 ?_ hb2 | refine bz7 ?_ hb1))⟩
theorem zer4 (fm x : Int) (w : World) (h : okF fm x = true) (h0 : 0 ≤ x) (h1 : x < 18446744073709551616) (z : Bool) (hz : z = (absF fm x == 0)) :
    Calls Tryz.prog 164 #[.int .i64 fm, .int .u64 x] w fun e w' => e = .returned (.bool z) ∧ Below w.heap.size w w' := by
  have C := hid (fun w' => spec_l2abs fm x w' h h0 h1)
  obtain ⟨a, ha⟩ : ∃ a, a = absF fm x := ⟨_, rfl⟩
  rw [← ha] at C hz
  subst hz
  clear ha
  go_enter Tryz.func164, Tryz.ntmps164
  go_wp2_with fail
  refine (C.out _).mono ?_
  rintro r w1 ⟨rfl, hb1⟩
  go_wp2
  go_ret
  exact ⟨rfl, (by repeat (first | exact bz0 _ _ | refine bz1 ?_ | refine bz2 ?_ _ | refine bz3 ?_ _ | refine bz4 ?_ hb1 | refine bz5 ?_ _ | refine bz6 ?_ _ | refine bz7 ?_ hb1))⟩
end Go.Proofs.YtmcflggionkhlaaGreatDoor
