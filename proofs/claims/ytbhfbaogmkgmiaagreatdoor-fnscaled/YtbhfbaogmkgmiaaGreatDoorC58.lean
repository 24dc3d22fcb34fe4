/-
  What is needed of RX, DP, SM, ZSc.
-/
import Derived.Test.YtbhfbaogmkgmiaaGreatDoorC30
import Derived.Test.YtbhfbaogmkgmiaaGreatDoorC39
import Derived.Test.YtbhfbaogmkgmiaaGreatDoorC47
set_option maxHeartbeats 16000000
set_option maxRecDepth 1000000
namespace Go.Proofs.YtbhfbaogmkgmiaaGreatDoor
set_option linter.unusedVariables false
set_option linter.unusedSimpArgs false
open Go.RowKit Go.Deep
namespace Fd
/-- What is rounded and is not too great, in units. -/
theorem unR32 (mode z e : Int) (hO : RdO 32 mode (Nm.wn z) (Nm.wl z) e = true) (hz : z ≠ 0) (hf : Nm.flo 24 2139095040 (rdU 24 (-149) mode (Nm.wn z) z.natAbs e) = true) :
    0 ≤ RdB 32 mode (Nm.wn z) (Nm.wl z) e ∧ RdB 32 mode (Nm.wn z) (Nm.wl z) e < 4294967296 ∧ finB 32 (RdB 32 mode (Nm.wn z) (Nm.wl z) e) = true ∧ unI 32 (RdB 32 mode (Nm.wn z) (Nm.wl z) e) = (if z < 0 then -((rdU 24 (-149) mode (Nm.wn z) z.natAbs e : Nat) : Int) else (rdU 24 (-149) mode (Nm.wn z) z.natAbs e : Nat)) := by
  obtain ⟨b1, -⟩ := Rd_any32 mode (Nm.wn z) (Nm.wl z) e hO (fun h => hz ((wl_zero' z).1 h))
  rw [b1, Nm.val_wl, Int.toNat_natCast]
  have hI : Nm.flb 24 (rdU 24 (-149) mode (Nm.wn z) z.natAbs e) < 2139095040 := by
    unfold Nm.flo at hf
    simp only [Bool.and_eq_true, decide_eq_true_eq] at hf
    exact hf.2
  have hr : rdB 24 (-149) 2139095040 2147483648 mode (Nm.wn z) z.natAbs e = sgn 2147483648 (Nm.flb 24 (rdU 24 (-149) mode (Nm.wn z) z.natAbs e) : Nat) (Nm.wn z) := by unfold rdB; rw [if_pos hf]
  have hu := flb_uf 24 2139095040 _ (by decide) hf
  rw [show (2 : Nat) ^ (24 - 1) = 8388608 by decide] at hu
  obtain ⟨u1, u2, u3, u4⟩ := unSg32 hI (Nm.wn z)
  rw [hr]
  refine ⟨u1, u2, u3, ?_⟩
  rw [u4, hu]
  unfold Nm.wn
  by_cases h : z < 0
  · rw [decide_eq_true h, if_pos h]; rfl
  · rw [decide_eq_false h, if_neg h]; rfl
/-- Without a flag it is what was rounded. -/
theorem F0_32 (mode z e : Int) (hO : RdO 32 mode (Nm.wn z) (Nm.wl z) e = true) (hz : z ≠ 0) (hF : RdF 32 mode (Nm.wn z) (Nm.wl z) e = 0) :
    0 ≤ RdB 32 mode (Nm.wn z) (Nm.wl z) e ∧ RdB 32 mode (Nm.wn z) (Nm.wl z) e < 4294967296 ∧ finB 32 (RdB 32 mode (Nm.wn z) (Nm.wl z) e) = true ∧ ValF 32 (RdB 32 mode (Nm.wn z) (Nm.wl z) e) z e ∧ Nm.rr 24 (-149) z.natAbs e = 0 := by
  obtain ⟨-, b2⟩ := Rd_any32 mode (Nm.wn z) (Nm.wl z) e hO (fun h => hz ((wl_zero' z).1 h))
  rw [b2, Nm.val_wl, Int.toNat_natCast] at hF
  have hf : Nm.flo 24 2139095040 (rdU 24 (-149) mode (Nm.wn z) z.natAbs e) = true := by
    cases h : Nm.flo 24 2139095040 (rdU 24 (-149) mode (Nm.wn z) z.natAbs e)
    · unfold rdF at hF; rw [h] at hF; simp at hF
    · rfl
  have hr : Nm.rr 24 (-149) z.natAbs e = 0 := by
    unfold rdF at hF
    rw [if_pos hf] at hF
    by_cases h : Nm.rr 24 (-149) z.natAbs e = 0
    · exact h
    · rw [if_neg h] at hF; split at hF <;> simp at hF
  obtain ⟨u1, u2, u3, u4⟩ := unR32 mode z e hO hz hf
  refine ⟨u1, u2, u3, ?_, hr⟩
  have hd := Nm.off_dn (P := 24) (q := (-149)) (a := z.natAbs) (e := e)
  rw [hr, Nat.zero_mul, Nat.add_zero] at hd
  have hU : rdU 24 (-149) mode (Nm.wn z) z.natAbs e = Nm.rU 24 (-149) z.natAbs e false := by
    unfold rdU; rw [Nm.rU_ex hr, Nm.rU_ex hr]
  rw [← hU] at hd
  have hd' : ((rdU 24 (-149) mode (Nm.wn z) z.natAbs e : Nat) : Int) * 2 ^ ((-149) - min e (-149)).toNat = (z.natAbs : Int) * 2 ^ (e - min e (-149)).toNat := by
    have := congrArg (fun n : Nat => (n : Int)) hd
    simpa using this
  unfold ValF
  rw [u4]
  show _ * 2 ^ ((-149) - min e (-149)).toNat = _ * 2 ^ (e - min e (-149)).toNat
  by_cases h : z < 0
  · rw [if_pos h, Int.neg_mul, hd', show ((z.natAbs : Nat) : Int) = -z by omega, Int.neg_mul, Int.neg_neg]
  · rw [if_neg h, hd', show ((z.natAbs : Nat) : Int) = z by omega]
/-- What is rounded and is not too great, in units. -/
theorem unR64 (mode z e : Int) (hO : RdO 64 mode (Nm.wn z) (Nm.wl z) e = true) (hz : z ≠ 0) (hf : Nm.flo 53 9218868437227405312 (rdU 53 (-1074) mode (Nm.wn z) z.natAbs e) = true) :
    0 ≤ RdB 64 mode (Nm.wn z) (Nm.wl z) e ∧ RdB 64 mode (Nm.wn z) (Nm.wl z) e < 18446744073709551616 ∧ finB 64 (RdB 64 mode (Nm.wn z) (Nm.wl z) e) = true ∧ unI 64 (RdB 64 mode (Nm.wn z) (Nm.wl z) e) = (if z < 0 then -((rdU 53 (-1074) mode (Nm.wn z) z.natAbs e : Nat) : Int) else (rdU 53 (-1074) mode (Nm.wn z) z.natAbs e : Nat)) := by
  obtain ⟨b1, -⟩ := Rd_any64 mode (Nm.wn z) (Nm.wl z) e hO (fun h => hz ((wl_zero' z).1 h))
  rw [b1, Nm.val_wl, Int.toNat_natCast]
  have hI : Nm.flb 53 (rdU 53 (-1074) mode (Nm.wn z) z.natAbs e) < 9218868437227405312 := by
    unfold Nm.flo at hf
    simp only [Bool.and_eq_true, decide_eq_true_eq] at hf
    exact hf.2
  have hr : rdB 53 (-1074) 9218868437227405312 9223372036854775808 mode (Nm.wn z) z.natAbs e = sgn 9223372036854775808 (Nm.flb 53 (rdU 53 (-1074) mode (Nm.wn z) z.natAbs e) : Nat) (Nm.wn z) := by unfold rdB; rw [if_pos hf]
  have hu := flb_uf 53 9218868437227405312 _ (by decide) hf
  rw [show (2 : Nat) ^ (53 - 1) = 4503599627370496 by decide] at hu
  obtain ⟨u1, u2, u3, u4⟩ := unSg64 hI (Nm.wn z)
  rw [hr]
  refine ⟨u1, u2, u3, ?_⟩
  rw [u4, hu]
  unfold Nm.wn
  by_cases h : z < 0
  · rw [decide_eq_true h, if_pos h]; rfl
  · rw [decide_eq_false h, if_neg h]; rfl
/-- Without a flag it is what was rounded. -/
theorem F0_64 (mode z e : Int) (hO : RdO 64 mode (Nm.wn z) (Nm.wl z) e = true) (hz : z ≠ 0) (hF : RdF 64 mode (Nm.wn z) (Nm.wl z) e = 0) :
    0 ≤ RdB 64 mode (Nm.wn z) (Nm.wl z) e ∧ RdB 64 mode (Nm.wn z) (Nm.wl z) e < 18446744073709551616 ∧ finB 64 (RdB 64 mode (Nm.wn z) (Nm.wl z) e) = true ∧ ValF 64 (RdB 64 mode (Nm.wn z) (Nm.wl z) e) z e ∧ Nm.rr 53 (-1074) z.natAbs e = 0 := by
  obtain ⟨-, b2⟩ := Rd_any64 mode (Nm.wn z) (Nm.wl z) e hO (fun h => hz ((wl_zero' z).1 h))
  rw [b2, Nm.val_wl, Int.toNat_natCast] at hF
  have hf : Nm.flo 53 9218868437227405312 (rdU 53 (-1074) mode (Nm.wn z) z.natAbs e) = true := by
    cases h : Nm.flo 53 9218868437227405312 (rdU 53 (-1074) mode (Nm.wn z) z.natAbs e)
    · unfold rdF at hF; rw [h] at hF; simp at hF
    · rfl
  have hr : Nm.rr 53 (-1074) z.natAbs e = 0 := by
    unfold rdF at hF
    rw [if_pos hf] at hF
    by_cases h : Nm.rr 53 (-1074) z.natAbs e = 0
    · exact h
    · rw [if_neg h] at hF; split at hF <;> simp at hF
  obtain ⟨u1, u2, u3, u4⟩ := unR64 mode z e hO hz hf
  refine ⟨u1, u2, u3, ?_, hr⟩
  have hd := Nm.off_dn (P := 53) (q := (-1074)) (a := z.natAbs) (e := e)
  rw [hr, Nat.zero_mul, Nat.add_zero] at hd
  have hU : rdU 53 (-1074) mode (Nm.wn z) z.natAbs e = Nm.rU 53 (-1074) z.natAbs e false := by
    unfold rdU; rw [Nm.rU_ex hr, Nm.rU_ex hr]
  rw [← hU] at hd
  have hd' : ((rdU 53 (-1074) mode (Nm.wn z) z.natAbs e : Nat) : Int) * 2 ^ ((-1074) - min e (-1074)).toNat = (z.natAbs : Int) * 2 ^ (e - min e (-1074)).toNat := by
    have := congrArg (fun n : Nat => (n : Int)) hd
    simpa using this
  unfold ValF
  rw [u4]
  show _ * 2 ^ ((-1074) - min e (-1074)).toNat = _ * 2 ^ (e - min e (-1074)).toNat
  by_cases h : z < 0
  · rw [if_pos h, Int.neg_mul, hd', show ((z.natAbs : Nat) : Int) = -z by omega, Int.neg_mul, Int.neg_neg]
  · rw [if_neg h, hd', show ((z.natAbs : Nat) : Int) = z by omega]
theorem F0_any {fm : Int} (hfm : fmtB fm = true) (mode z e : Int) (hO : RdO fm mode (Nm.wn z) (Nm.wl z) e = true) (hz : z ≠ 0) (hF : RdF fm mode (Nm.wn z) (Nm.wl z) e = 0) :
    0 ≤ RdB fm mode (Nm.wn z) (Nm.wl z) e ∧ RdB fm mode (Nm.wn z) (Nm.wl z) e < 18446744073709551616 ∧ okF fm (RdB fm mode (Nm.wn z) (Nm.wl z) e) = true ∧ finB fm (RdB fm mode (Nm.wn z) (Nm.wl z) e) = true ∧ ValF fm (RdB fm mode (Nm.wn z) (Nm.wl z) e) z e := by
  rcases fmt_cases hfm with rfl | rfl
  · obtain ⟨a1, a2, a3, a4, -⟩ := F0_32 mode z e hO hz hF
    exact ⟨a1, by omega, okF32 a2, a3, a4⟩
  · obtain ⟨a1, a2, a3, a4, -⟩ := F0_64 mode z e hO hz hF
    exact ⟨a1, a2, okF64, a3, a4⟩
theorem RdV_any {fm x : Int} (hx : okF fm x = true) (h0 : 0 ≤ x) (h1 : x < 18446744073709551616) (hf : finB fm x = true) (mode z e : Int) (hm : modeB mode = true) (hO : RdO fm mode (Nm.wn z) (Nm.wl z) e = true) (hz : z ≠ 0) (hv : ValF fm x z e) :
    RdB fm mode (Nm.wn z) (Nm.wl z) e = x ∧ RdF fm mode (Nm.wn z) (Nm.wl z) e = 0 := by
  rcases okF_cases hx with ⟨rfl, hb⟩ | rfl
  · exact RdV_32 h0 hb hf mode z e hm hO hz hv
  · exact RdV_64 h0 h1 hf mode z e hm hO hz hv
theorem drawScaled_x (ca : Option Addr) (cc : Nat) (cs : List Int) (w : World) (hs : Sl .u8 w (.slice ca cs.length cc) cs) (hby : ∀ i, 0 ≤ cs.getD i 0 ∧ cs.getD i 0 ≤ 255) (hl : cs.length ≤ 1048576) :
    Calls Tryz.prog 42 #[.slice ca cs.length cc] w fun e w' => ∃ fm mode x n : Int, e = .returned (.tuple #[.int .i64 fm, .int .i64 mode, .int .u64 x, .int .i64 n]) ∧ 0 ≤ x ∧ x < 18446744073709551616 ∧ Below w.heap.size w w' := by
  go_enter Tryz.func42, Tryz.ntmps42
  go_wp2_with fail
  refine (open_any ca cc cs _ hs hby hl).mono ?_
  rintro e w1 ⟨rfl, hr1, hb1⟩
  go_wp2_with fail
  refine (some_any w.heap.size ca cc cs _ hr1).mono ?_
  rintro e w2 ⟨fm, x, rfl, x0, x1, hr2, hg2⟩
  have bel := bel_rd hb1 hg2 (Nat.le_refl _)
  clear hb1 hg2
  have S : ∀ (n : Int) (w3 : World), RD w3 w.heap.size ca cc cs → Below w.heap.size w w3 → True := fun _ _ _ _ => trivial
  go_wp2_with fail
  refine (below_any w.heap.size ca cc cs 400 _ hr2 (by decide) (by decide)).mono ?_
  rintro e w3 ⟨v, rfl, v0, v1, hr3, hg3⟩
  replace bel := bel_rd bel hg3 (Nat.le_refl _)
  clear hr2 hg3 hr1 S
  go_wp2_with fail
  refine (once_any w.heap.size ca cc cs 4 _ hr3 (by decide) (by decide)).mono ?_
  rintro e w4 ⟨o1, rfl, hr4, hg4⟩
  replace bel := bel_rd bel hg4 (Nat.le_refl _)
  clear hr3 hg4
  obtain ⟨n1, hn1⟩ : ∃ n1 : Int, n1 = IntKind.i64.wrap (v - 200) := ⟨_, rfl⟩
  cases o1
  · go_wp2_with fail
    refine (once_any w.heap.size ca cc cs 4 _ hr4 (by decide) (by decide)).mono ?_
    rintro e w5 ⟨o2, rfl, hr5, hg5⟩
    replace bel := bel_rd bel hg5 (Nat.le_refl _)
    clear hr4 hg5
    cases o2
    · go_wp2_with fail
      refine (off_z w.heap.size ca cc cs 0 5 _ hr5 (by decide) (by decide) (by decide)).mono ?_
      rintro e w6 ⟨m, rfl, hr6, hg6⟩
      go_wp2
      ((try simp only [Exit.inBlock, Exit.then]); refine bodyPost_ret (res4 rfl _ _ _) rfl ?_)
      exact ⟨_, _, _, _, rfl, x0, x1, bel_rd bel hg6 (Nat.le_refl _)⟩
    · go_wp2_with fail
      refine (below_any w.heap.size ca cc cs 4400 _ hr5 (by decide) (by decide)).mono ?_
      rintro e w6 ⟨v2, rfl, v20, v21, hr6, hg6⟩
      replace bel := bel_rd bel hg6 (Nat.le_refl _)
      clear hr5 hg6
      go_wp2_with fail
      refine (off_z w.heap.size ca cc cs 0 5 _ hr6 (by decide) (by decide) (by decide)).mono ?_
      rintro e w7 ⟨m, rfl, hr7, hg7⟩
      go_wp2
      ((try simp only [Exit.inBlock, Exit.then]); refine bodyPost_ret (res4 rfl _ _ _) rfl ?_)
      exact ⟨_, _, _, _, rfl, x0, x1, bel_rd bel hg7 (Nat.le_refl _)⟩
  · go_wp2_with fail
    refine (off_z w.heap.size ca cc cs (-5000) 5000 _ hr4 (by decide) (by decide) (by decide)).mono ?_
    rintro e w5 ⟨n, rfl, hr5, hg5⟩
    replace bel := bel_rd bel hg5 (Nat.le_refl _)
    clear hr4 hg5
    go_wp2_with fail
    refine (once_any w.heap.size ca cc cs 4 _ hr5 (by decide) (by decide)).mono ?_
    rintro e w6 ⟨o2, rfl, hr6, hg6⟩
    replace bel := bel_rd bel hg6 (Nat.le_refl _)
    clear hr5 hg6
    cases o2
    · go_wp2_with fail
      refine (off_z w.heap.size ca cc cs 0 5 _ hr6 (by decide) (by decide) (by decide)).mono ?_
      rintro e w7 ⟨m, rfl, hr7, hg7⟩
      go_wp2
      ((try simp only [Exit.inBlock, Exit.then]); refine bodyPost_ret (res4 rfl _ _ _) rfl ?_)
      exact ⟨_, _, _, _, rfl, x0, x1, bel_rd bel hg7 (Nat.le_refl _)⟩
    · go_wp2_with fail
      refine (below_any w.heap.size ca cc cs 4400 _ hr6 (by decide) (by decide)).mono ?_
      rintro e w7 ⟨v2, rfl, v20, v21, hr7, hg7⟩
      replace bel := bel_rd bel hg7 (Nat.le_refl _)
      clear hr6 hg7
      go_wp2_with fail
      refine (off_z w.heap.size ca cc cs 0 5 _ hr7 (by decide) (by decide) (by decide)).mono ?_
      rintro e w8 ⟨m, rfl, hr8, hg8⟩
      go_wp2
      ((try simp only [Exit.inBlock, Exit.then]); refine bodyPost_ret (res4 rfl _ _ _) rfl ?_)
      exact ⟨_, _, _, _, rfl, x0, x1, bel_rd bel hg8 (Nat.le_refl _)⟩
theorem cls_le3 {fm x : Int} (hx : okF fm x = true) (h : cls fm x ≤ 3) : nanB fm x = false := by
  cases hn : nanB fm x
  · rfl
  · rcases cls_nan hx hn with h' | h' <;> omega
/-- Scaled without a flag, and back. -/
theorem sc_back {fm mode a n : Int} (a0 : 0 ≤ a) (a1 : a < 18446744073709551616) (hO : scO fm mode a n = true) (hF : scF fm mode a n = 0) (hc : cls fm a ≤ 3) :
    scO fm mode (scB fm mode a n) (-n) = true ∧ scB fm mode (scB fm mode a n) (-n) = a ∧ scF fm mode (scB fm mode a n) (-n) = 0 := by
  have hO' := hO
  unfold scO at hO'
  simp only [Bool.and_eq_true] at hO'
  obtain ⟨⟨hm, hok⟩, hn⟩ := hO'
  have hn' : -5000 ≤ n ∧ n ≤ 5000 := by unfold inB at hn; simpa using hn
  have hnn : inB (-n) (-5000) 5000 = true := by unfold inB; simp; omega
  have nan := cls_le3 hok hc
  by_cases hz : (nI fm a || zF fm a) = true
  · have hB : scB fm mode a n = a := by unfold scB; rw [hO, if_pos rfl, nan]; simp only [Bool.false_eq_true, if_false]; rw [if_pos hz]
    have hO2 : scO fm mode a (-n) = true := by unfold scO; rw [hm, hok, hnn]; rfl
    rw [hB]
    refine ⟨hO2, ?_, ?_⟩
    · unfold scB; rw [hO2, if_pos rfl, nan]; simp only [Bool.false_eq_true, if_false]; rw [if_pos hz]
    · unfold scF; rw [hO2, if_pos rfl, nan]; simp only [Bool.false_eq_true, if_false]; rw [if_pos hz]
  · have hB : scB fm mode a n = RdB fm mode (Nm.wn (nZ fm a)) (Nm.wl (nZ fm a)) (nE fm a + n) := by unfold scB; rw [hO, if_pos rfl, nan]; simp only [Bool.false_eq_true, if_false]; rw [if_neg hz]
    have hF' : RdF fm mode (Nm.wn (nZ fm a)) (Nm.wl (nZ fm a)) (nE fm a + n) = 0 := by
      unfold scF at hF; rw [hO, if_pos rfl, nan] at hF; simp only [Bool.false_eq_true, if_false] at hF; rw [if_neg hz] at hF; exact hF
    have hni : nI fm a = false := by cases h : nI fm a <;> simp [h] at hz ⊢
    have hzf : zF fm a = false := by cases h : zF fm a <;> simp [h] at hz ⊢
    have hfin : finB fm a = true := by
      rcases nan_cases hok nan with h | h
      · exact h
      · rw [h] at hni; exact absurd hni (by decide)
    have hz0 : nZ fm a ≠ 0 := by have := zF_fin hok hfin; rw [hzf] at this; simpa using this.symm
    have hfm := ok_fmt hok
    obtain ⟨-, e0, e1⟩ := nZ_bd fm a
    have hRO := rdo_any (fm := fm) (mode := mode) (z := nZ fm a) (e := nE fm a + n) hfm hm (nZ_len fm a) (by omega) (by omega)
    obtain ⟨x0, x1, xok, xfin, xv⟩ := F0_any hfm mode (nZ fm a) (nE fm a + n) hRO hz0 hF'
    rw [← hB] at x0 x1 xok xfin xv
    obtain ⟨x, hx⟩ : ∃ x, x = scB fm mode a n := ⟨_, rfl⟩
    rw [← hx] at x0 x1 xok xfin xv ⊢
    have ux := un_nZ xok xfin
    have ua := un_nZ hok hfin
    unfold ValF at xv
    have hux0 : unI fm x ≠ 0 := fun h => hz0 ((sgn_same (pw_i _) (pw_i _) xv).2.1 h)
    have hx0 : nZ fm x ≠ 0 := fun h => hux0 (by rw [ux, h, Int.zero_mul])
    have hva : ValF fm a (nZ fm x) (nE fm x - n) := val_back (A := 0) (B := 0) ua ux (nE_q hfin) (nE_q xfin) xv
    obtain ⟨-, f0, f1⟩ := nZ_bd fm x
    have hRO2 := rdo_any (fm := fm) (mode := mode) (z := nZ fm x) (e := nE fm x - n) hfm hm (nZ_len fm x) (by omega) (by omega)
    have hr := RdV_any hok a0 a1 hfin mode (nZ fm x) (nE fm x - n) hm hRO2 hx0 hva
    have ff := fin_facts xok xfin
    have hO2 : scO fm mode x (-n) = true := by unfold scO; rw [hm, xok, hnn]; rfl
    have hzx : (nI fm x || zF fm x) = false := by rw [ff.2.1, zF_fin xok xfin, decide_eq_false hx0]; rfl
    have en : nE fm x + -n = nE fm x - n := (Int.sub_eq_add_neg).symm
    refine ⟨hO2, ?_, ?_⟩
    · unfold scB; rw [hO2, if_pos rfl, ff.2.2.2.2.1, hzx, en]; simp only [Bool.false_eq_true, if_false]; exact hr.1
    · unfold scF; rw [hO2, if_pos rfl, ff.2.2.2.2.1, hzx, en]; simp only [Bool.false_eq_true, if_false]; exact hr.2
theorem sclaw (ca : Option Addr) (cc : Nat) (cs : List Int) (w : World) (hT : EX3 w) (hs : Sl .u8 w (.slice ca cs.length cc) cs) (hby : ∀ i, 0 ≤ cs.getD i 0 ∧ cs.getD i 0 ≤ 255) (hl : cs.length ≤ 1048576) :
    Calls Tryz.prog 10 #[.slice ca cs.length cc] w fun e w' => e = .returned (.bool true) ∧ Below w.heap.size w w' := by
  go_enter Tryz.func10, Tryz.ntmps10
  go_wp2_with fail
  refine (big_any ca cs.length cc _ (by omega) false (by simp; omega)).mono ?_
  rintro r w0 ⟨rfl, rfl⟩
  go_wp2_with fail
  refine (drawScaled_x ca cc cs _ hs hby hl).mono ?_
  rintro r w1 ⟨fm, mode, a, n, rfl, a0, a1, bel⟩
  obtain ⟨u, T⟩ := hT.below bel
  clear hs hby hl hT
  have SI := hid (fun w' h => sci_all fm mode a n u w' h a0 a1 _ _ _ rfl rfl rfl)
  have SS := hid (fun w' => sc_spec fm mode a n w' a0 a1 _ _ _ rfl rfl rfl)
  have CC := hid (fun w' => spec_cls fm a w' a0 a1)
  have BK := hid (sc_back (fm := fm) (mode := mode) (n := n) a0 a1)
  have BD := hid (scB_bd fm mode a n a0 a1)
  have NB : scO fm mode a n = true → -5000 ≤ n ∧ n ≤ 5000 := fun h => by unfold scO inB at h; simp at h; omega
  have BK2 := hid (fun x (h : 0 ≤ x ∧ x < 18446744073709551616) w' h' => sci_all fm mode x (-n) u w' h' h.1 h.2 _ _ _ rfl rfl rfl)
  obtain ⟨B, h_B⟩ : ∃ q, q = scB fm mode a n := ⟨_, rfl⟩
  obtain ⟨F, h_F⟩ : ∃ q, q = scF fm mode a n := ⟨_, rfl⟩
  obtain ⟨O, h_O⟩ : ∃ q, q = scO fm mode a n := ⟨_, rfl⟩
  obtain ⟨c, h_c⟩ : ∃ q, q = cls fm a := ⟨_, rfl⟩
  rw [← h_B, ← h_F, ← h_O] at SI SS
  rw [← h_c] at CC
  rw [← h_B, ← h_F, ← h_O, ← h_c] at BK
  rw [← h_B] at BD
  rw [← h_O] at NB
  clear h_B h_F h_O h_c
  have ne_B : (B != B) = false := by simp
  have eq_B : (B == B) = true := by simp
  have ne_F : (F != F) = false := by simp
  have eq_F : (F == F) = true := by simp
  have ne_O : (O != O) = false := by simp
  have eq_O : (O == O) = true := by simp
  cases O
  · clear BK BD NB BK2 CC
    go_wp2_with fail
    refine (SI.out _ T).mono ?_
    rintro r w2 ⟨rfl, hb⟩
    replace bel := bel_go bel hb
    replace T := T.below hb
    clear hb
    go_wp2_with fail
    refine (SS.out _).mono ?_
    rintro r w3 ⟨rfl, hb⟩
    replace bel := bel_go bel hb
    replace T := T.below hb
    clear hb
    go_wp2
    all_goals go_ret
    all_goals exact ⟨rfl, bel⟩
  · by_cases hF : F = 0
    · subst hF
      by_cases hc : c ≤ 3
      · obtain ⟨k1, k2, k3⟩ := BK.out rfl rfl hc
        obtain ⟨n0, n1⟩ := NB rfl
        have S2 := hid (fun w' h' => BK2.out B BD.out w' h')
        rw [k1, k2, k3] at S2
        have hW : IntKind.i64.wrap (-n) = -n := by rw [IntKind.wrap_i64]; omega
        have hW2 : wrap64 (-n) = -n := by unfold wrap64; omega
        have hc' : decide (3 < c) = false := decide_eq_false (by omega)
        have hc2 : ¬ 3 < c := by omega
        have eqa : (a == a) = true := by simp
        clear BK BD NB BK2 k1 k2 k3 n0 n1 hc
        go_wp2_with fail
        refine (SI.out _ T).mono ?_
        rintro r w2 ⟨rfl, hb⟩
        replace bel := bel_go bel hb
        replace T := T.below hb
        clear hb
        go_wp2_with fail
        refine (SS.out _).mono ?_
        rintro r w3 ⟨rfl, hb⟩
        replace bel := bel_go bel hb
        replace T := T.below hb
        clear hb
        go_wp2_with fail
        refine (CC.out _).mono ?_
        rintro r w4 ⟨rfl, hb⟩
        replace bel := bel_go bel hb
        replace T := T.below hb
        clear hb
        go_wp2_with fail
        refine (S2.out _ T).mono ?_
        rintro r w5 ⟨rfl, hb⟩
        replace bel := bel_go bel hb
        replace T := T.below hb
        clear hb
        go_wp2
        all_goals go_ret
        all_goals exact ⟨rfl, bel⟩
      · have hc' : decide (3 < c) = true := decide_eq_true (by omega)
        have hc2 : 3 < c := by omega
        clear BK BD NB BK2 hc
        go_wp2_with fail
        refine (SI.out _ T).mono ?_
        rintro r w2 ⟨rfl, hb⟩
        replace bel := bel_go bel hb
        replace T := T.below hb
        clear hb
        go_wp2_with fail
        refine (SS.out _).mono ?_
        rintro r w3 ⟨rfl, hb⟩
        replace bel := bel_go bel hb
        replace T := T.below hb
        clear hb
        go_wp2_with fail
        refine (CC.out _).mono ?_
        rintro r w4 ⟨rfl, hb⟩
        replace bel := bel_go bel hb
        replace T := T.below hb
        clear hb
        go_wp2
        all_goals go_ret
        all_goals exact ⟨rfl, bel⟩
    · have hF' : (F != 0) = true := by simpa using hF
      clear BK BD NB BK2 CC
      go_wp2_with fail
      refine (SI.out _ T).mono ?_
      rintro r w2 ⟨rfl, hb⟩
      replace bel := bel_go bel hb
      replace T := T.below hb
      clear hb
      go_wp2_with fail
      refine (SS.out _).mono ?_
      rintro r w3 ⟨rfl, hb⟩
      replace bel := bel_go bel hb
      replace T := T.below hb
      clear hb
      go_wp2
      all_goals go_ret
      all_goals exact ⟨rfl, bel⟩
theorem sclaw_all (ca : Option Addr) (cc : Nat) (cs : List Int) (w : World) (hT : EX3 w) (hs : Sl .u8 w (.slice ca cs.length cc) cs) (hby : ∀ i, 0 ≤ cs.getD i 0 ∧ cs.getD i 0 ≤ 255) :
    Calls Tryz.prog 10 #[.slice ca cs.length cc] w fun e w' => e = .returned (.bool true) ∧ Below w.heap.size w w' := by
  by_cases h : cs.length ≤ 1048576
  · exact sclaw ca cc cs w hT hs hby h
  · have hn : cs.length ≤ 9223372036854775807 := by obtain ⟨_, h1, h2, _⟩ := hs.cells; unfold maxLen at h2; omega
    have CB := hid (big_any ca cs.length cc w hn true (by simp; omega))
    clear hs hby h hn
    go_enter Tryz.func10, Tryz.ntmps10
    go_wp2_with fail
    refine CB.out.mono ?_
    rintro e w0 ⟨rfl, rfl⟩
    go_wp2
    go_ret
    exact ⟨rfl, Below.refl _ _⟩
end Fd
end Go.Proofs.YtbhfbaogmkgmiaaGreatDoor
