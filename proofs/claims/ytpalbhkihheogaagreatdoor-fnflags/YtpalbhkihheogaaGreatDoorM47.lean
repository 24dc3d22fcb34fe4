/-
  What is needed of RS, RJ, LH, FP, LR.
-/
import Derived.Test.YtpalbhkihheogaaGreatDoorM20
import Derived.Test.YtpalbhkihheogaaGreatDoorM41
import Derived.Test.YtpalbhkihheogaaGreatDoorM43
set_option maxHeartbeats 16000000
set_option maxRecDepth 1000000
namespace Go.Proofs.YtpalbhkihheogaaGreatDoor
set_option linter.unusedVariables false
set_option linter.unusedSimpArgs false
open Go.RowKit Go.Deep
theorem rdU_scale {a : Nat} (h : a ≠ 0) (P : Nat) (q : Int) (mode : Int) (ng : Bool) (e : Int) (d : Nat) : rdU P q mode ng (a * 2 ^ d) (e - d) = rdU P q mode ng a e := by
  unfold rdU
  refine Nm.rU_scale h P q e d _ _ (fun hr => ?_)
  rw [Nm.rm_scale h, Nm.rh_scale h P q e d hr]
theorem rdB_scale {a : Nat} (h : a ≠ 0) (P : Nat) (q : Int) (I : Nat) (S mode : Int) (ng : Bool) (e : Int) (d : Nat) : rdB P q I S mode ng (a * 2 ^ d) (e - d) = rdB P q I S mode ng a e := by
  unfold rdB; rw [rdU_scale h]
theorem rdF_scale {a : Nat} (h : a ≠ 0) (P : Nat) (q : Int) (I : Nat) (mode : Int) (ng : Bool) (e : Int) (d : Nat) : rdF P q I mode ng (a * 2 ^ d) (e - d) = rdF P q I mode ng a e := by
  unfold rdF; rw [rdU_scale h, Nm.bl_mul h, show ((bitLen a + d : Nat) : Int) + (e - d) = (bitLen a : Int) + e by omega]
  by_cases hr : Nm.rr P q a e = 0
  · rw [if_pos hr, if_pos ((Nm.rr_scale0 h P q e d).2 hr)]
  · rw [if_neg hr, if_neg (fun c => hr ((Nm.rr_scale0 h P q e d).1 c))]
/-- Two ways to part one number are rounded alike. -/
theorem Rd_scale (fm mode : Int) (z : Int) (d : Nat) (e : Int) (hz : z ≠ 0) (h1 : RdO fm mode (Nm.wn z) (Nm.wl z) e = true) (h2 : RdO fm mode (Nm.wn (z * 2 ^ d)) (Nm.wl (z * 2 ^ d)) (e - d) = true) :
    RdB fm mode (Nm.wn (z * 2 ^ d)) (Nm.wl (z * 2 ^ d)) (e - d) = RdB fm mode (Nm.wn z) (Nm.wl z) e ∧ RdF fm mode (Nm.wn (z * 2 ^ d)) (Nm.wl (z * 2 ^ d)) (e - d) = RdF fm mode (Nm.wn z) (Nm.wl z) e := by
  have hp : (0 : Int) < 2 ^ d := Int.pow_pos (by decide)
  have hn : Nm.wn (z * 2 ^ d) = Nm.wn z := by
    unfold Nm.wn
    rw [Bool.eq_iff_iff, decide_eq_true_eq, decide_eq_true_eq]
    constructor
    · intro h
      refine Int.not_le.1 (fun h0 => ?_)
      have := Int.mul_nonneg h0 (Int.le_of_lt hp); omega
    · intro h; exact Int.mul_neg_of_neg_of_pos h hp
  have ha : (z * 2 ^ d).natAbs = z.natAbs * 2 ^ d := by rw [Int.natAbs_mul, Int.natAbs_pow]; rfl
  have ha0 : z.natAbs ≠ 0 := by omega
  have hv1 : (Nm.val (Nm.wl z)).toNat = z.natAbs := by rw [Nm.val_wl]; simp
  have hv2 : (Nm.val (Nm.wl (z * 2 ^ d))).toNat = z.natAbs * 2 ^ d := by rw [Nm.val_wl, ha]; exact Int.toNat_natCast _
  have hl1 : (Nm.wl z).length ≠ 0 := by unfold Nm.wl; rw [Ne, Nm.lim_length_zero]; exact ha0
  have hl2 : (Nm.wl (z * 2 ^ d)).length ≠ 0 := by
    unfold Nm.wl; rw [Ne, Nm.lim_length_zero, ha]
    intro h
    rcases Nat.mul_eq_zero.1 h with h' | h'
    · exact ha0 h'
    · have := Nm.pw_pos2 d; omega
  rw [hn] at h2 ⊢
  unfold RdB RdF
  rw [h1, h2, if_pos rfl, if_pos rfl, if_pos rfl, if_pos rfl, if_neg hl1, if_neg hl1, if_neg hl2, if_neg hl2, hv1, hv2]
  by_cases h32 : fm = 32
  · rw [if_pos h32, if_pos h32, if_pos h32, if_pos h32]
    exact ⟨rdB_scale ha0 _ _ _ _ _ _ _ _, rdF_scale ha0 _ _ _ _ _ _ _⟩
  · rw [if_neg h32, if_neg h32, if_neg h32, if_neg h32]
    exact ⟨rdB_scale ha0 _ _ _ _ _ _ _ _, rdF_scale ha0 _ _ _ _ _ _ _⟩
def CvO (fr tt mode x : Int) : Bool := fmtB tt && modeB mode && okF fr x
def CvB (fr tt mode x : Int) : Int := if CvO fr tt mode x then (if cls fr x = 0 then sgn (sgOf tt) 0 (sigB fr x) else if cls fr x = 3 then sgn (sgOf tt) (infOf tt) (sigB fr x) else if cls fr x = 4 then nanOf tt else if cls fr x = 5 then nanOf tt else if tt = 32 then rdB 24 (-149) 2139095040 2147483648 mode (sigB fr x) (pM fr x).toNat (pE fr x) else rdB 53 (-1074) 9218868437227405312 9223372036854775808 mode (sigB fr x) (pM fr x).toNat (pE fr x)) else 0
def CvF (fr tt mode x : Int) : Int := if CvO fr tt mode x then (if cls fr x = 0 then 0 else if cls fr x = 3 then 0 else if cls fr x = 4 then 0 else if cls fr x = 5 then 8 else if tt = 32 then rdF 24 (-149) 2139095040 mode (sigB fr x) (pM fr x).toNat (pE fr x) else rdF 53 (-1074) 9218868437227405312 mode (sigB fr x) (pM fr x).toNat (pE fr x)) else 0
theorem Cv_no {fr tt mode x : Int} (h : CvO fr tt mode x = false) : CvB fr tt mode x = 0 ∧ CvF fr tt mode x = 0 := by unfold CvB CvF; rw [h]; exact ⟨rfl, rfl⟩
theorem cls_cases {fm x : Int} (h : okF fm x = true) : cls fm x = 0 ∨ cls fm x = 3 ∨ cls fm x = 4 ∨ cls fm x = 5 ∨ (cls fm x = 1 ∨ cls fm x = 2) := by
  have hr := cls_rng fm x
  have : cls fm x ≠ -1 := by
    intro h1
    rcases okF_cases h with ⟨rfl, hx⟩ | rfl
    · rw [cls32 hx] at h1; have := clsY_rng 8388608 2139095040 4194304 (x % 2147483648); omega
    · rw [cls64] at h1; have := clsY_rng 4503599627370496 9218868437227405312 2251799813685248 (x % 9223372036854775808); omega
  omega
namespace Fd
theorem byteOf_any (ca : Option Addr) (cc : Nat) (cs : List Int) (i : Int) (i0 : 0 ≤ i) (i1 : i ≤ 100) (w : World) (hs : Sl .u8 w (.slice ca cs.length cc) cs) (hby : ∀ i, 0 ≤ cs.getD i 0 ∧ cs.getD i 0 ≤ 255) (hl : cs.length ≤ 1048576) :
    Calls Tryz.prog 13 #[.slice ca cs.length cc, .int .i64 i] w fun e w' => ∃ v : Int, e = .returned (.int .i64 v) ∧ 0 ≤ v ∧ v ≤ 255 ∧ Below w.heap.size w w' := by
  by_cases h0 : cs.length = 0
  · have e0 : ((cs.length : Int) == 0) = true := by rw [h0]; rfl
    go_enter Tryz.func13, Tryz.ntmps13
    go_wp2
    go_ret
    exact ⟨0, rfl, by omega, by omega, Below.refl _ _⟩
  · have e0 : ((cs.length : Int) == 0) = false := by rw [beq_eq_false_iff_ne]; omega
    obtain ⟨-, hx1, hx2, hx3⟩ := hs.cells
    obtain ⟨b, off, rfl, hcx⟩ := hx3 (by omega)
    obtain ⟨k, hk⟩ : ∃ k : Nat, (k : Int) = i % (cs.length : Int) := ⟨(i % (cs.length : Int)).toNat, Int.toNat_of_nonneg (Int.emod_nonneg i (by omega))⟩
    have k1 : (k : Int) < (cs.length : Int) := by rw [hk]; exact Int.emod_lt_of_pos i (by omega)
    have k0 : (0 : Int) ≤ (k : Int) := Int.natCast_nonneg k
    have hca := hcx k (Int.ofNat_lt.1 k1)
    have hb := hby k
    obtain ⟨x, hxk⟩ : ∃ x, x = cs.getD k 0 := ⟨_, rfl⟩
    rw [← hxk] at hca hb
    have ht : Int.tmod i (cs.length : Int) = (k : Int) := by rw [Int.tmod_eq_emod_of_nonneg i0]; exact hk.symm
    clear hx3 hcx hxk hby hk
    go_enter Tryz.func13, Tryz.ntmps13
    go_wp2
    go_ret
    exact ⟨x, rfl, hb.1, hb.2, Below.refl _ _⟩
theorem unit32 (w : World) :
    Calls Tryz.prog 14 #[.int .i64 32] w fun e w' => e = .returned (.int .i64 (-149)) ∧ Below w.heap.size w w' := by
  have CP := hid (fun w' => spec_parts 32 0 w' (by decide) (by decide))
  have hf : finB 32 0 = true := by decide +kernel
  have h1 : pS 32 0 = false := by decide +kernel
  have h2 : pM 32 0 = 0 := by decide +kernel
  have h3 : pE 32 0 = (-149) := by decide +kernel
  rw [hf, h1, h2, h3] at CP
  clear hf h1 h2 h3
  go_enter Tryz.func14, Tryz.ntmps14
  go_wp2_with fail
  refine (CP.out _).mono ?_
  rintro e w1 ⟨rfl, hb1⟩
  go_wp2
  go_ret
  exact ⟨rfl, (by repeat (first | exact bz0 _ _ | refine bz1 ?_ | refine bz2 ?_ _ | refine bz3 ?_ _ | refine bz4 ?_ hb1 | refine bz5 ?_ _ | refine bz6 ?_ _ | refine bz7 ?_ hb1))⟩
theorem unit64 (w : World) :
    Calls Tryz.prog 14 #[.int .i64 64] w fun e w' => e = .returned (.int .i64 (-1074)) ∧ Below w.heap.size w w' := by
  have CP := hid (fun w' => spec_parts 64 0 w' (by decide) (by decide))
  have hf : finB 64 0 = true := by decide +kernel
  have h1 : pS 64 0 = false := by decide +kernel
  have h2 : pM 64 0 = 0 := by decide +kernel
  have h3 : pE 64 0 = (-1074) := by decide +kernel
  rw [hf, h1, h2, h3] at CP
  clear hf h1 h2 h3
  go_enter Tryz.func14, Tryz.ntmps14
  go_wp2_with fail
  refine (CP.out _).mono ?_
  rintro e w1 ⟨rfl, hb1⟩
  go_wp2
  go_ret
  exact ⟨rfl, (by repeat (first | exact bz0 _ _ | refine bz1 ?_ | refine bz2 ?_ _ | refine bz3 ?_ _ | refine bz4 ?_ hb1 | refine bz5 ?_ _ | refine bz6 ?_ _ | refine bz7 ?_ hb1))⟩
theorem iAbsolute (fm x : Int) (w : World) (hT : Tab w) (x0 : 0 ≤ x) (x1 : x < 18446744073709551616) :
    Calls Tryz.prog 24 #[.int .i64 fm, .int .u64 x] w fun e w' => e = .returned (.int .u64 (absF fm x)) ∧ Below w.heap.size w w' := by
  cases ho : okF fm x
  · have C := hid (fun w' h => impl_ok fm x w' h x0 x1)
    have HR := hid (abs_no ho)
    rw [ho] at C
    clear ho
    go_enter Tryz.func24, Tryz.ntmps24
    go_wp2_with fail
    refine (C.out _ hT).mono ?_
    rintro e w1 ⟨rfl, hb1⟩
    go_wp2
    go_ret
    exact ⟨ret_int HR.out.symm, (by repeat (first | exact bz0 _ _ | refine bz1 ?_ | refine bz2 ?_ _ | refine bz3 ?_ _ | refine bz4 ?_ hb1 | refine bz5 ?_ _ | refine bz6 ?_ _ | refine bz7 ?_ hb1))⟩
  · rcases okF_cases ho with ⟨rfl, h⟩ | rfl
    · rw [abs32 h]; exact impl_abs32 x w hT x0 h
    · rw [abs64]; exact impl_abs64 x w hT x0 x1
theorem sg32 {x : Int} (h0 : 0 ≤ x) (h1 : x < 4294967296) (y : Int) (hy : y = negF 32 x) :
    (0 ≤ y ∧ y < 4294967296) ∧ negF 32 y = x ∧ y ≠ x ∧ cls 32 y = cls 32 x ∧ finB 32 y = finB 32 x ∧ unI 32 y = -unI 32 x ∧ (x < 2147483648 → absF 32 x = x) ∧ (¬ x < 2147483648 → absF 32 x ≠ x ∧ absF 32 x = y) := by
  rw [neg32 h1] at hy
  have hr : 0 ≤ y ∧ y < 4294967296 := by split at hy <;> omega
  have hm : y % 2147483648 = x % 2147483648 := by split at hy <;> omega
  have hc : cls 32 y = cls 32 x := by rw [cls32 (x := y) (by omega), cls32 h1, hm]
  have hf : finB 32 y = finB 32 x := by unfold finB; rw [hc]
  have ax := ab32 h0 h1
  have ay := ab32 hr.1 hr.2
  have hs : sigB 32 y = !sigB 32 x := by
    unfold sigB; rw [ax, ay]
    split at hy
    · rename_i h
      rw [if_pos h, if_neg (by omega)]
      have e1 : (y != y - 2147483648) = true := by simp; omega
      rw [e1]; simp
    · rename_i h
      rw [if_neg h, if_pos (by omega)]
      have e1 : (x != x - 2147483648) = true := by simp; omega
      rw [e1]; simp
  refine ⟨hr, ?_, ?_, hc, hf, ?_, ?_, ?_⟩
  · rw [neg32 (x := y) (by omega)]; split at hy <;> split <;> omega
  · split at hy <;> omega
  · unfold unI
    rw [hf]
    cases hff : finB 32 x
    · rfl
    · rw [if_pos rfl, if_pos rfl]
      have e1 : pM 32 y = pM 32 x := by unfold pM; rw [hf, hm]; simp
      have e2 : pE 32 y = pE 32 x := by unfold pE; rw [hf, hm]; simp
      have e3 : pS 32 y = !pS 32 x := by unfold pS; rw [hf, hff, if_pos rfl, if_pos rfl, hs]
      rw [e1, e2, e3]
      cases pS 32 x <;> simp
  · intro h; rw [ax, if_pos h]
  · intro h
    rw [if_neg h] at hy
    rw [ax, if_neg h]; omega
theorem sg64 {x : Int} (h0 : 0 ≤ x) (h1 : x < 18446744073709551616) (y : Int) (hy : y = negF 64 x) :
    (0 ≤ y ∧ y < 18446744073709551616) ∧ negF 64 y = x ∧ y ≠ x ∧ cls 64 y = cls 64 x ∧ finB 64 y = finB 64 x ∧ unI 64 y = -unI 64 x ∧ (x < 9223372036854775808 → absF 64 x = x) ∧ (¬ x < 9223372036854775808 → absF 64 x ≠ x ∧ absF 64 x = y) := by
  rw [neg64] at hy
  have hr : 0 ≤ y ∧ y < 18446744073709551616 := by split at hy <;> omega
  have hm : y % 9223372036854775808 = x % 9223372036854775808 := by split at hy <;> omega
  have hc : cls 64 y = cls 64 x := by rw [cls64 (x := y), cls64 (x := x), hm]
  have hf : finB 64 y = finB 64 x := by unfold finB; rw [hc]
  have ax := ab64 h0 h1
  have ay := ab64 hr.1 hr.2
  have hs : sigB 64 y = !sigB 64 x := by
    unfold sigB; rw [ax, ay]
    split at hy
    · rename_i h
      rw [if_pos h, if_neg (by omega)]
      have e1 : (y != y - 9223372036854775808) = true := by simp; omega
      rw [e1]; simp
    · rename_i h
      rw [if_neg h, if_pos (by omega)]
      have e1 : (x != x - 9223372036854775808) = true := by simp; omega
      rw [e1]; simp
  refine ⟨hr, ?_, ?_, hc, hf, ?_, ?_, ?_⟩
  · rw [neg64 (x := y)]; split at hy <;> split <;> omega
  · split at hy <;> omega
  · unfold unI
    rw [hf]
    cases hff : finB 64 x
    · rfl
    · rw [if_pos rfl, if_pos rfl]
      have e1 : pM 64 y = pM 64 x := by unfold pM; rw [hf, hm]; simp
      have e2 : pE 64 y = pE 64 x := by unfold pE; rw [hf, hm]; simp
      have e3 : pS 64 y = !pS 64 x := by unfold pS; rw [hf, hff, if_pos rfl, if_pos rfl, hs]
      rw [e1, e2, e3]
      cases pS 64 x <;> simp
  · intro h; rw [ax, if_pos h]
  · intro h
    rw [if_neg h] at hy
    rw [ax, if_neg h]; omega
theorem round_any (fm mode : Int) (ng : Bool) (zs : List Int) (e : Int) (p : Option Addr) (c : Nat) (w : World) (hT : T3 w) (hs : Sl .u32 w (.slice p zs.length c) zs) (hz : Nm.Dg zs) (hl : zs.length ≤ 1048576) :
    Calls Tryz.prog 17 #[.int .i64 fm, .int .i64 mode, .agg #[.bool ng, .slice p zs.length c], .int .i64 e] w fun x w' => x = .returned (.tuple #[.int .u64 (RdB fm mode ng zs e), .int .i64 (RdF fm mode ng zs e), .bool true]) ∧ Below w.heap.size w w' := by
  have CS := hid (fun w' h => rounded_spec fm mode ng zs e p c w' h hz hl)
  have CI := hid (fun w' h h' => rounded_impl fm mode ng zs e p c w' h h' hz hl)
  obtain ⟨b, hb⟩ : ∃ b, b = RdB fm mode ng zs e := ⟨_, rfl⟩
  obtain ⟨f, hf⟩ : ∃ f, f = RdF fm mode ng zs e := ⟨_, rfl⟩
  obtain ⟨o, ho⟩ : ∃ o, o = RdO fm mode ng zs e := ⟨_, rfl⟩
  rw [← hb, ← hf] at CS CI ⊢
  rw [← ho] at CS CI
  clear hb hf ho hz hl
  have q1 : (b == b) = true := by simp
  have q2 : (f == f) = true := by simp
  have q3 : (o == o) = true := by simp
  go_enter Tryz.func17, Tryz.ntmps17
  go_wp2_with fail
  refine (CI.out _ (hT.al _) (hs.alloc _)).mono ?_
  rintro x w1 ⟨rfl, hb1⟩
  have x1 := (Box.new w (.bool ng) (.slice p zs.length c) 29).below hb1
  have hs1 := (hs.alloc _).below hb1
  obtain ⟨x10, x11⟩ := x1
  go_wp2_with fail
  refine (CS.out _ hs1).mono ?_
  rintro x w2 ⟨rfl, hb2⟩
  go_wp2
  go_ret3
  exact ⟨rfl, (by repeat (first | exact bz0 _ _ | refine bz1 ?_ | refine bz2 ?_ _ | refine bz3 ?_ _ | refine bz4 ?_ hb2 | refine bz4 ?_ hb1 | refine bz5 ?_ _ | refine bz6 ?_ _ | refine bz7 ?_ hb2 | refine bz7 ?_ hb1))⟩
theorem goes_any (fm : Int) (ng : Bool) (zs : List Int) (e : Int) (p : Option Addr) (c : Nat) (w : World) (hs : Sl .u32 w (.slice p zs.length c) zs) (hz : Nm.Dg zs) (hl : zs.length ≤ 1048576) :
    Calls Tryz.prog 20 #[.int .i64 fm, .agg #[.bool ng, .slice p zs.length c], .int .i64 e] w fun x w' => x = .returned (.bool (RdO fm 0 ng zs e)) ∧ Below w.heap.size w w' := by
  have CS := hid (fun w' h => rounded_spec fm 0 ng zs e p c w' h hz hl)
  obtain ⟨b, hb⟩ : ∃ b, b = RdB fm 0 ng zs e := ⟨_, rfl⟩
  obtain ⟨f, hf⟩ : ∃ f, f = RdF fm 0 ng zs e := ⟨_, rfl⟩
  obtain ⟨o, ho⟩ : ∃ o, o = RdO fm 0 ng zs e := ⟨_, rfl⟩
  rw [← hb, ← hf, ← ho] at CS
  rw [← ho]
  clear hb hf ho hz hl
  go_enter Tryz.func20, Tryz.ntmps20
  go_wp2_with fail
  refine (CS.out _ (hs.alloc _)).mono ?_
  rintro x w1 ⟨rfl, hb1⟩
  go_wp2
  go_ret
  exact ⟨rfl, (by repeat (first | exact bz0 _ _ | refine bz1 ?_ | refine bz2 ?_ _ | refine bz3 ?_ _ | refine bz4 ?_ hb1 | refine bz5 ?_ _ | refine bz6 ?_ _ | refine bz7 ?_ hb1))⟩
end Fd
end Go.Proofs.YtpalbhkihheogaaGreatDoor
