/-
  What is needed of LH, LR, FF, MO.
-/
import Derived.Test.YtpalbhkihheogaaGreatDoorN40
import Derived.Test.YtpalbhkihheogaaGreatDoorN43
set_option maxHeartbeats 16000000
set_option maxRecDepth 1000000
namespace Go.Proofs.YtpalbhkihheogaaGreatDoor
set_option linter.unusedVariables false
set_option linter.unusedSimpArgs false
open Go.RowKit Go.Deep
namespace Fd
theorem byteOf_any (ca : Option Addr) (cc : Nat) (cs : List Int) (i : Int) (i0 : 0 ≤ i) (i1 : i ≤ 100) (w : World) (hs : Sl .u8 w (.slice ca cs.length cc) cs) (hby : ∀ i, 0 ≤ cs.getD i 0 ∧ cs.getD i 0 ≤ 255) (hl : cs.length ≤ 1048576) :
    Calls Tryz.prog 13 #[.slice ca cs.length cc, .int .i64 i] w fun e w' => ∃ v : Int, e = .returned (.int .i64 v) ∧ 0 ≤ v ∧ v ≤ 255 ∧ Below w.heap.size w w' := by
  by_cases h0 : cs.length = 0
  · have e0 : ((cs.length : Int) == 0) = true := by rw [h0]; rfl
    go_enter Tryz.func13, Tryz.ntmps13
    go_wp2
    go_ret
    exact ⟨0, rfl, by omega, by omega, Below.refl _ _⟩
  · have e0 : ((cs.length : Int) == 0) = false := by rw [beq_eq_false_iff_ne]; omega
    obtain ⟨-, hx1, hx2, hx3⟩ := hs.cells
    obtain ⟨b, off, rfl, hcx⟩ := hx3 (by omega)
    obtain ⟨k, hk⟩ : ∃ k : Nat, (k : Int) = i % (cs.length : Int) := ⟨(i % (cs.length : Int)).toNat, Int.toNat_of_nonneg (Int.emod_nonneg i (by omega))⟩
    have k1 : (k : Int) < (cs.length : Int) := by rw [hk]; exact Int.emod_lt_of_pos i (by omega)
    have k0 : (0 : Int) ≤ (k : Int) := Int.natCast_nonneg k
    have hca := hcx k (Int.ofNat_lt.1 k1)
    have hb := hby k
    obtain ⟨x, hxk⟩ : ∃ x, x = cs.getD k 0 := ⟨_, rfl⟩
    rw [← hxk] at hca hb
    have ht : Int.tmod i (cs.length : Int) = (k : Int) := by rw [Int.tmod_eq_emod_of_nonneg i0]; exact hk.symm
    clear hx3 hcx hxk hby hk
    go_enter Tryz.func13, Tryz.ntmps13
    go_wp2
    go_ret
    exact ⟨x, rfl, hb.1, hb.2, Below.refl _ _⟩
theorem round_any (fm mode : Int) (ng : Bool) (zs : List Int) (e : Int) (p : Option Addr) (c : Nat) (w : World) (hT : T3 w) (hs : Sl .u32 w (.slice p zs.length c) zs) (hz : Nm.Dg zs) (hl : zs.length ≤ 1048576) :
    Calls Tryz.prog 17 #[.int .i64 fm, .int .i64 mode, .agg #[.bool ng, .slice p zs.length c], .int .i64 e] w fun x w' => x = .returned (.tuple #[.int .u64 (RdB fm mode ng zs e), .int .i64 (RdF fm mode ng zs e), .bool true]) ∧ Below w.heap.size w w' := by
  have CS := hid (fun w' h => rounded_spec fm mode ng zs e p c w' h hz hl)
  have CI := hid (fun w' h h' => rounded_impl fm mode ng zs e p c w' h h' hz hl)
  obtain ⟨b, hb⟩ : ∃ b, b = RdB fm mode ng zs e := ⟨_, rfl⟩
  obtain ⟨f, hf⟩ : ∃ f, f = RdF fm mode ng zs e := ⟨_, rfl⟩
  obtain ⟨o, ho⟩ : ∃ o, o = RdO fm mode ng zs e := ⟨_, rfl⟩
  rw [← hb, ← hf] at CS CI ⊢
  rw [← ho] at CS CI
  clear hb hf ho hz hl
  have q1 : (b == b) = true := by simp
  have q2 : (f == f) = true := by simp
  have q3 : (o == o) = true := by simp
  go_enter Tryz.func17, Tryz.ntmps17
  go_wp2_with fail
  refine (CI.out _ (hT.al _) (hs.alloc _)).mono ?_
  rintro x w1 ⟨rfl, hb1⟩
  have x1 := (Box.new w (.bool ng) (.slice p zs.length c) 29).below hb1
  have hs1 := (hs.alloc _).below hb1
  obtain ⟨x10, x11⟩ := x1
  go_wp2_with fail
  refine (CS.out _ hs1).mono ?_
  rintro x w2 ⟨rfl, hb2⟩
  go_wp2
  go_ret3
  exact ⟨rfl, (by repeat (first | exact bz0 _ _ | refine bz1 ?_ | refine bz2 ?_ _ | refine bz3 ?_ _ | refine bz4 ?_ hb2 | refine bz4 ?_ hb1 | refine bz5 ?_ _ | refine bz6 ?_ _ | refine bz7 ?_ hb2 | refine bz7 ?_ hb1))⟩
theorem goes_any (fm : Int) (ng : Bool) (zs : List Int) (e : Int) (p : Option Addr) (c : Nat) (w : World) (hs : Sl .u32 w (.slice p zs.length c) zs) (hz : Nm.Dg zs) (hl : zs.length ≤ 1048576) :
    Calls Tryz.prog 20 #[.int .i64 fm, .agg #[.bool ng, .slice p zs.length c], .int .i64 e] w fun x w' => x = .returned (.bool (RdO fm 0 ng zs e)) ∧ Below w.heap.size w w' := by
  have CS := hid (fun w' h => rounded_spec fm 0 ng zs e p c w' h hz hl)
  obtain ⟨b, hb⟩ : ∃ b, b = RdB fm 0 ng zs e := ⟨_, rfl⟩
  obtain ⟨f, hf⟩ : ∃ f, f = RdF fm 0 ng zs e := ⟨_, rfl⟩
  obtain ⟨o, ho⟩ : ∃ o, o = RdO fm 0 ng zs e := ⟨_, rfl⟩
  rw [← hb, ← hf, ← ho] at CS
  rw [← ho]
  clear hb hf ho hz hl
  go_enter Tryz.func20, Tryz.ntmps20
  go_wp2_with fail
  refine (CS.out _ (hs.alloc _)).mono ?_
  rintro x w1 ⟨rfl, hb1⟩
  go_wp2
  go_ret
  exact ⟨rfl, (by repeat (first | exact bz0 _ _ | refine bz1 ?_ | refine bz2 ?_ _ | refine bz3 ?_ _ | refine bz4 ?_ hb1 | refine bz5 ?_ _ | refine bz6 ?_ _ | refine bz7 ?_ hb1))⟩
theorem Rd_any32 (mode : Int) (ng : Bool) (zs : List Int) (e : Int) (ho : RdO 32 mode ng zs e = true) (hz : ¬ zs.length = 0) :
    RdB 32 mode ng zs e = rdB 24 (-149) 2139095040 2147483648 mode ng (Nm.val zs).toNat e ∧ RdF 32 mode ng zs e = rdF 24 (-149) 2139095040 mode ng (Nm.val zs).toNat e := by
  unfold RdB RdF
  rw [ho, if_pos rfl, if_pos rfl, if_neg hz, if_neg hz, if_pos rfl, if_pos rfl]
  exact ⟨rfl, rfl⟩
theorem sgn_abs32 {v : Int} (h0 : 0 ≤ v) (h1 : v < 2147483648) (ng : Bool) : 0 ≤ sgn 2147483648 v ng ∧ sgn 2147483648 v ng < 4294967296 ∧ absF 32 (sgn 2147483648 v ng) = v := by
  have hb : 0 ≤ sgn 2147483648 v ng ∧ sgn 2147483648 v ng < 4294967296 := by unfold sgn; split <;> omega
  refine ⟨hb.1, hb.2, ?_⟩
  rw [ab32 hb.1 hb.2]
  unfold sgn
  cases ng
  · simp only [Bool.false_eq_true, if_false]; rw [if_pos h1]
  · simp only [if_true]; rw [if_neg (by omega)]; omega
theorem Rd_any64 (mode : Int) (ng : Bool) (zs : List Int) (e : Int) (ho : RdO 64 mode ng zs e = true) (hz : ¬ zs.length = 0) :
    RdB 64 mode ng zs e = rdB 53 (-1074) 9218868437227405312 9223372036854775808 mode ng (Nm.val zs).toNat e ∧ RdF 64 mode ng zs e = rdF 53 (-1074) 9218868437227405312 mode ng (Nm.val zs).toNat e := by
  unfold RdB RdF
  rw [ho, if_pos rfl, if_pos rfl, if_neg hz, if_neg hz, if_neg (show ¬ ((64 : Int) = 32) from by decide), if_neg (show ¬ ((64 : Int) = 32) from by decide)]
  exact ⟨rfl, rfl⟩
theorem sgn_abs64 {v : Int} (h0 : 0 ≤ v) (h1 : v < 9223372036854775808) (ng : Bool) : 0 ≤ sgn 9223372036854775808 v ng ∧ sgn 9223372036854775808 v ng < 18446744073709551616 ∧ absF 64 (sgn 9223372036854775808 v ng) = v := by
  have hb : 0 ≤ sgn 9223372036854775808 v ng ∧ sgn 9223372036854775808 v ng < 18446744073709551616 := by unfold sgn; split <;> omega
  refine ⟨hb.1, hb.2, ?_⟩
  rw [ab64 hb.1 hb.2]
  unfold sgn
  cases ng
  · simp only [Bool.false_eq_true, if_false]; rw [if_pos h1]
  · simp only [if_true]; rw [if_neg (by omega)]; omega
theorem up_mono {mode : Int} {od : Bool} {h h' : Int} {ng : Bool} (hh : h ≤ h') (hu : upB mode od h ng = true) : upB mode od h' ng = true := by
  unfold upB at hu ⊢
  by_cases m0 : mode = 0
  · rw [if_pos m0] at hu ⊢
    simp at hu ⊢
    rcases hu with h1 | ⟨h1, h2⟩
    · left; omega
    · by_cases h3 : 0 < h'
      · left; exact h3
      · right; exact ⟨by omega, h2⟩
  · rw [if_neg m0] at hu ⊢
    by_cases m2 : mode = 2
    · rw [if_pos m2] at hu ⊢; exact hu
    · rw [if_neg m2] at hu ⊢
      by_cases m3 : mode = 3
      · rw [if_pos m3] at hu ⊢; exact hu
      · rw [if_neg m3] at hu ⊢
        by_cases m4 : mode = 4
        · rw [if_pos m4] at hu ⊢; simp at hu ⊢; omega
        · rw [if_neg m4] at hu ⊢
          by_cases m5 : mode = 5
          · rw [if_pos m5] at hu ⊢; simp at hu ⊢; omega
          · rw [if_neg m5] at hu ⊢; exact hu
theorem cmp2_mono {x y z : Nat} (h : x ≤ y) : Nm.cmp2 x z ≤ Nm.cmp2 y z := by
  unfold Nm.cmp2
  repeat' split
  all_goals omega
/-- With the same cut. -/
theorem r1_same {P : Nat} {q : Int} {a b : Nat} {e mode : Int} {ng : Bool} (hab : a ≤ b) (hn : Nm.rn P q a e = Nm.rn P q b e) :
    Nm.r1 P q a e (upB mode (((Nm.rm P q a e : Nat) : Int) % 2 == 1) (Nm.rh P q a e) ng) ≤ Nm.r1 P q b e (upB mode (((Nm.rm P q b e : Nat) : Int) % 2 == 1) (Nm.rh P q b e) ng) := by
  by_cases h0 : Nm.rn P q b e ≤ 0
  · have z : ∀ x, Nm.rn P q x e ≤ 0 → Nm.rr P q x e = 0 := fun x hx => by
      unfold Nm.rr; rw [show (Nm.rn P q x e).toNat = 0 by omega, Nat.pow_zero, Nat.mod_one]
    unfold Nm.r1
    rw [if_neg (by rw [z a (by omega)]; simp), if_neg (by rw [z b h0]; simp)]
    unfold Nm.rm Nm.sh
    rw [hn, if_neg (by omega), if_neg (by omega)]
    exact Nat.mul_le_mul_right _ hab
  · obtain ⟨n, hn'⟩ : ∃ n : Nat, (n : Int) = Nm.rn P q b e := ⟨(Nm.rn P q b e).toNat, by omega⟩
    have ma : Nm.rm P q a e = a / 2 ^ n := by
      unfold Nm.rm Nm.sh; rw [hn, ← hn', if_pos (by omega), show (- -(n : Int)).toNat = n by omega]
    have mb : Nm.rm P q b e = b / 2 ^ n := by
      unfold Nm.rm Nm.sh; rw [← hn', if_pos (by omega), show (- -(n : Int)).toNat = n by omega]
    have ra : Nm.rr P q a e = a % 2 ^ n := by unfold Nm.rr; rw [hn, ← hn', Int.toNat_natCast]
    have rb : Nm.rr P q b e = b % 2 ^ n := by unfold Nm.rr; rw [← hn', Int.toNat_natCast]
    have hle : a / 2 ^ n ≤ b / 2 ^ n := Nat.div_le_div_right hab
    rcases Nat.lt_or_eq_of_le hle with hlt | heq
    · unfold Nm.r1
      rw [ma, mb]
      split <;> split <;> omega
    · have da := Nat.div_add_mod a (2 ^ n)
      have db := Nat.div_add_mod b (2 ^ n)
      rw [heq] at da
      have hr : a % 2 ^ n ≤ b % 2 ^ n := by omega
      have hh : Nm.rh P q a e ≤ Nm.rh P q b e := by
        unfold Nm.rh
        rw [ra, rb, hn]
        exact cmp2_mono (by omega)
      unfold Nm.r1
      rw [ma, mb, ra, rb, heq]
      by_cases hu : b % 2 ^ n ≠ 0 ∧ upB mode (((b / 2 ^ n : Nat) : Int) % 2 == 1) (Nm.rh P q b e) ng = true
      · rw [if_pos hu]; split <;> omega
      · rw [if_neg hu, if_neg]
        · exact Nat.le_refl _
        · intro hc
          exact hu ⟨by have := hc.1; omega, up_mono hh hc.2⟩
theorem rm_ge {P : Nat} {q : Int} {b : Nat} {e : Int} (hP : 1 ≤ P) (hb : b ≠ 0) (hn : Nm.rn P q b e = (bitLen b : Int) - P) : 2 ^ (P - 1) ≤ Nm.rm P q b e := by
  have hg := Nm.bl_ge hb
  have h1 := Nm.bl_pos hb
  unfold Nm.rm Nm.sh
  rw [hn]
  by_cases h : -((bitLen b : Int) - P) < 0
  · rw [if_pos h]
    obtain ⟨n, hn'⟩ : ∃ n : Nat, bitLen b = n + P := ⟨bitLen b - P, by omega⟩
    rw [show (- -((bitLen b : Int) - P)).toNat = n by omega]
    rw [Nat.le_div_iff_mul_le (Nat.two_pow_pos n), ← Nat.pow_add, show P - 1 + n = bitLen b - 1 by omega]
    exact hg
  · rw [if_neg h]
    obtain ⟨n, hn'⟩ : ∃ n : Nat, P = n + bitLen b := ⟨P - bitLen b, by omega⟩
    rw [show (-((bitLen b : Int) - P)).toNat = n by omega, show P - 1 = (bitLen b - 1) + n by omega, Nat.pow_add]
    exact Nat.mul_le_mul_right _ hg
theorem bl_le {a b : Nat} (h : a ≤ b) : bitLen a ≤ bitLen b := Nm.bl_mono h
theorem rdU_mono {P : Nat} {q : Int} {a b : Nat} {e mode : Int} {ng : Bool} (hP : 1 ≤ P) (hb : b ≠ 0) (hab : a ≤ b) : rdU P q mode ng a e ≤ rdU P q mode ng b e := by
  have hbl := bl_le hab
  unfold rdU Nm.rU
  by_cases hn : Nm.rn P q a e = Nm.rn P q b e
  · rw [hn]
    exact Nat.mul_le_mul_right _ (r1_same hab hn)
  · have h2 : Nm.rn P q b e = (bitLen b : Int) - P ∧ q - e < (bitLen b : Int) - P ∧ Nm.rn P q a e < (bitLen b : Int) - P := by unfold Nm.rn at hn ⊢; omega
    have hm := rm_ge hP hb h2.1
    have hr : 2 ^ (P - 1) ≤ Nm.r1 P q b e (upB mode (((Nm.rm P q b e : Nat) : Int) % 2 == 1) (Nm.rh P q b e) ng) := by
      unfold Nm.r1; split <;> omega
    have hra := Nm.r1_le (P := P) (q := q) (a := a) (e := e) (upB mode (((Nm.rm P q a e : Nat) : Int) % 2 == 1) (Nm.rh P q a e) ng)
    have hka : q - e ≤ Nm.rn P q a e := by unfold Nm.rn; omega
    obtain ⟨ka, hka'⟩ : ∃ k : Nat, (Nm.rn P q a e + e - q).toNat = k := ⟨_, rfl⟩
    obtain ⟨kb, hkb'⟩ : ∃ k : Nat, (Nm.rn P q b e + e - q).toNat = k := ⟨_, rfl⟩
    have hk : ka + 1 ≤ kb := by omega
    rw [hka', hkb']
    have e1 : 2 ^ P * 2 ^ ka ≤ 2 ^ (P - 1) * 2 ^ kb := by
      rw [← Nat.pow_add, ← Nat.pow_add]
      exact Nat.pow_le_pow_right (by decide) (by omega)
    exact Nat.le_trans (Nat.mul_le_mul_right _ hra) (Nat.le_trans e1 (Nat.mul_le_mul_right _ hr))
theorem flb_mono {P u v : Nat} (hP : 1 ≤ P) (h : u ≤ v) : Nm.flb P u ≤ Nm.flb P v := by
  have hbl := bl_le h
  have mu := Nm.flm_lt P u
  have mv := Nm.flm_lt P v
  have h2 : 2 ^ P = 2 * 2 ^ (P - 1) := by
    obtain ⟨k, rfl⟩ : ∃ k, P = k + 1 := ⟨P - 1, by omega⟩
    rw [Nat.add_sub_cancel, Nat.pow_succ, Nat.mul_comm]
  have hp := Nat.two_pow_pos (P - 1)
  have ge : ∀ w : Nat, 0 < bitLen w - P → 2 ^ (P - 1) ≤ w / 2 ^ (bitLen w - P) := fun w hw => by
    have hw0 : w ≠ 0 := fun h => by subst h; rw [Nm.bl_zero] at hw; omega
    rw [Nat.le_div_iff_mul_le (Nat.two_pow_pos _), ← Nat.pow_add, show P - 1 + (bitLen w - P) = bitLen w - 1 by omega]
    exact Nm.bl_ge hw0
  have gv := ge v
  rcases Nat.lt_or_eq_of_le (show bitLen u - P ≤ bitLen v - P by omega) with hlt | heq
  · have hv := gv (by omega)
    unfold Nm.flb
    rw [if_pos hv]
    have hmul : (bitLen u - P + 1) * 2 ^ (P - 1) ≤ (bitLen v - P) * 2 ^ (P - 1) := Nat.mul_le_mul_right _ (by omega)
    rw [Nat.add_mul, Nat.one_mul] at hmul
    split <;> omega
  · have hd : u / 2 ^ (bitLen u - P) ≤ v / 2 ^ (bitLen v - P) := by rw [heq]; exact Nat.div_le_div_right h
    unfold Nm.flb
    rw [heq] at hd ⊢
    split <;> split <;> omega
theorem rdU_exact {P : Nat} {q : Int} {a : Nat} {e mode : Int} {ng : Bool} (hP : 1 ≤ P) : rdU P q mode ng a e / 2 ^ (bitLen (rdU P q mode ng a e) - P) * 2 ^ (bitLen (rdU P q mode ng a e) - P) = rdU P q mode ng a e := by
  unfold rdU
  by_cases h1 : Nm.r1 P q a e (upB mode (((Nm.rm P q a e : Nat) : Int) % 2 == 1) (Nm.rh P q a e) ng) = 0
  · have : Nm.rU P q a e (upB mode (((Nm.rm P q a e : Nat) : Int) % 2 == 1) (Nm.rh P q a e) ng) = 0 := by unfold Nm.rU; rw [h1, Nat.zero_mul]
    rw [this, Nat.zero_div, Nat.zero_mul]
  · rw [Nm.r_U h1]
    have hi := Nm.r_in (P := P) (q := q) (a := a) (e := e) hP h1
    obtain ⟨m1, m2⟩ := Nm.st_m h1 hi
    rw [m1, m2]
/-- The bits of what is rounded, without the sign. -/
def mgB (P : Nat) (q : Int) (I : Nat) (mode : Int) (ng : Bool) (a : Nat) (e : Int) : Int := if Nm.flo P I (rdU P q mode ng a e) then (Nm.flb P (rdU P q mode ng a e) : Nat) else if ovB mode ng then (I : Int) - 1 else I
theorem mgB_eq (P : Nat) (q : Int) (I : Nat) (S mode : Int) (ng : Bool) (a : Nat) (e : Int) : rdB P q I S mode ng a e = sgn S (mgB P q I mode ng a e) ng := by
  unfold rdB mgB
  split
  · rfl
  · split <;> rfl
theorem mgB_bd {P I : Nat} {q mode : Int} {ng : Bool} {a : Nat} {e : Int} (hI : 0 < I) : 0 ≤ mgB P q I mode ng a e ∧ mgB P q I mode ng a e ≤ I := by
  unfold mgB
  by_cases hf : Nm.flo P I (rdU P q mode ng a e) = true
  · rw [if_pos hf]
    have : Nm.flb P (rdU P q mode ng a e) < I := by
      unfold Nm.flo at hf
      simp only [Bool.and_eq_true, decide_eq_true_eq] at hf
      exact hf.2
    omega
  · rw [if_neg hf]; split <;> omega
theorem mgB_mono {P I : Nat} {q mode : Int} {ng : Bool} {a b : Nat} {e : Int} (hP : 1 ≤ P) (hI : 0 < I) (hb : b ≠ 0) (hab : a ≤ b) : mgB P q I mode ng a e ≤ mgB P q I mode ng b e := by
  have hu := rdU_mono (P := P) (q := q) (e := e) (mode := mode) (ng := ng) hP hb hab
  have hf := flb_mono hP hu
  have hx := rdU_exact (P := P) (q := q) (a := a) (e := e) (mode := mode) (ng := ng) hP
  have hbl := bl_le hu
  unfold mgB
  by_cases fb : Nm.flo P I (rdU P q mode ng b e) = true
  · have fa : Nm.flo P I (rdU P q mode ng a e) = true := by
      unfold Nm.flo at fb ⊢
      simp only [Bool.and_eq_true, decide_eq_true_eq] at fb ⊢
      exact ⟨⟨by omega, hx⟩, by omega⟩
    rw [if_pos fa, if_pos fb]
    omega
  · rw [if_neg fb]
    by_cases fa : Nm.flo P I (rdU P q mode ng a e) = true
    · rw [if_pos fa]
      have : Nm.flb P (rdU P q mode ng a e) < I := by
        unfold Nm.flo at fa
        simp only [Bool.and_eq_true, decide_eq_true_eq] at fa
        exact fa.2
      split <;> omega
    · rw [if_neg fa]; omega
end Fd
end Go.Proofs.YtpalbhkihheogaaGreatDoor
