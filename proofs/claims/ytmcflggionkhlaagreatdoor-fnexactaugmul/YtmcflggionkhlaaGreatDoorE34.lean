/-
  What is needed of NumsG, DrawA, FJ, LaidB, RS, VecA, AccI.
-/
import Derived.Laws.Closers25b
import Derived.LaidSub
import Derived.MakeChecks
import Derived.LoopN
import Derived.Test.YtmcflggionkhlaaGreatDoorE18
import Derived.Test.YtmcflggionkhlaaGreatDoorE32
set_option maxHeartbeats 16000000
set_option maxRecDepth 1000000
namespace Go.Proofs.YtmcflggionkhlaaGreatDoor
set_option linter.unusedVariables false
set_option linter.unusedSimpArgs false
namespace Nm
theorem rn_scale {a : Nat} (h : a ≠ 0) (P : Nat) (q e : Int) (d : Nat) : rn P q (a * 2 ^ d) (e - d) = rn P q a e + d := by
  unfold rn; rw [bl_mul h]; omega
theorem sh_scale (a d : Nat) (k : Int) : sh (a * 2 ^ d) (k - d) = sh a k := by
  unfold sh
  by_cases hk : k < 0
  · rw [if_pos (by omega), if_pos hk, show (-(k - (d : Int))).toNat = (-k).toNat + d by omega, Nat.pow_add, Nat.mul_div_mul_right _ _ (pw_pos2 d)]
  · rw [if_neg hk]
    by_cases hd : k - d < 0
    · rw [if_pos hd]
      have e : 2 ^ d = 2 ^ k.toNat * 2 ^ (-(k - (d : Int))).toNat := by rw [← Nat.pow_add]; congr 1; omega
      rw [e, ← Nat.mul_assoc, Nat.mul_div_cancel _ (pw_pos2 _)]
    · rw [if_neg hd, Nat.mul_assoc, ← Nat.pow_add]
      congr 2; omega
theorem rm_scale {a : Nat} (h : a ≠ 0) (P : Nat) (q e : Int) (d : Nat) : rm P q (a * 2 ^ d) (e - d) = rm P q a e := by
  unfold rm; rw [rn_scale h, show -(rn P q a e + d) = -rn P q a e - d by omega, sh_scale]
theorem rr_scale {a : Nat} (h : a ≠ 0) (P : Nat) (q e : Int) (d : Nat) : rr P q (a * 2 ^ d) (e - d) = rr P q a e * 2 ^ d := by
  unfold rr; rw [rn_scale h]
  by_cases hr : 0 ≤ rn P q a e
  · rw [show (rn P q a e + d).toNat = (rn P q a e).toNat + d by omega, Nat.pow_add, Nat.mul_mod_mul_right]
  · rw [show (rn P q a e).toNat = 0 by omega, Nat.pow_zero, Nat.mod_one, Nat.zero_mul]
    exact Nat.mod_eq_zero_of_dvd (Nat.dvd_trans (Nat.pow_dvd_pow 2 (show (rn P q a e + d).toNat ≤ d by omega)) (Nat.dvd_mul_left _ _))
theorem rh_scale {a : Nat} (h : a ≠ 0) (P : Nat) (q e : Int) (d : Nat) (hr : rr P q a e ≠ 0) : rh P q (a * 2 ^ d) (e - d) = rh P q a e := by
  have h1 := rr_pos hr
  unfold rh
  rw [rr_scale h, rn_scale h, show (rn P q a e + d).toNat = (rn P q a e).toNat + d by omega, Nat.pow_add, ← Nat.mul_assoc, cmp2_mul]
theorem rr_scale0 {a : Nat} (h : a ≠ 0) (P : Nat) (q e : Int) (d : Nat) : rr P q (a * 2 ^ d) (e - d) = 0 ↔ rr P q a e = 0 := by
  rw [rr_scale h]
  constructor
  · intro h0
    rcases Nat.mul_eq_zero.1 h0 with h1 | h1
    · exact h1
    · have := pw_pos2 d; omega
  · intro h0; rw [h0, Nat.zero_mul]
theorem rU_scale {a : Nat} (h : a ≠ 0) (P : Nat) (q e : Int) (d : Nat) (up up' : Bool) (hu : rr P q a e ≠ 0 → up = up') : rU P q (a * 2 ^ d) (e - d) up = rU P q a e up' := by
  unfold rU r1
  rw [rn_scale h, rm_scale h, show rn P q a e + (d : Int) + (e - d) - q = rn P q a e + e - q by omega]
  by_cases h0 : rr P q a e = 0
  · rw [if_neg (fun c => c.1 ((rr_scale0 h P q e d).2 h0)), if_neg (fun c => c.1 h0)]
  · rw [hu h0]
    congr 1
    by_cases hup : up' = true
    · rw [if_pos ⟨fun e' => h0 ((rr_scale0 h P q e d).1 e'), hup⟩, if_pos ⟨h0, hup⟩]
    · rw [if_neg (fun c => hup c.2), if_neg (fun c => hup c.2)]
end Nm
open Go.RowKit Go.Deep
/-- A reader in block rb over the bytes cs. -/
structure RD (w : World) (rb : Nat) (ca : Option Addr) (cc : Nat) (cs : List Int) : Prop where
  p : ∃ p : Nat, p ≤ cs.length ∧ R2 w rb (.slice ca cs.length cc) (.int .i64 p)
  s : Sl .u8 w (.slice ca cs.length cc) cs
  ne : 0 < cs.length → ∀ b off, ca = some ⟨b, off, none⟩ → b < rb
  by_ : ∀ i, 0 ≤ cs.getD i 0 ∧ cs.getD i 0 ≤ 255
  len : cs.length ≤ 1048576
theorem Sl.any {k : IntKind} {w w' : World} {v : Value} {zs : List Int} (h : Sl k w v zs) (h0 : ¬ 0 < zs.length) : Sl k w' v zs := by
  obtain ⟨a, cap, rfl, h1, h2, h3⟩ := h
  exact ⟨a, cap, rfl, h1, h2, .inl (List.eq_nil_of_length_eq_zero (by omega))⟩
theorem Sl.grownNe {k : IntKind} {w w' : World} {ca : Option Addr} {n cc g : Nat} {zs : List Int} (h : Sl k w (.slice ca n cc) zs) (hg : w.grownBy w' (some g)) (hne : 0 < zs.length → ∀ b off, ca = some ⟨b, off, none⟩ → b ≠ g) : Sl k w' (.slice ca n cc) zs := by
  by_cases h0 : 0 < zs.length
  · refine h.grown hg (fun g' hg' => ?_)
    cases hg'
    right
    intro b off n cap he
    cases he
    exact hne h0 b off rfl
  · exact h.any h0
theorem grown_below {w w' : World} (h : Below w.heap.size w w') (row : Option Nat) : w.grownBy w' row := ⟨h.os, h.tape, h.output, h.size, fun i hi _ => h.block i hi⟩
theorem RD.lt {w : World} {rb : Nat} {ca : Option Addr} {cc : Nat} {cs : List Int} (h : RD w rb ca cc cs) : rb < w.heap.size := by
  obtain ⟨p, _, r⟩ := h.p; exact World.block_lt_of_cell? w _ r.c0
theorem RD.below {w w' : World} {rb : Nat} {ca : Option Addr} {cc : Nat} {cs : List Int} (h : RD w rb ca cc cs) (hb : Below w.heap.size w w') : RD w' rb ca cc cs := by
  obtain ⟨⟨p, hp, r⟩, s, ne, hby, hl⟩ := h
  exact ⟨⟨p, hp, r.below hb⟩, s.below hb, ne, hby, hl⟩
theorem RD.alloc {w : World} {rb : Nat} {ca : Option Addr} {cc : Nat} {cs : List Int} (h : RD w rb ca cc cs) (o : Obj) : RD (w.alloc o) rb ca cc cs := h.below ((Below.refl _ _).alloc (Nat.le_refl _) _)
theorem RD.drew {w : World} {rb : Nat} {ca : Option Addr} {cc : Nat} {cs : List Int} (h : RD w rb ca cc cs) : RD w.drew rb ca cc cs := by
  obtain ⟨⟨p, hp, r⟩, s, ne, hby, hl⟩ := h
  exact ⟨⟨p, hp, r.drew⟩, s.drew, ne, hby, hl⟩
theorem RD.grown {w w' : World} {rb g : Nat} {ca : Option Addr} {cc : Nat} {cs : List Int} (h : RD w rb ca cc cs) (hg : w.grownBy w' (some g)) (h1 : rb < g) : RD w' rb ca cc cs := by
  obtain ⟨⟨p, hp, r⟩, s, ne, hby, hl⟩ := h
  exact ⟨⟨p, hp, r.grown hg (by omega)⟩, s.grownNe hg (fun h0 b off he => by have := ne h0 b off he; omega), ne, hby, hl⟩
/-- The place is set. -/
theorem RD.set {w : World} {rb : Nat} {ca : Option Addr} {cc : Nat} {cs : List Int} (h : RD w rb ca cc cs) (q : Nat) (hq : q ≤ cs.length) : RD (w.setCell ⟨rb, 1, none⟩ (.int .i64 q)) rb ca cc cs ∧ w.grownBy (w.setCell ⟨rb, 1, none⟩ (.int .i64 q)) (some rb) := by
  obtain ⟨⟨p, hp, r⟩, s, ne, hby, hl⟩ := h
  have hg : w.grownBy (w.setCell ⟨rb, 1, none⟩ (.int .i64 q)) (some rb) :=
    ⟨by simp [World.setCell], by simp [World.setCell], by simp [World.setCell], by simp [World.setCell], fun i hi hne => Below.heap_setCell w ⟨rb, 1, none⟩ _ i (by simpa using hne)⟩
  refine ⟨⟨⟨q, hq, ?_⟩, s.grownNe hg (fun h0 b off he => by have := ne h0 b off he; omega), ne, hby, hl⟩, hg⟩
  obtain ⟨c0, c1, f0, f1⟩ := r
  exact ⟨by simp [go_sem, c0, c1], by simp [go_sem, c0, c1], by simp [go_sem, f0, f1], by simp [go_sem, f0, f1]⟩
namespace Fd
theorem ab32 {x : Int} (h0 : 0 ≤ x) (h1 : x < 4294967296) : absF 32 x = if x < 2147483648 then x else x - 2147483648 := by
  rw [abs32 h1]; split <;> omega
theorem od32 {x : Int} (h0 : 0 ≤ x) (h1 : x < 4294967296) : ordI 32 x = if x < 2147483648 then x else 2147483648 - 1 - x := by
  have ha := ab32 h0 h1
  unfold ordI
  rw [okF32 h1, if_pos rfl]
  unfold sigB
  rw [ha]
  by_cases h : x < 2147483648
  · rw [if_pos h, if_pos h]; simp
  · rw [if_neg h, if_neg h]
    have : (x != x - 2147483648) = true := by simp; omega
    rw [this, if_pos rfl]; omega
theorem ab64 {x : Int} (h0 : 0 ≤ x) (h1 : x < 18446744073709551616) : absF 64 x = if x < 9223372036854775808 then x else x - 9223372036854775808 := by
  rw [abs64]; split <;> omega
theorem od64 {x : Int} (h0 : 0 ≤ x) (h1 : x < 18446744073709551616) : ordI 64 x = if x < 9223372036854775808 then x else 9223372036854775808 - 1 - x := by
  have ha := ab64 h0 h1
  unfold ordI
  rw [okF64, if_pos rfl]
  unfold sigB
  rw [ha]
  by_cases h : x < 9223372036854775808
  · rw [if_pos h, if_pos h]; simp
  · rw [if_neg h, if_neg h]
    have : (x != x - 9223372036854775808) = true := by simp; omega
    rw [this, if_pos rfl]; omega
end Fd
end Go.Proofs.YtmcflggionkhlaaGreatDoor
namespace Go.Proofs.YtmcflggionkhlaaGreatDoor
set_option linter.unusedVariables false
set_option linter.unusedSimpArgs false
namespace Ld
open Go.RowKit Go.Deep
def zs32 : List Int := Lib.deBruijn32tab.map Int.ofNat
theorem tb32 {W : World} (h : laidMet Tryz.prog [("math/bits.deBruijn32tab", Rows.laid_math_bits_deBruijn32tab)] W) : Tb W 3 Lib.deBruijn32tab := by
  have h' : laidMet Tryz.prog (("math/bits.deBruijn32tab", Lib.tabData .u8 zs32) :: []) W := h
  have hg : Tryz.prog.globalNamed "math/bits.deBruijn32tab" = some 3 := by kernel_rfl
  have ht := Lib.tabIs_of_head (g := 3) (t := 245) (e := 5) (n := 32) hg (by kernel_rfl) Tryz.underlying245 Tryz.underlying5 (by kernel_rfl) (by kernel_rfl) h'
  intro i hi
  have := ht.cell hg i (by simpa [zs32] using hi)
  rw [this]
  congr 2
  unfold zs32
  rw [List.getD_eq_getElem?_getD, List.getElem?_map, List.getD_eq_getElem?_getD, List.getElem?_eq_getElem hi]; rfl
def zs64 : List Int := Lib.deBruijn64tab.map Int.ofNat
theorem tb64 {W : World} (h : laidMet Tryz.prog [("math/bits.deBruijn64tab", Rows.laid_math_bits_deBruijn64tab)] W) : Tb W 4 Lib.deBruijn64tab := by
  have h' : laidMet Tryz.prog (("math/bits.deBruijn64tab", Lib.tabData .u8 zs64) :: []) W := h
  have hg : Tryz.prog.globalNamed "math/bits.deBruijn64tab" = some 4 := by kernel_rfl
  have ht := Lib.tabIs_of_head (g := 4) (t := 246) (e := 5) (n := 64) hg (by kernel_rfl) Tryz.underlying246 Tryz.underlying5 (by kernel_rfl) (by kernel_rfl) h'
  intro i hi
  have := ht.cell hg i (by simpa [zs64] using hi)
  rw [this]
  congr 2
  unfold zs64
  rw [List.getD_eq_getElem?_getD, List.getElem?_map, List.getD_eq_getElem?_getD, List.getElem?_eq_getElem hi]; rfl
end Ld
open Go.RowKit Go.Deep
theorem rdU_scale {a : Nat} (h : a ≠ 0) (P : Nat) (q : Int) (mode : Int) (ng : Bool) (e : Int) (d : Nat) : rdU P q mode ng (a * 2 ^ d) (e - d) = rdU P q mode ng a e := by
  unfold rdU
  refine Nm.rU_scale h P q e d _ _ (fun hr => ?_)
  rw [Nm.rm_scale h, Nm.rh_scale h P q e d hr]
theorem rdB_scale {a : Nat} (h : a ≠ 0) (P : Nat) (q : Int) (I : Nat) (S mode : Int) (ng : Bool) (e : Int) (d : Nat) : rdB P q I S mode ng (a * 2 ^ d) (e - d) = rdB P q I S mode ng a e := by
  unfold rdB; rw [rdU_scale h]
theorem rdF_scale {a : Nat} (h : a ≠ 0) (P : Nat) (q : Int) (I : Nat) (mode : Int) (ng : Bool) (e : Int) (d : Nat) : rdF P q I mode ng (a * 2 ^ d) (e - d) = rdF P q I mode ng a e := by
  unfold rdF; rw [rdU_scale h, Nm.bl_mul h, show ((bitLen a + d : Nat) : Int) + (e - d) = (bitLen a : Int) + e by omega]
  by_cases hr : Nm.rr P q a e = 0
  · rw [if_pos hr, if_pos ((Nm.rr_scale0 h P q e d).2 hr)]
  · rw [if_neg hr, if_neg (fun c => hr ((Nm.rr_scale0 h P q e d).1 c))]
/-- Two ways to part one number are rounded alike. -/
theorem Rd_scale (fm mode : Int) (z : Int) (d : Nat) (e : Int) (hz : z ≠ 0) (h1 : RdO fm mode (Nm.wn z) (Nm.wl z) e = true) (h2 : RdO fm mode (Nm.wn (z * 2 ^ d)) (Nm.wl (z * 2 ^ d)) (e - d) = true) :
    RdB fm mode (Nm.wn (z * 2 ^ d)) (Nm.wl (z * 2 ^ d)) (e - d) = RdB fm mode (Nm.wn z) (Nm.wl z) e ∧ RdF fm mode (Nm.wn (z * 2 ^ d)) (Nm.wl (z * 2 ^ d)) (e - d) = RdF fm mode (Nm.wn z) (Nm.wl z) e := by
  have hp : (0 : Int) < 2 ^ d := Int.pow_pos (by decide)
  have hn : Nm.wn (z * 2 ^ d) = Nm.wn z := by
    unfold Nm.wn
    rw [Bool.eq_iff_iff, decide_eq_true_eq, decide_eq_true_eq]
    constructor
    · intro h
      refine Int.not_le.1 (fun h0 => ?_)
      have := Int.mul_nonneg h0 (Int.le_of_lt hp); omega
    · intro h; exact Int.mul_neg_of_neg_of_pos h hp
  have ha : (z * 2 ^ d).natAbs = z.natAbs * 2 ^ d := by rw [Int.natAbs_mul, Int.natAbs_pow]; rfl
  have ha0 : z.natAbs ≠ 0 := by omega
  have hv1 : (Nm.val (Nm.wl z)).toNat = z.natAbs := by rw [Nm.val_wl]; simp
  have hv2 : (Nm.val (Nm.wl (z * 2 ^ d))).toNat = z.natAbs * 2 ^ d := by rw [Nm.val_wl, ha]; exact Int.toNat_natCast _
  have hl1 : (Nm.wl z).length ≠ 0 := by unfold Nm.wl; rw [Ne, Nm.lim_length_zero]; exact ha0
  have hl2 : (Nm.wl (z * 2 ^ d)).length ≠ 0 := by
    unfold Nm.wl; rw [Ne, Nm.lim_length_zero, ha]
    intro h
    rcases Nat.mul_eq_zero.1 h with h' | h'
    · exact ha0 h'
    · have := Nm.pw_pos2 d; omega
  rw [hn] at h2 ⊢
  unfold RdB RdF
  rw [h1, h2, if_pos rfl, if_pos rfl, if_pos rfl, if_pos rfl, if_neg hl1, if_neg hl1, if_neg hl2, if_neg hl2, hv1, hv2]
  by_cases h32 : fm = 32
  · rw [if_pos h32, if_pos h32, if_pos h32, if_pos h32]
    exact ⟨rdB_scale ha0 _ _ _ _ _ _ _ _, rdF_scale ha0 _ _ _ _ _ _ _⟩
  · rw [if_neg h32, if_neg h32, if_neg h32, if_neg h32]
    exact ⟨rdB_scale ha0 _ _ _ _ _ _ _ _, rdF_scale ha0 _ _ _ _ _ _ _⟩
/-- Numbers of 64 bits. -/
def D64 (xs : List Int) : Prop := ∀ x ∈ xs, 0 ≤ x ∧ x < 18446744073709551616
theorem D64.getD {xs : List Int} (h : D64 xs) (k : Nat) : 0 ≤ xs.getD k 0 ∧ xs.getD k 0 < 18446744073709551616 := by
  rw [List.getD_eq_getElem?_getD]
  by_cases hk : k < xs.length
  · rw [List.getElem?_eq_getElem hk]; exact h _ (List.getElem_mem hk)
  · rw [List.getElem?_eq_none (by omega)]; decide
/-- Whether all are floats of the format. -/
def allB (fm : Int) (xs : List Int) : Bool := xs.all (fun x => okF fm x)
theorem allB_yes {fm : Int} {xs : List Int} (h : ∀ j, j < xs.length → okF fm (xs.getD j 0) = true) : allB fm xs = true := by
  unfold allB
  rw [List.all_eq_true]
  intro x hx
  obtain ⟨j, hj, rfl⟩ := List.getElem_of_mem hx
  have := h j hj
  rwa [List.getD_eq_getElem?_getD, List.getElem?_eq_getElem hj] at this
theorem allB_no {fm : Int} {xs : List Int} {j : Nat} (hj : j < xs.length) (h : okF fm (xs.getD j 0) = false) : allB fm xs = false := by
  cases h' : allB fm xs
  · rfl
  · unfold allB at h'
    rw [List.all_eq_true] at h'
    have := h' _ (List.getElem_mem hj)
    rw [List.getD_eq_getElem?_getD, List.getElem?_eq_getElem hj] at h
    simp at h this
    rw [h] at this; exact absurd this (by decide)
theorem allf_impl (fm : Int) (a : Option Addr) (cap : Nat) (xs : List Int) (w : World) (hT : Tab w) (hx : Sl .u64 w (.slice a xs.length cap) xs) (dx : D64 xs) (hl : xs.length ≤ 1048576) :
    Calls Tryz.prog 158 #[.int .i64 fm, .slice a xs.length cap] w fun e w' => e = .returned (.bool (allB fm xs)) ∧ Below w.heap.size w w' := by
  obtain ⟨-, hx1, hx2, hx3⟩ := hx.cells
  have CO := hid (fun k w' h => impl_ok fm (xs.getD k 0) w' h (dx.getD k).1 (dx.getD k).2)
  have DX := hid dx
  clear dx
  go_enter Tryz.func158, Tryz.ntmps158
  go_wp2
  go_loopw [9] (fun i wr => ∃ k : Nat, k ≤ xs.length ∧ i = .int .i64 k ∧ (∀ j, j < k → okF fm (xs.getD j 0) = true) ∧ Below w.heap.size w wr) (fun i _ => xs.length - (intOf i).toNat)
  case atStart => exact ⟨0, Nat.zero_le _, rfl, fun j hj => absurd hj (Nat.not_lt_zero _), Below.refl _ _⟩
  case round =>
    obtain ⟨k, hk, rfl, hpre, hb⟩ := hrel
    have PRE := hid hpre
    clear hpre
    by_cases hlt : k < xs.length
    · obtain ⟨b, off, rfl, hcx⟩ := hx3 (by omega)
      have h1 := hcx k hlt
      have h1 : wr.cell? ⟨b, off + k, none⟩ = some (.int .u64 (xs.getD k 0)) := (hb.cell (p := ⟨b, off + k, none⟩) (World.block_lt_of_cell? w _ h1)).trans h1
      clear hx3 hcx
      have C := hid (fun w' h => CO.out k w' h)
      have HNO := hid (allB_no (fm := fm) hlt)
      have PRE2 : Hid (okF fm (xs.getD k 0) = true → ∀ j, j < k + 1 → okF fm (xs.getD j 0) = true) := hid (fun h j hj => by
        by_cases e : j = k
        · subst e; exact h
        · exact PRE.out j (by omega))
      obtain ⟨x, hxk⟩ : ∃ x, x = xs.getD k 0 := ⟨_, rfl⟩
      obtain ⟨o, hok⟩ : ∃ o, o = okF fm x := ⟨_, rfl⟩
      rw [← hxk] at h1 C HNO
      rw [← hok] at C HNO
      have PRE2 : Hid (o = true → ∀ j, j < k + 1 → okF fm (xs.getD j 0) = true) := hid (fun h => PRE2.out (by rw [← hxk, ← hok]; exact h))
      clear hxk hok CO PRE
      cases o with
      | true =>
        have PRE3 := hid (PRE2.out rfl)
        clear PRE2 HNO
        go_wp2_with fail
        refine (C.out _ (hT.below hb)).mono ?_
        rintro e w1 ⟨rfl, hb1⟩
        go_wp2
        go_roundw
        case rel => exact ⟨k + 1, by omega, by go_num, PRE3.out, bel_go hb hb1⟩
        case measure => simp [intOf]; omega
      | false =>
        have HN2 := hid (HNO.out rfl)
        clear PRE2 HNO
        go_wp2_with fail
        refine (C.out _ (hT.below hb)).mono ?_
        rintro e w1 ⟨rfl, hb1⟩
        go_wp2
        go_ret
        exact ⟨ret_bool HN2.out.symm, bel_go hb hb1⟩
    · obtain rfl : k = xs.length := by omega
      have HY := hid (allB_yes PRE.out)
      clear hx3 CO PRE
      go_wp2
      go_ret
      exact ⟨ret_bool HY.out.symm, hb⟩
theorem nanS32 (w : World) :
    Calls Tryz.prog 92 #[.int .i64 32] w fun e w' => e = .returned (.int .u64 2143289344) ∧ Below w.heap.size w w' := by
  go_enter Tryz.func92, Tryz.ntmps92
  go_wp2
  go_ret
  exact ⟨rfl, (by repeat (first | exact bz0 _ _ | refine bz1 ?_ | refine bz2 ?_ _ | refine bz3 ?_ _ | refine bz5 ?_ _ | refine bz6 ?_ _))⟩
theorem infS32 (w : World) :
    Calls Tryz.prog 96 #[.int .i64 32] w fun e w' => e = .returned (.int .u64 2139095040) ∧ Below w.heap.size w w' := by
  go_enter Tryz.func96, Tryz.ntmps96
  go_wp2
  go_ret
  exact ⟨rfl, (by repeat (first | exact bz0 _ _ | refine bz1 ?_ | refine bz2 ?_ _ | refine bz3 ?_ _ | refine bz5 ?_ _ | refine bz6 ?_ _))⟩
theorem l3r_at32 (mode : Int) (ng : Bool) (zs : List Int) (e : Int) (p : Option Addr) (cap : Nat) (w : World) (hs : Sl .u32 w (.slice p zs.length cap) zs) (hz : Nm.Dg zs) (h0 : zs.length ≠ 0) (ho : RdO 32 mode ng zs e = true) :
    Calls Tryz.prog 103 #[.int .i64 32, .int .i64 mode, .agg #[.bool ng, .slice p zs.length cap], .int .i64 e] w fun x w' => x = .returned (.tuple #[.int .u64 (RdB 32 mode ng zs e), .int .i64 (RdF 32 mode ng zs e)]) ∧ Below w.heap.size w w' := by
  have hk := ho
  unfold RdO at hk
  simp only [Bool.and_eq_true] at hk
  obtain ⟨⟨⟨k1, k2⟩, k3⟩, k4⟩ := hk
  have k5 := inZ_yes k4
  obtain ⟨hzl, hbl⟩ := lim_ok hz k3
  have ha : (Nm.val zs).toNat ≠ 0 := by
    intro h; rw [h, Nm.lim_zero] at hzl; rw [hzl] at h0; exact h0 rfl
  have hB : RdB 32 mode ng zs e = rdB 24 (-149) 2139095040 2147483648 mode ng (Nm.val zs).toNat e := by unfold RdB; rw [ho, if_pos rfl, if_neg h0]; rfl
  have hF : RdF 32 mode ng zs e = rdF 24 (-149) 2139095040 mode ng (Nm.val zs).toNat e := by unfold RdF; rw [ho, if_pos rfl, if_neg h0]; rfl
  rw [hB, hF]
  obtain ⟨a, haz⟩ : ∃ a, a = (Nm.val zs).toNat := ⟨_, rfl⟩
  rw [← haz] at hzl hbl ha ⊢
  clear hB hF haz ho k3 hz h0
  subst hzl
  exact l3r_32 mode ng a e p cap w hs k2 ha (by omega) (by omega) (by omega)
theorem nanS64 (w : World) :
    Calls Tryz.prog 92 #[.int .i64 64] w fun e w' => e = .returned (.int .u64 9221120237041090560) ∧ Below w.heap.size w w' := by
  go_enter Tryz.func92, Tryz.ntmps92
  go_wp2
  go_ret
  exact ⟨rfl, (by repeat (first | exact bz0 _ _ | refine bz1 ?_ | refine bz2 ?_ _ | refine bz3 ?_ _ | refine bz5 ?_ _ | refine bz6 ?_ _))⟩
theorem infS64 (w : World) :
    Calls Tryz.prog 96 #[.int .i64 64] w fun e w' => e = .returned (.int .u64 9218868437227405312) ∧ Below w.heap.size w w' := by
  go_enter Tryz.func96, Tryz.ntmps96
  go_wp2
  go_ret
  exact ⟨rfl, (by repeat (first | exact bz0 _ _ | refine bz1 ?_ | refine bz2 ?_ _ | refine bz3 ?_ _ | refine bz5 ?_ _ | refine bz6 ?_ _))⟩
theorem l3r_at64 (mode : Int) (ng : Bool) (zs : List Int) (e : Int) (p : Option Addr) (cap : Nat) (w : World) (hs : Sl .u32 w (.slice p zs.length cap) zs) (hz : Nm.Dg zs) (h0 : zs.length ≠ 0) (ho : RdO 64 mode ng zs e = true) :
    Calls Tryz.prog 103 #[.int .i64 64, .int .i64 mode, .agg #[.bool ng, .slice p zs.length cap], .int .i64 e] w fun x w' => x = .returned (.tuple #[.int .u64 (RdB 64 mode ng zs e), .int .i64 (RdF 64 mode ng zs e)]) ∧ Below w.heap.size w w' := by
  have hk := ho
  unfold RdO at hk
  simp only [Bool.and_eq_true] at hk
  obtain ⟨⟨⟨k1, k2⟩, k3⟩, k4⟩ := hk
  have k5 := inZ_yes k4
  obtain ⟨hzl, hbl⟩ := lim_ok hz k3
  have ha : (Nm.val zs).toNat ≠ 0 := by
    intro h; rw [h, Nm.lim_zero] at hzl; rw [hzl] at h0; exact h0 rfl
  have hB : RdB 64 mode ng zs e = rdB 53 (-1074) 9218868437227405312 9223372036854775808 mode ng (Nm.val zs).toNat e := by unfold RdB; rw [ho, if_pos rfl, if_neg h0]; rfl
  have hF : RdF 64 mode ng zs e = rdF 53 (-1074) 9218868437227405312 mode ng (Nm.val zs).toNat e := by unfold RdF; rw [ho, if_pos rfl, if_neg h0]; rfl
  rw [hB, hF]
  obtain ⟨a, haz⟩ : ∃ a, a = (Nm.val zs).toNat := ⟨_, rfl⟩
  rw [← haz] at hzl hbl ha ⊢
  clear hB hF haz ho k3 hz h0
  subst hzl
  exact l3r_64 mode ng a e p cap w hs k2 ha (by omega) (by omega) (by omega)
end Go.Proofs.YtmcflggionkhlaaGreatDoor
