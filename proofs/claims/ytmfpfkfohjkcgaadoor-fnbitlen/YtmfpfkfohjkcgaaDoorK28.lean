/-
  What is needed of WideM, WideN, TCd, ITs, WideY, IB.
-/
import Derived.Test.YtmfpfkfohjkcgaaDoorK15
import Derived.Test.YtmfpfkfohjkcgaaDoorK22
import Derived.Test.YtmfpfkfohjkcgaaDoorK25
set_option maxHeartbeats 16000000
set_option maxRecDepth 1000000
namespace Go.Proofs.YtmfpfkfohjkcgaaDoor
set_option linter.unusedVariables false
set_option linter.unusedSimpArgs false
open Go.RowKit Go.Deep
theorem wl_len64 {n : Int} (h0 : -9223372036854775808 ≤ n) (h1 : n ≤ 9223372036854775807) : (Nm.wl n).length ≤ 200 := by
  have := fits_small (x := n) (by omega) (by omega)
  simpa [Nm.fits] using this
theorem l1neg_any (ng : Bool) (a : Option Addr) (cap : Nat) (zs : List Int) (w : World) (hs : Sl .u32 w (.slice a zs.length cap) zs) (hz : Nm.Dg zs) (hl : zs.length ≤ 1048576) (x : Int) (hx : x = Nm.wv (!ng) zs) :
    Calls Tryd.prog 142 #[.agg #[.bool ng, .slice a zs.length cap]] w fun e w' => ∃ a' c', e = .returned (.agg #[.bool (Nm.wn x), .slice a' (Nm.wl x).length c']) ∧ Own w' w.heap.size a' c' (Nm.wl x) ∧ Below w.heap.size w w' := by
  have HX := hid hx
  clear hx
  go_enter Tryd.func142, Tryd.ntmps142
  go_wp2_with fail
  refine (made_v (!ng) a cap zs _ ((hs.alloc _).alloc _) hz hl x HX.out).mono ?_
  rintro e w1 ⟨a', c', rfl, ho, hb⟩
  obtain ⟨r0, r1, f0, f1⟩ := (R2.new2 w (.cells #[.bool ng, .slice a zs.length cap] 35) (.bool false) (.slice none 0 0) 35).below hb
  have ho : Own w1 (w.heap.size + 1 + 1) a' c' (Nm.wl x) := by simpa using ho
  go_wp2
  refine bodyPost_ret (v := .agg #[.bool (Nm.wn x), .slice a' (Nm.wl x).length c']) (by simp [results, Tryd.results142, go_sem, r0, r1]) rfl ⟨a', c', rfl, ?_, (by repeat (first | exact bz0 _ _ | refine bz1 ?_ | refine bz2 ?_ _ | refine bz3 ?_ _ | refine bz4 ?_ hb | refine bz5 ?_ _ | refine bz6 ?_ _ | refine bz7 ?_ hb))⟩
  exact Own.base ((ho.setBelow (by simp) _).setBelow (by simp) _) (by omega)
theorem neg_200 (ng : Bool) {zs : List Int} (hd : Nm.Dg zs) : (negL ng zs).length ≤ 200 ∧ Nm.Dg (negL ng zs) := by
  unfold negL
  split
  · rename_i h
    have := ok_fits hd h (!ng)
    exact ⟨by simpa [Nm.fits] using this, Nm.wl_dg _⟩
  · exact ⟨by simp, Nm.Dg.nil⟩
namespace TCn
theorem bel_rd {w W w' : World} {rb : Nat} (h : Below w.heap.size w W) (hg : W.grownBy w' (some rb)) (hr : w.heap.size ≤ rb) : Below w.heap.size w w' := h.grown hg h.size (fun k hk => by cases hk; exact hr)
theorem big_any (ca : Option Addr) (n cc : Nat) (w : World) (hn : n ≤ 9223372036854775807) (b : Bool) (hb : b = decide (1048576 < n)) :
    Calls Tryd.prog 9 #[.slice ca n cc] w fun e w' => e = .returned (.bool b) ∧ w' = w := by
  by_cases h : 1048576 < n
  · have HB : Hid (b = true) := hid (by rw [hb]; simpa using h)
    clear hb
    go_enter Tryd.func9, Tryd.ntmps9
    go_wp2
    go_ret
    refine ⟨ret_bool ?_, rfl⟩
    rw [HB.out]
    first | rfl | (simp; omega)
  · have HB : Hid (b = false) := hid (by rw [hb]; simpa using h)
    clear hb
    go_enter Tryd.func9, Tryd.ntmps9
    go_wp2
    go_ret
    refine ⟨ret_bool ?_, rfl⟩
    rw [HB.out]
    first | rfl | (simp; omega)
theorem four_cell {x y : Int} (w : World) {w' : World} {rb : Nat} {t : TypeId} (hg : (w.alloc (.cells #[.int .i64 x, .int .i64 y, .int .i64 (-9223372036854775808), .int .i64 9223372036854775807] t)).grownBy w' (some rb)) (hne : rb < w.heap.size) (k : Nat) (hk : k < 4) :
    ∃ d : Int, w'.cell? ⟨w.heap.size, k, none⟩ = some (.int .i64 d) := by
  have e := hg.block w.heap.size (by simp) (by simp; omega)
  have h : ∀ j, w'.cell? ⟨w.heap.size, j, none⟩ = (#[.int .i64 x, .int .i64 y, .int .i64 (-9223372036854775808), .int .i64 9223372036854775807] : Array Value)[j]? := fun j => by
    rw [World.cell?_of_block (a := ⟨w.heap.size, j, none⟩) e]
    exact World.cell?_alloc_new w _ _ j
  rw [h k]
  rcases (show k = 0 ∨ k = 1 ∨ k = 2 ∨ k = 3 by omega) with rfl | rfl | rfl | rfl
  · exact ⟨x, rfl⟩
  · exact ⟨y, rfl⟩
  · exact ⟨_, rfl⟩
  · exact ⟨_, rfl⟩
theorem near_any (rb : Nat) (ca : Option Addr) (cc : Nat) (cs : List Int) (lo hi : Int) (w : World) (hr : RD w rb ca cc cs) (h0 : 0 ≤ lo) (h1 : lo ≤ hi) (h2 : hi ≤ 1000000) :
    Calls Tryd.prog 106 #[.pointer (some ⟨rb, 0, none⟩), .int .i64 lo, .int .i64 hi] w fun e w' => ∃ v : Int, e = .returned (.int .i64 v) ∧ RD w' rb ca cc cs ∧ w.grownBy w' (some rb) := by
  go_enter Tryd.func106, Tryd.ntmps106
  go_wp2_with fail
  refine (below_any rb ca cc cs 8 _ hr (by decide) (by decide)).mono ?_
  rintro e w1 ⟨v, rfl, v0, v1, hr1, hg1⟩
  rcases (show v = 0 ∨ v = 1 ∨ 1 < v by omega) with rfl | rfl | hv
  · go_wp2
    go_ret
    exact ⟨_, rfl, hr1, hg1⟩
  · go_wp2
    go_ret
    exact ⟨_, rfl, hr1, hg1⟩
  · have e0 : (v == 0) = false := by simp; omega
    have e1 : (v == 1) = false := by simp; omega
    have e2 : decide (hi < lo) = false := by simp; omega
    have W1 : IntKind.u64.wrap (hi - lo + 1) = hi - lo + 1 := by rw [IntKind.wrap_u64]; omega
    have W2 : (hi - lo + 1 == 0) = false := by simp; omega
    have CW := hid (word_any rb ca cc cs _ hr1)
    go_wp2_with fail
    refine CW.out.mono ?_
    rintro e w2 ⟨u, rfl, u0, u1, hr2, hg2⟩
    go_wp2
    go_ret
    exact ⟨_, rfl, hr2, grown_trans hg1 hg2⟩
theorem off_any (rb : Nat) (ca : Option Addr) (cc : Nat) (cs : List Int) (lo hi : Int) (w : World) (hr : RD w rb ca cc cs) (h0 : 0 ≤ lo) (h1 : lo ≤ hi) (h2 : hi ≤ 1000000) :
    Calls Tryd.prog 57 #[.pointer (some ⟨rb, 0, none⟩), .int .i64 lo, .int .i64 hi] w fun e w' => ∃ v : Int, e = .returned (.int .i64 v) ∧ RD w' rb ca cc cs ∧ w.grownBy w' (some rb) := by
  go_enter Tryd.func57, Tryd.ntmps57
  go_wp2_with fail
  refine (once_any rb ca cc cs 24 _ hr (by decide) (by decide)).mono ?_
  rintro e w1 ⟨v, rfl, hr1, hg1⟩
  cases v
  · go_wp2_with fail
    refine (near_any rb ca cc cs lo hi _ hr1 h0 h1 h2).mono ?_
    rintro e w2 ⟨u, rfl, hr2, hg2⟩
    go_wp2
    go_ret
    exact ⟨_, rfl, hr2, grown_trans hg1 hg2⟩
  · have l1 := hr1.lt
    go_wp2_with fail
    refine (below_any rb ca cc cs 4 _ (hr1.alloc _) (by decide) (by decide)).mono ?_
    rintro e w3 ⟨kz, rfl, k0, k1, hr3, hg3⟩
    obtain ⟨k, rfl⟩ := Int.eq_ofNat_of_zero_le k0
    obtain ⟨d, hd⟩ := four_cell w1 hg3 l1 k (by omega)
    go_wp2
    go_ret
    exact ⟨d, rfl, hr3, grown_trans (grown_alloc hg1 _) hg3⟩
end TCn
/-- The table of formats, and that of 64. -/
structure Ts (w : World) : Prop where
  f : Tab w
  t64 : Tb w 2 Lib.deBruijn64tab
theorem Ts.below {w w' : World} (h : Ts w) (hb : Below w.heap.size w w') : Ts w' := ⟨h.f.below hb, h.t64.below (by decide) hb⟩
theorem Ts.al {w : World} (h : Ts w) (o : Obj) : Ts (w.alloc o) := h.below ((Below.refl _ _).alloc (Nat.le_refl _) _)
theorem Ts.dr {w : World} (h : Ts w) : Ts w.drew := ⟨⟨h.f.c0, h.f.c1, h.f.c2, h.f.c3, h.f.c4, h.f.c5, h.f.c6, h.f.c7, h.f.c8⟩, h.t64⟩
theorem pw_400 : Nm.pw 400 = Nm.pw 200 * Nm.pw 200 := Nm.pw_add 200 200
theorem mul_short {na nb : Bool} {xs ys : List Int} {x : Int} (hx : x = Nm.wv na xs * Nm.wv nb ys) (dx : Nm.Dg xs) (dy : Nm.Dg ys) (lx : xs.length ≤ 200) (ly : ys.length ≤ 200) : (Nm.wl x).length ≤ 1048576 := by
  have h1 := val_200 dx lx
  have h2 := val_200 dy ly
  have h0 : 0 ≤ Nm.val xs * Nm.val ys := Int.mul_nonneg h1.1 h2.1
  have h3 : Nm.val xs * Nm.val ys ≤ (Nm.pw 200 - 1) * (Nm.pw 200 - 1) := Int.mul_le_mul (by omega) (by omega) h2.1 (by omega)
  have hp := Nm.pw_pos 200
  have h4 : (Nm.pw 200 - 1) * (Nm.pw 200 - 1) < Nm.pw 200 * Nm.pw 200 := by
    rw [Int.sub_mul, Int.mul_sub, Int.mul_sub]; omega
  have : (Nm.wl x).length ≤ 400 := by
    unfold Nm.wl
    rw [Nm.lim_length, hx, pw_400]
    generalize Nm.pw 200 * Nm.pw 200 = q at h4
    generalize (Nm.pw 200 - 1) * (Nm.pw 200 - 1) = r at h3 h4
    unfold Nm.wv
    cases na <;> cases nb <;> simp [Int.neg_mul, Int.mul_neg] <;> omega
  omega
theorem keep4w {w w' : World} {b b' : Nat} {v0 v1 u0 u1 : Value} (h0 : w.cell? ⟨b, 0, none⟩ = some v0) (h1 : w.cell? ⟨b, 1, none⟩ = some v1) (k0 : w.cell? ⟨b', 0, none⟩ = some u0) (k1 : w.cell? ⟨b', 1, none⟩ = some u1) (hb : Below w.heap.size w w') :
    w'.cell? ⟨b, 0, none⟩ = some v0 ∧ w'.cell? ⟨b, 1, none⟩ = some v1 ∧ w'.cell? ⟨b', 0, none⟩ = some u0 ∧ w'.cell? ⟨b', 1, none⟩ = some u1 :=
  ⟨(Box.below ⟨h0, h1⟩ hb).1, (Box.below ⟨h0, h1⟩ hb).2, (Box.below ⟨k0, k1⟩ hb).1, (Box.below ⟨k0, k1⟩ hb).2⟩
theorem keep4_set {w : World} {b b' z : Nat} {v0 v1 u0 u1 : Value} (h0 : w.cell? ⟨b, 0, none⟩ = some v0) (h1 : w.cell? ⟨b, 1, none⟩ = some v1) (k0 : w.cell? ⟨b', 0, none⟩ = some u0) (k1 : w.cell? ⟨b', 1, none⟩ = some u1) (n1 : b ≠ z) (n2 : b' ≠ z) (p q : Value) :
    ((w.setCell ⟨z, 0, none⟩ p).setCell ⟨z, 1, none⟩ q).cell? ⟨b, 0, none⟩ = some v0 ∧ ((w.setCell ⟨z, 0, none⟩ p).setCell ⟨z, 1, none⟩ q).cell? ⟨b, 1, none⟩ = some v1 ∧ ((w.setCell ⟨z, 0, none⟩ p).setCell ⟨z, 1, none⟩ q).cell? ⟨b', 0, none⟩ = some u0 ∧ ((w.setCell ⟨z, 0, none⟩ p).setCell ⟨z, 1, none⟩ q).cell? ⟨b', 1, none⟩ = some u1 :=
  ⟨(keep3_set h0 h1 k1 n1 n2 p q).1, (keep3_set h0 h1 k1 n1 n2 p q).2.1, (keep3_set k0 k1 h1 n2 n1 p q).1, (keep3_set h0 h1 k1 n1 n2 p q).2.2⟩
theorem bitAt_n (ng : Bool) (a : Nat) (i : Int) (p : Option Addr) (c : Nat) (w : World) (hs : Sl .u32 w (.slice p (Nm.lim a).length c) (Nm.lim a)) (hl : bitLen a ≤ 20000) (h0 : 0 ≤ i) (h1 : i ≤ 100000) :
    Calls Tryd.prog 165 #[.agg #[.bool ng, .slice p (Nm.lim a).length c], .int .i64 i] w fun e w' => e = .returned (.bool (decide (a / 2 ^ i.toNat % 2 = 1))) ∧ Below w.heap.size w w' := by
  have hlen := lim_len (x := a) (k := 20000) (by omega)
  obtain ⟨wh, r, hq, hm, hw, hr⟩ := parts32 i h0 (by omega)
  have hd := (Nm.lim_dg a).getD wh
  obtain ⟨x, hx⟩ : ∃ x, x = (Nm.lim a).getD wh 0 := ⟨_, rfl⟩
  rw [← hx] at hd
  have hla := fun w' h => limbAt_any p c (Nm.lim a) wh w' h (by omega) (by omega)
  rw [← hx] at hla
  have HLA := hid hla
  clear hla
  have hbl := bit_limb a wh r hr
  rw [← hx, show 32 * wh + r = i.toNat by omega] at hbl
  have HR : Hid (decide (a / 2 ^ i.toNat % 2 = 1) = (x / (2 : Int) ^ r % 2 == 1)) := hid (by
    have e : ((2 ^ r : Nat) : Int) = (2 : Int) ^ r := by simp
    rw [e] at hbl
    rw [hbl, Bool.eq_iff_iff, decide_eq_true_eq, beq_iff_eq]; omega)
  have hxr : 0 ≤ x / (2 : Int) ^ r ∧ x / (2 : Int) ^ r < 4294967296 := by
    have hp : (0 : Int) < (2 : Int) ^ r := Int.pow_pos (by decide)
    exact ⟨Int.ediv_nonneg hd.1 (by omega), Int.lt_of_le_of_lt (Int.ediv_le_self _ hd.1) hd.2⟩
  have hand : bits .and .u32 (x / (2 : Int) ^ r) 1 = x / (2 : Int) ^ r % 2 := by
    obtain ⟨n, hn⟩ : ∃ n : Nat, x / (2 : Int) ^ r = n := ⟨(x / (2 : Int) ^ r).toNat, by omega⟩
    rw [hn] at hxr ⊢
    have h := u32_and_nat n 1 (by omega) (by decide)
    rw [show ((1 : Nat) : Int) = 1 from rfl] at h
    rw [h, Nat.and_one_is_mod]; simp
  clear hbl hx hxr
  go_enter Tryd.func165, Tryd.ntmps165
  go_wp2_with fail
  refine (HLA.out _ (hs.alloc _)).mono ?_
  rintro e w1 ⟨rfl, rfl⟩
  go_wp2
  go_ret
  exact ⟨ret_bool HR.out.symm, (by repeat (first | exact bz0 _ _ | refine bz1 ?_ | refine bz2 ?_ _ | refine bz3 ?_ _ | refine bz5 ?_ _ | refine bz6 ?_ _))⟩
end Go.Proofs.YtmfpfkfohjkcgaaDoor
