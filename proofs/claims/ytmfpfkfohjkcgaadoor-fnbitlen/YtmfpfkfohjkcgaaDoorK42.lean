/-
  What is needed of NZ, DrawE, DrawF, DrawG, FJ, CU.
-/
import Derived.Test.YtmfpfkfohjkcgaaDoorK37
import Derived.Test.YtmfpfkfohjkcgaaDoorK39
set_option maxHeartbeats 16000000
set_option maxRecDepth 1000000
namespace Go.Proofs.YtmfpfkfohjkcgaaDoor
set_option linter.unusedVariables false
set_option linter.unusedSimpArgs false
open Go.RowKit Go.Deep
namespace Fd
theorem near_z (rb : Nat) (ca : Option Addr) (cc : Nat) (cs : List Int) (lo hi : Int) (w : World) (hr : RD w rb ca cc cs) (h0 : -1000000 ≤ lo) (h1 : lo ≤ hi) (h2 : hi ≤ 1000000) :
    Calls Tryd.prog 106 #[.pointer (some ⟨rb, 0, none⟩), .int .i64 lo, .int .i64 hi] w fun e w' => ∃ v : Int, e = .returned (.int .i64 v) ∧ RD w' rb ca cc cs ∧ w.grownBy w' (some rb) := by
  go_enter Tryd.func106, Tryd.ntmps106
  go_wp2_with fail
  refine (below_any rb ca cc cs 8 _ hr (by decide) (by decide)).mono ?_
  rintro e w1 ⟨v, rfl, v0, v1, hr1, hg1⟩
  rcases (show v = 0 ∨ v = 1 ∨ 1 < v by omega) with rfl | rfl | hv
  · go_wp2
    go_ret
    exact ⟨_, rfl, hr1, hg1⟩
  · go_wp2
    go_ret
    exact ⟨_, rfl, hr1, hg1⟩
  · have e0 : (v == 0) = false := by simp; omega
    have e1 : (v == 1) = false := by simp; omega
    have e2 : decide (hi < lo) = false := by simp; omega
    have W1 : IntKind.u64.wrap (hi - lo + 1) = hi - lo + 1 := by rw [IntKind.wrap_u64]; omega
    have W2 : (hi - lo + 1 == 0) = false := by simp; omega
    have CW := hid (word_any rb ca cc cs _ hr1)
    go_wp2_with fail
    refine CW.out.mono ?_
    rintro e w2 ⟨u, rfl, u0, u1, hr2, hg2⟩
    go_wp2
    go_ret
    exact ⟨_, rfl, hr2, grown_trans hg1 hg2⟩
theorem off_z (rb : Nat) (ca : Option Addr) (cc : Nat) (cs : List Int) (lo hi : Int) (w : World) (hr : RD w rb ca cc cs) (h0 : -1000000 ≤ lo) (h1 : lo ≤ hi) (h2 : hi ≤ 1000000) :
    Calls Tryd.prog 57 #[.pointer (some ⟨rb, 0, none⟩), .int .i64 lo, .int .i64 hi] w fun e w' => ∃ v : Int, e = .returned (.int .i64 v) ∧ RD w' rb ca cc cs ∧ w.grownBy w' (some rb) := by
  go_enter Tryd.func57, Tryd.ntmps57
  go_wp2_with fail
  refine (once_any rb ca cc cs 24 _ hr (by decide) (by decide)).mono ?_
  rintro e w1 ⟨v, rfl, hr1, hg1⟩
  cases v
  · go_wp2_with fail
    refine (near_z rb ca cc cs lo hi _ hr1 h0 h1 h2).mono ?_
    rintro e w2 ⟨u, rfl, hr2, hg2⟩
    go_wp2
    go_ret
    exact ⟨_, rfl, hr2, grown_trans hg1 hg2⟩
  · have l1 := hr1.lt
    go_wp2_with fail
    refine (below_any rb ca cc cs 4 _ (hr1.alloc _) (by decide) (by decide)).mono ?_
    rintro e w3 ⟨kz, rfl, k0, k1, hr3, hg3⟩
    obtain ⟨k, rfl⟩ := Int.eq_ofNat_of_zero_le k0
    obtain ⟨d, hd⟩ := TCn.four_cell w1 hg3 l1 k (by omega)
    go_wp2
    go_ret
    exact ⟨d, rfl, hr3, grown_trans (grown_alloc hg1 _) hg3⟩
end Fd
theorem big_any (ca : Option Addr) (n cc : Nat) (w : World) (hn : n ≤ 9223372036854775807) (b : Bool) (hb : b = decide (1048576 < n)) :
    Calls Tryd.prog 9 #[.slice ca n cc] w fun e w' => e = .returned (.bool b) ∧ w' = w := by
  by_cases h : 1048576 < n
  · have HB : Hid (b = true) := hid (by rw [hb]; simpa using h)
    clear hb
    go_enter Tryd.func9, Tryd.ntmps9
    go_wp2
    go_ret
    refine ⟨ret_bool ?_, rfl⟩
    rw [HB.out]
    first | rfl | (simp; omega)
  · have HB : Hid (b = false) := hid (by rw [hb]; simpa using h)
    clear hb
    go_enter Tryd.func9, Tryd.ntmps9
    go_wp2
    go_ret
    refine ⟨ret_bool ?_, rfl⟩
    rw [HB.out]
    first | rfl | (simp; omega)
theorem same_yes (n : Bool) (a b : Option Addr) (cap cap' : Nat) (xs : List Int) (w : World) (hx : Sl .u32 w (.slice a xs.length cap) xs) (hy : Sl .u32 w (.slice b xs.length cap') xs) (hl : xs.length ≤ 1048576) :
    Calls Tryd.prog 17 #[.agg #[.bool n, .slice a xs.length cap], .agg #[.bool n, .slice b xs.length cap']] w fun e w' => e = .returned (.bool true) ∧ Below w.heap.size w w' := by
  have hbe : (n == n) = true := by simp
  have hle : ((xs.length : Int) != (xs.length : Int)) = false := by simp
  have Bx := (Box.new w (.bool n) (.slice a xs.length cap) 35).alloc (.cells #[.bool n, .slice b xs.length cap'] 35)
  have By := Box.new2 w (.cells #[.bool n, .slice a xs.length cap] 35) (.bool n) (.slice b xs.length cap') 35
  have sx := (hx.alloc (.cells #[.bool n, .slice a xs.length cap] 35)).alloc (.cells #[.bool n, .slice b xs.length cap'] 35)
  have sy := (hy.alloc (.cells #[.bool n, .slice a xs.length cap] 35)).alloc (.cells #[.bool n, .slice b xs.length cap'] 35)
  have hbV : Below w.heap.size w ((w.alloc (.cells #[.bool n, .slice a xs.length cap] 35)).alloc (.cells #[.bool n, .slice b xs.length cap'] 35)) := (by repeat (first | exact bz0 _ _ | refine bz1 ?_ | refine bz2 ?_ _ | refine bz3 ?_ _ | refine bz5 ?_ _ | refine bz6 ?_ _))
  go_enter Tryd.func17, Tryd.ntmps17
  go_wp2_with fail
  generalize (w.alloc (.cells #[.bool n, .slice a xs.length cap] 35)).alloc (.cells #[.bool n, .slice b xs.length cap'] 35) = V at Bx By sx sy hbV ⊢
  go_loopw [5] (fun iv wr => ∃ i : Nat, i ≤ xs.length ∧ iv = .int .i64 i ∧ Below V.heap.size V wr) (fun iv _ => xs.length - (intOf iv).toNat)
  case atStart => exact ⟨0, Nat.zero_le _, rfl, Below.refl _ _⟩
  case round =>
    obtain ⟨i, hi, rfl, hb⟩ := hrel
    obtain ⟨x0, x1⟩ := Bx.below hb
    obtain ⟨y0, y1⟩ := By.below hb
    by_cases hlt : i < xs.length
    · obtain ⟨-, _, _, h3⟩ := (sx.below hb).cells
      obtain ⟨-, _, _, h4⟩ := (sy.below hb).cells
      obtain ⟨ba, oa, rfl, ha⟩ := h3 (by omega)
      obtain ⟨bb, ob, rfl, hbb⟩ := h4 (by omega)
      have ca := ha i hlt
      have cb := hbb i hlt
      obtain ⟨z, hz⟩ : ∃ z, z = xs.getD i 0 := ⟨_, rfl⟩
      rw [← hz] at ca cb
      clear h3 h4 ha hbb hz
      have hzz : (z != z) = false := by simp
      have k0 : (0 : Int) ≤ (i : Int) := by omega
      have k1 : (i : Int) < (xs.length : Int) := by omega
      have kd : wr.drew.cell? ⟨w.heap.size, 1, none⟩ = some (.slice (some ⟨ba, oa, none⟩) xs.length cap) ∧ wr.drew.cell? ⟨ba, oa + i, none⟩ = some (.int .u32 z) ∧ wr.drew.cell? ⟨w.heap.size + 1, 1, none⟩ = some (.slice (some ⟨bb, ob, none⟩) xs.length cap') ∧ wr.drew.cell? ⟨bb, ob + i, none⟩ = some (.int .u32 z) := ⟨x1, ca, y1, cb⟩
      go_wp2_with fail
      go_region_held3 (fun w' => w'.cell? ⟨w.heap.size, 1, none⟩ = some (.slice (some ⟨ba, oa, none⟩) xs.length cap) ∧ w'.cell? ⟨ba, oa + i, none⟩ = some (.int .u32 z) ∧ w'.cell? ⟨w.heap.size + 1, 1, none⟩ = some (.slice (some ⟨bb, ob, none⟩) xs.length cap') ∧ w'.cell? ⟨bb, ob + i, none⟩ = some (.int .u32 z)) (with_reducible assumption) (fail)
      go_wp2
      go_roundw
      case rel => exact ⟨i + 1, by omega, by go_num, hb.drew⟩
      case measure => simp [intOf]; omega
    · obtain rfl : i = xs.length := by omega
      go_wp2
      go_ret
      exact ⟨rfl, bel_go hbV hb⟩
theorem bel_rd {w W w' : World} {rb : Nat} (h : Below w.heap.size w W) (hg : W.grownBy w' (some rb)) (hr : w.heap.size ≤ rb) : Below w.heap.size w w' := h.grown hg h.size (fun k hk => by cases hk; exact hr)
theorem wl_72 {n : Int} (h0 : -9223372036854775820 ≤ n) (h1 : n ≤ 9223372036854775820) : (Nm.wl n).length ≤ 200 := by
  have := fits_small (x := n) (by omega) (by omega)
  simpa [Nm.fits] using this
namespace Fd
theorem ab32 {x : Int} (h0 : 0 ≤ x) (h1 : x < 4294967296) : absF 32 x = if x < 2147483648 then x else x - 2147483648 := by
  rw [abs32 h1]; split <;> omega
theorem od32 {x : Int} (h0 : 0 ≤ x) (h1 : x < 4294967296) : ordI 32 x = if x < 2147483648 then x else 2147483648 - 1 - x := by
  have ha := ab32 h0 h1
  unfold ordI
  rw [okF32 h1, if_pos rfl]
  unfold sigB
  rw [ha]
  by_cases h : x < 2147483648
  · rw [if_pos h, if_pos h]; simp
  · rw [if_neg h, if_neg h]
    have : (x != x - 2147483648) = true := by simp; omega
    rw [this, if_pos rfl]; omega
theorem fi32 {x : Int} (h0 : 0 ≤ x) (h1 : x < 4294967296) (hc : cls 32 x = 1 ∨ cls 32 x = 2) : 0 < x % 2147483648 ∧ x % 2147483648 < 2139095040 := by
  rw [cls32 h1] at hc
  unfold clsY at hc
  split at hc
  · omega
  · split at hc
    · omega
    · split at hc
      · omega
      · split at hc
        · omega
        · split at hc <;> omega
theorem cz32 {x : Int} (h0 : 0 ≤ x) (h1 : x < 4294967296) (h : x % 2147483648 ≤ 2139095040) : numB 32 x = true ∧ ((cls 32 x == 0) = decide (x % 2147483648 = 0)) := by
  have hc : cls 32 x = clsY 8388608 2139095040 4194304 (x % 2147483648) := by rw [cls32 h1]
  unfold numB
  rw [hc]
  unfold clsY
  constructor
  · apply decide_eq_true
    split
    · omega
    · split
      · omega
      · split
        · omega
        · split
          · omega
          · omega
  · by_cases h2 : x % 2147483648 = 0
    · rw [if_pos h2, decide_eq_true h2]; rfl
    · rw [if_neg h2, decide_eq_false h2]
      split
      · rfl
      · split
        · rfl
        · split
          · rfl
          · split <;> rfl
theorem up32 {x : Int} (h0 : 0 ≤ x) (h1 : x < 4294967296) (hy : 0 < x % 2147483648 ∧ x % 2147483648 < 2139095040) : upF 32 x = if x < 2147483648 then x + 1 else x - 1 := by
  have ha := ab32 h0 h1
  have hn : nanB 32 x = false := by unfold nanB; apply decide_eq_false; rw [ha]; show ¬ 2139095040 < _; split <;> omega
  have hz : (absF 32 x == 0) = false := by rw [ha]; simp; split <;> omega
  by_cases h : x < 2147483648
  · have hs : sigB 32 x = false := by unfold sigB; rw [ha, if_pos h]; simp
    have hi : (x == infOf 32) = false := by show (x == 2139095040) = false; simp; omega
    rw [up_pos (okF32 h1) hn hz hs hi, if_pos h]
  · have hs : sigB 32 x = true := by unfold sigB; rw [ha, if_neg h]; simp; omega
    rw [up_neg (okF32 h1) hn hz hs, if_neg h]
theorem dn32 {x : Int} (h0 : 0 ≤ x) (h1 : x < 4294967296) (hy : 0 < x % 2147483648 ∧ x % 2147483648 < 2139095040) : downF 32 x = if x < 2147483648 then x - 1 else x + 1 := by
  rw [down_num (cz32 h0 h1 (by omega)).1, neg32 h1]
  by_cases h : x < 2147483648
  · rw [if_pos h, up32 (x := x + 2147483648) (by omega) (by omega) (by omega), if_neg (by omega), neg32 (x := x + 2147483648 - 1) (by omega), if_neg (by omega), if_pos h]; omega
  · rw [if_neg h, up32 (x := x - 2147483648) (by omega) (by omega) (by omega), if_pos (by omega), neg32 (x := x - 2147483648 + 1) (by omega), if_pos (by omega), if_neg h]; omega
/-- All that the law asks of a finite float that is no zero. -/
theorem nx32 {x : Int} (h0 : 0 ≤ x) (h1 : x < 4294967296) (hc : cls 32 x = 1 ∨ cls 32 x = 2) (u d : Int) (hu : u = upF 32 x) (hd : d = downF 32 x) :
    (0 ≤ u ∧ u < 4294967296) ∧ (0 ≤ d ∧ d < 4294967296) ∧ ordI 32 u = ordI 32 x + 1 ∧ ordI 32 d = ordI 32 x - 1 ∧ (-18446744073709551616 < ordI 32 x ∧ -9223372036854775807 < ordI 32 x ∧ ordI 32 x < 9223372036854775807) ∧ cmpF 32 d x = -1 ∧ cmpF 32 x u = -1 ∧ ((cls 32 u == 0) = false → (cls 32 d == 0) = false → upF 32 d = x ∧ downF 32 u = x) := by
  have hy := fi32 h0 h1 hc
  have eu := up32 h0 h1 hy
  have ed := dn32 h0 h1 hy
  rw [← hu] at eu
  rw [← hd] at ed
  have hxz : (cls 32 x == 0) = false := by rcases hc with h | h <;> rw [h] <;> rfl
  have nx := (cz32 h0 h1 (by omega)).1
  have ox := od32 h0 h1
  by_cases h : x < 2147483648
  · rw [if_pos h] at eu ed ox
    have ru : 0 ≤ u ∧ u < 2147483648 := by omega
    have rd : 0 ≤ d ∧ d < 2147483648 := by omega
    have ou := od32 (x := u) (by omega) (by omega)
    have od := od32 (x := d) (by omega) (by omega)
    rw [if_pos (by omega)] at ou od
    have nu := cz32 (x := u) (by omega) (by omega) (by omega)
    have nd := cz32 (x := d) (by omega) (by omega) (by omega)
    refine ⟨by omega, by omega, by omega, by omega, by omega, ?_, ?_, fun q1 q2 => ⟨?_, ?_⟩⟩
    · rw [cmp_else nd.1 nx (by rw [hxz]; simp)]; unfold cmpI; rw [if_pos (by omega)]
    · rw [cmp_else nx nu.1 (by rw [hxz]; simp)]; unfold cmpI; rw [if_pos (by omega)]
    · rw [nd.2] at q2
      have := of_decide_eq_false q2
      rw [up32 (x := d) (by omega) (by omega) (by omega), if_pos (by omega)]; omega
    · by_cases hi : u = 2139095040
      · rw [hi]
        have e : downF 32 2139095040 = 2139095040 - 1 := by decide +kernel
        rw [e]; omega
      · rw [dn32 (x := u) (by omega) (by omega) (by omega), if_pos (by omega)]; omega
  · rw [if_neg h] at eu ed ox
    have ru : 2147483648 ≤ u ∧ u < 4294967296 := by omega
    have rd : 2147483648 ≤ d ∧ d < 4294967296 := by omega
    have ou := od32 (x := u) (by omega) (by omega)
    have od := od32 (x := d) (by omega) (by omega)
    rw [if_neg (by omega)] at ou od
    have nu := cz32 (x := u) (by omega) (by omega) (by omega)
    have nd := cz32 (x := d) (by omega) (by omega) (by omega)
    refine ⟨by omega, by omega, by omega, by omega, by omega, ?_, ?_, fun q1 q2 => ⟨?_, ?_⟩⟩
    · rw [cmp_else nd.1 nx (by rw [hxz]; simp)]; unfold cmpI; rw [if_pos (by omega)]
    · rw [cmp_else nx nu.1 (by rw [hxz]; simp)]; unfold cmpI; rw [if_pos (by omega)]
    · by_cases hi : d = 2147483648 + 2139095040
      · rw [hi]
        have e : upF 32 (2147483648 + 2139095040) = 2147483648 + 2139095040 - 1 := by decide +kernel
        rw [e]; omega
      · rw [up32 (x := d) (by omega) (by omega) (by omega), if_neg (by omega)]; omega
    · rw [nu.2] at q1
      have := of_decide_eq_false q1
      rw [dn32 (x := u) (by omega) (by omega) (by omega), if_neg (by omega)]; omega
theorem ab64 {x : Int} (h0 : 0 ≤ x) (h1 : x < 18446744073709551616) : absF 64 x = if x < 9223372036854775808 then x else x - 9223372036854775808 := by
  rw [abs64]; split <;> omega
theorem od64 {x : Int} (h0 : 0 ≤ x) (h1 : x < 18446744073709551616) : ordI 64 x = if x < 9223372036854775808 then x else 9223372036854775808 - 1 - x := by
  have ha := ab64 h0 h1
  unfold ordI
  rw [okF64, if_pos rfl]
  unfold sigB
  rw [ha]
  by_cases h : x < 9223372036854775808
  · rw [if_pos h, if_pos h]; simp
  · rw [if_neg h, if_neg h]
    have : (x != x - 9223372036854775808) = true := by simp; omega
    rw [this, if_pos rfl]; omega
theorem fi64 {x : Int} (h0 : 0 ≤ x) (h1 : x < 18446744073709551616) (hc : cls 64 x = 1 ∨ cls 64 x = 2) : 0 < x % 9223372036854775808 ∧ x % 9223372036854775808 < 9218868437227405312 := by
  rw [cls64] at hc
  unfold clsY at hc
  split at hc
  · omega
  · split at hc
    · omega
    · split at hc
      · omega
      · split at hc
        · omega
        · split at hc <;> omega
theorem cz64 {x : Int} (h0 : 0 ≤ x) (h1 : x < 18446744073709551616) (h : x % 9223372036854775808 ≤ 9218868437227405312) : numB 64 x = true ∧ ((cls 64 x == 0) = decide (x % 9223372036854775808 = 0)) := by
  have hc : cls 64 x = clsY 4503599627370496 9218868437227405312 2251799813685248 (x % 9223372036854775808) := by rw [cls64]
  unfold numB
  rw [hc]
  unfold clsY
  constructor
  · apply decide_eq_true
    split
    · omega
    · split
      · omega
      · split
        · omega
        · split
          · omega
          · omega
  · by_cases h2 : x % 9223372036854775808 = 0
    · rw [if_pos h2, decide_eq_true h2]; rfl
    · rw [if_neg h2, decide_eq_false h2]
      split
      · rfl
      · split
        · rfl
        · split
          · rfl
          · split <;> rfl
theorem up64 {x : Int} (h0 : 0 ≤ x) (h1 : x < 18446744073709551616) (hy : 0 < x % 9223372036854775808 ∧ x % 9223372036854775808 < 9218868437227405312) : upF 64 x = if x < 9223372036854775808 then x + 1 else x - 1 := by
  have ha := ab64 h0 h1
  have hn : nanB 64 x = false := by unfold nanB; apply decide_eq_false; rw [ha]; show ¬ 9218868437227405312 < _; split <;> omega
  have hz : (absF 64 x == 0) = false := by rw [ha]; simp; split <;> omega
  by_cases h : x < 9223372036854775808
  · have hs : sigB 64 x = false := by unfold sigB; rw [ha, if_pos h]; simp
    have hi : (x == infOf 64) = false := by show (x == 9218868437227405312) = false; simp; omega
    rw [up_pos (okF64) hn hz hs hi, if_pos h]
  · have hs : sigB 64 x = true := by unfold sigB; rw [ha, if_neg h]; simp; omega
    rw [up_neg (okF64) hn hz hs, if_neg h]
theorem dn64 {x : Int} (h0 : 0 ≤ x) (h1 : x < 18446744073709551616) (hy : 0 < x % 9223372036854775808 ∧ x % 9223372036854775808 < 9218868437227405312) : downF 64 x = if x < 9223372036854775808 then x - 1 else x + 1 := by
  rw [down_num (cz64 h0 h1 (by omega)).1, neg64 (x := x)]
  by_cases h : x < 9223372036854775808
  · rw [if_pos h, up64 (x := x + 9223372036854775808) (by omega) (by omega) (by omega), if_neg (by omega), neg64 (x := x + 9223372036854775808 - 1), if_neg (by omega), if_pos h]; omega
  · rw [if_neg h, up64 (x := x - 9223372036854775808) (by omega) (by omega) (by omega), if_pos (by omega), neg64 (x := x - 9223372036854775808 + 1), if_pos (by omega), if_neg h]; omega
/-- All that the law asks of a finite float that is no zero. -/
theorem nx64 {x : Int} (h0 : 0 ≤ x) (h1 : x < 18446744073709551616) (hc : cls 64 x = 1 ∨ cls 64 x = 2) (u d : Int) (hu : u = upF 64 x) (hd : d = downF 64 x) :
    (0 ≤ u ∧ u < 18446744073709551616) ∧ (0 ≤ d ∧ d < 18446744073709551616) ∧ ordI 64 u = ordI 64 x + 1 ∧ ordI 64 d = ordI 64 x - 1 ∧ (-18446744073709551616 < ordI 64 x ∧ -9223372036854775807 < ordI 64 x ∧ ordI 64 x < 9223372036854775807) ∧ cmpF 64 d x = -1 ∧ cmpF 64 x u = -1 ∧ ((cls 64 u == 0) = false → (cls 64 d == 0) = false → upF 64 d = x ∧ downF 64 u = x) := by
  have hy := fi64 h0 h1 hc
  have eu := up64 h0 h1 hy
  have ed := dn64 h0 h1 hy
  rw [← hu] at eu
  rw [← hd] at ed
  have hxz : (cls 64 x == 0) = false := by rcases hc with h | h <;> rw [h] <;> rfl
  have nx := (cz64 h0 h1 (by omega)).1
  have ox := od64 h0 h1
  by_cases h : x < 9223372036854775808
  · rw [if_pos h] at eu ed ox
    have ru : 0 ≤ u ∧ u < 9223372036854775808 := by omega
    have rd : 0 ≤ d ∧ d < 9223372036854775808 := by omega
    have ou := od64 (x := u) (by omega) (by omega)
    have od := od64 (x := d) (by omega) (by omega)
    rw [if_pos (by omega)] at ou od
    have nu := cz64 (x := u) (by omega) (by omega) (by omega)
    have nd := cz64 (x := d) (by omega) (by omega) (by omega)
    refine ⟨by omega, by omega, by omega, by omega, by omega, ?_, ?_, fun q1 q2 => ⟨?_, ?_⟩⟩
    · rw [cmp_else nd.1 nx (by rw [hxz]; simp)]; unfold cmpI; rw [if_pos (by omega)]
    · rw [cmp_else nx nu.1 (by rw [hxz]; simp)]; unfold cmpI; rw [if_pos (by omega)]
    · rw [nd.2] at q2
      have := of_decide_eq_false q2
      rw [up64 (x := d) (by omega) (by omega) (by omega), if_pos (by omega)]; omega
    · by_cases hi : u = 9218868437227405312
      · rw [hi]
        have e : downF 64 9218868437227405312 = 9218868437227405312 - 1 := by decide +kernel
        rw [e]; omega
      · rw [dn64 (x := u) (by omega) (by omega) (by omega), if_pos (by omega)]; omega
  · rw [if_neg h] at eu ed ox
    have ru : 9223372036854775808 ≤ u ∧ u < 18446744073709551616 := by omega
    have rd : 9223372036854775808 ≤ d ∧ d < 18446744073709551616 := by omega
    have ou := od64 (x := u) (by omega) (by omega)
    have od := od64 (x := d) (by omega) (by omega)
    rw [if_neg (by omega)] at ou od
    have nu := cz64 (x := u) (by omega) (by omega) (by omega)
    have nd := cz64 (x := d) (by omega) (by omega) (by omega)
    refine ⟨by omega, by omega, by omega, by omega, by omega, ?_, ?_, fun q1 q2 => ⟨?_, ?_⟩⟩
    · rw [cmp_else nd.1 nx (by rw [hxz]; simp)]; unfold cmpI; rw [if_pos (by omega)]
    · rw [cmp_else nx nu.1 (by rw [hxz]; simp)]; unfold cmpI; rw [if_pos (by omega)]
    · by_cases hi : d = 9223372036854775808 + 9218868437227405312
      · rw [hi]
        have e : upF 64 (9223372036854775808 + 9218868437227405312) = 9223372036854775808 + 9218868437227405312 - 1 := by decide +kernel
        rw [e]; omega
      · rw [up64 (x := d) (by omega) (by omega) (by omega), if_neg (by omega)]; omega
    · rw [nu.2] at q1
      have := of_decide_eq_false q1
      rw [dn64 (x := u) (by omega) (by omega) (by omega), if_neg (by omega)]; omega
theorem wcmp_int {x y : Int} (hx : (Nm.wl x).length ≤ 200) (hy : (Nm.wl y).length ≤ 200) : wcmp (Nm.wn x) (Nm.wn y) (Nm.wl x) (Nm.wl y) = cmpI x y := by
  rw [wcmp_yes (okB_wl hx) (okB_wl hy)]
  unfold Nm.wl Nm.wn
  rw [cmpL_nat, cmpL_nat]
  unfold Nm.cmp2 cmpI
  by_cases h1 : x < 0 <;> by_cases h2 : y < 0 <;> simp only [h1, h2, decide_true, decide_false, Bool.and_true, Bool.and_false, Bool.and_self, if_true, if_false, Bool.false_eq_true] <;> (repeat' split) <;> omega
end Fd
end Go.Proofs.YtmfpfkfohjkcgaaDoor
