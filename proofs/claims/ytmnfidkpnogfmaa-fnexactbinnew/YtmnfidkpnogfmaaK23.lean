/-
  What is needed of TCd, NZ, ShiftD.
-/
import Derived.Test.YtmnfidkpnogfmaaK15
import Derived.Test.YtmnfidkpnogfmaaK19
import Derived.Test.YtmnfidkpnogfmaaK20
set_option maxHeartbeats 16000000
set_option maxRecDepth 1000000
namespace Go.Proofs.Ytmnfidkpnogfmaa
set_option linter.unusedVariables false
set_option linter.unusedSimpArgs false
open Go.RowKit Go.Deep
namespace TCn
theorem bel_rd {w W w' : World} {rb : Nat} (h : Below w.heap.size w W) (hg : W.grownBy w' (some rb)) (hr : w.heap.size ≤ rb) : Below w.heap.size w w' := h.grown hg h.size (fun k hk => by cases hk; exact hr)
theorem big_any (ca : Option Addr) (n cc : Nat) (w : World) (hn : n ≤ 9223372036854775807) (b : Bool) (hb : b = decide (1048576 < n)) :
    Calls Try.prog 24 #[.slice ca n cc] w fun e w' => e = .returned (.bool b) ∧ w' = w := by
  by_cases h : 1048576 < n
  · have HB : Hid (b = true) := hid (by rw [hb]; simpa using h)
    clear hb
    go_enter Try.func24, Try.ntmps24
    go_wp2
    go_ret
    refine ⟨ret_bool ?_, rfl⟩
    rw [HB.out]
    first | rfl | (simp; omega)
  · have HB : Hid (b = false) := hid (by rw [hb]; simpa using h)
    clear hb
    go_enter Try.func24, Try.ntmps24
    go_wp2
    go_ret
    refine ⟨ret_bool ?_, rfl⟩
    rw [HB.out]
    first | rfl | (simp; omega)
theorem four_cell {x y : Int} (w : World) {w' : World} {rb : Nat} {t : TypeId} (hg : (w.alloc (.cells #[.int .i64 x, .int .i64 y, .int .i64 (-9223372036854775808), .int .i64 9223372036854775807] t)).grownBy w' (some rb)) (hne : rb < w.heap.size) (k : Nat) (hk : k < 4) :
    ∃ d : Int, w'.cell? ⟨w.heap.size, k, none⟩ = some (.int .i64 d) := by
  have e := hg.block w.heap.size (by simp) (by simp; omega)
  have h : ∀ j, w'.cell? ⟨w.heap.size, j, none⟩ = (#[.int .i64 x, .int .i64 y, .int .i64 (-9223372036854775808), .int .i64 9223372036854775807] : Array Value)[j]? := fun j => by
    rw [World.cell?_of_block (a := ⟨w.heap.size, j, none⟩) e]
    exact World.cell?_alloc_new w _ _ j
  rw [h k]
  rcases (show k = 0 ∨ k = 1 ∨ k = 2 ∨ k = 3 by omega) with rfl | rfl | rfl | rfl
  · exact ⟨x, rfl⟩
  · exact ⟨y, rfl⟩
  · exact ⟨_, rfl⟩
  · exact ⟨_, rfl⟩
theorem near_any (rb : Nat) (ca : Option Addr) (cc : Nat) (cs : List Int) (lo hi : Int) (w : World) (hr : RD w rb ca cc cs) (h0 : 0 ≤ lo) (h1 : lo ≤ hi) (h2 : hi ≤ 1000000) :
    Calls Try.prog 139 #[.pointer (some ⟨rb, 0, none⟩), .int .i64 lo, .int .i64 hi] w fun e w' => ∃ v : Int, e = .returned (.int .i64 v) ∧ RD w' rb ca cc cs ∧ w.grownBy w' (some rb) := by
  go_enter Try.func139, Try.ntmps139
  go_wp2_with fail
  refine (below_any rb ca cc cs 8 _ hr (by decide) (by decide)).mono ?_
  rintro e w1 ⟨v, rfl, v0, v1, hr1, hg1⟩
  rcases (show v = 0 ∨ v = 1 ∨ 1 < v by omega) with rfl | rfl | hv
  · go_wp2
    go_ret
    exact ⟨_, rfl, hr1, hg1⟩
  · go_wp2
    go_ret
    exact ⟨_, rfl, hr1, hg1⟩
  · have e0 : (v == 0) = false := by simp; omega
    have e1 : (v == 1) = false := by simp; omega
    have e2 : decide (hi < lo) = false := by simp; omega
    have W1 : IntKind.u64.wrap (hi - lo + 1) = hi - lo + 1 := by rw [IntKind.wrap_u64]; omega
    have W2 : (hi - lo + 1 == 0) = false := by simp; omega
    have CW := hid (word_any rb ca cc cs _ hr1)
    go_wp2_with fail
    refine CW.out.mono ?_
    rintro e w2 ⟨u, rfl, u0, u1, hr2, hg2⟩
    go_wp2
    go_ret
    exact ⟨_, rfl, hr2, grown_trans hg1 hg2⟩
theorem off_any (rb : Nat) (ca : Option Addr) (cc : Nat) (cs : List Int) (lo hi : Int) (w : World) (hr : RD w rb ca cc cs) (h0 : 0 ≤ lo) (h1 : lo ≤ hi) (h2 : hi ≤ 1000000) :
    Calls Try.prog 110 #[.pointer (some ⟨rb, 0, none⟩), .int .i64 lo, .int .i64 hi] w fun e w' => ∃ v : Int, e = .returned (.int .i64 v) ∧ RD w' rb ca cc cs ∧ w.grownBy w' (some rb) := by
  go_enter Try.func110, Try.ntmps110
  go_wp2_with fail
  refine (once_any rb ca cc cs 24 _ hr (by decide) (by decide)).mono ?_
  rintro e w1 ⟨v, rfl, hr1, hg1⟩
  cases v
  · go_wp2_with fail
    refine (near_any rb ca cc cs lo hi _ hr1 h0 h1 h2).mono ?_
    rintro e w2 ⟨u, rfl, hr2, hg2⟩
    go_wp2
    go_ret
    exact ⟨_, rfl, hr2, grown_trans hg1 hg2⟩
  · have l1 := hr1.lt
    go_wp2_with fail
    refine (below_any rb ca cc cs 4 _ (hr1.alloc _) (by decide) (by decide)).mono ?_
    rintro e w3 ⟨kz, rfl, k0, k1, hr3, hg3⟩
    obtain ⟨k, rfl⟩ := Int.eq_ofNat_of_zero_le k0
    obtain ⟨d, hd⟩ := four_cell w1 hg3 l1 k (by omega)
    go_wp2
    go_ret
    exact ⟨d, rfl, hr3, grown_trans (grown_alloc hg1 _) hg3⟩
theorem drawNew_any (ca : Option Addr) (cc : Nat) (cs : List Int) (w : World) (hs : Sl .u8 w (.slice ca cs.length cc) cs) (hby : ∀ i, 0 ≤ cs.getD i 0 ∧ cs.getD i 0 ≤ 255) (hl : cs.length ≤ 1048576) :
    Calls Try.prog 73 #[.slice ca cs.length cc] w fun e w' => ∃ n g k : Int, e = .returned (.tuple #[.int .i64 n, .int .i64 g, .int .i64 k]) ∧ Below w.heap.size w w' := by
  go_enter Try.func73, Try.ntmps73
  go_wp2_with fail
  refine (open_any ca cc cs _ hs hby hl).mono ?_
  rintro e w1 ⟨rfl, hr1, hb1⟩
  go_wp2_with fail
  refine (once_any w.heap.size ca cc cs 3 _ hr1 (by decide) (by decide)).mono ?_
  rintro e w2 ⟨v, rfl, hr2, hg2⟩
  have hb2 := bel_rd hb1 hg2 (Nat.le_refl _)
  clear hr1 hg2 hb1
  cases v
  · go_wp2_with fail
    refine (below_any w.heap.size ca cc cs 50 _ hr2 (by decide) (by decide)).mono ?_
    rintro e w3 ⟨u, rfl, u0, u1, hr3, hg3⟩
    have hb3 := bel_rd hb2 hg3 (Nat.le_refl _)
    go_wp2_with fail
    refine (below_any w.heap.size ca cc cs 9 _ hr3 (by decide) (by decide)).mono ?_
    rintro e w4 ⟨u', rfl, u0', u1', hr4, hg4⟩
    have hb4 := bel_rd hb3 hg4 (Nat.le_refl _)
    go_wp2_with fail
    refine (below_any w.heap.size ca cc cs 9 _ hr4 (by decide) (by decide)).mono ?_
    rintro e w5 ⟨u'', rfl, u0'', u1'', hr5, hg5⟩
    have hb5 := bel_rd hb4 hg5 (Nat.le_refl _)
    go_wp2
    go_ret3
    exact ⟨_, _, _, rfl, hb5⟩
  · go_wp2_with fail
    refine (off_any w.heap.size ca cc cs 0 300 _ hr2 (by decide) (by decide) (by decide)).mono ?_
    rintro e w3 ⟨u, rfl, hr3, hg3⟩
    have hb3 := bel_rd hb2 hg3 (Nat.le_refl _)
    go_wp2_with fail
    refine (off_any w.heap.size ca cc cs 1 300 _ hr3 (by decide) (by decide) (by decide)).mono ?_
    rintro e w4 ⟨u', rfl, hr4, hg4⟩
    have hb4 := bel_rd hb3 hg4 (Nat.le_refl _)
    go_wp2_with fail
    refine (off_any w.heap.size ca cc cs 1 16 _ hr4 (by decide) (by decide) (by decide)).mono ?_
    rintro e w5 ⟨u'', rfl, hr5, hg5⟩
    have hb5 := bel_rd hb4 hg5 (Nat.le_refl _)
    go_wp2
    go_ret3
    exact ⟨_, _, _, rfl, hb5⟩
end TCn
namespace Fd
theorem near_z (rb : Nat) (ca : Option Addr) (cc : Nat) (cs : List Int) (lo hi : Int) (w : World) (hr : RD w rb ca cc cs) (h0 : -1000000 ≤ lo) (h1 : lo ≤ hi) (h2 : hi ≤ 1000000) :
    Calls Try.prog 139 #[.pointer (some ⟨rb, 0, none⟩), .int .i64 lo, .int .i64 hi] w fun e w' => ∃ v : Int, e = .returned (.int .i64 v) ∧ RD w' rb ca cc cs ∧ w.grownBy w' (some rb) := by
  go_enter Try.func139, Try.ntmps139
  go_wp2_with fail
  refine (below_any rb ca cc cs 8 _ hr (by decide) (by decide)).mono ?_
  rintro e w1 ⟨v, rfl, v0, v1, hr1, hg1⟩
  rcases (show v = 0 ∨ v = 1 ∨ 1 < v by omega) with rfl | rfl | hv
  · go_wp2
    go_ret
    exact ⟨_, rfl, hr1, hg1⟩
  · go_wp2
    go_ret
    exact ⟨_, rfl, hr1, hg1⟩
  · have e0 : (v == 0) = false := by simp; omega
    have e1 : (v == 1) = false := by simp; omega
    have e2 : decide (hi < lo) = false := by simp; omega
    have W1 : IntKind.u64.wrap (hi - lo + 1) = hi - lo + 1 := by rw [IntKind.wrap_u64]; omega
    have W2 : (hi - lo + 1 == 0) = false := by simp; omega
    have CW := hid (word_any rb ca cc cs _ hr1)
    go_wp2_with fail
    refine CW.out.mono ?_
    rintro e w2 ⟨u, rfl, u0, u1, hr2, hg2⟩
    go_wp2
    go_ret
    exact ⟨_, rfl, hr2, grown_trans hg1 hg2⟩
theorem off_z (rb : Nat) (ca : Option Addr) (cc : Nat) (cs : List Int) (lo hi : Int) (w : World) (hr : RD w rb ca cc cs) (h0 : -1000000 ≤ lo) (h1 : lo ≤ hi) (h2 : hi ≤ 1000000) :
    Calls Try.prog 110 #[.pointer (some ⟨rb, 0, none⟩), .int .i64 lo, .int .i64 hi] w fun e w' => ∃ v : Int, e = .returned (.int .i64 v) ∧ RD w' rb ca cc cs ∧ w.grownBy w' (some rb) := by
  go_enter Try.func110, Try.ntmps110
  go_wp2_with fail
  refine (once_any rb ca cc cs 24 _ hr (by decide) (by decide)).mono ?_
  rintro e w1 ⟨v, rfl, hr1, hg1⟩
  cases v
  · go_wp2_with fail
    refine (near_z rb ca cc cs lo hi _ hr1 h0 h1 h2).mono ?_
    rintro e w2 ⟨u, rfl, hr2, hg2⟩
    go_wp2
    go_ret
    exact ⟨_, rfl, hr2, grown_trans hg1 hg2⟩
  · have l1 := hr1.lt
    go_wp2_with fail
    refine (below_any rb ca cc cs 4 _ (hr1.alloc _) (by decide) (by decide)).mono ?_
    rintro e w3 ⟨kz, rfl, k0, k1, hr3, hg3⟩
    obtain ⟨k, rfl⟩ := Int.eq_ofNat_of_zero_le k0
    obtain ⟨d, hd⟩ := TCn.four_cell w1 hg3 l1 k (by omega)
    go_wp2
    go_ret
    exact ⟨d, rfl, hr3, grown_trans (grown_alloc hg1 _) hg3⟩
end Fd
theorem parts32 (n : Int) (h : 0 ≤ n) (h1 : n ≤ 1000000) : ∃ wh r : Nat, n / 32 = (wh : Int) ∧ n % 32 = (r : Int) ∧ wh ≤ 400000 ∧ r < 32 :=
  ⟨(n / 32).toNat, (n % 32).toNat, by omega, by omega, by omega, by omega⟩
theorem l1shift_any (ng : Bool) (a : Option Addr) (cap : Nat) (xs : List Int) (n : Int) (w : World) (hx : Sl .u32 w (.slice a xs.length cap) xs) (dx : Nm.Dg xs) (hl : xs.length ≤ 400000) (h0 : -1000000 ≤ n) (h1 : n ≤ 1000000) (v : Int) (hv : v = Nm.shV ng (Nm.val xs) n) :
    Calls Try.prog 114 #[.agg #[.bool ng, .slice a xs.length cap], .int .i64 n] w fun e w' => ∃ a' c', e = .returned (.agg #[.bool (Nm.wn v), .slice a' (Nm.wl v).length c']) ∧ Own w' w.heap.size a' c' (Nm.wl v) ∧ Below w.heap.size w w' := by
  by_cases hn : 0 ≤ n
  · obtain ⟨wh, r, hq, hm, hw, hr⟩ := parts32 n hn h1
    exact l1up_any ng a cap xs n wh r w hx dx hl hw hr hn h1 hq hm v (fun os h => by rw [hv]; exact Nm.shV_wv (h.trans (Nm.shM_up hn hq hm)))
  · obtain ⟨m, rfl⟩ : ∃ m, n = -m := ⟨-n, by omega⟩
    obtain ⟨wh, r, hq, hm, hw, hr⟩ := parts32 m (by omega) (by omega)
    have hd : Nm.val (Nm.sd ((2 : Int) ^ r) (xs.drop wh)) = Nm.shM (Nm.val xs) (-m) := (sd_drop_val dx wh r hr).trans (Nm.shM_down (by omega) (by rw [Int.neg_neg]; exact hq) (by rw [Int.neg_neg]; exact hm))
    by_cases hc : xs.length ≤ wh
    · have hz : Nm.shV ng (Nm.val xs) (-m) = 0 := by
        rw [List.drop_eq_nil_of_le hc] at hd
        unfold Nm.shV; rw [← hd]; simp [Nm.sd, Nm.val]
      rw [hv, hz]
      have e1 : Nm.wl 0 = [] := Nm.lim_zero
      have e2 : Nm.wn 0 = false := by decide
      rw [e1, e2]
      exact (l1down_no ng a cap xs m wh w hx hl hw (by omega) (by omega) hq hc).mono fun e w' ⟨he, hb⟩ => ⟨none, 0, by rw [he]; rfl, Own.nil _ _, hb⟩
    · exact l1down_yes ng a cap xs m wh r w hx dx hl hw hr (by omega) (by omega) hq hm hc v (by rw [hv]; exact Nm.shV_wv hd)
/-- Whether a number lies between two. -/
def inZ (n lo hi : Int) : Bool := decide (lo ≤ n) && decide (n ≤ hi)
theorem in_any (n lo hi : Int) (w : World) :
    Calls Try.prog 87 #[.int .i64 n, .int .i64 lo, .int .i64 hi] w fun e w' => e = .returned (.bool (inZ n lo hi)) ∧ w' = w := by
  by_cases h1 : lo ≤ n
  · by_cases h2 : n ≤ hi
    · have HR : Hid (inZ n lo hi = true) := hid (by simp [inZ, h1, h2])
      go_enter Try.func87, Try.ntmps87
      go_wp2
      go_ret
      exact ⟨ret_bool HR.out.symm, rfl⟩
    · have HR : Hid (inZ n lo hi = false) := hid (by simp [inZ, h1, h2])
      go_enter Try.func87, Try.ntmps87
      go_wp2
      go_ret
      exact ⟨ret_bool HR.out.symm, rfl⟩
  · have HR : Hid (inZ n lo hi = false) := hid (by simp [inZ, h1])
    go_enter Try.func87, Try.ntmps87
    go_wp2
    go_ret
    exact ⟨ret_bool HR.out.symm, rfl⟩
theorem inZ_yes {n lo hi : Int} (h : inZ n lo hi = true) : lo ≤ n ∧ n ≤ hi := by simpa [inZ] using h
theorem wsh_spec_no (ng : Bool) (a : Option Addr) (cap : Nat) (xs : List Int) (n : Int) (w : World) (hx : Sl .u32 w (.slice a xs.length cap) xs) (hl : xs.length ≤ 1048576) (hk : (okB ng xs && inZ n (-10000) 10000) = false) :
    Calls Try.prog 55 #[.agg #[.bool ng, .slice a xs.length cap], .int .i64 n] w fun e w' => e = .returned (.tuple #[.agg #[.bool false, .slice none 0 0], .bool false]) ∧ Below w.heap.size w w' := by
  have sx := (hx.alloc (.cells #[.bool ng, .slice a xs.length cap] 65)).alloc (.cells #[.bool false, .slice none 0 0] 65)
  have Rz := R2.new2 w (.cells #[.bool ng, .slice a xs.length cap] 65) (.bool false) (.slice none 0 0) 65
  cases h1 : okB ng xs
  · clear hk
    go_enter Try.func55, Try.ntmps55
    go_wp2_with fail
    refine (ok_spec ng a cap xs _ sx (by omega)).mono ?_
    rintro e w1 ⟨rfl, hb1⟩
    obtain ⟨z0, z1, zf0, zf1⟩ := Rz.below hb1
    go_wp2
    exact bodyPost_ret (v := .tuple #[.agg #[.bool false, .slice none 0 0], .bool false]) (by simp [results, Try.results55, go_sem, z0, z1]) rfl ⟨rfl, (by repeat (first | exact bz0 _ _ | refine bz1 ?_ | refine bz2 ?_ _ | refine bz3 ?_ _ | refine bz4 ?_ hb1 | refine bz5 ?_ _ | refine bz6 ?_ _ | refine bz7 ?_ hb1))⟩
  · have h2 : inZ n (-10000) 10000 = false := by rw [h1] at hk; simpa using hk
    clear hk
    go_enter Try.func55, Try.ntmps55
    go_wp2_with fail
    refine (ok_spec ng a cap xs _ sx (by omega)).mono ?_
    rintro e w1 ⟨rfl, hb1⟩
    obtain ⟨z0, z1, zf0, zf1⟩ := Rz.below hb1
    go_wp2_with fail
    refine (in_any n (-10000) 10000 _).mono ?_
    rintro e w2 ⟨rfl, rfl⟩
    go_wp2
    exact bodyPost_ret (v := .tuple #[.agg #[.bool false, .slice none 0 0], .bool false]) (by simp [results, Try.results55, go_sem, z0, z1]) rfl ⟨rfl, (by repeat (first | exact bz0 _ _ | refine bz1 ?_ | refine bz2 ?_ _ | refine bz3 ?_ _ | refine bz4 ?_ hb1 | refine bz5 ?_ _ | refine bz6 ?_ _ | refine bz7 ?_ hb1))⟩
theorem wsh_spec_ok (ng : Bool) (a : Option Addr) (cap : Nat) (xs : List Int) (n : Int) (w : World) (hx : Sl .u32 w (.slice a xs.length cap) xs) (dx : Nm.Dg xs) (h1 : okB ng xs = true) (h2 : inZ n (-10000) 10000 = true) (x : Int) (hv : x = Nm.shV ng (Nm.val xs) n) :
    Calls Try.prog 55 #[.agg #[.bool ng, .slice a xs.length cap], .int .i64 n] w fun e w' => ∃ a' c', e = .returned (.tuple #[.agg #[.bool (Nm.outN x), .slice a' (Nm.outL x).length c'], .bool (Nm.fits x)]) ∧ Own w' w.heap.size a' c' (Nm.outL x) ∧ Below w.heap.size w w' := by
  have sx := (hx.alloc (.cells #[.bool ng, .slice a xs.length cap] 65)).alloc (.cells #[.bool false, .slice none 0 0] 65)
  have Rz := R2.new2 w (.cells #[.bool ng, .slice a xs.length cap] 65) (.bool false) (.slice none 0 0) 65
  have Bx := (Box.new w (.bool ng) (.slice a xs.length cap) 65).alloc (.cells #[.bool false, .slice none 0 0] 65)
  obtain ⟨nx, lx⟩ := okB_nz h1
  obtain ⟨r0, r1⟩ := inZ_yes h2
  have hlen : (Nm.wl x).length ≤ 1048576 := by
    have h := val_200 dx lx
    have := Nm.sh_len (n := n) ng h.1 h.2 r1
    rw [← hv] at this
    omega
  have HV := hid hv
  clear hv
  go_enter Try.func55, Try.ntmps55
  go_wp2_with fail
  refine (ok_spec ng a cap xs _ sx (by omega)).mono ?_
  rintro e w1 ⟨rfl, hb1⟩
  replace sx := sx.below hb1
  replace Rz := Rz.below hb1
  obtain ⟨x0, x1⟩ := Bx.below hb1
  go_wp2_with fail
  refine (in_any n (-10000) 10000 _).mono ?_
  rintro e w2 ⟨rfl, rfl⟩
  go_wp2_with fail
  refine (l1shift_any ng a cap xs n _ sx dx (by omega) (by omega) (by omega) x HV.out).mono ?_
  rintro e w3 ⟨a3, c3, rfl, ho3, hb3⟩
  have Rz3 := Rz.below hb3
  have lW : w.heap.size + 1 < w2.heap.size := World.block_lt_of_cell? w2 _ Rz.c0
  have l3 : w2.heap.size ≤ w3.heap.size := hb3.size
  go_wp2_with fail
  refine (fits_any x _ rfl a3 c3 _ rfl w2.heap.size _ ho3 hlen).mono ?_
  rintro e w4 ⟨a4, c4, rfl, ho4, hb4⟩
  obtain ⟨z0, z1, zf0, zf1⟩ := Rz3.below hb4
  have l4 : w3.heap.size ≤ w4.heap.size := hb4.size
  go_wp2
  refine bodyPost_ret (v := .tuple #[.agg #[.bool (Nm.outN x), .slice a4 (Nm.outL x).length c4], .bool (Nm.fits x)]) (by simp [results, Try.results55, go_sem, z0, z1]) rfl ⟨a4, c4, rfl, ?_, (by repeat (first | exact bz0 _ _ | refine bz1 ?_ | refine bz2 ?_ _ | refine bz3 ?_ _ | refine bz4 ?_ hb4 | refine bz4 ?_ hb3 | refine bz4 ?_ hb1 | refine bz5 ?_ _ | refine bz6 ?_ _ | refine bz7 ?_ hb4 | refine bz7 ?_ hb3 | refine bz7 ?_ hb1))⟩
  exact Own.base ((ho4.setBelow (by simp; omega) _).setBelow (by simp; omega) _) (by omega)
theorem wsh_spec (ng : Bool) (a : Option Addr) (cap : Nat) (xs : List Int) (n : Int) (w : World) (hx : Sl .u32 w (.slice a xs.length cap) xs) (dx : Nm.Dg xs) (hl : xs.length ≤ 1048576) :
    Calls Try.prog 55 #[.agg #[.bool ng, .slice a xs.length cap], .int .i64 n] w fun e w' => ∃ a' c', e = .returned (.tuple #[.agg #[.bool (opN (okB ng xs && inZ n (-10000) 10000) (Nm.shV ng (Nm.val xs) n)), .slice a' (opL (okB ng xs && inZ n (-10000) 10000) (Nm.shV ng (Nm.val xs) n)).length c'], .bool (opO (okB ng xs && inZ n (-10000) 10000) (Nm.shV ng (Nm.val xs) n))]) ∧ Own w' w.heap.size a' c' (opL (okB ng xs && inZ n (-10000) 10000) (Nm.shV ng (Nm.val xs) n)) ∧ Below w.heap.size w w' := by
  cases hk : (okB ng xs && inZ n (-10000) 10000)
  · exact (wsh_spec_no ng a cap xs n w hx hl hk).mono fun e w' ⟨he, hb⟩ => ⟨none, 0, by rw [he]; rfl, Own.nil _ _, hb⟩
  · have h1 : okB ng xs = true := by cases h : okB ng xs <;> simp_all
    have h2 : inZ n (-10000) 10000 = true := by rw [h1] at hk; simpa using hk
    exact wsh_spec_ok ng a cap xs n w hx dx h1 h2 _ rfl
end Go.Proofs.Ytmnfidkpnogfmaa
