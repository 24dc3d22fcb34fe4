/-
  What is needed of TCd, NZ, PAddB.
-/
import Derived.Test.YtmnfidkpnogfmaaK22
import Derived.Test.YtmnfidkpnogfmaaK25
set_option maxHeartbeats 16000000
set_option maxRecDepth 1000000
namespace Go.Proofs.Ytmnfidkpnogfmaa
set_option linter.unusedVariables false
set_option linter.unusedSimpArgs false
open Go.RowKit Go.Deep
namespace TCn
theorem bel_rd {w W w' : World} {rb : Nat} (h : Below w.heap.size w W) (hg : W.grownBy w' (some rb)) (hr : w.heap.size ≤ rb) : Below w.heap.size w w' := h.grown hg h.size (fun k hk => by cases hk; exact hr)
theorem big_any (ca : Option Addr) (n cc : Nat) (w : World) (hn : n ≤ 9223372036854775807) (b : Bool) (hb : b = decide (1048576 < n)) :
    Calls Try.prog 24 #[.slice ca n cc] w fun e w' => e = .returned (.bool b) ∧ w' = w := by
  by_cases h : 1048576 < n
  · have HB : Hid (b = true) := hid (by rw [hb]; simpa using h)
    clear hb
    go_enter Try.func24, Try.ntmps24
    go_wp2
    go_ret
    refine ⟨ret_bool ?_, rfl⟩
    rw [HB.out]
    first | rfl | (simp; omega)
  · have HB : Hid (b = false) := hid (by rw [hb]; simpa using h)
    clear hb
    go_enter Try.func24, Try.ntmps24
    go_wp2
    go_ret
    refine ⟨ret_bool ?_, rfl⟩
    rw [HB.out]
    first | rfl | (simp; omega)
theorem four_cell {x y : Int} (w : World) {w' : World} {rb : Nat} {t : TypeId} (hg : (w.alloc (.cells #[.int .i64 x, .int .i64 y, .int .i64 (-9223372036854775808), .int .i64 9223372036854775807] t)).grownBy w' (some rb)) (hne : rb < w.heap.size) (k : Nat) (hk : k < 4) :
    ∃ d : Int, w'.cell? ⟨w.heap.size, k, none⟩ = some (.int .i64 d) := by
  have e := hg.block w.heap.size (by simp) (by simp; omega)
  have h : ∀ j, w'.cell? ⟨w.heap.size, j, none⟩ = (#[.int .i64 x, .int .i64 y, .int .i64 (-9223372036854775808), .int .i64 9223372036854775807] : Array Value)[j]? := fun j => by
    rw [World.cell?_of_block (a := ⟨w.heap.size, j, none⟩) e]
    exact World.cell?_alloc_new w _ _ j
  rw [h k]
  rcases (show k = 0 ∨ k = 1 ∨ k = 2 ∨ k = 3 by omega) with rfl | rfl | rfl | rfl
  · exact ⟨x, rfl⟩
  · exact ⟨y, rfl⟩
  · exact ⟨_, rfl⟩
  · exact ⟨_, rfl⟩
theorem near_any (rb : Nat) (ca : Option Addr) (cc : Nat) (cs : List Int) (lo hi : Int) (w : World) (hr : RD w rb ca cc cs) (h0 : 0 ≤ lo) (h1 : lo ≤ hi) (h2 : hi ≤ 1000000) :
    Calls Try.prog 139 #[.pointer (some ⟨rb, 0, none⟩), .int .i64 lo, .int .i64 hi] w fun e w' => ∃ v : Int, e = .returned (.int .i64 v) ∧ RD w' rb ca cc cs ∧ w.grownBy w' (some rb) := by
  go_enter Try.func139, Try.ntmps139
  go_wp2_with fail
  refine (below_any rb ca cc cs 8 _ hr (by decide) (by decide)).mono ?_
  rintro e w1 ⟨v, rfl, v0, v1, hr1, hg1⟩
  rcases (show v = 0 ∨ v = 1 ∨ 1 < v by omega) with rfl | rfl | hv
  · go_wp2
    go_ret
    exact ⟨_, rfl, hr1, hg1⟩
  · go_wp2
    go_ret
    exact ⟨_, rfl, hr1, hg1⟩
  · have e0 : (v == 0) = false := by simp; omega
    have e1 : (v == 1) = false := by simp; omega
    have e2 : decide (hi < lo) = false := by simp; omega
    have W1 : IntKind.u64.wrap (hi - lo + 1) = hi - lo + 1 := by rw [IntKind.wrap_u64]; omega
    have W2 : (hi - lo + 1 == 0) = false := by simp; omega
    have CW := hid (word_any rb ca cc cs _ hr1)
    go_wp2_with fail
    refine CW.out.mono ?_
    rintro e w2 ⟨u, rfl, u0, u1, hr2, hg2⟩
    go_wp2
    go_ret
    exact ⟨_, rfl, hr2, grown_trans hg1 hg2⟩
theorem off_any (rb : Nat) (ca : Option Addr) (cc : Nat) (cs : List Int) (lo hi : Int) (w : World) (hr : RD w rb ca cc cs) (h0 : 0 ≤ lo) (h1 : lo ≤ hi) (h2 : hi ≤ 1000000) :
    Calls Try.prog 110 #[.pointer (some ⟨rb, 0, none⟩), .int .i64 lo, .int .i64 hi] w fun e w' => ∃ v : Int, e = .returned (.int .i64 v) ∧ RD w' rb ca cc cs ∧ w.grownBy w' (some rb) := by
  go_enter Try.func110, Try.ntmps110
  go_wp2_with fail
  refine (once_any rb ca cc cs 24 _ hr (by decide) (by decide)).mono ?_
  rintro e w1 ⟨v, rfl, hr1, hg1⟩
  cases v
  · go_wp2_with fail
    refine (near_any rb ca cc cs lo hi _ hr1 h0 h1 h2).mono ?_
    rintro e w2 ⟨u, rfl, hr2, hg2⟩
    go_wp2
    go_ret
    exact ⟨_, rfl, hr2, grown_trans hg1 hg2⟩
  · have l1 := hr1.lt
    go_wp2_with fail
    refine (below_any rb ca cc cs 4 _ (hr1.alloc _) (by decide) (by decide)).mono ?_
    rintro e w3 ⟨kz, rfl, k0, k1, hr3, hg3⟩
    obtain ⟨k, rfl⟩ := Int.eq_ofNat_of_zero_le k0
    obtain ⟨d, hd⟩ := four_cell w1 hg3 l1 k (by omega)
    go_wp2
    go_ret
    exact ⟨d, rfl, hr3, grown_trans (grown_alloc hg1 _) hg3⟩
theorem drawNew_any (ca : Option Addr) (cc : Nat) (cs : List Int) (w : World) (hs : Sl .u8 w (.slice ca cs.length cc) cs) (hby : ∀ i, 0 ≤ cs.getD i 0 ∧ cs.getD i 0 ≤ 255) (hl : cs.length ≤ 1048576) :
    Calls Try.prog 73 #[.slice ca cs.length cc] w fun e w' => ∃ n g k : Int, e = .returned (.tuple #[.int .i64 n, .int .i64 g, .int .i64 k]) ∧ Below w.heap.size w w' := by
  go_enter Try.func73, Try.ntmps73
  go_wp2_with fail
  refine (open_any ca cc cs _ hs hby hl).mono ?_
  rintro e w1 ⟨rfl, hr1, hb1⟩
  go_wp2_with fail
  refine (once_any w.heap.size ca cc cs 3 _ hr1 (by decide) (by decide)).mono ?_
  rintro e w2 ⟨v, rfl, hr2, hg2⟩
  have hb2 := bel_rd hb1 hg2 (Nat.le_refl _)
  clear hr1 hg2 hb1
  cases v
  · go_wp2_with fail
    refine (below_any w.heap.size ca cc cs 50 _ hr2 (by decide) (by decide)).mono ?_
    rintro e w3 ⟨u, rfl, u0, u1, hr3, hg3⟩
    have hb3 := bel_rd hb2 hg3 (Nat.le_refl _)
    go_wp2_with fail
    refine (below_any w.heap.size ca cc cs 9 _ hr3 (by decide) (by decide)).mono ?_
    rintro e w4 ⟨u', rfl, u0', u1', hr4, hg4⟩
    have hb4 := bel_rd hb3 hg4 (Nat.le_refl _)
    go_wp2_with fail
    refine (below_any w.heap.size ca cc cs 9 _ hr4 (by decide) (by decide)).mono ?_
    rintro e w5 ⟨u'', rfl, u0'', u1'', hr5, hg5⟩
    have hb5 := bel_rd hb4 hg5 (Nat.le_refl _)
    go_wp2
    go_ret3
    exact ⟨_, _, _, rfl, hb5⟩
  · go_wp2_with fail
    refine (off_any w.heap.size ca cc cs 0 300 _ hr2 (by decide) (by decide) (by decide)).mono ?_
    rintro e w3 ⟨u, rfl, hr3, hg3⟩
    have hb3 := bel_rd hb2 hg3 (Nat.le_refl _)
    go_wp2_with fail
    refine (off_any w.heap.size ca cc cs 1 300 _ hr3 (by decide) (by decide) (by decide)).mono ?_
    rintro e w4 ⟨u', rfl, hr4, hg4⟩
    have hb4 := bel_rd hb3 hg4 (Nat.le_refl _)
    go_wp2_with fail
    refine (off_any w.heap.size ca cc cs 1 16 _ hr4 (by decide) (by decide) (by decide)).mono ?_
    rintro e w5 ⟨u'', rfl, hr5, hg5⟩
    have hb5 := bel_rd hb4 hg5 (Nat.le_refl _)
    go_wp2
    go_ret3
    exact ⟨_, _, _, rfl, hb5⟩
end TCn
namespace Fd
theorem near_z (rb : Nat) (ca : Option Addr) (cc : Nat) (cs : List Int) (lo hi : Int) (w : World) (hr : RD w rb ca cc cs) (h0 : -1000000 ≤ lo) (h1 : lo ≤ hi) (h2 : hi ≤ 1000000) :
    Calls Try.prog 139 #[.pointer (some ⟨rb, 0, none⟩), .int .i64 lo, .int .i64 hi] w fun e w' => ∃ v : Int, e = .returned (.int .i64 v) ∧ RD w' rb ca cc cs ∧ w.grownBy w' (some rb) := by
  go_enter Try.func139, Try.ntmps139
  go_wp2_with fail
  refine (below_any rb ca cc cs 8 _ hr (by decide) (by decide)).mono ?_
  rintro e w1 ⟨v, rfl, v0, v1, hr1, hg1⟩
  rcases (show v = 0 ∨ v = 1 ∨ 1 < v by omega) with rfl | rfl | hv
  · go_wp2
    go_ret
    exact ⟨_, rfl, hr1, hg1⟩
  · go_wp2
    go_ret
    exact ⟨_, rfl, hr1, hg1⟩
  · have e0 : (v == 0) = false := by simp; omega
    have e1 : (v == 1) = false := by simp; omega
    have e2 : decide (hi < lo) = false := by simp; omega
    have W1 : IntKind.u64.wrap (hi - lo + 1) = hi - lo + 1 := by rw [IntKind.wrap_u64]; omega
    have W2 : (hi - lo + 1 == 0) = false := by simp; omega
    have CW := hid (word_any rb ca cc cs _ hr1)
    go_wp2_with fail
    refine CW.out.mono ?_
    rintro e w2 ⟨u, rfl, u0, u1, hr2, hg2⟩
    go_wp2
    go_ret
    exact ⟨_, rfl, hr2, grown_trans hg1 hg2⟩
theorem off_z (rb : Nat) (ca : Option Addr) (cc : Nat) (cs : List Int) (lo hi : Int) (w : World) (hr : RD w rb ca cc cs) (h0 : -1000000 ≤ lo) (h1 : lo ≤ hi) (h2 : hi ≤ 1000000) :
    Calls Try.prog 110 #[.pointer (some ⟨rb, 0, none⟩), .int .i64 lo, .int .i64 hi] w fun e w' => ∃ v : Int, e = .returned (.int .i64 v) ∧ RD w' rb ca cc cs ∧ w.grownBy w' (some rb) := by
  go_enter Try.func110, Try.ntmps110
  go_wp2_with fail
  refine (once_any rb ca cc cs 24 _ hr (by decide) (by decide)).mono ?_
  rintro e w1 ⟨v, rfl, hr1, hg1⟩
  cases v
  · go_wp2_with fail
    refine (near_z rb ca cc cs lo hi _ hr1 h0 h1 h2).mono ?_
    rintro e w2 ⟨u, rfl, hr2, hg2⟩
    go_wp2
    go_ret
    exact ⟨_, rfl, hr2, grown_trans hg1 hg2⟩
  · have l1 := hr1.lt
    go_wp2_with fail
    refine (below_any rb ca cc cs 4 _ (hr1.alloc _) (by decide) (by decide)).mono ?_
    rintro e w3 ⟨kz, rfl, k0, k1, hr3, hg3⟩
    obtain ⟨k, rfl⟩ := Int.eq_ofNat_of_zero_le k0
    obtain ⟨d, hd⟩ := TCn.four_cell w1 hg3 l1 k (by omega)
    go_wp2
    go_ret
    exact ⟨d, rfl, hr3, grown_trans (grown_alloc hg1 _) hg3⟩
end Fd
namespace PAdd
theorem opO_yes {ok : Bool} {x : Int} (h : opO ok x = true) : ok = true ∧ Nm.fits x = true ∧ opL ok x = Nm.wl x ∧ opN ok x = Nm.wn x := by
  unfold opO at h
  cases ok
  · simp at h
  · have hf : Nm.fits x = true := by simpa using h
    obtain ⟨h1, h2⟩ := out_fits hf
    exact ⟨rfl, hf, h1, h2⟩
/-- A right wide is the wide of its value. -/
theorem ok_is {ng : Bool} {zs : List Int} (hd : Nm.Dg zs) (h : okB ng zs = true) : Nm.wn (Nm.wv ng zs) = ng ∧ Nm.wl (Nm.wv ng zs) = zs := by
  obtain ⟨h1, h2⟩ := okB_nz h
  rw [Nm.wn_wv ng hd, Nm.wl_wv ng hd, Nm.trim_eq hd h1]
  refine ⟨?_, rfl⟩
  by_cases h0 : zs.length = 0
  · unfold okB at h
    rw [if_pos h0] at h
    rw [decide_eq_true h0]
    cases ng <;> simp at h ⊢
  · rw [decide_eq_false h0]; simp
/-- What fits is a right wide. -/
theorem ok_out {x : Int} (h : Nm.fits x = true) : okB (Nm.wn x) (Nm.wl x) = true := by
  have hl : (Nm.wl x).length ≤ 200 := by simpa [Nm.fits] using h
  unfold okB
  split
  · rename_i h0
    have hx : x.natAbs = 0 := (Nm.lim_length_zero _).1 h0
    have : x = 0 := by omega
    subst this; decide
  · rename_i h0
    have hz := Nm.wl_nz x
    simp only [decide_eq_true hl, Bool.true_and, Bool.not_eq_true', decide_eq_false_iff_not]
    intro e
    have hlt : (Nm.wl x).length - 1 < (Nm.wl x).length := by omega
    refine hz ((Nm.wl x).getD ((Nm.wl x).length - 1) 0) ?_ e
    rw [List.getLast?_eq_getElem?, List.getD_eq_getElem?_getD, List.getElem?_eq_getElem hlt]; rfl
theorem wv_not (ng : Bool) (zs : List Int) : Nm.wv (!ng) zs = - Nm.wv ng zs := by unfold Nm.wv; cases ng <;> simp
/-- 0 less a right wide. -/
theorem neg_is {ng : Bool} {zs : List Int} (hd : Nm.Dg zs) (h : okB ng zs = true) : negN ng zs = Nm.wn (- Nm.wv ng zs) ∧ negL ng zs = Nm.wl (- Nm.wv ng zs) ∧ Nm.fits (- Nm.wv ng zs) = true := by
  have hf := ok_fits hd h (!ng)
  rw [wv_not] at hf
  unfold negN negL
  rw [h, wv_not]
  exact ⟨rfl, rfl, hf⟩
theorem fin (na nb : Bool) (xs ys : List Int) (dx : Nm.Dg xs) (dy : Nm.Dg ys) (hO : opO (okB na xs && okB nb ys) (Nm.wv na xs + Nm.wv nb ys) = true) :
    ∀ (G : Bool) (L : List Int), G = opN (okB na xs && okB nb ys) (Nm.wv na xs + Nm.wv nb ys) → L = opL (okB na xs && okB nb ys) (Nm.wv na xs + Nm.wv nb ys) →
    opO (okB G L && okB (negN nb ys) (negL nb ys)) (Nm.wv G L + Nm.wv (negN nb ys) (negL nb ys)) = true ∧ opN (okB G L && okB (negN nb ys) (negL nb ys)) (Nm.wv G L + Nm.wv (negN nb ys) (negL nb ys)) = na ∧ opL (okB G L && okB (negN nb ys) (negL nb ys)) (Nm.wv G L + Nm.wv (negN nb ys) (negL nb ys)) = xs ∧ okB G L = true ∧ negN (negN na xs) (negL na xs) = na ∧ negL (negN na xs) (negL na xs) = xs := by
  intro G L hG hL
  obtain ⟨hk, hf, h1, h2⟩ := opO_yes hO
  have ka : okB na xs = true := by cases h : okB na xs <;> simp_all
  have kb : okB nb ys = true := by rw [ka] at hk; simpa using hk
  rw [h2] at hG
  rw [h1] at hL
  subst hG hL
  have hok := ok_out hf
  obtain ⟨n1, n2, n3⟩ := neg_is dy kb
  obtain ⟨m1, m2, m3⟩ := neg_is dx ka
  obtain ⟨i1, i2⟩ := ok_is dx ka
  have hokn := ok_out n3
  have fx := ok_fits dx ka na
  rw [n1, n2, Nm.wv_out, Nm.wv_out, hok, hokn, show Nm.wv na xs + Nm.wv nb ys + -Nm.wv nb ys = Nm.wv na xs by omega]
  have ho : (true && true) = true := rfl
  obtain ⟨o1, o2⟩ := out_fits fx
  refine ⟨by unfold opO; rw [fx]; rfl, ?_, ?_, rfl, ?_, ?_⟩
  · show Nm.outN _ = _; rw [o2, i1]
  · show Nm.outL _ = _; rw [o1, i2]
  · rw [m1, m2]
    obtain ⟨q1, q2, _⟩ := neg_is (ng := Nm.wn (-Nm.wv na xs)) (zs := Nm.wl (-Nm.wv na xs)) (Nm.wl_dg _) (ok_out m3)
    rw [q1, Nm.wv_out, Int.neg_neg, i1]
  · rw [m1, m2]
    obtain ⟨q1, q2, _⟩ := neg_is (ng := Nm.wn (-Nm.wv na xs)) (zs := Nm.wl (-Nm.wv na xs)) (Nm.wl_dg _) (ok_out m3)
    rw [q2, Nm.wv_out, Int.neg_neg, i2]
theorem short_2000 {L : List Int} (h : L.length ≤ 2000) : L.length ≤ 1048576 := by omega
end PAdd
end Go.Proofs.Ytmnfidkpnogfmaa
