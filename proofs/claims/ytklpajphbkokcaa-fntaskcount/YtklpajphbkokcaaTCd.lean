/-
  Sizes that are drawn: numbers near two bounds, and off them; the law on counts.
-/
import Derived.Test.YtklpajphbkokcaaTCb
import Derived.Test.YtklpajphbkokcaaDrawA
import Derived.Deep.RegionHeld3
namespace Go.Proofs.Ytklpajphbkokcaa
set_option linter.unusedVariables false
set_option linter.unusedSimpArgs false
open Go.RowKit Go.Deep
namespace TCn
theorem bel_rd {w W w' : World} {rb : Nat} (h : Below w.heap.size w W) (hg : W.grownBy w' (some rb)) (hr : w.heap.size ≤ rb) : Below w.heap.size w w' := h.grown hg h.size (fun k hk => by cases hk; exact hr)
set_option maxHeartbeats 400000 in
theorem big_any (ca : Option Addr) (n cc : Nat) (w : World) (hn : n ≤ 9223372036854775807) (b : Bool) (hb : b = decide (1048576 < n)) :
    Calls Try.prog 15 #[.slice ca n cc] w fun e w' => e = .returned (.bool b) ∧ w' = w := by
  by_cases h : 1048576 < n
  · have HB : Hid (b = true) := hid (by rw [hb]; simpa using h)
    clear hb
    go_enter Try.func15, Try.ntmps15
    go_wp2
    go_ret
    refine ⟨ret_bool ?_, rfl⟩
    rw [HB.out]
    first | rfl | (simp; omega)
  · have HB : Hid (b = false) := hid (by rw [hb]; simpa using h)
    clear hb
    go_enter Try.func15, Try.ntmps15
    go_wp2
    go_ret
    refine ⟨ret_bool ?_, rfl⟩
    rw [HB.out]
    first | rfl | (simp; omega)
theorem four_cell {x y : Int} (w : World) {w' : World} {rb : Nat} {t : TypeId} (hg : (w.alloc (.cells #[.int .i64 x, .int .i64 y, .int .i64 (-9223372036854775808), .int .i64 9223372036854775807] t)).grownBy w' (some rb)) (hne : rb < w.heap.size) (k : Nat) (hk : k < 4) :
    ∃ d : Int, w'.cell? ⟨w.heap.size, k, none⟩ = some (.int .i64 d) := by
  have e := hg.block w.heap.size (by simp) (by simp; omega)
  have h : ∀ j, w'.cell? ⟨w.heap.size, j, none⟩ = (#[.int .i64 x, .int .i64 y, .int .i64 (-9223372036854775808), .int .i64 9223372036854775807] : Array Value)[j]? := fun j => by
    rw [World.cell?_of_block (a := ⟨w.heap.size, j, none⟩) e]
    exact World.cell?_alloc_new w _ _ j
  rw [h k]
  rcases (show k = 0 ∨ k = 1 ∨ k = 2 ∨ k = 3 by omega) with rfl | rfl | rfl | rfl
  · exact ⟨x, rfl⟩
  · exact ⟨y, rfl⟩
  · exact ⟨_, rfl⟩
  · exact ⟨_, rfl⟩
set_option maxHeartbeats 1000000 in
theorem near_any (rb : Nat) (ca : Option Addr) (cc : Nat) (cs : List Int) (lo hi : Int) (w : World) (hr : RD w rb ca cc cs) (h0 : 0 ≤ lo) (h1 : lo ≤ hi) (h2 : hi ≤ 1000000) :
    Calls Try.prog 101 #[.pointer (some ⟨rb, 0, none⟩), .int .i64 lo, .int .i64 hi] w fun e w' => ∃ v : Int, e = .returned (.int .i64 v) ∧ RD w' rb ca cc cs ∧ w.grownBy w' (some rb) := by
  go_enter Try.func101, Try.ntmps101
  go_wp2_with fail
  refine (below_any rb ca cc cs 8 _ hr (by decide) (by decide)).mono ?_
  rintro e w1 ⟨v, rfl, v0, v1, hr1, hg1⟩
  rcases (show v = 0 ∨ v = 1 ∨ 1 < v by omega) with rfl | rfl | hv
  · go_wp2
    go_ret
    exact ⟨_, rfl, hr1, hg1⟩
  · go_wp2
    go_ret
    exact ⟨_, rfl, hr1, hg1⟩
  · have e0 : (v == 0) = false := by simp; omega
    have e1 : (v == 1) = false := by simp; omega
    have e2 : decide (hi < lo) = false := by simp; omega
    have W1 : IntKind.u64.wrap (hi - lo + 1) = hi - lo + 1 := by rw [IntKind.wrap_u64]; omega
    have W2 : (hi - lo + 1 == 0) = false := by simp; omega
    have CW := hid (word_any rb ca cc cs _ hr1)
    go_wp2_with fail
    refine CW.out.mono ?_
    rintro e w2 ⟨u, rfl, u0, u1, hr2, hg2⟩
    go_wp2
    go_ret
    exact ⟨_, rfl, hr2, grown_trans hg1 hg2⟩
set_option maxHeartbeats 1000000 in
theorem off_any (rb : Nat) (ca : Option Addr) (cc : Nat) (cs : List Int) (lo hi : Int) (w : World) (hr : RD w rb ca cc cs) (h0 : 0 ≤ lo) (h1 : lo ≤ hi) (h2 : hi ≤ 1000000) :
    Calls Try.prog 88 #[.pointer (some ⟨rb, 0, none⟩), .int .i64 lo, .int .i64 hi] w fun e w' => ∃ v : Int, e = .returned (.int .i64 v) ∧ RD w' rb ca cc cs ∧ w.grownBy w' (some rb) := by
  go_enter Try.func88, Try.ntmps88
  go_wp2_with fail
  refine (once_any rb ca cc cs 24 _ hr (by decide) (by decide)).mono ?_
  rintro e w1 ⟨v, rfl, hr1, hg1⟩
  cases v
  · go_wp2_with fail
    refine (near_any rb ca cc cs lo hi _ hr1 h0 h1 h2).mono ?_
    rintro e w2 ⟨u, rfl, hr2, hg2⟩
    go_wp2
    go_ret
    exact ⟨_, rfl, hr2, grown_trans hg1 hg2⟩
  · have l1 := hr1.lt
    go_wp2_with fail
    refine (below_any rb ca cc cs 4 _ (hr1.alloc _) (by decide) (by decide)).mono ?_
    rintro e w3 ⟨kz, rfl, k0, k1, hr3, hg3⟩
    obtain ⟨k, rfl⟩ := Int.eq_ofNat_of_zero_le k0
    obtain ⟨d, hd⟩ := four_cell w1 hg3 l1 k (by omega)
    go_wp2
    go_ret
    exact ⟨d, rfl, hr3, grown_trans (grown_alloc hg1 _) hg3⟩
set_option maxHeartbeats 1000000 in
theorem drawNew_any (ca : Option Addr) (cc : Nat) (cs : List Int) (w : World) (hs : Sl .u8 w (.slice ca cs.length cc) cs) (hby : ∀ i, 0 ≤ cs.getD i 0 ∧ cs.getD i 0 ≤ 255) (hl : cs.length ≤ 1048576) :
    Calls Try.prog 60 #[.slice ca cs.length cc] w fun e w' => ∃ n g k : Int, e = .returned (.tuple #[.int .i64 n, .int .i64 g, .int .i64 k]) ∧ Below w.heap.size w w' := by
  go_enter Try.func60, Try.ntmps60
  go_wp2_with fail
  refine (open_any ca cc cs _ hs hby hl).mono ?_
  rintro e w1 ⟨rfl, hr1, hb1⟩
  go_wp2_with fail
  refine (once_any w.heap.size ca cc cs 3 _ hr1 (by decide) (by decide)).mono ?_
  rintro e w2 ⟨v, rfl, hr2, hg2⟩
  have hb2 := bel_rd hb1 hg2 (Nat.le_refl _)
  clear hr1 hg2 hb1
  cases v
  · go_wp2_with fail
    refine (below_any w.heap.size ca cc cs 50 _ hr2 (by decide) (by decide)).mono ?_
    rintro e w3 ⟨u, rfl, u0, u1, hr3, hg3⟩
    have hb3 := bel_rd hb2 hg3 (Nat.le_refl _)
    go_wp2_with fail
    refine (below_any w.heap.size ca cc cs 9 _ hr3 (by decide) (by decide)).mono ?_
    rintro e w4 ⟨u', rfl, u0', u1', hr4, hg4⟩
    have hb4 := bel_rd hb3 hg4 (Nat.le_refl _)
    go_wp2_with fail
    refine (below_any w.heap.size ca cc cs 9 _ hr4 (by decide) (by decide)).mono ?_
    rintro e w5 ⟨u'', rfl, u0'', u1'', hr5, hg5⟩
    have hb5 := bel_rd hb4 hg5 (Nat.le_refl _)
    go_wp2
    go_ret3
    exact ⟨_, _, _, rfl, hb5⟩
  · go_wp2_with fail
    refine (off_any w.heap.size ca cc cs 0 300 _ hr2 (by decide) (by decide) (by decide)).mono ?_
    rintro e w3 ⟨u, rfl, hr3, hg3⟩
    have hb3 := bel_rd hb2 hg3 (Nat.le_refl _)
    go_wp2_with fail
    refine (off_any w.heap.size ca cc cs 1 300 _ hr3 (by decide) (by decide) (by decide)).mono ?_
    rintro e w4 ⟨u', rfl, hr4, hg4⟩
    have hb4 := bel_rd hb3 hg4 (Nat.le_refl _)
    go_wp2_with fail
    refine (off_any w.heap.size ca cc cs 1 16 _ hr4 (by decide) (by decide) (by decide)).mono ?_
    rintro e w5 ⟨u'', rfl, hr5, hg5⟩
    have hb5 := bel_rd hb4 hg5 (Nat.le_refl _)
    go_wp2
    go_ret3
    exact ⟨_, _, _, rfl, hb5⟩
set_option maxHeartbeats 1000000 in
theorem drawCount_any (ca : Option Addr) (cc : Nat) (cs : List Int) (w : World) (hs : Sl .u8 w (.slice ca cs.length cc) cs) (hby : ∀ i, 0 ≤ cs.getD i 0 ∧ cs.getD i 0 ≤ 255) (hl : cs.length ≤ 1048576) :
    Calls Try.prog 16 #[.slice ca cs.length cc] w fun e w' => ∃ n g : Int, e = .returned (.tuple #[.int .i64 n, .int .i64 g]) ∧ Below w.heap.size w w' := by
  go_enter Try.func16, Try.ntmps16
  go_wp2_with fail
  refine (drawNew_any ca cc cs _ hs hby hl).mono ?_
  rintro e w1 ⟨n, g, k, rfl, hb1⟩
  go_wp2
  go_ret2
  exact ⟨_, _, rfl, hb1⟩
set_option maxHeartbeats 2000000 in
theorem law (ca : Option Addr) (cc : Nat) (cs : List Int) (w : World) (hs : Sl .u8 w (.slice ca cs.length cc) cs) (hby : ∀ i, 0 ≤ cs.getD i 0 ∧ cs.getD i 0 ≤ 255) (hl : cs.length ≤ 1048576) :
    Calls Try.prog 4 #[.slice ca cs.length cc] w fun e w' => e = .returned (.bool true) ∧ Below w.heap.size w w' := by
  go_enter Try.func4, Try.ntmps4
  go_wp2_with fail
  refine (big_any ca cs.length cc _ (by omega) false (by simp; omega)).mono ?_
  rintro e w0 ⟨rfl, rfl⟩
  go_wp2_with fail
  refine (drawCount_any ca cc cs _ hs hby hl).mono ?_
  rintro e w1 ⟨n, g, rfl, hb1⟩
  have CI := hid (fun w => task_impl n g w)
  have CS := hid (fun w => task_spec n g w)
  have CI1 := hid (fun w => task_impl n 300 w)
  have CI2 := hid (fun w => task_impl n 1 w)
  obtain ⟨t, ht⟩ : ∃ t, t = tcO n g := ⟨_, rfl⟩
  obtain ⟨t1, ht1⟩ : ∃ t, t = tcO n 300 := ⟨_, rfl⟩
  obtain ⟨t2, ht2⟩ : ∃ t, t = tcO n 1 := ⟨_, rfl⟩
  rw [← ht] at CI CS
  rw [← ht1] at CI1
  rw [← ht2] at CI2
  have q1 : (t != t) = false := by simp
  have q2 : (t == t) = true := by simp
  by_cases h1 : t < 1
  · clear ht ht1 ht2 hs hby hl
    go_wp2_with fail
    refine (CI.out _).mono ?_
    rintro e w2 ⟨rfl, rfl⟩
    go_wp2_with fail
    refine (CS.out _).mono ?_
    rintro e w2 ⟨rfl, rfl⟩
    go_wp2_with fail
    refine (CS.out _).mono ?_
    rintro e w2 ⟨rfl, rfl⟩
    go_wp2
    go_ret
    exact ⟨rfl, hb1⟩
  · have hz : szB n g = true := by
      cases hz : szB n g
      · rw [tcO_no hz] at ht; omega
      · rfl
    have T := tcO_yes hz
    obtain ⟨z1, z2, z3, z4⟩ := szB_yes hz
    have n0 : 1 ≤ n := by
      by_cases h : n = 0
      · subst h; rw [T, tcN_few (by omega)] at ht; simp at ht; omega
      · omega
    have hz3 : szB n 300 = true := by unfold szB; simp; omega
    have hz1 : szB n 1 = true := by unfold szB; simp; omega
    have k1 : t1 = 1 := by rw [ht1, tcO_yes hz3, tcN_few (by show n.toNat ≤ (300 : Int).toNat; omega)]; omega
    have k2 : t2 = 2 * n - 1 := by
      rw [ht2, tcO_yes hz1]
      have := tcN_one n.toNat (by omega)
      show ((tcN 1 n.toNat : Nat) : Int) = _
      rw [this]; omega
    have o1 := tcN_odd g.toNat n.toNat (by omega)
    have o2 := tcN_lt g.toNat n.toNat (by omega)
    have o3 := tcN_is1 (g := g.toNat) (by omega) (n := n.toNat) (by omega)
    rw [T] at ht
    have p1 : Int.tmod t 2 = 1 := by rw [Int.tmod_eq_emod_of_nonneg (by omega)]; omega
    have p2 : t ≤ 2 * n - 1 := by omega
    have p3 : (t == 1) = decide (n ≤ g) := by
      rw [Bool.eq_iff_iff]; simp only [beq_iff_eq, decide_eq_true_eq]
      constructor
      · intro h; have := o3.1 (by omega); omega
      · intro h; have := o3.2 (by omega); omega
    have m1 : wrap64 (2 * n) = 2 * n := by unfold wrap64; omega
    have m2 : wrap64 (2 * n - 1) = 2 * n - 1 := by unfold wrap64; omega
    have HP3 := hid p3
    clear ht ht1 ht2 hs hby hl T hz hz3 hz1 o1 o2 o3 z3 z4 p3
    subst k1 k2
    by_cases hng : n ≤ g
    · have p4 : (t == 1) = true := by rw [HP3.out]; simpa using hng
      have p5 : (2 * n - 1 == 2 * n - 1) = true := by simp
      go_wp2_with fail
      refine (CI.out _).mono ?_
      rintro e w2 ⟨rfl, rfl⟩
      go_wp2_with fail
      refine (CS.out _).mono ?_
      rintro e w2 ⟨rfl, rfl⟩
      go_wp2_with fail
      refine (CI1.out _).mono ?_
      rintro e w2 ⟨rfl, rfl⟩
      go_wp2_with fail
      refine (CI2.out _).mono ?_
      rintro e w2 ⟨rfl, rfl⟩
      go_wp2
      go_ret
      exact ⟨rfl, hb1⟩
    · have p4 : (t == 1) = false := by rw [HP3.out]; simpa using hng
      have p5 : (2 * n - 1 == 2 * n - 1) = true := by simp
      go_wp2_with fail
      refine (CI.out _).mono ?_
      rintro e w2 ⟨rfl, rfl⟩
      go_wp2_with fail
      refine (CS.out _).mono ?_
      rintro e w2 ⟨rfl, rfl⟩
      go_wp2_with fail
      refine (CI1.out _).mono ?_
      rintro e w2 ⟨rfl, rfl⟩
      go_wp2_with fail
      refine (CI2.out _).mono ?_
      rintro e w2 ⟨rfl, rfl⟩
      go_wp2
      go_ret
      exact ⟨ret_bool (by simpa using hng), hb1⟩
theorem law_all (ca : Option Addr) (cc : Nat) (cs : List Int) (w : World) (hs : Sl .u8 w (.slice ca cs.length cc) cs) (hby : ∀ i, 0 ≤ cs.getD i 0 ∧ cs.getD i 0 ≤ 255) :
    Calls Try.prog 4 #[.slice ca cs.length cc] w fun e w' => e = .returned (.bool true) ∧ Below w.heap.size w w' := by
  by_cases h : cs.length ≤ 1048576
  · exact law ca cc cs w hs hby h
  · have hn : cs.length ≤ 9223372036854775807 := by obtain ⟨_, h1, h2, _⟩ := hs.cells; unfold maxLen at h2; omega
    have CB := hid (big_any ca cs.length cc w hn true (by simp; omega))
    clear hs hby h hn
    go_enter Try.func4, Try.ntmps4
    go_wp2_with fail
    refine CB.out.mono ?_
    rintro e w0 ⟨rfl, rfl⟩
    go_wp2
    go_ret
    exact ⟨rfl, Below.refl _ _⟩
end TCn
end Go.Proofs.Ytklpajphbkokcaa
