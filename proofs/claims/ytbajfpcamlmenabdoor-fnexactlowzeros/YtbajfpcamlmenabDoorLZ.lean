/-
  How often a wide can be halved, by the specification; the law.
-/
import Derived.Test.YtbajfpcamlmenabDoorIB0
import Derived.Test.YtbajfpcamlmenabDoorLawsC
import Derived.Deep.RegionHeld3
namespace Go.Proofs.YtbajfpcamlmenabDoor
set_option linter.unusedVariables false
set_option linter.unusedSimpArgs false
open Go.RowKit Go.Deep
theorem len_bl' {x k : Nat} (h : (Nm.lim x).length ≤ k) : bitLen x ≤ 32 * k := (Nm.bl_le_iff x (32 * k)).2 (by have := (Nm.lim_length x k).1 h; rw [Nm.pw_two] at this; exact Int.ofNat_lt.1 this)
/-- The limb that holds a bit below the first that is 1, or this one. -/
theorem wh_lt {a k : Nat} (ha : a ≠ 0) (hk : k ≤ Nm.tz a) : k / 32 < (Nm.lim a).length := by
  have hs := Nm.tz_spec a ha
  have h1 : 2 ^ Nm.tz a ≤ a := by have := Nat.le_mul_of_pos_left (2 ^ Nm.tz a) (Nat.pos_of_ne_zero (Nm.od_pos ha)); omega
  have h2 : 2 ^ k ≤ a := Nat.le_trans (Nat.pow_le_pow_right (by decide) hk) h1
  have h3 : ¬ bitLen a ≤ k := fun h => by have := (Nm.bl_le_iff a k).1 h; omega
  have h4 := len_bl' (x := a) (Nat.le_refl _)
  omega
theorem bit_tz {a k : Nat} (ha : a ≠ 0) (hk : k < Nm.tz a) : a / 2 ^ k % 2 = 0 := by
  have h := (Nm.mod_pow_zero ha (k + 1)).2 hk
  rw [Nat.pow_succ, Nat.mod_mul] at h
  have hp := Nm.pw_pos2 k
  rcases Nat.mod_two_eq_zero_or_one (a / 2 ^ k) with h2 | h2
  · exact h2
  · rw [h2] at h; omega
theorem bit_top {a : Nat} (ha : a ≠ 0) : a / 2 ^ Nm.tz a % 2 = 1 := (Nm.tz_spec a ha).2
set_option maxHeartbeats 4000000 in
theorem lz_specA (ng : Bool) (p : Option Addr) (c : Nat) (a : Nat) (w : World) (hs : Sl .u32 w (.slice p (Nm.lim a).length c) (Nm.lim a)) (ha : a ≠ 0) (hok : okB ng (Nm.lim a) = true) (hl : (Nm.lim a).length ≤ 200) :
    Calls Tryd.prog 5 #[.agg #[.bool ng, .slice p (Nm.lim a).length c]] w fun e w' => e = .returned (.int .i64 (Nm.tz a : Nat)) ∧ Below w.heap.size w w' := by
  have CK := hid (fun w' h => ok_spec ng p c (Nm.lim a) w' h (by omega))
  rw [hok] at CK
  have hne : (((Nm.lim a).length : Int) == 0) = false := by
    rw [beq_eq_false_iff_ne]
    have : (Nm.lim a).length ≠ 0 := fun h => ha ((Nm.lim_length_zero a).1 h)
    omega
  have ht : Nm.tz a < 6400 := by
    have := wh_lt ha (Nat.le_refl (Nm.tz a)); omega
  have HA := hid ha
  clear hok ha
  go_enter Tryd.func5, Tryd.ntmps5
  go_wp2_with fail
  refine (CK.out _ (hs.alloc _)).mono ?_
  rintro e w1 ⟨rfl, hb1⟩
  obtain ⟨x10, x11⟩ := (Box.new w (.bool ng) (.slice p (Nm.lim a).length c) 27).below hb1
  have s1 := (hs.alloc _).below hb1
  have hb : Below w.heap.size w w1 := (by repeat (first | exact Below.refl _ _ | refine Below.drew ?_ | refine bel_dn ?_ _ | refine bel_al ?_ _ | refine bel_go ?_ hb1 | refine Below.setCell ?_ (by first | omega | (simp; done) | (simp; omega)) _ | refine Below.alloc ?_ (by first | omega | (simp; done) | (simp; omega)) _ | refine Below.trans ?_ (Below.mono hb1 (by first | omega | (simp; done) | (simp; omega)))))
  clear hb1
  go_wp2_with fail
  obtain ⟨-, hx1, hx2, hx3⟩ := s1.cells
  go_loopw [3] (fun i wr => ∃ k : Nat, k ≤ Nm.tz a ∧ i = .int .i64 k ∧ wr = w1) (fun i _ => Nm.tz a - (intOf i).toNat)
  case atStart => exact ⟨0, Nat.zero_le _, rfl, rfl⟩
  case round =>
    obtain ⟨k, hk, rfl, rfl⟩ := hrel
    have hwl := wh_lt HA.out hk
    obtain ⟨wh, hwh⟩ : ∃ wh, wh = k / 32 := ⟨_, rfl⟩
    obtain ⟨r, hr⟩ : ∃ r, r = k % 32 := ⟨_, rfl⟩
    have q1 : (k : Int) / 32 = (wh : Int) := by omega
    have q2 : (k : Int) % 32 = (r : Int) := by omega
    have r32 : r < 32 := by omega
    rw [← hwh] at hwl
    have hkk : 32 * wh + r = k := by omega
    obtain ⟨b, off, rfl, hc⟩ := hx3 (by omega)
    have h2 := hc wh hwl
    have hbl := bit_limb a wh r r32
    rw [hkk] at hbl
    have hdg := (Nm.lim_dg a).getD wh
    obtain ⟨x, hxk⟩ : ∃ x, x = (Nm.lim a).getD wh 0 := ⟨_, rfl⟩
    rw [← hxk] at h2 hdg hbl
    have e2r : ((2 ^ r : Nat) : Int) = (2 : Int) ^ r := by simp
    rw [e2r] at hbl
    have hxr : 0 ≤ x / (2 : Int) ^ r ∧ x / (2 : Int) ^ r < 4294967296 := by
      have hp : (0 : Int) < (2 : Int) ^ r := Int.pow_pos (by decide)
      exact ⟨Int.ediv_nonneg hdg.1 (by omega), Int.lt_of_le_of_lt (Int.ediv_le_self _ hdg.1) hdg.2⟩
    have hand : bits .and .u32 (x / (2 : Int) ^ r) 1 = x / (2 : Int) ^ r % 2 := by
      obtain ⟨n, hn⟩ : ∃ n : Nat, x / (2 : Int) ^ r = n := ⟨(x / (2 : Int) ^ r).toNat, by omega⟩
      rw [hn] at hxr ⊢
      have h := u32_and_nat n 1 (by omega) (by decide)
      rw [show ((1 : Nat) : Int) = 1 from rfl] at h
      rw [h, Nat.and_one_is_mod]; simp
    have hwi : (wh : Int) < ((Nm.lim a).length : Int) := by omega
    have HK := hid hkk
    clear hx3 hc hwh hr hxk e2r hkk
    by_cases hlt : k < Nm.tz a
    · have hz : x / (2 : Int) ^ r % 2 = 0 := by rw [hbl, bit_tz HA.out hlt]; rfl
      have hk6 : (k : Int) < 6400 := by omega
      clear hbl
      go_wp2
      go_roundw
      case rel => exact ⟨k + 1, by omega, by go_num, (by first | rfl | trivial)⟩
      case measure => simp [intOf]; omega
    · have hke : k = Nm.tz a := by omega
      have hz : x / (2 : Int) ^ r % 2 = 1 := by rw [hbl, hke, bit_top HA.out]; rfl
      have HKE := hid hke
      clear hbl hke hlt
      go_wp2
      go_ret
      exact ⟨ret_int (by rw [HKE.out]), hb⟩
set_option maxHeartbeats 2000000 in
theorem lz_spec (ng : Bool) (p : Option Addr) (c : Nat) (zs : List Int) (w : World) (hs : Sl .u32 w (.slice p zs.length c) zs) (hz : Nm.Dg zs) (hl : zs.length ≤ 1048576) :
    Calls Tryd.prog 5 #[.agg #[.bool ng, .slice p zs.length c]] w fun e w' => e = .returned (.int .i64 (lzW ng zs)) ∧ Below w.heap.size w w' := by
  have CK := hid (fun w' h => ok_spec ng p c zs w' h (by omega))
  cases h1 : okB ng zs
  · have HR : Hid (lzW ng zs = -1) := hid (by unfold lzW; rw [h1]; rfl)
    rw [h1] at CK
    clear h1
    go_enter Tryd.func5, Tryd.ntmps5
    go_wp2_with fail
    refine (CK.out _ (hs.alloc _)).mono ?_
    rintro e w1 ⟨rfl, hb1⟩
    go_wp2
    go_ret
    exact ⟨ret_int HR.out.symm, (by repeat (first | exact Below.refl _ _ | refine Below.drew ?_ | refine bel_dn ?_ _ | refine bel_al ?_ _ | refine bel_go ?_ hb1 | refine Below.setCell ?_ (by first | omega | (simp; done) | (simp; omega)) _ | refine Below.alloc ?_ (by first | omega | (simp; done) | (simp; omega)) _ | refine Below.trans ?_ (Below.mono hb1 (by first | omega | (simp; done) | (simp; omega)))))⟩
  by_cases h0 : zs.length = 0
  · have HR : Hid (lzW ng zs = -1) := hid (by unfold lzW; rw [h1, decide_eq_true h0]; rfl)
    rw [h1] at CK
    have hb0 : ((zs.length : Int) == 0) = true := by rw [beq_iff_eq]; omega
    clear h1 h0
    go_enter Tryd.func5, Tryd.ntmps5
    go_wp2_with fail
    refine (CK.out _ (hs.alloc _)).mono ?_
    rintro e w1 ⟨rfl, hb1⟩
    obtain ⟨x10, x11⟩ := (Box.new w (.bool ng) (.slice p zs.length c) 27).below hb1
    go_wp2
    go_ret
    exact ⟨ret_int HR.out.symm, (by repeat (first | exact Below.refl _ _ | refine Below.drew ?_ | refine bel_dn ?_ _ | refine bel_al ?_ _ | refine bel_go ?_ hb1 | refine Below.setCell ?_ (by first | omega | (simp; done) | (simp; omega)) _ | refine Below.alloc ?_ (by first | omega | (simp; done) | (simp; omega)) _ | refine Below.trans ?_ (Below.mono hb1 (by first | omega | (simp; done) | (simp; omega)))))⟩
  · obtain ⟨hnz, hl2⟩ := okB_nz h1
    have hzl := (Nm.lim_of hz hnz).symm
    have hR : lzW ng zs = (Nm.tz (Nm.val zs).toNat : Int) := by unfold lzW; rw [h1, decide_eq_false h0]; rfl
    have ha : (Nm.val zs).toNat ≠ 0 := by
      intro h; rw [h, Nm.lim_zero] at hzl; rw [hzl] at h0; exact h0 rfl
    rw [hR]
    obtain ⟨a, haz⟩ : ∃ a, a = (Nm.val zs).toNat := ⟨_, rfl⟩
    rw [← haz] at hzl ha ⊢
    subst hzl
    exact lz_specA ng p c a w hs ha h1 hl2
attribute [local go_sem ↓] Go.wp_at_zero Go.wp_at_succ
theorem four_z {W W' : World} {b b' : Nat} {v0 v1 u0 u1 : Value} (h0 : W.cell? ⟨b, 0, none⟩ = some v0) (h1 : W.cell? ⟨b, 1, none⟩ = some v1) (k0 : W.cell? ⟨b', 0, none⟩ = some u0) (k1 : W.cell? ⟨b', 1, none⟩ = some u1) (hb : Below W.heap.size W W') :
    W'.cell? ⟨b, 0, none⟩ = some v0 ∧ W'.cell? ⟨b, 1, none⟩ = some v1 ∧ W'.cell? ⟨b', 0, none⟩ = some u0 ∧ W'.cell? ⟨b', 1, none⟩ = some u1 := ⟨(Box.below ⟨h0, h1⟩ hb).1, (Box.below ⟨h0, h1⟩ hb).2, (Box.below ⟨k0, k1⟩ hb).1, (Box.below ⟨k0, k1⟩ hb).2⟩
set_option maxHeartbeats 4000000 in
set_option maxRecDepth 100000 in
theorem law_LowZeros (ng : Bool) (a : Option Addr) (cap : Nat) (zs : List Int) (w : World) (hT : Tb w 0 Lib.deBruijn32tab) (hs : Sl .u32 w (.slice a zs.length cap) zs) (hz : Nm.Dg zs) :
    Calls Tryd.prog 3 #[.agg #[.bool ng, .slice a zs.length cap]] w fun e w' => e = .returned (.bool true) ∧ Below w.heap.size w w' := by
  have hlm : zs.length ≤ 9223372036854775807 := by obtain ⟨_, h1, h2, _⟩ := hs.cells; unfold maxLen at h2; omega
  by_cases hn : zs.length ≤ 1048576
  · have hl : zs.length ≤ 140737488355328 := by omega
    have hr' : ¬ szR 1048576 zs.length < 0 := by unfold szR; rw [if_neg (by omega)]; omega
    have hse := eqW_refl ng zs
    obtain ⟨b, hb⟩ : ∃ b, b = lzW ng zs := ⟨_, rfl⟩
    have CS := hid (fun a c w' h => lz_spec ng a c zs w' h hz hn)
    have CI := hid (fun a c w' h h' => lz_impl ng a c zs w' h h' hz hn)
    rw [← hb] at CS CI
    clear hb
    have q1 : (b != b) = false := by simp
    go_enter Tryd.func3, Tryd.ntmps3
    go_wp2_with fail
    refine (szW_any ng a zs.length cap 1048576 _ hlm (by decide) (by decide)).mono ?_
    rintro x w1 ⟨rfl, hb1⟩
    have x1 := (Box.new w (.bool ng) (.slice a zs.length cap) 24).below hb1
    have hs1 := (hs.alloc _).below hb1
    obtain ⟨c10, c11⟩ := x1
    go_wp2_with fail
    refine (toW_any ng _ zs _ hs1 hn).mono ?_
    rintro x w2 ⟨a2, c2, rfl, ho2, hb2⟩
    have x2 := Box.below ⟨c10, c11⟩ hb2
    have hs2 := hs1.below hb2
    clear c10 c11
    go_wp2_with fail
    refine (CS.out a2 c2 _ ho2.sl).mono ?_
    rintro x w3 ⟨rfl, hb3⟩
    have x3 := x2.below hb3
    have hs3 := hs2.below hb3
    have bel3 : Below w.heap.size w w3 := (by repeat (first | exact Below.refl _ _ | refine Below.drew ?_ | refine bel_dn ?_ _ | refine bel_al ?_ _ | refine bel_go ?_ hb3 | refine bel_go ?_ hb2 | refine bel_go ?_ hb1 | refine Below.setCell ?_ (by first | omega | (simp; done) | (simp; omega)) _ | refine Below.alloc ?_ (by first | omega | (simp; done) | (simp; omega)) _ | refine Below.trans ?_ (Below.mono hb3 (by first | omega | (simp; done) | (simp; omega))) | refine Below.trans ?_ (Below.mono hb2 (by first | omega | (simp; done) | (simp; omega))) | refine Below.trans ?_ (Below.mono hb1 (by first | omega | (simp; done) | (simp; omega)))))
    clear hb1 hb2 hb3 x2 hs1 hs2 ho2
    obtain ⟨c30, c31⟩ := x3
    go_wp2_with fail
    refine (toW_any ng _ zs _ hs3 hn).mono ?_
    rintro x w4 ⟨a4, c4, rfl, ho4, hb4⟩
    have x4 := (Box.below ⟨c30, c31⟩ hb4).alloc (.cells #[.bool ng, .slice a4 zs.length c4] 27)
    have hs4 := (hs3.below hb4).alloc (.cells #[.bool ng, .slice a4 zs.length c4] 27)
    have y4 := Box.new w4 (.bool ng) (.slice a4 zs.length c4) 27
    have o4 := ho4.sl.alloc (.cells #[.bool ng, .slice a4 zs.length c4] 27)
    have bel4 : Below w.heap.size w (w4.alloc (.cells #[.bool ng, .slice a4 zs.length c4] 27)) := bel_al (bel_go bel3 hb4) _
    have T4 := hT.below (by decide) bel4
    clear c30 c31 hs3 bel3 hb4 ho4
    have y4' := y4
    obtain ⟨d40, d41⟩ := y4'
    go_wp2_with fail
    refine (CI.out a4 c4 _ T4 o4).mono ?_
    rintro x w5 ⟨rfl, hb5⟩
    obtain ⟨c50, c51⟩ := x4.below hb5
    obtain ⟨d50, d51⟩ := y4.below hb5
    have hs5 := hs4.below hb5
    have o5 := o4.below hb5
    have bel5 := bel_go bel4 hb5
    clear d40 d41 x4 y4 hs4 o4 bel4 T4 hb5
    go_wp2_with fail
    go_region_held3 (fun w' => w'.cell? ⟨w.heap.size, 0, none⟩ = some (.bool ng) ∧ w'.cell? ⟨w.heap.size, 1, none⟩ = some (.slice a zs.length cap) ∧ w'.cell? ⟨w4.heap.size, 0, none⟩ = some (.bool ng) ∧ w'.cell? ⟨w4.heap.size, 1, none⟩ = some (.slice a4 zs.length c4)) (first | assumption | (refine ⟨?_, ?_, ?_, ?_⟩ <;> assumption))
      (first
        | (go_at_call 6; refine (toW_any ng (.slice a zs.length cap) zs _ hs5.drew hn).mono ?_; rintro x w6 ⟨a6, c6, rfl, ho6, hb6⟩; have four := four_z (W := w5.drew) c50 c51 d50 d51 hb6; have o6 := (o5.drew).below hb6)
        | (go_at_call 8; refine (eqW_any ng ng a4 a6 c4 c6 zs zs _ o6 ho6.sl hl).mono ?_; rintro x w7 ⟨rfl, hb7⟩; have f7 := four_z four.1 four.2.1 four.2.2.1 four.2.2.2 hb7))
    go_wp2
    go_ret
    exact ⟨rfl, (by repeat (first | exact Below.refl _ _ | refine Below.drew ?_ | refine bel_dn ?_ _ | refine bel_al ?_ _ | refine bel_go ?_ hb7 | refine bel_go ?_ hb6 | refine bel_go ?_ bel5 | refine Below.setCell ?_ (by first | omega | (simp; done) | (simp; omega)) _ | refine Below.alloc ?_ (by first | omega | (simp; done) | (simp; omega)) _ | refine Below.trans ?_ (Below.mono hb7 (by first | omega | (simp; done) | (simp; omega))) | refine Below.trans ?_ (Below.mono hb6 (by first | omega | (simp; done) | (simp; omega))) | refine Below.trans ?_ (Below.mono bel5 (by first | omega | (simp; done) | (simp; omega)))))⟩
  · have hr' : szR 1048576 zs.length < 0 := by unfold szR; rw [if_pos (by omega)]; decide
    go_enter Tryd.func3, Tryd.ntmps3
    go_wp2_with fail
    refine (szW_any ng a zs.length cap 1048576 _ hlm (by decide) (by decide)).mono ?_
    rintro x w1 ⟨rfl, hb1⟩
    go_wp2
    go_ret
    exact ⟨rfl, (by repeat (first | exact Below.refl _ _ | refine Below.drew ?_ | refine bel_dn ?_ _ | refine bel_al ?_ _ | refine bel_go ?_ hb1 | refine Below.setCell ?_ (by first | omega | (simp; done) | (simp; omega)) _ | refine Below.alloc ?_ (by first | omega | (simp; done) | (simp; omega)) _ | refine Below.trans ?_ (Below.mono hb1 (by first | omega | (simp; done) | (simp; omega)))))⟩
end Go.Proofs.YtbajfpcamlmenabDoor
