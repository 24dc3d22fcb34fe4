/-
  What is needed of Uf, TCd, RE.
-/
import Derived.Test.YtpalbhkihheogaaDoorC28
import Derived.Test.YtpalbhkihheogaaDoorC40
set_option maxHeartbeats 16000000
set_option maxRecDepth 1000000
namespace Go.Proofs.YtpalbhkihheogaaDoor
set_option linter.unusedVariables false
namespace Fd
theorem uf_cut (P : Nat) (hP : 1 ≤ P) (y : Nat) : bitLen (uf (2 ^ (P - 1)) y) - P = y / 2 ^ (P - 1) - 1 ∧ uf (2 ^ (P - 1)) y / 2 ^ (bitLen (uf (2 ^ (P - 1)) y) - P) = (if y < 2 ^ (P - 1) then y else y % 2 ^ (P - 1) + 2 ^ (P - 1)) ∧ uf (2 ^ (P - 1)) y % 2 ^ (bitLen (uf (2 ^ (P - 1)) y) - P) = 0 := by
  have hp := Nat.two_pow_pos (P - 1)
  have h2 : 2 ^ P = 2 * 2 ^ (P - 1) := by
    obtain ⟨k, rfl⟩ : ∃ k, P = k + 1 := ⟨P - 1, by omega⟩
    rw [Nat.add_sub_cancel, Nat.pow_succ, Nat.mul_comm]
  obtain ⟨L, hL⟩ : ∃ L, L = 2 ^ (P - 1) := ⟨_, rfl⟩
  have hb : ∀ a, a < L → bitLen a ≤ P := fun a ha => (Nm.bl_le_iff a P).2 (by omega)
  have hc : ∀ a, L ≤ a → a < 2 * L → bitLen a = P := fun a h1 h2' => by
    have u := (Nm.bl_le_iff a P).2 (by omega)
    have v : ¬ bitLen a ≤ P - 1 := fun h => by have := (Nm.bl_le_iff a (P - 1)).1 h; omega
    omega
  rw [← hL] at hp ⊢
  clear hL h2
  unfold uf
  by_cases h : y < L
  · rw [if_pos h, if_pos h, Nat.div_eq_of_lt h]
    have := hb y h
    have e : bitLen y - P = 0 := by omega
    rw [e]; simp [Nat.mod_one]
  · rw [if_neg h, if_neg h]
    have hm := Nat.mod_lt y hp
    have hq : 1 ≤ y / L := Nat.div_pos (by omega) (by omega)
    have hB := hc (y % L + L) (by omega) (by omega)
    have hB2 := Nm.bl_mul (a := y % L + L) (by omega) (y / L - 1)
    have e : bitLen ((y % L + L) * 2 ^ (y / L - 1)) - P = y / L - 1 := by omega
    rw [e]
    exact ⟨rfl, Nat.mul_div_cancel _ (Nat.two_pow_pos _), Nat.mul_mod_left _ _⟩
theorem uf_flb (P : Nat) (hP : 1 ≤ P) (y : Nat) : Nm.flb P (uf (2 ^ (P - 1)) y) = y := by
  obtain ⟨h1, h2, h3⟩ := uf_cut P hP y
  unfold Nm.flb
  rw [h2, h1]
  have hp := Nat.two_pow_pos (P - 1)
  generalize 2 ^ (P - 1) = L at *
  by_cases h : y < L
  · rw [if_pos h, if_neg (by omega)]
  · rw [if_neg h, if_pos (by omega)]
    have hd := Nat.div_add_mod y L
    obtain ⟨k, hk⟩ : ∃ k, y / L = k + 1 := ⟨y / L - 1, by have : 1 ≤ y / L := Nat.div_pos (by omega) (by omega); omega⟩
    rw [hk] at hd ⊢
    rw [Nat.mul_add, Nat.mul_one, Nat.mul_comm] at hd
    simp only [Nat.add_sub_cancel]; omega
theorem uf_flo (P I : Nat) (hP : 1 ≤ P) (y : Nat) (hI : y < I) (ho : I ≤ 2100 * 2 ^ (P - 1)) : Nm.flo P I (uf (2 ^ (P - 1)) y) = true := by
  obtain ⟨h1, h2, h3⟩ := uf_cut P hP y
  unfold Nm.flo
  rw [uf_flb P hP y]
  have hd := Nat.div_add_mod (uf (2 ^ (P - 1)) y) (2 ^ (bitLen (uf (2 ^ (P - 1)) y) - P))
  have e1 : bitLen (uf (2 ^ (P - 1)) y) - P ≤ 2100 := by
    rw [h1]
    have : y / 2 ^ (P - 1) < 2100 := (Nat.div_lt_iff_lt_mul (Nat.two_pow_pos _)).2 (by omega)
    omega
  rw [h3, Nat.add_zero, Nat.mul_comm] at hd
  rw [hd]
  simp [e1, hI]
theorem uf_rr (P : Nat) (hP : 1 ≤ P) (q : Int) (y : Nat) : Nm.rr P q (uf (2 ^ (P - 1)) y) q = 0 := by
  obtain ⟨h1, h2, h3⟩ := uf_cut P hP y
  have e : (Nm.rn P q (uf (2 ^ (P - 1)) y) q).toNat = bitLen (uf (2 ^ (P - 1)) y) - P := by unfold Nm.rn; omega
  unfold Nm.rr
  rw [e, h3]
theorem flb_uf (P I u : Nat) (hP : 1 ≤ P) (h : Nm.flo P I u = true) : uf (2 ^ (P - 1)) (Nm.flb P u) = u := by
  unfold Nm.flo at h
  simp only [Bool.and_eq_true, decide_eq_true_eq] at h
  obtain ⟨⟨-, h1⟩, -⟩ := h
  have hm := Nm.flm_lt P u
  have h2 : 2 ^ P = 2 * 2 ^ (P - 1) := by
    obtain ⟨k, rfl⟩ : ∃ k, P = k + 1 := ⟨P - 1, by omega⟩
    rw [Nat.add_sub_cancel, Nat.pow_succ, Nat.mul_comm]
  have hp := Nat.two_pow_pos (P - 1)
  unfold Nm.flb
  by_cases hc : 2 ^ (P - 1) ≤ u / 2 ^ (bitLen u - P)
  · rw [if_pos hc]
    generalize u / 2 ^ (bitLen u - P) = M at *
    generalize bitLen u - P = k at *
    generalize 2 ^ (P - 1) = L at *
    unfold uf
    have e : M + k * L = L * (k + 1) + (M - L) := by rw [Nat.mul_add, Nat.mul_comm L k]; omega
    have e1 : (M + k * L) / L = k + 1 := by rw [e, Nat.mul_add_div hp, Nat.div_eq_of_lt (by omega)]
    have e2 : (M + k * L) % L = M - L := by rw [e, Nat.mul_add_mod, Nat.mod_eq_of_lt (by omega)]
    rw [if_neg (by omega), e1, e2, Nat.sub_add_cancel hc, Nat.add_sub_cancel, h1]
  · rw [if_neg hc]
    have hk : bitLen u - P = 0 := by
      by_cases h0 : bitLen u - P = 0
      · exact h0
      · exfalso; apply hc
        have hu : u ≠ 0 := fun h => by subst h; exact h0 (by rw [Nm.bl_zero]; exact Nat.zero_sub _)
        have hg := Nm.bl_ge hu
        rw [Nat.le_div_iff_mul_le (Nat.two_pow_pos _), ← Nat.pow_add]
        rw [show P - 1 + (bitLen u - P) = bitLen u - 1 by omega]
        exact hg
    unfold uf
    rw [if_pos (by omega), hk, Nat.pow_zero, Nat.div_one]
theorem flo_wide (P I m k : Nat) (B : Nat) (hm : m ≠ 0) (hB : bitLen m ≤ B) (hBP : B ≤ P) (hP : 1 ≤ P) (hk : B + k ≤ P + 2100) (hI : 2 * 2 ^ (P - 1) + (B + k - P) * 2 ^ (P - 1) ≤ I) : Nm.flo P I (m * 2 ^ k) = true := by
  have hb := Nm.bl_mul hm k
  have hlt := Nm.flm_lt P (m * 2 ^ k)
  have h2 : 2 ^ P = 2 * 2 ^ (P - 1) := by
    obtain ⟨k, rfl⟩ : ∃ k, P = k + 1 := ⟨P - 1, by omega⟩
    rw [Nat.add_sub_cancel, Nat.pow_succ, Nat.mul_comm]
  unfold Nm.flo
  simp only [Bool.and_eq_true, decide_eq_true_eq]
  refine ⟨⟨by omega, ?_⟩, ?_⟩
  · rw [hb]
    obtain ⟨c, hc⟩ : ∃ c, k = c + (bitLen m + k - P) := ⟨k - (bitLen m + k - P), by omega⟩
    generalize bitLen m + k - P = d at *
    subst hc
    rw [Nat.pow_add, ← Nat.mul_assoc, Nat.mul_div_cancel _ (Nat.two_pow_pos d)]
  · unfold Nm.flb
    have hle : bitLen (m * 2 ^ k) - P ≤ B + k - P := by omega
    have hmul : (bitLen (m * 2 ^ k) - P) * 2 ^ (P - 1) ≤ (B + k - P) * 2 ^ (P - 1) := Nat.mul_le_mul_right _ hle
    split <;> omega
theorem rU_q {P : Nat} {q : Int} {a : Nat} (ha : a ≠ 0) (hr : Nm.rr P q a q = 0) (up : Bool) : Nm.rU P q a q up = a := by
  rw [Nm.parts_U ha hr up, ← Nm.stU_of ha (Int.le_refl q)]
  simp
theorem uf_ne (L y : Nat) (hL : 1 < L) (hy : y ≠ 0) : uf L y ≠ 0 := by
  have h := uf_lt L hL (x := 0) (y := y) (by omega)
  rw [uf_zero L hL] at h; omega
end Fd
set_option linter.unusedSimpArgs false
open Go.RowKit Go.Deep
namespace TCn
theorem four_cell {x y : Int} (w : World) {w' : World} {rb : Nat} {t : TypeId} (hg : (w.alloc (.cells #[.int .i64 x, .int .i64 y, .int .i64 (-9223372036854775808), .int .i64 9223372036854775807] t)).grownBy w' (some rb)) (hne : rb < w.heap.size) (k : Nat) (hk : k < 4) :
    ∃ d : Int, w'.cell? ⟨w.heap.size, k, none⟩ = some (.int .i64 d) := by
  have e := hg.block w.heap.size (by simp) (by simp; omega)
  have h : ∀ j, w'.cell? ⟨w.heap.size, j, none⟩ = (#[.int .i64 x, .int .i64 y, .int .i64 (-9223372036854775808), .int .i64 9223372036854775807] : Array Value)[j]? := fun j => by
    rw [World.cell?_of_block (a := ⟨w.heap.size, j, none⟩) e]
    exact World.cell?_alloc_new w _ _ j
  rw [h k]
  rcases (show k = 0 ∨ k = 1 ∨ k = 2 ∨ k = 3 by omega) with rfl | rfl | rfl | rfl
  · exact ⟨x, rfl⟩
  · exact ⟨y, rfl⟩
  · exact ⟨_, rfl⟩
  · exact ⟨_, rfl⟩
theorem near_any (rb : Nat) (ca : Option Addr) (cc : Nat) (cs : List Int) (lo hi : Int) (w : World) (hr : RD w rb ca cc cs) (h0 : 0 ≤ lo) (h1 : lo ≤ hi) (h2 : hi ≤ 1000000) :
    Calls Tryd.prog 144 #[.pointer (some ⟨rb, 0, none⟩), .int .i64 lo, .int .i64 hi] w fun e w' => ∃ v : Int, e = .returned (.int .i64 v) ∧ RD w' rb ca cc cs ∧ w.grownBy w' (some rb) := by
  go_enter Tryd.func144, Tryd.ntmps144
  go_wp2_with fail
  refine (below_any rb ca cc cs 8 _ hr (by decide) (by decide)).mono ?_
  rintro e w1 ⟨v, rfl, v0, v1, hr1, hg1⟩
  rcases (show v = 0 ∨ v = 1 ∨ 1 < v by omega) with rfl | rfl | hv
  · go_wp2
    go_ret
    exact ⟨_, rfl, hr1, hg1⟩
  · go_wp2
    go_ret
    exact ⟨_, rfl, hr1, hg1⟩
  · have e0 : (v == 0) = false := by simp; omega
    have e1 : (v == 1) = false := by simp; omega
    have e2 : decide (hi < lo) = false := by simp; omega
    have W1 : IntKind.u64.wrap (hi - lo + 1) = hi - lo + 1 := by rw [IntKind.wrap_u64]; omega
    have W2 : (hi - lo + 1 == 0) = false := by simp; omega
    have CW := hid (word_any rb ca cc cs _ hr1)
    go_wp2_with fail
    refine CW.out.mono ?_
    rintro e w2 ⟨u, rfl, u0, u1, hr2, hg2⟩
    go_wp2
    go_ret
    exact ⟨_, rfl, hr2, grown_trans hg1 hg2⟩
theorem off_any (rb : Nat) (ca : Option Addr) (cc : Nat) (cs : List Int) (lo hi : Int) (w : World) (hr : RD w rb ca cc cs) (h0 : 0 ≤ lo) (h1 : lo ≤ hi) (h2 : hi ≤ 1000000) :
    Calls Tryd.prog 82 #[.pointer (some ⟨rb, 0, none⟩), .int .i64 lo, .int .i64 hi] w fun e w' => ∃ v : Int, e = .returned (.int .i64 v) ∧ RD w' rb ca cc cs ∧ w.grownBy w' (some rb) := by
  go_enter Tryd.func82, Tryd.ntmps82
  go_wp2_with fail
  refine (once_any rb ca cc cs 24 _ hr (by decide) (by decide)).mono ?_
  rintro e w1 ⟨v, rfl, hr1, hg1⟩
  cases v
  · go_wp2_with fail
    refine (near_any rb ca cc cs lo hi _ hr1 h0 h1 h2).mono ?_
    rintro e w2 ⟨u, rfl, hr2, hg2⟩
    go_wp2
    go_ret
    exact ⟨_, rfl, hr2, grown_trans hg1 hg2⟩
  · have l1 := hr1.lt
    go_wp2_with fail
    refine (below_any rb ca cc cs 4 _ (hr1.alloc _) (by decide) (by decide)).mono ?_
    rintro e w3 ⟨kz, rfl, k0, k1, hr3, hg3⟩
    obtain ⟨k, rfl⟩ := Int.eq_ofNat_of_zero_le k0
    obtain ⟨d, hd⟩ := four_cell w1 hg3 l1 k (by omega)
    go_wp2
    go_ret
    exact ⟨d, rfl, hr3, grown_trans (grown_alloc hg1 _) hg3⟩
end TCn
/-- The step, as the program counts it. -/
theorem step_rn (P : Nat) (q : Int) (a : Nat) (e : Int) : max (e + (bitLen a : Int) - P) q - e = Nm.rn P q a e := by unfold Nm.rn; omega
theorem sM_r1 {P : Nat} {q : Int} {mode : Int} {ng : Bool} {a : Nat} {e : Int} (ha : a ≠ 0) :
    sM (fun od h ng => upB mode od h ng) ng a (Nm.rn P q a e) = (Nm.r1 P q a e (upB mode (((Nm.rm P q a e : Nat) : Int) % 2 == 1) (Nm.rh P q a e) ng) : Nat) := by
  unfold sM Nm.r1
  have hrm : Nm.sh a (-Nm.rn P q a e) = Nm.rm P q a e := rfl
  rw [hrm]
  by_cases hr : Nm.rr P q a e = 0
  · rw [if_pos ((Nm.rr_tz ha).1 hr), if_neg (by simp [hr])]
  · rw [if_neg (fun h => hr ((Nm.rr_tz ha).2 h))]
    have hh : hI a (Nm.rn P q a e) = Nm.rh P q a e := by
      unfold hI; rw [Nm.impl_half ha hr]
    rw [hh]
    cases hu : upB mode (((Nm.rm P q a e : Nat) : Int) % 2 == 1) (Nm.rh P q a e) ng
    · show (if upB mode (((Nm.rm P q a e : Nat) : Int) % 2 == 1) (Nm.rh P q a e) ng = true then _ else _) = _
      rw [hu]; simp
    · show (if upB mode (((Nm.rm P q a e : Nat) : Int) % 2 == 1) (Nm.rh P q a e) ng = true then _ else _) = _
      rw [hu, if_pos rfl, if_pos ⟨hr, rfl⟩]; simp
theorem fp_rd {P I : Nat} {q ones S : Int} {mode : Int} {ng : Bool} {a : Nat} {e : Int} (ha : a ≠ 0) (hP : 1 ≤ P) (hP2 : P ≤ 100) (hq : -2000 ≤ q) (hq0 : q ≤ 0) (hI : (I : Int) = ones * (2 ^ (P - 1) : Nat)) (ho : 3 ≤ ones) (ho2 : ones ≤ 2100) :
    fpO P q ones (Nm.r1 P q a e (upB mode (((Nm.rm P q a e : Nat) : Int) % 2 == 1) (Nm.rh P q a e) ng) : Nat) (Nm.rn P q a e + e) = Nm.flo P I (rdU P q mode ng a e) ∧
    (Nm.flo P I (rdU P q mode ng a e) = true → fpB P q ones S ng (Nm.r1 P q a e (upB mode (((Nm.rm P q a e : Nat) : Int) % 2 == 1) (Nm.rh P q a e) ng) : Nat) (Nm.rn P q a e + e) = sgn S (Nm.flb P (rdU P q mode ng a e) : Nat) ng) := by
  have hIp : 0 < I := by
    have hp := Nm.pw_pos2 (P - 1)
    have : (0 : Int) < ones * (2 ^ (P - 1) : Nat) := Int.mul_pos (by omega) (by omega)
    omega
  have hqn : q - e ≤ Nm.rn P q a e := by unfold Nm.rn; omega
  unfold rdU
  generalize upB mode (((Nm.rm P q a e : Nat) : Int) % 2 == 1) (Nm.rh P q a e) ng = up at *
  have key : fpO P q ones (Nm.r1 P q a e up : Nat) (Nm.rn P q a e + e) = Nm.flo P I (Nm.rU P q a e up) := by
    unfold fpO
    rw [decide_eq_true (show (0 : Int) ≤ (Nm.r1 P q a e up : Nat) by omega), decide_eq_true (show -5000 ≤ Nm.rn P q a e + e by omega)]
    by_cases hbig : 5000 < Nm.rn P q a e + e
    · rw [decide_eq_false (show ¬ Nm.rn P q a e + e ≤ 5000 by omega), Nm.big_no ha hP hq hq0 hP2 hbig]; rfl
    · rw [decide_eq_true (show Nm.rn P q a e + e ≤ 5000 by omega)]
      by_cases h1 : Nm.r1 P q a e up = 0
      · rw [(Nm.r_zero h1 hIp).1, h1]; rfl
      · rw [decide_eq_false (show ¬ ((Nm.r1 P q a e up : Nat) : Int) = 0 by omega), Nm.r_U h1]
        have hin := Nm.r_in (P := P) (q := q) (a := a) (e := e) (up := up) hP h1
        rw [Nm.st_o h1 hin hP hI ho ho2, Int.toNat_natCast]
        unfold Nm.stOk
        rw [hin]; simp
  refine ⟨key, fun hf => ?_⟩
  unfold fpB
  rw [key, hf, if_pos rfl]
  by_cases h1 : Nm.r1 P q a e up = 0
  · rw [(Nm.r_zero h1 hIp).2, if_pos (by omega)]; rfl
  · rw [if_neg (by omega), Nm.r_U h1, Int.toNat_natCast]
theorem ov_up {mode : Int} (h : modeB mode = true) (ng : Bool) : upB mode false 1 ng = !ovB mode ng := by
  rcases mode_cases h with rfl | rfl | rfl | rfl | rfl | rfl <;> cases ng <;> rfl
end Go.Proofs.YtpalbhkihheogaaDoor
