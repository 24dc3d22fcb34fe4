/-
  What is needed of Uf, RN, RI, RK, RL, EO, FD.
-/
import Derived.Test.YtmcflggionkhlaaGreatDoorC21
import Derived.Test.YtmcflggionkhlaaGreatDoorC32
import Derived.Test.YtmcflggionkhlaaGreatDoorC37
set_option maxHeartbeats 16000000
set_option maxRecDepth 1000000
namespace Go.Proofs.YtmcflggionkhlaaGreatDoor
set_option linter.unusedVariables false
namespace Fd
def uf (L y : Nat) : Nat := if y < L then y else (y % L + L) * 2 ^ (y / L - 1)
theorem uf_step (L : Nat) (hL : 1 < L) (y : Nat) : uf L y < uf L (y + 1) := by
  unfold uf
  by_cases h1 : y < L
  · rw [if_pos h1]
    by_cases h2 : y + 1 < L
    · rw [if_pos h2]; omega
    · rw [if_neg h2]
      have : y + 1 = L := by omega
      rw [this, Nat.mod_self, Nat.div_self (by omega)]; simp; exact h1
  · have h2 : ¬ y + 1 < L := by omega
    rw [if_neg h1, if_neg h2]
    have hq : 1 ≤ y / L := Nat.div_pos (by omega) (by omega)
    have hm : y % L < L := Nat.mod_lt _ (by omega)
    have hd := Nat.div_add_mod y L
    by_cases h3 : y % L + 1 = L
    · have e : y + 1 = L * (y / L + 1) := by rw [Nat.mul_add]; omega
      rw [e, Nat.mul_mod_right, Nat.mul_div_cancel_left _ (by omega)]
      obtain ⟨q, hq'⟩ : ∃ q, y / L = q + 1 := ⟨y / L - 1, by omega⟩
      rw [hq']
      simp only [Nat.add_sub_cancel, Nat.zero_add]
      rw [Nat.pow_succ, show L * (2 ^ q * 2) = (L + L) * 2 ^ q by rw [Nat.add_mul]; rw [Nat.mul_comm (2 ^ q) 2, ← Nat.mul_assoc, Nat.mul_comm L 2, Nat.mul_assoc, Nat.two_mul]]
      exact Nat.mul_lt_mul_of_pos_right (by omega) (Nat.two_pow_pos _)
    · have e : y + 1 = L * (y / L) + (y % L + 1) := by omega
      have hlt : y % L + 1 < L := by omega
      have e1 : (y + 1) / L = y / L := by
        conv => lhs; rw [e]
        rw [Nat.mul_add_div (by omega), Nat.div_eq_of_lt hlt]; rfl
      have e2 : (y + 1) % L = y % L + 1 := by
        conv => lhs; rw [e]
        rw [Nat.mul_add_mod, Nat.mod_eq_of_lt hlt]
      rw [e1, e2]
      exact Nat.mul_lt_mul_of_pos_right (by omega) (Nat.two_pow_pos _)
theorem uf_mono (L : Nat) (hL : 1 < L) (x : Nat) : ∀ d, uf L x < uf L (x + d + 1)
  | 0 => uf_step L hL x
  | d + 1 => Nat.lt_trans (uf_mono L hL x d) (uf_step L hL _)
theorem uf_lt (L : Nat) (hL : 1 < L) {x y : Nat} (h : x < y) : uf L x < uf L y := by
  have := uf_mono L hL x (y - x - 1)
  rwa [show x + (y - x - 1) + 1 = y by omega] at this
theorem uf_zero (L : Nat) (hL : 1 < L) : uf L 0 = 0 := by unfold uf; rw [if_pos (by omega)]
theorem uf_cut (P : Nat) (hP : 1 ≤ P) (y : Nat) : bitLen (uf (2 ^ (P - 1)) y) - P = y / 2 ^ (P - 1) - 1 ∧ uf (2 ^ (P - 1)) y / 2 ^ (bitLen (uf (2 ^ (P - 1)) y) - P) = (if y < 2 ^ (P - 1) then y else y % 2 ^ (P - 1) + 2 ^ (P - 1)) ∧ uf (2 ^ (P - 1)) y % 2 ^ (bitLen (uf (2 ^ (P - 1)) y) - P) = 0 := by
  have hp := Nat.two_pow_pos (P - 1)
  have h2 : 2 ^ P = 2 * 2 ^ (P - 1) := by
    obtain ⟨k, rfl⟩ : ∃ k, P = k + 1 := ⟨P - 1, by omega⟩
    rw [Nat.add_sub_cancel, Nat.pow_succ, Nat.mul_comm]
  obtain ⟨L, hL⟩ : ∃ L, L = 2 ^ (P - 1) := ⟨_, rfl⟩
  have hb : ∀ a, a < L → bitLen a ≤ P := fun a ha => (Nm.bl_le_iff a P).2 (by omega)
  have hc : ∀ a, L ≤ a → a < 2 * L → bitLen a = P := fun a h1 h2' => by
    have u := (Nm.bl_le_iff a P).2 (by omega)
    have v : ¬ bitLen a ≤ P - 1 := fun h => by have := (Nm.bl_le_iff a (P - 1)).1 h; omega
    omega
  rw [← hL] at hp ⊢
  clear hL h2
  unfold uf
  by_cases h : y < L
  · rw [if_pos h, if_pos h, Nat.div_eq_of_lt h]
    have := hb y h
    have e : bitLen y - P = 0 := by omega
    rw [e]; simp [Nat.mod_one]
  · rw [if_neg h, if_neg h]
    have hm := Nat.mod_lt y hp
    have hq : 1 ≤ y / L := Nat.div_pos (by omega) (by omega)
    have hB := hc (y % L + L) (by omega) (by omega)
    have hB2 := Nm.bl_mul (a := y % L + L) (by omega) (y / L - 1)
    have e : bitLen ((y % L + L) * 2 ^ (y / L - 1)) - P = y / L - 1 := by omega
    rw [e]
    exact ⟨rfl, Nat.mul_div_cancel _ (Nat.two_pow_pos _), Nat.mul_mod_left _ _⟩
theorem uf_flb (P : Nat) (hP : 1 ≤ P) (y : Nat) : Nm.flb P (uf (2 ^ (P - 1)) y) = y := by
  obtain ⟨h1, h2, h3⟩ := uf_cut P hP y
  unfold Nm.flb
  rw [h2, h1]
  have hp := Nat.two_pow_pos (P - 1)
  generalize 2 ^ (P - 1) = L at *
  by_cases h : y < L
  · rw [if_pos h, if_neg (by omega)]
  · rw [if_neg h, if_pos (by omega)]
    have hd := Nat.div_add_mod y L
    obtain ⟨k, hk⟩ : ∃ k, y / L = k + 1 := ⟨y / L - 1, by have : 1 ≤ y / L := Nat.div_pos (by omega) (by omega); omega⟩
    rw [hk] at hd ⊢
    rw [Nat.mul_add, Nat.mul_one, Nat.mul_comm] at hd
    simp only [Nat.add_sub_cancel]; omega
theorem uf_flo (P I : Nat) (hP : 1 ≤ P) (y : Nat) (hI : y < I) (ho : I ≤ 2100 * 2 ^ (P - 1)) : Nm.flo P I (uf (2 ^ (P - 1)) y) = true := by
  obtain ⟨h1, h2, h3⟩ := uf_cut P hP y
  unfold Nm.flo
  rw [uf_flb P hP y]
  have hd := Nat.div_add_mod (uf (2 ^ (P - 1)) y) (2 ^ (bitLen (uf (2 ^ (P - 1)) y) - P))
  have e1 : bitLen (uf (2 ^ (P - 1)) y) - P ≤ 2100 := by
    rw [h1]
    have : y / 2 ^ (P - 1) < 2100 := (Nat.div_lt_iff_lt_mul (Nat.two_pow_pos _)).2 (by omega)
    omega
  rw [h3, Nat.add_zero, Nat.mul_comm] at hd
  rw [hd]
  simp [e1, hI]
theorem uf_rr (P : Nat) (hP : 1 ≤ P) (q : Int) (y : Nat) : Nm.rr P q (uf (2 ^ (P - 1)) y) q = 0 := by
  obtain ⟨h1, h2, h3⟩ := uf_cut P hP y
  have e : (Nm.rn P q (uf (2 ^ (P - 1)) y) q).toNat = bitLen (uf (2 ^ (P - 1)) y) - P := by unfold Nm.rn; omega
  unfold Nm.rr
  rw [e, h3]
theorem flb_uf (P I u : Nat) (hP : 1 ≤ P) (h : Nm.flo P I u = true) : uf (2 ^ (P - 1)) (Nm.flb P u) = u := by
  unfold Nm.flo at h
  simp only [Bool.and_eq_true, decide_eq_true_eq] at h
  obtain ⟨⟨-, h1⟩, -⟩ := h
  have hm := Nm.flm_lt P u
  have h2 : 2 ^ P = 2 * 2 ^ (P - 1) := by
    obtain ⟨k, rfl⟩ : ∃ k, P = k + 1 := ⟨P - 1, by omega⟩
    rw [Nat.add_sub_cancel, Nat.pow_succ, Nat.mul_comm]
  have hp := Nat.two_pow_pos (P - 1)
  unfold Nm.flb
  by_cases hc : 2 ^ (P - 1) ≤ u / 2 ^ (bitLen u - P)
  · rw [if_pos hc]
    generalize u / 2 ^ (bitLen u - P) = M at *
    generalize bitLen u - P = k at *
    generalize 2 ^ (P - 1) = L at *
    unfold uf
    have e : M + k * L = L * (k + 1) + (M - L) := by rw [Nat.mul_add, Nat.mul_comm L k]; omega
    have e1 : (M + k * L) / L = k + 1 := by rw [e, Nat.mul_add_div hp, Nat.div_eq_of_lt (by omega)]
    have e2 : (M + k * L) % L = M - L := by rw [e, Nat.mul_add_mod, Nat.mod_eq_of_lt (by omega)]
    rw [if_neg (by omega), e1, e2, Nat.sub_add_cancel hc, Nat.add_sub_cancel, h1]
  · rw [if_neg hc]
    have hk : bitLen u - P = 0 := by
      by_cases h0 : bitLen u - P = 0
      · exact h0
      · exfalso; apply hc
        have hu : u ≠ 0 := fun h => by subst h; exact h0 (by rw [Nm.bl_zero]; exact Nat.zero_sub _)
        have hg := Nm.bl_ge hu
        rw [Nat.le_div_iff_mul_le (Nat.two_pow_pos _), ← Nat.pow_add]
        rw [show P - 1 + (bitLen u - P) = bitLen u - 1 by omega]
        exact hg
    unfold uf
    rw [if_pos (by omega), hk, Nat.pow_zero, Nat.div_one]
theorem rU_q {P : Nat} {q : Int} {a : Nat} (ha : a ≠ 0) (hr : Nm.rr P q a q = 0) (up : Bool) : Nm.rU P q a q up = a := by
  rw [Nm.parts_U ha hr up, ← Nm.stU_of ha (Int.le_refl q)]
  simp
theorem uf_ne (L y : Nat) (hL : 1 < L) (hy : y ≠ 0) : uf L y ≠ 0 := by
  have h := uf_lt L hL (x := 0) (y := y) (by omega)
  rw [uf_zero L hL] at h; omega
end Fd
set_option linter.unusedSimpArgs false
namespace Nm
/-- What is cut is no more than the greatest place. -/
theorem flb_mono' {P u v : Nat} (hP : 1 ≤ P) (h : u ≤ v) : flb P u ≤ flb P v := by
  have hbl := bl_mono h
  have mu := flm_lt P u
  have mv := flm_lt P v
  have h2 : 2 ^ P = 2 * 2 ^ (P - 1) := by
    obtain ⟨k, rfl⟩ : ∃ k, P = k + 1 := ⟨P - 1, by omega⟩
    rw [Nat.add_sub_cancel, Nat.pow_succ, Nat.mul_comm]
  have hp := Nat.two_pow_pos (P - 1)
  have ge : ∀ w : Nat, 0 < bitLen w - P → 2 ^ (P - 1) ≤ w / 2 ^ (bitLen w - P) := fun w hw => by
    have hw0 : w ≠ 0 := fun h => by subst h; rw [bl_zero] at hw; omega
    rw [Nat.le_div_iff_mul_le (Nat.two_pow_pos _), ← Nat.pow_add, show P - 1 + (bitLen w - P) = bitLen w - 1 by omega]
    exact bl_ge hw0
  have gv := ge v
  rcases Nat.lt_or_eq_of_le (show bitLen u - P ≤ bitLen v - P by omega) with hlt | heq
  · have hv := gv (by omega)
    unfold flb
    rw [if_pos hv]
    have hmul : (bitLen u - P + 1) * 2 ^ (P - 1) ≤ (bitLen v - P) * 2 ^ (P - 1) := Nat.mul_le_mul_right _ (by omega)
    rw [Nat.add_mul, Nat.one_mul] at hmul
    split <;> omega
  · have hd : u / 2 ^ (bitLen u - P) ≤ v / 2 ^ (bitLen v - P) := by rw [heq]; exact Nat.div_le_div_right h
    unfold flb
    rw [heq] at hd ⊢
    split <;> split <;> omega
theorem flb_lt_flo {P I u v : Nat} (h : u ≤ v) (hP : 1 ≤ P) (hx : u / 2 ^ (bitLen u - P) * 2 ^ (bitLen u - P) = u) (hf : flo P I v = true) (hm : flb P u ≤ flb P v) : flo P I u = true := by
  unfold flo at hf ⊢
  simp only [Bool.and_eq_true, decide_eq_true_eq] at hf ⊢
  have := bl_mono h
  exact ⟨⟨by omega, hx⟩, by omega⟩
end Nm
namespace Fd
open Nm
/-- A difference of two floats' units that is no farther from 0 than both are is a float's. -/
theorem near_flo {P I : Nat} (hP : 2 ≤ P) (hI : I ≤ 2100 * 2 ^ (P - 1)) (y1 y2 : Nat) (h1 : y1 < I) (h2 : y2 < I) (hu : uf (2 ^ (P - 1)) y1 ≤ 2 * uf (2 ^ (P - 1)) y2) (hv : uf (2 ^ (P - 1)) y2 ≤ 2 * uf (2 ^ (P - 1)) y1) (d : Nat) (hd : d + uf (2 ^ (P - 1)) y2 = uf (2 ^ (P - 1)) y1 ∨ d + uf (2 ^ (P - 1)) y1 = uf (2 ^ (P - 1)) y2) :
    ∃ y, y < I ∧ uf (2 ^ (P - 1)) y = d := by
  -- both in places of 2 to the c1 and the c2
  have key : ∀ z w : Nat, z < I → d ≤ uf (2 ^ (P - 1)) z → z / 2 ^ (P - 1) - 1 ≤ w / 2 ^ (P - 1) - 1 → (d + uf (2 ^ (P - 1)) w = uf (2 ^ (P - 1)) z ∨ d + uf (2 ^ (P - 1)) z = uf (2 ^ (P - 1)) w) → ∃ y, y < I ∧ uf (2 ^ (P - 1)) y = d := by
    intro z w hz hdz hc hdd
    obtain ⟨a1, a2, a3⟩ := uf_cut P (by omega) z
    obtain ⟨b1, b2, b3⟩ := uf_cut P (by omega) w
    have hdv : 2 ^ (z / 2 ^ (P - 1) - 1) ∣ d := by
      have e1 : 2 ^ (z / 2 ^ (P - 1) - 1) ∣ uf (2 ^ (P - 1)) z := by rw [← a1]; exact Nat.dvd_of_mod_eq_zero a3
      have e2 : 2 ^ (z / 2 ^ (P - 1) - 1) ∣ uf (2 ^ (P - 1)) w := Nat.dvd_trans (Nat.pow_dvd_pow 2 hc) (by rw [← b1]; exact Nat.dvd_of_mod_eq_zero b3)
      rcases hdd with h | h
      · exact (Nat.dvd_add_left e2).1 (by rw [h]; exact e1)
      · exact (Nat.dvd_add_left e1).1 (by rw [h]; exact e2)
    have hbl : bitLen d - P ≤ z / 2 ^ (P - 1) - 1 := by rw [← a1]; have := bl_mono hdz; omega
    have hx : d / 2 ^ (bitLen d - P) * 2 ^ (bitLen d - P) = d := Nat.div_mul_cancel (Nat.dvd_trans (Nat.pow_dvd_pow 2 hbl) hdv)
    have hfz := uf_flo P I (by omega) z hz hI
    have hbz := uf_flb P (by omega) z
    by_cases h0 : d = 0
    · exact ⟨0, by omega, by rw [h0]; exact uf_zero _ (by
        have := Nat.pow_le_pow_right (n := 2) (by decide) (show 1 ≤ P - 1 by omega); omega)⟩
    · have hmono : flb P d ≤ flb P (uf (2 ^ (P - 1)) z) := flb_mono' (by omega) hdz
      have hfd := flb_lt_flo (I := I) hdz (by omega) hx hfz hmono
      refine ⟨flb P d, by omega, flb_uf P I d (by omega) hfd⟩
  rcases Nat.le_total (y1 / 2 ^ (P - 1) - 1) (y2 / 2 ^ (P - 1) - 1) with hc | hc
  · exact key y1 y2 h1 (by omega) hc hd
  · exact key y2 y1 h2 (by omega) hc (hd.symm)
end Fd
open Go.RowKit Go.Deep
theorem snan_32 (w : World) :
    Calls Tryz.prog 92 #[.int .i64 32] w fun e w' => e = .returned (.int .u64 2143289344) ∧ Below w.heap.size w w' := by
  go_enter Tryz.func92, Tryz.ntmps92
  go_wp2
  go_ret
  exact ⟨rfl, (by repeat (first | exact bz0 _ _ | refine bz1 ?_ | refine bz2 ?_ _ | refine bz3 ?_ _ | refine bz5 ?_ _ | refine bz6 ?_ _))⟩
theorem snan_64 (w : World) :
    Calls Tryz.prog 92 #[.int .i64 64] w fun e w' => e = .returned (.int .u64 9221120237041090560) ∧ Below w.heap.size w w' := by
  go_enter Tryz.func92, Tryz.ntmps92
  go_wp2
  go_ret
  exact ⟨rfl, (by repeat (first | exact bz0 _ _ | refine bz1 ?_ | refine bz2 ?_ _ | refine bz3 ?_ _ | refine bz5 ?_ _ | refine bz6 ?_ _))⟩
attribute [local go_sem ↓] Go.wp_at_zero Go.wp_at_succ
/-- What both answer: a wide, and whether it is finite. -/
def Ans (w w' : World) (r : Ending) (fm x : Int) : Prop := ∃ a' c', r = .returned (.tuple #[.agg #[.bool (Nm.wn (unI fm x)), .slice a' (Nm.wl (unI fm x)).length c'], .bool (finB fm x)]) ∧ Own w' w.heap.size a' c' (Nm.wl (unI fm x)) ∧ Below w.heap.size w w'
theorem ans_no {w w' : World} {fm x : Int} (h : finB fm x = false) (hb : Below w.heap.size w w') : Ans w w' (.returned (.tuple #[.agg #[.bool false, .slice none 0 0], .bool false])) fm x := by
  have e1 : Nm.wl (unI fm x) = [] := by rw [un_no h]; exact Nm.lim_zero
  have e2 : Nm.wn (unI fm x) = false := by rw [un_no h]; decide
  refine ⟨none, 0, ?_, ?_, hb⟩
  · rw [e1, e2, h]; rfl
  · rw [e1]; exact Own.nil _ _
theorem units_impl (fm x : Int) (w : World) (hT : Tab w) (x0 : 0 ≤ x) (x1 : x < 18446744073709551616) :
    Calls Tryz.prog 19 #[.int .i64 fm, .int .u64 x] w fun r w' => Ans w w' r fm x := by
  have CF := hid (fun w' h => impl_parts fm x w' h x0 x1)
  cases hf : finB fm x
  · rw [hf] at CF
    have HF := hid hf
    clear hf
    go_enter Tryz.func19, Tryz.ntmps19
    go_wp2_with fail
    refine (CF.out _ (hT.al _)).mono ?_
    rintro r w1 ⟨rfl, hb1⟩
    obtain ⟨c0, c1, f0, f1⟩ := (R2.new w (.bool false) (.slice none 0 0) 31).below hb1
    have lw1 : w.heap.size < w1.heap.size := World.block_lt_of_cell? w1 _ c0
    go_wp2
    exact bodyPost_ret (v := .tuple #[.agg #[.bool false, .slice none 0 0], .bool false]) (by simp [results, Tryz.results19, go_sem, c0, c1, lw1]) rfl (ans_no HF.out (by repeat (first | exact bz0 _ _ | refine bz1 ?_ | refine bz2 ?_ _ | refine bz3 ?_ _ | refine bz4 ?_ hb1 | refine bz5 ?_ _ | refine bz6 ?_ _ | refine bz7 ?_ hb1)))
  · have hfm := fin_fmt hf
    obtain ⟨G, L, z, E, Q, hz, hE, hQ, z0, z1, e0, e1, q0, q1, d0, d1, hG, hL, hd, hl2, hsh, hok, hl200⟩ := un_parts hf
    unfold Ans
    rw [hf] at CF ⊢
    have CG := hid (fun w' => signedM_z (pS fm x) z E w' z0 (by omega))
    rw [← hG, ← hL] at CG
    rw [← hz, ← hE] at CF
    have hwr : IntKind.i64.wrap (E - Q) = E - Q := by rw [IntKind.wrap_i64]; omega
    have CR := hid (fun a c w' h => wsh_impl G a c L (IntKind.i64.wrap (E - Q)) w' h hd (by omega))
    have hin : inZ (IntKind.i64.wrap (E - Q)) (-10000) 10000 = true := by rw [hwr]; simp [inZ]; omega
    have hfit : Nm.fits (unI fm x) = true := by unfold Nm.fits; exact decide_eq_true hl200
    have hval : Nm.shV G (Nm.val L) (IntKind.i64.wrap (E - Q)) = unI fm x := by rw [hwr]; exact hsh
    rw [hok, hin, hval, Bool.and_self, (op_yes _).1, (op_yes _).2.1, (op_yes _).2.2, (out_fits hfit).1, (out_fits hfit).2, hfit] at CR
    obtain ⟨sg, hsg⟩ : ∃ sg, sg = pS fm x := ⟨_, rfl⟩
    rw [← hsg] at CG CF
    obtain ⟨G2, hG2⟩ : ∃ G2, G2 = Nm.wn (unI fm x) := ⟨_, rfl⟩
    obtain ⟨L2, hL2⟩ : ∃ L2, L2 = Nm.wl (unI fm x) := ⟨_, rfl⟩
    rw [← hG2, ← hL2] at CR ⊢
    clear hf hz hE hG hL hd hl2 hsh hok hl200 hsg hG2 hL2 hwr hin hfit hval
    rcases fmt_cases hfm with rfl | rfl
    · have hQ' : Q = (-149) := hQ
      clear hfm hQ
      subst hQ'
      go_enter Tryz.func19, Tryz.ntmps19
      go_wp2_with fail
      refine (CF.out _ (hT.al _)).mono ?_
      rintro r w1 ⟨rfl, hb1⟩
      have c1 := ((R2.new w (.bool false) (.slice none 0 0) 31).below hb1).alloc (.cells #[.bool sg, .int .i64 z, .int .i64 E] 77)
      have p1 := R3.new w1 (.bool sg) (.int .i64 z) (.int .i64 E) 77
      have T1 := ((hT.al _).below hb1).al (.cells #[.bool sg, .int .i64 z, .int .i64 E] 77)
      have lw1 : w.heap.size < w1.heap.size := by have := hb1.size; simp at this; omega
      go_wp2_with fail
      refine (sizes32 _ T1).mono ?_
      rintro r w2 ⟨rfl, hb2⟩
      have c2 := (c1.below hb2).alloc (.cells #[.int .u64 23, .int .u64 255, .int .i64 (-149)] 81)
      have p2 := (p1.below hb2).al (.cells #[.int .u64 23, .int .u64 255, .int .i64 (-149)] 81)
      have s2 := R3.new w2 (.int .u64 23) (.int .u64 255) (.int .i64 (-149)) 81
      have lw2 : w1.heap.size < w2.heap.size := by have := hb2.size; simp at this; omega
      obtain ⟨W, hW⟩ : ∃ W, W = w2.alloc (.cells #[.int .u64 23, .int .u64 255, .int .i64 (-149)] 81) := ⟨_, rfl⟩
      have belw : Below w.heap.size w W := by rw [hW]; exact (by repeat (first | exact bz0 _ _ | refine bz1 ?_ | refine bz2 ?_ _ | refine bz3 ?_ _ | refine bz4 ?_ hb2 | refine bz4 ?_ hb1 | refine bz5 ?_ _ | refine bz6 ?_ _ | refine bz7 ?_ hb2 | refine bz7 ?_ hb1))
      have lW : w2.heap.size < W.heap.size := by rw [hW]; simp
      go_wp2_with fail
      rw [← hW] at c2 p2 s2 ⊢
      clear hW hb1 hb2 c1 p1 T1
      obtain ⟨p10, p11, p12, p1f, p1g, p1h⟩ := p2
      obtain ⟨s10, s11, s12, s1f, s1g, s1h⟩ := s2
      have pd0 : W.drew.cell? ⟨w1.heap.size, 0, none⟩ = some (.bool sg) := p10
      have pd1 : W.drew.cell? ⟨w1.heap.size, 1, none⟩ = some (.int .i64 z) := p11
      have pd2 : W.drew.cell? ⟨w1.heap.size, 2, none⟩ = some (.int .i64 E) := p12
      have sd2 : W.drew.cell? ⟨w2.heap.size, 2, none⟩ = some (.int .i64 (-149)) := s12
      go_region_held3 (fun w' => w'.cell? ⟨w1.heap.size, 0, none⟩ = some (.bool sg) ∧ w'.cell? ⟨w1.heap.size, 1, none⟩ = some (.int .i64 z) ∧ w'.cell? ⟨w1.heap.size, 2, none⟩ = some (.int .i64 E) ∧ w'.cell? ⟨w2.heap.size, 2, none⟩ = some (.int .i64 (-149)))
        (first
          | with_reducible assumption
          | with_reducible exact ⟨p10, p11, p12, s12⟩
          | with_reducible exact ⟨pd0, pd1, pd2, sd2⟩
          | with_reducible exact ⟨rr1.c0, rr1.c1, rr1.c2, sr1.c2⟩
          | with_reducible exact ⟨rr2.c0, rr2.c1, rr2.c2, sr2.c2⟩
          | with_reducible exact ⟨(ss2 _ _).c0, (ss2 _ _).c1, (ss2 _ _).c2, (st2 _ _).c2⟩)
        (first
          | (go_at_call 66; refine (CG.out _).mono ?_; rintro r q1' ⟨da, fa, rfl, hp1, hq1⟩; have rr1 := R3.below (R3.dr ⟨p10, p11, p12, p1f, p1g, p1h⟩) hq1; have sr1 := R3.below (R3.dr ⟨s10, s11, s12, s1f, s1g, s1h⟩) hq1; have cc1 := c2.drew.below hq1; have hB1 : Below W.heap.size W q1' := bel_go (Below.drew (Below.refl _ _)) hq1)
          | (go_at_call 20; refine (CR.out da fa _ hp1.sl).mono ?_; rintro r q2' ⟨db, fb, rfl, hp2, hq2⟩; have rr2 := R3.below rr1 hq2; have sr2 := R3.below sr1 hq2; have ss2 := fun u v => (R3.other rr2 (p := ⟨w.heap.size, 0, none⟩) (by simp; omega) u).other (p := ⟨w.heap.size, 1, none⟩) (by simp; omega) v; have st2 := fun u v => (R3.other sr2 (p := ⟨w.heap.size, 0, none⟩) (by simp; omega) u).other (p := ⟨w.heap.size, 1, none⟩) (by simp; omega) v; have cc2 := cc1.below hq2; have hB2 : Below W.heap.size W q2' := bel_go hB1 hq2; obtain ⟨cc20, cc21, cc2f, cc2g⟩ := cc2))
      all_goals go_wp2
      all_goals
        have l1 := hB1.size
        refine bodyPost_ret (v := .tuple #[.agg #[.bool G2, .slice db L2.length fb], .bool true]) (by simp [results, Tryz.results19, go_sem, cc20, cc21]) rfl ⟨db, fb, rfl, ?_, ?_⟩
        · exact Own.base ((hp2.setBelow (by simp; omega) _).setBelow (by simp; omega) _) (by omega)
        · exact Below.setCell (Below.setCell (belw.trans (hB2.mono belw.size)) (by simp) _) (by simp) _
    · have hQ' : Q = (-1074) := hQ
      clear hfm hQ
      subst hQ'
      go_enter Tryz.func19, Tryz.ntmps19
      go_wp2_with fail
      refine (CF.out _ (hT.al _)).mono ?_
      rintro r w1 ⟨rfl, hb1⟩
      have c1 := ((R2.new w (.bool false) (.slice none 0 0) 31).below hb1).alloc (.cells #[.bool sg, .int .i64 z, .int .i64 E] 77)
      have p1 := R3.new w1 (.bool sg) (.int .i64 z) (.int .i64 E) 77
      have T1 := ((hT.al _).below hb1).al (.cells #[.bool sg, .int .i64 z, .int .i64 E] 77)
      have lw1 : w.heap.size < w1.heap.size := by have := hb1.size; simp at this; omega
      go_wp2_with fail
      refine (sizes64 _ T1).mono ?_
      rintro r w2 ⟨rfl, hb2⟩
      have c2 := (c1.below hb2).alloc (.cells #[.int .u64 52, .int .u64 2047, .int .i64 (-1074)] 81)
      have p2 := (p1.below hb2).al (.cells #[.int .u64 52, .int .u64 2047, .int .i64 (-1074)] 81)
      have s2 := R3.new w2 (.int .u64 52) (.int .u64 2047) (.int .i64 (-1074)) 81
      have lw2 : w1.heap.size < w2.heap.size := by have := hb2.size; simp at this; omega
      obtain ⟨W, hW⟩ : ∃ W, W = w2.alloc (.cells #[.int .u64 52, .int .u64 2047, .int .i64 (-1074)] 81) := ⟨_, rfl⟩
      have belw : Below w.heap.size w W := by rw [hW]; exact (by repeat (first | exact bz0 _ _ | refine bz1 ?_ | refine bz2 ?_ _ | refine bz3 ?_ _ | refine bz4 ?_ hb2 | refine bz4 ?_ hb1 | refine bz5 ?_ _ | refine bz6 ?_ _ | refine bz7 ?_ hb2 | refine bz7 ?_ hb1))
      have lW : w2.heap.size < W.heap.size := by rw [hW]; simp
      go_wp2_with fail
      rw [← hW] at c2 p2 s2 ⊢
      clear hW hb1 hb2 c1 p1 T1
      obtain ⟨p10, p11, p12, p1f, p1g, p1h⟩ := p2
      obtain ⟨s10, s11, s12, s1f, s1g, s1h⟩ := s2
      have pd0 : W.drew.cell? ⟨w1.heap.size, 0, none⟩ = some (.bool sg) := p10
      have pd1 : W.drew.cell? ⟨w1.heap.size, 1, none⟩ = some (.int .i64 z) := p11
      have pd2 : W.drew.cell? ⟨w1.heap.size, 2, none⟩ = some (.int .i64 E) := p12
      have sd2 : W.drew.cell? ⟨w2.heap.size, 2, none⟩ = some (.int .i64 (-1074)) := s12
      go_region_held3 (fun w' => w'.cell? ⟨w1.heap.size, 0, none⟩ = some (.bool sg) ∧ w'.cell? ⟨w1.heap.size, 1, none⟩ = some (.int .i64 z) ∧ w'.cell? ⟨w1.heap.size, 2, none⟩ = some (.int .i64 E) ∧ w'.cell? ⟨w2.heap.size, 2, none⟩ = some (.int .i64 (-1074)))
        (first
          | with_reducible assumption
          | with_reducible exact ⟨p10, p11, p12, s12⟩
          | with_reducible exact ⟨pd0, pd1, pd2, sd2⟩
          | with_reducible exact ⟨rr1.c0, rr1.c1, rr1.c2, sr1.c2⟩
          | with_reducible exact ⟨rr2.c0, rr2.c1, rr2.c2, sr2.c2⟩
          | with_reducible exact ⟨(ss2 _ _).c0, (ss2 _ _).c1, (ss2 _ _).c2, (st2 _ _).c2⟩)
        (first
          | (go_at_call 66; refine (CG.out _).mono ?_; rintro r q1' ⟨da, fa, rfl, hp1, hq1⟩; have rr1 := R3.below (R3.dr ⟨p10, p11, p12, p1f, p1g, p1h⟩) hq1; have sr1 := R3.below (R3.dr ⟨s10, s11, s12, s1f, s1g, s1h⟩) hq1; have cc1 := c2.drew.below hq1; have hB1 : Below W.heap.size W q1' := bel_go (Below.drew (Below.refl _ _)) hq1)
          | (go_at_call 20; refine (CR.out da fa _ hp1.sl).mono ?_; rintro r q2' ⟨db, fb, rfl, hp2, hq2⟩; have rr2 := R3.below rr1 hq2; have sr2 := R3.below sr1 hq2; have ss2 := fun u v => (R3.other rr2 (p := ⟨w.heap.size, 0, none⟩) (by simp; omega) u).other (p := ⟨w.heap.size, 1, none⟩) (by simp; omega) v; have st2 := fun u v => (R3.other sr2 (p := ⟨w.heap.size, 0, none⟩) (by simp; omega) u).other (p := ⟨w.heap.size, 1, none⟩) (by simp; omega) v; have cc2 := cc1.below hq2; have hB2 : Below W.heap.size W q2' := bel_go hB1 hq2; obtain ⟨cc20, cc21, cc2f, cc2g⟩ := cc2))
      all_goals go_wp2
      all_goals
        have l1 := hB1.size
        refine bodyPost_ret (v := .tuple #[.agg #[.bool G2, .slice db L2.length fb], .bool true]) (by simp [results, Tryz.results19, go_sem, cc20, cc21]) rfl ⟨db, fb, rfl, ?_, ?_⟩
        · exact Own.base ((hp2.setBelow (by simp; omega) _).setBelow (by simp; omega) _) (by omega)
        · exact Below.setCell (Below.setCell (belw.trans (hB2.mono belw.size)) (by simp) _) (by simp) _
end Go.Proofs.YtmcflggionkhlaaGreatDoor
namespace Go.Proofs.YtmcflggionkhlaaGreatDoor
set_option linter.unusedVariables false
set_option linter.unusedSimpArgs false
open Go.RowKit Go.Deep
theorem un_len (fm x : Int) : (Nm.wl (unI fm x)).length ≤ 200 := by
  cases hf : finB fm x
  · rw [un_no hf]; have : Nm.wl 0 = [] := Nm.lim_zero
    rw [this]; simp
  · obtain ⟨G, L, z, E, Q, hz, hE, hQ, z0, z1, e0, e1, q0, q1, d0, d1, hG, hL, hd, hl2, hsh, hok, hl200⟩ := un_parts hf
    exact hl200
theorem eneg_impl (z : Int) (a : Option Addr) (cap : Nat) (w : World) (hs : Sl .u32 w (.slice a (Nm.wl z).length cap) (Nm.wl z)) (hl : (Nm.wl z).length ≤ 200) :
    Calls Tryz.prog 73 #[.agg #[.bool (Nm.wn z), .slice a (Nm.wl z).length cap]] w fun e w' => ∃ a' c', e = .returned (.agg #[.bool (Nm.wn (-z)), .slice a' (Nm.wl (-z)).length c']) ∧ Own w' w.heap.size a' c' (Nm.wl (-z)) ∧ Below w.heap.size w w' := by
  have h := wneg_impl (Nm.wn z) a cap (Nm.wl z) w hs (Nm.wl_dg _) (by omega)
  have e : Nm.wv (!Nm.wn z) (Nm.wl z) = -z := by
    have := Nm.wv_out z
    unfold Nm.wv at this ⊢
    cases hn : Nm.wn z <;> rw [hn] at this <;> simp at this ⊢ <;> omega
  unfold negN negL at h
  rw [okB_wl hl, if_pos rfl, if_pos rfl, e] at h
  exact h
theorem eadd_impl (x y : Int) (a b : Option Addr) (cap cap' : Nat) (w : World) (hx : Sl .u32 w (.slice a (Nm.wl x).length cap) (Nm.wl x)) (hy : Sl .u32 w (.slice b (Nm.wl y).length cap') (Nm.wl y)) (lx : (Nm.wl x).length ≤ 200) (ly : (Nm.wl y).length ≤ 200) (lz : (Nm.wl (x + y)).length ≤ 200) :
    Calls Tryz.prog 72 #[.agg #[.bool (Nm.wn x), .slice a (Nm.wl x).length cap], .agg #[.bool (Nm.wn y), .slice b (Nm.wl y).length cap']] w fun e w' => ∃ a' c', e = .returned (.tuple #[.agg #[.bool (Nm.wn (x + y)), .slice a' (Nm.wl (x + y)).length c'], .bool true]) ∧ Own w' w.heap.size a' c' (Nm.wl (x + y)) ∧ Below w.heap.size w w' := by
  have h := wadd_impl (Nm.wn x) (Nm.wn y) a b cap cap' (Nm.wl x) (Nm.wl y) w hx hy (Nm.wl_dg _) (Nm.wl_dg _) (by omega) (by omega) (x + y) (by rw [Nm.wv_out, Nm.wv_out])
  have hf : Nm.fits (x + y) = true := by unfold Nm.fits; exact decide_eq_true lz
  have e4 := out_fits hf
  rw [okB_wl lx, okB_wl ly, Bool.and_self, (op_yes _).1, (op_yes _).2.1, (op_yes _).2.2, hf, e4.1, e4.2] at h
  exact h
namespace Fd
theorem big_any (ca : Option Addr) (n cc : Nat) (w : World) (hn : n ≤ 9223372036854775807) (b : Bool) (hb : b = decide (1048576 < n)) :
    Calls Tryz.prog 15 #[.slice ca n cc] w fun e w' => e = .returned (.bool b) ∧ w' = w := by
  by_cases h : 1048576 < n
  · have HB : Hid (b = true) := hid (by rw [hb]; simpa using h)
    clear hb
    go_enter Tryz.func15, Tryz.ntmps15
    go_wp2
    go_ret
    refine ⟨ret_bool ?_, rfl⟩
    rw [HB.out]
    first | rfl | (simp; omega)
  · have HB : Hid (b = false) := hid (by rw [hb]; simpa using h)
    clear hb
    go_enter Tryz.func15, Tryz.ntmps15
    go_wp2
    go_ret
    refine ⟨ret_bool ?_, rfl⟩
    rw [HB.out]
    first | rfl | (simp; omega)
theorem same_yes (n : Bool) (a b : Option Addr) (cap cap' : Nat) (xs : List Int) (w : World) (hx : Sl .u32 w (.slice a xs.length cap) xs) (hy : Sl .u32 w (.slice b xs.length cap') xs) (hl : xs.length ≤ 1048576) :
    Calls Tryz.prog 23 #[.agg #[.bool n, .slice a xs.length cap], .agg #[.bool n, .slice b xs.length cap']] w fun e w' => e = .returned (.bool true) ∧ Below w.heap.size w w' := by
  have hbe : (n == n) = true := by simp
  have hle : ((xs.length : Int) != (xs.length : Int)) = false := by simp
  have Bx := (Box.new w (.bool n) (.slice a xs.length cap) 31).alloc (.cells #[.bool n, .slice b xs.length cap'] 31)
  have By := Box.new2 w (.cells #[.bool n, .slice a xs.length cap] 31) (.bool n) (.slice b xs.length cap') 31
  have sx := (hx.alloc (.cells #[.bool n, .slice a xs.length cap] 31)).alloc (.cells #[.bool n, .slice b xs.length cap'] 31)
  have sy := (hy.alloc (.cells #[.bool n, .slice a xs.length cap] 31)).alloc (.cells #[.bool n, .slice b xs.length cap'] 31)
  have hbV : Below w.heap.size w ((w.alloc (.cells #[.bool n, .slice a xs.length cap] 31)).alloc (.cells #[.bool n, .slice b xs.length cap'] 31)) := (by repeat (first | exact bz0 _ _ | refine bz1 ?_ | refine bz2 ?_ _ | refine bz3 ?_ _ | refine bz5 ?_ _ | refine bz6 ?_ _))
  go_enter Tryz.func23, Tryz.ntmps23
  go_wp2_with fail
  generalize (w.alloc (.cells #[.bool n, .slice a xs.length cap] 31)).alloc (.cells #[.bool n, .slice b xs.length cap'] 31) = V at Bx By sx sy hbV ⊢
  go_loopw [5] (fun iv wr => ∃ i : Nat, i ≤ xs.length ∧ iv = .int .i64 i ∧ Below V.heap.size V wr) (fun iv _ => xs.length - (intOf iv).toNat)
  case atStart => exact ⟨0, Nat.zero_le _, rfl, Below.refl _ _⟩
  case round =>
    obtain ⟨i, hi, rfl, hb⟩ := hrel
    obtain ⟨x0, x1⟩ := Bx.below hb
    obtain ⟨y0, y1⟩ := By.below hb
    by_cases hlt : i < xs.length
    · obtain ⟨-, _, _, h3⟩ := (sx.below hb).cells
      obtain ⟨-, _, _, h4⟩ := (sy.below hb).cells
      obtain ⟨ba, oa, rfl, ha⟩ := h3 (by omega)
      obtain ⟨bb, ob, rfl, hbb⟩ := h4 (by omega)
      have ca := ha i hlt
      have cb := hbb i hlt
      obtain ⟨z, hz⟩ : ∃ z, z = xs.getD i 0 := ⟨_, rfl⟩
      rw [← hz] at ca cb
      clear h3 h4 ha hbb hz
      have hzz : (z != z) = false := by simp
      have k0 : (0 : Int) ≤ (i : Int) := by omega
      have k1 : (i : Int) < (xs.length : Int) := by omega
      have kd : wr.drew.cell? ⟨w.heap.size, 1, none⟩ = some (.slice (some ⟨ba, oa, none⟩) xs.length cap) ∧ wr.drew.cell? ⟨ba, oa + i, none⟩ = some (.int .u32 z) ∧ wr.drew.cell? ⟨w.heap.size + 1, 1, none⟩ = some (.slice (some ⟨bb, ob, none⟩) xs.length cap') ∧ wr.drew.cell? ⟨bb, ob + i, none⟩ = some (.int .u32 z) := ⟨x1, ca, y1, cb⟩
      go_wp2_with fail
      go_region_held3 (fun w' => w'.cell? ⟨w.heap.size, 1, none⟩ = some (.slice (some ⟨ba, oa, none⟩) xs.length cap) ∧ w'.cell? ⟨ba, oa + i, none⟩ = some (.int .u32 z) ∧ w'.cell? ⟨w.heap.size + 1, 1, none⟩ = some (.slice (some ⟨bb, ob, none⟩) xs.length cap') ∧ w'.cell? ⟨bb, ob + i, none⟩ = some (.int .u32 z)) (with_reducible assumption) (fail)
      go_wp2
      go_roundw
      case rel => exact ⟨i + 1, by omega, by go_num, hb.drew⟩
      case measure => simp [intOf]; omega
    · obtain rfl : i = xs.length := by omega
      go_wp2
      go_ret
      exact ⟨rfl, bel_go hbV hb⟩
theorem bel_rd {w W w' : World} {rb : Nat} (h : Below w.heap.size w W) (hg : W.grownBy w' (some rb)) (hr : w.heap.size ≤ rb) : Below w.heap.size w w' := h.grown hg h.size (fun k hk => by cases hk; exact hr)
theorem format_any (rb : Nat) (ca : Option Addr) (cc : Nat) (cs : List Int) (w : World) (hr : RD w rb ca cc cs) :
    Calls Tryz.prog 151 #[.pointer (some ⟨rb, 0, none⟩)] w fun e w' => ∃ fm : Int, e = .returned (.int .i64 fm) ∧ fmtB fm = true ∧ RD w' rb ca cc cs ∧ w.grownBy w' (some rb) := by
  go_enter Tryz.func151, Tryz.ntmps151
  go_wp2_with fail
  refine (once_any rb ca cc cs 2 _ hr (by decide) (by decide)).mono ?_
  rintro e w1 ⟨v, rfl, hr1, hg1⟩
  cases v
  · go_wp2
    go_ret
    exact ⟨64, rfl, by decide, hr1, hg1⟩
  · go_wp2
    go_ret
    exact ⟨32, rfl, by decide, hr1, hg1⟩
end Fd
end Go.Proofs.YtmcflggionkhlaaGreatDoor
