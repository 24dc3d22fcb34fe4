/-
  What is needed of AN, AW.
-/
import Derived.Test.YtmcflggionkhlaaGreatDoorH43
set_option maxHeartbeats 16000000
set_option maxRecDepth 1000000
namespace Go.Proofs.YtmcflggionkhlaaGreatDoor
set_option linter.unusedVariables false
set_option linter.unusedSimpArgs false
open Go.RowKit Go.Deep
namespace Fd
open Nm
theorem uf_gap (L : Nat) (hL : 1 < L) (y : Nat) : uf L (y + 1) = uf L y + 2 ^ (y / L - 1) := by
  have h0 : 0 < L := by omega
  obtain ⟨r, k, hr, rfl⟩ : ∃ r k, r < L ∧ y = r + L * k := ⟨y % L, y / L, Nat.mod_lt _ h0, (Nat.mod_add_div y L).symm⟩
  have d1 : (r + L * k) / L = k := by rw [Nat.add_mul_div_left _ _ h0, Nat.div_eq_of_lt hr, Nat.zero_add]
  have m1 : (r + L * k) % L = r := by rw [Nat.add_mul_mod_self_left, Nat.mod_eq_of_lt hr]
  rw [d1]
  cases k with
  | zero =>
    simp only [Nat.mul_zero, Nat.add_zero, Nat.zero_sub, Nat.pow_zero]
    unfold uf
    rw [if_pos hr]
    by_cases h : r + 1 < L
    · rw [if_pos h]
    · have e : r + 1 = L := by omega
      rw [if_neg h, e, Nat.div_self h0, Nat.mod_self]; simp
  | succ k =>
    have ge : ∀ s, ¬ s + L * (k + 1) < L := fun s => by rw [Nat.mul_succ]; omega
    by_cases h : r + 1 < L
    · have d2 : (r + L * (k + 1) + 1) / L = k + 1 := by rw [show r + L * (k + 1) + 1 = (r + 1) + L * (k + 1) by omega, Nat.add_mul_div_left _ _ h0, Nat.div_eq_of_lt h, Nat.zero_add]
      have m2 : (r + L * (k + 1) + 1) % L = r + 1 := by rw [show r + L * (k + 1) + 1 = (r + 1) + L * (k + 1) by omega, Nat.add_mul_mod_self_left, Nat.mod_eq_of_lt h]
      unfold uf
      rw [if_neg (ge r), if_neg (by have := ge (r + 1); omega), d1, m1, d2, m2, Nat.add_sub_cancel]
      rw [show r + 1 + L = (r + L) + 1 by omega, Nat.add_mul, Nat.one_mul]
    · have e : r + L * (k + 1) + 1 = L * (k + 2) := by rw [Nat.mul_succ L (k + 1)]; omega
      have d2 : (r + L * (k + 1) + 1) / L = k + 2 := by rw [e, Nat.mul_div_cancel_left _ h0]
      have m2 : (r + L * (k + 1) + 1) % L = 0 := by rw [e, Nat.mul_mod_right]
      unfold uf
      rw [if_neg (ge r), if_neg (by have := ge (r + 1); omega), d1, m1, d2, m2, Nat.zero_add]
      have e1 : k + 2 - 1 = (k + 1 - 1) + 1 := by omega
      have e2 : r + L = 2 * L - 1 := by omega
      rw [e1, e2, Nat.pow_succ, Nat.sub_mul, Nat.one_mul]
      have hp : 2 ^ (k + 1 - 1) ≤ 2 * L * 2 ^ (k + 1 - 1) := Nat.le_mul_of_pos_left _ (by omega)
      rw [Nat.sub_add_cancel hp, Nat.mul_comm (2 ^ (k + 1 - 1)) 2, ← Nat.mul_assoc, Nat.mul_comm L 2]
theorem gap_mono (L : Nat) (hL : 1 < L) {x y : Nat} (h : x ≤ y) : uf L (x + 1) - uf L x ≤ uf L (y + 1) - uf L y := by
  rw [uf_gap L hL x, uf_gap L hL y, Nat.add_sub_cancel_left, Nat.add_sub_cancel_left]
  exact Nat.pow_le_pow_right (by decide) (Nat.sub_le_sub_right (Nat.div_le_div_right h) 1)
theorem uf_le (L : Nat) (hL : 1 < L) {x y : Nat} (h : x ≤ y) : uf L x ≤ uf L y := by
  rcases Nat.lt_or_ge x y with h' | h'
  · exact Nat.le_of_lt (uf_lt L hL h')
  · rw [show x = y by omega]; exact Nat.le_refl _
/-- A code's units, by a whole number and a power. -/
theorem uf_mk (P : Nat) (hP : 1 ≤ P) (y : Nat) : ∃ m, m < 2 ^ P ∧ uf (2 ^ (P - 1)) y = m * 2 ^ (y / 2 ^ (P - 1) - 1) := by
  have hp := pw_dbl hP
  have h0 := Nat.two_pow_pos (P - 1)
  unfold uf
  by_cases h : y < 2 ^ (P - 1)
  · refine ⟨y, by omega, ?_⟩
    rw [if_pos h, Nat.div_eq_of_lt h]; simp
  · refine ⟨y % 2 ^ (P - 1) + 2 ^ (P - 1), ?_, by rw [if_neg h]⟩
    have := Nat.mod_lt y h0
    omega
/-- What is no more than a float, and a whole number of its last place, is a float. -/
theorem rep {P I : Nat} (hP : 2 ≤ P) (hI : I ≤ 2100 * 2 ^ (P - 1)) {a j k u : Nat} (ha : a < I) (hj : j < 2 ^ P) (hu : u = j * 2 ^ k) (h : u ≤ uf (2 ^ (P - 1)) a) : ∃ c, c < I ∧ uf (2 ^ (P - 1)) c = u := by
  have hx : u / 2 ^ (bitLen u - P) * 2 ^ (bitLen u - P) = u := by
    apply Nat.div_mul_cancel
    by_cases h0 : j = 0
    · rw [hu, h0, Nat.zero_mul]; exact Nat.dvd_zero _
    · have hb : bitLen u ≤ P + k := by rw [hu, bl_mul h0]; have := (bl_le_iff j P).2 hj; omega
      rw [hu]
      exact Nat.dvd_trans (Nat.pow_dvd_pow 2 (by rw [← hu]; omega)) (Nat.dvd_mul_left _ _)
  have hf := uf_flo P I (by omega) a ha hI
  have hm := flb_mono' (P := P) (by omega) h
  have hfu := flb_lt_flo h (by omega) hx hf hm
  exact ⟨flb P u, flo_lt hfu, flb_uf P I u (by omega) hfu⟩
theorem err_code1 {P I : Nat} (hP : 2 ≤ P) (hI : I ≤ 2100 * 2 ^ (P - 1)) {a b v : Nat} (hab : a ≤ b) (ha : a < I) (hb : b < I) (hv : v < I) {X Y U : Int} (hX : X.natAbs = uf (2 ^ (P - 1)) a) (hY : Y.natAbs = uf (2 ^ (P - 1)) b) (hU : U = X + Y)
    (hn : ∀ c, c < I → ((U.natAbs : Int) - uf (2 ^ (P - 1)) v).natAbs ≤ ((U.natAbs : Int) - uf (2 ^ (P - 1)) c).natAbs) : ∃ c, c < I ∧ uf (2 ^ (P - 1)) c = ((U.natAbs : Int) - uf (2 ^ (P - 1)) v).natAbs := by
  have hL : 1 < 2 ^ (P - 1) := Nat.one_lt_two_pow (by omega)
  obtain ⟨D, hD⟩ : ∃ D, D = ((U.natAbs : Int) - uf (2 ^ (P - 1)) v).natAbs := ⟨_, rfl⟩
  obtain ⟨k, hk⟩ : ∃ k, k = a / 2 ^ (P - 1) - 1 := ⟨_, rfl⟩
  obtain ⟨m, hm, hma⟩ := uf_mk P (by omega) a
  rw [← hk] at hma
  obtain ⟨n, -, hnb⟩ := uf_mk P (by omega) b
  have hkb : k ≤ b / 2 ^ (P - 1) - 1 := by rw [hk]; exact Nat.sub_le_sub_right (Nat.div_le_div_right hab) 1
  have dX : (2 ^ k : Nat) ∣ X.natAbs := by rw [hX, hma]; exact Nat.dvd_mul_left _ _
  have dY : (2 ^ k : Nat) ∣ Y.natAbs := by rw [hY, hnb]; exact Nat.dvd_trans (Nat.pow_dvd_pow 2 hkb) (Nat.dvd_mul_left _ _)
  have dU : (2 ^ k : Nat) ∣ U.natAbs := by
    rw [hU]
    have h1 : ((2 ^ k : Nat) : Int) ∣ X := Int.ofNat_dvd_left.2 dX
    have h2 : ((2 ^ k : Nat) : Int) ∣ Y := Int.ofNat_dvd_left.2 dY
    exact Int.ofNat_dvd_left.1 (Int.dvd_add h1 h2)
  have hDa : D ≤ uf (2 ^ (P - 1)) a := by
    have h1 := hn b hb
    rw [← hD, ← hY] at h1
    have h2 : ((U.natAbs : Int) - (Y.natAbs : Nat)).natAbs ≤ X.natAbs := by omega
    rw [← hX]; omega
  have dD : (2 ^ k : Nat) ∣ D := by
    by_cases hvk : k ≤ v / 2 ^ (P - 1) - 1
    · obtain ⟨q, -, hqv⟩ := uf_mk P (by omega) v
      have dv : (2 ^ k : Nat) ∣ uf (2 ^ (P - 1)) v := by rw [hqv]; exact Nat.dvd_trans (Nat.pow_dvd_pow 2 hvk) (Nat.dvd_mul_left _ _)
      rw [hD]
      exact Int.ofNat_dvd_left.1 (Int.dvd_sub (Int.natCast_dvd_natCast.2 dU) (Int.natCast_dvd_natCast.2 dv))
    · have h0 := Nat.two_pow_pos (P - 1)
      have hva : v / 2 ^ (P - 1) < a / 2 ^ (P - 1) := by omega
      have hw : 2 ^ (P - 1) * (a / 2 ^ (P - 1)) ≤ a := Nat.mul_div_le a _
      obtain ⟨W, hW⟩ : ∃ W, W = 2 ^ (P - 1) * (a / 2 ^ (P - 1)) := ⟨_, rfl⟩
      rw [← hW] at hw
      have hvW : v < W := by rw [hW]; rw [Nat.mul_comm]; exact (Nat.div_lt_iff_lt_mul h0).1 hva
      have huW : uf (2 ^ (P - 1)) W = 2 ^ (P - 1) * 2 ^ k := by
        unfold uf
        have hge : ¬ W < 2 ^ (P - 1) := by
          rw [hW]
          have : 1 ≤ a / 2 ^ (P - 1) := by omega
          have := Nat.mul_le_mul_left (2 ^ (P - 1)) this
          rw [Nat.mul_one] at this
          omega
        rw [if_neg hge, hW, Nat.mul_mod_right, Nat.mul_div_cancel_left _ h0, Nat.zero_add, hk]
      have hlt := uf_lt _ hL hvW
      by_cases hUW : U.natAbs ≤ uf (2 ^ (P - 1)) W
      · obtain ⟨j, hj⟩ := dU
        have hjL : j ≤ 2 ^ (P - 1) := by
          rw [huW, hj, Nat.mul_comm (2 ^ k) j] at hUW
          exact Nat.le_of_mul_le_mul_right hUW (Nat.two_pow_pos k)
        have hd := pw_dbl (P := P) (by omega)
        obtain ⟨c, c1, c2⟩ := rep (P := P) (I := I) hP hI (a := W) (j := j) (k := k) (u := U.natAbs) (by omega) (by omega) (by rw [hj, Nat.mul_comm]) hUW
        have h1 := hn c c1
        rw [c2, ← hD] at h1
        have h2 : D = 0 := by omega
        rw [h2]; exact Nat.dvd_zero _
      · have h1 := hn W (by omega)
        omega
  obtain ⟨j, hj⟩ := dD
  have hjm : j ≤ m := by
    rw [hj, hma, Nat.mul_comm (2 ^ k) j] at hDa
    exact Nat.le_of_mul_le_mul_right hDa (Nat.two_pow_pos k)
  rw [← hD]
  exact rep (P := P) (I := I) hP hI (a := a) (j := j) (k := k) ha (by omega) (by rw [hj, Nat.mul_comm]) hDa
theorem err_code {P I : Nat} (hP : 2 ≤ P) (hI : I ≤ 2100 * 2 ^ (P - 1)) {a b v : Nat} (ha : a < I) (hb : b < I) (hv : v < I) {X Y U : Int} (hX : X.natAbs = uf (2 ^ (P - 1)) a) (hY : Y.natAbs = uf (2 ^ (P - 1)) b) (hU : U = X + Y)
    (hn : ∀ c, c < I → ((U.natAbs : Int) - uf (2 ^ (P - 1)) v).natAbs ≤ ((U.natAbs : Int) - uf (2 ^ (P - 1)) c).natAbs) : ∃ c, c < I ∧ uf (2 ^ (P - 1)) c = ((U.natAbs : Int) - uf (2 ^ (P - 1)) v).natAbs := by
  rcases Nat.le_total a b with h | h
  · exact err_code1 hP hI h ha hb hv hX hY hU hn
  · exact err_code1 hP hI h hb ha hv hY hX (by rw [hU, Int.add_comm]) hn
/-- What is rounded to the nearest one, in units: no other one is nearer, and it is no farther away than half of what is between it and the next one. -/
theorem near32 (z m : Int) (hO : RdO 32 0 (Nm.wn z) (Nm.wl z) (-149) = true) (hz : z ≠ 0) (hm : m = 0 ∨ m = 4 ∨ m = 5) (x : Int) (hx : x = RdB 32 m (Nm.wn z) (Nm.wl z) (-149)) (fx : finB 32 x = true) :
    ∃ v : Nat, v < 2139095040 ∧ x = sgn 2147483648 (v : Int) (Nm.wn z) ∧ (∀ c, c < 2139095040 → ((z.natAbs : Int) - uf 8388608 v).natAbs ≤ ((z.natAbs : Int) - uf 8388608 c).natAbs) ∧ (v + 1 < 2139095040 → 2 * ((z.natAbs : Int) - uf 8388608 v).natAbs ≤ uf 8388608 (v + 1) - uf 8388608 v) := by
  obtain ⟨-, -, -, -, tn⟩ := two_32 z (-149) hO hz
  have ha : z.natAbs ≠ 0 := by omega
  obtain ⟨l1, l2, l3⟩ := lohi (P := 24) (q := (-149)) (I := 2139095040) (a := z.natAbs) (e := (-149)) (by decide) ha (by decide) (by decide)
  have hL : (2 : Nat) ^ (24 - 1) = 8388608 := by decide
  have h0 : (((-149) : Int) - min (-149) (-149)).toNat = 0 := by decide
  have bo := fun h hr => both_off (P := 24) (q := (-149)) (I := 2139095040) (a := z.natAbs) (e := (-149)) (by decide) ha h hr
  have lo := lo_off (P := 24) (q := (-149)) (I := 2139095040) (a := z.natAbs) (e := (-149)) (by decide) ha (by decide) (by decide)
  have hi := fun h => (hi_off (P := 24) (q := (-149)) (I := 2139095040) (a := z.natAbs) (e := (-149)) (by decide) ha h).1
  rw [h0, Nat.pow_zero, hL] at bo lo hi
  simp only [Nat.mul_one] at bo lo hi
  have xn := tn m hm
  rw [← hx] at xn
  have hl2 : flo 24 2139095040 (rU 24 (-149) z.natAbs (-149) false) = false → mgHi 24 (-149) 2139095040 z.natAbs (-149) = 2139095040 := fun hf => by
    unfold mgHi
    rw [if_neg (fun h => by rw [flo_dn_of_up (by decide) ha h] at hf; exact absurd hf (by decide))]
  have hex2 : exB 24 (-149) 2139095040 z.natAbs (-149) = false → flo 24 2139095040 (rU 24 (-149) z.natAbs (-149) false) = true → rr 24 (-149) z.natAbs (-149) ≠ 0 := fun h h' h'' => by unfold exB at h; simp [h', h''] at h
  have hrc := Nm.rh_cases (P := 24) (q := (-149)) (a := z.natAbs) (e := (-149))
  obtain ⟨A, hA⟩ : ∃ A, A = mgLo 24 (-149) 2139095040 z.natAbs (-149) := ⟨_, rfl⟩
  obtain ⟨B, hB⟩ : ∃ A, A = mgHi 24 (-149) 2139095040 z.natAbs (-149) := ⟨_, rfl⟩
  rw [← hA] at l1 l3 lo bo xn
  rw [← hB] at l2 l3 hi bo xn hl2
  obtain ⟨b, hb⟩ : ∃ b, b = upB m (((rm 24 (-149) z.natAbs (-149) : Nat) : Int) % 2 == 1) (rh 24 (-149) z.natAbs (-149)) (Nm.wn z) := ⟨_, rfl⟩
  rw [← hb] at xn
  have hup : b = true → 0 ≤ rh 24 (-149) z.natAbs (-149) := fun hbt => by
    rw [hbt] at hb
    rcases hm with rfl | rfl | rfl <;> unfold upB at hb <;> simp at hb <;> omega
  have hdn : b = false → rh 24 (-149) z.natAbs (-149) ≤ 0 := fun hbt => by
    rw [hbt] at hb
    rcases hm with rfl | rfl | rfl <;> unfold upB at hb <;> simp at hb <;> omega
  have hL1 : 1 < 8388608 := by decide
  have gap := fun v => uf_gap 8388608 hL1 v
  obtain ⟨T2, hT2⟩ : ∃ T, T = 2 ^ (rn 24 (-149) z.natAbs (-149)).toNat := ⟨_, rfl⟩
  obtain ⟨rr0, hrr⟩ : ∃ r, r = rr 24 (-149) z.natAbs (-149) := ⟨_, rfl⟩
  rw [← hT2, ← hrr] at bo
  rw [← hT2, ← hrr] at hrc
  rw [← hrr] at hex2
  have hT0 : 0 < T2 := by rw [hT2]; exact Nat.two_pow_pos _
  cases hbb : b
  · rw [hbb] at xn
    cases hf : flo 24 2139095040 (rU 24 (-149) z.natAbs (-149) false)
    · rw [hf] at xn
      have hBI := hl2 hf
      exfalso
      have h3 : x = sgn 2147483648 (B : Int) (Nm.wn z) := by simpa using xn
      rw [h3] at fx; have := fin_mg32 l2 _ fx; omega
    · rw [hf] at xn
      have h3 : x = sgn 2147483648 (A : Int) (Nm.wn z) := by simpa using xn
      refine ⟨A, l1, h3, ?_, ?_⟩
      · intro c hc
        cases he : exB 24 (-149) 2139095040 z.natAbs (-149)
        · rw [he] at l3; simp at l3
          rcases Nat.lt_or_ge A c with hAc | hAc
          · have hBl : B < 2139095040 := by omega
            obtain ⟨b1, b2, b3⟩ := bo hBl (hex2 he hf)
            have h4 := uf_le 8388608 hL1 (show B ≤ c by omega)
            have h5 := hdn hbb
            rcases hrc with ⟨c1, c2⟩ | ⟨c1, c2⟩ | ⟨c1, c2⟩ <;> omega
          · have h4 := uf_le 8388608 hL1 hAc
            omega
        · rw [he] at l3; simp at l3
          have h4 := hi (by omega)
          rw [l3] at h4
          omega
      · intro hv1
        cases he : exB 24 (-149) 2139095040 z.natAbs (-149)
        · rw [he] at l3; simp at l3
          obtain ⟨b1, b2, b3⟩ := bo (by omega) (hex2 he hf)
          have h5 := hdn hbb
          rw [l3] at b2
          rcases hrc with ⟨c1, c2⟩ | ⟨c1, c2⟩ | ⟨c1, c2⟩ <;> omega
        · rw [he] at l3; simp at l3
          have h4 := hi (by omega)
          rw [l3] at h4
          omega
  · rw [hbb] at xn
    have h3 : x = sgn 2147483648 (B : Int) (Nm.wn z) := by simpa using xn
    have hBl : B < 2139095040 := by rw [h3] at fx; exact fin_mg32 l2 _ fx
    have h5 := hup hbb
    have hr0 : rr0 ≠ 0 := by rcases hrc with ⟨c1, c2⟩ | ⟨c1, c2⟩ | ⟨c1, c2⟩ <;> omega
    obtain ⟨b1, b2, b3⟩ := bo hBl hr0
    have hRT : T2 - rr0 ≤ rr0 := by rcases hrc with ⟨c1, c2⟩ | ⟨c1, c2⟩ | ⟨c1, c2⟩ <;> omega
    have hAB : B = A + 1 := by
      have h7 : exB 24 (-149) 2139095040 z.natAbs (-149) = false := by unfold exB; rw [← hrr, decide_eq_false hr0]; rfl
      rw [h7] at l3; simpa using l3
    refine ⟨B, hBl, h3, ?_, ?_⟩
    · intro c hc
      rcases Nat.lt_or_ge A c with hAc | hAc
      · have h4 := uf_le 8388608 hL1 (show B ≤ c by omega)
        omega
      · have h4 := uf_le 8388608 hL1 hAc
        omega
    · intro _
      have h6 := gap_mono 8388608 hL1 (show A ≤ B by omega)
      rw [hAB] at b2 h6 ⊢
      omega
/-- What rounding a sum of two to the nearest one left over is a float. -/
theorem err32 {x y : Int} (x0 : 0 ≤ x) (x1 : x < 4294967296) (y0 : 0 ≤ y) (y1 : y < 4294967296) (fx : finB 32 x = true) (fy : finB 32 y = true) (m : Int) (hm : m = 0 ∨ m = 4 ∨ m = 5) (z : Int) (hzz : z = unI 32 x + unI 32 y) (hz : z ≠ 0) (hO : RdO 32 0 (Nm.wn z) (Nm.wl z) (-149) = true) (h : Int) (hh : h = RdB 32 m (Nm.wn z) (Nm.wl z) (-149)) (fh : finB 32 h = true) :
    ∃ t : Int, 0 ≤ t ∧ t < 4294967296 ∧ finB 32 t = true ∧ unI 32 t = z - unI 32 h ∧ ∃ v : Nat, v < 2139095040 ∧ h = sgn 2147483648 (v : Int) (Nm.wn z) ∧ (unI 32 h).natAbs = uf 8388608 v ∧ (v + 1 < 2139095040 → 2 * (z - unI 32 h).natAbs ≤ uf 8388608 (v + 1) - uf 8388608 v) := by
  obtain ⟨v, v1, v2, v3, v4⟩ := near32 z m hO hz hm h hh fh
  have hL : (2 : Nat) ^ (24 - 1) = 8388608 := by decide
  have ux := un_uf32 x0 x1 fx
  have uy := un_uf32 y0 y1 fy
  have lx := fin_lt32 x0 x1 fx
  have ly := fin_lt32 y0 y1 fy
  obtain ⟨a, ha⟩ : ∃ a : Nat, a = (x % 2147483648).toNat := ⟨_, rfl⟩
  obtain ⟨b, hb⟩ : ∃ b : Nat, b = (y % 2147483648).toNat := ⟨_, rfl⟩
  have ux' : (unI 32 x).natAbs = uf 8388608 a := by
    rw [ux]; split
    · rw [show x.toNat = a by omega]; omega
    · rw [show (x - 2147483648).toNat = a by omega]; omega
  have uy' : (unI 32 y).natAbs = uf 8388608 b := by
    rw [uy]; split
    · rw [show y.toNat = b by omega]; omega
    · rw [show (y - 2147483648).toNat = b by omega]; omega
  have hE := err_code (P := 24) (I := 2139095040) (by decide) (by decide) (a := a) (b := b) (v := v) (by omega) (by omega) v1 (X := unI 32 x) (Y := unI 32 y) (U := z) (by rw [hL]; exact ux') (by rw [hL]; exact uy') hzz (by rw [hL]; exact v3)
  rw [hL] at hE
  obtain ⟨c, c1, c2⟩ := hE
  have uh := un_mg32 z v1
  rw [← v2] at uh
  have hd : (z - unI 32 h).natAbs = ((z.natAbs : Int) - uf 8388608 v).natAbs := by
    rw [uh]; split <;> omega
  have hua : (unI 32 h).natAbs = uf 8388608 v := by rw [uh]; split <;> omega
  obtain ⟨s1, s2, s3, s4⟩ := unSg32 c1 (Nm.wn (z - unI 32 h))
  refine ⟨_, s1, s2, s3, ?_, v, v1, v2, hua, fun h => by rw [hd]; exact v4 h⟩
  rw [s4, c2, ← hd]
  unfold Nm.wn
  by_cases hn : z - unI 32 h < 0
  · rw [decide_eq_true hn, if_pos rfl]; omega
  · rw [decide_eq_false hn]; simp only [Bool.false_eq_true, if_false]; omega
/-- What is rounded to the nearest one, in units: no other one is nearer, and it is no farther away than half of what is between it and the next one. -/
theorem near64 (z m : Int) (hO : RdO 64 0 (Nm.wn z) (Nm.wl z) (-1074) = true) (hz : z ≠ 0) (hm : m = 0 ∨ m = 4 ∨ m = 5) (x : Int) (hx : x = RdB 64 m (Nm.wn z) (Nm.wl z) (-1074)) (fx : finB 64 x = true) :
    ∃ v : Nat, v < 9218868437227405312 ∧ x = sgn 9223372036854775808 (v : Int) (Nm.wn z) ∧ (∀ c, c < 9218868437227405312 → ((z.natAbs : Int) - uf 4503599627370496 v).natAbs ≤ ((z.natAbs : Int) - uf 4503599627370496 c).natAbs) ∧ (v + 1 < 9218868437227405312 → 2 * ((z.natAbs : Int) - uf 4503599627370496 v).natAbs ≤ uf 4503599627370496 (v + 1) - uf 4503599627370496 v) := by
  obtain ⟨-, -, -, -, tn⟩ := two_64 z (-1074) hO hz
  have ha : z.natAbs ≠ 0 := by omega
  obtain ⟨l1, l2, l3⟩ := lohi (P := 53) (q := (-1074)) (I := 9218868437227405312) (a := z.natAbs) (e := (-1074)) (by decide) ha (by decide) (by decide)
  have hL : (2 : Nat) ^ (53 - 1) = 4503599627370496 := by decide
  have h0 : (((-1074) : Int) - min (-1074) (-1074)).toNat = 0 := by decide
  have bo := fun h hr => both_off (P := 53) (q := (-1074)) (I := 9218868437227405312) (a := z.natAbs) (e := (-1074)) (by decide) ha h hr
  have lo := lo_off (P := 53) (q := (-1074)) (I := 9218868437227405312) (a := z.natAbs) (e := (-1074)) (by decide) ha (by decide) (by decide)
  have hi := fun h => (hi_off (P := 53) (q := (-1074)) (I := 9218868437227405312) (a := z.natAbs) (e := (-1074)) (by decide) ha h).1
  rw [h0, Nat.pow_zero, hL] at bo lo hi
  simp only [Nat.mul_one] at bo lo hi
  have xn := tn m hm
  rw [← hx] at xn
  have hl2 : flo 53 9218868437227405312 (rU 53 (-1074) z.natAbs (-1074) false) = false → mgHi 53 (-1074) 9218868437227405312 z.natAbs (-1074) = 9218868437227405312 := fun hf => by
    unfold mgHi
    rw [if_neg (fun h => by rw [flo_dn_of_up (by decide) ha h] at hf; exact absurd hf (by decide))]
  have hex2 : exB 53 (-1074) 9218868437227405312 z.natAbs (-1074) = false → flo 53 9218868437227405312 (rU 53 (-1074) z.natAbs (-1074) false) = true → rr 53 (-1074) z.natAbs (-1074) ≠ 0 := fun h h' h'' => by unfold exB at h; simp [h', h''] at h
  have hrc := Nm.rh_cases (P := 53) (q := (-1074)) (a := z.natAbs) (e := (-1074))
  obtain ⟨A, hA⟩ : ∃ A, A = mgLo 53 (-1074) 9218868437227405312 z.natAbs (-1074) := ⟨_, rfl⟩
  obtain ⟨B, hB⟩ : ∃ A, A = mgHi 53 (-1074) 9218868437227405312 z.natAbs (-1074) := ⟨_, rfl⟩
  rw [← hA] at l1 l3 lo bo xn
  rw [← hB] at l2 l3 hi bo xn hl2
  obtain ⟨b, hb⟩ : ∃ b, b = upB m (((rm 53 (-1074) z.natAbs (-1074) : Nat) : Int) % 2 == 1) (rh 53 (-1074) z.natAbs (-1074)) (Nm.wn z) := ⟨_, rfl⟩
  rw [← hb] at xn
  have hup : b = true → 0 ≤ rh 53 (-1074) z.natAbs (-1074) := fun hbt => by
    rw [hbt] at hb
    rcases hm with rfl | rfl | rfl <;> unfold upB at hb <;> simp at hb <;> omega
  have hdn : b = false → rh 53 (-1074) z.natAbs (-1074) ≤ 0 := fun hbt => by
    rw [hbt] at hb
    rcases hm with rfl | rfl | rfl <;> unfold upB at hb <;> simp at hb <;> omega
  have hL1 : 1 < 4503599627370496 := by decide
  have gap := fun v => uf_gap 4503599627370496 hL1 v
  obtain ⟨T2, hT2⟩ : ∃ T, T = 2 ^ (rn 53 (-1074) z.natAbs (-1074)).toNat := ⟨_, rfl⟩
  obtain ⟨rr0, hrr⟩ : ∃ r, r = rr 53 (-1074) z.natAbs (-1074) := ⟨_, rfl⟩
  rw [← hT2, ← hrr] at bo
  rw [← hT2, ← hrr] at hrc
  rw [← hrr] at hex2
  have hT0 : 0 < T2 := by rw [hT2]; exact Nat.two_pow_pos _
  cases hbb : b
  · rw [hbb] at xn
    cases hf : flo 53 9218868437227405312 (rU 53 (-1074) z.natAbs (-1074) false)
    · rw [hf] at xn
      have hBI := hl2 hf
      exfalso
      have h3 : x = sgn 9223372036854775808 (B : Int) (Nm.wn z) := by simpa using xn
      rw [h3] at fx; have := fin_mg64 l2 _ fx; omega
    · rw [hf] at xn
      have h3 : x = sgn 9223372036854775808 (A : Int) (Nm.wn z) := by simpa using xn
      refine ⟨A, l1, h3, ?_, ?_⟩
      · intro c hc
        cases he : exB 53 (-1074) 9218868437227405312 z.natAbs (-1074)
        · rw [he] at l3; simp at l3
          rcases Nat.lt_or_ge A c with hAc | hAc
          · have hBl : B < 9218868437227405312 := by omega
            obtain ⟨b1, b2, b3⟩ := bo hBl (hex2 he hf)
            have h4 := uf_le 4503599627370496 hL1 (show B ≤ c by omega)
            have h5 := hdn hbb
            rcases hrc with ⟨c1, c2⟩ | ⟨c1, c2⟩ | ⟨c1, c2⟩ <;> omega
          · have h4 := uf_le 4503599627370496 hL1 hAc
            omega
        · rw [he] at l3; simp at l3
          have h4 := hi (by omega)
          rw [l3] at h4
          omega
      · intro hv1
        cases he : exB 53 (-1074) 9218868437227405312 z.natAbs (-1074)
        · rw [he] at l3; simp at l3
          obtain ⟨b1, b2, b3⟩ := bo (by omega) (hex2 he hf)
          have h5 := hdn hbb
          rw [l3] at b2
          rcases hrc with ⟨c1, c2⟩ | ⟨c1, c2⟩ | ⟨c1, c2⟩ <;> omega
        · rw [he] at l3; simp at l3
          have h4 := hi (by omega)
          rw [l3] at h4
          omega
  · rw [hbb] at xn
    have h3 : x = sgn 9223372036854775808 (B : Int) (Nm.wn z) := by simpa using xn
    have hBl : B < 9218868437227405312 := by rw [h3] at fx; exact fin_mg64 l2 _ fx
    have h5 := hup hbb
    have hr0 : rr0 ≠ 0 := by rcases hrc with ⟨c1, c2⟩ | ⟨c1, c2⟩ | ⟨c1, c2⟩ <;> omega
    obtain ⟨b1, b2, b3⟩ := bo hBl hr0
    have hRT : T2 - rr0 ≤ rr0 := by rcases hrc with ⟨c1, c2⟩ | ⟨c1, c2⟩ | ⟨c1, c2⟩ <;> omega
    have hAB : B = A + 1 := by
      have h7 : exB 53 (-1074) 9218868437227405312 z.natAbs (-1074) = false := by unfold exB; rw [← hrr, decide_eq_false hr0]; rfl
      rw [h7] at l3; simpa using l3
    refine ⟨B, hBl, h3, ?_, ?_⟩
    · intro c hc
      rcases Nat.lt_or_ge A c with hAc | hAc
      · have h4 := uf_le 4503599627370496 hL1 (show B ≤ c by omega)
        omega
      · have h4 := uf_le 4503599627370496 hL1 hAc
        omega
    · intro _
      have h6 := gap_mono 4503599627370496 hL1 (show A ≤ B by omega)
      rw [hAB] at b2 h6 ⊢
      omega
/-- What rounding a sum of two to the nearest one left over is a float. -/
theorem err64 {x y : Int} (x0 : 0 ≤ x) (x1 : x < 18446744073709551616) (y0 : 0 ≤ y) (y1 : y < 18446744073709551616) (fx : finB 64 x = true) (fy : finB 64 y = true) (m : Int) (hm : m = 0 ∨ m = 4 ∨ m = 5) (z : Int) (hzz : z = unI 64 x + unI 64 y) (hz : z ≠ 0) (hO : RdO 64 0 (Nm.wn z) (Nm.wl z) (-1074) = true) (h : Int) (hh : h = RdB 64 m (Nm.wn z) (Nm.wl z) (-1074)) (fh : finB 64 h = true) :
    ∃ t : Int, 0 ≤ t ∧ t < 18446744073709551616 ∧ finB 64 t = true ∧ unI 64 t = z - unI 64 h ∧ ∃ v : Nat, v < 9218868437227405312 ∧ h = sgn 9223372036854775808 (v : Int) (Nm.wn z) ∧ (unI 64 h).natAbs = uf 4503599627370496 v ∧ (v + 1 < 9218868437227405312 → 2 * (z - unI 64 h).natAbs ≤ uf 4503599627370496 (v + 1) - uf 4503599627370496 v) := by
  obtain ⟨v, v1, v2, v3, v4⟩ := near64 z m hO hz hm h hh fh
  have hL : (2 : Nat) ^ (53 - 1) = 4503599627370496 := by decide
  have ux := un_uf64 x0 x1 fx
  have uy := un_uf64 y0 y1 fy
  have lx := fin_lt64 x0 x1 fx
  have ly := fin_lt64 y0 y1 fy
  obtain ⟨a, ha⟩ : ∃ a : Nat, a = (x % 9223372036854775808).toNat := ⟨_, rfl⟩
  obtain ⟨b, hb⟩ : ∃ b : Nat, b = (y % 9223372036854775808).toNat := ⟨_, rfl⟩
  have ux' : (unI 64 x).natAbs = uf 4503599627370496 a := by
    rw [ux]; split
    · rw [show x.toNat = a by omega]; omega
    · rw [show (x - 9223372036854775808).toNat = a by omega]; omega
  have uy' : (unI 64 y).natAbs = uf 4503599627370496 b := by
    rw [uy]; split
    · rw [show y.toNat = b by omega]; omega
    · rw [show (y - 9223372036854775808).toNat = b by omega]; omega
  have hE := err_code (P := 53) (I := 9218868437227405312) (by decide) (by decide) (a := a) (b := b) (v := v) (by omega) (by omega) v1 (X := unI 64 x) (Y := unI 64 y) (U := z) (by rw [hL]; exact ux') (by rw [hL]; exact uy') hzz (by rw [hL]; exact v3)
  rw [hL] at hE
  obtain ⟨c, c1, c2⟩ := hE
  have uh := un_mg64 z v1
  rw [← v2] at uh
  have hd : (z - unI 64 h).natAbs = ((z.natAbs : Int) - uf 4503599627370496 v).natAbs := by
    rw [uh]; split <;> omega
  have hua : (unI 64 h).natAbs = uf 4503599627370496 v := by rw [uh]; split <;> omega
  obtain ⟨s1, s2, s3, s4⟩ := unSg64 c1 (Nm.wn (z - unI 64 h))
  refine ⟨_, s1, s2, s3, ?_, v, v1, v2, hua, fun h => by rw [hd]; exact v4 h⟩
  rw [s4, c2, ← hd]
  unfold Nm.wn
  by_cases hn : z - unI 64 h < 0
  · rw [decide_eq_true hn, if_pos rfl]; omega
  · rw [decide_eq_false hn]; simp only [Bool.false_eq_true, if_false]; omega
end Fd
/-- What a head lacks of X, in 2 to the 2 Q. -/
def auR (fm h X : Int) : Int := X - unI fm h * 2 ^ (-unQ fm).toNat
def auT (fm h X : Int) : Int := if finB fm h then (if auR fm h X = 0 then sgn (sgOf fm) 0 (sigB fm h) else RdB fm 5 (Nm.wn (auR fm h X)) (Nm.wl (auR fm h X)) (2 * unQ fm)) else h
def auF (fm h f X : Int) : Int := if finB fm h then (if auR fm h X = 0 then 0 else RdF fm 5 (Nm.wn (auR fm h X)) (Nm.wl (auR fm h X)) (2 * unQ fm)) else f
def asX (fm a b : Int) : Int := (unI fm a + unI fm b) * 2 ^ (-unQ fm).toNat
def aaB (fm a b : Int) : Int := if muO fm 5 a b then adB fm 5 a b else 0
def aaT (fm a b : Int) : Int := if muO fm 5 a b then auT fm (adB fm 5 a b) (asX fm a b) else 0
def aaF (fm a b : Int) : Int := if muO fm 5 a b then auF fm (adB fm 5 a b) (adF fm 5 a b) (asX fm a b) else 0
def asO (fm a b : Int) : Bool := okF fm b && muO fm 5 a (negF fm b)
def asB (fm a b : Int) : Int := if okF fm b then aaB fm a (negF fm b) else 0
def asT (fm a b : Int) : Int := if okF fm b then aaT fm a (negF fm b) else 0
def asF (fm a b : Int) : Int := if okF fm b then aaF fm a (negF fm b) else 0
theorem bl_mulp (v : Int) (n : Nat) : bitLen (v * 2 ^ n).natAbs ≤ bitLen v.natAbs + n := by
  rw [Int.natAbs_mul, Int.natAbs_pow]
  by_cases h : v.natAbs = 0
  · rw [h, Nat.zero_mul, Nm.bl_zero]; omega
  · exact Nat.le_of_eq (Nm.bl_mul h n)
theorem bl_add2 {x y : Int} {k : Nat} (hx : bitLen x.natAbs ≤ k) (hy : bitLen y.natAbs ≤ k) : bitLen (x + y).natAbs ≤ k + 1 := by
  rw [Nm.bl_le_iff] at hx hy ⊢
  rw [Nat.pow_succ]
  have : (x + y).natAbs ≤ x.natAbs + y.natAbs := Int.natAbs_add_le x y
  exact (fun (P a b c : Nat) (h : c ≤ a + b) (ha : a < P) (hb : b < P) => by omega : ∀ P a b c : Nat, c ≤ a + b → a < P → b < P → c < P * 2) _ _ _ _ this hx hy
theorem asX_bl (fm a b : Int) : bitLen (asX fm a b).natAbs ≤ 6200 := by
  have h1 := bl_add2 (un_blA fm a) (un_blA fm b)
  have h2 := bl_mulp (unI fm a + unI fm b) (-unQ fm).toNat
  have hq := unq_bd fm
  unfold asX; omega
theorem auR_bl {fm h X : Int} (hX : bitLen X.natAbs ≤ 6300) : bitLen (auR fm h X).natAbs ≤ 6301 := by
  have h1 := un_blA fm h
  have h2 := bl_mulp (unI fm h) (-unQ fm).toNat
  have hq := unq_bd fm
  have h3 : bitLen (-(unI fm h * 2 ^ (-unQ fm).toNat)).natAbs ≤ 6300 := by rw [Int.natAbs_neg]; omega
  have := bl_add2 hX h3
  unfold auR
  rw [Int.sub_eq_add_neg]; exact this
theorem auR_len {fm h X : Int} (hX : bitLen X.natAbs ≤ 6300) : (Nm.wl (auR fm h X)).length ≤ 200 := by
  have := auR_bl (fm := fm) (h := h) hX
  unfold Nm.wl; exact lim_len (k := 200) (by omega)
namespace Fd
theorem zun (fm : Int) (h : fmtB fm = true) (g : Bool) : 0 ≤ sgn (sgOf fm) 0 g ∧ sgn (sgOf fm) 0 g < 18446744073709551616 ∧ finB fm (sgn (sgOf fm) 0 g) = true ∧ unI fm (sgn (sgOf fm) 0 g) = 0 := by
  rcases fmt_cases h with rfl | rfl <;> cases g <;> decide +kernel
theorem fin_y32' {x : Int} (hf : finB 32 x = true) : x < 4294967296 := by
  have := fin_ok hf; unfold okF at this; simpa using this
theorem ad_fin {fm mode a b : Int} (hO : muO fm mode a b = true) (fa : finB fm a = true) (fb : finB fm b = true) :
    adB fm mode a b = (if unI fm a + unI fm b = 0 then sgn (sgOf fm) 0 (sigB fm a && sigB fm b || ((sigB fm a != sigB fm b) && decide (mode = 3))) else RdB fm mode (Nm.wn (unI fm a + unI fm b)) (Nm.wl (unI fm a + unI fm b)) (unQ fm)) := by
  have hO' := hO
  unfold muO at hO'
  simp only [Bool.and_eq_true] at hO'
  obtain ⟨hm, hall⟩ := hO'
  obtain ⟨oa, ob⟩ := all2 hall
  obtain ⟨-, ia, -, -, na, -⟩ := fin_facts oa fa
  obtain ⟨-, ib, -, -, nb, -⟩ := fin_facts ob fb
  unfold adB aB
  rw [hO, if_pos rfl, na, nb, ia, ib]
  simp only [Bool.or_self, Bool.and_self, Bool.false_and, Bool.false_eq_true, if_false]
/-- What rounding a sum left over is a float. -/
theorem aa_core {fm a b : Int} (a0 : 0 ≤ a) (a1 : a < 18446744073709551616) (b0 : 0 ≤ b) (b1 : b < 18446744073709551616) (hO : muO fm 5 a b = true) (fa : finB fm a = true) (fb : finB fm b = true) (fh : finB fm (adB fm 5 a b) = true) :
    ∃ t : Int, 0 ≤ t ∧ t < 18446744073709551616 ∧ finB fm t = true ∧ unI fm t = unI fm a + unI fm b - unI fm (adB fm 5 a b) := by
  have hO' := hO
  unfold muO at hO'
  simp only [Bool.and_eq_true] at hO'
  obtain ⟨hm, hall⟩ := hO'
  obtain ⟨oa, ob⟩ := all2 hall
  have hfm := ok_fmt oa
  have hB := ad_fin hO fa fb
  by_cases hz : unI fm a + unI fm b = 0
  · rw [if_pos hz] at hB
    obtain ⟨z1, z2, z3, z4⟩ := zun fm hfm (sigB fm a && sigB fm b || ((sigB fm a != sigB fm b) && decide ((5 : Int) = 3)))
    exact ⟨_, z1, z2, z3, by rw [z4, hB, z4, hz]; rfl⟩
  · rw [if_neg hz] at hB
    have hRO := rdo_any (fm := fm) (mode := 0) (z := unI fm a + unI fm b) (e := unQ fm) hfm (by decide) (uu_len fm a b) (by have := unq_bd fm; omega) (by have := unq_bd fm; omega)
    rcases fmt_cases hfm with rfl | rfl
    · obtain ⟨t, t0, t1, t2, t3, -⟩ := err32 a0 (fin_y32' fa) b0 (fin_y32' fb) fa fb 5 (.inr (.inr rfl)) _ rfl hz hRO _ hB fh
      exact ⟨t, t0, by omega, t2, t3⟩
    · obtain ⟨t, t0, t1, t2, t3, -⟩ := err64 a0 a1 b0 b1 fa fb 5 (.inr (.inr rfl)) _ rfl hz hRO _ hB fh
      exact ⟨t, t0, t1, t2, t3⟩
/-- What is left over, where it is a float's value: that one, without a flag. -/
theorem au_val {fm h X t : Int} (hfm : fmtB fm = true) (hX : bitLen X.natAbs ≤ 6300) (fh : finB fm h = true) (t0 : 0 ≤ t) (t1 : t < 18446744073709551616) (ft : finB fm t = true) (ht : unI fm t * 2 ^ (-unQ fm).toNat = auR fm h X) (f : Int) :
    0 ≤ auT fm h X ∧ auT fm h X < 18446744073709551616 ∧ finB fm (auT fm h X) = true ∧ unI fm (auT fm h X) = unI fm t ∧ auF fm h f X = 0 := by
  have hq := unq_bd fm
  unfold auT auF
  rw [if_pos fh, if_pos fh]
  by_cases hz : auR fm h X = 0
  · rw [if_pos hz, if_pos hz]
    obtain ⟨z1, z2, z3, z4⟩ := zun fm hfm (sigB fm h)
    refine ⟨z1, z2, z3, ?_, rfl⟩
    rw [z4]
    rw [hz] at ht
    rcases Int.mul_eq_zero.1 ht with h' | h'
    · exact h'.symm
    · exact absurd h' (Int.ne_of_gt (Int.pow_pos (by decide)))
  · rw [if_neg hz, if_neg hz]
    have hRO := rdo_any (fm := fm) (mode := 5) (z := auR fm h X) (e := 2 * unQ fm) hfm (by decide) (auR_len hX) (by omega) (by omega)
    have hv : ValF fm t (auR fm h X) (2 * unQ fm) := by
      unfold ValF
      rw [show min (2 * unQ fm) (unQ fm) = 2 * unQ fm by omega, show unQ fm - 2 * unQ fm = -unQ fm by omega, show (2 * unQ fm - 2 * unQ fm).toNat = 0 by omega, ht]; simp
    obtain ⟨r1, r2⟩ := RdV_any (fin_ok ft) t0 t1 ft 5 _ _ (by decide) hRO hz hv
    rw [r1, r2]
    exact ⟨t0, t1, ft, rfl, rfl⟩
/-- FnAugAdd's numbers. -/
theorem aa_main {fm a b : Int} (a0 : 0 ≤ a) (a1 : a < 18446744073709551616) (b0 : 0 ≤ b) (b1 : b < 18446744073709551616) (hO : muO fm 5 a b = true) (hff : (finB fm a && finB fm b) = true) (fh : finB fm (aaB fm a b) = true) :
    0 ≤ aaT fm a b ∧ aaT fm a b < 18446744073709551616 ∧ finB fm (aaT fm a b) = true ∧ unI fm (aaB fm a b) + unI fm (aaT fm a b) = unI fm a + unI fm b ∧ aaF fm a b = 0 := by
  obtain ⟨fa, fb⟩ := Bool.and_eq_true_iff.1 hff
  unfold aaB at fh
  rw [if_pos hO] at fh
  have hO' := hO
  unfold muO at hO'
  simp only [Bool.and_eq_true] at hO'
  have hfm := ok_fmt (all2 hO'.2).1
  obtain ⟨t, t0, t1, t2, t3⟩ := aa_core a0 a1 b0 b1 hO fa fb fh
  have hR : unI fm t * 2 ^ (-unQ fm).toNat = auR fm (adB fm 5 a b) (asX fm a b) := by
    unfold auR asX; rw [t3, Int.sub_mul]
  obtain ⟨r0, r1, r2, r3, r4⟩ := au_val hfm (by have := asX_bl fm a b; omega) fh t0 t1 t2 hR (adF fm 5 a b)
  unfold aaB aaT aaF
  rw [if_pos hO, if_pos hO, if_pos hO]
  exact ⟨r0, r1, r2, by rw [r3, t3]; omega, r4⟩
/-- FnAugHead's numbers: what is left over is no more than half of what is between the head and the next one. -/
theorem ah_core32 {a b : Int} (a0 : 0 ≤ a) (a1 : a < 4294967296) (b0 : 0 ≤ b) (b1 : b < 4294967296) (fa : finB 32 a = true) (fb : finB 32 b = true) (h : Int) (hh : h = (if unI 32 a + unI 32 b = 0 then sgn (sgOf 32) 0 (sigB 32 a && sigB 32 b || ((sigB 32 a != sigB 32 b) && decide ((5 : Int) = 3))) else RdB 32 5 (Nm.wn (unI 32 a + unI 32 b)) (Nm.wl (unI 32 a + unI 32 b)) (-149))) (h0 : 0 ≤ h) (h1 : h < 4294967296) (fh : finB 32 h = true) (hg : absF 32 h ≠ 2139095039) :
    finB 32 (upF 32 (absF 32 h)) = true ∧ 2 * (unI 32 a + unI 32 b - unI 32 h).natAbs ≤ (unI 32 (upF 32 (absF 32 h)) - (unI 32 h).natAbs).toNat := by
  have ab : absF 32 h = h % 2147483648 := by
    have hok := fin_ok fh
    unfold absF; rw [if_pos hok]; rfl
  have hlt := fin_lt32 h0 h1 fh
  have hgap : ∀ v : Nat, (v : Int) = h % 2147483648 → v + 1 < 2139095040 ∧ upF 32 (absF 32 h) = sgn 2147483648 ((v + 1 : Nat) : Int) false ∧ (unI 32 h).natAbs = uf 8388608 v := fun v hv => by
    refine ⟨by rw [ab] at hg; omega, ?_, ?_⟩
    · rw [ab, ← hv]; exact (up_lo32 (v := v) (by omega)).1
    · have ux := un_uf32 h0 h1 fh
      rw [ux]; split
      · rw [show h.toNat = v by omega]; omega
      · rw [show (h - 2147483648).toNat = v by omega]; omega
  by_cases hz : unI 32 a + unI 32 b = 0
  · rw [if_pos hz] at hh
    obtain ⟨z1, z2, z3, z4⟩ := zun 32 (by decide) (sigB 32 a && sigB 32 b || ((sigB 32 a != sigB 32 b) && decide ((5 : Int) = 3)))
    rw [← hh] at z4
    obtain ⟨v, hv⟩ : ∃ v : Nat, (v : Int) = h % 2147483648 := ⟨(h % 2147483648).toNat, by omega⟩
    obtain ⟨g1, g2, g3⟩ := hgap v hv
    obtain ⟨s1, s2, s3, s4⟩ := unSg32 g1 false
    rw [g2, s4]
    refine ⟨s3, ?_⟩
    rw [hz, z4]; simp
  · rw [if_neg hz] at hh
    have hlen : (Nm.wl (unI 32 a + unI 32 b)).length ≤ 200 := uu_len 32 a b
    have hRO : RdO 32 0 (Nm.wn (unI 32 a + unI 32 b)) (Nm.wl (unI 32 a + unI 32 b)) (-149) = true := by unfold RdO; rw [okB_wl hlen]; rfl
    obtain ⟨t, -, -, -, -, v, v1, v2, v3, v4⟩ := err32 a0 a1 b0 b1 fa fb 5 (.inr (.inr rfl)) _ rfl hz hRO h hh fh
    have hv : (v : Int) = h % 2147483648 := by rw [v2]; unfold sgn; split <;> omega
    obtain ⟨g1, g2, g3⟩ := hgap v hv
    obtain ⟨s1, s2, s3, s4⟩ := unSg32 g1 false
    rw [g2, s4]
    refine ⟨s3, ?_⟩
    have := v4 g1
    rw [v3]
    simp only [Bool.false_eq_true, if_false]
    omega
/-- FnAugHead's numbers: what is left over is no more than half of what is between the head and the next one. -/
theorem ah_core64 {a b : Int} (a0 : 0 ≤ a) (a1 : a < 18446744073709551616) (b0 : 0 ≤ b) (b1 : b < 18446744073709551616) (fa : finB 64 a = true) (fb : finB 64 b = true) (h : Int) (hh : h = (if unI 64 a + unI 64 b = 0 then sgn (sgOf 64) 0 (sigB 64 a && sigB 64 b || ((sigB 64 a != sigB 64 b) && decide ((5 : Int) = 3))) else RdB 64 5 (Nm.wn (unI 64 a + unI 64 b)) (Nm.wl (unI 64 a + unI 64 b)) (-1074))) (h0 : 0 ≤ h) (h1 : h < 18446744073709551616) (fh : finB 64 h = true) (hg : absF 64 h ≠ 9218868437227405311) :
    finB 64 (upF 64 (absF 64 h)) = true ∧ 2 * (unI 64 a + unI 64 b - unI 64 h).natAbs ≤ (unI 64 (upF 64 (absF 64 h)) - (unI 64 h).natAbs).toNat := by
  have ab : absF 64 h = h % 9223372036854775808 := by
    have hok := fin_ok fh
    unfold absF; rw [if_pos hok]; rfl
  have hlt := fin_lt64 h0 h1 fh
  have hgap : ∀ v : Nat, (v : Int) = h % 9223372036854775808 → v + 1 < 9218868437227405312 ∧ upF 64 (absF 64 h) = sgn 9223372036854775808 ((v + 1 : Nat) : Int) false ∧ (unI 64 h).natAbs = uf 4503599627370496 v := fun v hv => by
    refine ⟨by rw [ab] at hg; omega, ?_, ?_⟩
    · rw [ab, ← hv]; exact (up_lo64 (v := v) (by omega)).1
    · have ux := un_uf64 h0 h1 fh
      rw [ux]; split
      · rw [show h.toNat = v by omega]; omega
      · rw [show (h - 9223372036854775808).toNat = v by omega]; omega
  by_cases hz : unI 64 a + unI 64 b = 0
  · rw [if_pos hz] at hh
    obtain ⟨z1, z2, z3, z4⟩ := zun 64 (by decide) (sigB 64 a && sigB 64 b || ((sigB 64 a != sigB 64 b) && decide ((5 : Int) = 3)))
    rw [← hh] at z4
    obtain ⟨v, hv⟩ : ∃ v : Nat, (v : Int) = h % 9223372036854775808 := ⟨(h % 9223372036854775808).toNat, by omega⟩
    obtain ⟨g1, g2, g3⟩ := hgap v hv
    obtain ⟨s1, s2, s3, s4⟩ := unSg64 g1 false
    rw [g2, s4]
    refine ⟨s3, ?_⟩
    rw [hz, z4]; simp
  · rw [if_neg hz] at hh
    have hlen : (Nm.wl (unI 64 a + unI 64 b)).length ≤ 200 := uu_len 64 a b
    have hRO : RdO 64 0 (Nm.wn (unI 64 a + unI 64 b)) (Nm.wl (unI 64 a + unI 64 b)) (-1074) = true := by unfold RdO; rw [okB_wl hlen]; rfl
    obtain ⟨t, -, -, -, -, v, v1, v2, v3, v4⟩ := err64 a0 a1 b0 b1 fa fb 5 (.inr (.inr rfl)) _ rfl hz hRO h hh fh
    have hv : (v : Int) = h % 9223372036854775808 := by rw [v2]; unfold sgn; split <;> omega
    obtain ⟨g1, g2, g3⟩ := hgap v hv
    obtain ⟨s1, s2, s3, s4⟩ := unSg64 g1 false
    rw [g2, s4]
    refine ⟨s3, ?_⟩
    have := v4 g1
    rw [v3]
    simp only [Bool.false_eq_true, if_false]
    omega
end Fd
end Go.Proofs.YtmcflggionkhlaaGreatDoor
