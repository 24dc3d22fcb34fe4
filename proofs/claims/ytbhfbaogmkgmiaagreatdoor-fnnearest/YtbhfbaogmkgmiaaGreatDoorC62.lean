/-
  What is needed of RN, AccC, VecA, EO, LR, MQ, RY.
-/
import Derived.Test.YtbhfbaogmkgmiaaGreatDoorC30
import Derived.Test.YtbhfbaogmkgmiaaGreatDoorC41
import Derived.Test.YtbhfbaogmkgmiaaGreatDoorC55
set_option maxHeartbeats 16000000
set_option maxRecDepth 1000000
namespace Go.Proofs.YtbhfbaogmkgmiaaGreatDoor
set_option linter.unusedVariables false
set_option linter.unusedSimpArgs false
namespace Nm
theorem rU_up {P : Nat} {q : Int} {a : Nat} {e : Int} (h : rr P q a e ≠ 0) : rU P q a e true = (rm P q a e + 1) * 2 ^ rk P q a e := by
  unfold rU r1 rk; simp [h]
/-- Above the least place what is cut has all of its bits. -/
theorem rm_top {P : Nat} {q : Int} {a : Nat} {e : Int} (hP : 1 ≤ P) (ha : a ≠ 0) (hk : rk P q a e ≠ 0) : 2 ^ (P - 1) ≤ rm P q a e := by
  have hn : q - e < rn P q a e := by unfold rk at hk; omega
  exact rm_ge ha hP hn
/-- .. and those of one place more. -/
theorem flb_mk1 {P m k : Nat} (hP : 1 ≤ P) (hm : m < 2 ^ P) (hk : k ≠ 0 → 2 ^ (P - 1) ≤ m) : flb P ((m + 1) * 2 ^ k) = m + 1 + k * 2 ^ (P - 1) ∧ bitLen ((m + 1) * 2 ^ k) - P ≤ k + 1 ∧ (m + 1) * 2 ^ k / 2 ^ (bitLen ((m + 1) * 2 ^ k) - P) * 2 ^ (bitLen ((m + 1) * 2 ^ k) - P) = (m + 1) * 2 ^ k := by
  have hp := Nat.two_pow_pos (P - 1)
  have hd := pw_dbl hP
  by_cases h : m + 1 < 2 ^ P
  · obtain ⟨h1, h2, h3⟩ := flb_mk (P := P) (m := m + 1) (k := k) hP h (fun h => by have := hk h; omega)
    exact ⟨h1, by omega, by rw [h3, h2]⟩
  · have e : m + 1 = 2 ^ P := by omega
    have e2 : (m + 1) * 2 ^ k = 2 ^ (P - 1) * 2 ^ (k + 1) := by
      rw [e, hd, Nat.pow_succ, Nat.mul_comm 2 (2 ^ (P - 1)), Nat.mul_assoc, Nat.mul_comm (2 ^ k) 2]
    obtain ⟨h1, h2, h3⟩ := flb_mk (P := P) (m := 2 ^ (P - 1)) (k := k + 1) hP (by omega) (fun _ => Nat.le_refl _)
    rw [e2, h1, h2]
    refine ⟨?_, Nat.le_refl _, by rw [Nat.mul_div_cancel _ (Nat.two_pow_pos _)]⟩
    rw [Nat.add_mul, Nat.one_mul]; omega
/-- The neighbours' bits are one apart. -/
theorem nb_bits {P : Nat} {q : Int} {a : Nat} {e : Int} (hP : 1 ≤ P) (ha : a ≠ 0) (hr : rr P q a e ≠ 0) :
    flb P (rU P q a e true) = flb P (rU P q a e false) + 1 ∧ rU P q a e false < rU P q a e true := by
  rw [rU_up hr, rU_dn]
  have h1 := flb_mk (P := P) (m := rm P q a e) (k := rk P q a e) hP rm_lt (rm_top hP ha)
  have h2 := flb_mk1 (P := P) (m := rm P q a e) (k := rk P q a e) hP rm_lt (rm_top hP ha)
  refine ⟨by rw [h1.1, h2.1]; omega, ?_⟩
  rw [Nat.add_mul, Nat.one_mul]
  have := Nat.two_pow_pos (rk P q a e)
  omega
/-- What is one place more is a float's units where the bits are a float's. -/
theorem flo_up {P I : Nat} {q : Int} {a : Nat} {e : Int} (hP : 1 ≤ P) (ha : a ≠ 0) (hr : rr P q a e ≠ 0) (hI : I ≤ 2100 * 2 ^ (P - 1)) (hf : flo P I (rU P q a e false) = true) (h : flb P (rU P q a e false) + 1 < I) : flo P I (rU P q a e true) = true := by
  have hb := (nb_bits (P := P) hP ha hr).1
  rw [rU_up hr] at hb ⊢
  have h2 := flb_mk1 (P := P) (m := rm P q a e) (k := rk P q a e) hP rm_lt (rm_top hP ha)
  unfold flo
  simp only [Bool.and_eq_true, decide_eq_true_eq]
  refine ⟨⟨?_, h2.2.2⟩, by omega⟩
  rw [h2.1] at hb
  have h3 : (rm P q a e + 1 + rk P q a e * 2 ^ (P - 1)) < 2100 * 2 ^ (P - 1) := by omega
  have h4 : rk P q a e < 2100 := by
    rcases Nat.lt_or_ge (rk P q a e) 2100 with h | h
    · exact h
    · have := Nat.mul_le_mul_right (2 ^ (P - 1)) h; omega
  omega
theorem off_up {P : Nat} {q : Int} {a : Nat} {e : Int} (hr : rr P q a e ≠ 0) : rU P q a e true * 2 ^ (q - min e q).toNat = a * 2 ^ (e - min e q).toNat + (2 ^ (rn P q a e).toNat - rr P q a e) * 2 ^ (e - min e q).toNat ∧ rr P q a e < 2 ^ (rn P q a e).toNat := by
  have hlt : rr P q a e < 2 ^ (rn P q a e).toNat := Nat.mod_lt _ (Nat.two_pow_pos _)
  refine ⟨?_, hlt⟩
  have h1 : 1 ≤ rn P q a e := rr_pos hr
  have hd := off_dn (P := P) (q := q) (a := a) (e := e)
  rw [rU_dn] at hd
  rw [rU_up hr, Nat.add_mul, Nat.add_mul, Nat.one_mul, ← hd, Nat.add_assoc (rm P q a e * 2 ^ rk P q a e * 2 ^ (q - min e q).toNat), ← Nat.add_mul (rr P q a e), show rr P q a e + (2 ^ (rn P q a e).toNat - rr P q a e) = 2 ^ (rn P q a e).toNat by omega]
  rw [← Nat.pow_add, ← Nat.pow_add]
  congr 2
  have hn : q - e ≤ rn P q a e := by unfold rn; omega
  unfold rk; omega
theorem flb_lt_flo {P I u v : Nat} (h : u ≤ v) (hP : 1 ≤ P) (hx : u / 2 ^ (bitLen u - P) * 2 ^ (bitLen u - P) = u) (hf : flo P I v = true) (hm : flb P u ≤ flb P v) : flo P I u = true := by
  unfold flo at hf ⊢
  simp only [Bool.and_eq_true, decide_eq_true_eq] at hf ⊢
  have := bl_mono h
  exact ⟨⟨by omega, hx⟩, by omega⟩
end Nm
open Go.RowKit Go.Deep
/-- How far from 0 a sum of T terms may be. -/
def far (fm T : Int) : Nat := Nm.sh T.toNat (if fm = 32 then 554 else 4196)
/-- What is wrong with a vector. -/
def vecC (fm mode : Int) (xs : List Int) : Int := if fmtB fm && modeB mode then (if xs.length ≤ 300 then (if allB fm xs then 0 else 4) else 2) else 1
def finA (fm : Int) (xs : List Int) : Bool := xs.all (fun x => finB fm x)
/-- Whether it is answered, and by what. -/
def eO (fm b : Int) (xs : List Int) : Bool := (vecC fm 0 xs == 0) && finB fm b && finA fm xs
def eV (fm b : Int) (xs : List Int) : Int := if eO fm b xs then eK fm b xs xs.length else 0
namespace Fd
theorem round_any (fm mode : Int) (ng : Bool) (zs : List Int) (e : Int) (p : Option Addr) (c : Nat) (w : World) (hT : T3 w) (hs : Sl .u32 w (.slice p zs.length c) zs) (hz : Nm.Dg zs) (hl : zs.length ≤ 1048576) :
    Calls Tryz.prog 17 #[.int .i64 fm, .int .i64 mode, .agg #[.bool ng, .slice p zs.length c], .int .i64 e] w fun x w' => x = .returned (.tuple #[.int .u64 (RdB fm mode ng zs e), .int .i64 (RdF fm mode ng zs e), .bool true]) ∧ Below w.heap.size w w' := by
  have CS := hid (fun w' h => rounded_spec fm mode ng zs e p c w' h hz hl)
  have CI := hid (fun w' h h' => rounded_impl fm mode ng zs e p c w' h h' hz hl)
  obtain ⟨b, hb⟩ : ∃ b, b = RdB fm mode ng zs e := ⟨_, rfl⟩
  obtain ⟨f, hf⟩ : ∃ f, f = RdF fm mode ng zs e := ⟨_, rfl⟩
  obtain ⟨o, ho⟩ : ∃ o, o = RdO fm mode ng zs e := ⟨_, rfl⟩
  rw [← hb, ← hf] at CS CI ⊢
  rw [← ho] at CS CI
  clear hb hf ho hz hl
  have q1 : (b == b) = true := by simp
  have q2 : (f == f) = true := by simp
  have q3 : (o == o) = true := by simp
  go_enter Tryz.func17, Tryz.ntmps17
  go_wp2_with fail
  refine (CI.out _ (hT.al _) (hs.alloc _)).mono ?_
  rintro x w1 ⟨rfl, hb1⟩
  have x1 := (Box.new w (.bool ng) (.slice p zs.length c) 26).below hb1
  have hs1 := (hs.alloc _).below hb1
  obtain ⟨x10, x11⟩ := x1
  go_wp2_with fail
  refine (CS.out _ hs1).mono ?_
  rintro x w2 ⟨rfl, hb2⟩
  go_wp2
  go_ret3
  exact ⟨rfl, (by repeat (first | exact bz0 _ _ | refine bz1 ?_ | refine bz2 ?_ _ | refine bz3 ?_ _ | refine bz4 ?_ hb2 | refine bz4 ?_ hb1 | refine bz5 ?_ _ | refine bz6 ?_ _ | refine bz7 ?_ hb2 | refine bz7 ?_ hb1))⟩
theorem goes_any (fm : Int) (ng : Bool) (zs : List Int) (e : Int) (p : Option Addr) (c : Nat) (w : World) (hs : Sl .u32 w (.slice p zs.length c) zs) (hz : Nm.Dg zs) (hl : zs.length ≤ 1048576) :
    Calls Tryz.prog 18 #[.int .i64 fm, .agg #[.bool ng, .slice p zs.length c], .int .i64 e] w fun x w' => x = .returned (.bool (RdO fm 0 ng zs e)) ∧ Below w.heap.size w w' := by
  have CS := hid (fun w' h => rounded_spec fm 0 ng zs e p c w' h hz hl)
  obtain ⟨b, hb⟩ : ∃ b, b = RdB fm 0 ng zs e := ⟨_, rfl⟩
  obtain ⟨f, hf⟩ : ∃ f, f = RdF fm 0 ng zs e := ⟨_, rfl⟩
  obtain ⟨o, ho⟩ : ∃ o, o = RdO fm 0 ng zs e := ⟨_, rfl⟩
  rw [← hb, ← hf, ← ho] at CS
  rw [← ho]
  clear hb hf ho hz hl
  go_enter Tryz.func18, Tryz.ntmps18
  go_wp2_with fail
  refine (CS.out _ (hs.alloc _)).mono ?_
  rintro x w1 ⟨rfl, hb1⟩
  go_wp2
  go_ret
  exact ⟨rfl, (by repeat (first | exact bz0 _ _ | refine bz1 ?_ | refine bz2 ?_ _ | refine bz3 ?_ _ | refine bz4 ?_ hb1 | refine bz5 ?_ _ | refine bz6 ?_ _ | refine bz7 ?_ hb1))⟩
theorem wl_of_ok {ng : Bool} {zs : List Int} (hd : Nm.Dg zs) (hok : okB ng zs = true) : Nm.wl (Nm.wv ng zs) = zs ∧ Nm.wn (Nm.wv ng zs) = ng := by
  have hl : Nm.lim (Nm.val zs).toNat = zs := (lim_ok hd hok).1.symm
  have ht : Nm.trim zs = zs := by rw [Nm.trim_lim hd, hl]
  rw [Nm.wl_wv _ hd, Nm.wn_wv _ hd, ht]
  refine ⟨rfl, ?_⟩
  by_cases hz : zs.length = 0
  · unfold okB at hok
    rw [if_pos hz] at hok
    rw [decide_eq_true hz]
    cases ng
    · rfl
    · simp at hok
  · rw [decide_eq_false hz]; simp
open Nm (rU rr rn rh rm flo flb)
/-- The bits of the neighbour nearer to 0, and of the other one. -/
def mgLo (P : Nat) (q : Int) (I : Nat) (a : Nat) (e : Int) : Nat := if flo P I (rU P q a e false) then flb P (rU P q a e false) else I - 1
def mgHi (P : Nat) (q : Int) (I : Nat) (a : Nat) (e : Int) : Nat := if flo P I (rU P q a e true) then flb P (rU P q a e true) else I
/-- Exact, and no more than the greatest. -/
def exB (P : Nat) (q : Int) (I : Nat) (a : Nat) (e : Int) : Bool := decide (rr P q a e = 0) && flo P I (rU P q a e false)
theorem flo_lt {P I u : Nat} (h : flo P I u = true) : flb P u < I := by
  unfold Nm.flo at h
  simp only [Bool.and_eq_true, decide_eq_true_eq] at h
  exact h.2
theorem rU_same {P : Nat} {q : Int} {a : Nat} {e : Int} (h : rr P q a e = 0) : rU P q a e true = rU P q a e false := by rw [Nm.rU_ex h, Nm.rU_ex h]
/-- A place is exactly a float's, but for its greatness. -/
theorem dn_exact {P : Nat} {q : Int} {a : Nat} {e : Int} (hP : 1 ≤ P) (ha : a ≠ 0) : rU P q a e false / 2 ^ (bitLen (rU P q a e false) - P) * 2 ^ (bitLen (rU P q a e false) - P) = rU P q a e false := by
  rw [Nm.rU_dn]
  obtain ⟨-, h2, h3⟩ := Nm.flb_mk (P := P) (m := rm P q a e) (k := Nm.rk P q a e) hP Nm.rm_lt (Nm.rm_top hP ha)
  rw [h3, h2]
theorem flo_dn_of_up {P I : Nat} {q : Int} {a : Nat} {e : Int} (hP : 1 ≤ P) (ha : a ≠ 0) (h : flo P I (rU P q a e true) = true) : flo P I (rU P q a e false) = true := by
  by_cases hr : rr P q a e = 0
  · rw [← rU_same hr]; exact h
  · have hb := Nm.nb_bits (P := P) hP ha hr
    exact Nm.flb_lt_flo (Nat.le_of_lt hb.2) hP (dn_exact hP ha) h (by omega)
theorem lohi {P I : Nat} {q : Int} {a : Nat} {e : Int} (hP : 1 ≤ P) (ha : a ≠ 0) (hI : I ≤ 2100 * 2 ^ (P - 1)) (hI0 : 1 ≤ I) :
    mgLo P q I a e < I ∧ mgHi P q I a e ≤ I ∧ mgHi P q I a e = (if exB P q I a e then mgLo P q I a e else mgLo P q I a e + 1) := by
  unfold mgLo mgHi exB
  by_cases hd : flo P I (rU P q a e false) = true
  · rw [if_pos hd, hd]
    have h1 := flo_lt hd
    by_cases hr : rr P q a e = 0
    · rw [rU_same hr, if_pos hd, decide_eq_true hr]
      exact ⟨h1, by omega, rfl⟩
    · rw [decide_eq_false hr]
      have hb := (Nm.nb_bits (P := P) hP ha hr).1
      by_cases hu : flo P I (rU P q a e true) = true
      · rw [if_pos hu]
        have h2 := flo_lt hu
        exact ⟨h1, by omega, by simpa using hb⟩
      · rw [if_neg hu]
        have : ¬ flb P (rU P q a e false) + 1 < I := fun h => hu (Nm.flo_up hP ha hr hI hd h)
        refine ⟨h1, Nat.le_refl _, ?_⟩
        simp; omega
  · have hu : ¬ flo P I (rU P q a e true) = true := fun h => hd (flo_dn_of_up hP ha h)
    rw [if_neg hd, if_neg hu]
    have hd' : flo P I (rU P q a e false) = false := by simpa using hd
    rw [hd', Bool.and_false]
    refine ⟨by omega, Nat.le_refl _, ?_⟩
    simp; omega
theorem hi_off {P I : Nat} {q : Int} {a : Nat} {e : Int} (hP : 2 ≤ P) (ha : a ≠ 0) (h : mgHi P q I a e < I) :
    a * 2 ^ (e - min e q).toNat ≤ uf (2 ^ (P - 1)) (mgHi P q I a e) * 2 ^ (q - min e q).toNat ∧ flo P I (rU P q a e true) = true ∧ uf (2 ^ (P - 1)) (mgHi P q I a e) = rU P q a e true := by
  have hf : flo P I (rU P q a e true) = true := by
    cases hf : flo P I (rU P q a e true)
    · unfold mgHi at h; rw [hf] at h; simp at h
    · rfl
  have e1 : uf (2 ^ (P - 1)) (mgHi P q I a e) = rU P q a e true := by
    unfold mgHi; rw [if_pos hf, flb_uf P I _ (by omega) hf]
  refine ⟨?_, hf, e1⟩
  rw [e1]
  by_cases hr : rr P q a e = 0
  · have hd := Nm.off_dn (P := P) (q := q) (a := a) (e := e)
    rw [hr, Nat.zero_mul, Nat.add_zero] at hd
    rw [rU_same hr, hd]; exact Nat.le_refl _
  · have hu := (Nm.off_up (P := P) (q := q) (a := a) (e := e) hr).1
    omega
/-- What the modes give. -/
theorem mg_lo {P I : Nat} {q m : Int} {ng : Bool} {a : Nat} {e : Int} (hu : ∀ od h, upB m od h ng = false) (ho : ovB m ng = true) (hI0 : 1 ≤ I) : mgB P q I m ng a e = (mgLo P q I a e : Nat) := by
  unfold mgB rdU mgLo
  rw [hu, ho]
  split <;> simp <;> omega
theorem mg_hi {P I : Nat} {q m : Int} {ng : Bool} {a : Nat} {e : Int} (hu : ∀ od h, upB m od h ng = true) (ho : ovB m ng = false) : mgB P q I m ng a e = (mgHi P q I a e : Nat) := by
  unfold mgB rdU mgHi
  rw [hu, ho]
  split <;> simp
/-- To the nearest one: away from 0 or towards it, as half says. -/
theorem mg_near {P I : Nat} {q m : Int} {ng : Bool} {a : Nat} {e : Int} (hP : 1 ≤ P) (ha : a ≠ 0) (ho : ovB m ng = false) (b : Bool) (hb : b = upB m (((rm P q a e : Nat) : Int) % 2 == 1) (rh P q a e) ng) :
    mgB P q I m ng a e = (if b then ((mgHi P q I a e : Nat) : Int) else if flo P I (rU P q a e false) then ((mgLo P q I a e : Nat) : Int) else ((mgHi P q I a e : Nat) : Int)) := by
  unfold mgB rdU
  rw [← hb, ho]
  cases b
  · simp only [Bool.false_eq_true, if_false]
    by_cases hf : flo P I (rU P q a e false) = true
    · rw [if_pos hf, if_pos hf]; unfold mgLo; rw [if_pos hf]
    · rw [if_neg hf, if_neg hf]
      have hu : ¬ flo P I (rU P q a e true) = true := fun h => hf (flo_dn_of_up hP ha h)
      unfold mgHi; rw [if_neg hu]
  · simp only [if_true]
    unfold mgHi
    by_cases hf : flo P I (rU P q a e true) = true
    · rw [if_pos hf, if_pos hf]
    · rw [if_neg hf, if_neg hf]; simp
theorem rdF_zero {P I : Nat} {q m : Int} {ng : Bool} {a : Nat} {e : Int} : (rdF P q I m ng a e == 0) = exB P q I a e := by
  unfold rdF exB
  by_cases hr : rr P q a e = 0
  · have : rdU P q m ng a e = rU P q a e false := by unfold rdU; rw [Nm.rU_ex hr, Nm.rU_ex hr]
    rw [this, decide_eq_true hr, Bool.true_and]
    by_cases hf : flo P I (rU P q a e false) = true
    · rw [if_pos hf, if_pos hr, hf]; rfl
    · rw [if_neg hf]; have : flo P I (rU P q a e false) = false := by simpa using hf
      rw [this]; rfl
  · rw [decide_eq_false hr, Bool.false_and]
    by_cases hf : flo P I (rdU P q m ng a e) = true
    · rw [if_pos hf, if_neg hr]; split <;> rfl
    · rw [if_neg hf]; rfl
/-- A float's units less z times 2 to the e, in 2 to the lower exponent. -/
def offD (fm x z e : Int) : Int := unI fm x * 2 ^ (unQ fm - min e (unQ fm)).toNat - z * 2 ^ (e - min e (unQ fm)).toNat
theorem pnat (n : Nat) : ((2 ^ n : Nat) : Int) = (2 : Int) ^ n := by simp
/-- The two modes, below 0 and above. -/
theorem two_32 (z e : Int) (hO : RdO 32 0 (Nm.wn z) (Nm.wl z) e = true) (hz : z ≠ 0) :
    RdB 32 3 (Nm.wn z) (Nm.wl z) e = sgn 2147483648 ((if z < 0 then mgHi 24 (-149) 2139095040 z.natAbs e else mgLo 24 (-149) 2139095040 z.natAbs e : Nat) : Int) (Nm.wn z) ∧
    RdB 32 2 (Nm.wn z) (Nm.wl z) e = sgn 2147483648 ((if z < 0 then mgLo 24 (-149) 2139095040 z.natAbs e else mgHi 24 (-149) 2139095040 z.natAbs e : Nat) : Int) (Nm.wn z) ∧
    RdB 32 1 (Nm.wn z) (Nm.wl z) e = sgn 2147483648 ((mgLo 24 (-149) 2139095040 z.natAbs e : Nat) : Int) (Nm.wn z) ∧
    (∀ m, modeB m = true → (RdF 32 m (Nm.wn z) (Nm.wl z) e == 0) = exB 24 (-149) 2139095040 z.natAbs e) ∧
    (∀ m, m = 0 ∨ m = 4 ∨ m = 5 → RdB 32 m (Nm.wn z) (Nm.wl z) e = sgn 2147483648 (if upB m (((rm 24 (-149) z.natAbs e : Nat) : Int) % 2 == 1) (rh 24 (-149) z.natAbs e) (Nm.wn z) then ((mgHi 24 (-149) 2139095040 z.natAbs e : Nat) : Int) else if flo 24 2139095040 (rU 24 (-149) z.natAbs e false) then ((mgLo 24 (-149) 2139095040 z.natAbs e : Nat) : Int) else ((mgHi 24 (-149) 2139095040 z.natAbs e : Nat) : Int)) (Nm.wn z)) := by
  have hnz : ¬ (Nm.wl z).length = 0 := fun h => hz ((wl_zero' z).1 h)
  have hOm : ∀ m, modeB m = true → RdO 32 m (Nm.wn z) (Nm.wl z) e = true := fun m hm => by
    unfold RdO at hO ⊢; simp at hO ⊢; exact ⟨⟨⟨hO.1.1.1, hm⟩, hO.1.2⟩, hO.2⟩
  have ha : z.natAbs ≠ 0 := by omega
  have rd : ∀ m, modeB m = true → RdB 32 m (Nm.wn z) (Nm.wl z) e = sgn 2147483648 (mgB 24 (-149) 2139095040 m (Nm.wn z) z.natAbs e) (Nm.wn z) := fun m hm => by
    obtain ⟨b1, -⟩ := Rd_any32 m (Nm.wn z) (Nm.wl z) e (hOm m hm) hnz
    rw [b1, Nm.val_wl, Int.toNat_natCast, mgB_eq]
  refine ⟨?_, ?_, ?_, fun m hm => ?_, fun m hm => ?_⟩
  · rw [rd 3 (by decide)]
    by_cases h : z < 0
    · rw [if_pos h, mg_hi (fun od h' => by unfold upB Nm.wn; simp [h]) (by unfold ovB Nm.wn; simp [h])]
    · rw [if_neg h, mg_lo (fun od h' => by unfold upB Nm.wn; simp [h]) (by unfold ovB Nm.wn; simp [h]) (by decide)]
  · rw [rd 2 (by decide)]
    by_cases h : z < 0
    · rw [if_pos h, mg_lo (fun od h' => by unfold upB Nm.wn; simp [h]) (by unfold ovB Nm.wn; simp [h]) (by decide)]
    · rw [if_neg h, mg_hi (fun od h' => by unfold upB Nm.wn; simp [h]) (by unfold ovB Nm.wn; simp [h])]
  · rw [rd 1 (by decide), mg_lo (fun od h' => by unfold upB; simp) (by unfold ovB; simp) (by decide)]
  · obtain ⟨-, b2⟩ := Rd_any32 m (Nm.wn z) (Nm.wl z) e (hOm m hm) hnz
    rw [b2, Nm.val_wl, Int.toNat_natCast, rdF_zero]
  · have hm' : modeB m = true := by rcases hm with rfl | rfl | rfl <;> decide
    rw [rd m hm', mg_near (by decide) ha (by rcases hm with rfl | rfl | rfl <;> rfl) _ rfl]
/-- The units of a neighbour. -/
theorem un_mg32 (z : Int) {v : Nat} (hv : v < 2139095040) : unI 32 (sgn 2147483648 (v : Int) (Nm.wn z)) = (if z < 0 then -((uf 8388608 v : Nat) : Int) else (uf 8388608 v : Nat)) := by
  rw [(unSg32 hv (Nm.wn z)).2.2.2]
  unfold Nm.wn
  by_cases h : z < 0
  · rw [decide_eq_true h, if_pos h]; rfl
  · rw [decide_eq_false h, if_neg h]; rfl
theorem fin_mg32 {v : Nat} (hv : v ≤ 2139095040) (g : Bool) (hf : finB 32 (sgn 2147483648 (v : Int) g) = true) : v < 2139095040 := by
  have hb := sgn_abs32 (v := (v : Int)) (by omega) (by omega) g
  have := fin_lt32 hb.1 hb.2.1 hf
  unfold sgn at this
  split at this <;> omega
/-- .. and how far it is away. -/
theorem offD_mg32 (z e : Int) {v : Nat} (hv : v < 2139095040) : offD 32 (sgn 2147483648 (v : Int) (Nm.wn z)) z e = (if z < 0 then ((z.natAbs * 2 ^ (e - min e (-149)).toNat : Nat) : Int) - ((uf 8388608 v * 2 ^ ((-149) - min e (-149)).toNat : Nat) : Int) else ((uf 8388608 v * 2 ^ ((-149) - min e (-149)).toNat : Nat) : Int) - ((z.natAbs * 2 ^ (e - min e (-149)).toNat : Nat) : Int)) := by
  unfold offD
  rw [un_mg32 z hv]
  have hq : unQ 32 = (-149) := rfl
  rw [hq, Int.natCast_mul, Int.natCast_mul, pnat, pnat]
  by_cases h : z < 0
  · rw [if_pos h, if_pos h, show ((z.natAbs : Nat) : Int) = -z by omega, Int.neg_mul, Int.neg_mul]; omega
  · rw [if_neg h, if_neg h, show ((z.natAbs : Nat) : Int) = z by omega]
/-- The two modes, below 0 and above. -/
theorem two_64 (z e : Int) (hO : RdO 64 0 (Nm.wn z) (Nm.wl z) e = true) (hz : z ≠ 0) :
    RdB 64 3 (Nm.wn z) (Nm.wl z) e = sgn 9223372036854775808 ((if z < 0 then mgHi 53 (-1074) 9218868437227405312 z.natAbs e else mgLo 53 (-1074) 9218868437227405312 z.natAbs e : Nat) : Int) (Nm.wn z) ∧
    RdB 64 2 (Nm.wn z) (Nm.wl z) e = sgn 9223372036854775808 ((if z < 0 then mgLo 53 (-1074) 9218868437227405312 z.natAbs e else mgHi 53 (-1074) 9218868437227405312 z.natAbs e : Nat) : Int) (Nm.wn z) ∧
    RdB 64 1 (Nm.wn z) (Nm.wl z) e = sgn 9223372036854775808 ((mgLo 53 (-1074) 9218868437227405312 z.natAbs e : Nat) : Int) (Nm.wn z) ∧
    (∀ m, modeB m = true → (RdF 64 m (Nm.wn z) (Nm.wl z) e == 0) = exB 53 (-1074) 9218868437227405312 z.natAbs e) ∧
    (∀ m, m = 0 ∨ m = 4 ∨ m = 5 → RdB 64 m (Nm.wn z) (Nm.wl z) e = sgn 9223372036854775808 (if upB m (((rm 53 (-1074) z.natAbs e : Nat) : Int) % 2 == 1) (rh 53 (-1074) z.natAbs e) (Nm.wn z) then ((mgHi 53 (-1074) 9218868437227405312 z.natAbs e : Nat) : Int) else if flo 53 9218868437227405312 (rU 53 (-1074) z.natAbs e false) then ((mgLo 53 (-1074) 9218868437227405312 z.natAbs e : Nat) : Int) else ((mgHi 53 (-1074) 9218868437227405312 z.natAbs e : Nat) : Int)) (Nm.wn z)) := by
  have hnz : ¬ (Nm.wl z).length = 0 := fun h => hz ((wl_zero' z).1 h)
  have hOm : ∀ m, modeB m = true → RdO 64 m (Nm.wn z) (Nm.wl z) e = true := fun m hm => by
    unfold RdO at hO ⊢; simp at hO ⊢; exact ⟨⟨⟨hO.1.1.1, hm⟩, hO.1.2⟩, hO.2⟩
  have ha : z.natAbs ≠ 0 := by omega
  have rd : ∀ m, modeB m = true → RdB 64 m (Nm.wn z) (Nm.wl z) e = sgn 9223372036854775808 (mgB 53 (-1074) 9218868437227405312 m (Nm.wn z) z.natAbs e) (Nm.wn z) := fun m hm => by
    obtain ⟨b1, -⟩ := Rd_any64 m (Nm.wn z) (Nm.wl z) e (hOm m hm) hnz
    rw [b1, Nm.val_wl, Int.toNat_natCast, mgB_eq]
  refine ⟨?_, ?_, ?_, fun m hm => ?_, fun m hm => ?_⟩
  · rw [rd 3 (by decide)]
    by_cases h : z < 0
    · rw [if_pos h, mg_hi (fun od h' => by unfold upB Nm.wn; simp [h]) (by unfold ovB Nm.wn; simp [h])]
    · rw [if_neg h, mg_lo (fun od h' => by unfold upB Nm.wn; simp [h]) (by unfold ovB Nm.wn; simp [h]) (by decide)]
  · rw [rd 2 (by decide)]
    by_cases h : z < 0
    · rw [if_pos h, mg_lo (fun od h' => by unfold upB Nm.wn; simp [h]) (by unfold ovB Nm.wn; simp [h]) (by decide)]
    · rw [if_neg h, mg_hi (fun od h' => by unfold upB Nm.wn; simp [h]) (by unfold ovB Nm.wn; simp [h])]
  · rw [rd 1 (by decide), mg_lo (fun od h' => by unfold upB; simp) (by unfold ovB; simp) (by decide)]
  · obtain ⟨-, b2⟩ := Rd_any64 m (Nm.wn z) (Nm.wl z) e (hOm m hm) hnz
    rw [b2, Nm.val_wl, Int.toNat_natCast, rdF_zero]
  · have hm' : modeB m = true := by rcases hm with rfl | rfl | rfl <;> decide
    rw [rd m hm', mg_near (by decide) ha (by rcases hm with rfl | rfl | rfl <;> rfl) _ rfl]
/-- The units of a neighbour. -/
theorem un_mg64 (z : Int) {v : Nat} (hv : v < 9218868437227405312) : unI 64 (sgn 9223372036854775808 (v : Int) (Nm.wn z)) = (if z < 0 then -((uf 4503599627370496 v : Nat) : Int) else (uf 4503599627370496 v : Nat)) := by
  rw [(unSg64 hv (Nm.wn z)).2.2.2]
  unfold Nm.wn
  by_cases h : z < 0
  · rw [decide_eq_true h, if_pos h]; rfl
  · rw [decide_eq_false h, if_neg h]; rfl
theorem fin_mg64 {v : Nat} (hv : v ≤ 9218868437227405312) (g : Bool) (hf : finB 64 (sgn 9223372036854775808 (v : Int) g) = true) : v < 9218868437227405312 := by
  have hb := sgn_abs64 (v := (v : Int)) (by omega) (by omega) g
  have := fin_lt64 hb.1 hb.2.1 hf
  unfold sgn at this
  split at this <;> omega
/-- .. and how far it is away. -/
theorem offD_mg64 (z e : Int) {v : Nat} (hv : v < 9218868437227405312) : offD 64 (sgn 9223372036854775808 (v : Int) (Nm.wn z)) z e = (if z < 0 then ((z.natAbs * 2 ^ (e - min e (-1074)).toNat : Nat) : Int) - ((uf 4503599627370496 v * 2 ^ ((-1074) - min e (-1074)).toNat : Nat) : Int) else ((uf 4503599627370496 v * 2 ^ ((-1074) - min e (-1074)).toNat : Nat) : Int) - ((z.natAbs * 2 ^ (e - min e (-1074)).toNat : Nat) : Int)) := by
  unfold offD
  rw [un_mg64 z hv]
  have hq : unQ 64 = (-1074) := rfl
  rw [hq, Int.natCast_mul, Int.natCast_mul, pnat, pnat]
  by_cases h : z < 0
  · rw [if_pos h, if_pos h, show ((z.natAbs : Nat) : Int) = -z by omega, Int.neg_mul, Int.neg_mul]; omega
  · rw [if_neg h, if_neg h, show ((z.natAbs : Nat) : Int) = z by omega]
end Fd
end Go.Proofs.YtbhfbaogmkgmiaaGreatDoor
