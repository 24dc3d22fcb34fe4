/-
  What is needed of RY.
-/
import Derived.Test.YtmcflggionkhlaaGreatDoorK44
set_option maxHeartbeats 16000000
set_option maxRecDepth 1000000
namespace Go.Proofs.YtmcflggionkhlaaGreatDoor
set_option linter.unusedVariables false
set_option linter.unusedSimpArgs false
open Go.RowKit Go.Deep
namespace Fd
open Nm (rU rr rn rh rm flo flb)
/-- The bits of the neighbour nearer to 0, and of the other one. -/
def mgLo (P : Nat) (q : Int) (I : Nat) (a : Nat) (e : Int) : Nat := if flo P I (rU P q a e false) then flb P (rU P q a e false) else I - 1
def mgHi (P : Nat) (q : Int) (I : Nat) (a : Nat) (e : Int) : Nat := if flo P I (rU P q a e true) then flb P (rU P q a e true) else I
/-- Exact, and no more than the greatest. -/
def exB (P : Nat) (q : Int) (I : Nat) (a : Nat) (e : Int) : Bool := decide (rr P q a e = 0) && flo P I (rU P q a e false)
theorem flo_lt {P I u : Nat} (h : flo P I u = true) : flb P u < I := by
  unfold Nm.flo at h
  simp only [Bool.and_eq_true, decide_eq_true_eq] at h
  exact h.2
theorem rU_same {P : Nat} {q : Int} {a : Nat} {e : Int} (h : rr P q a e = 0) : rU P q a e true = rU P q a e false := by rw [Nm.rU_ex h, Nm.rU_ex h]
/-- A place is exactly a float's, but for its greatness. -/
theorem dn_exact {P : Nat} {q : Int} {a : Nat} {e : Int} (hP : 1 ≤ P) (ha : a ≠ 0) : rU P q a e false / 2 ^ (bitLen (rU P q a e false) - P) * 2 ^ (bitLen (rU P q a e false) - P) = rU P q a e false := by
  rw [Nm.rU_dn]
  obtain ⟨-, h2, h3⟩ := Nm.flb_mk (P := P) (m := rm P q a e) (k := Nm.rk P q a e) hP Nm.rm_lt (Nm.rm_top hP ha)
  rw [h3, h2]
theorem flo_dn_of_up {P I : Nat} {q : Int} {a : Nat} {e : Int} (hP : 1 ≤ P) (ha : a ≠ 0) (h : flo P I (rU P q a e true) = true) : flo P I (rU P q a e false) = true := by
  by_cases hr : rr P q a e = 0
  · rw [← rU_same hr]; exact h
  · have hb := Nm.nb_bits (P := P) hP ha hr
    exact Nm.flb_lt_flo (Nat.le_of_lt hb.2) hP (dn_exact hP ha) h (by omega)
theorem lohi {P I : Nat} {q : Int} {a : Nat} {e : Int} (hP : 1 ≤ P) (ha : a ≠ 0) (hI : I ≤ 2100 * 2 ^ (P - 1)) (hI0 : 1 ≤ I) :
    mgLo P q I a e < I ∧ mgHi P q I a e ≤ I ∧ mgHi P q I a e = (if exB P q I a e then mgLo P q I a e else mgLo P q I a e + 1) := by
  unfold mgLo mgHi exB
  by_cases hd : flo P I (rU P q a e false) = true
  · rw [if_pos hd, hd]
    have h1 := flo_lt hd
    by_cases hr : rr P q a e = 0
    · rw [rU_same hr, if_pos hd, decide_eq_true hr]
      exact ⟨h1, by omega, rfl⟩
    · rw [decide_eq_false hr]
      have hb := (Nm.nb_bits (P := P) hP ha hr).1
      by_cases hu : flo P I (rU P q a e true) = true
      · rw [if_pos hu]
        have h2 := flo_lt hu
        exact ⟨h1, by omega, by simpa using hb⟩
      · rw [if_neg hu]
        have : ¬ flb P (rU P q a e false) + 1 < I := fun h => hu (Nm.flo_up hP ha hr hI hd h)
        refine ⟨h1, Nat.le_refl _, ?_⟩
        simp; omega
  · have hu : ¬ flo P I (rU P q a e true) = true := fun h => hd (flo_dn_of_up hP ha h)
    rw [if_neg hd, if_neg hu]
    have hd' : flo P I (rU P q a e false) = false := by simpa using hd
    rw [hd', Bool.and_false]
    refine ⟨by omega, Nat.le_refl _, ?_⟩
    simp; omega
theorem lo_off {P I : Nat} {q : Int} {a : Nat} {e : Int} (hP : 2 ≤ P) (ha : a ≠ 0) (hI : I ≤ 2100 * 2 ^ (P - 1)) (hI0 : 1 ≤ I) :
    uf (2 ^ (P - 1)) (mgLo P q I a e) * 2 ^ (q - min e q).toNat ≤ a * 2 ^ (e - min e q).toNat := by
  have hd := Nm.off_dn (P := P) (q := q) (a := a) (e := e)
  have key : uf (2 ^ (P - 1)) (mgLo P q I a e) ≤ rU P q a e false := by
    unfold mgLo
    by_cases hf : flo P I (rU P q a e false) = true
    · rw [if_pos hf, flb_uf P I _ (by omega) hf]; exact Nat.le_refl _
    · rw [if_neg hf]
      rcases Nat.lt_or_ge (rU P q a e false) (uf (2 ^ (P - 1)) (I - 1)) with h | h
      · exfalso; apply hf
        have hg := uf_flo P I (by omega) (I - 1) (by omega) hI
        have hm := Nm.flb_mono' (P := P) (by omega) (Nat.le_of_lt h)
        exact Nm.flb_lt_flo (Nat.le_of_lt h) (by omega) (dn_exact (by omega) ha) hg hm
      · exact h
  exact Nat.le_trans (Nat.mul_le_mul_right _ key) (by omega)
theorem hi_off {P I : Nat} {q : Int} {a : Nat} {e : Int} (hP : 2 ≤ P) (ha : a ≠ 0) (h : mgHi P q I a e < I) :
    a * 2 ^ (e - min e q).toNat ≤ uf (2 ^ (P - 1)) (mgHi P q I a e) * 2 ^ (q - min e q).toNat ∧ flo P I (rU P q a e true) = true ∧ uf (2 ^ (P - 1)) (mgHi P q I a e) = rU P q a e true := by
  have hf : flo P I (rU P q a e true) = true := by
    cases hf : flo P I (rU P q a e true)
    · unfold mgHi at h; rw [hf] at h; simp at h
    · rfl
  have e1 : uf (2 ^ (P - 1)) (mgHi P q I a e) = rU P q a e true := by
    unfold mgHi; rw [if_pos hf, flb_uf P I _ (by omega) hf]
  refine ⟨?_, hf, e1⟩
  rw [e1]
  by_cases hr : rr P q a e = 0
  · have hd := Nm.off_dn (P := P) (q := q) (a := a) (e := e)
    rw [hr, Nat.zero_mul, Nat.add_zero] at hd
    rw [rU_same hr, hd]; exact Nat.le_refl _
  · have hu := (Nm.off_up (P := P) (q := q) (a := a) (e := e) hr).1
    omega
/-- Where both are floats: how far each is away, in halves. -/
theorem both_off {P I : Nat} {q : Int} {a : Nat} {e : Int} (hP : 2 ≤ P) (ha : a ≠ 0) (h : mgHi P q I a e < I) (hr : rr P q a e ≠ 0) :
    uf (2 ^ (P - 1)) (mgLo P q I a e) * 2 ^ (q - min e q).toNat + rr P q a e * 2 ^ (e - min e q).toNat = a * 2 ^ (e - min e q).toNat ∧
    uf (2 ^ (P - 1)) (mgHi P q I a e) * 2 ^ (q - min e q).toNat = a * 2 ^ (e - min e q).toNat + (2 ^ (rn P q a e).toNat - rr P q a e) * 2 ^ (e - min e q).toNat ∧ rr P q a e < 2 ^ (rn P q a e).toNat := by
  obtain ⟨-, hf, e1⟩ := hi_off hP ha h
  have hf2 := flo_dn_of_up (by omega) ha hf
  have hu := Nm.off_up (P := P) (q := q) (a := a) (e := e) hr
  have e2 : uf (2 ^ (P - 1)) (mgLo P q I a e) = rU P q a e false := by
    unfold mgLo; rw [if_pos hf2, flb_uf P I _ (by omega) hf2]
  rw [e1, e2]
  exact ⟨Nm.off_dn, hu.1, hu.2⟩
/-- What the modes give. -/
theorem mg_lo {P I : Nat} {q m : Int} {ng : Bool} {a : Nat} {e : Int} (hu : ∀ od h, upB m od h ng = false) (ho : ovB m ng = true) (hI0 : 1 ≤ I) : mgB P q I m ng a e = (mgLo P q I a e : Nat) := by
  unfold mgB rdU mgLo
  rw [hu, ho]
  split <;> simp <;> omega
theorem mg_hi {P I : Nat} {q m : Int} {ng : Bool} {a : Nat} {e : Int} (hu : ∀ od h, upB m od h ng = true) (ho : ovB m ng = false) : mgB P q I m ng a e = (mgHi P q I a e : Nat) := by
  unfold mgB rdU mgHi
  rw [hu, ho]
  split <;> simp
/-- To the nearest one: away from 0 or towards it, as half says. -/
theorem mg_near {P I : Nat} {q m : Int} {ng : Bool} {a : Nat} {e : Int} (hP : 1 ≤ P) (ha : a ≠ 0) (ho : ovB m ng = false) (b : Bool) (hb : b = upB m (((rm P q a e : Nat) : Int) % 2 == 1) (rh P q a e) ng) :
    mgB P q I m ng a e = (if b then ((mgHi P q I a e : Nat) : Int) else if flo P I (rU P q a e false) then ((mgLo P q I a e : Nat) : Int) else ((mgHi P q I a e : Nat) : Int)) := by
  unfold mgB rdU
  rw [← hb, ho]
  cases b
  · simp only [Bool.false_eq_true, if_false]
    by_cases hf : flo P I (rU P q a e false) = true
    · rw [if_pos hf, if_pos hf]; unfold mgLo; rw [if_pos hf]
    · rw [if_neg hf, if_neg hf]
      have hu : ¬ flo P I (rU P q a e true) = true := fun h => hf (flo_dn_of_up hP ha h)
      unfold mgHi; rw [if_neg hu]
  · simp only [if_true]
    unfold mgHi
    by_cases hf : flo P I (rU P q a e true) = true
    · rw [if_pos hf, if_pos hf]
    · rw [if_neg hf, if_neg hf]; simp
theorem rdF_zero {P I : Nat} {q m : Int} {ng : Bool} {a : Nat} {e : Int} : (rdF P q I m ng a e == 0) = exB P q I a e := by
  unfold rdF exB
  by_cases hr : rr P q a e = 0
  · have : rdU P q m ng a e = rU P q a e false := by unfold rdU; rw [Nm.rU_ex hr, Nm.rU_ex hr]
    rw [this, decide_eq_true hr, Bool.true_and]
    by_cases hf : flo P I (rU P q a e false) = true
    · rw [if_pos hf, if_pos hr, hf]; rfl
    · rw [if_neg hf]; have : flo P I (rU P q a e false) = false := by simpa using hf
      rw [this]; rfl
  · rw [decide_eq_false hr, Bool.false_and]
    by_cases hf : flo P I (rdU P q m ng a e) = true
    · rw [if_pos hf, if_neg hr]; split <;> rfl
    · rw [if_neg hf]; rfl
/-- A float's units less z times 2 to the e, in 2 to the lower exponent. -/
def offD (fm x z e : Int) : Int := unI fm x * 2 ^ (unQ fm - min e (unQ fm)).toNat - z * 2 ^ (e - min e (unQ fm)).toNat
theorem sgn_inj {S : Int} {a b : Int} {g : Bool} : (sgn S a g == sgn S b g) = (a == b) := by
  unfold sgn; rw [Bool.eq_iff_iff]; simp only [beq_iff_eq]; split <;> omega
theorem pnat (n : Nat) : ((2 ^ n : Nat) : Int) = (2 : Int) ^ n := by simp
/-- The next float up of a neighbour. -/
theorem up_lo32 {v : Nat} (hv : v < 2139095040) : upF 32 (sgn 2147483648 (v : Int) false) = sgn 2147483648 ((v + 1 : Nat) : Int) false ∧ upF 32 (sgn 2147483648 ((v + 1 : Nat) : Int) true) = sgn 2147483648 (v : Int) true := by
  constructor
  · by_cases h : v = 0
    · subst h; decide +kernel
    · rw [up32 (by unfold sgn; simp) (by unfold sgn; simp; omega) (by unfold sgn; simp; omega)]
      unfold sgn; simp; omega
  · by_cases h : v + 1 = 2139095040
    · have : v = 2139095040 - 1 := by omega
      subst this; decide +kernel
    · have hb := sgn_abs32 (v := ((v + 1 : Nat) : Int)) (by omega) (by omega) true
      rw [up32 hb.1 hb.2.1 (by unfold sgn; simp; omega)]
      unfold sgn; simp; omega
/-- The two modes, below 0 and above. -/
theorem two_32 (z e : Int) (hO : RdO 32 0 (Nm.wn z) (Nm.wl z) e = true) (hz : z ≠ 0) :
    RdB 32 3 (Nm.wn z) (Nm.wl z) e = sgn 2147483648 ((if z < 0 then mgHi 24 (-149) 2139095040 z.natAbs e else mgLo 24 (-149) 2139095040 z.natAbs e : Nat) : Int) (Nm.wn z) ∧
    RdB 32 2 (Nm.wn z) (Nm.wl z) e = sgn 2147483648 ((if z < 0 then mgLo 24 (-149) 2139095040 z.natAbs e else mgHi 24 (-149) 2139095040 z.natAbs e : Nat) : Int) (Nm.wn z) ∧
    RdB 32 1 (Nm.wn z) (Nm.wl z) e = sgn 2147483648 ((mgLo 24 (-149) 2139095040 z.natAbs e : Nat) : Int) (Nm.wn z) ∧
    (∀ m, modeB m = true → (RdF 32 m (Nm.wn z) (Nm.wl z) e == 0) = exB 24 (-149) 2139095040 z.natAbs e) ∧
    (∀ m, m = 0 ∨ m = 4 ∨ m = 5 → RdB 32 m (Nm.wn z) (Nm.wl z) e = sgn 2147483648 (if upB m (((rm 24 (-149) z.natAbs e : Nat) : Int) % 2 == 1) (rh 24 (-149) z.natAbs e) (Nm.wn z) then ((mgHi 24 (-149) 2139095040 z.natAbs e : Nat) : Int) else if flo 24 2139095040 (rU 24 (-149) z.natAbs e false) then ((mgLo 24 (-149) 2139095040 z.natAbs e : Nat) : Int) else ((mgHi 24 (-149) 2139095040 z.natAbs e : Nat) : Int)) (Nm.wn z)) := by
  have hnz : ¬ (Nm.wl z).length = 0 := fun h => hz ((wl_zero' z).1 h)
  have hOm : ∀ m, modeB m = true → RdO 32 m (Nm.wn z) (Nm.wl z) e = true := fun m hm => by
    unfold RdO at hO ⊢; simp at hO ⊢; exact ⟨⟨⟨hO.1.1.1, hm⟩, hO.1.2⟩, hO.2⟩
  have ha : z.natAbs ≠ 0 := by omega
  have rd : ∀ m, modeB m = true → RdB 32 m (Nm.wn z) (Nm.wl z) e = sgn 2147483648 (mgB 24 (-149) 2139095040 m (Nm.wn z) z.natAbs e) (Nm.wn z) := fun m hm => by
    obtain ⟨b1, -⟩ := Rd_any32 m (Nm.wn z) (Nm.wl z) e (hOm m hm) hnz
    rw [b1, Nm.val_wl, Int.toNat_natCast, mgB_eq]
  refine ⟨?_, ?_, ?_, fun m hm => ?_, fun m hm => ?_⟩
  · rw [rd 3 (by decide)]
    by_cases h : z < 0
    · rw [if_pos h, mg_hi (fun od h' => by unfold upB Nm.wn; simp [h]) (by unfold ovB Nm.wn; simp [h])]
    · rw [if_neg h, mg_lo (fun od h' => by unfold upB Nm.wn; simp [h]) (by unfold ovB Nm.wn; simp [h]) (by decide)]
  · rw [rd 2 (by decide)]
    by_cases h : z < 0
    · rw [if_pos h, mg_lo (fun od h' => by unfold upB Nm.wn; simp [h]) (by unfold ovB Nm.wn; simp [h]) (by decide)]
    · rw [if_neg h, mg_hi (fun od h' => by unfold upB Nm.wn; simp [h]) (by unfold ovB Nm.wn; simp [h])]
  · rw [rd 1 (by decide), mg_lo (fun od h' => by unfold upB; simp) (by unfold ovB; simp) (by decide)]
  · obtain ⟨-, b2⟩ := Rd_any32 m (Nm.wn z) (Nm.wl z) e (hOm m hm) hnz
    rw [b2, Nm.val_wl, Int.toNat_natCast, rdF_zero]
  · have hm' : modeB m = true := by rcases hm with rfl | rfl | rfl <;> decide
    rw [rd m hm', mg_near (by decide) ha (by rcases hm with rfl | rfl | rfl <;> rfl) _ rfl]
/-- The units of a neighbour. -/
theorem un_mg32 (z : Int) {v : Nat} (hv : v < 2139095040) : unI 32 (sgn 2147483648 (v : Int) (Nm.wn z)) = (if z < 0 then -((uf 8388608 v : Nat) : Int) else (uf 8388608 v : Nat)) := by
  rw [(unSg32 hv (Nm.wn z)).2.2.2]
  unfold Nm.wn
  by_cases h : z < 0
  · rw [decide_eq_true h, if_pos h]; rfl
  · rw [decide_eq_false h, if_neg h]; rfl
theorem fin_mg32 {v : Nat} (hv : v ≤ 2139095040) (g : Bool) (hf : finB 32 (sgn 2147483648 (v : Int) g) = true) : v < 2139095040 := by
  have hb := sgn_abs32 (v := (v : Int)) (by omega) (by omega) g
  have := fin_lt32 hb.1 hb.2.1 hf
  unfold sgn at this
  split at this <;> omega
/-- .. and how far it is away. -/
theorem offD_mg32 (z e : Int) {v : Nat} (hv : v < 2139095040) : offD 32 (sgn 2147483648 (v : Int) (Nm.wn z)) z e = (if z < 0 then ((z.natAbs * 2 ^ (e - min e (-149)).toNat : Nat) : Int) - ((uf 8388608 v * 2 ^ ((-149) - min e (-149)).toNat : Nat) : Int) else ((uf 8388608 v * 2 ^ ((-149) - min e (-149)).toNat : Nat) : Int) - ((z.natAbs * 2 ^ (e - min e (-149)).toNat : Nat) : Int)) := by
  unfold offD
  rw [un_mg32 z hv]
  have hq : unQ 32 = (-149) := rfl
  rw [hq, Int.natCast_mul, Int.natCast_mul, pnat, pnat]
  by_cases h : z < 0
  · rw [if_pos h, if_pos h, show ((z.natAbs : Nat) : Int) = -z by omega, Int.neg_mul, Int.neg_mul]; omega
  · rw [if_neg h, if_neg h, show ((z.natAbs : Nat) : Int) = z by omega]
/-- FnBracket's numbers. -/
theorem brk32 (z e : Int) (hO : RdO 32 0 (Nm.wn z) (Nm.wl z) e = true) (d u f g : Int) (hd : d = RdB 32 3 (Nm.wn z) (Nm.wl z) e) (hu : u = RdB 32 2 (Nm.wn z) (Nm.wl z) e) (hf : f = RdF 32 3 (Nm.wn z) (Nm.wl z) e) (hg : g = RdF 32 2 (Nm.wn z) (Nm.wl z) e) :
    ((f == 0) = (g == 0)) ∧ ((f == 0) = (d == u)) ∧ (d = u ∨ upF 32 d = u) ∧ (finB 32 d = true → offD 32 d z e ≤ 0) ∧ (finB 32 u = true → 0 ≤ offD 32 u z e) := by
  by_cases hz : z = 0
  · have hl := (wl_zero' z).2 hz
    have r3 := Rd_zero (fm := 32) (mode := 3) (ng := Nm.wn z) (e := e) hl
    have r2 := Rd_zero (fm := 32) (mode := 2) (ng := Nm.wn z) (e := e) hl
    rw [r3.1] at hd
    rw [r2.1] at hu
    rw [r3.2] at hf
    rw [r2.2] at hg
    subst hd hu hf hg hz
    have h0 : unI 32 0 = 0 := by decide +kernel
    refine ⟨rfl, rfl, .inl rfl, fun _ => ?_, fun _ => ?_⟩ <;> unfold offD <;> rw [h0] <;> simp
  · obtain ⟨t3, t2, -, tf, -⟩ := two_32 z e hO hz
    have ha : z.natAbs ≠ 0 := by omega
    obtain ⟨l1, l2, l3⟩ := lohi (P := 24) (q := (-149)) (I := 2139095040) (a := z.natAbs) (e := e) (by decide) ha (by decide) (by decide)
    have lo := lo_off (P := 24) (q := (-149)) (I := 2139095040) (a := z.natAbs) (e := e) (by decide) ha (by decide) (by decide)
    have hi := fun h => (hi_off (P := 24) (q := (-149)) (I := 2139095040) (a := z.natAbs) (e := e) (by decide) ha h).1
    have hL : (2 : Nat) ^ (24 - 1) = 8388608 := by decide
    rw [hL] at lo hi
    rw [t3] at hd
    rw [t2] at hu
    have f3 := tf 3 (by decide)
    have f2 := tf 2 (by decide)
    rw [← hf] at f3
    rw [← hg] at f2
    rw [f3, f2]
    have olo := offD_mg32 z e l1
    have ohi := fun h => offD_mg32 z e (v := mgHi 24 (-149) 2139095040 z.natAbs e) h
    obtain ⟨A, hA⟩ : ∃ A, A = mgLo 24 (-149) 2139095040 z.natAbs e := ⟨_, rfl⟩
    obtain ⟨B, hB⟩ : ∃ A, A = mgHi 24 (-149) 2139095040 z.natAbs e := ⟨_, rfl⟩
    rw [← hA] at l1 l3 lo hd hu olo
    rw [← hB] at l2 l3 hi hd hu ohi
    refine ⟨rfl, ?_, ?_, ?_, ?_⟩
    · rw [hd, hu, sgn_inj]
      cases hx : exB 24 (-149) 2139095040 z.natAbs e <;> rw [hx] at l3 <;> simp at l3
      · rw [Bool.eq_iff_iff]; simp only [beq_iff_eq]; split <;> simp <;> omega
      · rw [l3]; simp
    · cases hx : exB 24 (-149) 2139095040 z.natAbs e <;> rw [hx] at l3 <;> simp at l3
      · right
        have h := up_lo32 (v := A) l1
        rw [hd, hu, l3]
        unfold Nm.wn
        by_cases hn : z < 0
        · rw [decide_eq_true hn, if_pos hn, if_pos hn]; exact h.2
        · rw [decide_eq_false hn, if_neg hn, if_neg hn]; exact h.1
      · left; rw [hd, hu, l3]; try (split <;> rfl)
    · intro hfd
      rw [hd] at hfd ⊢
      by_cases hn : z < 0
      · rw [if_pos hn] at hfd ⊢
        have hv := fin_mg32 l2 _ hfd
        rw [ohi hv, if_pos hn]
        have := hi hv
        omega
      · rw [if_neg hn] at hfd ⊢
        rw [olo, if_neg hn]
        omega
    · intro hfu
      rw [hu] at hfu ⊢
      by_cases hn : z < 0
      · rw [if_pos hn] at hfu ⊢
        rw [olo, if_pos hn]
        omega
      · rw [if_neg hn] at hfu ⊢
        have hv := fin_mg32 l2 _ hfu
        rw [ohi hv, if_neg hn]
        have := hi hv
        omega
/-- FnNearest's numbers. -/
theorem nst32 (z e m : Int) (hO : RdO 32 0 (Nm.wn z) (Nm.wl z) e = true) (hm : m = 0 ∨ m = 4 ∨ m = 5) (d u x : Int) (hd : d = RdB 32 3 (Nm.wn z) (Nm.wl z) e) (hu : u = RdB 32 2 (Nm.wn z) (Nm.wl z) e) (hx : x = RdB 32 m (Nm.wn z) (Nm.wl z) e) :
    (x = d ∨ x = u) ∧ ∀ y, y = (if x = d then u else d) → finB 32 x = true → finB 32 y = true → (offD 32 x z e).natAbs ≤ (offD 32 y z e).natAbs := by
  by_cases hz : z = 0
  · have hl := (wl_zero' z).2 hz
    rw [(Rd_zero (fm := 32) (mode := 3) (ng := Nm.wn z) (e := e) hl).1] at hd
    rw [(Rd_zero (fm := 32) (mode := 2) (ng := Nm.wn z) (e := e) hl).1] at hu
    rw [(Rd_zero (fm := 32) (mode := m) (ng := Nm.wn z) (e := e) hl).1] at hx
    subst hd hu hx
    refine ⟨.inl rfl, fun y hy _ _ => ?_⟩
    rw [if_pos rfl] at hy; subst hy; exact Nat.le_refl _
  · obtain ⟨t3, t2, -, -, tn⟩ := two_32 z e hO hz
    have ha : z.natAbs ≠ 0 := by omega
    obtain ⟨l1, l2, l3⟩ := lohi (P := 24) (q := (-149)) (I := 2139095040) (a := z.natAbs) (e := e) (by decide) ha (by decide) (by decide)
    have hL : (2 : Nat) ^ (24 - 1) = 8388608 := by decide
    have bo := fun h hr => both_off (P := 24) (q := (-149)) (I := 2139095040) (a := z.natAbs) (e := e) (by decide) ha h hr
    rw [hL] at bo
    have xn := tn m hm
    rw [← hx] at xn
    rw [t3] at hd
    rw [t2] at hu
    have olo := offD_mg32 z e l1
    have ohi := fun h => offD_mg32 z e (v := mgHi 24 (-149) 2139095040 z.natAbs e) h
    have hl2 : flo 24 2139095040 (rU 24 (-149) z.natAbs e false) = false → mgHi 24 (-149) 2139095040 z.natAbs e = 2139095040 := fun hf => by
      unfold mgHi
      rw [if_neg (fun h => by rw [flo_dn_of_up (by decide) ha h] at hf; exact absurd hf (by decide))]
    have hex : exB 24 (-149) 2139095040 z.natAbs e = true → rr 24 (-149) z.natAbs e = 0 := fun h => by unfold exB at h; simp at h; exact h.1
    have hex2 : exB 24 (-149) 2139095040 z.natAbs e = false → flo 24 2139095040 (rU 24 (-149) z.natAbs e false) = true → rr 24 (-149) z.natAbs e ≠ 0 := fun h h' h'' => by unfold exB at h; simp [h', h''] at h
    have hrc := Nm.rh_cases (P := 24) (q := (-149)) (a := z.natAbs) (e := e)
    obtain ⟨A, hA⟩ : ∃ A, A = mgLo 24 (-149) 2139095040 z.natAbs e := ⟨_, rfl⟩
    obtain ⟨B, hB⟩ : ∃ A, A = mgHi 24 (-149) 2139095040 z.natAbs e := ⟨_, rfl⟩
    rw [← hA] at l1 l3 hd hu olo bo xn
    rw [← hB] at l2 l3 hd hu ohi bo xn hl2
    obtain ⟨b, hb⟩ : ∃ b, b = upB m (((rm 24 (-149) z.natAbs e : Nat) : Int) % 2 == 1) (rh 24 (-149) z.natAbs e) (Nm.wn z) := ⟨_, rfl⟩
    rw [← hb] at xn
    -- what is rounded to is one of both
    have hor : (b = true ∧ x = sgn 2147483648 (B : Int) (Nm.wn z)) ∨ (b = false ∧ flo 24 2139095040 (rU 24 (-149) z.natAbs e false) = true ∧ x = sgn 2147483648 (A : Int) (Nm.wn z)) ∨ (b = false ∧ flo 24 2139095040 (rU 24 (-149) z.natAbs e false) = false ∧ x = sgn 2147483648 (B : Int) (Nm.wn z)) := by
      cases b
      · right
        cases hf : flo 24 2139095040 (rU 24 (-149) z.natAbs e false)
        · right; rw [hf] at xn; simpa using xn
        · left; rw [hf] at xn; simpa using xn
      · left; simpa using xn
    have hdu : (d = sgn 2147483648 (A : Int) (Nm.wn z) ∧ u = sgn 2147483648 (B : Int) (Nm.wn z)) ∨ (d = sgn 2147483648 (B : Int) (Nm.wn z) ∧ u = sgn 2147483648 (A : Int) (Nm.wn z)) := by
      by_cases hn : z < 0
      · rw [if_pos hn] at hd hu; exact .inr ⟨hd, hu⟩
      · rw [if_neg hn] at hd hu; exact .inl ⟨hd, hu⟩
    have hab : sgn 2147483648 (A : Int) (Nm.wn z) = sgn 2147483648 (B : Int) (Nm.wn z) → A = B := fun h => by
      have := sgn_inj (S := 2147483648) (a := (A : Int)) (b := (B : Int)) (g := Nm.wn z)
      rw [h] at this; simp at this; omega
    -- the other one
    have hoth : ∀ y, y = (if x = d then u else d) → (x = sgn 2147483648 (A : Int) (Nm.wn z) → y = sgn 2147483648 (B : Int) (Nm.wn z)) ∧ (x = sgn 2147483648 (B : Int) (Nm.wn z) → y = sgn 2147483648 (A : Int) (Nm.wn z)) := by
      intro y hy
      rcases hdu with ⟨h1, h2⟩ | ⟨h1, h2⟩
      · constructor
        · intro hxa; rw [if_pos (by rw [hxa, h1])] at hy; rw [hy, h2]
        · intro hxb
          by_cases hc : x = d
          · rw [if_pos hc] at hy; rw [hy, h2, ← hxb, hc, h1]
          · rw [if_neg hc] at hy; rw [hy, h1]
      · constructor
        · intro hxa
          by_cases hc : x = d
          · rw [if_pos hc] at hy; rw [hy, h2, ← hxa, hc, h1]
          · rw [if_neg hc] at hy; rw [hy, h1]
        · intro hxb; rw [if_pos (by rw [hxb, h1])] at hy; rw [hy, h2]
    refine ⟨?_, fun y hy fx fy => ?_⟩
    · rcases hdu with ⟨h1, h2⟩ | ⟨h1, h2⟩ <;> rcases hor with ⟨-, h3⟩ | ⟨-, -, h3⟩ | ⟨-, -, h3⟩ <;> rw [h1, h2, h3] <;> simp
    · have ho := hoth y hy
      have hup : ∀ h : Int, b = true → rh 24 (-149) z.natAbs e = h → 0 ≤ h := fun h hbt hh => by
        rw [hh] at hb
        rw [hbt] at hb
        rcases hm with rfl | rfl | rfl <;> unfold upB at hb <;> simp at hb <;> omega
      have hdn : ∀ h : Int, b = false → rh 24 (-149) z.natAbs e = h → h ≤ 0 := fun h hbt hh => by
        rw [hh] at hb
        rw [hbt] at hb
        rcases hm with rfl | rfl | rfl <;> unfold upB at hb <;> simp at hb <;> omega
      by_cases hr : rr 24 (-149) z.natAbs e = 0
      · -- exact: b says nothing, both are the same, or not both are finite
        by_cases hf : flo 24 2139095040 (rU 24 (-149) z.natAbs e false) = true
        · have hxx : exB 24 (-149) 2139095040 z.natAbs e = true := by unfold exB; rw [decide_eq_true hr, hf]; rfl
          rw [hxx] at l3; simp at l3
          rcases hor with ⟨-, h3⟩ | ⟨-, -, h3⟩ | ⟨-, -, h3⟩
          · rw [ho.2 h3, h3, l3]; exact Nat.le_refl _
          · rw [ho.1 h3, h3, l3]; exact Nat.le_refl _
          · rw [ho.2 h3, h3, l3]; exact Nat.le_refl _
        · have hf' : flo 24 2139095040 (rU 24 (-149) z.natAbs e false) = false := by simpa using hf
          have hBI := hl2 hf'
          exfalso
          rcases hor with ⟨-, h3⟩ | ⟨-, hf2, -⟩ | ⟨-, -, h3⟩
          · rw [h3] at fx; have := fin_mg32 l2 _ fx; omega
          · exact hf hf2
          · rw [h3] at fx; have := fin_mg32 l2 _ fx; omega
      · have hBf : finB 32 (sgn 2147483648 (B : Int) (Nm.wn z)) = true := by
          rcases hor with ⟨-, h3⟩ | ⟨-, -, h3⟩ | ⟨-, -, h3⟩
          · rw [← h3]; exact fx
          · rw [← ho.1 h3]; exact fy
          · rw [← h3]; exact fx
        have hBv := fin_mg32 l2 _ hBf
        obtain ⟨b1, b2, b3⟩ := bo hBv hr
        have o1 := olo
        have o2 := ohi hBv
        have hpw := Nat.two_pow_pos (e - min e (-149)).toNat
        obtain ⟨R, hR⟩ : ∃ R, R = rr 24 (-149) z.natAbs e * 2 ^ (e - min e (-149)).toNat := ⟨_, rfl⟩
        obtain ⟨T, hT⟩ : ∃ R, R = (2 ^ (rn 24 (-149) z.natAbs e).toNat - rr 24 (-149) z.natAbs e) * 2 ^ (e - min e (-149)).toNat := ⟨_, rfl⟩
        rw [← hR] at b1
        rw [← hT] at b2
        have hA2 : (offD 32 (sgn 2147483648 (A : Int) (Nm.wn z)) z e).natAbs = R := by rw [o1]; split <;> omega
        have hB2 : (offD 32 (sgn 2147483648 (B : Int) (Nm.wn z)) z e).natAbs = T := by rw [o2]; split <;> omega
        have hRT : 2 * rr 24 (-149) z.natAbs e ≤ 2 ^ (rn 24 (-149) z.natAbs e).toNat → R ≤ T := fun h => by rw [hR, hT]; exact Nat.mul_le_mul_right _ (by omega)
        have hTR : 2 ^ (rn 24 (-149) z.natAbs e).toNat ≤ 2 * rr 24 (-149) z.natAbs e → T ≤ R := fun h => by rw [hR, hT]; exact Nat.mul_le_mul_right _ (by omega)
        rcases hor with ⟨hbt, h3⟩ | ⟨hbt, -, h3⟩ | ⟨hbt, hf2, h3⟩
        · rw [ho.2 h3, h3, hA2, hB2]
          apply hTR
          have := hup _ hbt rfl
          rcases hrc with ⟨c, -⟩ | ⟨c, c2⟩ | ⟨c, c2⟩ <;> omega
        · rw [ho.1 h3, h3, hA2, hB2]
          apply hRT
          have := hdn _ hbt rfl
          rcases hrc with ⟨c, c2⟩ | ⟨c, c2⟩ | ⟨c, -⟩ <;> omega
        · have := hl2 hf2; omega
/-- FnModes' numbers. -/
theorem mds32 (z e : Int) (hO : RdO 32 0 (Nm.wn z) (Nm.wl z) e = true) (d u t n a s : Int) (hd : d = RdB 32 3 (Nm.wn z) (Nm.wl z) e) (hu : u = RdB 32 2 (Nm.wn z) (Nm.wl z) e) (ht : t = RdB 32 1 (Nm.wn z) (Nm.wl z) e) (hn : n = RdB 32 0 (Nm.wn z) (Nm.wl z) e) (ha : a = RdB 32 4 (Nm.wn z) (Nm.wl z) e) (hs : s = RdB 32 5 (Nm.wn z) (Nm.wl z) e) :
    t = (if z < 0 then u else d) ∧ (n = a ∨ n = s) ∧ (a ≠ s → s = t ∧ (finB 32 a = true → finB 32 s = true → (offD 32 a z e).natAbs = (offD 32 s z e).natAbs)) := by
  by_cases hz : z = 0
  · have hl := (wl_zero' z).2 hz
    have r := fun m => (Rd_zero (fm := 32) (mode := m) (ng := Nm.wn z) (e := e) hl).1
    rw [r] at hd hu ht hn ha hs
    subst hd hu ht hn ha hs
    exact ⟨by split <;> rfl, .inl rfl, fun h => absurd rfl h⟩
  · obtain ⟨t3, t2, t1, -, tn⟩ := two_32 z e hO hz
    have ha0 : z.natAbs ≠ 0 := by omega
    obtain ⟨l1, l2, l3⟩ := lohi (P := 24) (q := (-149)) (I := 2139095040) (a := z.natAbs) (e := e) (by decide) ha0 (by decide) (by decide)
    have hL : (2 : Nat) ^ (24 - 1) = 8388608 := by decide
    have bo := fun h hr => both_off (P := 24) (q := (-149)) (I := 2139095040) (a := z.natAbs) (e := e) (by decide) ha0 h hr
    rw [hL] at bo
    have n0 := tn 0 (.inl rfl)
    have n4 := tn 4 (.inr (.inl rfl))
    have n5 := tn 5 (.inr (.inr rfl))
    rw [← hn] at n0
    rw [← ha] at n4
    rw [← hs] at n5
    rw [t3] at hd
    rw [t2] at hu
    rw [t1] at ht
    have olo := offD_mg32 z e l1
    have ohi := fun h => offD_mg32 z e (v := mgHi 24 (-149) 2139095040 z.natAbs e) h
    have hrc := Nm.rh_cases (P := 24) (q := (-149)) (a := z.natAbs) (e := e)
    have hrz : rr 24 (-149) z.natAbs e = 0 → rh 24 (-149) z.natAbs e = -1 := fun h => by
      rcases hrc with ⟨c, -⟩ | ⟨c, c2⟩ | ⟨c, c2⟩
      · exact c
      · have := Nat.two_pow_pos (rn 24 (-149) z.natAbs e).toNat; rw [h] at c2; omega
      · rw [h, Nat.mul_zero] at c2; exact absurd c2 (Nat.not_lt_zero _)
    obtain ⟨A, hA⟩ : ∃ A, A = mgLo 24 (-149) 2139095040 z.natAbs e := ⟨_, rfl⟩
    obtain ⟨B, hB⟩ : ∃ A, A = mgHi 24 (-149) 2139095040 z.natAbs e := ⟨_, rfl⟩
    obtain ⟨od, hod⟩ : ∃ od, od = (((rm 24 (-149) z.natAbs e : Nat) : Int) % 2 == 1) := ⟨_, rfl⟩
    obtain ⟨h, hh⟩ : ∃ h, h = rh 24 (-149) z.natAbs e := ⟨_, rfl⟩
    obtain ⟨F, hF⟩ : ∃ h, h = flo 24 2139095040 (rU 24 (-149) z.natAbs e false) := ⟨_, rfl⟩
    rw [← hA] at l1 l3 hd hu ht olo bo n0 n4 n5
    rw [← hB] at l2 l3 hd hu ohi bo n0 n4 n5
    rw [← hod, ← hh, ← hF] at n0 n4 n5
    rw [← hh] at hrc hrz
    have u0 : upB 0 od h (Nm.wn z) = (decide (0 < h) || (decide (h = 0) && od)) := by unfold upB; simp
    have u4 : upB 4 od h (Nm.wn z) = decide (0 ≤ h) := by unfold upB; simp
    have u5 : upB 5 od h (Nm.wn z) = decide (0 < h) := by unfold upB; simp
    rw [u0] at n0
    rw [u4] at n4
    rw [u5] at n5
    refine ⟨?_, ?_, ?_⟩
    · rw [ht, hd, hu]
      by_cases hc : z < 0
      · rw [if_pos hc, if_pos hc]
      · rw [if_neg hc, if_neg hc]
    · by_cases h0 : h = 0
      · subst h0
        cases od
        · right; rw [n0, n5]; simp
        · left; rw [n0, n4]; simp
      · left; rw [n0, n4, decide_eq_false h0, Bool.false_and, Bool.or_false]
        have : decide (0 < h) = decide (0 ≤ h) := by rw [Bool.eq_iff_iff]; simp only [decide_eq_true_eq]; omega
        rw [this]
    · intro hne
      have h0 : h = 0 := by
        rcases Int.lt_trichotomy h 0 with hc | hc | hc
        · exfalso; apply hne; rw [n4, n5, decide_eq_false (by omega), decide_eq_false (by omega)]
        · exact hc
        · exfalso; apply hne; rw [n4, n5, decide_eq_true (by omega), decide_eq_true (by omega)]
      rw [h0] at n4 n5
      simp at n4 n5
      have hr : rr 24 (-149) z.natAbs e ≠ 0 := fun hc => by have := hrz hc; omega
      have hh2 : 2 * rr 24 (-149) z.natAbs e = 2 ^ (rn 24 (-149) z.natAbs e).toNat := by
        rcases hrc with ⟨c, -⟩ | ⟨c, c2⟩ | ⟨c, -⟩
        · omega
        · exact c2
        · omega
      have hFt : F = true := by
        cases F
        · exfalso; apply hne; rw [n4, n5]; simp
        · rfl
      rw [hFt] at n5
      simp at n5
      refine ⟨by rw [n5, ht], fun fa fs => ?_⟩
      rw [n4] at fa ⊢
      rw [n5] at fs ⊢
      have hBv := fin_mg32 l2 _ fa
      obtain ⟨b1, b2, b3⟩ := bo hBv hr
      have o2 := ohi hBv
      have e1 : 2 ^ (rn 24 (-149) z.natAbs e).toNat - rr 24 (-149) z.natAbs e = rr 24 (-149) z.natAbs e := by omega
      rw [e1] at b2
      rw [olo, o2]
      split <;> omega
/-- The next float up of a neighbour. -/
theorem up_lo64 {v : Nat} (hv : v < 9218868437227405312) : upF 64 (sgn 9223372036854775808 (v : Int) false) = sgn 9223372036854775808 ((v + 1 : Nat) : Int) false ∧ upF 64 (sgn 9223372036854775808 ((v + 1 : Nat) : Int) true) = sgn 9223372036854775808 (v : Int) true := by
  constructor
  · by_cases h : v = 0
    · subst h; decide +kernel
    · rw [up64 (by unfold sgn; simp) (by unfold sgn; simp; omega) (by unfold sgn; simp; omega)]
      unfold sgn; simp; omega
  · by_cases h : v + 1 = 9218868437227405312
    · have : v = 9218868437227405312 - 1 := by omega
      subst this; decide +kernel
    · have hb := sgn_abs64 (v := ((v + 1 : Nat) : Int)) (by omega) (by omega) true
      rw [up64 hb.1 hb.2.1 (by unfold sgn; simp; omega)]
      unfold sgn; simp; omega
/-- The two modes, below 0 and above. -/
theorem two_64 (z e : Int) (hO : RdO 64 0 (Nm.wn z) (Nm.wl z) e = true) (hz : z ≠ 0) :
    RdB 64 3 (Nm.wn z) (Nm.wl z) e = sgn 9223372036854775808 ((if z < 0 then mgHi 53 (-1074) 9218868437227405312 z.natAbs e else mgLo 53 (-1074) 9218868437227405312 z.natAbs e : Nat) : Int) (Nm.wn z) ∧
    RdB 64 2 (Nm.wn z) (Nm.wl z) e = sgn 9223372036854775808 ((if z < 0 then mgLo 53 (-1074) 9218868437227405312 z.natAbs e else mgHi 53 (-1074) 9218868437227405312 z.natAbs e : Nat) : Int) (Nm.wn z) ∧
    RdB 64 1 (Nm.wn z) (Nm.wl z) e = sgn 9223372036854775808 ((mgLo 53 (-1074) 9218868437227405312 z.natAbs e : Nat) : Int) (Nm.wn z) ∧
    (∀ m, modeB m = true → (RdF 64 m (Nm.wn z) (Nm.wl z) e == 0) = exB 53 (-1074) 9218868437227405312 z.natAbs e) ∧
    (∀ m, m = 0 ∨ m = 4 ∨ m = 5 → RdB 64 m (Nm.wn z) (Nm.wl z) e = sgn 9223372036854775808 (if upB m (((rm 53 (-1074) z.natAbs e : Nat) : Int) % 2 == 1) (rh 53 (-1074) z.natAbs e) (Nm.wn z) then ((mgHi 53 (-1074) 9218868437227405312 z.natAbs e : Nat) : Int) else if flo 53 9218868437227405312 (rU 53 (-1074) z.natAbs e false) then ((mgLo 53 (-1074) 9218868437227405312 z.natAbs e : Nat) : Int) else ((mgHi 53 (-1074) 9218868437227405312 z.natAbs e : Nat) : Int)) (Nm.wn z)) := by
  have hnz : ¬ (Nm.wl z).length = 0 := fun h => hz ((wl_zero' z).1 h)
  have hOm : ∀ m, modeB m = true → RdO 64 m (Nm.wn z) (Nm.wl z) e = true := fun m hm => by
    unfold RdO at hO ⊢; simp at hO ⊢; exact ⟨⟨⟨hO.1.1.1, hm⟩, hO.1.2⟩, hO.2⟩
  have ha : z.natAbs ≠ 0 := by omega
  have rd : ∀ m, modeB m = true → RdB 64 m (Nm.wn z) (Nm.wl z) e = sgn 9223372036854775808 (mgB 53 (-1074) 9218868437227405312 m (Nm.wn z) z.natAbs e) (Nm.wn z) := fun m hm => by
    obtain ⟨b1, -⟩ := Rd_any64 m (Nm.wn z) (Nm.wl z) e (hOm m hm) hnz
    rw [b1, Nm.val_wl, Int.toNat_natCast, mgB_eq]
  refine ⟨?_, ?_, ?_, fun m hm => ?_, fun m hm => ?_⟩
  · rw [rd 3 (by decide)]
    by_cases h : z < 0
    · rw [if_pos h, mg_hi (fun od h' => by unfold upB Nm.wn; simp [h]) (by unfold ovB Nm.wn; simp [h])]
    · rw [if_neg h, mg_lo (fun od h' => by unfold upB Nm.wn; simp [h]) (by unfold ovB Nm.wn; simp [h]) (by decide)]
  · rw [rd 2 (by decide)]
    by_cases h : z < 0
    · rw [if_pos h, mg_lo (fun od h' => by unfold upB Nm.wn; simp [h]) (by unfold ovB Nm.wn; simp [h]) (by decide)]
    · rw [if_neg h, mg_hi (fun od h' => by unfold upB Nm.wn; simp [h]) (by unfold ovB Nm.wn; simp [h])]
  · rw [rd 1 (by decide), mg_lo (fun od h' => by unfold upB; simp) (by unfold ovB; simp) (by decide)]
  · obtain ⟨-, b2⟩ := Rd_any64 m (Nm.wn z) (Nm.wl z) e (hOm m hm) hnz
    rw [b2, Nm.val_wl, Int.toNat_natCast, rdF_zero]
  · have hm' : modeB m = true := by rcases hm with rfl | rfl | rfl <;> decide
    rw [rd m hm', mg_near (by decide) ha (by rcases hm with rfl | rfl | rfl <;> rfl) _ rfl]
/-- The units of a neighbour. -/
theorem un_mg64 (z : Int) {v : Nat} (hv : v < 9218868437227405312) : unI 64 (sgn 9223372036854775808 (v : Int) (Nm.wn z)) = (if z < 0 then -((uf 4503599627370496 v : Nat) : Int) else (uf 4503599627370496 v : Nat)) := by
  rw [(unSg64 hv (Nm.wn z)).2.2.2]
  unfold Nm.wn
  by_cases h : z < 0
  · rw [decide_eq_true h, if_pos h]; rfl
  · rw [decide_eq_false h, if_neg h]; rfl
theorem fin_mg64 {v : Nat} (hv : v ≤ 9218868437227405312) (g : Bool) (hf : finB 64 (sgn 9223372036854775808 (v : Int) g) = true) : v < 9218868437227405312 := by
  have hb := sgn_abs64 (v := (v : Int)) (by omega) (by omega) g
  have := fin_lt64 hb.1 hb.2.1 hf
  unfold sgn at this
  split at this <;> omega
/-- .. and how far it is away. -/
theorem offD_mg64 (z e : Int) {v : Nat} (hv : v < 9218868437227405312) : offD 64 (sgn 9223372036854775808 (v : Int) (Nm.wn z)) z e = (if z < 0 then ((z.natAbs * 2 ^ (e - min e (-1074)).toNat : Nat) : Int) - ((uf 4503599627370496 v * 2 ^ ((-1074) - min e (-1074)).toNat : Nat) : Int) else ((uf 4503599627370496 v * 2 ^ ((-1074) - min e (-1074)).toNat : Nat) : Int) - ((z.natAbs * 2 ^ (e - min e (-1074)).toNat : Nat) : Int)) := by
  unfold offD
  rw [un_mg64 z hv]
  have hq : unQ 64 = (-1074) := rfl
  rw [hq, Int.natCast_mul, Int.natCast_mul, pnat, pnat]
  by_cases h : z < 0
  · rw [if_pos h, if_pos h, show ((z.natAbs : Nat) : Int) = -z by omega, Int.neg_mul, Int.neg_mul]; omega
  · rw [if_neg h, if_neg h, show ((z.natAbs : Nat) : Int) = z by omega]
/-- FnBracket's numbers. -/
theorem brk64 (z e : Int) (hO : RdO 64 0 (Nm.wn z) (Nm.wl z) e = true) (d u f g : Int) (hd : d = RdB 64 3 (Nm.wn z) (Nm.wl z) e) (hu : u = RdB 64 2 (Nm.wn z) (Nm.wl z) e) (hf : f = RdF 64 3 (Nm.wn z) (Nm.wl z) e) (hg : g = RdF 64 2 (Nm.wn z) (Nm.wl z) e) :
    ((f == 0) = (g == 0)) ∧ ((f == 0) = (d == u)) ∧ (d = u ∨ upF 64 d = u) ∧ (finB 64 d = true → offD 64 d z e ≤ 0) ∧ (finB 64 u = true → 0 ≤ offD 64 u z e) := by
  by_cases hz : z = 0
  · have hl := (wl_zero' z).2 hz
    have r3 := Rd_zero (fm := 64) (mode := 3) (ng := Nm.wn z) (e := e) hl
    have r2 := Rd_zero (fm := 64) (mode := 2) (ng := Nm.wn z) (e := e) hl
    rw [r3.1] at hd
    rw [r2.1] at hu
    rw [r3.2] at hf
    rw [r2.2] at hg
    subst hd hu hf hg hz
    have h0 : unI 64 0 = 0 := by decide +kernel
    refine ⟨rfl, rfl, .inl rfl, fun _ => ?_, fun _ => ?_⟩ <;> unfold offD <;> rw [h0] <;> simp
  · obtain ⟨t3, t2, -, tf, -⟩ := two_64 z e hO hz
    have ha : z.natAbs ≠ 0 := by omega
    obtain ⟨l1, l2, l3⟩ := lohi (P := 53) (q := (-1074)) (I := 9218868437227405312) (a := z.natAbs) (e := e) (by decide) ha (by decide) (by decide)
    have lo := lo_off (P := 53) (q := (-1074)) (I := 9218868437227405312) (a := z.natAbs) (e := e) (by decide) ha (by decide) (by decide)
    have hi := fun h => (hi_off (P := 53) (q := (-1074)) (I := 9218868437227405312) (a := z.natAbs) (e := e) (by decide) ha h).1
    have hL : (2 : Nat) ^ (53 - 1) = 4503599627370496 := by decide
    rw [hL] at lo hi
    rw [t3] at hd
    rw [t2] at hu
    have f3 := tf 3 (by decide)
    have f2 := tf 2 (by decide)
    rw [← hf] at f3
    rw [← hg] at f2
    rw [f3, f2]
    have olo := offD_mg64 z e l1
    have ohi := fun h => offD_mg64 z e (v := mgHi 53 (-1074) 9218868437227405312 z.natAbs e) h
    obtain ⟨A, hA⟩ : ∃ A, A = mgLo 53 (-1074) 9218868437227405312 z.natAbs e := ⟨_, rfl⟩
    obtain ⟨B, hB⟩ : ∃ A, A = mgHi 53 (-1074) 9218868437227405312 z.natAbs e := ⟨_, rfl⟩
    rw [← hA] at l1 l3 lo hd hu olo
    rw [← hB] at l2 l3 hi hd hu ohi
    refine ⟨rfl, ?_, ?_, ?_, ?_⟩
    · rw [hd, hu, sgn_inj]
      cases hx : exB 53 (-1074) 9218868437227405312 z.natAbs e <;> rw [hx] at l3 <;> simp at l3
      · rw [Bool.eq_iff_iff]; simp only [beq_iff_eq]; split <;> simp <;> omega
      · rw [l3]; simp
    · cases hx : exB 53 (-1074) 9218868437227405312 z.natAbs e <;> rw [hx] at l3 <;> simp at l3
      · right
        have h := up_lo64 (v := A) l1
        rw [hd, hu, l3]
        unfold Nm.wn
        by_cases hn : z < 0
        · rw [decide_eq_true hn, if_pos hn, if_pos hn]; exact h.2
        · rw [decide_eq_false hn, if_neg hn, if_neg hn]; exact h.1
      · left; rw [hd, hu, l3]; try (split <;> rfl)
    · intro hfd
      rw [hd] at hfd ⊢
      by_cases hn : z < 0
      · rw [if_pos hn] at hfd ⊢
        have hv := fin_mg64 l2 _ hfd
        rw [ohi hv, if_pos hn]
        have := hi hv
        omega
      · rw [if_neg hn] at hfd ⊢
        rw [olo, if_neg hn]
        omega
    · intro hfu
      rw [hu] at hfu ⊢
      by_cases hn : z < 0
      · rw [if_pos hn] at hfu ⊢
        rw [olo, if_pos hn]
        omega
      · rw [if_neg hn] at hfu ⊢
        have hv := fin_mg64 l2 _ hfu
        rw [ohi hv, if_neg hn]
        have := hi hv
        omega
/-- FnNearest's numbers. -/
theorem nst64 (z e m : Int) (hO : RdO 64 0 (Nm.wn z) (Nm.wl z) e = true) (hm : m = 0 ∨ m = 4 ∨ m = 5) (d u x : Int) (hd : d = RdB 64 3 (Nm.wn z) (Nm.wl z) e) (hu : u = RdB 64 2 (Nm.wn z) (Nm.wl z) e) (hx : x = RdB 64 m (Nm.wn z) (Nm.wl z) e) :
    (x = d ∨ x = u) ∧ ∀ y, y = (if x = d then u else d) → finB 64 x = true → finB 64 y = true → (offD 64 x z e).natAbs ≤ (offD 64 y z e).natAbs := by
  by_cases hz : z = 0
  · have hl := (wl_zero' z).2 hz
    rw [(Rd_zero (fm := 64) (mode := 3) (ng := Nm.wn z) (e := e) hl).1] at hd
    rw [(Rd_zero (fm := 64) (mode := 2) (ng := Nm.wn z) (e := e) hl).1] at hu
    rw [(Rd_zero (fm := 64) (mode := m) (ng := Nm.wn z) (e := e) hl).1] at hx
    subst hd hu hx
    refine ⟨.inl rfl, fun y hy _ _ => ?_⟩
    rw [if_pos rfl] at hy; subst hy; exact Nat.le_refl _
  · obtain ⟨t3, t2, -, -, tn⟩ := two_64 z e hO hz
    have ha : z.natAbs ≠ 0 := by omega
    obtain ⟨l1, l2, l3⟩ := lohi (P := 53) (q := (-1074)) (I := 9218868437227405312) (a := z.natAbs) (e := e) (by decide) ha (by decide) (by decide)
    have hL : (2 : Nat) ^ (53 - 1) = 4503599627370496 := by decide
    have bo := fun h hr => both_off (P := 53) (q := (-1074)) (I := 9218868437227405312) (a := z.natAbs) (e := e) (by decide) ha h hr
    rw [hL] at bo
    have xn := tn m hm
    rw [← hx] at xn
    rw [t3] at hd
    rw [t2] at hu
    have olo := offD_mg64 z e l1
    have ohi := fun h => offD_mg64 z e (v := mgHi 53 (-1074) 9218868437227405312 z.natAbs e) h
    have hl2 : flo 53 9218868437227405312 (rU 53 (-1074) z.natAbs e false) = false → mgHi 53 (-1074) 9218868437227405312 z.natAbs e = 9218868437227405312 := fun hf => by
      unfold mgHi
      rw [if_neg (fun h => by rw [flo_dn_of_up (by decide) ha h] at hf; exact absurd hf (by decide))]
    have hex : exB 53 (-1074) 9218868437227405312 z.natAbs e = true → rr 53 (-1074) z.natAbs e = 0 := fun h => by unfold exB at h; simp at h; exact h.1
    have hex2 : exB 53 (-1074) 9218868437227405312 z.natAbs e = false → flo 53 9218868437227405312 (rU 53 (-1074) z.natAbs e false) = true → rr 53 (-1074) z.natAbs e ≠ 0 := fun h h' h'' => by unfold exB at h; simp [h', h''] at h
    have hrc := Nm.rh_cases (P := 53) (q := (-1074)) (a := z.natAbs) (e := e)
    obtain ⟨A, hA⟩ : ∃ A, A = mgLo 53 (-1074) 9218868437227405312 z.natAbs e := ⟨_, rfl⟩
    obtain ⟨B, hB⟩ : ∃ A, A = mgHi 53 (-1074) 9218868437227405312 z.natAbs e := ⟨_, rfl⟩
    rw [← hA] at l1 l3 hd hu olo bo xn
    rw [← hB] at l2 l3 hd hu ohi bo xn hl2
    obtain ⟨b, hb⟩ : ∃ b, b = upB m (((rm 53 (-1074) z.natAbs e : Nat) : Int) % 2 == 1) (rh 53 (-1074) z.natAbs e) (Nm.wn z) := ⟨_, rfl⟩
    rw [← hb] at xn
    -- what is rounded to is one of both
    have hor : (b = true ∧ x = sgn 9223372036854775808 (B : Int) (Nm.wn z)) ∨ (b = false ∧ flo 53 9218868437227405312 (rU 53 (-1074) z.natAbs e false) = true ∧ x = sgn 9223372036854775808 (A : Int) (Nm.wn z)) ∨ (b = false ∧ flo 53 9218868437227405312 (rU 53 (-1074) z.natAbs e false) = false ∧ x = sgn 9223372036854775808 (B : Int) (Nm.wn z)) := by
      cases b
      · right
        cases hf : flo 53 9218868437227405312 (rU 53 (-1074) z.natAbs e false)
        · right; rw [hf] at xn; simpa using xn
        · left; rw [hf] at xn; simpa using xn
      · left; simpa using xn
    have hdu : (d = sgn 9223372036854775808 (A : Int) (Nm.wn z) ∧ u = sgn 9223372036854775808 (B : Int) (Nm.wn z)) ∨ (d = sgn 9223372036854775808 (B : Int) (Nm.wn z) ∧ u = sgn 9223372036854775808 (A : Int) (Nm.wn z)) := by
      by_cases hn : z < 0
      · rw [if_pos hn] at hd hu; exact .inr ⟨hd, hu⟩
      · rw [if_neg hn] at hd hu; exact .inl ⟨hd, hu⟩
    have hab : sgn 9223372036854775808 (A : Int) (Nm.wn z) = sgn 9223372036854775808 (B : Int) (Nm.wn z) → A = B := fun h => by
      have := sgn_inj (S := 9223372036854775808) (a := (A : Int)) (b := (B : Int)) (g := Nm.wn z)
      rw [h] at this; simp at this; omega
    -- the other one
    have hoth : ∀ y, y = (if x = d then u else d) → (x = sgn 9223372036854775808 (A : Int) (Nm.wn z) → y = sgn 9223372036854775808 (B : Int) (Nm.wn z)) ∧ (x = sgn 9223372036854775808 (B : Int) (Nm.wn z) → y = sgn 9223372036854775808 (A : Int) (Nm.wn z)) := by
      intro y hy
      rcases hdu with ⟨h1, h2⟩ | ⟨h1, h2⟩
      · constructor
        · intro hxa; rw [if_pos (by rw [hxa, h1])] at hy; rw [hy, h2]
        · intro hxb
          by_cases hc : x = d
          · rw [if_pos hc] at hy; rw [hy, h2, ← hxb, hc, h1]
          · rw [if_neg hc] at hy; rw [hy, h1]
      · constructor
        · intro hxa
          by_cases hc : x = d
          · rw [if_pos hc] at hy; rw [hy, h2, ← hxa, hc, h1]
          · rw [if_neg hc] at hy; rw [hy, h1]
        · intro hxb; rw [if_pos (by rw [hxb, h1])] at hy; rw [hy, h2]
    refine ⟨?_, fun y hy fx fy => ?_⟩
    · rcases hdu with ⟨h1, h2⟩ | ⟨h1, h2⟩ <;> rcases hor with ⟨-, h3⟩ | ⟨-, -, h3⟩ | ⟨-, -, h3⟩ <;> rw [h1, h2, h3] <;> simp
    · have ho := hoth y hy
      have hup : ∀ h : Int, b = true → rh 53 (-1074) z.natAbs e = h → 0 ≤ h := fun h hbt hh => by
        rw [hh] at hb
        rw [hbt] at hb
        rcases hm with rfl | rfl | rfl <;> unfold upB at hb <;> simp at hb <;> omega
      have hdn : ∀ h : Int, b = false → rh 53 (-1074) z.natAbs e = h → h ≤ 0 := fun h hbt hh => by
        rw [hh] at hb
        rw [hbt] at hb
        rcases hm with rfl | rfl | rfl <;> unfold upB at hb <;> simp at hb <;> omega
      by_cases hr : rr 53 (-1074) z.natAbs e = 0
      · -- exact: b says nothing, both are the same, or not both are finite
        by_cases hf : flo 53 9218868437227405312 (rU 53 (-1074) z.natAbs e false) = true
        · have hxx : exB 53 (-1074) 9218868437227405312 z.natAbs e = true := by unfold exB; rw [decide_eq_true hr, hf]; rfl
          rw [hxx] at l3; simp at l3
          rcases hor with ⟨-, h3⟩ | ⟨-, -, h3⟩ | ⟨-, -, h3⟩
          · rw [ho.2 h3, h3, l3]; exact Nat.le_refl _
          · rw [ho.1 h3, h3, l3]; exact Nat.le_refl _
          · rw [ho.2 h3, h3, l3]; exact Nat.le_refl _
        · have hf' : flo 53 9218868437227405312 (rU 53 (-1074) z.natAbs e false) = false := by simpa using hf
          have hBI := hl2 hf'
          exfalso
          rcases hor with ⟨-, h3⟩ | ⟨-, hf2, -⟩ | ⟨-, -, h3⟩
          · rw [h3] at fx; have := fin_mg64 l2 _ fx; omega
          · exact hf hf2
          · rw [h3] at fx; have := fin_mg64 l2 _ fx; omega
      · have hBf : finB 64 (sgn 9223372036854775808 (B : Int) (Nm.wn z)) = true := by
          rcases hor with ⟨-, h3⟩ | ⟨-, -, h3⟩ | ⟨-, -, h3⟩
          · rw [← h3]; exact fx
          · rw [← ho.1 h3]; exact fy
          · rw [← h3]; exact fx
        have hBv := fin_mg64 l2 _ hBf
        obtain ⟨b1, b2, b3⟩ := bo hBv hr
        have o1 := olo
        have o2 := ohi hBv
        have hpw := Nat.two_pow_pos (e - min e (-1074)).toNat
        obtain ⟨R, hR⟩ : ∃ R, R = rr 53 (-1074) z.natAbs e * 2 ^ (e - min e (-1074)).toNat := ⟨_, rfl⟩
        obtain ⟨T, hT⟩ : ∃ R, R = (2 ^ (rn 53 (-1074) z.natAbs e).toNat - rr 53 (-1074) z.natAbs e) * 2 ^ (e - min e (-1074)).toNat := ⟨_, rfl⟩
        rw [← hR] at b1
        rw [← hT] at b2
        have hA2 : (offD 64 (sgn 9223372036854775808 (A : Int) (Nm.wn z)) z e).natAbs = R := by rw [o1]; split <;> omega
        have hB2 : (offD 64 (sgn 9223372036854775808 (B : Int) (Nm.wn z)) z e).natAbs = T := by rw [o2]; split <;> omega
        have hRT : 2 * rr 53 (-1074) z.natAbs e ≤ 2 ^ (rn 53 (-1074) z.natAbs e).toNat → R ≤ T := fun h => by rw [hR, hT]; exact Nat.mul_le_mul_right _ (by omega)
        have hTR : 2 ^ (rn 53 (-1074) z.natAbs e).toNat ≤ 2 * rr 53 (-1074) z.natAbs e → T ≤ R := fun h => by rw [hR, hT]; exact Nat.mul_le_mul_right _ (by omega)
        rcases hor with ⟨hbt, h3⟩ | ⟨hbt, -, h3⟩ | ⟨hbt, hf2, h3⟩
        · rw [ho.2 h3, h3, hA2, hB2]
          apply hTR
          have := hup _ hbt rfl
          rcases hrc with ⟨c, -⟩ | ⟨c, c2⟩ | ⟨c, c2⟩ <;> omega
        · rw [ho.1 h3, h3, hA2, hB2]
          apply hRT
          have := hdn _ hbt rfl
          rcases hrc with ⟨c, c2⟩ | ⟨c, c2⟩ | ⟨c, -⟩ <;> omega
        · have := hl2 hf2; omega
/-- FnModes' numbers. -/
theorem mds64 (z e : Int) (hO : RdO 64 0 (Nm.wn z) (Nm.wl z) e = true) (d u t n a s : Int) (hd : d = RdB 64 3 (Nm.wn z) (Nm.wl z) e) (hu : u = RdB 64 2 (Nm.wn z) (Nm.wl z) e) (ht : t = RdB 64 1 (Nm.wn z) (Nm.wl z) e) (hn : n = RdB 64 0 (Nm.wn z) (Nm.wl z) e) (ha : a = RdB 64 4 (Nm.wn z) (Nm.wl z) e) (hs : s = RdB 64 5 (Nm.wn z) (Nm.wl z) e) :
    t = (if z < 0 then u else d) ∧ (n = a ∨ n = s) ∧ (a ≠ s → s = t ∧ (finB 64 a = true → finB 64 s = true → (offD 64 a z e).natAbs = (offD 64 s z e).natAbs)) := by
  by_cases hz : z = 0
  · have hl := (wl_zero' z).2 hz
    have r := fun m => (Rd_zero (fm := 64) (mode := m) (ng := Nm.wn z) (e := e) hl).1
    rw [r] at hd hu ht hn ha hs
    subst hd hu ht hn ha hs
    exact ⟨by split <;> rfl, .inl rfl, fun h => absurd rfl h⟩
  · obtain ⟨t3, t2, t1, -, tn⟩ := two_64 z e hO hz
    have ha0 : z.natAbs ≠ 0 := by omega
    obtain ⟨l1, l2, l3⟩ := lohi (P := 53) (q := (-1074)) (I := 9218868437227405312) (a := z.natAbs) (e := e) (by decide) ha0 (by decide) (by decide)
    have hL : (2 : Nat) ^ (53 - 1) = 4503599627370496 := by decide
    have bo := fun h hr => both_off (P := 53) (q := (-1074)) (I := 9218868437227405312) (a := z.natAbs) (e := e) (by decide) ha0 h hr
    rw [hL] at bo
    have n0 := tn 0 (.inl rfl)
    have n4 := tn 4 (.inr (.inl rfl))
    have n5 := tn 5 (.inr (.inr rfl))
    rw [← hn] at n0
    rw [← ha] at n4
    rw [← hs] at n5
    rw [t3] at hd
    rw [t2] at hu
    rw [t1] at ht
    have olo := offD_mg64 z e l1
    have ohi := fun h => offD_mg64 z e (v := mgHi 53 (-1074) 9218868437227405312 z.natAbs e) h
    have hrc := Nm.rh_cases (P := 53) (q := (-1074)) (a := z.natAbs) (e := e)
    have hrz : rr 53 (-1074) z.natAbs e = 0 → rh 53 (-1074) z.natAbs e = -1 := fun h => by
      rcases hrc with ⟨c, -⟩ | ⟨c, c2⟩ | ⟨c, c2⟩
      · exact c
      · have := Nat.two_pow_pos (rn 53 (-1074) z.natAbs e).toNat; rw [h] at c2; omega
      · rw [h, Nat.mul_zero] at c2; exact absurd c2 (Nat.not_lt_zero _)
    obtain ⟨A, hA⟩ : ∃ A, A = mgLo 53 (-1074) 9218868437227405312 z.natAbs e := ⟨_, rfl⟩
    obtain ⟨B, hB⟩ : ∃ A, A = mgHi 53 (-1074) 9218868437227405312 z.natAbs e := ⟨_, rfl⟩
    obtain ⟨od, hod⟩ : ∃ od, od = (((rm 53 (-1074) z.natAbs e : Nat) : Int) % 2 == 1) := ⟨_, rfl⟩
    obtain ⟨h, hh⟩ : ∃ h, h = rh 53 (-1074) z.natAbs e := ⟨_, rfl⟩
    obtain ⟨F, hF⟩ : ∃ h, h = flo 53 9218868437227405312 (rU 53 (-1074) z.natAbs e false) := ⟨_, rfl⟩
    rw [← hA] at l1 l3 hd hu ht olo bo n0 n4 n5
    rw [← hB] at l2 l3 hd hu ohi bo n0 n4 n5
    rw [← hod, ← hh, ← hF] at n0 n4 n5
    rw [← hh] at hrc hrz
    have u0 : upB 0 od h (Nm.wn z) = (decide (0 < h) || (decide (h = 0) && od)) := by unfold upB; simp
    have u4 : upB 4 od h (Nm.wn z) = decide (0 ≤ h) := by unfold upB; simp
    have u5 : upB 5 od h (Nm.wn z) = decide (0 < h) := by unfold upB; simp
    rw [u0] at n0
    rw [u4] at n4
    rw [u5] at n5
    refine ⟨?_, ?_, ?_⟩
    · rw [ht, hd, hu]
      by_cases hc : z < 0
      · rw [if_pos hc, if_pos hc]
      · rw [if_neg hc, if_neg hc]
    · by_cases h0 : h = 0
      · subst h0
        cases od
        · right; rw [n0, n5]; simp
        · left; rw [n0, n4]; simp
      · left; rw [n0, n4, decide_eq_false h0, Bool.false_and, Bool.or_false]
        have : decide (0 < h) = decide (0 ≤ h) := by rw [Bool.eq_iff_iff]; simp only [decide_eq_true_eq]; omega
        rw [this]
    · intro hne
      have h0 : h = 0 := by
        rcases Int.lt_trichotomy h 0 with hc | hc | hc
        · exfalso; apply hne; rw [n4, n5, decide_eq_false (by omega), decide_eq_false (by omega)]
        · exact hc
        · exfalso; apply hne; rw [n4, n5, decide_eq_true (by omega), decide_eq_true (by omega)]
      rw [h0] at n4 n5
      simp at n4 n5
      have hr : rr 53 (-1074) z.natAbs e ≠ 0 := fun hc => by have := hrz hc; omega
      have hh2 : 2 * rr 53 (-1074) z.natAbs e = 2 ^ (rn 53 (-1074) z.natAbs e).toNat := by
        rcases hrc with ⟨c, -⟩ | ⟨c, c2⟩ | ⟨c, -⟩
        · omega
        · exact c2
        · omega
      have hFt : F = true := by
        cases F
        · exfalso; apply hne; rw [n4, n5]; simp
        · rfl
      rw [hFt] at n5
      simp at n5
      refine ⟨by rw [n5, ht], fun fa fs => ?_⟩
      rw [n4] at fa ⊢
      rw [n5] at fs ⊢
      have hBv := fin_mg64 l2 _ fa
      obtain ⟨b1, b2, b3⟩ := bo hBv hr
      have o2 := ohi hBv
      have e1 : 2 ^ (rn 53 (-1074) z.natAbs e).toNat - rr 53 (-1074) z.natAbs e = rr 53 (-1074) z.natAbs e := by omega
      rw [e1] at b2
      rw [olo, o2]
      split <;> omega
end Fd
end Go.Proofs.YtmcflggionkhlaaGreatDoor
