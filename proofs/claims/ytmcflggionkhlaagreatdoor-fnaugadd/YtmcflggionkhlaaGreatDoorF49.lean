/-
  What is needed of TP, RY, FA, SM, AU.
-/
import Derived.Test.YtmcflggionkhlaaGreatDoorF40
import Derived.Test.YtmcflggionkhlaaGreatDoorF44
set_option maxHeartbeats 16000000
set_option maxRecDepth 1000000
namespace Go.Proofs.YtmcflggionkhlaaGreatDoor
set_option linter.unusedVariables false
set_option linter.unusedSimpArgs false
open Go.RowKit Go.Deep
theorem fin_ok {fm x : Int} (hf : finB fm x = true) : okF fm x = true := by
  cases h : okF fm x
  · exfalso
    have : cls fm x = -1 := by unfold cls; rw [h]; rfl
    unfold finB at hf; rw [this] at hf; simp at hf
  · rfl
namespace Fd
open Nm (rU rr rn rh rm flo flb)
/-- The bits of the neighbour nearer to 0, and of the other one. -/
def mgLo (P : Nat) (q : Int) (I : Nat) (a : Nat) (e : Int) : Nat := if flo P I (rU P q a e false) then flb P (rU P q a e false) else I - 1
def mgHi (P : Nat) (q : Int) (I : Nat) (a : Nat) (e : Int) : Nat := if flo P I (rU P q a e true) then flb P (rU P q a e true) else I
/-- Exact, and no more than the greatest. -/
def exB (P : Nat) (q : Int) (I : Nat) (a : Nat) (e : Int) : Bool := decide (rr P q a e = 0) && flo P I (rU P q a e false)
theorem flo_lt {P I u : Nat} (h : flo P I u = true) : flb P u < I := by
  unfold Nm.flo at h
  simp only [Bool.and_eq_true, decide_eq_true_eq] at h
  exact h.2
theorem rU_same {P : Nat} {q : Int} {a : Nat} {e : Int} (h : rr P q a e = 0) : rU P q a e true = rU P q a e false := by rw [Nm.rU_ex h, Nm.rU_ex h]
/-- A place is exactly a float's, but for its greatness. -/
theorem dn_exact {P : Nat} {q : Int} {a : Nat} {e : Int} (hP : 1 ≤ P) (ha : a ≠ 0) : rU P q a e false / 2 ^ (bitLen (rU P q a e false) - P) * 2 ^ (bitLen (rU P q a e false) - P) = rU P q a e false := by
  rw [Nm.rU_dn]
  obtain ⟨-, h2, h3⟩ := Nm.flb_mk (P := P) (m := rm P q a e) (k := Nm.rk P q a e) hP Nm.rm_lt (Nm.rm_top hP ha)
  rw [h3, h2]
theorem flo_dn_of_up {P I : Nat} {q : Int} {a : Nat} {e : Int} (hP : 1 ≤ P) (ha : a ≠ 0) (h : flo P I (rU P q a e true) = true) : flo P I (rU P q a e false) = true := by
  by_cases hr : rr P q a e = 0
  · rw [← rU_same hr]; exact h
  · have hb := Nm.nb_bits (P := P) hP ha hr
    exact Nm.flb_lt_flo (Nat.le_of_lt hb.2) hP (dn_exact hP ha) h (by omega)
theorem lohi {P I : Nat} {q : Int} {a : Nat} {e : Int} (hP : 1 ≤ P) (ha : a ≠ 0) (hI : I ≤ 2100 * 2 ^ (P - 1)) (hI0 : 1 ≤ I) :
    mgLo P q I a e < I ∧ mgHi P q I a e ≤ I ∧ mgHi P q I a e = (if exB P q I a e then mgLo P q I a e else mgLo P q I a e + 1) := by
  unfold mgLo mgHi exB
  by_cases hd : flo P I (rU P q a e false) = true
  · rw [if_pos hd, hd]
    have h1 := flo_lt hd
    by_cases hr : rr P q a e = 0
    · rw [rU_same hr, if_pos hd, decide_eq_true hr]
      exact ⟨h1, by omega, rfl⟩
    · rw [decide_eq_false hr]
      have hb := (Nm.nb_bits (P := P) hP ha hr).1
      by_cases hu : flo P I (rU P q a e true) = true
      · rw [if_pos hu]
        have h2 := flo_lt hu
        exact ⟨h1, by omega, by simpa using hb⟩
      · rw [if_neg hu]
        have : ¬ flb P (rU P q a e false) + 1 < I := fun h => hu (Nm.flo_up hP ha hr hI hd h)
        refine ⟨h1, Nat.le_refl _, ?_⟩
        simp; omega
  · have hu : ¬ flo P I (rU P q a e true) = true := fun h => hd (flo_dn_of_up hP ha h)
    rw [if_neg hd, if_neg hu]
    have hd' : flo P I (rU P q a e false) = false := by simpa using hd
    rw [hd', Bool.and_false]
    refine ⟨by omega, Nat.le_refl _, ?_⟩
    simp; omega
theorem lo_off {P I : Nat} {q : Int} {a : Nat} {e : Int} (hP : 2 ≤ P) (ha : a ≠ 0) (hI : I ≤ 2100 * 2 ^ (P - 1)) (hI0 : 1 ≤ I) :
    uf (2 ^ (P - 1)) (mgLo P q I a e) * 2 ^ (q - min e q).toNat ≤ a * 2 ^ (e - min e q).toNat := by
  have hd := Nm.off_dn (P := P) (q := q) (a := a) (e := e)
  have key : uf (2 ^ (P - 1)) (mgLo P q I a e) ≤ rU P q a e false := by
    unfold mgLo
    by_cases hf : flo P I (rU P q a e false) = true
    · rw [if_pos hf, flb_uf P I _ (by omega) hf]; exact Nat.le_refl _
    · rw [if_neg hf]
      rcases Nat.lt_or_ge (rU P q a e false) (uf (2 ^ (P - 1)) (I - 1)) with h | h
      · exfalso; apply hf
        have hg := uf_flo P I (by omega) (I - 1) (by omega) hI
        have hm := Nm.flb_mono' (P := P) (by omega) (Nat.le_of_lt h)
        exact Nm.flb_lt_flo (Nat.le_of_lt h) (by omega) (dn_exact (by omega) ha) hg hm
      · exact h
  exact Nat.le_trans (Nat.mul_le_mul_right _ key) (by omega)
theorem hi_off {P I : Nat} {q : Int} {a : Nat} {e : Int} (hP : 2 ≤ P) (ha : a ≠ 0) (h : mgHi P q I a e < I) :
    a * 2 ^ (e - min e q).toNat ≤ uf (2 ^ (P - 1)) (mgHi P q I a e) * 2 ^ (q - min e q).toNat ∧ flo P I (rU P q a e true) = true ∧ uf (2 ^ (P - 1)) (mgHi P q I a e) = rU P q a e true := by
  have hf : flo P I (rU P q a e true) = true := by
    cases hf : flo P I (rU P q a e true)
    · unfold mgHi at h; rw [hf] at h; simp at h
    · rfl
  have e1 : uf (2 ^ (P - 1)) (mgHi P q I a e) = rU P q a e true := by
    unfold mgHi; rw [if_pos hf, flb_uf P I _ (by omega) hf]
  refine ⟨?_, hf, e1⟩
  rw [e1]
  by_cases hr : rr P q a e = 0
  · have hd := Nm.off_dn (P := P) (q := q) (a := a) (e := e)
    rw [hr, Nat.zero_mul, Nat.add_zero] at hd
    rw [rU_same hr, hd]; exact Nat.le_refl _
  · have hu := (Nm.off_up (P := P) (q := q) (a := a) (e := e) hr).1
    omega
/-- Where both are floats: how far each is away, in halves. -/
theorem both_off {P I : Nat} {q : Int} {a : Nat} {e : Int} (hP : 2 ≤ P) (ha : a ≠ 0) (h : mgHi P q I a e < I) (hr : rr P q a e ≠ 0) :
    uf (2 ^ (P - 1)) (mgLo P q I a e) * 2 ^ (q - min e q).toNat + rr P q a e * 2 ^ (e - min e q).toNat = a * 2 ^ (e - min e q).toNat ∧
    uf (2 ^ (P - 1)) (mgHi P q I a e) * 2 ^ (q - min e q).toNat = a * 2 ^ (e - min e q).toNat + (2 ^ (rn P q a e).toNat - rr P q a e) * 2 ^ (e - min e q).toNat ∧ rr P q a e < 2 ^ (rn P q a e).toNat := by
  obtain ⟨-, hf, e1⟩ := hi_off hP ha h
  have hf2 := flo_dn_of_up (by omega) ha hf
  have hu := Nm.off_up (P := P) (q := q) (a := a) (e := e) hr
  have e2 : uf (2 ^ (P - 1)) (mgLo P q I a e) = rU P q a e false := by
    unfold mgLo; rw [if_pos hf2, flb_uf P I _ (by omega) hf2]
  rw [e1, e2]
  exact ⟨Nm.off_dn, hu.1, hu.2⟩
/-- What the modes give. -/
theorem mg_lo {P I : Nat} {q m : Int} {ng : Bool} {a : Nat} {e : Int} (hu : ∀ od h, upB m od h ng = false) (ho : ovB m ng = true) (hI0 : 1 ≤ I) : mgB P q I m ng a e = (mgLo P q I a e : Nat) := by
  unfold mgB rdU mgLo
  rw [hu, ho]
  split <;> simp <;> omega
theorem mg_hi {P I : Nat} {q m : Int} {ng : Bool} {a : Nat} {e : Int} (hu : ∀ od h, upB m od h ng = true) (ho : ovB m ng = false) : mgB P q I m ng a e = (mgHi P q I a e : Nat) := by
  unfold mgB rdU mgHi
  rw [hu, ho]
  split <;> simp
/-- To the nearest one: away from 0 or towards it, as half says. -/
theorem mg_near {P I : Nat} {q m : Int} {ng : Bool} {a : Nat} {e : Int} (hP : 1 ≤ P) (ha : a ≠ 0) (ho : ovB m ng = false) (b : Bool) (hb : b = upB m (((rm P q a e : Nat) : Int) % 2 == 1) (rh P q a e) ng) :
    mgB P q I m ng a e = (if b then ((mgHi P q I a e : Nat) : Int) else if flo P I (rU P q a e false) then ((mgLo P q I a e : Nat) : Int) else ((mgHi P q I a e : Nat) : Int)) := by
  unfold mgB rdU
  rw [← hb, ho]
  cases b
  · simp only [Bool.false_eq_true, if_false]
    by_cases hf : flo P I (rU P q a e false) = true
    · rw [if_pos hf, if_pos hf]; unfold mgLo; rw [if_pos hf]
    · rw [if_neg hf, if_neg hf]
      have hu : ¬ flo P I (rU P q a e true) = true := fun h => hf (flo_dn_of_up hP ha h)
      unfold mgHi; rw [if_neg hu]
  · simp only [if_true]
    unfold mgHi
    by_cases hf : flo P I (rU P q a e true) = true
    · rw [if_pos hf, if_pos hf]
    · rw [if_neg hf, if_neg hf]; simp
theorem rdF_zero {P I : Nat} {q m : Int} {ng : Bool} {a : Nat} {e : Int} : (rdF P q I m ng a e == 0) = exB P q I a e := by
  unfold rdF exB
  by_cases hr : rr P q a e = 0
  · have : rdU P q m ng a e = rU P q a e false := by unfold rdU; rw [Nm.rU_ex hr, Nm.rU_ex hr]
    rw [this, decide_eq_true hr, Bool.true_and]
    by_cases hf : flo P I (rU P q a e false) = true
    · rw [if_pos hf, if_pos hr, hf]; rfl
    · rw [if_neg hf]; have : flo P I (rU P q a e false) = false := by simpa using hf
      rw [this]; rfl
  · rw [decide_eq_false hr, Bool.false_and]
    by_cases hf : flo P I (rdU P q m ng a e) = true
    · rw [if_pos hf, if_neg hr]; split <;> rfl
    · rw [if_neg hf]; rfl
/-- The two modes, below 0 and above. -/
theorem two_32 (z e : Int) (hO : RdO 32 0 (Nm.wn z) (Nm.wl z) e = true) (hz : z ≠ 0) :
    RdB 32 3 (Nm.wn z) (Nm.wl z) e = sgn 2147483648 ((if z < 0 then mgHi 24 (-149) 2139095040 z.natAbs e else mgLo 24 (-149) 2139095040 z.natAbs e : Nat) : Int) (Nm.wn z) ∧
    RdB 32 2 (Nm.wn z) (Nm.wl z) e = sgn 2147483648 ((if z < 0 then mgLo 24 (-149) 2139095040 z.natAbs e else mgHi 24 (-149) 2139095040 z.natAbs e : Nat) : Int) (Nm.wn z) ∧
    RdB 32 1 (Nm.wn z) (Nm.wl z) e = sgn 2147483648 ((mgLo 24 (-149) 2139095040 z.natAbs e : Nat) : Int) (Nm.wn z) ∧
    (∀ m, modeB m = true → (RdF 32 m (Nm.wn z) (Nm.wl z) e == 0) = exB 24 (-149) 2139095040 z.natAbs e) ∧
    (∀ m, m = 0 ∨ m = 4 ∨ m = 5 → RdB 32 m (Nm.wn z) (Nm.wl z) e = sgn 2147483648 (if upB m (((rm 24 (-149) z.natAbs e : Nat) : Int) % 2 == 1) (rh 24 (-149) z.natAbs e) (Nm.wn z) then ((mgHi 24 (-149) 2139095040 z.natAbs e : Nat) : Int) else if flo 24 2139095040 (rU 24 (-149) z.natAbs e false) then ((mgLo 24 (-149) 2139095040 z.natAbs e : Nat) : Int) else ((mgHi 24 (-149) 2139095040 z.natAbs e : Nat) : Int)) (Nm.wn z)) := by
  have hnz : ¬ (Nm.wl z).length = 0 := fun h => hz ((wl_zero' z).1 h)
  have hOm : ∀ m, modeB m = true → RdO 32 m (Nm.wn z) (Nm.wl z) e = true := fun m hm => by
    unfold RdO at hO ⊢; simp at hO ⊢; exact ⟨⟨⟨hO.1.1.1, hm⟩, hO.1.2⟩, hO.2⟩
  have ha : z.natAbs ≠ 0 := by omega
  have rd : ∀ m, modeB m = true → RdB 32 m (Nm.wn z) (Nm.wl z) e = sgn 2147483648 (mgB 24 (-149) 2139095040 m (Nm.wn z) z.natAbs e) (Nm.wn z) := fun m hm => by
    obtain ⟨b1, -⟩ := Rd_any32 m (Nm.wn z) (Nm.wl z) e (hOm m hm) hnz
    rw [b1, Nm.val_wl, Int.toNat_natCast, mgB_eq]
  refine ⟨?_, ?_, ?_, fun m hm => ?_, fun m hm => ?_⟩
  · rw [rd 3 (by decide)]
    by_cases h : z < 0
    · rw [if_pos h, mg_hi (fun od h' => by unfold upB Nm.wn; simp [h]) (by unfold ovB Nm.wn; simp [h])]
    · rw [if_neg h, mg_lo (fun od h' => by unfold upB Nm.wn; simp [h]) (by unfold ovB Nm.wn; simp [h]) (by decide)]
  · rw [rd 2 (by decide)]
    by_cases h : z < 0
    · rw [if_pos h, mg_lo (fun od h' => by unfold upB Nm.wn; simp [h]) (by unfold ovB Nm.wn; simp [h]) (by decide)]
    · rw [if_neg h, mg_hi (fun od h' => by unfold upB Nm.wn; simp [h]) (by unfold ovB Nm.wn; simp [h])]
  · rw [rd 1 (by decide), mg_lo (fun od h' => by unfold upB; simp) (by unfold ovB; simp) (by decide)]
  · obtain ⟨-, b2⟩ := Rd_any32 m (Nm.wn z) (Nm.wl z) e (hOm m hm) hnz
    rw [b2, Nm.val_wl, Int.toNat_natCast, rdF_zero]
  · have hm' : modeB m = true := by rcases hm with rfl | rfl | rfl <;> decide
    rw [rd m hm', mg_near (by decide) ha (by rcases hm with rfl | rfl | rfl <;> rfl) _ rfl]
/-- The units of a neighbour. -/
theorem un_mg32 (z : Int) {v : Nat} (hv : v < 2139095040) : unI 32 (sgn 2147483648 (v : Int) (Nm.wn z)) = (if z < 0 then -((uf 8388608 v : Nat) : Int) else (uf 8388608 v : Nat)) := by
  rw [(unSg32 hv (Nm.wn z)).2.2.2]
  unfold Nm.wn
  by_cases h : z < 0
  · rw [decide_eq_true h, if_pos h]; rfl
  · rw [decide_eq_false h, if_neg h]; rfl
theorem fin_mg32 {v : Nat} (hv : v ≤ 2139095040) (g : Bool) (hf : finB 32 (sgn 2147483648 (v : Int) g) = true) : v < 2139095040 := by
  have hb := sgn_abs32 (v := (v : Int)) (by omega) (by omega) g
  have := fin_lt32 hb.1 hb.2.1 hf
  unfold sgn at this
  split at this <;> omega
/-- The two modes, below 0 and above. -/
theorem two_64 (z e : Int) (hO : RdO 64 0 (Nm.wn z) (Nm.wl z) e = true) (hz : z ≠ 0) :
    RdB 64 3 (Nm.wn z) (Nm.wl z) e = sgn 9223372036854775808 ((if z < 0 then mgHi 53 (-1074) 9218868437227405312 z.natAbs e else mgLo 53 (-1074) 9218868437227405312 z.natAbs e : Nat) : Int) (Nm.wn z) ∧
    RdB 64 2 (Nm.wn z) (Nm.wl z) e = sgn 9223372036854775808 ((if z < 0 then mgLo 53 (-1074) 9218868437227405312 z.natAbs e else mgHi 53 (-1074) 9218868437227405312 z.natAbs e : Nat) : Int) (Nm.wn z) ∧
    RdB 64 1 (Nm.wn z) (Nm.wl z) e = sgn 9223372036854775808 ((mgLo 53 (-1074) 9218868437227405312 z.natAbs e : Nat) : Int) (Nm.wn z) ∧
    (∀ m, modeB m = true → (RdF 64 m (Nm.wn z) (Nm.wl z) e == 0) = exB 53 (-1074) 9218868437227405312 z.natAbs e) ∧
    (∀ m, m = 0 ∨ m = 4 ∨ m = 5 → RdB 64 m (Nm.wn z) (Nm.wl z) e = sgn 9223372036854775808 (if upB m (((rm 53 (-1074) z.natAbs e : Nat) : Int) % 2 == 1) (rh 53 (-1074) z.natAbs e) (Nm.wn z) then ((mgHi 53 (-1074) 9218868437227405312 z.natAbs e : Nat) : Int) else if flo 53 9218868437227405312 (rU 53 (-1074) z.natAbs e false) then ((mgLo 53 (-1074) 9218868437227405312 z.natAbs e : Nat) : Int) else ((mgHi 53 (-1074) 9218868437227405312 z.natAbs e : Nat) : Int)) (Nm.wn z)) := by
  have hnz : ¬ (Nm.wl z).length = 0 := fun h => hz ((wl_zero' z).1 h)
  have hOm : ∀ m, modeB m = true → RdO 64 m (Nm.wn z) (Nm.wl z) e = true := fun m hm => by
    unfold RdO at hO ⊢; simp at hO ⊢; exact ⟨⟨⟨hO.1.1.1, hm⟩, hO.1.2⟩, hO.2⟩
  have ha : z.natAbs ≠ 0 := by omega
  have rd : ∀ m, modeB m = true → RdB 64 m (Nm.wn z) (Nm.wl z) e = sgn 9223372036854775808 (mgB 53 (-1074) 9218868437227405312 m (Nm.wn z) z.natAbs e) (Nm.wn z) := fun m hm => by
    obtain ⟨b1, -⟩ := Rd_any64 m (Nm.wn z) (Nm.wl z) e (hOm m hm) hnz
    rw [b1, Nm.val_wl, Int.toNat_natCast, mgB_eq]
  refine ⟨?_, ?_, ?_, fun m hm => ?_, fun m hm => ?_⟩
  · rw [rd 3 (by decide)]
    by_cases h : z < 0
    · rw [if_pos h, mg_hi (fun od h' => by unfold upB Nm.wn; simp [h]) (by unfold ovB Nm.wn; simp [h])]
    · rw [if_neg h, mg_lo (fun od h' => by unfold upB Nm.wn; simp [h]) (by unfold ovB Nm.wn; simp [h]) (by decide)]
  · rw [rd 2 (by decide)]
    by_cases h : z < 0
    · rw [if_pos h, mg_lo (fun od h' => by unfold upB Nm.wn; simp [h]) (by unfold ovB Nm.wn; simp [h]) (by decide)]
    · rw [if_neg h, mg_hi (fun od h' => by unfold upB Nm.wn; simp [h]) (by unfold ovB Nm.wn; simp [h])]
  · rw [rd 1 (by decide), mg_lo (fun od h' => by unfold upB; simp) (by unfold ovB; simp) (by decide)]
  · obtain ⟨-, b2⟩ := Rd_any64 m (Nm.wn z) (Nm.wl z) e (hOm m hm) hnz
    rw [b2, Nm.val_wl, Int.toNat_natCast, rdF_zero]
  · have hm' : modeB m = true := by rcases hm with rfl | rfl | rfl <;> decide
    rw [rd m hm', mg_near (by decide) ha (by rcases hm with rfl | rfl | rfl <;> rfl) _ rfl]
/-- The units of a neighbour. -/
theorem un_mg64 (z : Int) {v : Nat} (hv : v < 9218868437227405312) : unI 64 (sgn 9223372036854775808 (v : Int) (Nm.wn z)) = (if z < 0 then -((uf 4503599627370496 v : Nat) : Int) else (uf 4503599627370496 v : Nat)) := by
  rw [(unSg64 hv (Nm.wn z)).2.2.2]
  unfold Nm.wn
  by_cases h : z < 0
  · rw [decide_eq_true h, if_pos h]; rfl
  · rw [decide_eq_false h, if_neg h]; rfl
theorem fin_mg64 {v : Nat} (hv : v ≤ 9218868437227405312) (g : Bool) (hf : finB 64 (sgn 9223372036854775808 (v : Int) g) = true) : v < 9218868437227405312 := by
  have hb := sgn_abs64 (v := (v : Int)) (by omega) (by omega) g
  have := fin_lt64 hb.1 hb.2.1 hf
  unfold sgn at this
  split at this <;> omega
end Fd
theorem add_spec (fm mode x y : Int) (w : World) (x0 : 0 ≤ x) (x1 : x < 18446744073709551616) (y0 : 0 ≤ y) (y1 : y < 18446744073709551616) (B F : Int) (O : Bool) (hB : B = adB fm mode x y) (hF : F = adF fm mode x y) (hO : O = muO fm mode x y) :
    Calls Tryz.prog 62 #[.int .i64 fm, .int .i64 mode, .int .u64 x, .int .u64 y] w fun r w' => r = .returned (.tuple #[.int .u64 B, .int .i64 F, .bool O]) ∧ Below w.heap.size w w' := by
  have dx := d64_2 x0 x1 y0 y1
  have CF := hid (fun w' h => l4form fm mode (some ⟨w.heap.size, 0, none⟩) 2 [x, y] w' h (by simp))
  rw [all2_fmt] at CF
  have s2 := sl64_2 w x y 24
  cases ho : muO fm mode x y
  · obtain ⟨e1, e2⟩ := ad_no ho
    rw [e1] at hB; rw [e2] at hF; rw [ho] at hO
    subst hB hF hO
    have ho' : (modeB mode && allB fm [x, y]) = false := ho
    rw [ho'] at CF
    clear ho ho' e1 e2 dx
    go_enter Tryz.func62, Tryz.ntmps62
    go_wp2_with fail
    refine (CF.out _ s2).mono ?_
    rintro r w1 ⟨rfl, hb1⟩
    go_wp2
    go_ret3
    exact ⟨rfl, (by repeat (first | exact bz0 _ _ | refine bz1 ?_ | refine bz2 ?_ _ | refine bz3 ?_ _ | refine bz4 ?_ hb1 | refine bz5 ?_ _ | refine bz6 ?_ _ | refine bz7 ?_ hb1))⟩
  have ho' : (modeB mode && allB fm [x, y]) = true := ho
  rw [ho'] at CF
  obtain ⟨hm, ha⟩ : modeB mode = true ∧ allB fm [x, y] = true := by simpa using ho'
  obtain ⟨hx, hy⟩ := all2 ha
  have hfm := ok_fmt hx
  have CN := hid (fun a w' h => l4nan fm a 2 [x, y] w' h dx (by simp) hfm ha)
  have e1 : [x, y].any (nanB fm) = (nanB fm x || nanB fm y) := by simp
  have e2 : [x, y].any (nB fm) = (nB fm x || nB fm y) := by simp
  rw [e1, e2] at CN
  cases hn : (nanB fm x || nanB fm y)
  · obtain ⟨nx, ny⟩ : nanB fm x = false ∧ nanB fm y = false := by simpa using hn
    rw [hn] at CN
    have hB' : B = aB fm mode x y := by
      rw [hB]; unfold adB; rw [ho, if_pos rfl, hn]; rfl
    have hF' : F = aF fm mode x y := by
      rw [hF]; unfold adF; rw [ho, if_pos rfl, hn]; rfl
    have CM := hid (fun w' => l4add fm mode x y w' hx hy x0 x1 y0 y1 hm nx ny B F hB' hF')
    rw [ho] at hO
    subst hO
    obtain ⟨q1, hq1⟩ : ∃ i, i = nanOf fm := ⟨_, rfl⟩
    obtain ⟨q2, hq2⟩ : ∃ i : Int, i = fl8 (nB fm x || nB fm y) := ⟨_, rfl⟩
    rw [← hq1, ← hq2] at CN
    clear hB hF hB' hF' hn nx ny ho ho' dx e1 e2 hq1 hq2 hm ha hx hy hfm
    go_enter Tryz.func62, Tryz.ntmps62
    go_wp2_with fail
    refine (CF.out _ s2).mono ?_
    rintro r w1 ⟨rfl, hb1⟩
    go_wp2_with fail
    refine (CN.out _ _ (sl64_2 w1 x y 24)).mono ?_
    rintro r w2 ⟨rfl, hb2⟩
    go_wp2_with fail
    refine (CM.out _).mono ?_
    rintro r w3 ⟨rfl, hb3⟩
    go_wp2
    go_ret3
    exact ⟨rfl, (by repeat (first | exact bz0 _ _ | refine bz1 ?_ | refine bz2 ?_ _ | refine bz3 ?_ _ | refine bz4 ?_ hb3 | refine bz4 ?_ hb2 | refine bz4 ?_ hb1 | refine bz5 ?_ _ | refine bz6 ?_ _ | refine bz7 ?_ hb3 | refine bz7 ?_ hb2 | refine bz7 ?_ hb1))⟩
  · rw [hn] at CN
    have hB' : B = nanOf fm := by rw [hB]; unfold adB; rw [ho, if_pos rfl, hn]; rfl
    have hF' : F = fl8 (nB fm x || nB fm y) := by rw [hF]; unfold adF; rw [ho, if_pos rfl, hn]; rfl
    rw [← hB', ← hF'] at CN
    rw [ho] at hO
    subst hO
    clear hB hF hB' hF' hn ho ho' dx e1 e2 hm ha hx hy hfm
    go_enter Tryz.func62, Tryz.ntmps62
    go_wp2_with fail
    refine (CF.out _ s2).mono ?_
    rintro r w1 ⟨rfl, hb1⟩
    go_wp2_with fail
    refine (CN.out _ _ (sl64_2 w1 x y 24)).mono ?_
    rintro r w2 ⟨rfl, hb2⟩
    go_wp2
    go_ret3
    exact ⟨rfl, (by repeat (first | exact bz0 _ _ | refine bz1 ?_ | refine bz2 ?_ _ | refine bz3 ?_ _ | refine bz4 ?_ hb2 | refine bz4 ?_ hb1 | refine bz5 ?_ _ | refine bz6 ?_ _ | refine bz7 ?_ hb2 | refine bz7 ?_ hb1))⟩
namespace Fd
theorem fin_ok {fm x : Int} (h : finB fm x = true) : okF fm x = true := by
  cases ho : okF fm x
  · unfold finB cls at h; rw [ho] at h; simp at h
  · rfl
end Fd
theorem tot_all (fm mode x y : Int) (u : Value) (x0 : 0 ≤ x) (x1 : x < 18446744073709551616) (y0 : 0 ≤ y) (y1 : y < 18446744073709551616) (ho : muO fm mode x y = true) :
    ∃ (sg inf G : Bool) (L : List Int) (E : Int) (n b : Bool) (rb rf : Int), TotAt u fm mode x y sg inf G L E n b ∧ L.length ≤ 200 ∧ Nm.Dg L ∧ (n = false → inf = false → L.length ≠ 0 → RdO fm mode G L E = true ∧ rb = RdB fm mode G L E ∧ rf = RdF fm mode G L E) ∧ adB fm mode x y = tdB (nanOf fm) (infOf fm) (sgOf fm) n inf (decide (L.length = 0)) sg rb ∧ adF fm mode x y = tdF n b inf (decide (L.length = 0)) rf ∧ ((n = false ∧ inf = false) → finB fm x = true ∧ finB fm y = true ∧ ∃ z, G = Nm.wn z ∧ L = Nm.wl z ∧ (unI fm x + unI fm y) = z * 2 ^ (E - unQ fm).toNat ∧ 0 ≤ E - unQ fm ∧ E ≤ 2000) := by
  obtain ⟨hm, ha⟩ : modeB mode = true ∧ allB fm [x, y] = true := by have : (modeB mode && allB fm [x, y]) = true := ho; simpa using this
  obtain ⟨hx, hy⟩ := all2 ha
  have hfm := ok_fmt hx
  have NX := numAt (u := u) hx x0 x1
  have NY := numAt (u := u) hy y0 y1
  cases hn : (nanB fm x || nanB fm y)
  · obtain ⟨nx, ny⟩ : nanB fm x = false ∧ nanB fm y = false := by simpa using hn
    have hB' : adB fm mode x y = aB fm mode x y := by unfold adB; rw [ho, if_pos rfl, hn]; rfl
    have hF' : adF fm mode x y = aF fm mode x y := by unfold adF; rw [ho, if_pos rfl, hn]; rfl
    have sx : nS fm x = sigB fm x := by unfold nS; rw [nx]; rfl
    have sy : nS fm y = sigB fm y := by unfold nS; rw [ny]; rfl
    unfold aB at hB'
    unfold aF at hF'
    cases ix : nI fm x
    · rw [ix] at hB' hF' NX
      cases iy : nI fm y
      · rw [iy] at hB' hF' NY
        have fx := (nan_cases hx nx).resolve_right (by rw [ix]; decide)
        have fy := (nan_cases hy ny).resolve_right (by rw [iy]; decide)
        have b1 := nZ_bd fm x
        have b2 := nZ_bd fm y
        obtain ⟨em, hem⟩ : ∃ em, em = min (nE fm x) (nE fm y) := ⟨_, rfl⟩
        obtain ⟨z, hz⟩ : ∃ z, z = nZ fm x * 2 ^ (nE fm x - em).toNat + nZ fm y * 2 ^ (nE fm y - em).toNat := ⟨_, rfl⟩
        obtain ⟨hu, hq⟩ := sum_z hx hy fx fy em hem z hz
        have hqb := unq_bd fm
        have hul := uu_len fm x y
        have hzl : (Nm.wl z).length ≤ 200 := by
          have h1 := len_bl (x := (unI fm x + unI fm y).natAbs) (k := 200) hul
          have h2 := Nm.bl_mono (sum_abs hu)
          unfold Nm.wl; exact lim_len (k := 200) (by omega)
        have lx := nzs_len (fm := fm) (x := x) (em := em) (by omega) (by omega)
        have ly := nzs_len (fm := fm) (x := y) (em := em) (by omega) (by omega)
        have hz0 : (unI fm x + unI fm y) = 0 ↔ z = 0 := by
          rw [hu]; constructor
          · intro h
            rcases Int.mul_eq_zero.1 h with h' | h'
            · exact h'
            · exact absurd h' (Int.ne_of_gt (Int.pow_pos (by decide)))
          · intro h; rw [h, Int.zero_mul]
        have hl0 : decide ((Nm.wl z).length = 0) = decide ((unI fm x + unI fm y) = 0) := by
          rw [Bool.eq_iff_iff, decide_eq_true_eq, decide_eq_true_eq, hz0]; unfold Nm.wl; rw [Nm.lim_length_zero]; omega
        have hP := tot_num fm mode x y u _ _ _ _ _ _ _ _ _ _ _ _ _ _ NX NY hn (plN (decide ((Nm.wl z).length = 0)) (nS fm x) (nS fm y) (Nm.wn z) mode) false (Nm.wn z) (Nm.wl z) em false false
          (fun Q a1 c1 a2 c2 w hQ h1 h2 => (plus_fin (nS fm x) (Nm.wn (nZ fm x)) (Nm.wl (nZ fm x)) (nE fm x) a1 c1 (nS fm y) (Nm.wn (nZ fm y)) (Nm.wl (nZ fm y)) (nE fm y) a2 c2 mode w em hem (by omega) (by omega) h1.sl h2.sl (Nm.wn (nZ fm x * 2 ^ (nE fm x - em).toNat)) (Nm.wl (nZ fm x * 2 ^ (nE fm x - em).toNat)) (Nm.wn (nZ fm y * 2 ^ (nE fm y - em).toNat)) (Nm.wl (nZ fm y * 2 ^ (nE fm y - em).toNat)) (Nm.wn z) (Nm.wl z) _ rfl hzl
            (fun w' h => wsh_at2 _ a1 c1 _ (nE fm x - em) w' h (Nm.wl_dg _) (okB_wl (nZ_len fm x)) (by omega) (by omega) _ (shz _ _ (by omega)).symm lx)
            (fun w' h => wsh_at2 _ a2 c2 _ (nE fm y - em) w' h (Nm.wl_dg _) (okB_wl (nZ_len fm y)) (by omega) (by omega) _ (shz _ _ (by omega)).symm ly)
            (fun av cv aw cw w' h h' => add_ok av aw cv cw w' h h' (Nm.wl_dg _) (Nm.wl_dg _) (okB_wl lx) (okB_wl ly) z (by rw [Nm.wv_out, Nm.wv_out]; exact hz) (by unfold Nm.fits; exact decide_eq_true hzl))).mono fun r w' ⟨a, c, hr, ho, hb⟩ => ⟨a, c, _, hr, EK.no, ho.base hQ, hb⟩)
        have hro : z ≠ 0 → RdO fm mode (Nm.wn z) (Nm.wl z) em = true ∧ RdB fm mode (Nm.wn (unI fm x + unI fm y)) (Nm.wl (unI fm x + unI fm y)) (unQ fm) = RdB fm mode (Nm.wn z) (Nm.wl z) em ∧ RdF fm mode (Nm.wn (unI fm x + unI fm y)) (Nm.wl (unI fm x + unI fm y)) (unQ fm) = RdF fm mode (Nm.wn z) (Nm.wl z) em := by
          intro hzz
          have o1 := rdo_any (fm := fm) (mode := mode) (z := z) (e := em) hfm hm hzl (by omega) (by omega)
          have o2 := rdo_any (fm := fm) (mode := mode) (z := (unI fm x + unI fm y)) (e := unQ fm) hfm hm hul (by omega) (by omega)
          have hd : unQ fm = em - ((em - unQ fm).toNat : Nat) := by omega
          rw [hu] at o2 ⊢
          rw [hd] at o2 ⊢
          have e2 : (em - (em - ((em - unQ fm).toNat : Nat))).toNat = (em - unQ fm).toNat := by omega
          rw [e2] at o2 ⊢
          obtain ⟨q1, q2⟩ := Rd_scale fm mode z (em - unQ fm).toNat em hzz o1 o2
          exact ⟨o1, q1, q2⟩
        have hzn : (Nm.wl z).length ≠ 0 → z ≠ 0 := by
          intro h e; apply h; rw [e]; have : Nm.wl 0 = [] := Nm.lim_zero
          rw [this]; rfl
        refine ⟨_, _, _, _, _, _, _, (RdB fm mode (Nm.wn (unI fm x + unI fm y)) (Nm.wl (unI fm x + unI fm y)) (unQ fm)), (RdF fm mode (Nm.wn (unI fm x + unI fm y)) (Nm.wl (unI fm x + unI fm y)) (unQ fm)), hP, hzl, (Nm.wl_dg _), (fun _ _ h => hro (hzn h)), ?_, ?_, ?_⟩
        · rw [hB', hl0, sx, sy]; unfold tdB plN
          by_cases h0 : (unI fm x + unI fm y) = 0
          · rw [decide_eq_true h0]; simp [h0]
          · rw [decide_eq_false h0]; simp [h0]
        · rw [hF', hl0]; unfold tdF
          by_cases h0 : (unI fm x + unI fm y) = 0
          · rw [decide_eq_true h0]; simp [h0]
          · rw [decide_eq_false h0]; simp [h0]
        · exact fun _ => ⟨fx, fy, z, rfl, rfl, hu, hq, by omega⟩
      · rw [iy] at hB' hF' NY
        obtain ⟨-, ey⟩ := inf_eq hy hy y0 y1 y0 y1 iy iy
        have z2 := nI_z hy iy
        have hP := tot_num fm mode x y u _ _ _ _ _ _ _ _ _ _ _ _ _ _ NX NY hn (nS fm y) true (Nm.wn (nZ fm y)) (Nm.wl (nZ fm y)) (nE fm y) false false
          (fun Q a1 c1 a2 c2 w hQ h1 h2 => (plus_inf2 (nS fm x) false (Nm.wn (nZ fm x)) (Nm.wl (nZ fm x)) (nE fm x) a1 c1 (nS fm y) true (Nm.wn (nZ fm y)) (Nm.wl (nZ fm y)) (nE fm y) a2 c2 mode w rfl rfl).mono fun r w' ⟨hr, hb⟩ => ⟨a2, c2, _, hr, EK.no, h2.below hb, hb⟩)
        refine ⟨_, _, _, _, _, _, _, 0, 0, hP, (nZ_len fm y), (Nm.wl_dg _), (fun _ h => by cases h), ?_, ?_, ?_⟩
        · rw [hB', sy]; unfold tdB; simp; exact ey
        · rw [hF']; unfold tdF; simp
        · exact fun h => absurd h (by simp)
    · rw [ix] at hB' hF' NX
      obtain ⟨-, ex⟩ := inf_eq hx hx x0 x1 x0 x1 ix ix
      cases hod : (nI fm y && (x != y))
      · have hor : nI fm y = false ∨ (nS fm x != nS fm y) = false := by
          cases iy : nI fm y
          · exact .inl rfl
          · right
            rw [iy] at hod
            rw [sx, sy, ← (inf_eq hx hy x0 x1 y0 y1 ix iy).1]; simpa using hod
        have hP := tot_num fm mode x y u _ _ _ _ _ _ _ _ _ _ _ _ _ _ NX NY hn (nS fm x) true (Nm.wn (nZ fm x)) (Nm.wl (nZ fm x)) (nE fm x) false false
          (fun Q a1 c1 a2 c2 w hQ h1 h2 => (plus_inf1 (nS fm x) true (Nm.wn (nZ fm x)) (Nm.wl (nZ fm x)) (nE fm x) a1 c1 (nS fm y) (nI fm y) (Nm.wn (nZ fm y)) (Nm.wl (nZ fm y)) (nE fm y) a2 c2 mode w rfl hor).mono fun r w' ⟨hr, hb⟩ => ⟨a1, c1, _, hr, EK.no, h1.below hb, hb⟩)
        refine ⟨_, _, _, _, _, _, _, 0, 0, hP, (nZ_len fm x), (Nm.wl_dg _), (fun _ h => by cases h), ?_, ?_, ?_⟩
        · rw [hB', Bool.true_and, hod, sx]; unfold tdB; simp; exact ex
        · rw [hF', Bool.true_and, hod]; unfold tdF; simp
        · exact fun h => absurd h (by simp)
      · obtain ⟨iy, hxy⟩ : nI fm y = true ∧ (x != y) = true := by rw [Bool.and_eq_true] at hod; exact hod
        rw [iy] at NY
        have hss : (nS fm x != nS fm y) = true := by rw [sx, sy, ← (inf_eq hx hy x0 x1 y0 y1 ix iy).1]; exact hxy
        have hP := tot_num fm mode x y u _ _ _ _ _ _ _ _ _ _ _ _ _ _ NX NY hn false false false [] 0 true true
          (fun Q a1 c1 a2 c2 w hQ h1 h2 => (plus_odd (nS fm x) true (Nm.wn (nZ fm x)) (Nm.wl (nZ fm x)) (nE fm x) a1 c1 (nS fm y) true (Nm.wn (nZ fm y)) (Nm.wl (nZ fm y)) (nE fm y) a2 c2 mode w rfl rfl hss).mono fun r w' ⟨s, hr, hb⟩ => ⟨none, 0, _, hr, EK.bad s, Own.nil _ _, hb⟩)
        refine ⟨_, _, _, _, _, _, _, 0, 0, hP, (by simp), Nm.Dg.nil, (fun h => by cases h), ?_, ?_, ?_⟩
        · rw [hB', Bool.true_and, hod]; rfl
        · rw [hF', Bool.true_and, hod]; rfl
        · exact fun h => absurd h (by simp)
  · have hB' : adB fm mode x y = nanOf fm := by unfold adB; rw [ho, if_pos rfl, hn]; rfl
    have hF' : adF fm mode x y = fl8 (nB fm x || nB fm y) := by unfold adF; rw [ho, if_pos rfl, hn]; rfl
    have hP := tot_nan fm mode x y u _ _ _ _ _ _ _ _ _ _ _ _ _ _ NX NY hn _ rfl
    refine ⟨_, _, _, _, _, _, _, 0, 0, hP, (by simp), Nm.Dg.nil, (fun h => by cases h), ?_, ?_, ?_⟩
    · rw [hB']; rfl
    · rw [hF']; unfold tdF; cases (nB fm x || nB fm y) <;> rfl
    · exact fun h => absurd h (by simp)
end Go.Proofs.YtmcflggionkhlaaGreatDoor
