/-
  What is needed of FI, LAr, LA0.
-/
import Derived.Test.YtkfjmcdniohljaaGreatDoorF47
set_option maxHeartbeats 16000000
set_option maxRecDepth 1000000
namespace Go.Proofs.YtkfjmcdniohljaaGreatDoor
set_option linter.unusedVariables false
set_option linter.unusedSimpArgs false
open Go.RowKit Go.Deep
namespace Fd
def othM (m : Int) : Int := if m = 2 then 3 else if m = 3 then 2 else m
theorem up_oth {m : Int} (hm : modeB m = true) (od : Bool) (h : Int) (ng : Bool) : upB (othM m) od h (!ng) = upB m od h ng := by
 rcases mode_cases hm with rfl | rfl | rfl | rfl | rfl | rfl <;> simp [upB, othM]
theorem ov_oth {m : Int} (hm : modeB m = true) (ng : Bool) : ovB (othM m) (!ng) = ovB m ng := by
 rcases mode_cases hm with rfl | rfl | rfl | rfl | rfl | rfl <;> simp [ovB, othM]
theorem mode_oth {m : Int} (hm : modeB m = true) : modeB (othM m) = true := by
 rcases mode_cases hm with rfl | rfl | rfl | rfl | rfl | rfl <;> decide
theorem rd_oth {P I : Nat} {q S m : Int} (hm : modeB m = true) (ng : Bool) (a : Nat) (e : Int) : rdU P q (othM m) (!ng) a e = rdU P q m ng a e := by
 unfold rdU
 rw [up_oth hm]
theorem neg_sgn32 {v : Int} (h0 : 0 ≤ v) (h1 : v < 2147483648) (ng : Bool) : negF 32 (sgn 2147483648 v ng) = sgn 2147483648 v (!ng) := by
 have hb := sgn_abs32 h0 h1 ng
 rw [neg32 hb.2.1]
 unfold sgn
 cases ng
 ·simp only [Bool.not_false, Bool.false_eq_true, if_false, if_true]; rw [if_pos h1]
 ·simp only [Bool.not_true, Bool.false_eq_true, if_false, if_true]; rw [if_neg (by omega)]; omega
theorem mir32 (mode : Int) (ng : Bool) (zs : List Int) (e : Int) (hO : RdO 32 0 ng zs e = true) (hm : modeB mode = true) (hz : ¬ zs.length = 0) :
  RdO 32 (othM mode) (!ng) zs e = true ∧ RdB 32 (othM mode) (!ng) zs e = negF 32 (RdB 32 mode ng zs e) ∧ RdF 32 (othM mode) (!ng) zs e = RdF 32 mode ng zs e ∧ okB ng zs = true ∧ 0 ≤ RdB 32 mode ng zs e ∧ RdB 32 mode ng zs e < 4294967296 := by
 have o0 := hO
 unfold RdO at o0
 have hok : okB ng zs = true := by simp at o0; exact o0.1.2
 have hok2 : okB (!ng) zs = true := by unfold okB at hok ⊢; rw [if_neg hz] at hok ⊢; exact hok
 have hOm : RdO 32 mode ng zs e = true := by unfold RdO; simp at o0 ⊢; exact ⟨⟨⟨o0.1.1.1, hm⟩, o0.1.2⟩, o0.2⟩
 have hO2 : RdO 32 (othM mode) (!ng) zs e = true := by unfold RdO; simp at o0 ⊢; exact ⟨⟨⟨o0.1.1.1, mode_oth hm⟩, hok2⟩, o0.2⟩
 obtain ⟨b1, b2⟩ := Rd_any32 mode ng zs e hOm hz
 obtain ⟨c1, c2⟩ := Rd_any32 (othM mode) (!ng) zs e hO2 hz
 obtain ⟨v, v0, v1, v2, hv⟩ := rdb_bd (P := 24) (I := 2139095040) (q := (-149)) (S := 2147483648) (mode := mode) (ng := ng) (a := (Nm.val zs).toNat) (e := e) (by decide) (by decide)
 have hs := sgn_abs32 v0 v2 ng
 have hu := rd_oth (P := 24) (I := 2139095040) (q := (-149)) (S := 2147483648) hm ng (Nm.val zs).toNat e
 refine ⟨hO2, ?_, ?_, hok, by rw [b1, hv]; exact hs.1, by rw [b1, hv]; exact hs.2.1⟩
 ·rw [b1, c1]
  unfold rdB
  rw [hu, ov_oth hm]
  by_cases hf : Nm.flo 24 2139095040 (rdU 24 (-149) mode ng (Nm.val zs).toNat e) = true
  ·rw [if_pos hf, if_pos hf]
   have : Nm.flb 24 (rdU 24 (-149) mode ng (Nm.val zs).toNat e) < 2139095040 := by
    unfold Nm.flo at hf
    simp only [Bool.and_eq_true, decide_eq_true_eq] at hf
    exact hf.2
   rw [neg_sgn32 (by omega) (by omega)]
  ·rw [if_neg hf, if_neg hf]
   split
   ·rw [neg_sgn32 (by decide) (by decide)]
   ·rw [neg_sgn32 (by decide) (by decide)]
 ·rw [b2, c2]
  unfold rdF
  rw [hu]
theorem neg_sgn64 {v : Int} (h0 : 0 ≤ v) (h1 : v < 9223372036854775808) (ng : Bool) : negF 64 (sgn 9223372036854775808 v ng) = sgn 9223372036854775808 v (!ng) := by
 have hb := sgn_abs64 h0 h1 ng
 rw [neg64]
 unfold sgn
 cases ng
 ·simp only [Bool.not_false, Bool.false_eq_true, if_false, if_true]; rw [if_pos h1]
 ·simp only [Bool.not_true, Bool.false_eq_true, if_false, if_true]; rw [if_neg (by omega)]; omega
theorem mir64 (mode : Int) (ng : Bool) (zs : List Int) (e : Int) (hO : RdO 64 0 ng zs e = true) (hm : modeB mode = true) (hz : ¬ zs.length = 0) :
  RdO 64 (othM mode) (!ng) zs e = true ∧ RdB 64 (othM mode) (!ng) zs e = negF 64 (RdB 64 mode ng zs e) ∧ RdF 64 (othM mode) (!ng) zs e = RdF 64 mode ng zs e ∧ okB ng zs = true ∧ 0 ≤ RdB 64 mode ng zs e ∧ RdB 64 mode ng zs e < 18446744073709551616 := by
 have o0 := hO
 unfold RdO at o0
 have hok : okB ng zs = true := by simp at o0; exact o0.1.2
 have hok2 : okB (!ng) zs = true := by unfold okB at hok ⊢; rw [if_neg hz] at hok ⊢; exact hok
 have hOm : RdO 64 mode ng zs e = true := by unfold RdO; simp at o0 ⊢; exact ⟨⟨⟨o0.1.1.1, hm⟩, o0.1.2⟩, o0.2⟩
 have hO2 : RdO 64 (othM mode) (!ng) zs e = true := by unfold RdO; simp at o0 ⊢; exact ⟨⟨⟨o0.1.1.1, mode_oth hm⟩, hok2⟩, o0.2⟩
 obtain ⟨b1, b2⟩ := Rd_any64 mode ng zs e hOm hz
 obtain ⟨c1, c2⟩ := Rd_any64 (othM mode) (!ng) zs e hO2 hz
 obtain ⟨v, v0, v1, v2, hv⟩ := rdb_bd (P := 53) (I := 9218868437227405312) (q := (-1074)) (S := 9223372036854775808) (mode := mode) (ng := ng) (a := (Nm.val zs).toNat) (e := e) (by decide) (by decide)
 have hs := sgn_abs64 v0 v2 ng
 have hu := rd_oth (P := 53) (I := 9218868437227405312) (q := (-1074)) (S := 9223372036854775808) hm ng (Nm.val zs).toNat e
 refine ⟨hO2, ?_, ?_, hok, by rw [b1, hv]; exact hs.1, by rw [b1, hv]; exact hs.2.1⟩
 ·rw [b1, c1]
  unfold rdB
  rw [hu, ov_oth hm]
  by_cases hf : Nm.flo 53 9218868437227405312 (rdU 53 (-1074) mode ng (Nm.val zs).toNat e) = true
  ·rw [if_pos hf, if_pos hf]
   have : Nm.flb 53 (rdU 53 (-1074) mode ng (Nm.val zs).toNat e) < 9218868437227405312 := by
    unfold Nm.flo at hf
    simp only [Bool.and_eq_true, decide_eq_true_eq] at hf
    exact hf.2
   rw [neg_sgn64 (by omega) (by omega)]
  ·rw [if_neg hf, if_neg hf]
   split
   ·rw [neg_sgn64 (by decide) (by decide)]
   ·rw [neg_sgn64 (by decide) (by decide)]
 ·rw [b2, c2]
  unfold rdF
  rw [hu]
theorem mir {fm : Int} (hfm : fmtB fm = true) (mode : Int) (ng : Bool) (zs : List Int) (e : Int) (hO : RdO fm 0 ng zs e = true) (hm : modeB mode = true) (hz : ¬ zs.length = 0) :
  RdO fm (othM mode) (!ng) zs e = true ∧ RdB fm (othM mode) (!ng) zs e = negF fm (RdB fm mode ng zs e) ∧ RdF fm (othM mode) (!ng) zs e = RdF fm mode ng zs e ∧ okB ng zs = true ∧ 0 ≤ RdB fm mode ng zs e ∧ RdB fm mode ng zs e < 18446744073709551616 := by
 rcases fmt_cases hfm with rfl | rfl
 ·obtain ⟨h1, h2, h3, h4, h5, h6⟩ := mir32 mode ng zs e hO hm hz
  exact ⟨h1, h2, h3, h4, h5, by omega⟩
 ·exact mir64 mode ng zs e hO hm hz
theorem ar_is {F : Int} {ng : Bool} {zs : List Int} {T : Int} {nn bd pl mi am : Bool} {m : Int} (h : arO F ng zs T nn bd pl mi am m = true) :
  fmtB F = true ∧ (nn = false → pl = false → mi = false → zs.length ≠ 0 → RdO F m ng zs (2 * unQ F) = true ∧ arB F ng zs T nn bd pl mi am m = RdB F m ng zs (2 * unQ F) ∧ arF F ng zs T nn bd pl mi am m = RdF F m ng zs (2 * unQ F)) := by
 have h' := h
 unfold arO at h'
 obtain ⟨h1, h2⟩ := (Bool.and_eq_true _ _).mp h'
 obtain ⟨hf, hk, ho, -⟩ := acc_parts h1
 refine ⟨hf, fun e1 e2 e3 e4 => ?_⟩
 subst e1 e2 e3
 have hb : bd = false := by
  cases bd
  ·rfl
  ·unfold mkB at hk; simp at hk
 subst hb
 have hz : decide (zs.length = 0) = false := decide_eq_false e4
 rcases fmt_cases hf with rfl | rfl
 ·obtain ⟨e1, e2⟩ := ar_yes32 h rfl
  rw [e1, e2, hz]
  exact ⟨rdo_32 h2 ho, rfl, rfl⟩
 ·obtain ⟨e1, e2⟩ := ar_yes64 h rfl
  rw [e1, e2, hz]
  exact ⟨rdo_64 h2 ho, rfl, rfl⟩
end Fd
def St.ng (s : St) : St := ⟨-s.z, s.T, s.nn, s.bd, s.mi, s.pl, false⟩
def St.mg (s t : St) : St := ⟨s.z + t.z, s.T + t.T, s.nn || t.nn, s.bd || t.bd, s.pl || t.pl, s.mi || t.mi, amW s.T s.am t.T t.am⟩
theorem neg_l {ng : Bool} {zs : List Int} (h : okB ng zs = true) : negN ng zs = Nm.wn (-Nm.wv ng zs) ∧ negL ng zs = Nm.wl (-Nm.wv ng zs) := by
 have e : Nm.wv (!ng) zs = -Nm.wv ng zs := by unfold Nm.wv; cases ng <;> simp
 unfold negN negL; rw [if_pos h, if_pos h, e]; exact ⟨rfl, rfl⟩
theorem to_st {F : Int} {ng : Bool} {zs : List Int} {T : Int} {nn bd pl mi am : Bool} (d : Nm.Dg zs) (h : accB F ng zs T nn bd pl mi am = true) : ∃ s : St, Rt F s ∧ ng = Nm.wn s.z ∧ zs = Nm.wl s.z ∧ T = s.T ∧ nn = s.nn ∧ bd = s.bd ∧ pl = s.pl ∧ mi = s.mi ∧ am = s.am := by
 obtain ⟨e1, e2⟩ := okis d (acc_ok' h)
 refine ⟨⟨Nm.wv ng zs, T, nn, bd, pl, mi, am⟩, ?_, e1.symm, e2.symm, rfl, rfl, rfl, rfl, rfl, rfl⟩
 show accB F (Nm.wn (Nm.wv ng zs)) (Nm.wl (Nm.wv ng zs)) T nn bd pl mi am = true
 rw [e1, e2]; exact h
theorem Rt.f {F : Int} {s : St} (h : Rt F s) : fmtB F = true := (acc_parts h).1
theorem Rt.mk' {F : Int} {s : St} (h : Rt F s) : mkB s.T s.nn s.bd s.pl s.mi s.am = true := (acc_parts h).2.1
theorem Rt.ng {F : Int} {s : St} (h : Rt F s) : Rt F s.ng := by
 have hm := h.mk'
 refine Rt.mk h.f ?_ (by show (-s.z).natAbs ≤ far F s.T; rw [Int.natAbs_neg]; exact h.le.1) (fun e => by cases e)
 show mkB s.T s.nn s.bd s.mi s.pl false = true
 have key : ∀ (T : Int) (nn bd pl mi am : Bool), mkB T nn bd pl mi am = true → mkB T nn bd mi pl false = true := by
  intro T nn bd pl mi am h
  unfold mkB at h ⊢
  cases nn <;> cases bd <;> cases pl <;> cases mi <;> cases am <;> simp_all
 exact key _ _ _ _ _ _ hm
theorem amW_is {F : Int} {s t : St} (hs : Rt F s) (ht : Rt F t) (h : amW s.T s.am t.T t.am = true) : (s.am = true ∨ s.T = 0) ∧ (t.am = true ∨ t.T = 0) := by
 unfold amW at h
 simp only [Bool.or_eq_true, Bool.and_eq_true, decide_eq_true_eq] at h
 rcases h with ⟨h1, h2⟩ | ⟨h1, h2⟩
 ·exact ⟨.inl h1, h2⟩
 ·exact ⟨.inr h1, .inl h2⟩
theorem Rt.mg {F : Int} {s t : St} (hs : Rt F s) (ht : Rt F t) (hT : s.T + t.T ≤ 1000000) : Rt F (s.mg t) := by
 have b1 := hs.le
 have b2 := ht.le
 have m1 := hs.mk'
 have m2 := ht.mk'
 refine Rt.mk hs.f ?_ ?_ ?_
 ·show mkB (s.T + t.T) (s.nn || t.nn) (s.bd || t.bd) (s.pl || t.pl) (s.mi || t.mi) (amW s.T s.am t.T t.am) = true
  have z1 : s.T = 0 → s.nn = false ∧ s.bd = false ∧ s.pl = false ∧ s.mi = false ∧ s.am = false := fun e => by
   have k := hs.zero (.inr e)
   refine ⟨k.2.1, k.2.2.1, k.2.2.2.1, k.2.2.2.2, ?_⟩
   unfold mkB at m1; rw [e] at m1; cases ham : s.am <;> simp_all
  have z2 : t.T = 0 → t.nn = false ∧ t.bd = false ∧ t.pl = false ∧ t.mi = false ∧ t.am = false := fun e => by
   have k := ht.zero (.inr e)
   refine ⟨k.2.1, k.2.2.1, k.2.2.2.1, k.2.2.2.2, ?_⟩
   unfold mkB at m2; rw [e] at m2; cases ham : t.am <;> simp_all
  have hw : amW s.T s.am t.T t.am = true → (s.nn || t.nn) = false ∧ (s.bd || t.bd) = false ∧ (s.pl || t.pl) = false ∧ (s.mi || t.mi) = false := fun e => by
   obtain ⟨a1, a2⟩ := amW_is hs ht e
   have k1 := hs.zero a1
   have k2 := ht.zero a2
   rw [k1.2.1, k1.2.2.1, k1.2.2.2.1, k1.2.2.2.2, k2.2.1, k2.2.2.1, k2.2.2.2.1, k2.2.2.2.2]; exact ⟨rfl, rfl, rfl, rfl⟩
  have w0 : s.T + t.T = 0 → amW s.T s.am t.T t.am = false := fun e => by
   have e1 : s.T = 0 := by omega
   have e2 : t.T = 0 := by omega
   unfold amW; rw [(z1 e1).2.2.2.2, (z2 e2).2.2.2.2]; simp
  have hb : ((s.bd || t.bd) && !(s.nn || t.nn)) = false := by
   have q1 : (s.bd && !s.nn) = false := by unfold mkB at m1; cases hb : s.bd <;> cases hn : s.nn <;> simp_all
   have q2 : (t.bd && !t.nn) = false := by unfold mkB at m2; cases hb : t.bd <;> cases hn : t.nn <;> simp_all
   cases h1 : s.bd <;> cases h2 : s.nn <;> cases h3 : t.bd <;> cases h4 : t.nn <;> simp_all
  have hz : (decide (s.T + t.T = 0) && ((s.nn || t.nn) || (s.bd || t.bd) || (s.pl || t.pl) || (s.mi || t.mi) || amW s.T s.am t.T t.am)) = false := by
   by_cases e : s.T + t.T = 0
   ·have e1 : s.T = 0 := by omega
    have e2 : t.T = 0 := by omega
    obtain ⟨k1, k2, k3, k4, k5⟩ := z1 e1
    obtain ⟨j1, j2, j3, j4, j5⟩ := z2 e2
    rw [w0 e, k1, k2, k3, k4, j1, j2, j3, j4]; simp
   ·rw [decide_eq_false e]; rfl
  have ha : (amW s.T s.am t.T t.am && ((s.nn || t.nn) || (s.bd || t.bd) || (s.pl || t.pl) || (s.mi || t.mi))) = false := by
   cases e : amW s.T s.am t.T t.am
   ·rfl
   ·obtain ⟨k1, k2, k3, k4⟩ := hw e
    rw [k1, k2, k3, k4]; rfl
  unfold mkB
  rw [hb, hz, ha, decide_eq_true (show (0 : Int) ≤ s.T + t.T by omega), decide_eq_true hT]; rfl
 ·show (s.z + t.z).natAbs ≤ far F (s.T + t.T)
  have h1 := b1.1
  have h2 := b2.1
  rw [far_eq] at h1 h2 ⊢
  have h3 : (s.z + t.z).natAbs ≤ s.z.natAbs + t.z.natAbs := Int.natAbs_add_le _ _
  have h4 : (s.T + t.T).toNat = s.T.toNat + t.T.toNat := by omega
  rw [h4, Nat.add_mul]; omega
 ·intro e
  obtain ⟨a1, a2⟩ := amW_is hs ht e
  show s.z + t.z = 0
  rw [(hs.zero a1).1, (ht.zero a2).1]; rfl
theorem ngI (F : Int) (s : St) (p : Option Addr) (c : Nat) (w : World) (hT : Tab w) (hR : Rt F s) (hs : Sl .u32 w (.slice p (Nm.wl s.z).length c) (Nm.wl s.z)) (s' : St) (hs' : s' = s.ng) :
  Calls Tryz.prog 46 #[.agg #[.int .i64 F, .bool (Nm.wn s.z), .slice p (Nm.wl s.z).length c, .int .i64 s.T, .bool s.nn, .bool s.bd, .bool s.pl, .bool s.mi, .bool s.am]] w fun r w' => ∃ a' c', r = .returned (.agg #[.int .i64 F, .bool (Nm.wn s'.z), .slice a' (Nm.wl s'.z).length c', .int .i64 s'.T, .bool s'.nn, .bool s'.bd, .bool s'.pl, .bool s'.mi, .bool s'.am]) ∧ Own w' w.heap.size a' c' (Nm.wl s'.z) ∧ Below w.heap.size w w' := by
 subst hs'
 have h := neg_impl_yes F (Nm.wn s.z) s.T s.nn s.bd s.pl s.mi s.am p c (Nm.wl s.z) w hT hs (Nm.wl_dg _) (by have := hR.len; omega) hR
 have e := neg_l (acc_ok' hR)
 rw [e.1, e.2, Nm.wv_out] at h
 exact h
theorem ngI0 {F : Int} {ng : Bool} {zs : List Int} {T : Int} {nn bd pl mi am : Bool} (p : Option Addr) (c : Nat) (w : World) (hT : Tab w) (d : zs.length ≤ 1048576) (hs : Sl .u32 w (.slice p zs.length c) zs) (hk : accB F ng zs T nn bd pl mi am = false) :
  Calls Tryz.prog 46 #[.agg #[.int .i64 F, .bool ng, .slice p zs.length c, .int .i64 T, .bool nn, .bool bd, .bool pl, .bool mi, .bool am]] w fun r w' => r = .returned (.agg #[.int .i64 0, .bool false, .slice none 0 0, .int .i64 0, .bool false, .bool false, .bool false, .bool false, .bool false]) ∧ Below w.heap.size w w' := neg_impl_no F ng T nn bd pl mi am p c zs w hT hs d hk
theorem mgI (F : Int) (s t : St) (p q : Option Addr) (c d : Nat) (w : World) (hT : Tab w) (hR : Rt F s) (hQ : Rt F t) (hn : s.T + t.T ≤ 1000000) (hs : Sl .u32 w (.slice p (Nm.wl s.z).length c) (Nm.wl s.z)) (ht : Sl .u32 w (.slice q (Nm.wl t.z).length d) (Nm.wl t.z)) (s' : St) (hs' : s' = s.mg t) :
  Calls Tryz.prog 42 #[.agg #[.int .i64 F, .bool (Nm.wn s.z), .slice p (Nm.wl s.z).length c, .int .i64 s.T, .bool s.nn, .bool s.bd, .bool s.pl, .bool s.mi, .bool s.am], .agg #[.int .i64 F, .bool (Nm.wn t.z), .slice q (Nm.wl t.z).length d, .int .i64 t.T, .bool t.nn, .bool t.bd, .bool t.pl, .bool t.mi, .bool t.am]] w fun r w' => ∃ a' c', r = .returned (.tuple #[.agg #[.int .i64 F, .bool (Nm.wn s'.z), .slice a' (Nm.wl s'.z).length c', .int .i64 s'.T, .bool s'.nn, .bool s'.bd, .bool s'.pl, .bool s'.mi, .bool s'.am], .int .i64 0]) ∧ Own w' w.heap.size a' c' (Nm.wl s'.z) ∧ Below w.heap.size w w' := by
 subst hs'
 exact merge_impl_yes F (Nm.wn s.z) s.T s.nn s.bd s.pl s.mi s.am F (Nm.wn t.z) t.T t.nn t.bd t.pl t.mi t.am p q c d (Nm.wl s.z) (Nm.wl t.z) w hT hs ht (Nm.wl_dg _) (Nm.wl_dg _) hR hQ rfl hn (s.z + t.z) (by rw [Nm.wv_out, Nm.wv_out])
theorem mgI3 (F : Int) (s t : St) (p q : Option Addr) (c d : Nat) (w : World) (hT : Tab w) (hR : Rt F s) (hQ : Rt F t) (hn : 1000000 < s.T + t.T) (hs : Sl .u32 w (.slice p (Nm.wl s.z).length c) (Nm.wl s.z)) (ht : Sl .u32 w (.slice q (Nm.wl t.z).length d) (Nm.wl t.z)) :
  Calls Tryz.prog 42 #[.agg #[.int .i64 F, .bool (Nm.wn s.z), .slice p (Nm.wl s.z).length c, .int .i64 s.T, .bool s.nn, .bool s.bd, .bool s.pl, .bool s.mi, .bool s.am], .agg #[.int .i64 F, .bool (Nm.wn t.z), .slice q (Nm.wl t.z).length d, .int .i64 t.T, .bool t.nn, .bool t.bd, .bool t.pl, .bool t.mi, .bool t.am]] w fun r w' => r = .returned (.tuple #[.agg #[.int .i64 0, .bool false, .slice none 0 0, .int .i64 0, .bool false, .bool false, .bool false, .bool false, .bool false], .int .i64 3]) ∧ Below w.heap.size w w' := by
 exact merge_impl_no F (Nm.wn s.z) s.T s.nn s.bd s.pl s.mi s.am F (Nm.wn t.z) t.T t.nn t.bd t.pl t.mi t.am p q c d (Nm.wl s.z) (Nm.wl t.z) w hT hs ht (by have := hR.len; omega) (by have := hQ.len; omega) 3 (.inr (.inr (.inr ⟨hR, hQ, rfl, hn, rfl⟩)))
theorem ngS (F : Int) (s : St) (p : Option Addr) (c : Nat) (w : World) (hR : Rt F s) (hs : Sl .u32 w (.slice p (Nm.wl s.z).length c) (Nm.wl s.z)) (s' : St) (hs' : s' = s.ng) :
  Calls Tryz.prog 47 #[.agg #[.int .i64 F, .bool (Nm.wn s.z), .slice p (Nm.wl s.z).length c, .int .i64 s.T, .bool s.nn, .bool s.bd, .bool s.pl, .bool s.mi, .bool s.am]] w fun r w' => ∃ a' c', r = .returned (.agg #[.int .i64 F, .bool (Nm.wn s'.z), .slice a' (Nm.wl s'.z).length c', .int .i64 s'.T, .bool s'.nn, .bool s'.bd, .bool s'.pl, .bool s'.mi, .bool s'.am]) ∧ Own w' w.heap.size a' c' (Nm.wl s'.z) ∧ Below w.heap.size w w' := by
 subst hs'
 have h := neg_spec_yes F (Nm.wn s.z) s.T s.nn s.bd s.pl s.mi s.am p c (Nm.wl s.z) w hs (Nm.wl_dg _) (by have := hR.len; omega) hR
 have e := neg_l (acc_ok' hR)
 rw [e.1, e.2, Nm.wv_out] at h
 exact h
theorem ngS0 {F : Int} {ng : Bool} {zs : List Int} {T : Int} {nn bd pl mi am : Bool} (p : Option Addr) (c : Nat) (w : World) (d : zs.length ≤ 1048576) (hs : Sl .u32 w (.slice p zs.length c) zs) (hk : accB F ng zs T nn bd pl mi am = false) :
  Calls Tryz.prog 47 #[.agg #[.int .i64 F, .bool ng, .slice p zs.length c, .int .i64 T, .bool nn, .bool bd, .bool pl, .bool mi, .bool am]] w fun r w' => r = .returned (.agg #[.int .i64 0, .bool false, .slice none 0 0, .int .i64 0, .bool false, .bool false, .bool false, .bool false, .bool false]) ∧ Below w.heap.size w w' := neg_spec_no F ng T nn bd pl mi am p c zs w hs d hk
namespace Fd
theorem sameA (F : Int) (ng : Bool) (T : Int) (nn bd pl mi am : Bool) (a a' : Option Addr) (c c' : Nat) (zs : List Int) (w : World) (s1 : Sl .u32 w (.slice a zs.length c) zs) (s2 : Sl .u32 w (.slice a' zs.length c') zs) (hl : zs.length ≤ 1048576) :
  Calls Tryz.prog 35 #[.agg #[.int .i64 F, .bool ng, .slice a zs.length c, .int .i64 T, .bool nn, .bool bd, .bool pl, .bool mi, .bool am], .agg #[.int .i64 F, .bool ng, .slice a' zs.length c', .int .i64 T, .bool nn, .bool bd, .bool pl, .bool mi, .bool am]] w fun e w' => e = .returned (.bool true) ∧ Below w.heap.size w w' := by
 have bel := Below.refl w.heap.size w
 have ne_F : (F == F) = true := by simp
 have ne_T : (T == T) = true := by simp
 have ne_nn : (nn == nn) = true := by simp
 have ne_bd : (bd == bd) = true := by simp
 have ne_pl : (pl == pl) = true := by simp
 have ne_mi : (mi == mi) = true := by simp
 have ne_am : (am == am) = true := by simp
 go_enter Tryz.func35, Tryz.ntmps35
 replace s1 := s1.below (al_b _ (.cells #[.int .i64 F, .bool ng, .slice a zs.length c, .int .i64 T, .bool nn, .bool bd, .bool pl, .bool mi, .bool am] 50))
 replace s2 := s2.below (al_b _ (.cells #[.int .i64 F, .bool ng, .slice a zs.length c, .int .i64 T, .bool nn, .bool bd, .bool pl, .bool mi, .bool am] 50))
 replace bel := bel_al bel (.cells #[.int .i64 F, .bool ng, .slice a zs.length c, .int .i64 T, .bool nn, .bool bd, .bool pl, .bool mi, .bool am] 50)
 have Bp := Q9.new w (.int .i64 F) (.bool ng) (.slice a zs.length c) (.int .i64 T) (.bool nn) (.bool bd) (.bool pl) (.bool mi) (.bool am) 50
 replace s1 := s1.below (al_b _ (.cells #[.int .i64 F, .bool ng, .slice a' zs.length c', .int .i64 T, .bool nn, .bool bd, .bool pl, .bool mi, .bool am] 50))
 replace s2 := s2.below (al_b _ (.cells #[.int .i64 F, .bool ng, .slice a' zs.length c', .int .i64 T, .bool nn, .bool bd, .bool pl, .bool mi, .bool am] 50))
 replace Bp := Bp.below (al_b _ (.cells #[.int .i64 F, .bool ng, .slice a' zs.length c', .int .i64 T, .bool nn, .bool bd, .bool pl, .bool mi, .bool am] 50))
 replace bel := bel_al bel (.cells #[.int .i64 F, .bool ng, .slice a' zs.length c', .int .i64 T, .bool nn, .bool bd, .bool pl, .bool mi, .bool am] 50)
 have Br := Q9.new (w.alloc (.cells #[.int .i64 F, .bool ng, .slice a zs.length c, .int .i64 T, .bool nn, .bool bd, .bool pl, .bool mi, .bool am] 50)) (.int .i64 F) (.bool ng) (.slice a' zs.length c') (.int .i64 T) (.bool nn) (.bool bd) (.bool pl) (.bool mi) (.bool am) 50
 have hsz : (w.alloc (.cells #[.int .i64 F, .bool ng, .slice a zs.length c, .int .i64 T, .bool nn, .bool bd, .bool pl, .bool mi, .bool am] 50)).heap.size = w.heap.size + 1 := by simp
 rw [hsz] at Br
 clear hsz
 obtain ⟨kp0, kp1, kp2, kp3, kp4, kp5, kp6, kp7, kp8, -, -, -, -, -, -, -, -, -⟩ := id Bp
 obtain ⟨kr0, kr1, kr2, kr3, kr4, kr5, kr6, kr7, kr8, -, -, -, -, -, -, -, -, -⟩ := id Br
 go_wp2_with fail
 refine (same_yes ng a a' c c' zs _ s1 s2 hl).mono ?_
 rintro r w1 ⟨rfl, hb⟩
 clear kp0 kp1 kp2 kp3 kp4 kp5 kp6 kp7 kp8 kr0 kr1 kr2 kr3 kr4 kr5 kr6 kr7 kr8
 replace bel := bel_go bel hb
 replace s1 := s1.below hb
 replace s2 := s2.below hb
 replace Bp := Bp.below hb
 replace Br := Br.below hb
 clear hb
 obtain ⟨kp0, kp1, kp2, kp3, kp4, kp5, kp6, kp7, kp8, -, -, -, -, -, -, -, -, -⟩ := id Bp
 obtain ⟨kr0, kr1, kr2, kr3, kr4, kr5, kr6, kr7, kr8, -, -, -, -, -, -, -, -, -⟩ := id Br
 go_wp2
 all_goals go_ret
 all_goals exact ⟨rfl, bel⟩
theorem sl_nil (w : World) : Sl .u32 w (.slice none ([] : List Int).length 0) [] := (Own.nil w 0).sl
theorem sameZ (w : World) : Calls Tryz.prog 35 #[.agg #[.int .i64 0, .bool false, .slice none 0 0, .int .i64 0, .bool false, .bool false, .bool false, .bool false, .bool false], .agg #[.int .i64 0, .bool false, .slice none 0 0, .int .i64 0, .bool false, .bool false, .bool false, .bool false, .bool false]] w fun e w' => e = .returned (.bool true) ∧ Below w.heap.size w w' := sameA 0 false 0 false false false false false none none 0 0 [] w (sl_nil w) (sl_nil w) (by decide)
end Fd
end Go.Proofs.YtkfjmcdniohljaaGreatDoor
