/-
  What is needed of AF, AG, AH, MA.
-/
import Derived.Test.YtkfjmcdniohljaaGreatDoorF36
import Derived.Test.YtkfjmcdniohljaaGreatDoorF37
import Derived.Test.YtkfjmcdniohljaaGreatDoorF38
set_option maxHeartbeats 16000000
set_option maxRecDepth 1000000
namespace Go.Proofs.YtkfjmcdniohljaaGreatDoor
set_option linter.unusedVariables false
set_option linter.unusedSimpArgs false
open Go.RowKit Go.Deep
theorem sh_sh (m : Nat) {a b : Int} (ha : 0 ≤ a) (hb : 0 ≤ b) : Nm.sh (Nm.sh m a) b = Nm.sh m (a + b) := by
 unfold Nm.sh
 rw [if_neg (by omega), if_neg (by omega), if_neg (by omega), Nat.mul_assoc, ← Nat.pow_add]
 congr 2; omega
def tmV (fm x : Int) : Int := Nm.shV (Nm.wn (unI fm x)) (Nm.val (Nm.wl (unI fm x))) (-unQ fm)
theorem tm_eq {fm x : Int} (hf : finB fm x = true) : tmV fm x = Nm.shV (Nm.wn (if pS fm x then -pM fm x else pM fm x)) (Nm.val (Nm.wl (if pS fm x then -pM fm x else pM fm x))) (pE fm x - 2 * unQ fm) ∧ bitLen (tmV fm x).natAbs ≤ 4216 := by
 have h1 := pM_bd fm x
 have h3 := pE_q hf
 have hb := un_bits hf
 have hq : -1074 ≤ unQ fm ∧ unQ fm ≤ -149 := by unfold unQ; split <;> omega
 obtain ⟨m, hm⟩ : ∃ m : Nat, pM fm x = m := ⟨(pM fm x).toNat, by omega⟩
 have hu : unI fm x = if pS fm x then -((Nm.sh m (pE fm x - unQ fm) : Nat) : Int) else ((Nm.sh m (pE fm x - unQ fm) : Nat) : Int) := by
  unfold unI; rw [hf, if_pos rfl, hm, Int.toNat_natCast]
 rw [hm, Int.toNat_natCast] at hb
 unfold tmV
 rw [hu, sg_shift, hm, sg_shift, sh_sh m h3.1 (by omega)]
 refine ⟨by rw [show pE fm x - unQ fm + -unQ fm = pE fm x - 2 * unQ fm by omega], ?_⟩
 have e : (if pS fm x then -((Nm.sh m (pE fm x - unQ fm + -unQ fm) : Nat) : Int) else ((Nm.sh m (pE fm x - unQ fm + -unQ fm) : Nat) : Int)).natAbs = Nm.sh m (pE fm x - unQ fm + -unQ fm) := by cases pS fm x <;> simp
 rw [e, ← sh_sh m h3.1 (by omega)]
 obtain ⟨k, hk⟩ : ∃ k, k = Nm.sh m (pE fm x - unQ fm) := ⟨_, rfl⟩
 rw [← hk] at hb ⊢
 unfold Nm.sh
 rw [if_neg (by omega)]
 by_cases h0 : k = 0
 ·subst h0; rw [Nat.zero_mul]; decide
 ·rw [Nm.bl_mul h0]; omega
theorem wl_len {V : Int} (h : bitLen V.natAbs ≤ 6400) : (Nm.wl V).length ≤ 200 := by unfold Nm.wl; exact lim_len (k := 200) (by omega)
theorem adds_no (fm : Int) (ng : Bool) (T : Int) (nn bd pl mi am : Bool) (p : Option Addr) (cap : Nat) (zs : List Int) (x : Int) (w : World) (hs : Sl .u32 w (.slice p zs.length cap) zs) (hl : zs.length ≤ 1048576) (c : Int) (hc : c = tcC (accB fm ng zs T nn bd pl mi am) (okF fm x) T) (hc0 : c ≠ 0) :
  Calls Tryz.prog 34 #[.agg #[.int .i64 fm, .bool ng, .slice p zs.length cap, .int .i64 T, .bool nn, .bool bd, .bool pl, .bool mi, .bool am], .int .u64 x] w fun r w' => r = .returned (.tuple #[A0, .int .i64 c]) ∧ Below w.heap.size w w' := by
 have C1 := hid (fun w' h => accok_spec fm ng T nn bd pl mi am p cap zs w' h hl)
 have C2 := hid (fun w' => spec_ok fm x w')
 have A := (Q9.new w (.int .i64 fm) (.bool ng) (.slice p zs.length cap) (.int .i64 T) (.bool nn) (.bool bd) (.bool pl) (.bool mi) (.bool am) 50).alloc (.cells #[.int .i64 0, .bool false, .slice none 0 0, .int .i64 0, .bool false, .bool false, .bool false, .bool false, .bool false] 50)
 have R := Q9.nw2b w (.cells #[.int .i64 fm, .bool ng, .slice p zs.length cap, .int .i64 T, .bool nn, .bool bd, .bool pl, .bool mi, .bool am] 50) (.int .i64 0) (.bool false) (.slice none 0 0) (.int .i64 0) (.bool false) (.bool false) (.bool false) (.bool false) (.bool false) 50
 have bel0 : Below w.heap.size w ((w.alloc (.cells #[.int .i64 fm, .bool ng, .slice p zs.length cap, .int .i64 T, .bool nn, .bool bd, .bool pl, .bool mi, .bool am] 50)).alloc (.cells #[.int .i64 0, .bool false, .slice none 0 0, .int .i64 0, .bool false, .bool false, .bool false, .bool false, .bool false] 50)) := (by repeat (first | exact bz0 _ _ | refine bz1 ?_ | refine bz2 ?_ _ | refine bz3 ?_ _ | refine bz5 ?_ _ | refine bz6 ?_ _))
 unfold tcC at hc
 cases h1 : accB fm ng zs T nn bd pl mi am
 ·rw [h1] at C1 hc
  have hc' : c = 1 := hc
  subst hc'
  clear hc h1 hc0
  go_enter Tryz.func34, Tryz.ntmps34
  go_wp2_with fail
  refine (C1.out _ (hs.below bel0)).mono ?_
  rintro r w1 ⟨rfl, hb1⟩
  obtain ⟨r0, r1, r2, r3, r4, r5, r6, r7, r8, g0, g1, g2, g3, g4, g5, g6, g7, g8⟩ := R.below hb1
  have bel1 := bel_go bel0 hb1
  go_wp2
  refine bodyPost_ret (v := .tuple #[A0, .int .i64 1]) (by simp [results, Tryz.results34, go_sem, r0, r1, r2, r3, r4, r5, r6, r7, r8, A0]) rfl ⟨rfl, ?_⟩
  exact (by (repeat with_reducible first | refine Below.setCell ?_ ?_ _ | exact bz0 _ _ | refine bz1 ?_ | refine bz2 ?_ _ | refine bz3 ?_ _ | refine bz4 ?_ bel1 | refine Below.alloc ?_ ?_ _ | refine Below.trans ?_ (Below.mono bel1 ?_)) <;> first | omega | (simp; done) | (simp; omega))
 rw [h1] at C1 hc
 cases h2 : okF fm x
 ·rw [h2] at C2 hc
  have hc' : c = 2 := hc
  subst hc'
  clear hc h1 h2 hc0
  go_enter Tryz.func34, Tryz.ntmps34
  go_wp2_with fail
  refine (C1.out _ (hs.below bel0)).mono ?_
  rintro r w1 ⟨rfl, hb1⟩
  have c0 := (A.below hb1).c0
  go_wp2_with fail
  refine (C2.out _).mono ?_
  rintro r w2 ⟨rfl, hb2⟩
  obtain ⟨r0, r1, r2, r3, r4, r5, r6, r7, r8, g0, g1, g2, g3, g4, g5, g6, g7, g8⟩ := (R.below hb1).below hb2
  have bel1 := bel_go (bel_go bel0 hb1) hb2
  go_wp2
  refine bodyPost_ret (v := .tuple #[A0, .int .i64 2]) (by simp [results, Tryz.results34, go_sem, r0, r1, r2, r3, r4, r5, r6, r7, r8, A0]) rfl ⟨rfl, ?_⟩
  exact (by (repeat with_reducible first | refine Below.setCell ?_ ?_ _ | exact bz0 _ _ | refine bz1 ?_ | refine bz2 ?_ _ | refine bz3 ?_ _ | refine bz4 ?_ bel1 | refine Below.alloc ?_ ?_ _ | refine Below.trans ?_ (Below.mono bel1 ?_)) <;> first | omega | (simp; done) | (simp; omega))
 rw [h2] at C2 hc
 by_cases h3 : T = 1000000
 ·have hc' : c = 3 := by rw [hc, if_pos rfl, if_pos rfl, if_pos h3]
  subst hc' h3
  clear hc h1 h2 hc0
  go_enter Tryz.func34, Tryz.ntmps34
  go_wp2_with fail
  refine (C1.out _ (hs.below bel0)).mono ?_
  rintro r w1 ⟨rfl, hb1⟩
  have c0 := (A.below hb1).c0
  go_wp2_with fail
  refine (C2.out _).mono ?_
  rintro r w2 ⟨rfl, hb2⟩
  have c3 := ((A.below hb1).below hb2).c3
  obtain ⟨r0, r1, r2, r3, r4, r5, r6, r7, r8, g0, g1, g2, g3, g4, g5, g6, g7, g8⟩ := (R.below hb1).below hb2
  have bel1 := bel_go (bel_go bel0 hb1) hb2
  go_wp2
  refine bodyPost_ret (v := .tuple #[A0, .int .i64 3]) (by simp [results, Tryz.results34, go_sem, r0, r1, r2, r3, r4, r5, r6, r7, r8, A0]) rfl ⟨rfl, ?_⟩
  exact (by (repeat with_reducible first | refine Below.setCell ?_ ?_ _ | exact bz0 _ _ | refine bz1 ?_ | refine bz2 ?_ _ | refine bz3 ?_ _ | refine bz4 ?_ bel1 | refine Below.alloc ?_ ?_ _ | refine Below.trans ?_ (Below.mono bel1 ?_)) <;> first | omega | (simp; done) | (simp; omega))
 ·exact absurd (by rw [hc, if_pos rfl, if_pos rfl, if_neg h3]) hc0
theorem nan_of {fm x : Int} (h : okF fm x = true) : nanB fm x = (decide (cls fm x = 4) || decide (cls fm x = 5)) := by
 cases hn : nanB fm x
 ·have := cls_num h hn
  rw [decide_eq_false (by omega), decide_eq_false (by omega)]; rfl
 ·rcases cls_nan h hn with e | e
  ·rw [decide_eq_true e]; rfl
  ·rw [decide_eq_true e]; simp
theorem len_zero {fm x : Int} (hx : okF fm x = true) (hf : finB fm x = true) : (absF fm x == 0) = decide ((Nm.wl (if pS fm x then -pM fm x else pM fm x)).length = 0) := by
 have hM := pM_bd fm x
 have e : ((Nm.wl (if pS fm x then -pM fm x else pM fm x)).length = 0) ↔ pM fm x = 0 := by
  unfold Nm.wl
  rw [Nm.lim_length_zero]
  cases pS fm x <;> simp <;> omega
 rw [← cls_zero hx, Bool.eq_iff_iff, beq_iff_eq, decide_eq_true_eq, e]
 constructor
 ·intro h
  have ha : (absF fm x == 0) = true := by rw [← cls_zero hx, h]; rfl
  have ha' : absF fm x = 0 := by simpa using ha
  unfold pM; rw [hf, if_pos rfl]
  rcases okF_cases hx with ⟨rfl, hx'⟩ | rfl
  ·rw [abs32 hx'] at ha'
   rw [if_pos rfl, ha']; rfl
  ·rw [abs64] at ha'
   rw [if_neg (by decide), ha']; rfl
 ·intro h
  have hc : 0 ≤ cls fm x ∧ cls fm x ≤ 2 := by simpa [finB] using hf
  by_cases h12 : cls fm x = 1 ∨ cls fm x = 2
  ·have := (pM_pos h12).2; omega
  ·omega
structure Tm where
 v : Int
 nan : Bool
 bad : Bool
 plus : Bool
 minus : Bool
 zm : Bool
structure St where
 z : Int
 T : Int
 nn : Bool
 bd : Bool
 pl : Bool
 mi : Bool
 am : Bool
def St.add (s : St) (t : Tm) : St := ⟨s.z + t.v, s.T + 1, s.nn || t.nan, s.bd || t.bad, s.pl || t.plus, s.mi || t.minus, t.zm && (s.am || decide (s.T = 0))⟩
def tmF (fm x : Int) : Tm := if finB fm x then ⟨tmV fm x, false, false, false, false, (absF fm x == 0) && sigB fm x⟩ else ⟨0, nanB fm x, cls fm x == 5, !nanB fm x && !sigB fm x, !nanB fm x && sigB fm x, false⟩
def Rt (fm : Int) (s : St) : Prop := accB fm (Nm.wn s.z) (Nm.wl s.z) s.T s.nn s.bd s.pl s.mi s.am = true
structure TmOk (fm : Int) (t : Tm) : Prop where
 v : t.v.natAbs ≤ far fm 1
 bn : t.bad = true → t.nan = true
 z : t.zm = true → t.v = 0 ∧ t.nan = false ∧ t.bad = false ∧ t.plus = false ∧ t.minus = false
def farE (fm : Int) : Nat := if fm = 32 then 554 else 4196
theorem far_eq (fm T : Int) : far fm T = T.toNat * 2 ^ farE fm := by
 unfold far Nm.sh farE
 by_cases h : fm = 32
 ·have e : (554 : Int).toNat = 554 := rfl
  rw [if_pos h, if_pos h, if_neg (by decide), e]
 ·have e : (4196 : Int).toNat = 4196 := rfl
  rw [if_neg h, if_neg h, if_neg (by decide), e]
theorem far_add (fm : Int) {T : Int} (h : 0 ≤ T) : far fm T + far fm 1 = far fm (T + 1) := by
 rw [far_eq, far_eq, far_eq, ← Nat.add_mul]
 congr 1; omega
theorem Rt.le {fm : Int} {s : St} (h : Rt fm s) : s.z.natAbs ≤ far fm s.T ∧ 0 ≤ s.T ∧ s.T ≤ 1000000 := by
 have h1 := acc_val (Nm.wl_dg _) h
 rw [Nm.val_wl] at h1
 have h2 := mkB_T (acc_parts h).2.1
 exact ⟨by simpa using h1, h2⟩
theorem Rt.mk {fm : Int} {s : St} (hf : fmtB fm = true) (hm : mkB s.T s.nn s.bd s.pl s.mi s.am = true) (hz : s.z.natAbs ≤ far fm s.T) (ha : s.am = true → s.z = 0) : Rt fm s := by
 have ht := mkB_T hm
 have hb := Nm.bl_mono hz
 have hb2 := far_bl fm ht.2
 have hl : (Nm.wl s.z).length ≤ 200 := wl_len (by omega)
 have hc : cmpL (Nm.wl s.z) (Nm.lim (far fm s.T)) ≤ 0 := by
  have h := (cmpL_val (Nm.wl_dg s.z) (Nm.lim_dg (far fm s.T)) (Nm.wl_nz s.z) (Nm.lim_nz _)).2
  have hr := cmpL_rng (Nm.wl s.z) (Nm.lim (far fm s.T))
  rw [Nm.lim_val, Nm.val_wl] at h
  have : ¬ 0 < cmpL (Nm.wl s.z) (Nm.lim (far fm s.T)) := fun h0 => by
   have := h.1 (by omega); omega
  omega
 have hz0 : (!s.am || decide ((Nm.wl s.z).length = 0)) = true := by
  cases e : s.am
  ·rfl
  ·rw [ha e]; have : Nm.wl 0 = [] := Nm.lim_zero
   rw [this]; rfl
 unfold Rt accB
 rw [hf, hm, okB_wl hl, decide_eq_true hc, hz0]; rfl
theorem Rt.zero {fm : Int} {s : St} (h : Rt fm s) : (s.am = true ∨ s.T = 0) → s.z = 0 ∧ s.nn = false ∧ s.bd = false ∧ s.pl = false ∧ s.mi = false := by
 intro hh
 have hl := h.le
 have hm := (acc_parts h).2.1
 unfold mkB at hm
 have hr := h
 unfold Rt accB at hr
 simp only [Bool.and_eq_true] at hr
 rcases hh with e | e
 ·rw [e] at hm hr
  have hz : s.z = 0 := by
   have := hr.2
   simp only [Bool.not_true, Bool.false_or, decide_eq_true_eq] at this
   unfold Nm.wl at this
   rw [Nm.lim_length_zero] at this
   omega
  refine ⟨hz, ?_⟩
  revert hm
  cases s.nn <;> cases s.bd <;> cases s.pl <;> cases s.mi <;> simp
 ·have hz : s.z = 0 := by
   have := hl.1
   rw [e] at this
   have e0 : far fm 0 = 0 := by rw [far_eq]; exact Nat.zero_mul _
   omega
  rw [e] at hm
  refine ⟨hz, ?_⟩
  revert hm
  cases s.nn <;> cases s.bd <;> cases s.pl <;> cases s.mi <;> simp
theorem Rt.add {fm : Int} {s : St} (h : Rt fm s) {t : Tm} (ht : TmOk fm t) (hT : s.T ≠ 1000000) : Rt fm (s.add t) := by
 obtain ⟨hl, h0, h1⟩ := h.le
 obtain ⟨hf, hm, -, -⟩ := acc_parts h
 have hv := ht.v
 refine Rt.mk hf ?_ ?_ ?_
 ·have hz := h.zero
  have hbn := ht.bn
  have htz := ht.z
  show mkB (s.T + 1) (s.nn || t.nan) (s.bd || t.bad) (s.pl || t.plus) (s.mi || t.minus) (t.zm && (s.am || decide (s.T = 0))) = true
  unfold mkB at hm ⊢
  rw [decide_eq_true (show 0 ≤ s.T + 1 by omega), decide_eq_true (show s.T + 1 ≤ 1000000 by omega), decide_eq_false (show ¬ s.T + 1 = 0 by omega)]
  have hbd : s.bd = true → s.nn = true := by
   intro e; rw [e] at hm; revert hm; cases s.nn <;> simp
  by_cases hz' : t.zm = true ∧ (s.am = true ∨ s.T = 0)
  ·obtain ⟨_, e1, e2, e3, e4⟩ := hz hz'.2
   obtain ⟨_, e5, e6, e7, e8⟩ := htz hz'.1
   rw [e1, e2, e3, e4, e5, e6, e7, e8]; simp
  ·have : (t.zm && (s.am || decide (s.T = 0))) = false := by
    rw [Bool.eq_false_iff]; intro e; apply hz'
    simpa using e
   rw [this]
   revert hbd hbn
   cases s.nn <;> cases s.bd <;> cases t.nan <;> cases t.bad <;> simp
 ·show (s.z + t.v).natAbs ≤ far fm (s.T + 1)
  rw [← far_add fm h0]; omega
 ·intro e
  have e' : (t.zm && (s.am || decide (s.T = 0))) = true := e
  simp only [Bool.and_eq_true, Bool.or_eq_true, decide_eq_true_eq] at e'
  have h3 := (h.zero e'.2).1
  have h4 := (ht.z e'.1).1
  show s.z + t.v = 0
  omega
theorem un_blf {fm x : Int} (hf : finB fm x = true) : bitLen (Nm.sh (pM fm x).toNat (pE fm x - unQ fm)) ≤ (if fm = 32 then 277 else 2098) := by
 have hx : okF fm x = true := by
  cases ho : okF fm x
  ·rw [fin_no ho] at hf; cases hf
  ·rfl
 have hlt := fin_lt hx
 rw [hf] at hlt
 have hlt' := of_decide_eq_true hlt.symm
 have h1 := Nm.bl_sh (pM fm x).toNat (pE fm x - unQ fm)
 rcases okF_cases hx with ⟨rfl, hx'⟩ | rfl
 ·rw [if_pos rfl]
  rw [abs32 hx'] at hlt'
  unfold infOf at hlt'; rw [if_pos rfl] at hlt'
  have hM : pM 32 x < 16777216 := by
   unfold pM; rw [hf, if_pos rfl, if_pos rfl]; unfold parM; split <;> omega
  have hE : pE 32 x - unQ 32 ≤ 253 := by
   unfold pE unQ; rw [hf, if_pos rfl, if_pos rfl, if_pos rfl]; unfold parE; split <;> omega
  have h0 := (pM_bd 32 x).1
  have h2 := (Nm.bl_le_iff (pM 32 x).toNat 24).2 (by omega)
  omega
 ·rw [if_neg (by decide)]
  rw [abs64] at hlt'
  unfold infOf at hlt'; rw [if_neg (by decide)] at hlt'
  have hE : pE 64 x - unQ 64 ≤ 2045 := by
   unfold pE unQ; rw [hf, if_pos rfl, if_neg (by decide), if_neg (by decide)]; unfold parE; split <;> omega
  have h0 := pM_bd 64 x
  have h2 := (Nm.bl_le_iff (pM 64 x).toNat 53).2 (by omega)
  omega
theorem tm_abs {fm x : Int} (hf : finB fm x = true) : (tmV fm x).natAbs = Nm.sh (Nm.sh (pM fm x).toNat (pE fm x - unQ fm)) (-unQ fm) := by
 obtain ⟨m, hm⟩ : ∃ m : Nat, pM fm x = m := ⟨(pM fm x).toNat, by have := (pM_bd fm x).1; omega⟩
 have hu : unI fm x = if pS fm x then -((Nm.sh m (pE fm x - unQ fm) : Nat) : Int) else ((Nm.sh m (pE fm x - unQ fm) : Nat) : Int) := by
  unfold unI; rw [hf, if_pos rfl, hm, Int.toNat_natCast]
 unfold tmV
 rw [hu, sg_shift, hm, Int.toNat_natCast]
 cases pS fm x <;> simp
theorem tm_ok {fm x : Int} (hx : okF fm x = true) : TmOk fm (tmF fm x) := by
 cases hf : finB fm x
 ·have e : tmF fm x = ⟨0, nanB fm x, cls fm x == 5, !nanB fm x && !sigB fm x, !nanB fm x && sigB fm x, false⟩ := by unfold tmF; rw [hf]; rfl
  rw [e]
  refine ⟨by simp, fun h => ?_, fun h => by cases h⟩
  show nanB fm x = true
  have h5 : cls fm x = 5 := by simpa using h
  rw [nan_of hx, h5]; decide
 ·have e : tmF fm x = ⟨tmV fm x, false, false, false, false, (absF fm x == 0) && sigB fm x⟩ := by unfold tmF; rw [hf]; rfl
  rw [e]
  have hb := un_blf hf
  have hq : unQ fm ≤ 0 ∧ (if fm = 32 then (277 : Nat) else 2098) + (-unQ fm).toNat ≤ farE fm := by unfold unQ farE; split <;> simp
  refine ⟨?_, (fun h => by cases h), (fun h => ⟨?_, rfl, rfl, rfl, rfl⟩)⟩
  ·show (tmV fm x).natAbs ≤ far fm 1
   rw [tm_abs hf]
   have h1 := Nm.bl_sh (Nm.sh (pM fm x).toNat (pE fm x - unQ fm)) (-unQ fm)
   have h2 : bitLen (Nm.sh (Nm.sh (pM fm x).toNat (pE fm x - unQ fm)) (-unQ fm)) ≤ farE fm := by omega
   have h3 := (Nm.bl_le_iff _ _).1 h2
   rw [far_eq, show (1 : Int).toNat = 1 from rfl, Nat.one_mul]
   exact Nat.le_of_lt h3
  ·show tmV fm x = 0
   have hz : (absF fm x == 0) = true := by
    have h' : ((absF fm x == 0) && sigB fm x) = true := h
    revert h'; cases (absF fm x == 0) <;> simp
   have hl := len_zero hx hf
   rw [hz] at hl
   have hl' := of_decide_eq_true hl.symm
   have hM : (pM fm x).toNat = 0 := by
    unfold Nm.wl at hl'
    rw [Nm.lim_length_zero] at hl'
    revert hl'; cases pS fm x <;> simp <;> omega
   have ha := tm_abs hf
   rw [hM] at ha
   have e0 : ∀ n, Nm.sh 0 n = 0 := by intro n; unfold Nm.sh; split <;> simp
   rw [e0, e0] at ha
   omega
theorem accS (fm : Int) (s : St) (x : Int) (p : Option Addr) (cap : Nat) (w : World) (hR : Rt fm s) (hx : okF fm x = true) (x0 : 0 ≤ x) (x1 : x < 18446744073709551616) (hT : s.T ≠ 1000000) (hs : Sl .u32 w (.slice p (Nm.wl s.z).length cap) (Nm.wl s.z)) (s' : St) (hs' : s' = s.add (tmF fm x)) :
  Calls Tryz.prog 34 #[.agg #[.int .i64 fm, .bool (Nm.wn s.z), .slice p (Nm.wl s.z).length cap, .int .i64 s.T, .bool s.nn, .bool s.bd, .bool s.pl, .bool s.mi, .bool s.am], .int .u64 x] w fun r w' => ∃ a' c', r = .returned (.tuple #[.agg #[.int .i64 fm, .bool (Nm.wn s'.z), .slice a' (Nm.wl s'.z).length c', .int .i64 s'.T, .bool s'.nn, .bool s'.bd, .bool s'.pl, .bool s'.mi, .bool s'.am], .int .i64 0]) ∧ Own w' w.heap.size a' c' (Nm.wl s'.z) ∧ Below w.heap.size w w' := by
 subst hs'
 have hwv := Nm.wv_out s.z
 cases hf : finB fm x
 ·have e : tmF fm x = ⟨0, nanB fm x, cls fm x == 5, !nanB fm x && !sigB fm x, !nanB fm x && sigB fm x, false⟩ := by unfold tmF; rw [hf]; rfl
  rw [e]
  have h := add_spec_odd fm (Nm.wn s.z) s.T s.nn s.bd s.pl s.mi s.am p cap (Nm.wl s.z) x w hs (Nm.wl_dg _) hR hx x0 x1 hT hf _ _ _ _ rfl rfl rfl rfl
  simpa [St.add] using h
 ·have e : tmF fm x = ⟨tmV fm x, false, false, false, false, (absF fm x == 0) && sigB fm x⟩ := by unfold tmF; rw [hf]; rfl
  rw [e]
  have hb := (tm_eq hf).2
  have hl := wl_len (V := tmV fm x) (by omega)
  have h := add_spec_fin fm (Nm.wn s.z) s.T s.nn s.bd s.pl s.mi s.am p cap (Nm.wl s.z) x w hs (Nm.wl_dg _) hR hx x0 x1 hT hf (tmV fm x) rfl hl (s.z + tmV fm x) (by rw [hwv])
  simpa [St.add] using h
def tpV (fm x y : Int) : Int := nZ fm x * nZ fm y * 2 ^ (nE fm x + nE fm y - 2 * unQ fm).toNat
def oddX (fm x y : Int) : Bool := (nI fm x || nI fm y) && (zF fm x || zF fm y)
def tmM (fm x y : Int) : Tm := if nanB fm x || nanB fm y || oddX fm x y then ⟨0, true, nB fm x || nB fm y || oddX fm x y, false, false, false⟩ else if nI fm x || nI fm y then ⟨0, false, false, !(sigB fm x != sigB fm y), sigB fm x != sigB fm y, false⟩ else ⟨tpV fm x y, false, false, false, false, decide (nZ fm x * nZ fm y = 0) && (sigB fm x != sigB fm y)⟩
theorem odd_nan {fm x y : Int} (hx : okF fm x = true) (hy : okF fm y = true) : (nB fm x || nB fm y || oddX fm x y) = true → (nanB fm x || nanB fm y || oddX fm x y) = true := by
 intro h
 have key : ∀ z, okF fm z = true → nB fm z = true → nanB fm z = true := fun z hz hb => by
  have h5 : cls fm z = 5 := by simpa [nB] using hb
  rw [nan_ofE hz, h5]; decide
 cases ho : oddX fm x y
 ·rw [ho, Bool.or_false] at h
  cases hbx : nB fm x
  ·rw [hbx, Bool.false_or] at h; rw [key y hy h]; simp
  ·rw [key x hx hbx]; simp
 ·simp
theorem nE_q {fm x : Int} (hx : okF fm x = true) (hf : finB fm x = true) : 0 ≤ nE fm x - unQ fm ∧ bitLen (nZ fm x * 2 ^ (nE fm x - unQ fm).toNat).natAbs ≤ (if fm = 32 then 277 else 2098) := by
 obtain ⟨f1, f2, f3, f4, f5, f6⟩ := fin_facts hx hf
 have hq := pE_q hf
 rw [f4]
 refine ⟨hq.1, ?_⟩
 have h := un_blf hf
 have e : (nZ fm x * 2 ^ (pE fm x - unQ fm).toNat).natAbs = Nm.sh (pM fm x).toNat (pE fm x - unQ fm) := by
  unfold Nm.sh
  rw [if_neg (by omega), Int.natAbs_mul, Int.natAbs_pow, f3]
  congr 1
  have := (pM_bd fm x).1
  cases pS fm x <;> simp <;> omega
 rw [e]; exact h
theorem bl_mul2 (a b : Nat) : bitLen (a * b) ≤ bitLen a + bitLen b := by
 rw [Nm.bl_le_iff, Nat.pow_add]
 have h1 := (Nm.bl_le_iff a (bitLen a)).1 (Nat.le_refl _)
 have h2 := (Nm.bl_le_iff b (bitLen b)).1 (Nat.le_refl _)
 exact Nat.mul_lt_mul'' h1 h2
theorem tp_eq {fm x y : Int} (hx : okF fm x = true) (hy : okF fm y = true) (fx : finB fm x = true) (fy : finB fm y = true) : tpV fm x y = (nZ fm x * 2 ^ (nE fm x - unQ fm).toNat) * (nZ fm y * 2 ^ (nE fm y - unQ fm).toNat) ∧ 0 ≤ nE fm x + nE fm y - 2 * unQ fm ∧ bitLen (tpV fm x y).natAbs ≤ farE fm := by
 have qx := nE_q hx fx
 have qy := nE_q hy fy
 have e : tpV fm x y = (nZ fm x * 2 ^ (nE fm x - unQ fm).toNat) * (nZ fm y * 2 ^ (nE fm y - unQ fm).toNat) := by
  unfold tpV
  rw [show (nE fm x + nE fm y - 2 * unQ fm).toNat = (nE fm x - unQ fm).toNat + (nE fm y - unQ fm).toNat by omega, Int.pow_add]
  simp only [Int.mul_assoc, Int.mul_left_comm]
 refine ⟨e, by omega, ?_⟩
 rw [e, Int.natAbs_mul]
 have h := bl_mul2 (nZ fm x * 2 ^ (nE fm x - unQ fm).toNat).natAbs (nZ fm y * 2 ^ (nE fm y - unQ fm).toNat).natAbs
 have hx2 := qx.2
 have hy2 := qy.2
 unfold farE
 by_cases h32 : fm = 32
 ·rw [if_pos h32] at hx2 hy2 ⊢; omega
 ·rw [if_neg h32] at hx2 hy2 ⊢; omega
theorem tmM_ok {fm x y : Int} (hx : okF fm x = true) (hy : okF fm y = true) : TmOk fm (tmM fm x y) := by
 unfold tmM
 cases hn : (nanB fm x || nanB fm y || oddX fm x y)
 ·rw [if_neg (by decide)]
  cases hi : (nI fm x || nI fm y)
  ·rw [if_neg (by decide)]
   obtain ⟨⟨nx, ny⟩, -⟩ : (nanB fm x = false ∧ nanB fm y = false) ∧ oddX fm x y = false := by simpa [Bool.or_eq_false_iff] using hn
   obtain ⟨ix, iy⟩ : nI fm x = false ∧ nI fm y = false := by simpa using hi
   have fx := (nan_cases hx nx).resolve_right (by rw [ix]; decide)
   have fy := (nan_cases hy ny).resolve_right (by rw [iy]; decide)
   obtain ⟨-, -, hb⟩ := tp_eq hx hy fx fy
   refine ⟨?_, (fun h => by cases h), (fun h => ⟨?_, rfl, rfl, rfl, rfl⟩)⟩
   ·show (tpV fm x y).natAbs ≤ far fm 1
    rw [far_eq, show (1 : Int).toNat = 1 from rfl, Nat.one_mul]
    exact Nat.le_of_lt ((Nm.bl_le_iff _ _).1 hb)
   ·show tpV fm x y = 0
    have h' : (decide (nZ fm x * nZ fm y = 0) && (sigB fm x != sigB fm y)) = true := h
    rw [Bool.and_eq_true] at h'
    unfold tpV; rw [of_decide_eq_true h'.1, Int.zero_mul]
  ·rw [if_pos rfl]
   exact ⟨by simp, (fun h => by cases h), (fun h => by cases h)⟩
 ·rw [if_pos rfl]
  refine ⟨by simp, (fun h => ?_), (fun h => by cases h)⟩
  rfl
end Go.Proofs.YtkfjmcdniohljaaGreatDoor
