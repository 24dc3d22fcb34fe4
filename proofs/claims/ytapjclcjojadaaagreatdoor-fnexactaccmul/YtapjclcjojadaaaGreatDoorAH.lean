/-
  One term more, a float, by both: told by what the accumulator is, and by what the float is as a term.
-/
import Derived.Test.YtapjclcjojadaaaGreatDoorAG
namespace Go.Proofs.YtapjclcjojadaaaGreatDoor
set_option linter.unusedVariables false
set_option linter.unusedSimpArgs false
open Go.RowKit Go.Deep
/-- A term: its value in 2 to the 2 Q; a NaN, invalid, infinity above and below 0; a zero below 0. -/
structure Tm where
  v : Int
  nan : Bool
  bad : Bool
  plus : Bool
  minus : Bool
  zm : Bool
/-- What an accumulator holds beside its format. -/
structure St where
  z : Int
  T : Int
  nn : Bool
  bd : Bool
  pl : Bool
  mi : Bool
  am : Bool
def St.add (s : St) (t : Tm) : St := ⟨s.z + t.v, s.T + 1, s.nn || t.nan, s.bd || t.bad, s.pl || t.plus, s.mi || t.minus, t.zm && (s.am || decide (s.T = 0))⟩
def tmF (fm x : Int) : Tm := if finB fm x then ⟨tmV fm x, false, false, false, false, (absF fm x == 0) && sigB fm x⟩ else ⟨0, nanB fm x, cls fm x == 5, !nanB fm x && !sigB fm x, !nanB fm x && sigB fm x, false⟩
def Rt (fm : Int) (s : St) : Prop := accB fm (Nm.wn s.z) (Nm.wl s.z) s.T s.nn s.bd s.pl s.mi s.am = true
structure TmOk (fm : Int) (t : Tm) : Prop where
  v : t.v.natAbs ≤ far fm 1
  bn : t.bad = true → t.nan = true
  z : t.zm = true → t.v = 0 ∧ t.nan = false ∧ t.bad = false ∧ t.plus = false ∧ t.minus = false
def farE (fm : Int) : Nat := if fm = 32 then 554 else 4196
theorem far_eq (fm T : Int) : far fm T = T.toNat * 2 ^ farE fm := by
  unfold far Nm.sh farE
  by_cases h : fm = 32
  · have e : (554 : Int).toNat = 554 := rfl
    rw [if_pos h, if_pos h, if_neg (by decide), e]
  · have e : (4196 : Int).toNat = 4196 := rfl
    rw [if_neg h, if_neg h, if_neg (by decide), e]
theorem far_add (fm : Int) {T : Int} (h : 0 ≤ T) : far fm T + far fm 1 = far fm (T + 1) := by
  rw [far_eq, far_eq, far_eq, ← Nat.add_mul]
  congr 1; omega
theorem Rt.le {fm : Int} {s : St} (h : Rt fm s) : s.z.natAbs ≤ far fm s.T ∧ 0 ≤ s.T ∧ s.T ≤ 1000000 := by
  have h1 := acc_val (Nm.wl_dg _) h
  rw [Nm.val_wl] at h1
  have h2 := mkB_T (acc_parts h).2.1
  exact ⟨by simpa using h1, h2⟩
theorem Rt.mk {fm : Int} {s : St} (hf : fmtB fm = true) (hm : mkB s.T s.nn s.bd s.pl s.mi s.am = true) (hz : s.z.natAbs ≤ far fm s.T) (ha : s.am = true → s.z = 0) : Rt fm s := by
  have ht := mkB_T hm
  have hb := Nm.bl_mono hz
  have hb2 := far_bl fm ht.2
  have hl : (Nm.wl s.z).length ≤ 200 := wl_len (by omega)
  have hc : cmpL (Nm.wl s.z) (Nm.lim (far fm s.T)) ≤ 0 := by
    have h := (cmpL_val (Nm.wl_dg s.z) (Nm.lim_dg (far fm s.T)) (Nm.wl_nz s.z) (Nm.lim_nz _)).2
    have hr := cmpL_rng (Nm.wl s.z) (Nm.lim (far fm s.T))
    rw [Nm.lim_val, Nm.val_wl] at h
    have : ¬ 0 < cmpL (Nm.wl s.z) (Nm.lim (far fm s.T)) := fun h0 => by
      have := h.1 (by omega); omega
    omega
  have hz0 : (!s.am || decide ((Nm.wl s.z).length = 0)) = true := by
    cases e : s.am
    · rfl
    · rw [ha e]; have : Nm.wl 0 = [] := Nm.lim_zero
      rw [this]; rfl
  unfold Rt accB
  rw [hf, hm, okB_wl hl, decide_eq_true hc, hz0]; rfl
theorem Rt.zero {fm : Int} {s : St} (h : Rt fm s) : (s.am = true ∨ s.T = 0) → s.z = 0 ∧ s.nn = false ∧ s.bd = false ∧ s.pl = false ∧ s.mi = false := by
  intro hh
  have hl := h.le
  have hm := (acc_parts h).2.1
  unfold mkB at hm
  have hr := h
  unfold Rt accB at hr
  simp only [Bool.and_eq_true] at hr
  rcases hh with e | e
  · rw [e] at hm hr
    have hz : s.z = 0 := by
      have := hr.2
      simp only [Bool.not_true, Bool.false_or, decide_eq_true_eq] at this
      unfold Nm.wl at this
      rw [Nm.lim_length_zero] at this
      omega
    refine ⟨hz, ?_⟩
    revert hm
    cases s.nn <;> cases s.bd <;> cases s.pl <;> cases s.mi <;> simp
  · have hz : s.z = 0 := by
      have := hl.1
      rw [e] at this
      have e0 : far fm 0 = 0 := by rw [far_eq]; exact Nat.zero_mul _
      omega
    rw [e] at hm
    refine ⟨hz, ?_⟩
    revert hm
    cases s.nn <;> cases s.bd <;> cases s.pl <;> cases s.mi <;> simp
theorem Rt.add {fm : Int} {s : St} (h : Rt fm s) {t : Tm} (ht : TmOk fm t) (hT : s.T ≠ 1000000) : Rt fm (s.add t) := by
  obtain ⟨hl, h0, h1⟩ := h.le
  obtain ⟨hf, hm, -, -⟩ := acc_parts h
  have hv := ht.v
  refine Rt.mk hf ?_ ?_ ?_
  · have hz := h.zero
    have hbn := ht.bn
    have htz := ht.z
    show mkB (s.T + 1) (s.nn || t.nan) (s.bd || t.bad) (s.pl || t.plus) (s.mi || t.minus) (t.zm && (s.am || decide (s.T = 0))) = true
    unfold mkB at hm ⊢
    rw [decide_eq_true (show 0 ≤ s.T + 1 by omega), decide_eq_true (show s.T + 1 ≤ 1000000 by omega), decide_eq_false (show ¬ s.T + 1 = 0 by omega)]
    have hbd : s.bd = true → s.nn = true := by
      intro e; rw [e] at hm; revert hm; cases s.nn <;> simp
    by_cases hz' : t.zm = true ∧ (s.am = true ∨ s.T = 0)
    · obtain ⟨_, e1, e2, e3, e4⟩ := hz hz'.2
      obtain ⟨_, e5, e6, e7, e8⟩ := htz hz'.1
      rw [e1, e2, e3, e4, e5, e6, e7, e8]; simp
    · have : (t.zm && (s.am || decide (s.T = 0))) = false := by
        rw [Bool.eq_false_iff]; intro e; apply hz'
        simpa using e
      rw [this]
      revert hbd hbn
      cases s.nn <;> cases s.bd <;> cases t.nan <;> cases t.bad <;> simp
  · show (s.z + t.v).natAbs ≤ far fm (s.T + 1)
    rw [← far_add fm h0]; omega
  · intro e
    have e' : (t.zm && (s.am || decide (s.T = 0))) = true := e
    simp only [Bool.and_eq_true, Bool.or_eq_true, decide_eq_true_eq] at e'
    have h3 := (h.zero e'.2).1
    have h4 := (ht.z e'.1).1
    show s.z + t.v = 0
    omega
theorem un_blf {fm x : Int} (hf : finB fm x = true) : bitLen (Nm.sh (pM fm x).toNat (pE fm x - unQ fm)) ≤ (if fm = 32 then 277 else 2098) := by
  have hx : okF fm x = true := by
    cases ho : okF fm x
    · rw [fin_no ho] at hf; cases hf
    · rfl
  have hlt := fin_lt hx
  rw [hf] at hlt
  have hlt' := of_decide_eq_true hlt.symm
  have h1 := Nm.bl_sh (pM fm x).toNat (pE fm x - unQ fm)
  rcases okF_cases hx with ⟨rfl, hx'⟩ | rfl
  · rw [if_pos rfl]
    rw [abs32 hx'] at hlt'
    unfold infOf at hlt'; rw [if_pos rfl] at hlt'
    have hM : pM 32 x < 16777216 := by
      unfold pM; rw [hf, if_pos rfl, if_pos rfl]; unfold parM; split <;> omega
    have hE : pE 32 x - unQ 32 ≤ 253 := by
      unfold pE unQ; rw [hf, if_pos rfl, if_pos rfl, if_pos rfl]; unfold parE; split <;> omega
    have h0 := (pM_bd 32 x).1
    have h2 := (Nm.bl_le_iff (pM 32 x).toNat 24).2 (by omega)
    omega
  · rw [if_neg (by decide)]
    rw [abs64] at hlt'
    unfold infOf at hlt'; rw [if_neg (by decide)] at hlt'
    have hE : pE 64 x - unQ 64 ≤ 2045 := by
      unfold pE unQ; rw [hf, if_pos rfl, if_neg (by decide), if_neg (by decide)]; unfold parE; split <;> omega
    have h0 := pM_bd 64 x
    have h2 := (Nm.bl_le_iff (pM 64 x).toNat 53).2 (by omega)
    omega
theorem tm_abs {fm x : Int} (hf : finB fm x = true) : (tmV fm x).natAbs = Nm.sh (Nm.sh (pM fm x).toNat (pE fm x - unQ fm)) (-unQ fm) := by
  obtain ⟨m, hm⟩ : ∃ m : Nat, pM fm x = m := ⟨(pM fm x).toNat, by have := (pM_bd fm x).1; omega⟩
  have hu : unI fm x = if pS fm x then -((Nm.sh m (pE fm x - unQ fm) : Nat) : Int) else ((Nm.sh m (pE fm x - unQ fm) : Nat) : Int) := by
    unfold unI; rw [hf, if_pos rfl, hm, Int.toNat_natCast]
  unfold tmV
  rw [hu, sg_shift, hm, Int.toNat_natCast]
  cases pS fm x <;> simp
theorem tm_ok {fm x : Int} (hx : okF fm x = true) : TmOk fm (tmF fm x) := by
  cases hf : finB fm x
  · have e : tmF fm x = ⟨0, nanB fm x, cls fm x == 5, !nanB fm x && !sigB fm x, !nanB fm x && sigB fm x, false⟩ := by unfold tmF; rw [hf]; rfl
    rw [e]
    refine ⟨by simp, fun h => ?_, fun h => by cases h⟩
    show nanB fm x = true
    have h5 : cls fm x = 5 := by simpa using h
    rw [nan_of hx, h5]; decide
  · have e : tmF fm x = ⟨tmV fm x, false, false, false, false, (absF fm x == 0) && sigB fm x⟩ := by unfold tmF; rw [hf]; rfl
    rw [e]
    have hb := un_blf hf
    have hq : unQ fm ≤ 0 ∧ (if fm = 32 then (277 : Nat) else 2098) + (-unQ fm).toNat ≤ farE fm := by unfold unQ farE; split <;> simp
    refine ⟨?_, (fun h => by cases h), (fun h => ⟨?_, rfl, rfl, rfl, rfl⟩)⟩
    · show (tmV fm x).natAbs ≤ far fm 1
      rw [tm_abs hf]
      have h1 := Nm.bl_sh (Nm.sh (pM fm x).toNat (pE fm x - unQ fm)) (-unQ fm)
      have h2 : bitLen (Nm.sh (Nm.sh (pM fm x).toNat (pE fm x - unQ fm)) (-unQ fm)) ≤ farE fm := by omega
      have h3 := (Nm.bl_le_iff _ _).1 h2
      rw [far_eq, show (1 : Int).toNat = 1 from rfl, Nat.one_mul]
      exact Nat.le_of_lt h3
    · show tmV fm x = 0
      have hz : (absF fm x == 0) = true := by
        have h' : ((absF fm x == 0) && sigB fm x) = true := h
        revert h'; cases (absF fm x == 0) <;> simp
      have hl := len_zero hx hf
      rw [hz] at hl
      have hl' := of_decide_eq_true hl.symm
      have hM : (pM fm x).toNat = 0 := by
        unfold Nm.wl at hl'
        rw [Nm.lim_length_zero] at hl'
        revert hl'; cases pS fm x <;> simp <;> omega
      have ha := tm_abs hf
      rw [hM] at ha
      have e0 : ∀ n, Nm.sh 0 n = 0 := by intro n; unfold Nm.sh; split <;> simp
      rw [e0, e0] at ha
      omega
theorem accS (fm : Int) (s : St) (x : Int) (p : Option Addr) (cap : Nat) (w : World) (hR : Rt fm s) (hx : okF fm x = true) (x0 : 0 ≤ x) (x1 : x < 18446744073709551616) (hT : s.T ≠ 1000000) (hs : Sl .u32 w (.slice p (Nm.wl s.z).length cap) (Nm.wl s.z)) (s' : St) (hs' : s' = s.add (tmF fm x)) :
    Calls Tryz.prog 75 #[.agg #[.int .i64 fm, .bool (Nm.wn s.z), .slice p (Nm.wl s.z).length cap, .int .i64 s.T, .bool s.nn, .bool s.bd, .bool s.pl, .bool s.mi, .bool s.am], .int .u64 x] w fun r w' => ∃ a' c', r = .returned (.tuple #[.agg #[.int .i64 fm, .bool (Nm.wn s'.z), .slice a' (Nm.wl s'.z).length c', .int .i64 s'.T, .bool s'.nn, .bool s'.bd, .bool s'.pl, .bool s'.mi, .bool s'.am], .int .i64 0]) ∧ Own w' w.heap.size a' c' (Nm.wl s'.z) ∧ Below w.heap.size w w' := by
  subst hs'
  have hwv := Nm.wv_out s.z
  cases hf : finB fm x
  · have e : tmF fm x = ⟨0, nanB fm x, cls fm x == 5, !nanB fm x && !sigB fm x, !nanB fm x && sigB fm x, false⟩ := by unfold tmF; rw [hf]; rfl
    rw [e]
    have h := add_spec_odd fm (Nm.wn s.z) s.T s.nn s.bd s.pl s.mi s.am p cap (Nm.wl s.z) x w hs (Nm.wl_dg _) hR hx x0 x1 hT hf _ _ _ _ rfl rfl rfl rfl
    simpa [St.add] using h
  · have e : tmF fm x = ⟨tmV fm x, false, false, false, false, (absF fm x == 0) && sigB fm x⟩ := by unfold tmF; rw [hf]; rfl
    rw [e]
    have hb := (tm_eq hf).2
    have hl := wl_len (V := tmV fm x) (by omega)
    have h := add_spec_fin fm (Nm.wn s.z) s.T s.nn s.bd s.pl s.mi s.am p cap (Nm.wl s.z) x w hs (Nm.wl_dg _) hR hx x0 x1 hT hf (tmV fm x) rfl hl (s.z + tmV fm x) (by rw [hwv])
    simpa [St.add] using h
theorem accI (fm : Int) (s : St) (x : Int) (p : Option Addr) (cap : Nat) (u : Value) (w : World) (hE : EE u w) (hR : Rt fm s) (hx : okF fm x = true) (x0 : 0 ≤ x) (x1 : x < 18446744073709551616) (hT : s.T ≠ 1000000) (hs : Sl .u32 w (.slice p (Nm.wl s.z).length cap) (Nm.wl s.z)) (s' : St) (hs' : s' = s.add (tmF fm x)) :
    Calls Tryz.prog 79 #[.agg #[.int .i64 fm, .bool (Nm.wn s.z), .slice p (Nm.wl s.z).length cap, .int .i64 s.T, .bool s.nn, .bool s.bd, .bool s.pl, .bool s.mi, .bool s.am], .int .u64 x] w fun r w' => ∃ a' c', r = .returned (.tuple #[.agg #[.int .i64 fm, .bool (Nm.wn s'.z), .slice a' (Nm.wl s'.z).length c', .int .i64 s'.T, .bool s'.nn, .bool s'.bd, .bool s'.pl, .bool s'.mi, .bool s'.am], .int .i64 0]) ∧ Own w' w.heap.size a' c' (Nm.wl s'.z) ∧ Below w.heap.size w w' := by
  subst hs'
  have hwv := Nm.wv_out s.z
  obtain ⟨hfm, hk1, ho, -⟩ := acc_parts hR
  have hnan := nan_of hx
  have odd : finB fm x = false → ∀ (neg inf : Bool) (ev : Value), nanB fm x = nanB fm x →
      (∀ (w' : World), Tab w' → ErrQ w' u → Calls Tryz.prog 96 #[.int .i64 fm, .int .u64 x] w' fun r w'' => r = .returned (.tuple #[.agg #[.bool neg, .bool inf, .bool false, .slice none 0 0, .int .i64 0], ev]) ∧ Below w'.heap.size w' w'') →
      (∀ (p : Option Addr) (c : Nat) (q : World), EA.ErrT q → Calls Tryz.prog 139 #[.agg #[.bool neg, .bool inf, .bool false, .slice p 0 c, .int .i64 0], ev] q fun r q' => r = .returned (.agg #[.int .i64 1, .bool (nanB fm x), .bool (cls fm x == 5), .bool (!nanB fm x && !sigB fm x), .bool (!nanB fm x && sigB fm x), .bool false]) ∧ Below q.heap.size q q') →
      Calls Tryz.prog 79 #[.agg #[.int .i64 fm, .bool (Nm.wn s.z), .slice p (Nm.wl s.z).length cap, .int .i64 s.T, .bool s.nn, .bool s.bd, .bool s.pl, .bool s.mi, .bool s.am], .int .u64 x] w fun r w' => ∃ a' c', r = .returned (.tuple #[.agg #[.int .i64 fm, .bool (Nm.wn (s.add (tmF fm x)).z), .slice a' (Nm.wl (s.add (tmF fm x)).z).length c', .int .i64 (s.add (tmF fm x)).T, .bool (s.add (tmF fm x)).nn, .bool (s.add (tmF fm x)).bd, .bool (s.add (tmF fm x)).pl, .bool (s.add (tmF fm x)).mi, .bool (s.add (tmF fm x)).am], .int .i64 0]) ∧ Own w' w.heap.size a' c' (Nm.wl (s.add (tmF fm x)).z) ∧ Below w.heap.size w w' := by
    intro hf neg inf ev _ hn hm
    have e : tmF fm x = ⟨0, nanB fm x, cls fm x == 5, !nanB fm x && !sigB fm x, !nanB fm x && sigB fm x, false⟩ := by unfold tmF; rw [hf]; rfl
    rw [e]
    have hft : Nm.fits s.z = true := by have := ok_fits (Nm.wl_dg _) ho (Nm.wn s.z); rwa [hwv] at this
    have h := add_core fm (Nm.wn s.z) s.T s.nn s.bd s.pl s.mi s.am p cap (Nm.wl s.z) x u w hE.t hE.g hE.q hs (Nm.wl_dg _) hR hx x0 x1 hT neg inf false [] 0 ev (nanB fm x) (cls fm x == 5) (!nanB fm x && !sigB fm x) (!nanB fm x && sigB fm x) false false [] Nm.Dg.nil rfl s.z (by rw [hwv]; unfold Nm.wv Nm.val; simp) hft
      (fun w' t q => (hn w' t q).mono fun r w'' ⟨hr, hb⟩ => ⟨none, 0, hr, Sl.nil _ _, hb⟩)
      (fun a' c' w' t g h => one_odd fm hfm neg inf ev _ _ _ _ false w' t g a' c' h (fun q hq => hm a' c' q hq))
    rw [amW_no] at h
    simpa [St.add] using h
  rcases cls_six hx with hf | h3 | h4 | h5
  · have e : tmF fm x = ⟨tmV fm x, false, false, false, false, (absF fm x == 0) && sigB fm x⟩ := by unfold tmF; rw [hf]; rfl
    rw [e]
    obtain ⟨-, hb⟩ := tm_eq hf
    have hl := wl_len (V := tmV fm x) (by omega)
    have hft := add_fits (Nm.wl_dg _) hR hb
    rw [hwv] at hft
    have hps : pS fm x = sigB fm x := by unfold pS; rw [hf]; rfl
    obtain ⟨L, hL⟩ : ∃ L, L = Nm.wl (if pS fm x then -pM fm x else pM fm x) := ⟨_, rfl⟩
    have hlz : (absF fm x == 0) = decide (L.length = 0) := by rw [hL]; exact len_zero hx hf
    have h := add_core fm (Nm.wn s.z) s.T s.nn s.bd s.pl s.mi s.am p cap (Nm.wl s.z) x u w hE.t hE.g hE.q hs (Nm.wl_dg _) hR hx x0 x1 hT (pS fm x) false _ L (pE fm x) .nilIface false false false false (decide (L.length = 0) && pS fm x) (Nm.wn (tmV fm x)) (Nm.wl (tmV fm x)) (Nm.wl_dg _) (okB_wl hl) (s.z + tmV fm x) (by rw [Nm.wv_out, Nm.wv_out]) hft
      (fun w' t q => (num_fin fm x w' t x0 x1 hf _ L (pE fm x) rfl hL rfl).mono fun r w'' ⟨a', c', hr, ho, hb⟩ => ⟨a', c', hr, ho.sl, hb⟩)
      (fun a' c' w' t g h => by
        rcases fmt_cases hfm with rfl | rfl
        · exact one_fin_32 x hf _ L rfl hL _ rfl a' c' w' t g h
        · exact one_fin_64 x hf _ L rfl hL _ rfl a' c' w' t g h)
    have e5 : amW s.T s.am 1 (decide (L.length = 0) && pS fm x) = ((absF fm x == 0) && sigB fm x && (s.am || decide (s.T = 0))) := by
      rw [hlz, hps]; unfold amW
      rw [show decide ((1 : Int) = 0) = false from rfl]
      cases decide (L.length = 0) <;> cases sigB fm x <;> cases s.am <;> cases decide (s.T = 0) <;> rfl
    rw [e5] at h
    simpa [St.add] using h
  · have hfin : finB fm x = false := by unfold finB; rw [h3]; decide
    have hnb : nanB fm x = false := by rw [hnan, h3]; decide
    refine odd hfin (sigB fm x) true .nilIface rfl (fun w' t q => num_inf fm x w' t x0 x1 h3) (fun p c q hq => ?_)
    have := mk_inf (sigB fm x) false p 0 c 0 q hq (by decide)
    rw [hnb, h3]; simpa using this
  · have hfin : finB fm x = false := by unfold finB; rw [h4]; decide
    have hnb : nanB fm x = true := by rw [hnan, h4]; decide
    refine odd hfin false false (.iface 176 (.agg #[.iface 244 u])) rfl (fun w' t q => num_quiet fm x u w' t q x0 x1 h4) (fun p c q hq => ?_)
    have := mk_quiet u false p 0 c 0 q hq (by decide) rfl
    rw [hnb, h4]; simpa using this
  · have hfin : finB fm x = false := by unfold finB; rw [h5]; decide
    have hnb : nanB fm x = true := by rw [hnan, h5]; decide
    refine odd hfin false false (.iface 176 (.agg #[.iface 178 (.agg #[.string sgS])])) rfl (fun w' t q => num_sig2 fm x w' t x0 x1 h5) (fun p c q hq => ?_)
    have := mk_bad sgS false p 0 c 0 q hq (by decide) rfl
    rw [hnb, h5]; simpa using this
end Go.Proofs.YtapjclcjojadaaaGreatDoor
