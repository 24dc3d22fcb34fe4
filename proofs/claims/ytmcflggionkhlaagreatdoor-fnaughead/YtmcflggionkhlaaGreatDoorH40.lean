/-
  What is needed of AccM, TP, EO, CU, UB, UC.
-/
import Derived.Test.YtmcflggionkhlaaGreatDoorH18
import Derived.Test.YtmcflggionkhlaaGreatDoorH37
set_option maxHeartbeats 16000000
set_option maxRecDepth 1000000
namespace Go.Proofs.YtmcflggionkhlaaGreatDoor
set_option linter.unusedVariables false
set_option linter.unusedSimpArgs false
open Go.RowKit Go.Deep
theorem add_ok {na nb : Bool} {xs ys : List Int} (a b : Option Addr) (cap cap' : Nat) (w : World) (hx : Sl .u32 w (.slice a xs.length cap) xs) (hy : Sl .u32 w (.slice b ys.length cap') ys) (dx : Nm.Dg xs) (dy : Nm.Dg ys) (ho : okB na xs = true) (ho' : okB nb ys = true) (x : Int) (hxv : x = Nm.wv na xs + Nm.wv nb ys) (hf : Nm.fits x = true) :
    Calls Tryz.prog 72 #[.agg #[.bool na, .slice a xs.length cap], .agg #[.bool nb, .slice b ys.length cap']] w fun e w' => ∃ a' c', e = .returned (.tuple #[.agg #[.bool (Nm.wn x), .slice a' (Nm.wl x).length c'], .bool true]) ∧ Own w' w.heap.size a' c' (Nm.wl x) ∧ Below w.heap.size w w' := by
  have h1 := (okB_nz ho).2
  have h2 := (okB_nz ho').2
  have h := wadd_impl na nb a b cap cap' xs ys w hx hy dx dy (by omega) (by omega) x hxv
  have e4 := out_fits hf
  rw [ho, ho', Bool.and_self, (op_yes _).1, (op_yes _).2.1, (op_yes _).2.2, hf, e4.1, e4.2] at h
  exact h
theorem Q9.nw2 (w : World) (o : Obj) (v0 v1 v2 v3 v4 v5 v6 v7 v8 : Value) (t : TypeId) : Q9 ((w.alloc o).alloc (.cells #[v0, v1, v2, v3, v4, v5, v6, v7, v8] t)) (w.heap.size + 1) v0 v1 v2 v3 v4 v5 v6 v7 v8 := by simpa using Q9.new (w.alloc o) v0 v1 v2 v3 v4 v5 v6 v7 v8 t
theorem Box.of_block {w w' : World} {b : Nat} {v0 v1 : Value} (h : Box w b v0 v1) (e : w'.heap[b]? = w.heap[b]?) : Box w' b v0 v1 :=
  ⟨(World.cell?_of_block (a := ⟨b, 0, none⟩) e).trans h.1, (World.cell?_of_block (a := ⟨b, 1, none⟩) e).trans h.2⟩
theorem fin_ok {fm x : Int} (hf : finB fm x = true) : okF fm x = true := by
  cases h : okF fm x
  · exfalso
    have : cls fm x = -1 := by unfold cls; rw [h]; rfl
    unfold finB at hf; rw [this] at hf; simp at hf
  · rfl
theorem bl_pos {z : Int} (h : z ≠ 0) : 1 ≤ bitLen z.natAbs := by
  have : ¬ bitLen z.natAbs ≤ 0 := by
    rw [Nm.bl_le_iff]; simp; omega
  omega
theorem eneg_impl (z : Int) (a : Option Addr) (cap : Nat) (w : World) (hs : Sl .u32 w (.slice a (Nm.wl z).length cap) (Nm.wl z)) (hl : (Nm.wl z).length ≤ 200) :
    Calls Tryz.prog 73 #[.agg #[.bool (Nm.wn z), .slice a (Nm.wl z).length cap]] w fun e w' => ∃ a' c', e = .returned (.agg #[.bool (Nm.wn (-z)), .slice a' (Nm.wl (-z)).length c']) ∧ Own w' w.heap.size a' c' (Nm.wl (-z)) ∧ Below w.heap.size w w' := by
  have h := wneg_impl (Nm.wn z) a cap (Nm.wl z) w hs (Nm.wl_dg _) (by omega)
  have e : Nm.wv (!Nm.wn z) (Nm.wl z) = -z := by
    have := Nm.wv_out z
    unfold Nm.wv at this ⊢
    cases hn : Nm.wn z <;> rw [hn] at this <;> simp at this ⊢ <;> omega
  unfold negN negL at h
  rw [okB_wl hl, if_pos rfl, if_pos rfl, e] at h
  exact h
theorem eadd_impl (x y : Int) (a b : Option Addr) (cap cap' : Nat) (w : World) (hx : Sl .u32 w (.slice a (Nm.wl x).length cap) (Nm.wl x)) (hy : Sl .u32 w (.slice b (Nm.wl y).length cap') (Nm.wl y)) (lx : (Nm.wl x).length ≤ 200) (ly : (Nm.wl y).length ≤ 200) (lz : (Nm.wl (x + y)).length ≤ 200) :
    Calls Tryz.prog 72 #[.agg #[.bool (Nm.wn x), .slice a (Nm.wl x).length cap], .agg #[.bool (Nm.wn y), .slice b (Nm.wl y).length cap']] w fun e w' => ∃ a' c', e = .returned (.tuple #[.agg #[.bool (Nm.wn (x + y)), .slice a' (Nm.wl (x + y)).length c'], .bool true]) ∧ Own w' w.heap.size a' c' (Nm.wl (x + y)) ∧ Below w.heap.size w w' := by
  have h := wadd_impl (Nm.wn x) (Nm.wn y) a b cap cap' (Nm.wl x) (Nm.wl y) w hx hy (Nm.wl_dg _) (Nm.wl_dg _) (by omega) (by omega) (x + y) (by rw [Nm.wv_out, Nm.wv_out])
  have hf : Nm.fits (x + y) = true := by unfold Nm.fits; exact decide_eq_true lz
  have e4 := out_fits hf
  rw [okB_wl lx, okB_wl ly, Bool.and_self, (op_yes _).1, (op_yes _).2.1, (op_yes _).2.2, hf, e4.1, e4.2] at h
  exact h
namespace Fd
theorem uf_par (L q : Nat) (hL : 1 < L) (Q : Int) (y : Int) (y0 : 0 ≤ y) : Nm.sh (parM L y).toNat (parE L Q y - Q) = uf L y.toNat := by
  obtain ⟨n, rfl⟩ := Int.eq_ofNat_of_zero_le y0
  unfold parM parE uf Nm.sh
  rw [show ((n : Int) / (L : Int)) = ((n / L : Nat) : Int) by rfl, show ((n : Int) % (L : Int)) = ((n % L : Nat) : Int) by rfl]
  by_cases h : n < L
  · rw [Nat.div_eq_of_lt h, Nat.mod_eq_of_lt h]
    have e : (((0 : Nat) : Int) = 0) = True := eq_true rfl
    simp only [e, if_true, Int.sub_self, Int.toNat_natCast]
    rw [if_pos h, if_neg (by decide)]
    simp
  · have hq : 1 ≤ n / L := Nat.div_pos (by omega) (by omega)
    have e : ¬ (((n / L : Nat) : Int) = 0) := by omega
    rw [if_neg e, if_neg e, if_neg (by omega), if_neg (by omega)]
    have e1 : (((n % L : Nat) : Int) + (L : Int)).toNat = n % L + L := by omega
    have e2 : (Q + ((n / L : Nat) : Int) - 1 - Q).toNat = n / L - 1 := by omega
    rw [e1, e2, Int.toNat_natCast]
theorem wcmp_int {x y : Int} (hx : (Nm.wl x).length ≤ 200) (hy : (Nm.wl y).length ≤ 200) : wcmp (Nm.wn x) (Nm.wn y) (Nm.wl x) (Nm.wl y) = cmpI x y := by
  rw [wcmp_yes (okB_wl hx) (okB_wl hy)]
  unfold Nm.wl Nm.wn
  rw [cmpL_nat, cmpL_nat]
  unfold Nm.cmp2 cmpI
  by_cases h1 : x < 0 <;> by_cases h2 : y < 0 <;> simp only [h1, h2, decide_true, decide_false, Bool.and_true, Bool.and_false, Bool.and_self, if_true, if_false, Bool.false_eq_true] <;> (repeat' split) <;> omega
theorem un_uf32 {x : Int} (h0 : 0 ≤ x) (h1 : x < 4294967296) (hf : finB 32 x = true) : unI 32 x = if x < 2147483648 then ((uf 8388608 x.toNat : Nat) : Int) else -((uf 8388608 (x - 2147483648).toNat : Nat) : Int) := by
  have hu := uf_par 8388608 0 (by omega) (-149) (x % 2147483648) (by omega)
  have e1 : pM 32 x = parM 8388608 (x % 2147483648) := by unfold pM; rw [hf]; simp
  have e2 : pE 32 x = parE 8388608 (-149) (x % 2147483648) := by unfold pE; rw [hf]; simp
  have e3 : pS 32 x = sigB 32 x := by unfold pS; rw [hf]; rfl
  have e4 : unQ 32 = -149 := by decide
  have ax := ab32 h0 h1
  unfold unI
  rw [if_pos hf, e1, e2, e3, e4]
  have hu' : Nm.sh (parM 8388608 (x % 2147483648)).toNat (parE 8388608 (-149) (x % 2147483648) - -149) = uf 8388608 (x % 2147483648).toNat := hu
  rw [hu']
  unfold sigB
  rw [ax]
  by_cases h : x < 2147483648
  · rw [if_pos h, if_pos h, show x % 2147483648 = x by omega]
    rw [if_neg (by simp)]
  · rw [if_neg h, if_neg h, show x % 2147483648 = x - 2147483648 by omega]
    have hne : (x != x - 2147483648) = true := by simp; omega
    rw [if_pos hne]
theorem un_uf64 {x : Int} (h0 : 0 ≤ x) (h1 : x < 18446744073709551616) (hf : finB 64 x = true) : unI 64 x = if x < 9223372036854775808 then ((uf 4503599627370496 x.toNat : Nat) : Int) else -((uf 4503599627370496 (x - 9223372036854775808).toNat : Nat) : Int) := by
  have hu := uf_par 4503599627370496 0 (by omega) (-1074) (x % 9223372036854775808) (by omega)
  have e1 : pM 64 x = parM 4503599627370496 (x % 9223372036854775808) := by unfold pM; rw [hf]; simp
  have e2 : pE 64 x = parE 4503599627370496 (-1074) (x % 9223372036854775808) := by unfold pE; rw [hf]; simp
  have e3 : pS 64 x = sigB 64 x := by unfold pS; rw [hf]; rfl
  have e4 : unQ 64 = -1074 := by decide
  have ax := ab64 h0 h1
  unfold unI
  rw [if_pos hf, e1, e2, e3, e4]
  have hu' : Nm.sh (parM 4503599627370496 (x % 9223372036854775808)).toNat (parE 4503599627370496 (-1074) (x % 9223372036854775808) - -1074) = uf 4503599627370496 (x % 9223372036854775808).toNat := hu
  rw [hu']
  unfold sigB
  rw [ax]
  by_cases h : x < 9223372036854775808
  · rw [if_pos h, if_pos h, show x % 9223372036854775808 = x by omega]
    rw [if_neg (by simp)]
  · rw [if_neg h, if_neg h, show x % 9223372036854775808 = x - 9223372036854775808 by omega]
    have hne : (x != x - 9223372036854775808) = true := by simp; omega
    rw [if_pos hne]
theorem rd_uf (P I : Nat) (hP : 2 ≤ P) (q : Int) (S mode : Int) (ng : Bool) (y : Nat) (h0 : y ≠ 0) (hI : y < I) (ho : I ≤ 2100 * 2 ^ (P - 1)) : rdB P q I S mode ng (uf (2 ^ (P - 1)) y) q = sgn S (y : Int) ng ∧ rdF P q I mode ng (uf (2 ^ (P - 1)) y) q = 0 := by
  have hL : 1 < 2 ^ (P - 1) := by
    have := Nat.pow_le_pow_right (n := 2) (by decide) (show 1 ≤ P - 1 by omega)
    omega
  have hr := uf_rr P (by omega) q y
  have hu : rdU P q mode ng (uf (2 ^ (P - 1)) y) q = uf (2 ^ (P - 1)) y := by
    unfold rdU
    exact rU_q (uf_ne _ y hL h0) hr _
  have hf := uf_flo P I (by omega) y hI ho
  have hb := uf_flb P (by omega) y
  unfold rdB rdF
  rw [hu, hf, hb, hr]
  exact ⟨rfl, rfl⟩
theorem wl_zero_iff (x : Int) : (Nm.wl x).length = 0 ↔ x = 0 := by
  unfold Nm.wl
  rw [Nm.lim_length_zero]
  omega
theorem un_len (fm x : Int) (hf : finB fm x = true) : (Nm.wl (unI fm x)).length ≤ 200 := by
  obtain ⟨G, L, z, E, Q, hz, hE, hQ, z0, z1, e0, e1, q0, q1, d0, d1, hG, hL, hd, hl2, hsh, hok, hl200⟩ := un_parts hf
  exact hl200
theorem fin_lt32 {x : Int} (h0 : 0 ≤ x) (h1 : x < 4294967296) (hf : finB 32 x = true) : x % 2147483648 < 2139095040 := by
  unfold finB at hf
  rw [cls32 h1] at hf
  unfold clsY at hf
  simp only [decide_eq_true_eq] at hf
  repeat' split at hf
  all_goals omega
theorem fin_lt'32 {x : Int} (h0 : 0 ≤ x) (h1 : x < 4294967296) (hf : x % 2147483648 < 2139095040) : finB 32 x = true := by
  unfold finB
  rw [cls32 h1]
  unfold clsY
  simp only [decide_eq_true_eq]
  repeat' split
  all_goals omega
theorem Rd_un32 {x : Int} (h0 : 0 ≤ x) (h1 : x < 4294967296) (hf : finB 32 x = true) (mode : Int) (hm : modeB mode = true) :
    RdO 32 mode (Nm.wn (unI 32 x)) (Nm.wl (unI 32 x)) (-149) = true ∧ RdB 32 mode (Nm.wn (unI 32 x)) (Nm.wl (unI 32 x)) (-149) = (if x % 2147483648 = 0 then 0 else x) ∧ RdF 32 mode (Nm.wn (unI 32 x)) (Nm.wl (unI 32 x)) (-149) = 0 ∧ ((Nm.wl (unI 32 x)).length = 0 ↔ x % 2147483648 = 0) := by
  have hO : RdO 32 mode (Nm.wn (unI 32 x)) (Nm.wl (unI 32 x)) (-149) = true := by
    unfold RdO
    rw [okB_wl (un_len _ _ hf), hm]
    rfl
  have hlt := fin_lt32 h0 h1 hf
  have hu := un_uf32 h0 h1 hf
  have hz : unI 32 x = 0 ↔ x % 2147483648 = 0 := by
    rw [hu]
    constructor
    · intro h
      by_cases hc : x % 2147483648 = 0
      · exact hc
      · exfalso
        split at h
        · have := uf_ne 8388608 x.toNat (by decide) (by omega); omega
        · have := uf_ne 8388608 (x - 2147483648).toNat (by decide) (by omega); omega
    · intro h
      split
      · rw [show x.toNat = 0 by omega, uf_zero _ (by decide)]; rfl
      · rw [show (x - 2147483648).toNat = 0 by omega, uf_zero _ (by decide)]; rfl
  refine ⟨hO, ?_, ?_, (wl_zero_iff _).trans hz⟩
  · unfold RdB
    rw [hO, if_pos rfl]
    by_cases hc : x % 2147483648 = 0
    · rw [if_pos hc, if_pos ((wl_zero_iff _).2 (hz.2 hc))]
    · rw [if_neg hc, if_neg (fun h => hc (hz.1 ((wl_zero_iff _).1 h)))]
      rw [Nm.val_wl]
      have hn : ((((unI 32 x).natAbs : Nat) : Int)).toNat = (unI 32 x).natAbs := Int.toNat_natCast _
      rw [hn]
      simp only [if_pos]
      by_cases hs : x < 2147483648
      · have e1 : (unI 32 x).natAbs = uf 8388608 x.toNat := by rw [hu, if_pos hs]; omega
        have e2 : Nm.wn (unI 32 x) = false := by rw [hu, if_pos hs]; unfold Nm.wn; simp
        rw [e1, e2]
        have := (rd_uf 24 2139095040 (by decide) (-149) 2147483648 mode false x.toNat (by omega) (by omega) (by decide)).1
        rw [show (2 : Nat) ^ (24 - 1) = 8388608 by decide] at this
        rw [this]; unfold sgn; simp; omega
      · have e1 : (unI 32 x).natAbs = uf 8388608 (x - 2147483648).toNat := by rw [hu, if_neg hs]; omega
        have e2 : Nm.wn (unI 32 x) = true := by
          rw [hu, if_neg hs]; unfold Nm.wn
          have := uf_ne 8388608 (x - 2147483648).toNat (by decide) (by omega)
          simp; omega
        rw [e1, e2]
        have := (rd_uf 24 2139095040 (by decide) (-149) 2147483648 mode true (x - 2147483648).toNat (by omega) (by omega) (by decide)).1
        rw [show (2 : Nat) ^ (24 - 1) = 8388608 by decide] at this
        rw [this]; unfold sgn; simp; omega
  · unfold RdF
    rw [hO, if_pos rfl]
    by_cases hc : x % 2147483648 = 0
    · rw [if_pos ((wl_zero_iff _).2 (hz.2 hc))]
    · rw [if_neg (fun h => hc (hz.1 ((wl_zero_iff _).1 h)))]
      rw [Nm.val_wl]
      have hn : ((((unI 32 x).natAbs : Nat) : Int)).toNat = (unI 32 x).natAbs := Int.toNat_natCast _
      rw [hn]
      simp only [if_pos]
      have e1 : ∃ y : Nat, (unI 32 x).natAbs = uf 8388608 y ∧ y ≠ 0 ∧ y < 2139095040 := by
        by_cases hs : x < 2147483648
        · exact ⟨x.toNat, by rw [hu, if_pos hs]; omega, by omega, by omega⟩
        · exact ⟨(x - 2147483648).toNat, by rw [hu, if_neg hs]; omega, by omega, by omega⟩
      obtain ⟨y, e1, y0, y1⟩ := e1
      rw [e1]
      have := (rd_uf 24 2139095040 (by decide) (-149) 2147483648 mode (Nm.wn (unI 32 x)) y y0 y1 (by decide)).2
      rw [show (2 : Nat) ^ (24 - 1) = 8388608 by decide] at this
      exact this
theorem fin_lt64 {x : Int} (h0 : 0 ≤ x) (h1 : x < 18446744073709551616) (hf : finB 64 x = true) : x % 9223372036854775808 < 9218868437227405312 := by
  unfold finB at hf
  rw [cls64 ] at hf
  unfold clsY at hf
  simp only [decide_eq_true_eq] at hf
  repeat' split at hf
  all_goals omega
theorem fin_lt'64 {x : Int} (h0 : 0 ≤ x) (h1 : x < 18446744073709551616) (hf : x % 9223372036854775808 < 9218868437227405312) : finB 64 x = true := by
  unfold finB
  rw [cls64 ]
  unfold clsY
  simp only [decide_eq_true_eq]
  repeat' split
  all_goals omega
theorem Rd_un64 {x : Int} (h0 : 0 ≤ x) (h1 : x < 18446744073709551616) (hf : finB 64 x = true) (mode : Int) (hm : modeB mode = true) :
    RdO 64 mode (Nm.wn (unI 64 x)) (Nm.wl (unI 64 x)) (-1074) = true ∧ RdB 64 mode (Nm.wn (unI 64 x)) (Nm.wl (unI 64 x)) (-1074) = (if x % 9223372036854775808 = 0 then 0 else x) ∧ RdF 64 mode (Nm.wn (unI 64 x)) (Nm.wl (unI 64 x)) (-1074) = 0 ∧ ((Nm.wl (unI 64 x)).length = 0 ↔ x % 9223372036854775808 = 0) := by
  have hO : RdO 64 mode (Nm.wn (unI 64 x)) (Nm.wl (unI 64 x)) (-1074) = true := by
    unfold RdO
    rw [okB_wl (un_len _ _ hf), hm]
    rfl
  have hlt := fin_lt64 h0 h1 hf
  have hu := un_uf64 h0 h1 hf
  have hz : unI 64 x = 0 ↔ x % 9223372036854775808 = 0 := by
    rw [hu]
    constructor
    · intro h
      by_cases hc : x % 9223372036854775808 = 0
      · exact hc
      · exfalso
        split at h
        · have := uf_ne 4503599627370496 x.toNat (by decide) (by omega); omega
        · have := uf_ne 4503599627370496 (x - 9223372036854775808).toNat (by decide) (by omega); omega
    · intro h
      split
      · rw [show x.toNat = 0 by omega, uf_zero _ (by decide)]; rfl
      · rw [show (x - 9223372036854775808).toNat = 0 by omega, uf_zero _ (by decide)]; rfl
  refine ⟨hO, ?_, ?_, (wl_zero_iff _).trans hz⟩
  · unfold RdB
    rw [hO, if_pos rfl]
    by_cases hc : x % 9223372036854775808 = 0
    · rw [if_pos hc, if_pos ((wl_zero_iff _).2 (hz.2 hc))]
    · rw [if_neg hc, if_neg (fun h => hc (hz.1 ((wl_zero_iff _).1 h)))]
      rw [Nm.val_wl]
      have hn : ((((unI 64 x).natAbs : Nat) : Int)).toNat = (unI 64 x).natAbs := Int.toNat_natCast _
      rw [hn]
      simp only [if_neg (show ¬ ((64 : Int) = 32) from by decide)]
      by_cases hs : x < 9223372036854775808
      · have e1 : (unI 64 x).natAbs = uf 4503599627370496 x.toNat := by rw [hu, if_pos hs]; omega
        have e2 : Nm.wn (unI 64 x) = false := by rw [hu, if_pos hs]; unfold Nm.wn; simp
        rw [e1, e2]
        have := (rd_uf 53 9218868437227405312 (by decide) (-1074) 9223372036854775808 mode false x.toNat (by omega) (by omega) (by decide)).1
        rw [show (2 : Nat) ^ (53 - 1) = 4503599627370496 by decide] at this
        rw [this]; unfold sgn; simp; omega
      · have e1 : (unI 64 x).natAbs = uf 4503599627370496 (x - 9223372036854775808).toNat := by rw [hu, if_neg hs]; omega
        have e2 : Nm.wn (unI 64 x) = true := by
          rw [hu, if_neg hs]; unfold Nm.wn
          have := uf_ne 4503599627370496 (x - 9223372036854775808).toNat (by decide) (by omega)
          simp; omega
        rw [e1, e2]
        have := (rd_uf 53 9218868437227405312 (by decide) (-1074) 9223372036854775808 mode true (x - 9223372036854775808).toNat (by omega) (by omega) (by decide)).1
        rw [show (2 : Nat) ^ (53 - 1) = 4503599627370496 by decide] at this
        rw [this]; unfold sgn; simp; omega
  · unfold RdF
    rw [hO, if_pos rfl]
    by_cases hc : x % 9223372036854775808 = 0
    · rw [if_pos ((wl_zero_iff _).2 (hz.2 hc))]
    · rw [if_neg (fun h => hc (hz.1 ((wl_zero_iff _).1 h)))]
      rw [Nm.val_wl]
      have hn : ((((unI 64 x).natAbs : Nat) : Int)).toNat = (unI 64 x).natAbs := Int.toNat_natCast _
      rw [hn]
      simp only [if_neg (show ¬ ((64 : Int) = 32) from by decide)]
      have e1 : ∃ y : Nat, (unI 64 x).natAbs = uf 4503599627370496 y ∧ y ≠ 0 ∧ y < 9218868437227405312 := by
        by_cases hs : x < 9223372036854775808
        · exact ⟨x.toNat, by rw [hu, if_pos hs]; omega, by omega, by omega⟩
        · exact ⟨(x - 9223372036854775808).toNat, by rw [hu, if_neg hs]; omega, by omega, by omega⟩
      obtain ⟨y, e1, y0, y1⟩ := e1
      rw [e1]
      have := (rd_uf 53 9218868437227405312 (by decide) (-1074) 9223372036854775808 mode (Nm.wn (unI 64 x)) y y0 y1 (by decide)).2
      rw [show (2 : Nat) ^ (53 - 1) = 4503599627370496 by decide] at this
      exact this
theorem rd_same {a b : Nat} (ha : a ≠ 0) (hb : b ≠ 0) {e f : Int} (d1 d2 : Nat) (h : a * 2 ^ d1 = b * 2 ^ d2) (he : e - d1 = f - d2) (P : Nat) (q : Int) (I : Nat) (S mode : Int) (ng : Bool) : rdB P q I S mode ng a e = rdB P q I S mode ng b f ∧ rdF P q I mode ng a e = rdF P q I mode ng b f := by
  constructor
  · rw [← rdB_scale ha P q I S mode ng e d1, ← rdB_scale hb P q I S mode ng f d2, h, he]
  · rw [← rdF_scale ha P q I mode ng e d1, ← rdF_scale hb P q I mode ng f d2, h, he]
end Fd
end Go.Proofs.YtmcflggionkhlaaGreatDoor
