/-
  One term more, a product: by the program, told by what the accumulator is, and by what the product is as a term.
-/
import Derived.Test.YtapjclcjojadaaaGreatDoorMA
import Derived.Test.YtapjclcjojadaaaGreatDoorFA
namespace Go.Proofs.YtapjclcjojadaaaGreatDoor
set_option linter.unusedVariables false
set_option linter.unusedSimpArgs false
open Go.RowKit Go.Deep
theorem nan_ni {fm x : Int} (hx : okF fm x = true) (h : nanB fm x = true) : nI fm x = false ∧ zF fm x = false ∧ finB fm x = false := by
  have h1 := nan_ofE hx
  rw [h] at h1
  have h45 : cls fm x = 4 ∨ cls fm x = 5 := by
    by_cases e4 : cls fm x = 4
    · exact .inl e4
    · by_cases e5 : cls fm x = 5
      · exact .inr e5
      · rw [decide_eq_false e4, decide_eq_false e5] at h1; cases h1
  have hz : zF fm x = (cls fm x == 0) := (cls_zero hx).symm
  rcases h45 with e | e
  · exact ⟨by unfold nI; rw [e]; rfl, by rw [hz, e]; rfl, by unfold finB; rw [e]; decide⟩
  · exact ⟨by unfold nI; rw [e]; rfl, by rw [hz, e]; rfl, by unfold finB; rw [e]; decide⟩
theorem odd_no {fm x y : Int} (hx : okF fm x = true) (hy : okF fm y = true) (h : (nanB fm x || nanB fm y) = true) : oddX fm x y = false := by
  unfold oddX
  cases nx : nanB fm x
  · rw [nx, Bool.false_or] at h
    obtain ⟨h1, h2, -⟩ := nan_ni hy h
    rw [h1, h2, Bool.or_false, Bool.or_false]
    cases ix : nI fm x
    · rfl
    · rw [zF_inf hx ix]; rfl
  · obtain ⟨h1, h2, -⟩ := nan_ni hx nx
    rw [h1, h2, Bool.false_or, Bool.false_or]
    cases iy : nI fm y
    · rfl
    · rw [zF_inf hy iy]; rfl
theorem oddX_eq {fm x y : Int} (hx : okF fm x = true) (hy : okF fm y = true) (nx : nanB fm x = false) (ny : nanB fm y = false) : oddB (nI fm x) (decide ((Nm.wl (nZ fm x)).length = 0)) (nI fm y) (decide ((Nm.wl (nZ fm y)).length = 0)) = oddX fm x y := by
  have zx := sz_of hx nx
  have zy := sz_of hy ny
  unfold oddB oddX; rw [zx, zy]
  cases ix : nI fm x
  · cases iy : nI fm y
    · cases zF fm x <;> cases zF fm y <;> rfl
    · rw [zF_inf hy iy]; cases zF fm x <;> rfl
  · rw [zF_inf hx ix]
    cases iy : nI fm y
    · cases zF fm y <;> rfl
    · rw [zF_inf hy iy]; rfl
theorem one_finP_32 (x y : Int) (hx : okF 32 x = true) (hy : okF 32 y = true) (fx : finB 32 x = true) (fy : finB 32 y = true) (neg : Bool) (L : List Int) (E : Int) (hL : L = Nm.wl (nZ 32 x * nZ 32 y)) (hE : E = nE 32 x + nE 32 y) (m5 : Bool) (hm5 : m5 = (decide (L.length = 0) && neg)) (p : Option Addr) (c : Nat) (w : World) (hT : Tab w) (hg : EA.ErrT w) (hs : Sl .u32 w (.slice p L.length c) L) :
    Calls Tryz.prog 68 #[.int .i64 32, .agg #[.bool neg, .bool false, .bool (Nm.wn (nZ 32 x * nZ 32 y)), .slice p L.length c, .int .i64 E], .nilIface] w fun r w' => ∃ a' c', r = .returned (.agg #[.int .i64 1, .bool false, .bool false, .bool false, .bool false, .bool m5, .int .i64 32, .bool (Nm.wn (tpV 32 x y)), .slice a' (Nm.wl (tpV 32 x y)).length c']) ∧ Own w' w.heap.size a' c' (Nm.wl (tpV 32 x y)) ∧ Below w.heap.size w w' := by
  have b1 := nZ_bd 32 x
  have b2 := nZ_bd 32 y
  have hl2 : L.length ≤ 200 := by rw [hL]; exact nZm_len 32 x y
  have hd : Nm.Dg L := by rw [hL]; exact Nm.wl_dg _
  have ho : okB (Nm.wn (nZ 32 x * nZ 32 y)) L = true := by rw [hL]; exact okB_wl (nZm_len 32 x y)
  obtain ⟨-, hq, hb⟩ := tp_eq hx hy fx fy
  have hR : E + 298 = nE 32 x + nE 32 y - 2 * unQ 32 := by rw [hE]; have : unQ 32 = (-149) := rfl; omega
  have hV : tpV 32 x y = Nm.shV (Nm.wn (nZ 32 x * nZ 32 y)) (Nm.val L) (E + 298) := by
    rw [hL, hR, shz _ _ hq]; rfl
  have hfe : farE 32 ≤ 4196 := by decide
  refine one_32 neg false (Nm.wn (nZ 32 x * nZ 32 y)) p c L E .nilIface false false false false m5 (Nm.wn (tpV 32 x y)) (Nm.wl (tpV 32 x y)) w hT hg hs (by omega) (by omega) (fun w' hg' => ?_) (fun w' h => wsh_at2 _ p c L (E + 298) w' h hd ho (by omega) (by omega) (tpV 32 x y) hV (wl_len (by omega)))
  by_cases h0 : L.length = 0
  · rw [hm5, decide_eq_true h0, Bool.true_and]
    exact mk_zero neg _ p L.length c E w' hg' (by omega) h0
  · rw [hm5, decide_eq_false h0, Bool.false_and]
    exact mk_fin neg _ p L.length c E w' hg' (by omega) h0
theorem one_finP_64 (x y : Int) (hx : okF 64 x = true) (hy : okF 64 y = true) (fx : finB 64 x = true) (fy : finB 64 y = true) (neg : Bool) (L : List Int) (E : Int) (hL : L = Nm.wl (nZ 64 x * nZ 64 y)) (hE : E = nE 64 x + nE 64 y) (m5 : Bool) (hm5 : m5 = (decide (L.length = 0) && neg)) (p : Option Addr) (c : Nat) (w : World) (hT : Tab w) (hg : EA.ErrT w) (hs : Sl .u32 w (.slice p L.length c) L) :
    Calls Tryz.prog 68 #[.int .i64 64, .agg #[.bool neg, .bool false, .bool (Nm.wn (nZ 64 x * nZ 64 y)), .slice p L.length c, .int .i64 E], .nilIface] w fun r w' => ∃ a' c', r = .returned (.agg #[.int .i64 1, .bool false, .bool false, .bool false, .bool false, .bool m5, .int .i64 64, .bool (Nm.wn (tpV 64 x y)), .slice a' (Nm.wl (tpV 64 x y)).length c']) ∧ Own w' w.heap.size a' c' (Nm.wl (tpV 64 x y)) ∧ Below w.heap.size w w' := by
  have b1 := nZ_bd 64 x
  have b2 := nZ_bd 64 y
  have hl2 : L.length ≤ 200 := by rw [hL]; exact nZm_len 64 x y
  have hd : Nm.Dg L := by rw [hL]; exact Nm.wl_dg _
  have ho : okB (Nm.wn (nZ 64 x * nZ 64 y)) L = true := by rw [hL]; exact okB_wl (nZm_len 64 x y)
  obtain ⟨-, hq, hb⟩ := tp_eq hx hy fx fy
  have hR : E + 2148 = nE 64 x + nE 64 y - 2 * unQ 64 := by rw [hE]; have : unQ 64 = (-1074) := rfl; omega
  have hV : tpV 64 x y = Nm.shV (Nm.wn (nZ 64 x * nZ 64 y)) (Nm.val L) (E + 2148) := by
    rw [hL, hR, shz _ _ hq]; rfl
  have hfe : farE 64 ≤ 4196 := by decide
  refine one_64 neg false (Nm.wn (nZ 64 x * nZ 64 y)) p c L E .nilIface false false false false m5 (Nm.wn (tpV 64 x y)) (Nm.wl (tpV 64 x y)) w hT hg hs (by omega) (by omega) (fun w' hg' => ?_) (fun w' h => wsh_at2 _ p c L (E + 2148) w' h hd ho (by omega) (by omega) (tpV 64 x y) hV (wl_len (by omega)))
  by_cases h0 : L.length = 0
  · rw [hm5, decide_eq_true h0, Bool.true_and]
    exact mk_zero neg _ p L.length c E w' hg' (by omega) h0
  · rw [hm5, decide_eq_false h0, Bool.false_and]
    exact mk_fin neg _ p L.length c E w' hg' (by omega) h0
theorem accMI (fm : Int) (s : St) (x y : Int) (p : Option Addr) (cap : Nat) (u : Value) (w : World) (hE : EE u w) (hR : Rt fm s) (hx : okF fm x = true) (x0 : 0 ≤ x) (x1 : x < 18446744073709551616) (hy : okF fm y = true) (y0 : 0 ≤ y) (y1 : y < 18446744073709551616) (hT : s.T ≠ 1000000) (hs : Sl .u32 w (.slice p (Nm.wl s.z).length cap) (Nm.wl s.z)) (s' : St) (hs' : s' = s.add (tmM fm x y)) :
    Calls Tryz.prog 18 #[.agg #[.int .i64 fm, .bool (Nm.wn s.z), .slice p (Nm.wl s.z).length cap, .int .i64 s.T, .bool s.nn, .bool s.bd, .bool s.pl, .bool s.mi, .bool s.am], .int .u64 x, .int .u64 y] w fun r w' => ∃ a' c', r = .returned (.tuple #[.agg #[.int .i64 fm, .bool (Nm.wn s'.z), .slice a' (Nm.wl s'.z).length c', .int .i64 s'.T, .bool s'.nn, .bool s'.bd, .bool s'.pl, .bool s'.mi, .bool s'.am], .int .i64 0]) ∧ Own w' w.heap.size a' c' (Nm.wl s'.z) ∧ Below w.heap.size w w' := by
  subst hs'
  have hwv := Nm.wv_out s.z
  obtain ⟨hfm, hk1, ho, -⟩ := acc_parts hR
  have NX := numAt (u := u) hx x0 x1
  have NY := numAt (u := u) hy y0 y1
  have hft : Nm.fits s.z = true := by have := ok_fits (Nm.wl_dg _) ho (Nm.wn s.z); rwa [hwv] at this
  -- what is not finite: a number without a value
  have odd : ∀ (neg inf nk bk m1 m2 m3 m4 : Bool), ProdAt u fm x y neg inf false [] 0 nk bk → tmM fm x y = ⟨0, m1, m2, m3, m4, false⟩ →
      (∀ (ev : Value), EK u ev nk bk → ∀ (p : Option Addr) (c : Nat) (q : World), EA.ErrT q → Calls Tryz.prog 139 #[.agg #[.bool neg, .bool inf, .bool false, .slice p 0 c, .int .i64 0], ev] q fun r q' => r = .returned (.agg #[.int .i64 1, .bool m1, .bool m2, .bool m3, .bool m4, .bool false]) ∧ Below q.heap.size q q') →
      Calls Tryz.prog 18 #[.agg #[.int .i64 fm, .bool (Nm.wn s.z), .slice p (Nm.wl s.z).length cap, .int .i64 s.T, .bool s.nn, .bool s.bd, .bool s.pl, .bool s.mi, .bool s.am], .int .u64 x, .int .u64 y] w fun r w' => ∃ a' c', r = .returned (.tuple #[.agg #[.int .i64 fm, .bool (Nm.wn (s.add (tmM fm x y)).z), .slice a' (Nm.wl (s.add (tmM fm x y)).z).length c', .int .i64 (s.add (tmM fm x y)).T, .bool (s.add (tmM fm x y)).nn, .bool (s.add (tmM fm x y)).bd, .bool (s.add (tmM fm x y)).pl, .bool (s.add (tmM fm x y)).mi, .bool (s.add (tmM fm x y)).am], .int .i64 0]) ∧ Own w' w.heap.size a' c' (Nm.wl (s.add (tmM fm x y)).z) ∧ Below w.heap.size w w' := by
    intro neg inf nk bk m1 m2 m3 m4 hP e hm
    rw [e]
    have h := mulA_core fm (Nm.wn s.z) s.T s.nn s.bd s.pl s.mi s.am p cap (Nm.wl s.z) x y u w hE.t hE.g hE.q hs (Nm.wl_dg _) hR hx x0 x1 hy y0 y1 hT neg inf false [] 0 nk bk m1 m2 m3 m4 false false [] Nm.Dg.nil rfl s.z (by rw [hwv]; unfold Nm.wv Nm.val; simp) hft hP
      (fun ev kv a' c' w' t g h => one_odd fm hfm neg inf ev _ _ _ _ false w' t g a' c' h (fun q hq => hm ev kv a' c' q hq))
    rw [amW_no] at h
    simpa [St.add] using h
  cases hn : (nanB fm x || nanB fm y)
  · obtain ⟨nx, ny⟩ : nanB fm x = false ∧ nanB fm y = false := by simpa using hn
    have sx : nS fm x = sigB fm x := by unfold nS; rw [nx]; rfl
    have sy : nS fm y = sigB fm y := by unfold nS; rw [ny]; rfl
    have hodd := oddX_eq hx hy nx ny
    cases hod : oddX fm x y
    · rw [hod] at hodd
      cases hi : (nI fm x || nI fm y)
      · obtain ⟨ix, iy⟩ : nI fm x = false ∧ nI fm y = false := by simpa using hi
        have fx := (nan_cases hx nx).resolve_right (by rw [ix]; decide)
        have fy := (nan_cases hy ny).resolve_right (by rw [iy]; decide)
        have b1 := nZ_bd fm x
        have b2 := nZ_bd fm y
        have hl := nZm_len fm x y
        have e : tmM fm x y = ⟨tpV fm x y, false, false, false, false, decide (nZ fm x * nZ fm y = 0) && (sigB fm x != sigB fm y)⟩ := by unfold tmM; rw [hn, hod, hi]; rfl
        rw [e]
        rw [ix] at NX
        rw [iy] at NY
        have hP := prod_num fm x y u _ _ _ _ _ _ _ _ _ _ _ _ _ _ NX NY hn (nS fm x != nS fm y) false (Nm.wn (nZ fm x * nZ fm y)) (Nm.wl (nZ fm x * nZ fm y)) (nE fm x + nE fm y) false false
          (fun Q a1 c1 a2 c2 w hQ h1 h2 => (times_fin (nS fm x) (Nm.wn (nZ fm x)) (Nm.wl (nZ fm x)) (nE fm x) a1 c1 (nS fm y) (Nm.wn (nZ fm y)) (Nm.wl (nZ fm y)) (nE fm y) a2 c2 w (nS fm x != nS fm y) (Nm.wn (nZ fm x * nZ fm y)) (Nm.wl (nZ fm x * nZ fm y)) (nE fm x + nE fm y) rfl rfl (by omega) (by omega) (nZ_len fm x) (nZ_len fm y) h1.sl h2.sl
            (fun w' h1' h2' => mul_ok a1 a2 c1 c2 w' h1' h2' (Nm.wl_dg _) (Nm.wl_dg _) (okB_wl (nZ_len fm x)) (okB_wl (nZ_len fm y)) (nZ fm x * nZ fm y) (by rw [Nm.wv_out, Nm.wv_out]) (by unfold Nm.fits; exact decide_eq_true hl))).mono fun r w' ⟨a, c, hr, ho, hb⟩ => ⟨a, c, _, hr, EK.no, ho.base hQ, hb⟩)
        obtain ⟨-, -, hb⟩ := tp_eq hx hy fx fy
        have hfe : farE fm ≤ 4196 := by unfold farE; split <;> omega
        have hlV := wl_len (V := tpV fm x y) (by omega)
        have hfit := add_fits (Nm.wl_dg _) hR (V := tpV fm x y) (by omega)
        rw [hwv] at hfit
        obtain ⟨L, hL⟩ : ∃ L, L = Nm.wl (nZ fm x * nZ fm y) := ⟨_, rfl⟩
        have hlz : decide (nZ fm x * nZ fm y = 0) = decide (L.length = 0) := by
          rw [hL, Bool.eq_iff_iff, decide_eq_true_eq, decide_eq_true_eq]; unfold Nm.wl; rw [Nm.lim_length_zero]; omega
        rw [← hL] at hP
        have h := mulA_core fm (Nm.wn s.z) s.T s.nn s.bd s.pl s.mi s.am p cap (Nm.wl s.z) x y u w hE.t hE.g hE.q hs (Nm.wl_dg _) hR hx x0 x1 hy y0 y1 hT (nS fm x != nS fm y) false _ L (nE fm x + nE fm y) false false false false false false (decide (L.length = 0) && (nS fm x != nS fm y)) (Nm.wn (tpV fm x y)) (Nm.wl (tpV fm x y)) (Nm.wl_dg _) (okB_wl hlV) (s.z + tpV fm x y) (by rw [Nm.wv_out, Nm.wv_out]) hfit hP
          (fun ev kv a' c' w' t g h => by
            cases kv
            rcases fmt_cases hfm with rfl | rfl
            · exact one_finP_32 x y hx hy fx fy _ L _ hL rfl _ rfl a' c' w' t g h
            · exact one_finP_64 x y hx hy fx fy _ L _ hL rfl _ rfl a' c' w' t g h)
        have e5 : amW s.T s.am 1 (decide (L.length = 0) && (nS fm x != nS fm y)) = (decide (nZ fm x * nZ fm y = 0) && (sigB fm x != sigB fm y) && (s.am || decide (s.T = 0))) := by
          rw [hlz, sx, sy]; unfold amW
          rw [show decide ((1 : Int) = 0) = false from rfl]
          cases decide (L.length = 0) <;> cases (sigB fm x != sigB fm y) <;> cases s.am <;> cases decide (s.T = 0) <;> rfl
        rw [e5] at h
        simpa [St.add] using h
      · have e : tmM fm x y = ⟨0, false, false, !(sigB fm x != sigB fm y), sigB fm x != sigB fm y, false⟩ := by unfold tmM; rw [hn, hod, hi]; rfl
        have hP := prod_num fm x y u _ _ _ _ _ _ _ _ _ _ _ _ _ _ NX NY hn (nS fm x != nS fm y) true false [] 0 false false
          (fun Q a1 c1 a2 c2 w hQ h1 h2 => (times_inf (nS fm x) (nI fm x) (Nm.wn (nZ fm x)) (Nm.wl (nZ fm x)) (nE fm x) a1 c1 (nS fm y) (nI fm y) (Nm.wn (nZ fm y)) (Nm.wl (nZ fm y)) (nE fm y) a2 c2 w (nZ_len fm x) (nZ_len fm y) hodd hi _ rfl).mono fun r w' ⟨hr, hb⟩ => ⟨none, 0, _, hr, EK.no, Own.nil _ _, hb⟩)
        refine odd _ _ _ _ _ _ _ _ hP e (fun ev kv p c q hq => ?_)
        cases kv
        have := mk_inf (nS fm x != nS fm y) false p 0 c 0 q hq (by decide)
        rw [sx, sy] at this ⊢
        exact this
    · rw [hod] at hodd
      have e : tmM fm x y = ⟨0, true, true, false, false, false⟩ := by unfold tmM; rw [hn, hod]; simp
      have hP := prod_num fm x y u _ _ _ _ _ _ _ _ _ _ _ _ _ _ NX NY hn false false false [] 0 true true
          (fun Q a1 c1 a2 c2 w hQ h1 h2 => (times_odd (nS fm x) (nI fm x) (Nm.wn (nZ fm x)) (Nm.wl (nZ fm x)) (nE fm x) a1 c1 (nS fm y) (nI fm y) (Nm.wn (nZ fm y)) (Nm.wl (nZ fm y)) (nE fm y) a2 c2 w (nZ_len fm x) (nZ_len fm y) hodd).mono fun r w' ⟨s, hr, hb⟩ => ⟨none, 0, _, hr, EK.bad s, Own.nil _ _, hb⟩)
      refine odd _ _ _ _ _ _ _ _ hP e (fun ev kv p c q hq => ?_)
      cases kv with
      | bad sb => exact mk_bad sb false p 0 c 0 q hq (by decide) rfl
  · have hod := odd_no hx hy hn
    have e : tmM fm x y = ⟨0, true, nB fm x || nB fm y, false, false, false⟩ := by unfold tmM; rw [hn, hod]; simp
    have hP := prod_nan fm x y u _ _ _ _ _ _ _ _ _ _ _ _ _ _ NX NY hn _ rfl
    obtain ⟨bb, hbb⟩ : ∃ bb, bb = (nB fm x || nB fm y) := ⟨_, rfl⟩
    rw [← hbb] at hP e
    refine odd _ _ _ _ _ _ _ _ hP e (fun ev kv p c q hq => ?_)
    cases kv with
    | quiet => exact mk_quiet u false p 0 c 0 q hq (by decide) rfl
    | bad sb => exact mk_bad sb false p 0 c 0 q hq (by decide) rfl
end Go.Proofs.YtapjclcjojadaaaGreatDoor
