/-
  What is needed of FM, FN, FO, FC.
-/
import Derived.Test.YtmcflggionkhlaaGreatDoorH35
import Derived.Test.YtmcflggionkhlaaGreatDoorH36
set_option maxHeartbeats 16000000
set_option maxRecDepth 1000000
namespace Go.Proofs.YtmcflggionkhlaaGreatDoor
set_option linter.unusedVariables false
set_option linter.unusedSimpArgs false
open Go.RowKit Go.Deep
theorem sl64_1 (w : World) (x : Int) (t : TypeId) : Sl .u64 (w.alloc (.cells #[.int .u64 x] t)) (.slice (some ⟨w.heap.size, 0, none⟩) [x].length 1) [x] :=
  ⟨_, 1, rfl, Nat.le_refl _, by unfold maxLen; omega, .inr ⟨w.heap.size, 0, rfl, fun i hi => by
    have : i = 0 := by simpa using hi
    subst this; simp⟩⟩
theorem sl64_2 (w : World) (x y : Int) (t : TypeId) : Sl .u64 (w.alloc (.cells #[.int .u64 x, .int .u64 y] t)) (.slice (some ⟨w.heap.size, 0, none⟩) [x, y].length 2) [x, y] :=
  ⟨_, 2, rfl, Nat.le_refl _, by unfold maxLen; simp, .inr ⟨w.heap.size, 0, rfl, fun i hi => by
    have h2 : i < 2 := by simpa using hi
    match i, h2 with
    | 0, _ => simp
    | 1, _ => simp⟩⟩
theorem d64_1 {x : Int} (x0 : 0 ≤ x) (x1 : x < 18446744073709551616) : D64 [x] := fun z hz => by
  simp only [List.mem_cons, List.not_mem_nil, or_false] at hz; subst hz; exact ⟨x0, x1⟩
theorem d64_2 {x y : Int} (x0 : 0 ≤ x) (x1 : x < 18446744073709551616) (y0 : 0 ≤ y) (y1 : y < 18446744073709551616) : D64 [x, y] := fun z hz => by
  simp only [List.mem_cons, List.not_mem_nil, or_false] at hz; rcases hz with rfl | rfl
  · exact ⟨x0, x1⟩
  · exact ⟨y0, y1⟩
def zF (fm x : Int) : Bool := absF fm x == 0
theorem zF_fin {fm x : Int} (hx : okF fm x = true) (hf : finB fm x = true) : zF fm x = decide (nZ fm x = 0) := by
  have hM := pM_bd fm x
  have e : (nZ fm x = 0) ↔ pM fm x = 0 := by
    rw [(fin_facts hx hf).2.2.1]; cases pS fm x <;> simp
  have h := cls_zero hx
  show (absF fm x == 0) = _
  rw [← h, Bool.eq_iff_iff, beq_iff_eq, decide_eq_true_eq, e]
  constructor
  · intro h
    have ha : (absF fm x == 0) = true := by rw [← cls_zero hx, h]; rfl
    have ha' : absF fm x = 0 := by simpa using ha
    unfold pM; rw [hf, if_pos rfl]
    rcases okF_cases hx with ⟨rfl, hx'⟩ | rfl
    · rw [abs32 hx'] at ha'
      rw [if_pos rfl, ha']; rfl
    · rw [abs64] at ha'
      rw [if_neg (by decide), ha']; rfl
  · intro h
    have hc : 0 ≤ cls fm x ∧ cls fm x ≤ 2 := by simpa [finB] using hf
    by_cases h12 : cls fm x = 1 ∨ cls fm x = 2
    · have := (pM_pos h12).2; omega
    · omega
theorem nan_cases {fm x : Int} (hx : okF fm x = true) (h : nanB fm x = false) : finB fm x = true ∨ nI fm x = true := by
  rcases cls_sixE hx with hf | h3 | h4 | h5
  · exact .inl hf
  · exact .inr (by unfold nI; rw [h3]; rfl)
  · rw [nan_ofE hx, h4] at h; simp at h
  · rw [nan_ofE hx, h5] at h; simp at h
theorem nZ_bd (fm x : Int) : (nZ fm x).natAbs < 9007199254740992 ∧ -1074 ≤ nE fm x ∧ nE fm x ≤ 2000 := by
  have h1 := pM_bd fm x
  have h2 := pE_bd fm x
  unfold nZ nE
  cases finB fm x
  · simp
  · simp; refine ⟨?_, h2⟩; cases pS fm x <;> simp <;> omega
theorem wl_of {z : Int} {k : Nat} (h : z.natAbs < 2 ^ k) (hk : k ≤ 6400) : (Nm.wl z).length ≤ 200 := by
  unfold Nm.wl; exact lim_len (k := 200) (by have := (Nm.bl_le_iff z.natAbs k).2 h; omega)
theorem nZ_len (fm x : Int) : (Nm.wl (nZ fm x)).length ≤ 200 := wl_of (k := 53) (by have := (nZ_bd fm x).1; omega) (by decide)
theorem rdo_any {fm mode : Int} {z e : Int} (hf : fmtB fm = true) (hm : modeB mode = true) (hl : (Nm.wl z).length ≤ 200) (h0 : -10000 ≤ e) (h1 : e ≤ 10000) : RdO fm mode (Nm.wn z) (Nm.wl z) e = true := by
  unfold RdO inZ; rw [hf, hm, okB_wl hl, decide_eq_true h0, decide_eq_true h1]; rfl
theorem l3r_any (fm mode : Int) (z e : Int) (p : Option Addr) (cap : Nat) (w : World) (hs : Sl .u32 w (.slice p (Nm.wl z).length cap) (Nm.wl z)) (hz : z ≠ 0) (ho : RdO fm mode (Nm.wn z) (Nm.wl z) e = true) :
    Calls Tryz.prog 103 #[.int .i64 fm, .int .i64 mode, .agg #[.bool (Nm.wn z), .slice p (Nm.wl z).length cap], .int .i64 e] w fun x w' => x = .returned (.tuple #[.int .u64 (RdB fm mode (Nm.wn z) (Nm.wl z) e), .int .i64 (RdF fm mode (Nm.wn z) (Nm.wl z) e)]) ∧ Below w.heap.size w w' := by
  have h0 : (Nm.wl z).length ≠ 0 := by unfold Nm.wl; rw [Ne, Nm.lim_length_zero]; omega
  have hf : fmtB fm = true := by unfold RdO at ho; simp only [Bool.and_eq_true] at ho; exact ho.1.1.1
  rcases fmt_cases hf with rfl | rfl
  · exact l3r_at32 mode (Nm.wn z) (Nm.wl z) e p cap w hs (Nm.wl_dg _) h0 ho
  · exact l3r_at64 mode (Nm.wn z) (Nm.wl z) e p cap w hs (Nm.wl_dg _) h0 ho
/-- A product, of all floats. -/
def muO (fm mode x y : Int) : Bool := modeB mode && allB fm [x, y]
theorem all2 {fm x y : Int} (h : allB fm [x, y] = true) : okF fm x = true ∧ okF fm y = true := by
  unfold allB at h; simpa using h
theorem all2_fmt {fm mode x y : Int} : (allB fm [x, y] && fmtB fm && modeB mode) = (modeB mode && allB fm [x, y]) := by
  cases h : allB fm [x, y]
  · simp
  · rw [ok_fmt (all2 h).1]; simp
theorem told_any (fm mode : Int) (hfm : fmtB fm = true) (neg inf G : Bool) (L : List Int) (e : Int) (p : Option Addr) (cap : Nat) (u ev : Value) (n b : Bool) (hk : EK u ev n b) (w : World) (hT : T3 w) (hg : EA.ErrT w) (hs : Sl .u32 w (.slice p L.length cap) L) (hd : Nm.Dg L) (hl : L.length ≤ 200) (rb rf : Int) (hro : n = false → inf = false → L.length ≠ 0 → RdO fm mode G L e = true ∧ rb = RdB fm mode G L e ∧ rf = RdF fm mode G L e) (B F : Int) (hB : B = tdB (nanOf fm) (infOf fm) (sgOf fm) n inf (decide (L.length = 0)) neg rb) (hF : F = tdF n b inf (decide (L.length = 0)) rf) :
    Calls Tryz.prog 88 #[.int .i64 fm, .int .i64 mode, .agg #[.bool neg, .bool inf, .bool G, .slice p L.length cap, .int .i64 e], ev] w fun r w' => r = .returned (.tuple #[.int .u64 B, .int .i64 F, .bool true]) ∧ Below w.heap.size w w' := by
  subst hB hF
  rcases fmt_cases hfm with rfl | rfl
  · exact told_32 mode neg inf G L e p cap u ev n b hk w hT hg hs hd hl rb rf hro
  · exact told_64 mode neg inf G L e p cap u ev n b hk w hT hg hs hd hl rb rf hro
theorem numAt {u : Value} {fm x : Int} (hx : okF fm x = true) (x0 : 0 ≤ x) (x1 : x < 18446744073709551616) : NumAt u fm x (nS fm x) (nI fm x) (Nm.wn (nZ fm x)) (Nm.wl (nZ fm x)) (nE fm x) (nanB fm x) (nB fm x) :=
  fun w hE => num_all fm x u w hE hx x0 x1 _ _ _ _ _ _ _ rfl rfl rfl rfl rfl rfl rfl
theorem nI_z {fm x : Int} (hx : okF fm x = true) (h : nI fm x = true) : nZ fm x = 0 := by
  have h3 : cls fm x = 3 := by simpa [nI] using h
  have hf : finB fm x = false := by unfold finB; rw [h3]; decide
  exact (odd_facts hx hf).1
theorem abs_sig {fm x : Int} (hx : okF fm x = true) (x0 : 0 ≤ x) (x1 : x < 18446744073709551616) : x = sgn (sgOf fm) (absF fm x) (sigB fm x) := by
  rcases okF_cases hx with ⟨rfl, hx'⟩ | rfl
  · have e := abs32 hx'
    unfold sgn sigB sgOf
    rw [e, if_pos (show ((32 : Int) = 32) from rfl)]
    by_cases h : x = x % 2147483648
    · rw [if_neg (by simpa using h)]; exact h
    · rw [if_pos (by simpa using h)]; omega
  · have e := abs64 (x := x)
    unfold sgn sigB sgOf
    rw [e, if_neg (show ¬ ((64 : Int) = 32) by decide)]
    by_cases h : x = x % 9223372036854775808
    · rw [if_neg (by simpa using h)]; exact h
    · rw [if_pos (by simpa using h)]; omega
theorem all1 {fm x : Int} : allB fm [x] = okF fm x := by unfold allB; simp
theorem all1_fmt {fm mode x : Int} : (allB fm [x] && fmtB fm && modeB mode) = (modeB mode && okF fm x) := by
  rw [all1]
  cases h : okF fm x
  · simp
  · rw [ok_fmt h]; simp
/-- A scaled float. -/
def scO (fm mode x n : Int) : Bool := modeB mode && okF fm x && inB n (-5000) 5000
def scB (fm mode x n : Int) : Int := if scO fm mode x n then (if nanB fm x then nanOf fm else if nI fm x || zF fm x then x else RdB fm mode (Nm.wn (nZ fm x)) (Nm.wl (nZ fm x)) (nE fm x + n)) else 0
def scF (fm mode x n : Int) : Int := if scO fm mode x n then (if nanB fm x then fl8 (nB fm x) else if nI fm x || zF fm x then 0 else RdF fm mode (Nm.wn (nZ fm x)) (Nm.wl (nZ fm x)) (nE fm x + n)) else 0
theorem sc_no {fm mode x n : Int} (h : scO fm mode x n = false) : scB fm mode x n = 0 ∧ scF fm mode x n = 0 := by unfold scB scF; rw [h]; exact ⟨rfl, rfl⟩
theorem sc_spec (fm mode x n : Int) (w : World) (x0 : 0 ≤ x) (x1 : x < 18446744073709551616) (B F : Int) (O : Bool) (hB : B = scB fm mode x n) (hF : F = scF fm mode x n) (hO : O = scO fm mode x n) :
    Calls Tryz.prog 153 #[.int .i64 fm, .int .i64 mode, .int .u64 x, .int .i64 n] w fun r w' => r = .returned (.tuple #[.int .u64 B, .int .i64 F, .bool O]) ∧ Below w.heap.size w w' := by
  have dx := d64_1 x0 x1
  have CF := hid (fun w' h => l4form fm mode (some ⟨w.heap.size, 0, none⟩) 1 [x] w' h (by simp))
  rw [all1_fmt] at CF
  have CI := hid (fun w' => in_spec n (-5000) 5000 w')
  have s2 := sl64_1 w x 24
  cases ho1 : (modeB mode && okF fm x)
  · have ho : scO fm mode x n = false := by unfold scO; rw [ho1]; rfl
    obtain ⟨e1, e2⟩ := sc_no ho
    rw [e1] at hB; rw [e2] at hF; rw [ho] at hO
    subst hB hF hO
    rw [ho1] at CF
    clear ho ho1 e1 e2 dx
    go_enter Tryz.func153, Tryz.ntmps153
    go_wp2_with fail
    refine (CF.out _ s2).mono ?_
    rintro r w1 ⟨rfl, hb1⟩
    go_wp2
    go_ret3
    exact ⟨rfl, (by repeat (first | exact bz0 _ _ | refine bz1 ?_ | refine bz2 ?_ _ | refine bz3 ?_ _ | refine bz4 ?_ hb1 | refine bz5 ?_ _ | refine bz6 ?_ _ | refine bz7 ?_ hb1))⟩
  rw [ho1] at CF
  cases hin : inB n (-5000) 5000
  · have ho : scO fm mode x n = false := by unfold scO; rw [ho1, hin]; rfl
    obtain ⟨e1, e2⟩ := sc_no ho
    rw [e1] at hB; rw [e2] at hF; rw [ho] at hO
    subst hB hF hO
    rw [hin] at CI
    clear ho ho1 e1 e2 dx hin
    go_enter Tryz.func153, Tryz.ntmps153
    go_wp2_with fail
    refine (CF.out _ s2).mono ?_
    rintro r w1 ⟨rfl, hb1⟩
    go_wp2_with fail
    refine (CI.out _).mono ?_
    rintro r w2 ⟨rfl, rfl⟩
    go_wp2
    go_ret3
    exact ⟨rfl, (by repeat (first | exact bz0 _ _ | refine bz1 ?_ | refine bz2 ?_ _ | refine bz3 ?_ _ | refine bz4 ?_ hb1 | refine bz5 ?_ _ | refine bz6 ?_ _ | refine bz7 ?_ hb1))⟩
  rw [hin] at CI
  have ho : scO fm mode x n = true := by unfold scO; rw [ho1, hin]; rfl
  obtain ⟨hm, hx⟩ : modeB mode = true ∧ okF fm x = true := by simpa using ho1
  have hn0 : -5000 ≤ n ∧ n ≤ 5000 := by unfold inB at hin; simpa using hin
  have hfm := ok_fmt hx
  have CN := hid (fun a w' h => l4nan fm a 1 [x] w' h dx (by simp) hfm (by rw [all1]; exact hx))
  have e1 : [x].any (nanB fm) = nanB fm x := by simp
  have e2 : [x].any (nB fm) = nB fm x := by simp
  rw [e1, e2] at CN
  rw [ho] at hO
  subst hO
  unfold scB at hB
  unfold scF at hF
  rw [ho, if_pos rfl] at hB hF
  cases hn : nanB fm x
  · rw [hn, if_neg (by decide)] at hB hF
    rw [hn] at CN
    have C1 := hid (fun w' => inf4 fm x w' hx x0 x1 _ rfl)
    have C2 := hid (fun w' => zer4 fm x w' hx x0 x1 (zF fm x) rfl)
    obtain ⟨q1, hq1⟩ : ∃ i, i = nanOf fm := ⟨_, rfl⟩
    obtain ⟨q2, hq2⟩ : ∃ i : Int, i = fl8 (nB fm x) := ⟨_, rfl⟩
    rw [← hq1, ← hq2] at CN
    cases hi : nI fm x
    · rw [hi] at C1 hB hF
      cases hz : zF fm x
      · rw [hz] at C2 hB hF
        have hB' : B = RdB fm mode (Nm.wn (nZ fm x)) (Nm.wl (nZ fm x)) (nE fm x + n) := hB
        have hF' : F = RdF fm mode (Nm.wn (nZ fm x)) (Nm.wl (nZ fm x)) (nE fm x + n) := hF
        have hf := (nan_cases hx hn).resolve_right (by rw [hi]; decide)
        obtain ⟨fx1, fx2, fx3, fx4, -, -⟩ := fin_facts hx hf
        have bx := pM_bd fm x
        have ex := pE_bd fm x
        have hnz : nZ fm x ≠ 0 := by rw [zF_fin hx hf] at hz; exact of_decide_eq_false hz
        have CP := hid (fun w' => sparts_any fm x w' hf x0 x1)
        have U1 := hid (fun w' => l1uint_z (pM fm x) (pS fm x) w' bx.1 (by omega))
        rw [← fx3] at U1
        have CR := hid (fun p c w' h => l3r_any fm mode (nZ fm x) (nE fm x + n) p c w' h hnz (rdo_any hfm hm (nZ_len fm x) (by rw [fx4]; omega) (by rw [fx4]; omega)))
        simp only [← hB', ← hF'] at CR
        rw [fx4] at CR
        obtain ⟨sg, hsg⟩ : ∃ s, s = pS fm x := ⟨_, rfl⟩
        obtain ⟨m, hm'⟩ : ∃ s, s = pM fm x := ⟨_, rfl⟩
        obtain ⟨e, he⟩ : ∃ s, s = pE fm x := ⟨_, rfl⟩
        obtain ⟨G, hG⟩ : ∃ s, s = Nm.wn (nZ fm x) := ⟨_, rfl⟩
        obtain ⟨L, hL⟩ : ∃ s, s = Nm.wl (nZ fm x) := ⟨_, rfl⟩
        rw [← hsg, ← hm', ← he] at CP
        rw [← hsg, ← hm', ← hG, ← hL] at U1
        simp only [← hG, ← hL, ← he] at CR
        rw [← hm'] at bx
        rw [← he] at ex
        have hwE : IntKind.i64.wrap (e + n) = e + n := by rw [IntKind.wrap_i64]; omega
        have hw1 : IntKind.u64.wrap m = m := by rw [IntKind.wrap_u64]; omega
        clear hsg hm' he hG hL hB hF hB' hF' hn ho ho1 dx e1 e2 hm hx hfm hin hq1 hq2 hf fx1 fx2 fx3 fx4 hi hz hnz
        go_enter Tryz.func153, Tryz.ntmps153
        go_wp2_with fail
        refine (CF.out _ s2).mono ?_
        rintro r w1 ⟨rfl, hb1⟩
        go_wp2_with fail
        refine (CI.out _).mono ?_
        rintro r w2 ⟨rfl, rfl⟩
        go_wp2_with fail
        refine (CN.out _ _ (sl64_1 w2 x 24)).mono ?_
        rintro r w3 ⟨rfl, hb3⟩
        go_wp2_with fail
        refine (C1.out _).mono ?_
        rintro r w4 ⟨rfl, hb4⟩
        go_wp2_with fail
        refine (C2.out _).mono ?_
        rintro r w5 ⟨rfl, hb5⟩
        go_wp2_with fail
        refine (CP.out _).mono ?_
        rintro r w6 ⟨rfl, hb6⟩
        have P := R3.new w6 (.bool sg) (.int .i64 m) (.int .i64 e) 77
        have bel6 : Below w.heap.size w w6 := (by repeat (first | exact bz0 _ _ | refine bz1 ?_ | refine bz2 ?_ _ | refine bz3 ?_ _ | refine bz4 ?_ hb6 | refine bz4 ?_ hb5 | refine bz4 ?_ hb4 | refine bz4 ?_ hb3 | refine bz4 ?_ hb1 | refine bz5 ?_ _ | refine bz6 ?_ _ | refine bz7 ?_ hb6 | refine bz7 ?_ hb5 | refine bz7 ?_ hb4 | refine bz7 ?_ hb3 | refine bz7 ?_ hb1))
        have Pd := P.dr
        have pd := And.intro Pd.c0 (And.intro Pd.c1 Pd.c2)
        clear hb6 hb5 hb4 hb3 hb1 s2
        go_wp2_with fail
        go_region_held3 (fun w' => w'.cell? ⟨w6.heap.size, 0, none⟩ = some (.bool sg) ∧ w'.cell? ⟨w6.heap.size, 1, none⟩ = some (.int .i64 m) ∧ w'.cell? ⟨w6.heap.size, 2, none⟩ = some (.int .i64 e))
          (first | with_reducible assumption | with_reducible exact pd | fail)
          (first
            | (go_at_call 114; refine (U1.out _).mono ?_; rintro r q1' ⟨a1, k1, rfl, hp1, hq1⟩; have P1 := Pd.below hq1; have u1 := And.intro P1.c0 (And.intro P1.c1 P1.c2))
            | (go_at_call 103; refine (CR.out a1 k1 _ hp1.sl).mono ?_; rintro r q2' ⟨rfl, hq2⟩; have P2 := P1.below hq2; have u2 := And.intro P2.c0 (And.intro P2.c1 P2.c2)))
        go_wp2
        go_ret3
        exact ⟨rfl, (by repeat (first | exact bz0 _ _ | refine bz1 ?_ | refine bz2 ?_ _ | refine bz3 ?_ _ | refine bz4 ?_ hq2 | refine bz4 ?_ hq1 | refine bz4 ?_ bel6 | refine bz5 ?_ _ | refine bz6 ?_ _ | refine bz7 ?_ hq2 | refine bz7 ?_ hq1 | refine bz7 ?_ bel6))⟩
      · rw [hz] at C2 hB hF
        have hB' : B = x := hB
        have hF' : F = 0 := hF
        subst hB' hF'
        clear hB hF hn ho ho1 dx e1 e2 hm hx hfm hin hq1 hq2 hi hz
        go_enter Tryz.func153, Tryz.ntmps153
        go_wp2_with fail
        refine (CF.out _ s2).mono ?_
        rintro r w1 ⟨rfl, hb1⟩
        go_wp2_with fail
        refine (CI.out _).mono ?_
        rintro r w2 ⟨rfl, rfl⟩
        go_wp2_with fail
        refine (CN.out _ _ (sl64_1 w2 B 24)).mono ?_
        rintro r w3 ⟨rfl, hb3⟩
        go_wp2_with fail
        refine (C1.out _).mono ?_
        rintro r w4 ⟨rfl, hb4⟩
        go_wp2_with fail
        refine (C2.out _).mono ?_
        rintro r w5 ⟨rfl, hb5⟩
        go_wp2
        go_ret3
        exact ⟨rfl, (by repeat (first | exact bz0 _ _ | refine bz1 ?_ | refine bz2 ?_ _ | refine bz3 ?_ _ | refine bz4 ?_ hb5 | refine bz4 ?_ hb4 | refine bz4 ?_ hb3 | refine bz4 ?_ hb1 | refine bz5 ?_ _ | refine bz6 ?_ _ | refine bz7 ?_ hb5 | refine bz7 ?_ hb4 | refine bz7 ?_ hb3 | refine bz7 ?_ hb1))⟩
    · rw [hi] at C1 hB hF
      have hB' : B = x := hB
      have hF' : F = 0 := hF
      subst hB' hF'
      clear hB hF hn ho ho1 dx e1 e2 hm hx hfm hin hq1 hq2 hi C2
      go_enter Tryz.func153, Tryz.ntmps153
      go_wp2_with fail
      refine (CF.out _ s2).mono ?_
      rintro r w1 ⟨rfl, hb1⟩
      go_wp2_with fail
      refine (CI.out _).mono ?_
      rintro r w2 ⟨rfl, rfl⟩
      go_wp2_with fail
      refine (CN.out _ _ (sl64_1 w2 B 24)).mono ?_
      rintro r w3 ⟨rfl, hb3⟩
      go_wp2_with fail
      refine (C1.out _).mono ?_
      rintro r w4 ⟨rfl, hb4⟩
      go_wp2
      go_ret3
      exact ⟨rfl, (by repeat (first | exact bz0 _ _ | refine bz1 ?_ | refine bz2 ?_ _ | refine bz3 ?_ _ | refine bz4 ?_ hb4 | refine bz4 ?_ hb3 | refine bz4 ?_ hb1 | refine bz5 ?_ _ | refine bz6 ?_ _ | refine bz7 ?_ hb4 | refine bz7 ?_ hb3 | refine bz7 ?_ hb1))⟩
  · rw [hn, if_pos rfl] at hB hF
    rw [hn] at CN
    rw [← hB, ← hF] at CN
    clear hB hF hn ho ho1 dx e1 e2 hm hx hfm hin
    go_enter Tryz.func153, Tryz.ntmps153
    go_wp2_with fail
    refine (CF.out _ s2).mono ?_
    rintro r w1 ⟨rfl, hb1⟩
    go_wp2_with fail
    refine (CI.out _).mono ?_
    rintro r w2 ⟨rfl, rfl⟩
    go_wp2_with fail
    refine (CN.out _ _ (sl64_1 w2 x 24)).mono ?_
    rintro r w3 ⟨rfl, hb3⟩
    go_wp2
    go_ret3
    exact ⟨rfl, (by repeat (first | exact bz0 _ _ | refine bz1 ?_ | refine bz2 ?_ _ | refine bz3 ?_ _ | refine bz4 ?_ hb3 | refine bz4 ?_ hb1 | refine bz5 ?_ _ | refine bz6 ?_ _ | refine bz7 ?_ hb3 | refine bz7 ?_ hb1))⟩
end Go.Proofs.YtmcflggionkhlaaGreatDoor
