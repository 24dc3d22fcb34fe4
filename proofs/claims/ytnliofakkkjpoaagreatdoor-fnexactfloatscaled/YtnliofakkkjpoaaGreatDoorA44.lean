/-
  What is needed of FC.
-/
import Derived.Test.YtnliofakkkjpoaaGreatDoorA39
import Derived.Test.YtnliofakkkjpoaaGreatDoorA42
set_option maxHeartbeats 16000000
set_option maxRecDepth 1000000
namespace Go.Proofs.YtnliofakkkjpoaaGreatDoor
set_option linter.unusedVariables false
set_option linter.unusedSimpArgs false
open Go.RowKit Go.Deep
theorem all1 {fm x : Int} : allB fm [x] = okF fm x := by unfold allB; simp
theorem all1_fmt {fm mode x : Int} : (allB fm [x] && fmtB fm && modeB mode) = (modeB mode && okF fm x) := by
  rw [all1]
  cases h : okF fm x
  · simp
  · rw [ok_fmt h]; simp
/-- A scaled float. -/
def scO (fm mode x n : Int) : Bool := modeB mode && okF fm x && inB n (-5000) 5000
def scB (fm mode x n : Int) : Int := if scO fm mode x n then (if nanB fm x then nanOf fm else if nI fm x || zF fm x then x else RdB fm mode (Nm.wn (nZ fm x)) (Nm.wl (nZ fm x)) (nE fm x + n)) else 0
def scF (fm mode x n : Int) : Int := if scO fm mode x n then (if nanB fm x then fl8 (nB fm x) else if nI fm x || zF fm x then 0 else RdF fm mode (Nm.wn (nZ fm x)) (Nm.wl (nZ fm x)) (nE fm x + n)) else 0
theorem sc_no {fm mode x n : Int} (h : scO fm mode x n = false) : scB fm mode x n = 0 ∧ scF fm mode x n = 0 := by unfold scB scF; rw [h]; exact ⟨rfl, rfl⟩
theorem sc_spec (fm mode x n : Int) (w : World) (x0 : 0 ≤ x) (x1 : x < 18446744073709551616) (B F : Int) (O : Bool) (hB : B = scB fm mode x n) (hF : F = scF fm mode x n) (hO : O = scO fm mode x n) :
    Calls Tryz.prog 35 #[.int .i64 fm, .int .i64 mode, .int .u64 x, .int .i64 n] w fun r w' => r = .returned (.tuple #[.int .u64 B, .int .i64 F, .bool O]) ∧ Below w.heap.size w w' := by
  have dx := d64_1 x0 x1
  have CF := hid (fun w' h => l4form fm mode (some ⟨w.heap.size, 0, none⟩) 1 [x] w' h (by simp))
  rw [all1_fmt] at CF
  have CI := hid (fun w' => in_spec n (-5000) 5000 w')
  have s2 := sl64_1 w x 27
  cases ho1 : (modeB mode && okF fm x)
  · have ho : scO fm mode x n = false := by unfold scO; rw [ho1]; rfl
    obtain ⟨e1, e2⟩ := sc_no ho
    rw [e1] at hB; rw [e2] at hF; rw [ho] at hO
    subst hB hF hO
    rw [ho1] at CF
    clear ho ho1 e1 e2 dx
    go_enter Tryz.func35, Tryz.ntmps35
    go_wp2_with fail
    refine (CF.out _ s2).mono ?_
    rintro r w1 ⟨rfl, hb1⟩
    go_wp2
    go_ret3
    exact ⟨rfl, (by repeat (first | exact bz0 _ _ | refine bz1 ?_ | refine bz2 ?_ _ | refine bz3 ?_ _ | refine bz4 ?_ hb1 | refine bz5 ?_ _ | refine bz6 ?_ _ | refine bz7 ?_ hb1))⟩
  rw [ho1] at CF
  cases hin : inB n (-5000) 5000
  · have ho : scO fm mode x n = false := by unfold scO; rw [ho1, hin]; rfl
    obtain ⟨e1, e2⟩ := sc_no ho
    rw [e1] at hB; rw [e2] at hF; rw [ho] at hO
    subst hB hF hO
    rw [hin] at CI
    clear ho ho1 e1 e2 dx hin
    go_enter Tryz.func35, Tryz.ntmps35
    go_wp2_with fail
    refine (CF.out _ s2).mono ?_
    rintro r w1 ⟨rfl, hb1⟩
    go_wp2_with fail
    refine (CI.out _).mono ?_
    rintro r w2 ⟨rfl, rfl⟩
    go_wp2
    go_ret3
    exact ⟨rfl, (by repeat (first | exact bz0 _ _ | refine bz1 ?_ | refine bz2 ?_ _ | refine bz3 ?_ _ | refine bz4 ?_ hb1 | refine bz5 ?_ _ | refine bz6 ?_ _ | refine bz7 ?_ hb1))⟩
  rw [hin] at CI
  have ho : scO fm mode x n = true := by unfold scO; rw [ho1, hin]; rfl
  obtain ⟨hm, hx⟩ : modeB mode = true ∧ okF fm x = true := by simpa using ho1
  have hn0 : -5000 ≤ n ∧ n ≤ 5000 := by unfold inB at hin; simpa using hin
  have hfm := ok_fmt hx
  have CN := hid (fun a w' h => l4nan fm a 1 [x] w' h dx (by simp) hfm (by rw [all1]; exact hx))
  have e1 : [x].any (nanB fm) = nanB fm x := by simp
  have e2 : [x].any (nB fm) = nB fm x := by simp
  rw [e1, e2] at CN
  rw [ho] at hO
  subst hO
  unfold scB at hB
  unfold scF at hF
  rw [ho, if_pos rfl] at hB hF
  cases hn : nanB fm x
  · rw [hn, if_neg (by decide)] at hB hF
    rw [hn] at CN
    have C1 := hid (fun w' => inf4 fm x w' hx x0 x1 _ rfl)
    have C2 := hid (fun w' => zer4 fm x w' hx x0 x1 (zF fm x) rfl)
    obtain ⟨q1, hq1⟩ : ∃ i, i = nanOf fm := ⟨_, rfl⟩
    obtain ⟨q2, hq2⟩ : ∃ i : Int, i = fl8 (nB fm x) := ⟨_, rfl⟩
    rw [← hq1, ← hq2] at CN
    cases hi : nI fm x
    · rw [hi] at C1 hB hF
      cases hz : zF fm x
      · rw [hz] at C2 hB hF
        have hB' : B = RdB fm mode (Nm.wn (nZ fm x)) (Nm.wl (nZ fm x)) (nE fm x + n) := hB
        have hF' : F = RdF fm mode (Nm.wn (nZ fm x)) (Nm.wl (nZ fm x)) (nE fm x + n) := hF
        have hf := (nan_cases hx hn).resolve_right (by rw [hi]; decide)
        obtain ⟨fx1, fx2, fx3, fx4, -, -⟩ := fin_facts hx hf
        have bx := pM_bd fm x
        have ex := pE_bd fm x
        have hnz : nZ fm x ≠ 0 := by rw [zF_fin hx hf] at hz; exact of_decide_eq_false hz
        have CP := hid (fun w' => sparts_any fm x w' hf x0 x1)
        have U1 := hid (fun w' => l1uint_z (pM fm x) (pS fm x) w' bx.1 (by omega))
        rw [← fx3] at U1
        have CR := hid (fun p c w' h => l3r_any fm mode (nZ fm x) (nE fm x + n) p c w' h hnz (rdo_any hfm hm (nZ_len fm x) (by rw [fx4]; omega) (by rw [fx4]; omega)))
        simp only [← hB', ← hF'] at CR
        rw [fx4] at CR
        obtain ⟨sg, hsg⟩ : ∃ s, s = pS fm x := ⟨_, rfl⟩
        obtain ⟨m, hm'⟩ : ∃ s, s = pM fm x := ⟨_, rfl⟩
        obtain ⟨e, he⟩ : ∃ s, s = pE fm x := ⟨_, rfl⟩
        obtain ⟨G, hG⟩ : ∃ s, s = Nm.wn (nZ fm x) := ⟨_, rfl⟩
        obtain ⟨L, hL⟩ : ∃ s, s = Nm.wl (nZ fm x) := ⟨_, rfl⟩
        rw [← hsg, ← hm', ← he] at CP
        rw [← hsg, ← hm', ← hG, ← hL] at U1
        simp only [← hG, ← hL, ← he] at CR
        rw [← hm'] at bx
        rw [← he] at ex
        have hwE : IntKind.i64.wrap (e + n) = e + n := by rw [IntKind.wrap_i64]; omega
        have hw1 : IntKind.u64.wrap m = m := by rw [IntKind.wrap_u64]; omega
        clear hsg hm' he hG hL hB hF hB' hF' hn ho ho1 dx e1 e2 hm hx hfm hin hq1 hq2 hf fx1 fx2 fx3 fx4 hi hz hnz
        go_enter Tryz.func35, Tryz.ntmps35
        go_wp2_with fail
        refine (CF.out _ s2).mono ?_
        rintro r w1 ⟨rfl, hb1⟩
        go_wp2_with fail
        refine (CI.out _).mono ?_
        rintro r w2 ⟨rfl, rfl⟩
        go_wp2_with fail
        refine (CN.out _ _ (sl64_1 w2 x 27)).mono ?_
        rintro r w3 ⟨rfl, hb3⟩
        go_wp2_with fail
        refine (C1.out _).mono ?_
        rintro r w4 ⟨rfl, hb4⟩
        go_wp2_with fail
        refine (C2.out _).mono ?_
        rintro r w5 ⟨rfl, hb5⟩
        go_wp2_with fail
        refine (CP.out _).mono ?_
        rintro r w6 ⟨rfl, hb6⟩
        have P := R3.new w6 (.bool sg) (.int .i64 m) (.int .i64 e) 113
        have bel6 : Below w.heap.size w w6 := (by repeat (first | exact bz0 _ _ | refine bz1 ?_ | refine bz2 ?_ _ | refine bz3 ?_ _ | refine bz4 ?_ hb6 | refine bz4 ?_ hb5 | refine bz4 ?_ hb4 | refine bz4 ?_ hb3 | refine bz4 ?_ hb1 | refine bz5 ?_ _ | refine bz6 ?_ _ | refine bz7 ?_ hb6 | refine bz7 ?_ hb5 | refine bz7 ?_ hb4 | refine bz7 ?_ hb3 | refine bz7 ?_ hb1))
        have Pd := P.dr
        have pd := And.intro Pd.c0 (And.intro Pd.c1 Pd.c2)
        clear hb6 hb5 hb4 hb3 hb1 s2
        go_wp2_with fail
        go_region_held3 (fun w' => w'.cell? ⟨w6.heap.size, 0, none⟩ = some (.bool sg) ∧ w'.cell? ⟨w6.heap.size, 1, none⟩ = some (.int .i64 m) ∧ w'.cell? ⟨w6.heap.size, 2, none⟩ = some (.int .i64 e))
          (first | with_reducible assumption | with_reducible exact pd | fail)
          (first
            | (go_at_call 95; refine (U1.out _).mono ?_; rintro r q1' ⟨a1, k1, rfl, hp1, hq1⟩; have P1 := Pd.below hq1; have u1 := And.intro P1.c0 (And.intro P1.c1 P1.c2))
            | (go_at_call 94; refine (CR.out a1 k1 _ hp1.sl).mono ?_; rintro r q2' ⟨rfl, hq2⟩; have P2 := P1.below hq2; have u2 := And.intro P2.c0 (And.intro P2.c1 P2.c2)))
        go_wp2
        go_ret3
        exact ⟨rfl, (by repeat (first | exact bz0 _ _ | refine bz1 ?_ | refine bz2 ?_ _ | refine bz3 ?_ _ | refine bz4 ?_ hq2 | refine bz4 ?_ hq1 | refine bz4 ?_ bel6 | refine bz5 ?_ _ | refine bz6 ?_ _ | refine bz7 ?_ hq2 | refine bz7 ?_ hq1 | refine bz7 ?_ bel6))⟩
      · rw [hz] at C2 hB hF
        have hB' : B = x := hB
        have hF' : F = 0 := hF
        subst hB' hF'
        clear hB hF hn ho ho1 dx e1 e2 hm hx hfm hin hq1 hq2 hi hz
        go_enter Tryz.func35, Tryz.ntmps35
        go_wp2_with fail
        refine (CF.out _ s2).mono ?_
        rintro r w1 ⟨rfl, hb1⟩
        go_wp2_with fail
        refine (CI.out _).mono ?_
        rintro r w2 ⟨rfl, rfl⟩
        go_wp2_with fail
        refine (CN.out _ _ (sl64_1 w2 B 27)).mono ?_
        rintro r w3 ⟨rfl, hb3⟩
        go_wp2_with fail
        refine (C1.out _).mono ?_
        rintro r w4 ⟨rfl, hb4⟩
        go_wp2_with fail
        refine (C2.out _).mono ?_
        rintro r w5 ⟨rfl, hb5⟩
        go_wp2
        go_ret3
        exact ⟨rfl, (by repeat (first | exact bz0 _ _ | refine bz1 ?_ | refine bz2 ?_ _ | refine bz3 ?_ _ | refine bz4 ?_ hb5 | refine bz4 ?_ hb4 | refine bz4 ?_ hb3 | refine bz4 ?_ hb1 | refine bz5 ?_ _ | refine bz6 ?_ _ | refine bz7 ?_ hb5 | refine bz7 ?_ hb4 | refine bz7 ?_ hb3 | refine bz7 ?_ hb1))⟩
    · rw [hi] at C1 hB hF
      have hB' : B = x := hB
      have hF' : F = 0 := hF
      subst hB' hF'
      clear hB hF hn ho ho1 dx e1 e2 hm hx hfm hin hq1 hq2 hi C2
      go_enter Tryz.func35, Tryz.ntmps35
      go_wp2_with fail
      refine (CF.out _ s2).mono ?_
      rintro r w1 ⟨rfl, hb1⟩
      go_wp2_with fail
      refine (CI.out _).mono ?_
      rintro r w2 ⟨rfl, rfl⟩
      go_wp2_with fail
      refine (CN.out _ _ (sl64_1 w2 B 27)).mono ?_
      rintro r w3 ⟨rfl, hb3⟩
      go_wp2_with fail
      refine (C1.out _).mono ?_
      rintro r w4 ⟨rfl, hb4⟩
      go_wp2
      go_ret3
      exact ⟨rfl, (by repeat (first | exact bz0 _ _ | refine bz1 ?_ | refine bz2 ?_ _ | refine bz3 ?_ _ | refine bz4 ?_ hb4 | refine bz4 ?_ hb3 | refine bz4 ?_ hb1 | refine bz5 ?_ _ | refine bz6 ?_ _ | refine bz7 ?_ hb4 | refine bz7 ?_ hb3 | refine bz7 ?_ hb1))⟩
  · rw [hn, if_pos rfl] at hB hF
    rw [hn] at CN
    rw [← hB, ← hF] at CN
    clear hB hF hn ho ho1 dx e1 e2 hm hx hfm hin
    go_enter Tryz.func35, Tryz.ntmps35
    go_wp2_with fail
    refine (CF.out _ s2).mono ?_
    rintro r w1 ⟨rfl, hb1⟩
    go_wp2_with fail
    refine (CI.out _).mono ?_
    rintro r w2 ⟨rfl, rfl⟩
    go_wp2_with fail
    refine (CN.out _ _ (sl64_1 w2 x 27)).mono ?_
    rintro r w3 ⟨rfl, hb3⟩
    go_wp2
    go_ret3
    exact ⟨rfl, (by repeat (first | exact bz0 _ _ | refine bz1 ?_ | refine bz2 ?_ _ | refine bz3 ?_ _ | refine bz4 ?_ hb3 | refine bz4 ?_ hb1 | refine bz5 ?_ _ | refine bz6 ?_ _ | refine bz7 ?_ hb3 | refine bz7 ?_ hb1))⟩
theorem sci_no (fm mode x n : Int) (w : World) (hT : Tab w) (x0 : 0 ≤ x) (x1 : x < 18446744073709551616) (ho : scO fm mode x n = false) :
    Calls Tryz.prog 36 #[.int .i64 fm, .int .i64 mode, .int .u64 x, .int .i64 n] w fun r w' => r = .returned (.tuple #[.int .u64 0, .int .i64 0, .bool false]) ∧ Below w.heap.size w w' := by
  have CF := hid (fun w' h h' => fok_impl fm mode (some ⟨w.heap.size, 0, none⟩) 1 [x] w' h h' (d64_1 x0 x1) (by simp))
  rw [all1] at CF
  have s2 := sl64_1 w x 27
  have bel0 : Below w.heap.size w (w.alloc (.cells #[.int .u64 x] 27)) := (by repeat (first | exact bz0 _ _ | refine bz1 ?_ | refine bz2 ?_ _ | refine bz3 ?_ _ | refine bz5 ?_ _ | refine bz6 ?_ _))
  cases h1 : (modeB mode && okF fm x)
  · rw [h1] at CF
    clear ho h1
    go_enter Tryz.func36, Tryz.ntmps36
    go_wp2_with fail
    refine (CF.out _ (hT.below bel0) s2).mono ?_
    rintro r w1 ⟨rfl, hb1⟩
    go_wp2
    go_ret3
    exact ⟨rfl, (by repeat (first | exact bz0 _ _ | refine bz1 ?_ | refine bz2 ?_ _ | refine bz3 ?_ _ | refine bz4 ?_ hb1 | refine bz5 ?_ _ | refine bz6 ?_ _ | refine bz7 ?_ hb1))⟩
  · rw [h1] at CF
    have hin : inB n (-5000) 5000 = false := by unfold scO at ho; rw [h1] at ho; simpa using ho
    have hn : n < -5000 ∨ 5000 < n := by unfold inB at hin; simp at hin; omega
    clear ho h1 hin
    by_cases hlo : n < -5000
    · clear hn
      go_enter Tryz.func36, Tryz.ntmps36
      go_wp2_with fail
      refine (CF.out _ (hT.below bel0) s2).mono ?_
      rintro r w1 ⟨rfl, hb1⟩
      go_wp2
      go_ret3
      exact ⟨rfl, (by repeat (first | exact bz0 _ _ | refine bz1 ?_ | refine bz2 ?_ _ | refine bz3 ?_ _ | refine bz4 ?_ hb1 | refine bz5 ?_ _ | refine bz6 ?_ _ | refine bz7 ?_ hb1))⟩
    · have hhi : 5000 < n := by omega
      clear hn
      go_enter Tryz.func36, Tryz.ntmps36
      go_wp2_with fail
      refine (CF.out _ (hT.below bel0) s2).mono ?_
      rintro r w1 ⟨rfl, hb1⟩
      go_wp2
      go_ret3
      exact ⟨rfl, (by repeat (first | exact bz0 _ _ | refine bz1 ?_ | refine bz2 ?_ _ | refine bz3 ?_ _ | refine bz4 ?_ hb1 | refine bz5 ?_ _ | refine bz6 ?_ _ | refine bz7 ?_ hb1))⟩
theorem sci_core (fm mode x n : Int) (u : Value) (w : World) (hE : E3 u w) (x0 : 0 ≤ x) (x1 : x < 18446744073709551616) (ho : (modeB mode && okF fm x) = true) (n0 : -5000 ≤ n) (n1 : n ≤ 5000) (sg inf G : Bool) (L : List Int) (E : Int) (nn b : Bool) (hp : NumAt u fm x sg inf G L E nn b) (e0 : -3000 ≤ E ∧ E ≤ 3000) (hl : L.length ≤ 200) (hd : Nm.Dg L) (rb rf : Int) (hro : nn = false → inf = false → L.length ≠ 0 → RdO fm mode G L (E + n) = true ∧ rb = RdB fm mode G L (E + n) ∧ rf = RdF fm mode G L (E + n)) (B F : Int) (hB : B = tdB (nanOf fm) (infOf fm) (sgOf fm) nn inf (decide (L.length = 0)) sg rb) (hF : F = tdF nn b inf (decide (L.length = 0)) rf) :
    Calls Tryz.prog 36 #[.int .i64 fm, .int .i64 mode, .int .u64 x, .int .i64 n] w fun r w' => r = .returned (.tuple #[.int .u64 B, .int .i64 F, .bool true]) ∧ Below w.heap.size w w' := by
  have CF := hid (fun w' h h' => fok_impl fm mode (some ⟨w.heap.size, 0, none⟩) 1 [x] w' h h' (d64_1 x0 x1) (by simp))
  have hfm : fmtB fm = true := by
    have h : modeB mode = true ∧ okF fm x = true := by simpa using ho
    exact ok_fmt h.2
  rw [all1, ho] at CF
  have CP := hid hp
  have CT := hid (fun p c ev hk w' h1 h2 h3 => told_any fm mode hfm sg inf G L (E + n) p c u ev nn b hk w' h1 h2 h3 hd hl rb rf hro B F hB hF)
  have s2 := sl64_1 w x 27
  have bel0 : Below w.heap.size w (w.alloc (.cells #[.int .u64 x] 27)) := (by repeat (first | exact bz0 _ _ | refine bz1 ?_ | refine bz2 ?_ _ | refine bz3 ?_ _ | refine bz5 ?_ _ | refine bz6 ?_ _))
  have hwE : IntKind.i64.wrap (E + n) = E + n := by rw [IntKind.wrap_i64]; omega
  clear ho hp hro hB hF hfm
  go_enter Tryz.func36, Tryz.ntmps36
  go_wp2_with fail
  refine (CF.out _ (hE.t.s.f.below bel0) s2).mono ?_
  rintro r w1 ⟨rfl, hb1⟩
  have bel1 := bel_go bel0 hb1
  clear s2
  go_wp2_with fail
  refine (CP.out _ (hE.below bel1).ee).mono ?_
  rintro r w2 ⟨a', c', ev, rfl, kv, ho2, hb2⟩
  have bel3 := bel_al (bel_go bel1 hb2) (.cells #[.bool sg, .bool inf, .bool G, .slice a' L.length c', .int .i64 (E + n)] 78)
  have E2 := hE.below bel3
  have s3 := (ho2.alloc (.cells #[.bool sg, .bool inf, .bool G, .slice a' L.length c', .int .i64 (E + n)] 78)).sl
  go_wp2_with fail
  refine (CT.out a' c' ev kv _ E2.t E2.g s3).mono ?_
  rintro r w3 ⟨rfl, hb3⟩
  go_wp2
  go_ret3
  exact ⟨rfl, bel_go bel3 hb3⟩
theorem sci_all (fm mode x n : Int) (u : Value) (w : World) (hE : E3 u w) (x0 : 0 ≤ x) (x1 : x < 18446744073709551616) (B F : Int) (O : Bool) (hB : B = scB fm mode x n) (hF : F = scF fm mode x n) (hO : O = scO fm mode x n) :
    Calls Tryz.prog 36 #[.int .i64 fm, .int .i64 mode, .int .u64 x, .int .i64 n] w fun r w' => r = .returned (.tuple #[.int .u64 B, .int .i64 F, .bool O]) ∧ Below w.heap.size w w' := by
  cases ho : scO fm mode x n
  · obtain ⟨e1, e2⟩ := sc_no ho
    rw [hB, hF, hO, e1, e2, ho]
    exact sci_no fm mode x n w hE.t.s.f x0 x1 ho
  have ho' := ho
  unfold scO at ho'
  rw [Bool.and_eq_true] at ho'
  obtain ⟨ho1, hin⟩ := ho'
  obtain ⟨hm, hx⟩ : modeB mode = true ∧ okF fm x = true := by simpa using ho1
  have hn0 : -5000 ≤ n ∧ n ≤ 5000 := by unfold inB at hin; simpa using hin
  have hfm := ok_fmt hx
  have bd := nZ_bd fm x
  rw [hO, ho]
  unfold scB at hB
  unfold scF at hF
  rw [ho, if_pos rfl] at hB hF
  refine sci_core fm mode x n u w hE x0 x1 ho1 hn0.1 hn0.2 _ _ _ _ _ _ _ (numAt hx x0 x1) (by omega) (nZ_len fm x) (Nm.wl_dg _) _ _ (fun _ _ _ => ⟨rdo_any hfm hm (nZ_len fm x) (by omega) (by omega), rfl, rfl⟩) B F ?_ ?_
  · rw [hB]; unfold tdB
    cases hn : nanB fm x
    · have hs : nS fm x = sigB fm x := by unfold nS; rw [hn]; rfl
      have hsz := sz_of hx hn
      cases hi : nI fm x
      · rw [hi] at hsz
        rw [← hsz]
        simp only [Bool.not_false, Bool.true_and, Bool.false_or, Bool.false_eq_true, if_false]
        by_cases hz : (Nm.wl (nZ fm x)).length = 0
        · rw [if_pos (by simpa using hz), if_pos (by simpa using hz)]
          have ha : absF fm x = 0 := by
            have : zF fm x = true := by rw [← hsz]; simpa using hz
            simpa [zF] using this
          have := abs_sig hx x0 x1
          rw [ha] at this
          rw [hs]; exact this
        · rw [if_neg (by simpa using hz), if_neg (by simpa using hz)]
      · have ha : absF fm x = infOf fm := by
          have h3 := cls_inf hx x0
          have h4 : (cls fm x == 3) = true := hi
          rw [h4] at h3; simpa using h3
        have := abs_sig hx x0 x1
        rw [ha] at this
        simp only [Bool.true_or, if_true, Bool.false_eq_true, if_false]
        rw [hs]; exact this
    · simp
  · rw [hF]; unfold tdF
    cases hn : nanB fm x
    · have hb : nB fm x = false := by
        have := nan_ofE hx; rw [hn] at this
        unfold nB
        have h5 : ¬ cls fm x = 5 := by intro e; rw [e] at this; simp at this
        simpa using h5
      have hsz := sz_of hx hn
      rw [hb]
      cases hi : nI fm x
      · rw [hi] at hsz; rw [← hsz]; simp
      · simp
    · cases nB fm x <;> simp [fl8]
theorem law_FloatScaled (fm mode x n : Int) (w : World) (hT : EX3 w) (x0 : 0 ≤ x) (x1 : x < 18446744073709551616) :
    Calls Tryz.prog 9 #[.int .i64 fm, .int .i64 mode, .int .u64 x, .int .i64 n] w fun e w' => e = .returned (.bool true) ∧ Below w.heap.size w w' := by
  obtain ⟨B, hB⟩ : ∃ B, B = scB fm mode x n := ⟨_, rfl⟩
  obtain ⟨F, hF⟩ : ∃ F, F = scF fm mode x n := ⟨_, rfl⟩
  obtain ⟨O, hO⟩ : ∃ O, O = scO fm mode x n := ⟨_, rfl⟩
  obtain ⟨u, hE⟩ := hT
  have CS := hid (fun w' => sc_spec fm mode x n w' x0 x1 B F O hB hF hO)
  have CI := hid (fun w' h => sci_all fm mode x n u w' h x0 x1 B F O hB hF hO)
  have q1 : (B != B) = false := by simp
  have q2 : (F != F) = false := by simp
  have q3 : (O != O) = false := by simp
  clear hB hF hO
  go_enter Tryz.func9, Tryz.ntmps9
  go_wp2_with fail
  refine (CS.out _).mono ?_
  rintro e w1 ⟨rfl, hb1⟩
  go_wp2_with fail
  refine (CI.out _ (hE.below hb1)).mono ?_
  rintro e w2 ⟨rfl, hb2⟩
  go_wp2
  go_ret
  exact ⟨rfl, (by repeat (first | exact bz0 _ _ | refine bz1 ?_ | refine bz2 ?_ _ | refine bz3 ?_ _ | refine bz4 ?_ hb2 | refine bz4 ?_ hb1 | refine bz5 ?_ _ | refine bz6 ?_ _ | refine bz7 ?_ hb2 | refine bz7 ?_ hb1))⟩
end Go.Proofs.YtnliofakkkjpoaaGreatDoor
