/-
  What is needed of FA.
-/
import Derived.Test.YtmcflggionkhlaaGreatDoorC44
import Derived.Test.YtmcflggionkhlaaGreatDoorC48
set_option maxHeartbeats 16000000
set_option maxRecDepth 1000000
namespace Go.Proofs.YtmcflggionkhlaaGreatDoor
set_option linter.unusedVariables false
set_option linter.unusedSimpArgs false
open Go.RowKit Go.Deep
/-- A sum, of all floats. -/
def adB (fm mode x y : Int) : Int := if muO fm mode x y then (if nanB fm x || nanB fm y then nanOf fm else aB fm mode x y) else 0
def adF (fm mode x y : Int) : Int := if muO fm mode x y then (if nanB fm x || nanB fm y then fl8 (nB fm x || nB fm y) else aF fm mode x y) else 0
theorem ad_no {fm mode x y : Int} (h : muO fm mode x y = false) : adB fm mode x y = 0 ∧ adF fm mode x y = 0 := by unfold adB adF; rw [h]; exact ⟨rfl, rfl⟩
theorem add_spec (fm mode x y : Int) (w : World) (x0 : 0 ≤ x) (x1 : x < 18446744073709551616) (y0 : 0 ≤ y) (y1 : y < 18446744073709551616) (B F : Int) (O : Bool) (hB : B = adB fm mode x y) (hF : F = adF fm mode x y) (hO : O = muO fm mode x y) :
    Calls Tryz.prog 62 #[.int .i64 fm, .int .i64 mode, .int .u64 x, .int .u64 y] w fun r w' => r = .returned (.tuple #[.int .u64 B, .int .i64 F, .bool O]) ∧ Below w.heap.size w w' := by
  have dx := d64_2 x0 x1 y0 y1
  have CF := hid (fun w' h => l4form fm mode (some ⟨w.heap.size, 0, none⟩) 2 [x, y] w' h (by simp))
  rw [all2_fmt] at CF
  have s2 := sl64_2 w x y 24
  cases ho : muO fm mode x y
  · obtain ⟨e1, e2⟩ := ad_no ho
    rw [e1] at hB; rw [e2] at hF; rw [ho] at hO
    subst hB hF hO
    have ho' : (modeB mode && allB fm [x, y]) = false := ho
    rw [ho'] at CF
    clear ho ho' e1 e2 dx
    go_enter Tryz.func62, Tryz.ntmps62
    go_wp2_with fail
    refine (CF.out _ s2).mono ?_
    rintro r w1 ⟨rfl, hb1⟩
    go_wp2
    go_ret3
    exact ⟨rfl, (by repeat (first | exact bz0 _ _ | refine bz1 ?_ | refine bz2 ?_ _ | refine bz3 ?_ _ | refine bz4 ?_ hb1 | refine bz5 ?_ _ | refine bz6 ?_ _ | refine bz7 ?_ hb1))⟩
  have ho' : (modeB mode && allB fm [x, y]) = true := ho
  rw [ho'] at CF
  obtain ⟨hm, ha⟩ : modeB mode = true ∧ allB fm [x, y] = true := by simpa using ho'
  obtain ⟨hx, hy⟩ := all2 ha
  have hfm := ok_fmt hx
  have CN := hid (fun a w' h => l4nan fm a 2 [x, y] w' h dx (by simp) hfm ha)
  have e1 : [x, y].any (nanB fm) = (nanB fm x || nanB fm y) := by simp
  have e2 : [x, y].any (nB fm) = (nB fm x || nB fm y) := by simp
  rw [e1, e2] at CN
  cases hn : (nanB fm x || nanB fm y)
  · obtain ⟨nx, ny⟩ : nanB fm x = false ∧ nanB fm y = false := by simpa using hn
    rw [hn] at CN
    have hB' : B = aB fm mode x y := by
      rw [hB]; unfold adB; rw [ho, if_pos rfl, hn]; rfl
    have hF' : F = aF fm mode x y := by
      rw [hF]; unfold adF; rw [ho, if_pos rfl, hn]; rfl
    have CM := hid (fun w' => l4add fm mode x y w' hx hy x0 x1 y0 y1 hm nx ny B F hB' hF')
    rw [ho] at hO
    subst hO
    obtain ⟨q1, hq1⟩ : ∃ i, i = nanOf fm := ⟨_, rfl⟩
    obtain ⟨q2, hq2⟩ : ∃ i : Int, i = fl8 (nB fm x || nB fm y) := ⟨_, rfl⟩
    rw [← hq1, ← hq2] at CN
    clear hB hF hB' hF' hn nx ny ho ho' dx e1 e2 hq1 hq2 hm ha hx hy hfm
    go_enter Tryz.func62, Tryz.ntmps62
    go_wp2_with fail
    refine (CF.out _ s2).mono ?_
    rintro r w1 ⟨rfl, hb1⟩
    go_wp2_with fail
    refine (CN.out _ _ (sl64_2 w1 x y 24)).mono ?_
    rintro r w2 ⟨rfl, hb2⟩
    go_wp2_with fail
    refine (CM.out _).mono ?_
    rintro r w3 ⟨rfl, hb3⟩
    go_wp2
    go_ret3
    exact ⟨rfl, (by repeat (first | exact bz0 _ _ | refine bz1 ?_ | refine bz2 ?_ _ | refine bz3 ?_ _ | refine bz4 ?_ hb3 | refine bz4 ?_ hb2 | refine bz4 ?_ hb1 | refine bz5 ?_ _ | refine bz6 ?_ _ | refine bz7 ?_ hb3 | refine bz7 ?_ hb2 | refine bz7 ?_ hb1))⟩
  · rw [hn] at CN
    have hB' : B = nanOf fm := by rw [hB]; unfold adB; rw [ho, if_pos rfl, hn]; rfl
    have hF' : F = fl8 (nB fm x || nB fm y) := by rw [hF]; unfold adF; rw [ho, if_pos rfl, hn]; rfl
    rw [← hB', ← hF'] at CN
    rw [ho] at hO
    subst hO
    clear hB hF hB' hF' hn ho ho' dx e1 e2 hm ha hx hy hfm
    go_enter Tryz.func62, Tryz.ntmps62
    go_wp2_with fail
    refine (CF.out _ s2).mono ?_
    rintro r w1 ⟨rfl, hb1⟩
    go_wp2_with fail
    refine (CN.out _ _ (sl64_2 w1 x y 24)).mono ?_
    rintro r w2 ⟨rfl, hb2⟩
    go_wp2
    go_ret3
    exact ⟨rfl, (by repeat (first | exact bz0 _ _ | refine bz1 ?_ | refine bz2 ?_ _ | refine bz3 ?_ _ | refine bz4 ?_ hb2 | refine bz4 ?_ hb1 | refine bz5 ?_ _ | refine bz6 ?_ _ | refine bz7 ?_ hb2 | refine bz7 ?_ hb1))⟩
theorem addi_no2 (fm mode x y : Int) (w : World) (hT : Tab w) (x0 : 0 ≤ x) (x1 : x < 18446744073709551616) (y0 : 0 ≤ y) (y1 : y < 18446744073709551616) (ho : (modeB mode && allB fm [x, y]) = false) :
    Calls Tryz.prog 30 #[.int .i64 fm, .int .i64 mode, .int .u64 x, .int .u64 y] w fun r w' => r = .returned (.tuple #[.int .u64 0, .int .i64 0, .bool false]) ∧ Below w.heap.size w w' := by
  have CF := hid (fun w' h h' => fok_impl fm mode (some ⟨w.heap.size, 0, none⟩) 2 [x, y] w' h h' (d64_2 x0 x1 y0 y1) (by simp))
  rw [ho] at CF
  have s2 := sl64_2 w x y 24
  have bel0 : Below w.heap.size w (w.alloc (.cells #[.int .u64 x, .int .u64 y] 24)) := (by repeat (first | exact bz0 _ _ | refine bz1 ?_ | refine bz2 ?_ _ | refine bz3 ?_ _ | refine bz5 ?_ _ | refine bz6 ?_ _))
  clear ho
  go_enter Tryz.func30, Tryz.ntmps30
  go_wp2_with fail
  refine (CF.out _ (hT.below bel0) s2).mono ?_
  rintro r w1 ⟨rfl, hb1⟩
  go_wp2
  go_ret3
  exact ⟨rfl, (by repeat (first | exact bz0 _ _ | refine bz1 ?_ | refine bz2 ?_ _ | refine bz3 ?_ _ | refine bz4 ?_ hb1 | refine bz5 ?_ _ | refine bz6 ?_ _ | refine bz7 ?_ hb1))⟩
theorem addf_core (fm mode x y : Int) (u : Value) (w : World) (hE : E3 u w) (x0 : 0 ≤ x) (x1 : x < 18446744073709551616) (y0 : 0 ≤ y) (y1 : y < 18446744073709551616) (ho : (modeB mode && allB fm [x, y]) = true) (sg inf G : Bool) (L : List Int) (E : Int) (n b : Bool) (hp : TotAt u fm mode x y sg inf G L E n b) (hl : L.length ≤ 200) (hd : Nm.Dg L) (rb rf : Int) (hro : n = false → inf = false → L.length ≠ 0 → RdO fm mode G L E = true ∧ rb = RdB fm mode G L E ∧ rf = RdF fm mode G L E) (B F : Int) (hB : B = tdB (nanOf fm) (infOf fm) (sgOf fm) n inf (decide (L.length = 0)) sg rb) (hF : F = tdF n b inf (decide (L.length = 0)) rf) :
    Calls Tryz.prog 30 #[.int .i64 fm, .int .i64 mode, .int .u64 x, .int .u64 y] w fun r w' => r = .returned (.tuple #[.int .u64 B, .int .i64 F, .bool true]) ∧ Below w.heap.size w w' := by
  have CF := hid (fun w' h h' => fok_impl fm mode (some ⟨w.heap.size, 0, none⟩) 2 [x, y] w' h h' (d64_2 x0 x1 y0 y1) (by simp))
  have hfm : fmtB fm = true := by
    have h : modeB mode = true ∧ allB fm [x, y] = true := by simpa using ho
    exact ok_fmt (all2 h.2).1
  rw [ho] at CF
  have CP := hid hp
  have CT := hid (fun p c ev hk w' h1 h2 h3 => told_any fm mode hfm sg inf G L E p c u ev n b hk w' h1 h2 h3 hd hl rb rf hro B F hB hF)
  have s2 := sl64_2 w x y 24
  have bel0 : Below w.heap.size w (w.alloc (.cells #[.int .u64 x, .int .u64 y] 24)) := (by repeat (first | exact bz0 _ _ | refine bz1 ?_ | refine bz2 ?_ _ | refine bz3 ?_ _ | refine bz5 ?_ _ | refine bz6 ?_ _))
  clear ho hp hro hB hF hfm
  go_enter Tryz.func30, Tryz.ntmps30
  go_wp2_with fail
  refine (CF.out _ (hE.t.s.f.below bel0) s2).mono ?_
  rintro r w1 ⟨rfl, hb1⟩
  have bel1 := bel_go bel0 hb1
  clear s2
  go_wp2_with fail
  refine (CP.out _ (hE.below bel1).ee).mono ?_
  rintro r w2 ⟨a', c', ev, rfl, kv, ho2, hb2⟩
  have bel2 := bel_al (bel_go bel1 hb2) (.cells #[.bool sg, .bool inf, .bool G, .slice a' L.length c', .int .i64 E] 99)
  obtain ⟨x0', x1', x2', x3', x4'⟩ := (Q5.new w2 (.bool sg) (.bool inf) (.bool G) (.slice a' L.length c') (.int .i64 E) 99).cs
  have s3 := (ho2.alloc (.cells #[.bool sg, .bool inf, .bool G, .slice a' L.length c', .int .i64 E] 99)).sl
  have E2 := hE.below bel2
  go_wp2_with fail
  refine (CT.out a' c' ev kv _ E2.t E2.g s3).mono ?_
  rintro r w3 ⟨rfl, hb3⟩
  go_wp2
  go_ret3
  exact ⟨rfl, bel_go bel2 hb3⟩
theorem sum_z {fm x y : Int} (hx : okF fm x = true) (hy : okF fm y = true) (fx : finB fm x = true) (fy : finB fm y = true) (em : Int) (hem : em = min (nE fm x) (nE fm y)) (z : Int) (hz : z = nZ fm x * 2 ^ (nE fm x - em).toNat + nZ fm y * 2 ^ (nE fm y - em).toNat) :
    (unI fm x + unI fm y) = z * 2 ^ (em - unQ fm).toNat ∧ 0 ≤ em - unQ fm := by
  obtain ⟨-, -, -, ex, -, -⟩ := fin_facts hx fx
  obtain ⟨-, -, -, ey, -, -⟩ := fin_facts hy fy
  have qx := pE_q fx
  have qy := pE_q fy
  rw [← ex] at qx
  rw [← ey] at qy
  refine ⟨?_, by omega⟩
  rw [un_nZ hx fx, un_nZ hy fy, hz, Int.add_mul, Int.mul_assoc, Int.mul_assoc, ← Int.pow_add, ← Int.pow_add]
  rw [show (nE fm x - em).toNat + (em - unQ fm).toNat = (nE fm x - unQ fm).toNat by omega, show (nE fm y - em).toNat + (em - unQ fm).toNat = (nE fm y - unQ fm).toNat by omega]
theorem nzs_len {fm x em : Int} (h0 : 0 ≤ nE fm x - em) (h1 : nE fm x - em ≤ 3100) : (Nm.wl (nZ fm x * 2 ^ (nE fm x - em).toNat)).length ≤ 200 := by
  obtain ⟨K, hK⟩ : ∃ K : Nat, K = 3100 := ⟨_, rfl⟩
  refine wl_of (k := 53 + K) ?_ (by omega)
  rw [Int.natAbs_mul, Int.natAbs_pow]
  have hb := (nZ_bd fm x).1
  have hb' : (nZ fm x).natAbs ≤ 9007199254740991 := by omega
  have hd : (nE fm x - em).toNat ≤ K := by omega
  have h2 : (2 : Int).natAbs ^ (nE fm x - em).toNat ≤ 2 ^ K := Nat.pow_le_pow_right (by decide) hd
  have h3 : (nZ fm x).natAbs * (2 : Int).natAbs ^ (nE fm x - em).toNat ≤ 9007199254740991 * 2 ^ K := Nat.mul_le_mul hb' h2
  have h4 : 9007199254740991 * 2 ^ K < 2 ^ 53 * 2 ^ K := Nat.mul_lt_mul_of_pos_right (by decide) (Nat.pow_pos (by decide))
  rw [Nat.pow_add]
  exact Nat.lt_of_le_of_lt h3 h4
theorem addf_all (fm mode x y : Int) (u : Value) (w : World) (hE : E3 u w) (x0 : 0 ≤ x) (x1 : x < 18446744073709551616) (y0 : 0 ≤ y) (y1 : y < 18446744073709551616) (B F : Int) (O : Bool) (hB : B = adB fm mode x y) (hF : F = adF fm mode x y) (hO : O = muO fm mode x y) :
    Calls Tryz.prog 30 #[.int .i64 fm, .int .i64 mode, .int .u64 x, .int .u64 y] w fun r w' => r = .returned (.tuple #[.int .u64 B, .int .i64 F, .bool O]) ∧ Below w.heap.size w w' := by
  cases ho : muO fm mode x y
  · obtain ⟨e1, e2⟩ := ad_no ho
    rw [hB, hF, hO, e1, e2, ho]
    exact addi_no2 fm mode x y w hE.t.s.f x0 x1 y0 y1 ho
  obtain ⟨hm, ha⟩ : modeB mode = true ∧ allB fm [x, y] = true := by have : (modeB mode && allB fm [x, y]) = true := ho; simpa using this
  obtain ⟨hx, hy⟩ := all2 ha
  have hfm := ok_fmt hx
  have NX := numAt (u := u) hx x0 x1
  have NY := numAt (u := u) hy y0 y1
  rw [hO, ho]
  cases hn : (nanB fm x || nanB fm y)
  · obtain ⟨nx, ny⟩ : nanB fm x = false ∧ nanB fm y = false := by simpa using hn
    have hB' : B = aB fm mode x y := by rw [hB]; unfold adB; rw [ho, if_pos rfl, hn]; rfl
    have hF' : F = aF fm mode x y := by rw [hF]; unfold adF; rw [ho, if_pos rfl, hn]; rfl
    have sx : nS fm x = sigB fm x := by unfold nS; rw [nx]; rfl
    have sy : nS fm y = sigB fm y := by unfold nS; rw [ny]; rfl
    unfold aB at hB'
    unfold aF at hF'
    cases ix : nI fm x
    · rw [ix] at hB' hF' NX
      cases iy : nI fm y
      · rw [iy] at hB' hF' NY
        have fx := (nan_cases hx nx).resolve_right (by rw [ix]; decide)
        have fy := (nan_cases hy ny).resolve_right (by rw [iy]; decide)
        have b1 := nZ_bd fm x
        have b2 := nZ_bd fm y
        obtain ⟨em, hem⟩ : ∃ em, em = min (nE fm x) (nE fm y) := ⟨_, rfl⟩
        obtain ⟨z, hz⟩ : ∃ z, z = nZ fm x * 2 ^ (nE fm x - em).toNat + nZ fm y * 2 ^ (nE fm y - em).toNat := ⟨_, rfl⟩
        obtain ⟨hu, hq⟩ := sum_z hx hy fx fy em hem z hz
        have hqb := unq_bd fm
        have hul := uu_len fm x y
        have hzl : (Nm.wl z).length ≤ 200 := by
          have h1 := len_bl (x := (unI fm x + unI fm y).natAbs) (k := 200) hul
          have h2 := Nm.bl_mono (sum_abs hu)
          unfold Nm.wl; exact lim_len (k := 200) (by omega)
        have lx := nzs_len (fm := fm) (x := x) (em := em) (by omega) (by omega)
        have ly := nzs_len (fm := fm) (x := y) (em := em) (by omega) (by omega)
        have hz0 : (unI fm x + unI fm y) = 0 ↔ z = 0 := by
          rw [hu]; constructor
          · intro h
            rcases Int.mul_eq_zero.1 h with h' | h'
            · exact h'
            · exact absurd h' (Int.ne_of_gt (Int.pow_pos (by decide)))
          · intro h; rw [h, Int.zero_mul]
        have hl0 : decide ((Nm.wl z).length = 0) = decide ((unI fm x + unI fm y) = 0) := by
          rw [Bool.eq_iff_iff, decide_eq_true_eq, decide_eq_true_eq, hz0]; unfold Nm.wl; rw [Nm.lim_length_zero]; omega
        have hP := tot_num fm mode x y u _ _ _ _ _ _ _ _ _ _ _ _ _ _ NX NY hn (plN (decide ((Nm.wl z).length = 0)) (nS fm x) (nS fm y) (Nm.wn z) mode) false (Nm.wn z) (Nm.wl z) em false false
          (fun Q a1 c1 a2 c2 w hQ h1 h2 => (plus_fin (nS fm x) (Nm.wn (nZ fm x)) (Nm.wl (nZ fm x)) (nE fm x) a1 c1 (nS fm y) (Nm.wn (nZ fm y)) (Nm.wl (nZ fm y)) (nE fm y) a2 c2 mode w em hem (by omega) (by omega) h1.sl h2.sl (Nm.wn (nZ fm x * 2 ^ (nE fm x - em).toNat)) (Nm.wl (nZ fm x * 2 ^ (nE fm x - em).toNat)) (Nm.wn (nZ fm y * 2 ^ (nE fm y - em).toNat)) (Nm.wl (nZ fm y * 2 ^ (nE fm y - em).toNat)) (Nm.wn z) (Nm.wl z) _ rfl hzl
            (fun w' h => wsh_at2 _ a1 c1 _ (nE fm x - em) w' h (Nm.wl_dg _) (okB_wl (nZ_len fm x)) (by omega) (by omega) _ (shz _ _ (by omega)).symm lx)
            (fun w' h => wsh_at2 _ a2 c2 _ (nE fm y - em) w' h (Nm.wl_dg _) (okB_wl (nZ_len fm y)) (by omega) (by omega) _ (shz _ _ (by omega)).symm ly)
            (fun av cv aw cw w' h h' => add_ok av aw cv cw w' h h' (Nm.wl_dg _) (Nm.wl_dg _) (okB_wl lx) (okB_wl ly) z (by rw [Nm.wv_out, Nm.wv_out]; exact hz) (by unfold Nm.fits; exact decide_eq_true hzl))).mono fun r w' ⟨a, c, hr, ho, hb⟩ => ⟨a, c, _, hr, EK.no, ho.base hQ, hb⟩)
        have hro : z ≠ 0 → RdO fm mode (Nm.wn z) (Nm.wl z) em = true ∧ RdB fm mode (Nm.wn (unI fm x + unI fm y)) (Nm.wl (unI fm x + unI fm y)) (unQ fm) = RdB fm mode (Nm.wn z) (Nm.wl z) em ∧ RdF fm mode (Nm.wn (unI fm x + unI fm y)) (Nm.wl (unI fm x + unI fm y)) (unQ fm) = RdF fm mode (Nm.wn z) (Nm.wl z) em := by
          intro hzz
          have o1 := rdo_any (fm := fm) (mode := mode) (z := z) (e := em) hfm hm hzl (by omega) (by omega)
          have o2 := rdo_any (fm := fm) (mode := mode) (z := (unI fm x + unI fm y)) (e := unQ fm) hfm hm hul (by omega) (by omega)
          have hd : unQ fm = em - ((em - unQ fm).toNat : Nat) := by omega
          rw [hu] at o2 ⊢
          rw [hd] at o2 ⊢
          have e2 : (em - (em - ((em - unQ fm).toNat : Nat))).toNat = (em - unQ fm).toNat := by omega
          rw [e2] at o2 ⊢
          obtain ⟨q1, q2⟩ := Rd_scale fm mode z (em - unQ fm).toNat em hzz o1 o2
          exact ⟨o1, q1, q2⟩
        have hzn : (Nm.wl z).length ≠ 0 → z ≠ 0 := by
          intro h e; apply h; rw [e]; have : Nm.wl 0 = [] := Nm.lim_zero
          rw [this]; rfl
        refine addf_core fm mode x y u w hE x0 x1 y0 y1 ho _ _ _ _ _ _ _ hP hzl (Nm.wl_dg _) (RdB fm mode (Nm.wn (unI fm x + unI fm y)) (Nm.wl (unI fm x + unI fm y)) (unQ fm)) (RdF fm mode (Nm.wn (unI fm x + unI fm y)) (Nm.wl (unI fm x + unI fm y)) (unQ fm)) (fun _ _ h => hro (hzn h)) B F ?_ ?_
        · rw [hB', hl0, sx, sy]; unfold tdB plN
          by_cases h0 : (unI fm x + unI fm y) = 0
          · rw [decide_eq_true h0]; simp [h0]
          · rw [decide_eq_false h0]; simp [h0]
        · rw [hF', hl0]; unfold tdF
          by_cases h0 : (unI fm x + unI fm y) = 0
          · rw [decide_eq_true h0]; simp [h0]
          · rw [decide_eq_false h0]; simp [h0]
      · rw [iy] at hB' hF' NY
        obtain ⟨-, ey⟩ := inf_eq hy hy y0 y1 y0 y1 iy iy
        have z2 := nI_z hy iy
        have hP := tot_num fm mode x y u _ _ _ _ _ _ _ _ _ _ _ _ _ _ NX NY hn (nS fm y) true (Nm.wn (nZ fm y)) (Nm.wl (nZ fm y)) (nE fm y) false false
          (fun Q a1 c1 a2 c2 w hQ h1 h2 => (plus_inf2 (nS fm x) false (Nm.wn (nZ fm x)) (Nm.wl (nZ fm x)) (nE fm x) a1 c1 (nS fm y) true (Nm.wn (nZ fm y)) (Nm.wl (nZ fm y)) (nE fm y) a2 c2 mode w rfl rfl).mono fun r w' ⟨hr, hb⟩ => ⟨a2, c2, _, hr, EK.no, h2.below hb, hb⟩)
        refine addf_core fm mode x y u w hE x0 x1 y0 y1 ho _ _ _ _ _ _ _ hP (nZ_len fm y) (Nm.wl_dg _) 0 0 (fun _ h => by cases h) B F ?_ ?_
        · rw [hB', sy]; unfold tdB; simp; exact ey
        · rw [hF']; unfold tdF; simp
    · rw [ix] at hB' hF' NX
      obtain ⟨-, ex⟩ := inf_eq hx hx x0 x1 x0 x1 ix ix
      cases hod : (nI fm y && (x != y))
      · have hor : nI fm y = false ∨ (nS fm x != nS fm y) = false := by
          cases iy : nI fm y
          · exact .inl rfl
          · right
            rw [iy] at hod
            rw [sx, sy, ← (inf_eq hx hy x0 x1 y0 y1 ix iy).1]; simpa using hod
        have hP := tot_num fm mode x y u _ _ _ _ _ _ _ _ _ _ _ _ _ _ NX NY hn (nS fm x) true (Nm.wn (nZ fm x)) (Nm.wl (nZ fm x)) (nE fm x) false false
          (fun Q a1 c1 a2 c2 w hQ h1 h2 => (plus_inf1 (nS fm x) true (Nm.wn (nZ fm x)) (Nm.wl (nZ fm x)) (nE fm x) a1 c1 (nS fm y) (nI fm y) (Nm.wn (nZ fm y)) (Nm.wl (nZ fm y)) (nE fm y) a2 c2 mode w rfl hor).mono fun r w' ⟨hr, hb⟩ => ⟨a1, c1, _, hr, EK.no, h1.below hb, hb⟩)
        refine addf_core fm mode x y u w hE x0 x1 y0 y1 ho _ _ _ _ _ _ _ hP (nZ_len fm x) (Nm.wl_dg _) 0 0 (fun _ h => by cases h) B F ?_ ?_
        · rw [hB', Bool.true_and, hod, sx]; unfold tdB; simp; exact ex
        · rw [hF', Bool.true_and, hod]; unfold tdF; simp
      · obtain ⟨iy, hxy⟩ : nI fm y = true ∧ (x != y) = true := by rw [Bool.and_eq_true] at hod; exact hod
        rw [iy] at NY
        have hss : (nS fm x != nS fm y) = true := by rw [sx, sy, ← (inf_eq hx hy x0 x1 y0 y1 ix iy).1]; exact hxy
        have hP := tot_num fm mode x y u _ _ _ _ _ _ _ _ _ _ _ _ _ _ NX NY hn false false false [] 0 true true
          (fun Q a1 c1 a2 c2 w hQ h1 h2 => (plus_odd (nS fm x) true (Nm.wn (nZ fm x)) (Nm.wl (nZ fm x)) (nE fm x) a1 c1 (nS fm y) true (Nm.wn (nZ fm y)) (Nm.wl (nZ fm y)) (nE fm y) a2 c2 mode w rfl rfl hss).mono fun r w' ⟨s, hr, hb⟩ => ⟨none, 0, _, hr, EK.bad s, Own.nil _ _, hb⟩)
        refine addf_core fm mode x y u w hE x0 x1 y0 y1 ho _ _ _ _ _ _ _ hP (by simp) Nm.Dg.nil 0 0 (fun h => by cases h) B F ?_ ?_
        · rw [hB', Bool.true_and, hod]; rfl
        · rw [hF', Bool.true_and, hod]; rfl
  · have hB' : B = nanOf fm := by rw [hB]; unfold adB; rw [ho, if_pos rfl, hn]; rfl
    have hF' : F = fl8 (nB fm x || nB fm y) := by rw [hF]; unfold adF; rw [ho, if_pos rfl, hn]; rfl
    have hP := tot_nan fm mode x y u _ _ _ _ _ _ _ _ _ _ _ _ _ _ NX NY hn _ rfl
    refine addf_core fm mode x y u w hE x0 x1 y0 y1 ho _ _ _ _ _ _ _ hP (by simp) Nm.Dg.nil 0 0 (fun h => by cases h) B F ?_ ?_
    · rw [hB']; rfl
    · rw [hF']; unfold tdF; cases (nB fm x || nB fm y) <;> rfl
end Go.Proofs.YtmcflggionkhlaaGreatDoor
