/-
  What is needed of RK, RL, FD.
-/
import Derived.Test.YtmcflggionkhlaaGreatDoorH30
set_option maxHeartbeats 16000000
set_option maxRecDepth 1000000
namespace Go.Proofs.YtmcflggionkhlaaGreatDoor
set_option linter.unusedVariables false
set_option linter.unusedSimpArgs false
open Go.RowKit Go.Deep
/-- Units of a finite float, as a number; 0 for others. -/
def unQ (fm : Int) : Int := if fm = 32 then -149 else -1074
def unI (fm x : Int) : Int := if finB fm x then (if pS fm x then -((Nm.sh (pM fm x).toNat (pE fm x - unQ fm) : Nat) : Int) else ((Nm.sh (pM fm x).toNat (pE fm x - unQ fm) : Nat) : Int)) else 0
theorem un_no {fm x : Int} (h : finB fm x = false) : unI fm x = 0 := by unfold unI; rw [h]; rfl
theorem pE_q {fm x : Int} (h : finB fm x = true) : 0 ≤ pE fm x - unQ fm ∧ pE fm x - unQ fm ≤ 2100 := by
  have ho : okF fm x = true := by
    cases ho : okF fm x
    · rw [fin_no ho] at h; cases h
    · rfl
  have hlt := fin_lt ho
  rw [h] at hlt
  have hlt' := of_decide_eq_true hlt.symm
  unfold pE unQ
  rw [h, if_pos rfl]
  rcases okF_cases ho with ⟨rfl, hx⟩ | rfl
  · rw [if_pos rfl, if_pos rfl]
    rw [abs32 hx] at hlt'
    unfold infOf at hlt'; rw [if_pos rfl] at hlt'
    unfold parE; split <;> omega
  · rw [if_neg (by decide), if_neg (by decide)]
    rw [abs64] at hlt'
    unfold infOf at hlt'; rw [if_neg (by decide)] at hlt'
    unfold parE; split <;> omega
theorem un_bits {fm x : Int} (h : finB fm x = true) : bitLen (Nm.sh (pM fm x).toNat (pE fm x - unQ fm)) ≤ 2200 := by
  have h1 := Nm.bl_sh (pM fm x).toNat (pE fm x - unQ fm)
  have h2 := pM_bd fm x
  have h3 := (Nm.bl_le_iff (pM fm x).toNat 53).2 (by omega)
  have h4 := pE_q h
  omega
/-- A wide with a sign, shifted up. -/
theorem shV_sg (ng : Bool) (m : Nat) (n : Int) : Nm.shV ng (m : Int) n = if ng then -((Nm.sh m n : Nat) : Int) else ((Nm.sh m n : Nat) : Int) := by
  unfold Nm.shV; rw [Nm.shM_sh]
theorem okB_wl {x : Int} (h : (Nm.wl x).length ≤ 200) : okB (Nm.wn x) (Nm.wl x) = true := by
  by_cases h0 : x = 0
  · subst h0
    have e1 : Nm.wl 0 = [] := Nm.lim_zero
    have e2 : Nm.wn 0 = false := by decide
    rw [e1, e2]; rfl
  · have hb : bitLen x.natAbs ≤ 6400 := len_bl (k := 200) h
    exact ok_lim (by omega) hb _
theorem l1uint_z (m : Int) (ng : Bool) (w : World) (h0 : 0 ≤ m) (h1 : m < 18446744073709551616) :
    Calls Tryz.prog 114 #[.int .u64 m, .bool ng] w fun e w' => ∃ a' c', e = .returned (.agg #[.bool (Nm.wn (if ng then -m else m)), .slice a' (Nm.wl (if ng then -m else m)).length c']) ∧ Own w' w.heap.size a' c' (Nm.wl (if ng then -m else m)) ∧ Below w.heap.size w w' :=
  l1uint_v m ng w h0 h1 _ rfl
theorem signedM_z (ng : Bool) (m : Int) (E : Int) (w : World) (h0 : 0 ≤ m) (h1 : m < 9223372036854775808) :
    Calls Tryz.prog 66 #[.agg #[.bool ng, .int .i64 m, .int .i64 E]] w fun e w' => ∃ a' c', e = .returned (.agg #[.bool (Nm.wn (if ng then -m else m)), .slice a' (Nm.wl (if ng then -m else m)).length c']) ∧ Own w' w.heap.size a' c' (Nm.wl (if ng then -m else m)) ∧ Below w.heap.size w w' := by
  have CN := hid (fun w' => wof_impl (-m) w' (by omega) (by omega))
  have CP := hid (fun w' => wof_impl m w' (by omega) (by omega))
  cases ng with
  | true =>
    have e : (if true = true then -m else m) = -m := rfl
    rw [e]
    obtain ⟨G, hG⟩ : ∃ G, G = Nm.wn (-m) := ⟨_, rfl⟩
    obtain ⟨L, hL⟩ : ∃ L, L = Nm.wl (-m) := ⟨_, rfl⟩
    rw [← hG, ← hL] at CN ⊢
    clear hG hL e CP
    go_enter Tryz.func66, Tryz.ntmps66
    go_wp2_with fail
    refine (CN.out _).mono ?_
    rintro e w1 ⟨a', c', rfl, ho, hb⟩
    obtain ⟨r0, r1, f0, f1⟩ := (R2.new2 w (.cells #[.bool true, .int .i64 m, .int .i64 E] 77) (.bool false) (.slice none 0 0) 31).below hb
    have ho : Own w1 (w.heap.size + 1 + 1) a' c' L := by simpa using ho
    go_wp2
    refine bodyPost_ret (v := .agg #[.bool G, .slice a' L.length c']) (by simp [results, Tryz.results66, go_sem, r0, r1]) rfl ⟨a', c', rfl, ?_, (by repeat (first | exact bz0 _ _ | refine bz1 ?_ | refine bz2 ?_ _ | refine bz3 ?_ _ | refine bz4 ?_ hb | refine bz5 ?_ _ | refine bz6 ?_ _ | refine bz7 ?_ hb))⟩
    exact Own.base ((ho.setBelow (by simp) _).setBelow (by simp) _) (by omega)
  | false =>
    have e : (if false = true then -m else m) = m := rfl
    rw [e]
    obtain ⟨G, hG⟩ : ∃ G, G = Nm.wn m := ⟨_, rfl⟩
    obtain ⟨L, hL⟩ : ∃ L, L = Nm.wl m := ⟨_, rfl⟩
    rw [← hG, ← hL] at CP ⊢
    clear hG hL e CN
    go_enter Tryz.func66, Tryz.ntmps66
    go_wp2_with fail
    refine (CP.out _).mono ?_
    rintro e w1 ⟨a', c', rfl, ho, hb⟩
    obtain ⟨r0, r1, f0, f1⟩ := (R2.new2 w (.cells #[.bool false, .int .i64 m, .int .i64 E] 77) (.bool false) (.slice none 0 0) 31).below hb
    have ho : Own w1 (w.heap.size + 1 + 1) a' c' L := by simpa using ho
    go_wp2
    refine bodyPost_ret (v := .agg #[.bool G, .slice a' L.length c']) (by simp [results, Tryz.results66, go_sem, r0, r1]) rfl ⟨a', c', rfl, ?_, (by repeat (first | exact bz0 _ _ | refine bz1 ?_ | refine bz2 ?_ _ | refine bz3 ?_ _ | refine bz4 ?_ hb | refine bz5 ?_ _ | refine bz6 ?_ _ | refine bz7 ?_ hb))⟩
    exact Own.base ((ho.setBelow (by simp) _).setBelow (by simp) _) (by omega)
theorem sQ_any (fm : Int) (w : World) (h : fmtB fm = true) :
    Calls Tryz.prog 98 #[.int .i64 fm] w fun e w' => e = .returned (.int .i64 (unQ fm)) ∧ w' = w := by
  rcases fmt_cases h with rfl | rfl
  · exact sQ_32 w
  · exact sQ_64 w
/-- A small number with a sign, shifted: what it is. -/
theorem sg_shift (sg : Bool) (m : Nat) (n : Int) : Nm.shV (Nm.wn (if sg then -(m : Int) else m)) (Nm.val (Nm.wl (if sg then -(m : Int) else m))) n = if sg then -((Nm.sh m n : Nat) : Int) else ((Nm.sh m n : Nat) : Int) := by
  have hv : Nm.val (Nm.wl (if sg then -(m : Int) else m)) = (m : Int) := by rw [Nm.val_wl]; cases sg <;> simp
  rw [hv, shV_sg]
  by_cases h0 : m = 0
  · subst h0
    have : Nm.sh 0 n = 0 := by unfold Nm.sh; split <;> simp
    rw [this]; cases sg <;> simp
  · have : Nm.wn (if sg then -(m : Int) else m) = sg := by unfold Nm.wn; cases sg <;> simp <;> omega
    rw [this]
theorem fin_fmt {fm x : Int} (h : finB fm x = true) : fmtB fm = true := by
  have ho : okF fm x = true := by
    cases ho : okF fm x
    · rw [fin_no ho] at h; cases h
    · rfl
  rcases okF_cases ho with ⟨rfl, hx⟩ | rfl <;> rfl
/-- What both shift: letters. -/
theorem un_parts {fm x : Int} (h : finB fm x = true) : ∃ (G : Bool) (L : List Int) (z E Q : Int), z = pM fm x ∧ E = pE fm x ∧ Q = unQ fm ∧ 0 ≤ z ∧ z < 9007199254740992 ∧ -1074 ≤ E ∧ E ≤ 2000 ∧ -1074 ≤ Q ∧ Q ≤ -149 ∧ 0 ≤ E - Q ∧ E - Q ≤ 2100 ∧
    G = Nm.wn (if pS fm x then -z else z) ∧ L = Nm.wl (if pS fm x then -z else z) ∧ Nm.Dg L ∧ L.length ≤ 2 ∧ Nm.shV G (Nm.val L) (E - Q) = unI fm x ∧ okB G L = true ∧ (Nm.wl (unI fm x)).length ≤ 200 := by
  have h1 := pM_bd fm x
  have h2 := pE_bd fm x
  have h3 := pE_q h
  have hq : -1074 ≤ unQ fm ∧ unQ fm ≤ -149 := by unfold unQ; split <;> omega
  obtain ⟨m, hm⟩ : ∃ m : Nat, pM fm x = m := ⟨(pM fm x).toNat, by omega⟩
  have hu : unI fm x = if pS fm x then -((Nm.sh m (pE fm x - unQ fm) : Nat) : Int) else ((Nm.sh m (pE fm x - unQ fm) : Nat) : Int) := by
    unfold unI; rw [h, if_pos rfl, hm, Int.toNat_natCast]
  have hl : (Nm.wl (if pS fm x then -pM fm x else pM fm x)).length ≤ 2 := by
    unfold Nm.wl
    exact lim_two (by cases pS fm x <;> simp <;> omega)
  refine ⟨_, _, _, _, _, rfl, rfl, rfl, h1.1, h1.2, h2.1, h2.2, hq.1, hq.2, h3.1, h3.2, rfl, rfl, Nm.wl_dg _, hl, ?_, okB_wl (by omega), ?_⟩
  · rw [hu, hm]; exact sg_shift _ m _
  · have hb := un_bits h
    rw [hm, Int.toNat_natCast] at hb
    rw [hu]
    unfold Nm.wl
    refine lim_len (k := 200) ?_
    have : (if pS fm x then -((Nm.sh m (pE fm x - unQ fm) : Nat) : Int) else ((Nm.sh m (pE fm x - unQ fm) : Nat) : Int)).natAbs = Nm.sh m (pE fm x - unQ fm) := by cases pS fm x <;> simp
    rw [this]; omega
attribute [local go_sem ↓] Go.wp_at_zero Go.wp_at_succ
theorem l2units_any (fm x : Int) (w : World) (hf : finB fm x = true) (x0 : 0 ≤ x) (x1 : x < 18446744073709551616) :
    Calls Tryz.prog 101 #[.int .i64 fm, .int .u64 x] w fun e w' => ∃ a' c', e = .returned (.agg #[.bool (Nm.wn (unI fm x)), .slice a' (Nm.wl (unI fm x)).length c']) ∧ Own w' w.heap.size a' c' (Nm.wl (unI fm x)) ∧ Below w.heap.size w w' := by
  have hfm := fin_fmt hf
  have CP := hid (fun w' => sparts_any fm x w' hf x0 x1)
  have CQ := hid (fun w' => sQ_any fm w' hfm)
  obtain ⟨G, L, z, E, Q, hz, hE, hQ, z0, z1, e0, e1, q0, q1, d0, d1, hG, hL, hd, hl2, hsh, hok, hl200⟩ := un_parts hf
  have CG := hid (fun w' => l1uint_z z (pS fm x) w' z0 (by omega))
  rw [← hG, ← hL] at CG
  rw [← hz, ← hE] at CP
  rw [← hQ] at CQ
  have hwr : IntKind.i64.wrap (E - Q) = E - Q := by rw [IntKind.wrap_i64]; omega
  have CR := hid (fun a c w' h => l1shift_any G a c L (IntKind.i64.wrap (E - Q)) w' h hd (by omega) (by rw [hwr]; omega) (by rw [hwr]; omega) (unI fm x) (by rw [hwr]; exact hsh.symm))
  obtain ⟨sg, hsg⟩ : ∃ sg, sg = pS fm x := ⟨_, rfl⟩
  rw [← hsg] at CG CP
  obtain ⟨G2, hG2⟩ : ∃ G2, G2 = Nm.wn (unI fm x) := ⟨_, rfl⟩
  obtain ⟨L2, hL2⟩ : ∃ L2, L2 = Nm.wl (unI fm x) := ⟨_, rfl⟩
  rw [← hG2, ← hL2] at CR ⊢
  have hzw : IntKind.u64.wrap z = z := by rw [IntKind.wrap_u64]; omega
  clear hz hE hQ hG hL hd hl2 hsh hok hl200 hsg hG2 hL2 hfm hwr
  go_enter Tryz.func101, Tryz.ntmps101
  go_wp2_with fail
  refine (CP.out _).mono ?_
  rintro r w1 ⟨rfl, hb1⟩
  have c1 := ((R2.new w (.bool false) (.slice none 0 0) 31).below hb1).alloc (.cells #[.bool sg, .int .i64 z, .int .i64 E] 77)
  have p1 := R3.new w1 (.bool sg) (.int .i64 z) (.int .i64 E) 77
  have lw1 : w.heap.size < w1.heap.size := by have := hb1.size; simp at this; omega
  obtain ⟨W, hW⟩ : ∃ W, W = w1.alloc (.cells #[.bool sg, .int .i64 z, .int .i64 E] 77) := ⟨_, rfl⟩
  have bel1 : Below (w.heap.size + 1) (w.alloc (.cells #[.bool false, .slice none 0 0] 31)) W := by rw [hW]; exact (by simpa using hb1.alloc hb1.size _)
  have belw : Below w.heap.size w W := by rw [hW]; exact (by repeat (first | exact bz0 _ _ | refine bz1 ?_ | refine bz2 ?_ _ | refine bz3 ?_ _ | refine bz4 ?_ hb1 | refine bz5 ?_ _ | refine bz6 ?_ _ | refine bz7 ?_ hb1))
  have lW : w1.heap.size < W.heap.size := by rw [hW]; simp
  go_wp2_with fail
  rw [← hW] at c1 p1 ⊢
  clear hW hb1
  obtain ⟨p10, p11, p12, p1f, p1g, p1h⟩ := p1
  have pd0 : W.drew.cell? ⟨w1.heap.size, 0, none⟩ = some (.bool sg) := p10
  have pd1 : W.drew.cell? ⟨w1.heap.size, 1, none⟩ = some (.int .i64 z) := p11
  have pd2 : W.drew.cell? ⟨w1.heap.size, 2, none⟩ = some (.int .i64 E) := p12
  go_region_held3 (fun w' => w'.cell? ⟨w1.heap.size, 0, none⟩ = some (.bool sg) ∧ w'.cell? ⟨w1.heap.size, 1, none⟩ = some (.int .i64 z) ∧ w'.cell? ⟨w1.heap.size, 2, none⟩ = some (.int .i64 E))
    (first
      | with_reducible assumption
      | with_reducible exact ⟨p10, p11, p12⟩
      | with_reducible exact ⟨pd0, pd1, pd2⟩
      | with_reducible exact ⟨rr1.c0, rr1.c1, rr1.c2⟩
      | with_reducible exact ⟨rr2.c0, rr2.c1, rr2.c2⟩
      | with_reducible exact ⟨(ss2 _ _).c0, (ss2 _ _).c1, (ss2 _ _).c2⟩)
    (first
      | (go_at_call 114; refine (CG.out _).mono ?_; rintro r q1' ⟨da, fa, rfl, hp1, hq1⟩; have rr1 := R3.below (R3.dr ⟨p10, p11, p12, p1f, p1g, p1h⟩) hq1; have cc1 := c1.drew.below hq1; have hB1 : Below W.heap.size W q1' := bel_go (Below.drew (Below.refl _ _)) hq1)
      | (go_at_call 98; refine (CQ.out _).mono ?_; rintro r q3 ⟨rfl, rfl⟩)
      | (go_at_call 100; refine (CR.out da fa _ hp1.sl).mono ?_; rintro r q2' ⟨db, fb, rfl, hp2, hq2⟩; have rr2 := R3.below rr1 hq2; have ss2 := fun u v => (R3.other rr2 (p := ⟨w.heap.size, 0, none⟩) (by simp; omega) u).other (p := ⟨w.heap.size, 1, none⟩) (by simp; omega) v; have cc2 := cc1.below hq2; have hB2 : Below W.heap.size W q2' := bel_go hB1 hq2; obtain ⟨cc20, cc21, cc2f, cc2g⟩ := cc2))
  all_goals go_wp2
  all_goals
    have l1 := hB1.size
    refine bodyPost_ret (v := .agg #[.bool G2, .slice db L2.length fb]) (by simp [results, Tryz.results101, go_sem, cc20, cc21]) rfl ⟨db, fb, rfl, ?_, ?_⟩
    · exact Own.base ((hp2.setBelow (by simp; omega) _).setBelow (by simp; omega) _) (by omega)
    · exact Below.setCell (Below.setCell (belw.trans (hB2.mono belw.size)) (by simp) _) (by simp) _
/-- What both answer: a wide, and whether it is finite. -/
def Ans (w w' : World) (r : Ending) (fm x : Int) : Prop := ∃ a' c', r = .returned (.tuple #[.agg #[.bool (Nm.wn (unI fm x)), .slice a' (Nm.wl (unI fm x)).length c'], .bool (finB fm x)]) ∧ Own w' w.heap.size a' c' (Nm.wl (unI fm x)) ∧ Below w.heap.size w w'
theorem ans_no {w w' : World} {fm x : Int} (h : finB fm x = false) (hb : Below w.heap.size w w') : Ans w w' (.returned (.tuple #[.agg #[.bool false, .slice none 0 0], .bool false])) fm x := by
  have e1 : Nm.wl (unI fm x) = [] := by rw [un_no h]; exact Nm.lim_zero
  have e2 : Nm.wn (unI fm x) = false := by rw [un_no h]; decide
  refine ⟨none, 0, ?_, ?_, hb⟩
  · rw [e1, e2, h]; rfl
  · rw [e1]; exact Own.nil _ _
theorem units_impl (fm x : Int) (w : World) (hT : Tab w) (x0 : 0 ≤ x) (x1 : x < 18446744073709551616) :
    Calls Tryz.prog 19 #[.int .i64 fm, .int .u64 x] w fun r w' => Ans w w' r fm x := by
  have CF := hid (fun w' h => impl_parts fm x w' h x0 x1)
  cases hf : finB fm x
  · rw [hf] at CF
    have HF := hid hf
    clear hf
    go_enter Tryz.func19, Tryz.ntmps19
    go_wp2_with fail
    refine (CF.out _ (hT.al _)).mono ?_
    rintro r w1 ⟨rfl, hb1⟩
    obtain ⟨c0, c1, f0, f1⟩ := (R2.new w (.bool false) (.slice none 0 0) 31).below hb1
    have lw1 : w.heap.size < w1.heap.size := World.block_lt_of_cell? w1 _ c0
    go_wp2
    exact bodyPost_ret (v := .tuple #[.agg #[.bool false, .slice none 0 0], .bool false]) (by simp [results, Tryz.results19, go_sem, c0, c1, lw1]) rfl (ans_no HF.out (by repeat (first | exact bz0 _ _ | refine bz1 ?_ | refine bz2 ?_ _ | refine bz3 ?_ _ | refine bz4 ?_ hb1 | refine bz5 ?_ _ | refine bz6 ?_ _ | refine bz7 ?_ hb1)))
  · have hfm := fin_fmt hf
    obtain ⟨G, L, z, E, Q, hz, hE, hQ, z0, z1, e0, e1, q0, q1, d0, d1, hG, hL, hd, hl2, hsh, hok, hl200⟩ := un_parts hf
    unfold Ans
    rw [hf] at CF ⊢
    have CG := hid (fun w' => signedM_z (pS fm x) z E w' z0 (by omega))
    rw [← hG, ← hL] at CG
    rw [← hz, ← hE] at CF
    have hwr : IntKind.i64.wrap (E - Q) = E - Q := by rw [IntKind.wrap_i64]; omega
    have CR := hid (fun a c w' h => wsh_impl G a c L (IntKind.i64.wrap (E - Q)) w' h hd (by omega))
    have hin : inZ (IntKind.i64.wrap (E - Q)) (-10000) 10000 = true := by rw [hwr]; simp [inZ]; omega
    have hfit : Nm.fits (unI fm x) = true := by unfold Nm.fits; exact decide_eq_true hl200
    have hval : Nm.shV G (Nm.val L) (IntKind.i64.wrap (E - Q)) = unI fm x := by rw [hwr]; exact hsh
    rw [hok, hin, hval, Bool.and_self, (op_yes _).1, (op_yes _).2.1, (op_yes _).2.2, (out_fits hfit).1, (out_fits hfit).2, hfit] at CR
    obtain ⟨sg, hsg⟩ : ∃ sg, sg = pS fm x := ⟨_, rfl⟩
    rw [← hsg] at CG CF
    obtain ⟨G2, hG2⟩ : ∃ G2, G2 = Nm.wn (unI fm x) := ⟨_, rfl⟩
    obtain ⟨L2, hL2⟩ : ∃ L2, L2 = Nm.wl (unI fm x) := ⟨_, rfl⟩
    rw [← hG2, ← hL2] at CR ⊢
    clear hf hz hE hG hL hd hl2 hsh hok hl200 hsg hG2 hL2 hwr hin hfit hval
    rcases fmt_cases hfm with rfl | rfl
    · have hQ' : Q = (-149) := hQ
      clear hfm hQ
      subst hQ'
      go_enter Tryz.func19, Tryz.ntmps19
      go_wp2_with fail
      refine (CF.out _ (hT.al _)).mono ?_
      rintro r w1 ⟨rfl, hb1⟩
      have c1 := ((R2.new w (.bool false) (.slice none 0 0) 31).below hb1).alloc (.cells #[.bool sg, .int .i64 z, .int .i64 E] 77)
      have p1 := R3.new w1 (.bool sg) (.int .i64 z) (.int .i64 E) 77
      have T1 := ((hT.al _).below hb1).al (.cells #[.bool sg, .int .i64 z, .int .i64 E] 77)
      have lw1 : w.heap.size < w1.heap.size := by have := hb1.size; simp at this; omega
      go_wp2_with fail
      refine (sizes32 _ T1).mono ?_
      rintro r w2 ⟨rfl, hb2⟩
      have c2 := (c1.below hb2).alloc (.cells #[.int .u64 23, .int .u64 255, .int .i64 (-149)] 81)
      have p2 := (p1.below hb2).al (.cells #[.int .u64 23, .int .u64 255, .int .i64 (-149)] 81)
      have s2 := R3.new w2 (.int .u64 23) (.int .u64 255) (.int .i64 (-149)) 81
      have lw2 : w1.heap.size < w2.heap.size := by have := hb2.size; simp at this; omega
      obtain ⟨W, hW⟩ : ∃ W, W = w2.alloc (.cells #[.int .u64 23, .int .u64 255, .int .i64 (-149)] 81) := ⟨_, rfl⟩
      have belw : Below w.heap.size w W := by rw [hW]; exact (by repeat (first | exact bz0 _ _ | refine bz1 ?_ | refine bz2 ?_ _ | refine bz3 ?_ _ | refine bz4 ?_ hb2 | refine bz4 ?_ hb1 | refine bz5 ?_ _ | refine bz6 ?_ _ | refine bz7 ?_ hb2 | refine bz7 ?_ hb1))
      have lW : w2.heap.size < W.heap.size := by rw [hW]; simp
      go_wp2_with fail
      rw [← hW] at c2 p2 s2 ⊢
      clear hW hb1 hb2 c1 p1 T1
      obtain ⟨p10, p11, p12, p1f, p1g, p1h⟩ := p2
      obtain ⟨s10, s11, s12, s1f, s1g, s1h⟩ := s2
      have pd0 : W.drew.cell? ⟨w1.heap.size, 0, none⟩ = some (.bool sg) := p10
      have pd1 : W.drew.cell? ⟨w1.heap.size, 1, none⟩ = some (.int .i64 z) := p11
      have pd2 : W.drew.cell? ⟨w1.heap.size, 2, none⟩ = some (.int .i64 E) := p12
      have sd2 : W.drew.cell? ⟨w2.heap.size, 2, none⟩ = some (.int .i64 (-149)) := s12
      go_region_held3 (fun w' => w'.cell? ⟨w1.heap.size, 0, none⟩ = some (.bool sg) ∧ w'.cell? ⟨w1.heap.size, 1, none⟩ = some (.int .i64 z) ∧ w'.cell? ⟨w1.heap.size, 2, none⟩ = some (.int .i64 E) ∧ w'.cell? ⟨w2.heap.size, 2, none⟩ = some (.int .i64 (-149)))
        (first
          | with_reducible assumption
          | with_reducible exact ⟨p10, p11, p12, s12⟩
          | with_reducible exact ⟨pd0, pd1, pd2, sd2⟩
          | with_reducible exact ⟨rr1.c0, rr1.c1, rr1.c2, sr1.c2⟩
          | with_reducible exact ⟨rr2.c0, rr2.c1, rr2.c2, sr2.c2⟩
          | with_reducible exact ⟨(ss2 _ _).c0, (ss2 _ _).c1, (ss2 _ _).c2, (st2 _ _).c2⟩)
        (first
          | (go_at_call 66; refine (CG.out _).mono ?_; rintro r q1' ⟨da, fa, rfl, hp1, hq1⟩; have rr1 := R3.below (R3.dr ⟨p10, p11, p12, p1f, p1g, p1h⟩) hq1; have sr1 := R3.below (R3.dr ⟨s10, s11, s12, s1f, s1g, s1h⟩) hq1; have cc1 := c2.drew.below hq1; have hB1 : Below W.heap.size W q1' := bel_go (Below.drew (Below.refl _ _)) hq1)
          | (go_at_call 20; refine (CR.out da fa _ hp1.sl).mono ?_; rintro r q2' ⟨db, fb, rfl, hp2, hq2⟩; have rr2 := R3.below rr1 hq2; have sr2 := R3.below sr1 hq2; have ss2 := fun u v => (R3.other rr2 (p := ⟨w.heap.size, 0, none⟩) (by simp; omega) u).other (p := ⟨w.heap.size, 1, none⟩) (by simp; omega) v; have st2 := fun u v => (R3.other sr2 (p := ⟨w.heap.size, 0, none⟩) (by simp; omega) u).other (p := ⟨w.heap.size, 1, none⟩) (by simp; omega) v; have cc2 := cc1.below hq2; have hB2 : Below W.heap.size W q2' := bel_go hB1 hq2; obtain ⟨cc20, cc21, cc2f, cc2g⟩ := cc2))
      all_goals go_wp2
      all_goals
        have l1 := hB1.size
        refine bodyPost_ret (v := .tuple #[.agg #[.bool G2, .slice db L2.length fb], .bool true]) (by simp [results, Tryz.results19, go_sem, cc20, cc21]) rfl ⟨db, fb, rfl, ?_, ?_⟩
        · exact Own.base ((hp2.setBelow (by simp; omega) _).setBelow (by simp; omega) _) (by omega)
        · exact Below.setCell (Below.setCell (belw.trans (hB2.mono belw.size)) (by simp) _) (by simp) _
    · have hQ' : Q = (-1074) := hQ
      clear hfm hQ
      subst hQ'
      go_enter Tryz.func19, Tryz.ntmps19
      go_wp2_with fail
      refine (CF.out _ (hT.al _)).mono ?_
      rintro r w1 ⟨rfl, hb1⟩
      have c1 := ((R2.new w (.bool false) (.slice none 0 0) 31).below hb1).alloc (.cells #[.bool sg, .int .i64 z, .int .i64 E] 77)
      have p1 := R3.new w1 (.bool sg) (.int .i64 z) (.int .i64 E) 77
      have T1 := ((hT.al _).below hb1).al (.cells #[.bool sg, .int .i64 z, .int .i64 E] 77)
      have lw1 : w.heap.size < w1.heap.size := by have := hb1.size; simp at this; omega
      go_wp2_with fail
      refine (sizes64 _ T1).mono ?_
      rintro r w2 ⟨rfl, hb2⟩
      have c2 := (c1.below hb2).alloc (.cells #[.int .u64 52, .int .u64 2047, .int .i64 (-1074)] 81)
      have p2 := (p1.below hb2).al (.cells #[.int .u64 52, .int .u64 2047, .int .i64 (-1074)] 81)
      have s2 := R3.new w2 (.int .u64 52) (.int .u64 2047) (.int .i64 (-1074)) 81
      have lw2 : w1.heap.size < w2.heap.size := by have := hb2.size; simp at this; omega
      obtain ⟨W, hW⟩ : ∃ W, W = w2.alloc (.cells #[.int .u64 52, .int .u64 2047, .int .i64 (-1074)] 81) := ⟨_, rfl⟩
      have belw : Below w.heap.size w W := by rw [hW]; exact (by repeat (first | exact bz0 _ _ | refine bz1 ?_ | refine bz2 ?_ _ | refine bz3 ?_ _ | refine bz4 ?_ hb2 | refine bz4 ?_ hb1 | refine bz5 ?_ _ | refine bz6 ?_ _ | refine bz7 ?_ hb2 | refine bz7 ?_ hb1))
      have lW : w2.heap.size < W.heap.size := by rw [hW]; simp
      go_wp2_with fail
      rw [← hW] at c2 p2 s2 ⊢
      clear hW hb1 hb2 c1 p1 T1
      obtain ⟨p10, p11, p12, p1f, p1g, p1h⟩ := p2
      obtain ⟨s10, s11, s12, s1f, s1g, s1h⟩ := s2
      have pd0 : W.drew.cell? ⟨w1.heap.size, 0, none⟩ = some (.bool sg) := p10
      have pd1 : W.drew.cell? ⟨w1.heap.size, 1, none⟩ = some (.int .i64 z) := p11
      have pd2 : W.drew.cell? ⟨w1.heap.size, 2, none⟩ = some (.int .i64 E) := p12
      have sd2 : W.drew.cell? ⟨w2.heap.size, 2, none⟩ = some (.int .i64 (-1074)) := s12
      go_region_held3 (fun w' => w'.cell? ⟨w1.heap.size, 0, none⟩ = some (.bool sg) ∧ w'.cell? ⟨w1.heap.size, 1, none⟩ = some (.int .i64 z) ∧ w'.cell? ⟨w1.heap.size, 2, none⟩ = some (.int .i64 E) ∧ w'.cell? ⟨w2.heap.size, 2, none⟩ = some (.int .i64 (-1074)))
        (first
          | with_reducible assumption
          | with_reducible exact ⟨p10, p11, p12, s12⟩
          | with_reducible exact ⟨pd0, pd1, pd2, sd2⟩
          | with_reducible exact ⟨rr1.c0, rr1.c1, rr1.c2, sr1.c2⟩
          | with_reducible exact ⟨rr2.c0, rr2.c1, rr2.c2, sr2.c2⟩
          | with_reducible exact ⟨(ss2 _ _).c0, (ss2 _ _).c1, (ss2 _ _).c2, (st2 _ _).c2⟩)
        (first
          | (go_at_call 66; refine (CG.out _).mono ?_; rintro r q1' ⟨da, fa, rfl, hp1, hq1⟩; have rr1 := R3.below (R3.dr ⟨p10, p11, p12, p1f, p1g, p1h⟩) hq1; have sr1 := R3.below (R3.dr ⟨s10, s11, s12, s1f, s1g, s1h⟩) hq1; have cc1 := c2.drew.below hq1; have hB1 : Below W.heap.size W q1' := bel_go (Below.drew (Below.refl _ _)) hq1)
          | (go_at_call 20; refine (CR.out da fa _ hp1.sl).mono ?_; rintro r q2' ⟨db, fb, rfl, hp2, hq2⟩; have rr2 := R3.below rr1 hq2; have sr2 := R3.below sr1 hq2; have ss2 := fun u v => (R3.other rr2 (p := ⟨w.heap.size, 0, none⟩) (by simp; omega) u).other (p := ⟨w.heap.size, 1, none⟩) (by simp; omega) v; have st2 := fun u v => (R3.other sr2 (p := ⟨w.heap.size, 0, none⟩) (by simp; omega) u).other (p := ⟨w.heap.size, 1, none⟩) (by simp; omega) v; have cc2 := cc1.below hq2; have hB2 : Below W.heap.size W q2' := bel_go hB1 hq2; obtain ⟨cc20, cc21, cc2f, cc2g⟩ := cc2))
      all_goals go_wp2
      all_goals
        have l1 := hB1.size
        refine bodyPost_ret (v := .tuple #[.agg #[.bool G2, .slice db L2.length fb], .bool true]) (by simp [results, Tryz.results19, go_sem, cc20, cc21]) rfl ⟨db, fb, rfl, ?_, ?_⟩
        · exact Own.base ((hp2.setBelow (by simp; omega) _).setBelow (by simp; omega) _) (by omega)
        · exact Below.setCell (Below.setCell (belw.trans (hB2.mono belw.size)) (by simp) _) (by simp) _
end Go.Proofs.YtmcflggionkhlaaGreatDoor
namespace Go.Proofs.YtmcflggionkhlaaGreatDoor
set_option linter.unusedVariables false
set_option linter.unusedSimpArgs false
open Go.RowKit Go.Deep
theorem un_len (fm x : Int) : (Nm.wl (unI fm x)).length ≤ 200 := by
  cases hf : finB fm x
  · rw [un_no hf]; have : Nm.wl 0 = [] := Nm.lim_zero
    rw [this]; simp
  · obtain ⟨G, L, z, E, Q, hz, hE, hQ, z0, z1, e0, e1, q0, q1, d0, d1, hG, hL, hd, hl2, hsh, hok, hl200⟩ := un_parts hf
    exact hl200
namespace Fd
theorem big_any (ca : Option Addr) (n cc : Nat) (w : World) (hn : n ≤ 9223372036854775807) (b : Bool) (hb : b = decide (1048576 < n)) :
    Calls Tryz.prog 15 #[.slice ca n cc] w fun e w' => e = .returned (.bool b) ∧ w' = w := by
  by_cases h : 1048576 < n
  · have HB : Hid (b = true) := hid (by rw [hb]; simpa using h)
    clear hb
    go_enter Tryz.func15, Tryz.ntmps15
    go_wp2
    go_ret
    refine ⟨ret_bool ?_, rfl⟩
    rw [HB.out]
    first | rfl | (simp; omega)
  · have HB : Hid (b = false) := hid (by rw [hb]; simpa using h)
    clear hb
    go_enter Tryz.func15, Tryz.ntmps15
    go_wp2
    go_ret
    refine ⟨ret_bool ?_, rfl⟩
    rw [HB.out]
    first | rfl | (simp; omega)
theorem bel_rd {w W w' : World} {rb : Nat} (h : Below w.heap.size w W) (hg : W.grownBy w' (some rb)) (hr : w.heap.size ≤ rb) : Below w.heap.size w w' := h.grown hg h.size (fun k hk => by cases hk; exact hr)
theorem format_any (rb : Nat) (ca : Option Addr) (cc : Nat) (cs : List Int) (w : World) (hr : RD w rb ca cc cs) :
    Calls Tryz.prog 151 #[.pointer (some ⟨rb, 0, none⟩)] w fun e w' => ∃ fm : Int, e = .returned (.int .i64 fm) ∧ fmtB fm = true ∧ RD w' rb ca cc cs ∧ w.grownBy w' (some rb) := by
  go_enter Tryz.func151, Tryz.ntmps151
  go_wp2_with fail
  refine (once_any rb ca cc cs 2 _ hr (by decide) (by decide)).mono ?_
  rintro e w1 ⟨v, rfl, hr1, hg1⟩
  cases v
  · go_wp2
    go_ret
    exact ⟨64, rfl, by decide, hr1, hg1⟩
  · go_wp2
    go_ret
    exact ⟨32, rfl, by decide, hr1, hg1⟩
end Fd
end Go.Proofs.YtmcflggionkhlaaGreatDoor
