/-
  Several texts in one: RK, RL, VecA, VecB, VecC, WideR.
-/
import Derived.Test.YtojcaoccjapdoaaDoorG22
import Derived.Test.YtojcaoccjapdoaaDoorG05
import Derived.Deep.RegionHeld3
import Derived.Test.YtojcaoccjapdoaaDoorG14
import Derived.Test.YtojcaoccjapdoaaDoorG09
import Derived.Test.YtojcaoccjapdoaaDoorG21
import Derived.LoopN
import Derived.Test.YtojcaoccjapdoaaDoorG02
/-
  How many units a finite float is, by both; the law.
-/
namespace Go.Proofs.YtojcaoccjapdoaaDoor
set_option linter.unusedVariables false
set_option linter.unusedSimpArgs false
open Go.RowKit Go.Deep
/-- Units of a finite float, as a number; 0 for others. -/
def unQ (fm : Int) : Int := if fm = 32 then -149 else -1074
def unI (fm x : Int) : Int := if finB fm x then (if pS fm x then -((Nm.sh (pM fm x).toNat (pE fm x - unQ fm) : Nat) : Int) else ((Nm.sh (pM fm x).toNat (pE fm x - unQ fm) : Nat) : Int)) else 0
theorem un_no {fm x : Int} (h : finB fm x = false) : unI fm x = 0 := by unfold unI; rw [h]; rfl
theorem pE_q {fm x : Int} (h : finB fm x = true) : 0 ≤ pE fm x - unQ fm ∧ pE fm x - unQ fm ≤ 2100 := by
  have ho : okF fm x = true := by
    cases ho : okF fm x
    · rw [fin_no ho] at h; cases h
    · rfl
  have hlt := fin_lt ho
  rw [h] at hlt
  have hlt' := of_decide_eq_true hlt.symm
  unfold pE unQ
  rw [h, if_pos rfl]
  rcases okF_cases ho with ⟨rfl, hx⟩ | rfl
  · rw [if_pos rfl, if_pos rfl]
    rw [abs32 hx] at hlt'
    unfold infOf at hlt'; rw [if_pos rfl] at hlt'
    unfold parE; split <;> omega
  · rw [if_neg (by decide), if_neg (by decide)]
    rw [abs64] at hlt'
    unfold infOf at hlt'; rw [if_neg (by decide)] at hlt'
    unfold parE; split <;> omega
theorem un_bits {fm x : Int} (h : finB fm x = true) : bitLen (Nm.sh (pM fm x).toNat (pE fm x - unQ fm)) ≤ 2200 := by
  have h1 := Nm.bl_sh (pM fm x).toNat (pE fm x - unQ fm)
  have h2 := pM_bd fm x
  have h3 := (Nm.bl_le_iff (pM fm x).toNat 53).2 (by omega)
  have h4 := pE_q h
  omega
/-- A wide with a sign, shifted up. -/
theorem shV_sg (ng : Bool) (m : Nat) (n : Int) : Nm.shV ng (m : Int) n = if ng then -((Nm.sh m n : Nat) : Int) else ((Nm.sh m n : Nat) : Int) := by
  unfold Nm.shV; rw [Nm.shM_sh]
theorem okB_wl {x : Int} (h : (Nm.wl x).length ≤ 200) : okB (Nm.wn x) (Nm.wl x) = true := by
  by_cases h0 : x = 0
  · subst h0
    have e1 : Nm.wl 0 = [] := Nm.lim_zero
    have e2 : Nm.wn 0 = false := by decide
    rw [e1, e2]; rfl
  · have hb : bitLen x.natAbs ≤ 6400 := len_bl (k := 200) h
    exact ok_lim (by omega) hb _
set_option maxHeartbeats 2000000 in
theorem l1uint_z (m : Int) (ng : Bool) (w : World) (h0 : 0 ≤ m) (h1 : m < 18446744073709551616) :
    Calls Tryd.prog 95 #[.int .u64 m, .bool ng] w fun e w' => ∃ a' c', e = .returned (.agg #[.bool (Nm.wn (if ng then -m else m)), .slice a' (Nm.wl (if ng then -m else m)).length c']) ∧ Own w' w.heap.size a' c' (Nm.wl (if ng then -m else m)) ∧ Below w.heap.size w w' :=
  l1uint_v m ng w h0 h1 _ rfl
set_option maxHeartbeats 2000000 in
theorem signedM_z (ng : Bool) (m : Int) (E : Int) (w : World) (h0 : 0 ≤ m) (h1 : m < 9223372036854775808) :
    Calls Tryd.prog 58 #[.agg #[.bool ng, .int .i64 m, .int .i64 E]] w fun e w' => ∃ a' c', e = .returned (.agg #[.bool (Nm.wn (if ng then -m else m)), .slice a' (Nm.wl (if ng then -m else m)).length c']) ∧ Own w' w.heap.size a' c' (Nm.wl (if ng then -m else m)) ∧ Below w.heap.size w w' := by
  have CN := hid (fun w' => wof_impl (-m) w' (by omega) (by omega))
  have CP := hid (fun w' => wof_impl m w' (by omega) (by omega))
  cases ng with
  | true =>
    have e : (if true = true then -m else m) = -m := rfl
    rw [e]
    obtain ⟨G, hG⟩ : ∃ G, G = Nm.wn (-m) := ⟨_, rfl⟩
    obtain ⟨L, hL⟩ : ∃ L, L = Nm.wl (-m) := ⟨_, rfl⟩
    rw [← hG, ← hL] at CN ⊢
    clear hG hL e CP
    go_enter Tryd.func58, Tryd.ntmps58
    go_wp2_with fail
    refine (CN.out _).mono ?_
    rintro e w1 ⟨a', c', rfl, ho, hb⟩
    obtain ⟨r0, r1, f0, f1⟩ := (R2.new2 w (.cells #[.bool true, .int .i64 m, .int .i64 E] 48) (.bool false) (.slice none 0 0) 31).below hb
    have ho : Own w1 (w.heap.size + 1 + 1) a' c' L := by simpa using ho
    go_wp2
    refine bodyPost_ret (v := .agg #[.bool G, .slice a' L.length c']) (by simp [results, Tryd.results58, go_sem, r0, r1]) rfl ⟨a', c', rfl, ?_, (by repeat (first | exact Below.refl _ _ | refine Below.drew ?_ | refine bel_dn ?_ _ | refine bel_al ?_ _ | refine bel_go ?_ hb | refine Below.setCell ?_ (by first | omega | (simp; done) | (simp; omega)) _ | refine Below.alloc ?_ (by first | omega | (simp; done) | (simp; omega)) _ | refine Below.trans ?_ (Below.mono hb (by first | omega | (simp; done) | (simp; omega)))))⟩
    exact Own.base ((ho.setBelow (by simp) _).setBelow (by simp) _) (by omega)
  | false =>
    have e : (if false = true then -m else m) = m := rfl
    rw [e]
    obtain ⟨G, hG⟩ : ∃ G, G = Nm.wn m := ⟨_, rfl⟩
    obtain ⟨L, hL⟩ : ∃ L, L = Nm.wl m := ⟨_, rfl⟩
    rw [← hG, ← hL] at CP ⊢
    clear hG hL e CN
    go_enter Tryd.func58, Tryd.ntmps58
    go_wp2_with fail
    refine (CP.out _).mono ?_
    rintro e w1 ⟨a', c', rfl, ho, hb⟩
    obtain ⟨r0, r1, f0, f1⟩ := (R2.new2 w (.cells #[.bool false, .int .i64 m, .int .i64 E] 48) (.bool false) (.slice none 0 0) 31).below hb
    have ho : Own w1 (w.heap.size + 1 + 1) a' c' L := by simpa using ho
    go_wp2
    refine bodyPost_ret (v := .agg #[.bool G, .slice a' L.length c']) (by simp [results, Tryd.results58, go_sem, r0, r1]) rfl ⟨a', c', rfl, ?_, (by repeat (first | exact Below.refl _ _ | refine Below.drew ?_ | refine bel_dn ?_ _ | refine bel_al ?_ _ | refine bel_go ?_ hb | refine Below.setCell ?_ (by first | omega | (simp; done) | (simp; omega)) _ | refine Below.alloc ?_ (by first | omega | (simp; done) | (simp; omega)) _ | refine Below.trans ?_ (Below.mono hb (by first | omega | (simp; done) | (simp; omega)))))⟩
    exact Own.base ((ho.setBelow (by simp) _).setBelow (by simp) _) (by omega)
theorem sQ_any (fm : Int) (w : World) (h : fmtB fm = true) :
    Calls Tryd.prog 90 #[.int .i64 fm] w fun e w' => e = .returned (.int .i64 (unQ fm)) ∧ w' = w := by
  rcases fmt_cases h with rfl | rfl
  · exact sQ_32 w
  · exact sQ_64 w
/-- A small number with a sign, shifted: what it is. -/
theorem sg_shift (sg : Bool) (m : Nat) (n : Int) : Nm.shV (Nm.wn (if sg then -(m : Int) else m)) (Nm.val (Nm.wl (if sg then -(m : Int) else m))) n = if sg then -((Nm.sh m n : Nat) : Int) else ((Nm.sh m n : Nat) : Int) := by
  have hv : Nm.val (Nm.wl (if sg then -(m : Int) else m)) = (m : Int) := by rw [Nm.val_wl]; cases sg <;> simp
  rw [hv, shV_sg]
  by_cases h0 : m = 0
  · subst h0
    have : Nm.sh 0 n = 0 := by unfold Nm.sh; split <;> simp
    rw [this]; cases sg <;> simp
  · have : Nm.wn (if sg then -(m : Int) else m) = sg := by unfold Nm.wn; cases sg <;> simp <;> omega
    rw [this]
theorem fin_fmt {fm x : Int} (h : finB fm x = true) : fmtB fm = true := by
  have ho : okF fm x = true := by
    cases ho : okF fm x
    · rw [fin_no ho] at h; cases h
    · rfl
  rcases okF_cases ho with ⟨rfl, hx⟩ | rfl <;> rfl
/-- What both shift: letters. -/
theorem un_parts {fm x : Int} (h : finB fm x = true) : ∃ (G : Bool) (L : List Int) (z E Q : Int), z = pM fm x ∧ E = pE fm x ∧ Q = unQ fm ∧ 0 ≤ z ∧ z < 9007199254740992 ∧ -1074 ≤ E ∧ E ≤ 2000 ∧ -1074 ≤ Q ∧ Q ≤ -149 ∧ 0 ≤ E - Q ∧ E - Q ≤ 2100 ∧
    G = Nm.wn (if pS fm x then -z else z) ∧ L = Nm.wl (if pS fm x then -z else z) ∧ Nm.Dg L ∧ L.length ≤ 2 ∧ Nm.shV G (Nm.val L) (E - Q) = unI fm x ∧ okB G L = true ∧ (Nm.wl (unI fm x)).length ≤ 200 := by
  have h1 := pM_bd fm x
  have h2 := pE_bd fm x
  have h3 := pE_q h
  have hq : -1074 ≤ unQ fm ∧ unQ fm ≤ -149 := by unfold unQ; split <;> omega
  obtain ⟨m, hm⟩ : ∃ m : Nat, pM fm x = m := ⟨(pM fm x).toNat, by omega⟩
  have hu : unI fm x = if pS fm x then -((Nm.sh m (pE fm x - unQ fm) : Nat) : Int) else ((Nm.sh m (pE fm x - unQ fm) : Nat) : Int) := by
    unfold unI; rw [h, if_pos rfl, hm, Int.toNat_natCast]
  have hl : (Nm.wl (if pS fm x then -pM fm x else pM fm x)).length ≤ 2 := by
    unfold Nm.wl
    exact lim_two (by cases pS fm x <;> simp <;> omega)
  refine ⟨_, _, _, _, _, rfl, rfl, rfl, h1.1, h1.2, h2.1, h2.2, hq.1, hq.2, h3.1, h3.2, rfl, rfl, Nm.wl_dg _, hl, ?_, okB_wl (by omega), ?_⟩
  · rw [hu, hm]; exact sg_shift _ m _
  · have hb := un_bits h
    rw [hm, Int.toNat_natCast] at hb
    rw [hu]
    unfold Nm.wl
    refine lim_len (k := 200) ?_
    have : (if pS fm x then -((Nm.sh m (pE fm x - unQ fm) : Nat) : Int) else ((Nm.sh m (pE fm x - unQ fm) : Nat) : Int)).natAbs = Nm.sh m (pE fm x - unQ fm) := by cases pS fm x <;> simp
    rw [this]; omega
attribute [local go_sem ↓] Go.wp_at_zero Go.wp_at_succ
/-- What both answer: a wide, and whether it is finite. -/
def Ans (w w' : World) (r : Ending) (fm x : Int) : Prop := ∃ a' c', r = .returned (.tuple #[.agg #[.bool (Nm.wn (unI fm x)), .slice a' (Nm.wl (unI fm x)).length c'], .bool (finB fm x)]) ∧ Own w' w.heap.size a' c' (Nm.wl (unI fm x)) ∧ Below w.heap.size w w'
theorem ans_no {w w' : World} {fm x : Int} (h : finB fm x = false) (hb : Below w.heap.size w w') : Ans w w' (.returned (.tuple #[.agg #[.bool false, .slice none 0 0], .bool false])) fm x := by
  have e1 : Nm.wl (unI fm x) = [] := by rw [un_no h]; exact Nm.lim_zero
  have e2 : Nm.wn (unI fm x) = false := by rw [un_no h]; decide
  refine ⟨none, 0, ?_, ?_, hb⟩
  · rw [e1, e2, h]; rfl
  · rw [e1]; exact Own.nil _ _
set_option maxHeartbeats 8000000 in
set_option maxRecDepth 100000 in
theorem units_impl (fm x : Int) (w : World) (hT : Tab w) (x0 : 0 ≤ x) (x1 : x < 18446744073709551616) :
    Calls Tryd.prog 17 #[.int .i64 fm, .int .u64 x] w fun r w' => Ans w w' r fm x := by
  have CF := hid (fun w' h => impl_parts fm x w' h x0 x1)
  cases hf : finB fm x
  · rw [hf] at CF
    have HF := hid hf
    clear hf
    go_enter Tryd.func17, Tryd.ntmps17
    go_wp2_with fail
    refine (CF.out _ (hT.al _)).mono ?_
    rintro r w1 ⟨rfl, hb1⟩
    obtain ⟨c0, c1, f0, f1⟩ := (R2.new w (.bool false) (.slice none 0 0) 31).below hb1
    have lw1 : w.heap.size < w1.heap.size := World.block_lt_of_cell? w1 _ c0
    go_wp2
    exact bodyPost_ret (v := .tuple #[.agg #[.bool false, .slice none 0 0], .bool false]) (by simp [results, Tryd.results17, go_sem, c0, c1, lw1]) rfl (ans_no HF.out (by repeat (first | exact Below.refl _ _ | refine Below.drew ?_ | refine bel_dn ?_ _ | refine bel_al ?_ _ | refine bel_go ?_ hb1 | refine Below.setCell ?_ (by first | omega | (simp; done) | (simp; omega)) _ | refine Below.alloc ?_ (by first | omega | (simp; done) | (simp; omega)) _ | refine Below.trans ?_ (Below.mono hb1 (by first | omega | (simp; done) | (simp; omega))))))
  · have hfm := fin_fmt hf
    obtain ⟨G, L, z, E, Q, hz, hE, hQ, z0, z1, e0, e1, q0, q1, d0, d1, hG, hL, hd, hl2, hsh, hok, hl200⟩ := un_parts hf
    unfold Ans
    rw [hf] at CF ⊢
    have CG := hid (fun w' => signedM_z (pS fm x) z E w' z0 (by omega))
    rw [← hG, ← hL] at CG
    rw [← hz, ← hE] at CF
    have hwr : IntKind.i64.wrap (E - Q) = E - Q := by rw [IntKind.wrap_i64]; omega
    have CR := hid (fun a c w' h => wsh_impl G a c L (IntKind.i64.wrap (E - Q)) w' h hd (by omega))
    have hin : inZ (IntKind.i64.wrap (E - Q)) (-10000) 10000 = true := by rw [hwr]; simp [inZ]; omega
    have hfit : Nm.fits (unI fm x) = true := by unfold Nm.fits; exact decide_eq_true hl200
    have hval : Nm.shV G (Nm.val L) (IntKind.i64.wrap (E - Q)) = unI fm x := by rw [hwr]; exact hsh
    rw [hok, hin, hval, Bool.and_self, (op_yes _).1, (op_yes _).2.1, (op_yes _).2.2, (out_fits hfit).1, (out_fits hfit).2, hfit] at CR
    obtain ⟨sg, hsg⟩ : ∃ sg, sg = pS fm x := ⟨_, rfl⟩
    rw [← hsg] at CG CF
    obtain ⟨G2, hG2⟩ : ∃ G2, G2 = Nm.wn (unI fm x) := ⟨_, rfl⟩
    obtain ⟨L2, hL2⟩ : ∃ L2, L2 = Nm.wl (unI fm x) := ⟨_, rfl⟩
    rw [← hG2, ← hL2] at CR ⊢
    clear hf hz hE hG hL hd hl2 hsh hok hl200 hsg hG2 hL2 hwr hin hfit hval
    rcases fmt_cases hfm with rfl | rfl
    · have hQ' : Q = (-149) := hQ
      clear hfm hQ
      subst hQ'
      go_enter Tryd.func17, Tryd.ntmps17
      go_wp2_with fail
      refine (CF.out _ (hT.al _)).mono ?_
      rintro r w1 ⟨rfl, hb1⟩
      have c1 := ((R2.new w (.bool false) (.slice none 0 0) 31).below hb1).alloc (.cells #[.bool sg, .int .i64 z, .int .i64 E] 48)
      have p1 := R3.new w1 (.bool sg) (.int .i64 z) (.int .i64 E) 48
      have T1 := ((hT.al _).below hb1).al (.cells #[.bool sg, .int .i64 z, .int .i64 E] 48)
      have lw1 : w.heap.size < w1.heap.size := by have := hb1.size; simp at this; omega
      go_wp2_with fail
      refine (sizes32 _ T1).mono ?_
      rintro r w2 ⟨rfl, hb2⟩
      have c2 := (c1.below hb2).alloc (.cells #[.int .u64 23, .int .u64 255, .int .i64 (-149)] 68)
      have p2 := (p1.below hb2).al (.cells #[.int .u64 23, .int .u64 255, .int .i64 (-149)] 68)
      have s2 := R3.new w2 (.int .u64 23) (.int .u64 255) (.int .i64 (-149)) 68
      have lw2 : w1.heap.size < w2.heap.size := by have := hb2.size; simp at this; omega
      obtain ⟨W, hW⟩ : ∃ W, W = w2.alloc (.cells #[.int .u64 23, .int .u64 255, .int .i64 (-149)] 68) := ⟨_, rfl⟩
      have belw : Below w.heap.size w W := by rw [hW]; exact (by repeat (first | exact Below.refl _ _ | refine Below.drew ?_ | refine bel_dn ?_ _ | refine bel_al ?_ _ | refine bel_go ?_ hb2 | refine bel_go ?_ hb1 | refine Below.setCell ?_ (by first | omega | (simp; done) | (simp; omega)) _ | refine Below.alloc ?_ (by first | omega | (simp; done) | (simp; omega)) _ | refine Below.trans ?_ (Below.mono hb2 (by first | omega | (simp; done) | (simp; omega))) | refine Below.trans ?_ (Below.mono hb1 (by first | omega | (simp; done) | (simp; omega)))))
      have lW : w2.heap.size < W.heap.size := by rw [hW]; simp
      go_wp2_with fail
      rw [← hW] at c2 p2 s2 ⊢
      clear hW hb1 hb2 c1 p1 T1
      obtain ⟨p10, p11, p12, p1f, p1g, p1h⟩ := p2
      obtain ⟨s10, s11, s12, s1f, s1g, s1h⟩ := s2
      have pd0 : W.drew.cell? ⟨w1.heap.size, 0, none⟩ = some (.bool sg) := p10
      have pd1 : W.drew.cell? ⟨w1.heap.size, 1, none⟩ = some (.int .i64 z) := p11
      have pd2 : W.drew.cell? ⟨w1.heap.size, 2, none⟩ = some (.int .i64 E) := p12
      have sd2 : W.drew.cell? ⟨w2.heap.size, 2, none⟩ = some (.int .i64 (-149)) := s12
      go_region_held3 (fun w' => w'.cell? ⟨w1.heap.size, 0, none⟩ = some (.bool sg) ∧ w'.cell? ⟨w1.heap.size, 1, none⟩ = some (.int .i64 z) ∧ w'.cell? ⟨w1.heap.size, 2, none⟩ = some (.int .i64 E) ∧ w'.cell? ⟨w2.heap.size, 2, none⟩ = some (.int .i64 (-149)))
        (first
          | with_reducible assumption
          | with_reducible exact ⟨p10, p11, p12, s12⟩
          | with_reducible exact ⟨pd0, pd1, pd2, sd2⟩
          | with_reducible exact ⟨rr1.c0, rr1.c1, rr1.c2, sr1.c2⟩
          | with_reducible exact ⟨rr2.c0, rr2.c1, rr2.c2, sr2.c2⟩
          | with_reducible exact ⟨(ss2 _ _).c0, (ss2 _ _).c1, (ss2 _ _).c2, (st2 _ _).c2⟩)
        (first
          | (go_at_call 58; refine (CG.out _).mono ?_; rintro r q1' ⟨da, fa, rfl, hp1, hq1⟩; have rr1 := R3.below (R3.dr ⟨p10, p11, p12, p1f, p1g, p1h⟩) hq1; have sr1 := R3.below (R3.dr ⟨s10, s11, s12, s1f, s1g, s1h⟩) hq1; have cc1 := c2.drew.below hq1; have hB1 : Below W.heap.size W q1' := bel_go (Below.drew (Below.refl _ _)) hq1)
          | (go_at_call 44; refine (CR.out da fa _ hp1.sl).mono ?_; rintro r q2' ⟨db, fb, rfl, hp2, hq2⟩; have rr2 := R3.below rr1 hq2; have sr2 := R3.below sr1 hq2; have ss2 := fun u v => (R3.other rr2 (p := ⟨w.heap.size, 0, none⟩) (by simp; omega) u).other (p := ⟨w.heap.size, 1, none⟩) (by simp; omega) v; have st2 := fun u v => (R3.other sr2 (p := ⟨w.heap.size, 0, none⟩) (by simp; omega) u).other (p := ⟨w.heap.size, 1, none⟩) (by simp; omega) v; have cc2 := cc1.below hq2; have hB2 : Below W.heap.size W q2' := bel_go hB1 hq2; obtain ⟨cc20, cc21, cc2f, cc2g⟩ := cc2))
      all_goals go_wp2
      all_goals
        have l1 := hB1.size
        refine bodyPost_ret (v := .tuple #[.agg #[.bool G2, .slice db L2.length fb], .bool true]) (by simp [results, Tryd.results17, go_sem, cc20, cc21]) rfl ⟨db, fb, rfl, ?_, ?_⟩
        · exact Own.base ((hp2.setBelow (by simp; omega) _).setBelow (by simp; omega) _) (by omega)
        · exact Below.setCell (Below.setCell (belw.trans (hB2.mono belw.size)) (by simp) _) (by simp) _
    · have hQ' : Q = (-1074) := hQ
      clear hfm hQ
      subst hQ'
      go_enter Tryd.func17, Tryd.ntmps17
      go_wp2_with fail
      refine (CF.out _ (hT.al _)).mono ?_
      rintro r w1 ⟨rfl, hb1⟩
      have c1 := ((R2.new w (.bool false) (.slice none 0 0) 31).below hb1).alloc (.cells #[.bool sg, .int .i64 z, .int .i64 E] 48)
      have p1 := R3.new w1 (.bool sg) (.int .i64 z) (.int .i64 E) 48
      have T1 := ((hT.al _).below hb1).al (.cells #[.bool sg, .int .i64 z, .int .i64 E] 48)
      have lw1 : w.heap.size < w1.heap.size := by have := hb1.size; simp at this; omega
      go_wp2_with fail
      refine (sizes64 _ T1).mono ?_
      rintro r w2 ⟨rfl, hb2⟩
      have c2 := (c1.below hb2).alloc (.cells #[.int .u64 52, .int .u64 2047, .int .i64 (-1074)] 68)
      have p2 := (p1.below hb2).al (.cells #[.int .u64 52, .int .u64 2047, .int .i64 (-1074)] 68)
      have s2 := R3.new w2 (.int .u64 52) (.int .u64 2047) (.int .i64 (-1074)) 68
      have lw2 : w1.heap.size < w2.heap.size := by have := hb2.size; simp at this; omega
      obtain ⟨W, hW⟩ : ∃ W, W = w2.alloc (.cells #[.int .u64 52, .int .u64 2047, .int .i64 (-1074)] 68) := ⟨_, rfl⟩
      have belw : Below w.heap.size w W := by rw [hW]; exact (by repeat (first | exact Below.refl _ _ | refine Below.drew ?_ | refine bel_dn ?_ _ | refine bel_al ?_ _ | refine bel_go ?_ hb2 | refine bel_go ?_ hb1 | refine Below.setCell ?_ (by first | omega | (simp; done) | (simp; omega)) _ | refine Below.alloc ?_ (by first | omega | (simp; done) | (simp; omega)) _ | refine Below.trans ?_ (Below.mono hb2 (by first | omega | (simp; done) | (simp; omega))) | refine Below.trans ?_ (Below.mono hb1 (by first | omega | (simp; done) | (simp; omega)))))
      have lW : w2.heap.size < W.heap.size := by rw [hW]; simp
      go_wp2_with fail
      rw [← hW] at c2 p2 s2 ⊢
      clear hW hb1 hb2 c1 p1 T1
      obtain ⟨p10, p11, p12, p1f, p1g, p1h⟩ := p2
      obtain ⟨s10, s11, s12, s1f, s1g, s1h⟩ := s2
      have pd0 : W.drew.cell? ⟨w1.heap.size, 0, none⟩ = some (.bool sg) := p10
      have pd1 : W.drew.cell? ⟨w1.heap.size, 1, none⟩ = some (.int .i64 z) := p11
      have pd2 : W.drew.cell? ⟨w1.heap.size, 2, none⟩ = some (.int .i64 E) := p12
      have sd2 : W.drew.cell? ⟨w2.heap.size, 2, none⟩ = some (.int .i64 (-1074)) := s12
      go_region_held3 (fun w' => w'.cell? ⟨w1.heap.size, 0, none⟩ = some (.bool sg) ∧ w'.cell? ⟨w1.heap.size, 1, none⟩ = some (.int .i64 z) ∧ w'.cell? ⟨w1.heap.size, 2, none⟩ = some (.int .i64 E) ∧ w'.cell? ⟨w2.heap.size, 2, none⟩ = some (.int .i64 (-1074)))
        (first
          | with_reducible assumption
          | with_reducible exact ⟨p10, p11, p12, s12⟩
          | with_reducible exact ⟨pd0, pd1, pd2, sd2⟩
          | with_reducible exact ⟨rr1.c0, rr1.c1, rr1.c2, sr1.c2⟩
          | with_reducible exact ⟨rr2.c0, rr2.c1, rr2.c2, sr2.c2⟩
          | with_reducible exact ⟨(ss2 _ _).c0, (ss2 _ _).c1, (ss2 _ _).c2, (st2 _ _).c2⟩)
        (first
          | (go_at_call 58; refine (CG.out _).mono ?_; rintro r q1' ⟨da, fa, rfl, hp1, hq1⟩; have rr1 := R3.below (R3.dr ⟨p10, p11, p12, p1f, p1g, p1h⟩) hq1; have sr1 := R3.below (R3.dr ⟨s10, s11, s12, s1f, s1g, s1h⟩) hq1; have cc1 := c2.drew.below hq1; have hB1 : Below W.heap.size W q1' := bel_go (Below.drew (Below.refl _ _)) hq1)
          | (go_at_call 44; refine (CR.out da fa _ hp1.sl).mono ?_; rintro r q2' ⟨db, fb, rfl, hp2, hq2⟩; have rr2 := R3.below rr1 hq2; have sr2 := R3.below sr1 hq2; have ss2 := fun u v => (R3.other rr2 (p := ⟨w.heap.size, 0, none⟩) (by simp; omega) u).other (p := ⟨w.heap.size, 1, none⟩) (by simp; omega) v; have st2 := fun u v => (R3.other sr2 (p := ⟨w.heap.size, 0, none⟩) (by simp; omega) u).other (p := ⟨w.heap.size, 1, none⟩) (by simp; omega) v; have cc2 := cc1.below hq2; have hB2 : Below W.heap.size W q2' := bel_go hB1 hq2; obtain ⟨cc20, cc21, cc2f, cc2g⟩ := cc2))
      all_goals go_wp2
      all_goals
        have l1 := hB1.size
        refine bodyPost_ret (v := .tuple #[.agg #[.bool G2, .slice db L2.length fb], .bool true]) (by simp [results, Tryd.results17, go_sem, cc20, cc21]) rfl ⟨db, fb, rfl, ?_, ?_⟩
        · exact Own.base ((hp2.setBelow (by simp; omega) _).setBelow (by simp; omega) _) (by omega)
        · exact Below.setCell (Below.setCell (belw.trans (hB2.mono belw.size)) (by simp) _) (by simp) _
end Go.Proofs.YtojcaoccjapdoaaDoor
/-
  The law on units.
-/
namespace Go.Proofs.YtojcaoccjapdoaaDoor
set_option linter.unusedVariables false
set_option linter.unusedSimpArgs false
open Go.RowKit Go.Deep
theorem un_len (fm x : Int) : (Nm.wl (unI fm x)).length ≤ 200 := by
  cases hf : finB fm x
  · rw [un_no hf]; have : Nm.wl 0 = [] := Nm.lim_zero
    rw [this]; simp
  · obtain ⟨G, L, z, E, Q, hz, hE, hQ, z0, z1, e0, e1, q0, q1, d0, d1, hG, hL, hd, hl2, hsh, hok, hl200⟩ := un_parts hf
    exact hl200
end Go.Proofs.YtojcaoccjapdoaaDoor
/-
  Vectors in memory; the laws' own helpers over them; whether all are floats of a format.
-/
namespace Go.Proofs.YtojcaoccjapdoaaDoor
set_option linter.unusedVariables false
set_option linter.unusedSimpArgs false
open Go.RowKit Go.Deep
/-- Numbers of 64 bits. -/
def D64 (xs : List Int) : Prop := ∀ x ∈ xs, 0 ≤ x ∧ x < 18446744073709551616
theorem D64.getD {xs : List Int} (h : D64 xs) (k : Nat) : 0 ≤ xs.getD k 0 ∧ xs.getD k 0 < 18446744073709551616 := by
  rw [List.getD_eq_getElem?_getD]
  by_cases hk : k < xs.length
  · rw [List.getElem?_eq_getElem hk]; exact h _ (List.getElem_mem hk)
  · rw [List.getElem?_eq_none (by omega)]; decide
theorem info64 : (Tryd.prog.info? 26).map (fun i => (i.zero, i.size, i.bytes)) = some (some (.int .u64 0), 1, 8) := by kernel_rfl
/-- k numbers are copied. -/
def copV (zs : List Int) (k : Nat) : Nat → Value := fun i => if i < k then .int .u64 (zs.getD i 0) else .int .u64 0
theorem copV_step {w : World} {b : Nat} {t : TypeId} {zs : List Int} {k : Nat} {u : Int} (h : w.rowIs b t zs.length (copV zs k)) (hu : u = zs.getD k 0) : (w.setCell ⟨b, k, none⟩ (.int .u64 u)).rowIs b t zs.length (copV zs (k + 1)) :=
  (h.set k _).congr fun i _ => by
    subst hu
    unfold copV
    by_cases e : i = k
    · subst e; simp
    · rw [if_neg e]
      by_cases hlt : i < k
      · rw [if_pos hlt, if_pos (by omega)]
      · rw [if_neg hlt, if_neg (by omega)]
theorem Sl.of_row64 {w : World} {b : Nat} {t : TypeId} {zs : List Int} {f : Nat → Value} (h : w.rowIs b t zs.length f) (hf : ∀ i, i < zs.length → f i = .int .u64 (zs.getD i 0)) (hm : zs.length ≤ maxLen) : Sl .u64 w (.slice (some ⟨b, 0, none⟩) zs.length zs.length) zs :=
  ⟨some ⟨b, 0, none⟩, zs.length, rfl, Nat.le_refl _, hm, .inr ⟨b, 0, rfl, fun i hi => by rw [Nat.zero_add, h.cell hi, hf i hi]⟩⟩
/-- Whether all are floats of the format. -/
def allB (fm : Int) (xs : List Int) : Bool := xs.all (fun x => okF fm x)
theorem allB_yes {fm : Int} {xs : List Int} (h : ∀ j, j < xs.length → okF fm (xs.getD j 0) = true) : allB fm xs = true := by
  unfold allB
  rw [List.all_eq_true]
  intro x hx
  obtain ⟨j, hj, rfl⟩ := List.getElem_of_mem hx
  have := h j hj
  rwa [List.getD_eq_getElem?_getD, List.getElem?_eq_getElem hj] at this
theorem allB_no {fm : Int} {xs : List Int} {j : Nat} (hj : j < xs.length) (h : okF fm (xs.getD j 0) = false) : allB fm xs = false := by
  cases h' : allB fm xs
  · rfl
  · unfold allB at h'
    rw [List.all_eq_true] at h'
    have := h' _ (List.getElem_mem hj)
    rw [List.getD_eq_getElem?_getD, List.getElem?_eq_getElem hj] at h
    simp at h this
    rw [h] at this; exact absurd this (by decide)
/-- What is wrong with a vector. -/
def vecC (fm mode : Int) (xs : List Int) : Int := if fmtB fm && modeB mode then (if xs.length ≤ 300 then (if allB fm xs then 0 else 4) else 2) else 1
theorem form_impl (fm : Int) (w : World) :
    Calls Tryd.prog 109 #[.int .i64 fm] w fun e w' => e = .returned (.int .i64 (if fm = 32 then 1 else if fm = 64 then 2 else 0)) ∧ w' = w := by
  by_cases h1 : fm = 32
  · subst h1
    go_enter Tryd.func109, Tryd.ntmps109
    go_wp2
    go_ret
    exact ⟨rfl, rfl⟩
  · by_cases h2 : fm = 64
    · subst h2
      go_enter Tryd.func109, Tryd.ntmps109
      go_wp2
      go_ret
      exact ⟨rfl, rfl⟩
    · have e1 : (fm == 32) = false := by simpa using h1
      have e2 : (fm == 64) = false := by simpa using h2
      rw [if_neg h1, if_neg h2]
      clear h1 h2
      go_enter Tryd.func109, Tryd.ntmps109
      go_wp2
      go_ret
      exact ⟨rfl, rfl⟩
theorem form_B (fm : Int) (w : World) :
    Calls Tryd.prog 109 #[.int .i64 fm] w fun e w' => ∃ n : Int, e = .returned (.int .i64 n) ∧ (n == 0) = !fmtB fm ∧ Below w.heap.size w w' := (form_impl fm w).mono fun e w' ⟨h, h'⟩ => by
  subst h'
  refine ⟨_, h, ?_, Below.refl _ _⟩
  unfold fmtB
  by_cases h1 : fm = 32
  · subst h1; decide
  · by_cases h2 : fm = 64
    · subst h2; decide
    · rw [if_neg h1, if_neg h2, decide_eq_false h1, decide_eq_false h2]; rfl
end Go.Proofs.YtojcaoccjapdoaaDoor
/-
  What is wrong with a vector: by the program and by the specification; the law on vectors.
-/
namespace Go.Proofs.YtojcaoccjapdoaaDoor
set_option linter.unusedVariables false
set_option linter.unusedSimpArgs false
open Go.RowKit Go.Deep
theorem vec_form {fm mode : Int} {xs : List Int} (h : (fmtB fm && modeB mode) = false) : vecC fm mode xs = 1 := by unfold vecC; rw [h]; rfl
theorem vec_many {fm mode : Int} {xs : List Int} (h : (fmtB fm && modeB mode) = true) (h' : ¬ xs.length ≤ 300) : vecC fm mode xs = 2 := by unfold vecC; rw [h, if_pos rfl, if_neg h']
theorem vec_fits {fm mode : Int} {xs : List Int} (h : (fmtB fm && modeB mode) = true) (h' : xs.length ≤ 300) : vecC fm mode xs = if allB fm xs then 0 else 4 := by unfold vecC; rw [h, if_pos rfl, if_pos h']
end Go.Proofs.YtojcaoccjapdoaaDoor
/-
  What is wrong with vectors: by the specification; the law on vectors.
-/
namespace Go.Proofs.YtojcaoccjapdoaaDoor
set_option linter.unusedVariables false
set_option linter.unusedSimpArgs false
open Go.RowKit Go.Deep
/-- What is wrong with two vectors. -/
def vec2 (fm mode : Int) (xs ys : List Int) : Int := if fmtB fm && modeB mode then (if xs.length ≤ 300 ∧ ys.length ≤ 300 then (if xs.length = ys.length then (if allB fm xs && allB fm ys then 0 else 4) else 3) else 2) else 1
theorem vec2_self (fm mode : Int) (xs : List Int) : vec2 fm mode xs xs = vecC fm mode xs := by
  unfold vec2 vecC
  by_cases h : xs.length ≤ 300
  · simp [h]
  · simp [h]
theorem v2_form {fm mode : Int} {xs ys : List Int} (h : (fmtB fm && modeB mode) = false) : vec2 fm mode xs ys = 1 := by unfold vec2; rw [h]; rfl
theorem v2_many {fm mode : Int} {xs ys : List Int} (h : (fmtB fm && modeB mode) = true) (h' : 300 < xs.length ∨ 300 < ys.length) : vec2 fm mode xs ys = 2 := by unfold vec2; rw [h, if_pos rfl, if_neg (by omega)]
theorem v2_len {fm mode : Int} {xs ys : List Int} (h : (fmtB fm && modeB mode) = true) (h1 : xs.length ≤ 300) (h2 : ys.length ≤ 300) (h' : xs.length ≠ ys.length) : vec2 fm mode xs ys = 3 := by unfold vec2; rw [h, if_pos rfl, if_pos ⟨h1, h2⟩, if_neg h']
theorem v2_fits {fm mode : Int} {xs ys : List Int} (h : (fmtB fm && modeB mode) = true) (h1 : xs.length ≤ 300) (h2 : ys.length ≤ 300) (h' : xs.length = ys.length) : vec2 fm mode xs ys = if allB fm xs && allB fm ys then 0 else 4 := by unfold vec2; rw [h, if_pos rfl, if_pos ⟨h1, h2⟩, if_pos h']
end Go.Proofs.YtojcaoccjapdoaaDoor
/-
  The library's bits.Sub32; differences of limbs, by the program.
-/
namespace Go.Proofs.YtojcaoccjapdoaaDoor
set_option linter.unusedVariables false
set_option linter.unusedSimpArgs false
open Go.RowKit Go.Deep
theorem top_bit (n : Nat) (h : n < 4294967296) : n.testBit 31 = decide (2147483648 ≤ n) := by
  rw [Nat.testBit_eq_decide_div_mod_eq]
  have e : n / 2 ^ 31 % 2 = 1 ↔ 2147483648 ≤ n := by omega
  simp only [e]
theorem top_div (n : Nat) (h : n < 4294967296) : n / 2147483648 = if n.testBit 31 then 1 else 0 := by
  rw [top_bit n h]
  by_cases hc : 2147483648 ≤ n
  · simp [hc]; omega
  · simp [hc]; omega
theorem borrow_nat (X Y D : Nat) (hX : X < 4294967296) (hY : Y < 4294967296) (hD : D < 4294967296) :
    (((4294967295 ^^^ X) &&& Y) ||| ((4294967295 ^^^ (X ^^^ Y)) &&& D)) / 2147483648 = if (!decide (2147483648 ≤ X) && decide (2147483648 ≤ Y)) || (decide (2147483648 ≤ X) == decide (2147483648 ≤ Y) && decide (2147483648 ≤ D)) then 1 else 0 := by
  have h1 : (4294967295 ^^^ X) < 2 ^ 32 := Nat.xor_lt_two_pow (by decide) (by omega)
  have h2 : (X ^^^ Y) < 2 ^ 32 := Nat.xor_lt_two_pow (by omega) (by omega)
  have h3 : (4294967295 ^^^ (X ^^^ Y)) < 2 ^ 32 := Nat.xor_lt_two_pow (by decide) h2
  have h4 : ((4294967295 ^^^ X) &&& Y) < 2 ^ 32 := Nat.and_lt_two_pow _ (by omega)
  have h5 : ((4294967295 ^^^ (X ^^^ Y)) &&& D) < 2 ^ 32 := Nat.and_lt_two_pow _ (by omega)
  have h6 := Nat.or_lt_two_pow h4 h5
  rw [top_div _ (by omega), Nat.testBit_or, Nat.testBit_and, Nat.testBit_and, Nat.testBit_xor, Nat.testBit_xor, Nat.testBit_xor, top_bit X hX, top_bit Y hY, top_bit D hD, show Nat.testBit 4294967295 31 = true from by decide]
  cases decide (2147483648 ≤ X) <;> cases decide (2147483648 ≤ Y) <;> cases decide (2147483648 ≤ D) <;> rfl
theorem umax : IntKind.u32.max = 4294967295 := by decide
/-- What is borrowed. -/
def bor (x y c : Int) : Int := if x < y + c then 1 else 0
theorem borrow_any (x y c : Int) (hx : 0 ≤ x) (hx1 : x < 4294967296) (hy : 0 ≤ y) (hy1 : y < 4294967296) (hc : 0 ≤ c) (hc1 : c ≤ 1) :
    bits .or .u32 (bits .and .u32 (bits .xor .u32 IntKind.u32.max x) y) (bits .and .u32 (bits .xor .u32 IntKind.u32.max (bits .xor .u32 x y)) ((x - y - c) % 4294967296)) / 2147483648 = bor x y c := by
  unfold bor
  obtain ⟨X, rfl⟩ := Int.eq_ofNat_of_zero_le hx
  obtain ⟨Y, rfl⟩ := Int.eq_ofNat_of_zero_le hy
  obtain ⟨D, hD⟩ : ∃ D : Nat, ((X : Int) - Y - c) % 4294967296 = (D : Int) := Int.eq_ofNat_of_zero_le (by omega)
  rw [hD, umax]
  have hX : X < 4294967296 := by omega
  have hY : Y < 4294967296 := by omega
  have hD1 : D < 4294967296 := by omega
  have e1 : bits .xor .u32 (4294967295 : Int) (X : Int) = ((4294967295 ^^^ X : Nat) : Int) := by
    have := u32_xor_nat 4294967295 X (by decide) hX
    simpa using this
  have h1 : (4294967295 ^^^ X) < 2 ^ 32 := Nat.xor_lt_two_pow (by decide) (by omega)
  have h2 : (X ^^^ Y) < 2 ^ 32 := Nat.xor_lt_two_pow (by omega) (by omega)
  have e3 : bits .xor .u32 (4294967295 : Int) ((X ^^^ Y : Nat) : Int) = ((4294967295 ^^^ (X ^^^ Y) : Nat) : Int) := by
    have := u32_xor_nat 4294967295 (X ^^^ Y) (by decide) (by omega)
    simpa using this
  have h3 : (4294967295 ^^^ (X ^^^ Y)) < 2 ^ 32 := Nat.xor_lt_two_pow (by decide) h2
  have h4 : ((4294967295 ^^^ X) &&& Y) < 2 ^ 32 := Nat.and_lt_two_pow _ (by omega)
  have h5 : ((4294967295 ^^^ (X ^^^ Y)) &&& D) < 2 ^ 32 := Nat.and_lt_two_pow _ (by omega)
  rw [e1, u32_xor_nat X Y hX hY, e3, u32_and_nat _ Y (by omega) hY, u32_and_nat _ D (by omega) hD1, u32_or_nat _ _ (by omega) (by omega)]
  rw [show ((2147483648 : Int)) = ((2147483648 : Nat) : Int) from rfl, ← Int.natCast_ediv, borrow_nat X Y D hX hY hD1]
  by_cases b1 : 2147483648 ≤ X <;> by_cases b2 : 2147483648 ≤ Y <;> by_cases b3 : 2147483648 ≤ D <;> by_cases b4 : (X : Int) < Y + c <;> simp [b1, b2, b3, b4] <;> omega
theorem ret_two {a a' b b' : Int} (h : a = a') (k : b = b') : Ending.returned (.tuple #[.int .u32 a, .int .u32 b]) = .returned (.tuple #[.int .u32 a', .int .u32 b']) := by rw [h, k]
set_option maxHeartbeats 1000000 in
theorem sub32_any (x y c : Int) (w : World) (hx : 0 ≤ x) (hx1 : x < 4294967296) (hy : 0 ≤ y) (hy1 : y < 4294967296) (hc : 0 ≤ c) (hc1 : c ≤ 1) :
    Calls Tryd.prog 168 #[.int .u32 x, .int .u32 y, .int .u32 c] w fun e w' => e = .returned (.tuple #[.int .u32 ((x - y - c) % 4294967296), .int .u32 (bor x y c)]) ∧ w' = w := by
  have HB := hid (borrow_any x y c hx hx1 hy hy1 hc hc1)
  go_enter Tryd.func168, Tryd.ntmps168
  go_wp2
  go_ret2
  exact ⟨ret_two rfl HB.out, rfl⟩
theorem bor_is (x y c : Int) (hx : 0 ≤ x) (hx1 : x < 4294967296) (hy : 0 ≤ y) (hy1 : y < 4294967296) (hc : 0 ≤ c) (hc1 : c ≤ 1) : (x - y - c) % 4294967296 - 4294967296 * bor x y c = x - y - c ∧ 0 ≤ bor x y c ∧ bor x y c ≤ 1 := by
  unfold bor; split <;> omega
set_option maxRecDepth 10000 in
set_option maxHeartbeats 800000 in
theorem subLimbs_any (a a' : Option Addr) (cap cap' : Nat) (xs ys : List Int) (w : World) (hx : Sl .u32 w (.slice a xs.length cap) xs) (hy : Sl .u32 w (.slice a' ys.length cap') ys) (dx : Nm.Dg xs) (dy : Nm.Dg ys) (hl : xs.length ≤ 500000) (hl' : ys.length ≤ xs.length) (hge : Nm.val ys ≤ Nm.val xs) :
    Calls Tryd.prog 154 #[.slice a xs.length cap, .slice a' ys.length cap'] w fun e w' => ∃ a1 c1 os, e = .returned (.slice a1 os.length c1) ∧ Own w' w.heap.size a1 c1 os ∧ Nm.Dg os ∧ Nm.val os = Nm.val xs - Nm.val ys ∧ os.length ≤ 1048576 ∧ Below w.heap.size w w' := by
  have hmk := run_make_row' (P := Tryd.prog) 29 74 (.int .u32 0) 4 Tryd.underlying29 info32 rfl .i64 .i64 xs.length (by omega) (by omega)
  obtain ⟨-, hx1, hx2, hx3⟩ := hx.cells
  have HX3 := hid hx3
  have HGE := hid hge
  clear hx3 hge
  go_enter Tryd.func154, Tryd.ntmps154
  go_wp2_with fail
  clear hmk
  go_loopw [6, 13] (fun cy i wr => ∃ k : Nat, ∃ os : List Int, ∃ c : Int, k ≤ xs.length ∧ i = .int .i64 k ∧ cy = .int .u32 c ∧ 0 ≤ c ∧ c ≤ 1 ∧ os.length = xs.length ∧ Rw wr w.heap.size os ∧ Nm.Dg os ∧ Nm.SubAt xs ys os k c ∧ Below w.heap.size w wr) (fun _ i _ => xs.length - (intOf i).toNat)
  case atStart => exact ⟨0, List.replicate xs.length 0, 0, Nat.zero_le _, rfl, rfl, by omega, by omega, by simp, Rw.made w xs.length, Nm.Dg.replicate _, Nm.SubAt.zero _ _ _, (by repeat (first | exact Below.refl _ _ | refine Below.drew ?_ | refine bel_dn ?_ _ | refine bel_al ?_ _ | refine Below.setCell ?_ (by first | omega | (simp; done) | (simp; omega)) _ | refine Below.alloc ?_ (by first | omega | (simp; done) | (simp; omega)) _))⟩
  case round =>
    obtain ⟨k, os, c, hk, rfl, rfl, hc0, hc1, hol, hrw, hdo, hadd, hb⟩ := hrel
    have HOL := hid hol
    have hol1 : xs.length ≤ os.length := by omega
    have HADD := hid hadd
    have HDO := hid hdo
    clear hol hadd hdo
    have sy := hy.below hb
    by_cases hlt : k < xs.length
    · have hcell := hrw.cell (k := k) (by omega)
      have hfr := hrw.frozen k
      obtain ⟨o, ho⟩ : ∃ o, o = os.getD k 0 := ⟨_, rfl⟩
      rw [← ho] at hcell
      obtain ⟨b, off, rfl, hcx⟩ := HX3.out (by omega)
      have hca0 := hcx k hlt
      have hbl := World.block_lt_of_cell? w _ hca0
      have hca : wr.cell? ⟨b, off + k, none⟩ = some (.int .u32 (xs.getD k 0)) := (hb.cell (p := ⟨b, off + k, none⟩) hbl).trans hca0
      have c2 := fun w' (h : Sl .u32 w' (.slice a' ys.length cap') ys) => limbAt_any a' cap' ys k w' h (by omega) (by omega)
      have hst := fun d c' => Nm.SubAt.step (d := d) (c' := c') HADD.out (show k < os.length by omega)
      obtain ⟨ex0, ex1⟩ := dx.getD k
      obtain ⟨ey0, ey1⟩ := dy.getD k
      obtain ⟨x, hxk⟩ : ∃ x, x = xs.getD k 0 := ⟨_, rfl⟩
      obtain ⟨y, hyk⟩ : ∃ y, y = ys.getD k 0 := ⟨_, rfl⟩
      rw [← hxk] at hca ex0 ex1
      simp only [← hyk] at c2
      rw [← hyk] at ey0 ey1
      rw [← hxk, ← hyk] at hst
      have C2 := hid c2
      have HST := hid hst
      have HBO := hid (bor_is x y c ex0 ex1 ey0 ey1 hc0 hc1)
      clear c2 hst hxk hyk hca0 hcx ho
      have k0 : (0 : Int) ≤ (k : Int) := by omega
      have k1 : (k : Int) < (xs.length : Int) := by omega
      have hne : w.heap.size ≠ b := by simp at hbl; omega
      go_wp2_with fail
      go_region_held3 (fun w' => w'.cell? ⟨b, off + k, none⟩ = some (.int .u32 x)) (first | assumption | go_keep)
        (first
          | (go_at_call 116; refine (C2.out _ (by exact Sl.drew sy)).mono ?_; rintro e w' ⟨rfl, rfl⟩)
          | (go_at_call 168; refine (sub32_any x y c _ ex0 ex1 ey0 ey1 hc0 hc1).mono ?_; rintro e w' ⟨rfl, rfl⟩))
      go_wp2
      obtain ⟨b1, b2, b3⟩ := HBO.out
      go_roundw
      case rel => exact ⟨k + 1, os.set k ((x - y - c) % 4294967296), bor x y c, by omega, by go_num, rfl, b2, b3, by rw [List.length_set]; exact HOL.out, hrw.set (by omega) _, HDO.out.set _ (by omega), HST.out _ _ b1, (hb.setCell (Nat.le_refl _) _).drew⟩
      case measure => simp [intOf]; omega
    · obtain rfl : k = xs.length := by omega
      have hown := hrw.own (base := w.heap.size) (Nat.le_refl _) (by have := HOL.out; unfold maxLen; omega)
      have hs2 := HADD.out
      rw [← HOL.out] at hs2
      have hfull := hs2.full HOL.out.symm (by have := HOL.out; omega) dx dy HDO.out hc0 HGE.out
      have HF := hid (And.intro hown hfull)
      clear hown hfull hs2
      go_wp2
      go_ret
      exact ⟨some ⟨w.heap.size, 0, none⟩, os.length, os, by rw [HOL.out]; rfl, HF.out.1, HDO.out, HF.out.2, by have := HOL.out; omega, hb⟩
end Go.Proofs.YtojcaoccjapdoaaDoor
