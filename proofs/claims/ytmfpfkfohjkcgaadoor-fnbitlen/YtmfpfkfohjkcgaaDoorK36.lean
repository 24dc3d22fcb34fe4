/-
  What is needed of AccB, AccC, AccD.
-/
import Derived.Test.YtmfpfkfohjkcgaaDoorK33
set_option maxHeartbeats 16000000
set_option maxRecDepth 1000000
namespace Go.Proofs.YtmfpfkfohjkcgaaDoor
set_option linter.unusedVariables false
set_option linter.unusedSimpArgs false
open Go.RowKit Go.Deep
/-- Whether what is kept beside the sum is right. -/
def mkB (T : Int) (nn bd pl mi am : Bool) : Bool := decide (0 ≤ T) && decide (T ≤ 1000000) && !(bd && !nn) && !(decide (T = 0) && (nn || bd || pl || mi || am)) && !(am && (nn || bd || pl || mi))
theorem mk_lo {T : Int} {nn bd pl mi am : Bool} (h : T < 0) : mkB T nn bd pl mi am = false := by unfold mkB; rw [decide_eq_false (show ¬ 0 ≤ T by omega)]; rfl
theorem mk_hi {T : Int} {nn bd pl mi am : Bool} (h : T > 1000000) : mkB T nn bd pl mi am = false := by unfold mkB; rw [decide_eq_false (show ¬ T ≤ 1000000 by omega)]; simp
theorem mk_in {T : Int} {nn bd pl mi am : Bool} (h0 : ¬ T < 0) (h1 : ¬ T > 1000000) : mkB T nn bd pl mi am = (!(bd && !nn) && !(decide (T = 0) && ((nn || bd || pl || mi) || am)) && !(am && (nn || bd || pl || mi))) := by
  unfold mkB; rw [decide_eq_true (show 0 ≤ T by omega), decide_eq_true (show T ≤ 1000000 by omega)]; rfl
theorem marks_impl (T : Int) (nn bd pl mi am : Bool) (w : World) :
    Calls Tryd.prog 134 #[.agg #[.int .i64 T, .bool nn, .bool bd, .bool pl, .bool mi, .bool am]] w fun e w' => e = .returned (.bool (mkB T nn bd pl mi am)) ∧ Below w.heap.size w w' := by
  obtain ⟨fl, hfl⟩ : ∃ fl, fl = (nn || bd || pl || mi) := ⟨_, rfl⟩
  have HL := hid (mk_lo (T := T) (nn := nn) (bd := bd) (pl := pl) (mi := mi) (am := am))
  have HH := hid (mk_hi (T := T) (nn := nn) (bd := bd) (pl := pl) (mi := mi) (am := am))
  have HI := hid (mk_in (T := T) (nn := nn) (bd := bd) (pl := pl) (mi := mi) (am := am))
  rw [← hfl] at HI
  have HF := hid hfl
  clear hfl
  go_enter Tryd.func134, Tryd.ntmps134
  go_upto_region 1 with fail
  go_cut [3] (fun v3 wx => v3 = .bool fl ∧ wx = w.alloc (.cells #[.int .i64 T, .bool nn, .bool bd, .bool pl, .bool mi, .bool am] 96))
  case first =>
    cases nn with
    | true => go_wp2_with fail; go_meet; exact ⟨by rw [HF.out]; rfl, rfl⟩
    | false =>
    cases bd with
    | true => go_wp2_with fail; go_meet; exact ⟨by rw [HF.out]; rfl, rfl⟩
    | false =>
    cases pl with
    | true => go_wp2_with fail; go_meet; exact ⟨by rw [HF.out]; rfl, rfl⟩
    | false => go_wp2_with fail; go_meet; exact ⟨by rw [HF.out]; rfl, rfl⟩
  case rest =>
  obtain ⟨rfl, rfl⟩ := hcut
  clear HF
  by_cases h1 : T < 0
  · go_wp2
    go_ret
    exact ⟨ret_bool (HL.out h1).symm, (by repeat (first | exact bz0 _ _ | refine bz1 ?_ | refine bz2 ?_ _ | refine bz3 ?_ _ | refine bz5 ?_ _ | refine bz6 ?_ _))⟩
  by_cases h2 : T > 1000000
  · go_wp2
    go_ret
    exact ⟨ret_bool (HH.out h2).symm, (by repeat (first | exact bz0 _ _ | refine bz1 ?_ | refine bz2 ?_ _ | refine bz3 ?_ _ | refine bz5 ?_ _ | refine bz6 ?_ _))⟩
  have HR := hid (HI.out h1 h2)
  clear HL HH HI
  cases bd with
  | true =>
    cases nn with
    | false =>
      go_wp2
      go_ret
      exact ⟨ret_bool HR.out.symm, (by repeat (first | exact bz0 _ _ | refine bz1 ?_ | refine bz2 ?_ _ | refine bz3 ?_ _ | refine bz5 ?_ _ | refine bz6 ?_ _))⟩
    | true =>
      have HR : Hid (mkB T true true pl mi am = (!(decide (T = 0) && (fl || am)) && !(am && fl))) := HR
      by_cases h3 : T = 0
      · subst h3
        cases fl with
        | true => go_wp2; go_ret; exact ⟨ret_bool HR.out.symm, (by repeat (first | exact bz0 _ _ | refine bz1 ?_ | refine bz2 ?_ _ | refine bz3 ?_ _ | refine bz5 ?_ _ | refine bz6 ?_ _))⟩
        | false => cases am <;> (go_wp2; go_ret; exact ⟨ret_bool HR.out.symm, (by repeat (first | exact bz0 _ _ | refine bz1 ?_ | refine bz2 ?_ _ | refine bz3 ?_ _ | refine bz5 ?_ _ | refine bz6 ?_ _))⟩)
      · have h3' : (T == 0) = false := by simpa using h3
        rw [decide_eq_false h3] at HR
        clear h3
        cases am with
        | false => go_wp2; go_ret; exact ⟨ret_bool HR.out.symm, (by repeat (first | exact bz0 _ _ | refine bz1 ?_ | refine bz2 ?_ _ | refine bz3 ?_ _ | refine bz5 ?_ _ | refine bz6 ?_ _))⟩
        | true => cases fl <;> (go_wp2; go_ret; exact ⟨ret_bool HR.out.symm, (by repeat (first | exact bz0 _ _ | refine bz1 ?_ | refine bz2 ?_ _ | refine bz3 ?_ _ | refine bz5 ?_ _ | refine bz6 ?_ _))⟩)
  | false =>
      have HR : Hid (mkB T nn false pl mi am = (!(decide (T = 0) && (fl || am)) && !(am && fl))) := HR
      by_cases h3 : T = 0
      · subst h3
        cases fl with
        | true => go_wp2; go_ret; exact ⟨ret_bool HR.out.symm, (by repeat (first | exact bz0 _ _ | refine bz1 ?_ | refine bz2 ?_ _ | refine bz3 ?_ _ | refine bz5 ?_ _ | refine bz6 ?_ _))⟩
        | false => cases am <;> (go_wp2; go_ret; exact ⟨ret_bool HR.out.symm, (by repeat (first | exact bz0 _ _ | refine bz1 ?_ | refine bz2 ?_ _ | refine bz3 ?_ _ | refine bz5 ?_ _ | refine bz6 ?_ _))⟩)
      · have h3' : (T == 0) = false := by simpa using h3
        rw [decide_eq_false h3] at HR
        clear h3
        cases am with
        | false => go_wp2; go_ret; exact ⟨ret_bool HR.out.symm, (by repeat (first | exact bz0 _ _ | refine bz1 ?_ | refine bz2 ?_ _ | refine bz3 ?_ _ | refine bz5 ?_ _ | refine bz6 ?_ _))⟩
        | true => cases fl <;> (go_wp2; go_ret; exact ⟨ret_bool HR.out.symm, (by repeat (first | exact bz0 _ _ | refine bz1 ?_ | refine bz2 ?_ _ | refine bz3 ?_ _ | refine bz5 ?_ _ | refine bz6 ?_ _))⟩)
theorem prec32 (w : World) :
    Calls Tryd.prog 101 #[.agg #[.int .u64 23, .int .u64 255, .int .i64 (-149)]] w fun e w' => e = .returned (.int .i64 24) ∧ Below w.heap.size w w' := by
  go_enter Tryd.func101, Tryd.ntmps101
  go_wp2
  go_ret
  exact ⟨rfl, (by repeat (first | exact bz0 _ _ | refine bz1 ?_ | refine bz2 ?_ _ | refine bz3 ?_ _ | refine bz5 ?_ _ | refine bz6 ?_ _))⟩
theorem reach32 (w : World) :
    Calls Tryd.prog 157 #[.agg #[.int .u64 23, .int .u64 255, .int .i64 (-149)]] w fun e w' => e = .returned (.int .i64 277) ∧ Below w.heap.size w w' := by
  go_enter Tryd.func157, Tryd.ntmps157
  go_wp2_with fail
  have z1 := Z3.new w (.int .u64 23) (.int .u64 255) (.int .i64 (-149)) 65
  go_region_held3 (fun w' => w'.cell? ⟨w.heap.size, 0, none⟩ = some (.int .u64 23) ∧ w'.cell? ⟨w.heap.size, 1, none⟩ = some (.int .u64 255) ∧ w'.cell? ⟨w.heap.size, 2, none⟩ = some (.int .i64 (-149))) (first | assumption | exact z1.drew)
    (first
      | (go_at_call 101; refine (prec32 _).mono ?_; rintro e w1 ⟨rfl, hb1⟩; have z2 := Z3.below (Z3.drew z1) hb1))
  go_wp2
  go_ret
  exact ⟨rfl, (by repeat (first | exact bz0 _ _ | refine bz1 ?_ | refine bz2 ?_ _ | refine bz3 ?_ _ | refine bz4 ?_ hb1 | refine bz5 ?_ _ | refine bz6 ?_ _ | refine bz7 ?_ hb1))⟩
theorem most32 (w : World) :
    Calls Tryd.prog 138 #[.int .i64 32] w fun e w' => e = .returned (.int .i64 (2 * 277)) ∧ w' = w := by
  go_enter Tryd.func138, Tryd.ntmps138
  go_wp2
  go_ret
  exact ⟨rfl, rfl⟩
theorem prec64 (w : World) :
    Calls Tryd.prog 101 #[.agg #[.int .u64 52, .int .u64 2047, .int .i64 (-1074)]] w fun e w' => e = .returned (.int .i64 53) ∧ Below w.heap.size w w' := by
  go_enter Tryd.func101, Tryd.ntmps101
  go_wp2
  go_ret
  exact ⟨rfl, (by repeat (first | exact bz0 _ _ | refine bz1 ?_ | refine bz2 ?_ _ | refine bz3 ?_ _ | refine bz5 ?_ _ | refine bz6 ?_ _))⟩
theorem reach64 (w : World) :
    Calls Tryd.prog 157 #[.agg #[.int .u64 52, .int .u64 2047, .int .i64 (-1074)]] w fun e w' => e = .returned (.int .i64 2098) ∧ Below w.heap.size w w' := by
  go_enter Tryd.func157, Tryd.ntmps157
  go_wp2_with fail
  have z1 := Z3.new w (.int .u64 52) (.int .u64 2047) (.int .i64 (-1074)) 65
  go_region_held3 (fun w' => w'.cell? ⟨w.heap.size, 0, none⟩ = some (.int .u64 52) ∧ w'.cell? ⟨w.heap.size, 1, none⟩ = some (.int .u64 2047) ∧ w'.cell? ⟨w.heap.size, 2, none⟩ = some (.int .i64 (-1074))) (first | assumption | exact z1.drew)
    (first
      | (go_at_call 101; refine (prec64 _).mono ?_; rintro e w1 ⟨rfl, hb1⟩; have z2 := Z3.below (Z3.drew z1) hb1))
  go_wp2
  go_ret
  exact ⟨rfl, (by repeat (first | exact bz0 _ _ | refine bz1 ?_ | refine bz2 ?_ _ | refine bz3 ?_ _ | refine bz4 ?_ hb1 | refine bz5 ?_ _ | refine bz6 ?_ _ | refine bz7 ?_ hb1))⟩
theorem most64 (w : World) :
    Calls Tryd.prog 138 #[.int .i64 64] w fun e w' => e = .returned (.int .i64 (2 * 2098)) ∧ w' = w := by
  go_enter Tryd.func138, Tryd.ntmps138
  go_wp2
  go_ret
  exact ⟨rfl, rfl⟩
/-- How far from 0 a sum of T terms may be. -/
def far (fm T : Int) : Nat := Nm.sh T.toNat (if fm = 32 then 554 else 4196)
/-- Whether an accumulator is right. -/
def accB (fm : Int) (ng : Bool) (zs : List Int) (T : Int) (nn bd pl mi am : Bool) : Bool :=
  fmtB fm && mkB T nn bd pl mi am && okB ng zs && decide (cmpL zs (Nm.lim (far fm T)) ≤ 0) && (!am || decide (zs.length = 0))
theorem mkB_T {T : Int} {nn bd pl mi am : Bool} (h : mkB T nn bd pl mi am = true) : 0 ≤ T ∧ T ≤ 1000000 := by
  unfold mkB at h; simp only [Bool.and_eq_true, decide_eq_true_eq] at h; exact h.1.1.1
theorem ok_lim0 {a : Nat} (hl : bitLen a ≤ 6400) : okB false (Nm.lim a) = true := by
  by_cases h : a = 0
  · subst h; rw [Nm.lim_zero]; rfl
  · exact ok_lim h hl false
theorem T_bl {T : Int} (h1 : T ≤ 1000000) : bitLen T.toNat ≤ 20 := (Nm.bl_le_iff _ 20).2 (by omega)
theorem far_bl (fm : Int) {T : Int} (h1 : T ≤ 1000000) : bitLen (far fm T) ≤ 4216 := by
  have h := T_bl h1
  unfold far Nm.sh
  by_cases h0 : T.toNat = 0
  · rw [h0]; split <;> rw [if_neg (by decide), Nat.zero_mul] <;> decide
  · by_cases hf : fm = 32
    · rw [if_pos hf, if_neg (by decide), Nm.bl_mul h0]; have : (554 : Int).toNat = 554 := rfl; omega
    · rw [if_neg hf, if_neg (by decide), Nm.bl_mul h0]; have : (4196 : Int).toNat = 4196 := rfl; omega
theorem wsh_far (T : Int) (fm : Int) (n : Int) (p : Option Addr) (c : Nat) (w : World) (hs : Sl .u32 w (.slice p (Nm.lim T.toNat).length c) (Nm.lim T.toNat)) (h1 : T ≤ 1000000) (hn : n = if fm = 32 then 554 else 4196) :
    Calls Tryd.prog 15 #[.agg #[.bool false, .slice p (Nm.lim T.toNat).length c], .int .i64 n] w fun e w' => ∃ a' c', e = .returned (.tuple #[.agg #[.bool false, .slice a' (Nm.lim (far fm T)).length c'], .bool true]) ∧ Own w' w.heap.size a' c' (Nm.lim (far fm T)) ∧ Below w.heap.size w w' := by
  have hb := T_bl h1
  have h := wsh_impl false p c (Nm.lim T.toNat) n w hs (Nm.lim_dg _) (by have := lim_len (x := T.toNat) (k := 200) (by omega); omega)
  have e1 : (okB false (Nm.lim T.toNat) && inZ n (-10000) 10000) = true := by
    rw [ok_lim0 (by omega)]; simp [inZ]; subst hn; split <;> decide
  have e2 : Nm.shV false (Nm.val (Nm.lim T.toNat)) n = ((far fm T : Nat) : Int) := by rw [Nm.lim_val, Nm.shV_sh, hn]; rfl
  rw [e1, e2] at h
  have e3 := fits_nat (x := far fm T) (by have := far_bl fm h1; omega)
  have e4 := out_fits e3
  rw [(op_yes _).1, (op_yes _).2.1, (op_yes _).2.2, e3, e4.1, e4.2, wn_nat, wl_nat] at h
  exact h
theorem wof_T (T : Int) (w : World) (h0 : 0 ≤ T) (h1 : T ≤ 1000000) :
    Calls Tryd.prog 16 #[.int .i64 T] w fun e w' => ∃ a' c', e = .returned (.agg #[.bool false, .slice a' (Nm.lim T.toNat).length c']) ∧ Own w' w.heap.size a' c' (Nm.lim T.toNat) ∧ Below w.heap.size w w' := by
  have h := wof_impl T w (by omega) (by omega)
  rw [show Nm.wn T = false by unfold Nm.wn; exact decide_eq_false (by omega), show Nm.wl T = Nm.lim T.toNat by unfold Nm.wl; congr 1; omega] at h
  exact h
theorem okB_f {ng : Bool} {zs : List Int} (h : okB ng zs = true) : okB false zs = true := by
  unfold okB at *
  by_cases h0 : zs.length = 0
  · rw [if_pos h0]; rfl
  · rw [if_neg h0] at h ⊢; exact h
theorem wcmp_f {ng : Bool} {zs ys : List Int} (h : okB ng zs = true) (h' : okB false ys = true) : wcmp false false zs ys = cmpL zs ys := by
  rw [wcmp_yes (okB_f h) h']; rfl
theorem one3 {W W' : World} {b b' : Nat} {u v0 v1 v2 : Value} (h : W.cell? ⟨b, 0, none⟩ = some u) (k : Z3 W b' v0 v1 v2) (hb : Below W.heap.size W W') :
    W'.cell? ⟨b, 0, none⟩ = some u ∧ W'.cell? ⟨b', 0, none⟩ = some v0 ∧ W'.cell? ⟨b', 1, none⟩ = some v1 ∧ W'.cell? ⟨b', 2, none⟩ = some v2 :=
  ⟨(hb.cell (p := ⟨b, 0, none⟩) (World.block_lt_of_cell? W _ h)).trans h, Z3.below k hb⟩
theorem tab_al {w : World} (h : Tab w) (o : Obj) : Tab (w.alloc o) := h.below ((Below.refl _ _).alloc (Nat.le_refl _) _)
theorem acc_nf {fm : Int} {ng : Bool} {zs : List Int} {T : Int} {nn bd pl mi am : Bool} (h : fmtB fm = false) : accB fm ng zs T nn bd pl mi am = false := by unfold accB; rw [h]; rfl
theorem acc_no {fm : Int} {ng : Bool} {zs : List Int} {T : Int} {nn bd pl mi am : Bool} (h : okB ng zs = false) : accB fm ng zs T nn bd pl mi am = false := by unfold accB; rw [h]; simp
end Go.Proofs.YtmfpfkfohjkcgaaDoor
