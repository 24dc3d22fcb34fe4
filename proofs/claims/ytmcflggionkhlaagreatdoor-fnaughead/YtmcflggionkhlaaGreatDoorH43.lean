/-
  What is needed of LaidE, LaidF, DR, SM, DP, RY.
-/
import Derived.LaidHandle
import Derived.Look8
import Derived.Test.YtmcflggionkhlaaGreatDoorH41
import Derived.Test.YtmcflggionkhlaaGreatDoorH42
set_option maxHeartbeats 16000000
set_option maxRecDepth 1000000
namespace Go.Proofs.YtmcflggionkhlaaGreatDoor
set_option linter.unusedVariables false
set_option linter.unusedSimpArgs false
namespace Ld
open Go.RowKit Go.Deep Go.ChangeShapes Go.WideShapes Go.ChangeAt Go.Joins
theorem gEt : Tryz.prog.globalNamed "errors.errorType" = some 2 := by kernel_rfl
theorem gEq : Tryz.prog.globalNamed "loop.example/g00672/impl.errQuiet" = some 1 := by kernel_rfl
theorem gEqType : (Tryz.prog.globals[1]?).map (·.type) = some 101 := by kernel_rfl
theorem rtT : (Tryz.prog.cutTypes.find? (·.1 == "internal/reflectlite.rtype")).map (·.2) = some 232 := by kernel_rfl
theorem sizeT : Tryz.prog.types.size = 279 := by kernel_rfl
theorem oneRow : ((List.range 279).filter fun t => Tryz.prog.rowNamed t [101, 114, 114, 111, 114]) = [101] := by kernel_rfl
theorem handle {W : World} {l : List (String × DataW Unit)} (h : handlesMet Tryz.prog l W) (hm : ("errors.errorType", Rows.laid_errors_errorType) ∈ l) : EA.ErrT W := by
  obtain ⟨name, u, ty, e1, e2, e3, e4, e5⟩ := h _ hm
  have en : name = [101, 114, 114, 111, 114] := (Option.some.inj e1).symm
  subst en
  obtain rfl := Option.some.inj (rtT.symm.trans e2)
  have hm : ty ∈ (List.range 279).filter fun t => Tryz.prog.rowNamed t [101, 114, 114, 111, 114] := List.mem_filter.2 ⟨List.mem_range.2 (by rw [← sizeT]; exact e3), e4⟩
  rw [oneRow] at hm
  obtain rfl := List.mem_singleton.1 hm
  have hh : typeHandle Tryz.prog 101 = .pointer (some ⟨5, 101, none⟩) := by kernel_rfl
  rw [hh] at e5
  simpa using World.var?_cell gEt e5 0
/-- The text of the error for a quiet NaN. -/
def qS : ByteArray := ⟨#[111, 110, 101, 32, 105, 115, 32, 97, 32, 113, 117, 105, 101, 116, 32, 78, 97, 78]⟩
noncomputable def low : Nat := (World.holding Tryz.prog default ⟨#[], #[], []⟩).heap.size
theorem tok_any {H : Type} {enc : TypeId × Value → H} {sp : Nat → Bool} {x : Value} (hx : IsIface x) (w : World) : DataW.trod enc Tryz.prog w 0 sp true 1 101 (#[x] : Array Value).toList = some (tok enc x, []) := by
  cases x <;> simp only [IsIface] at hx <;> (unfold DataW.trod; rw [Tryz.underlying101]; rfl)
theorem star : "*" ++ "errors.errorString" = "*errors.errorString" := by decide
theorem rowE (u : TypeId) (h : Tryz.prog.typeName? 3 u = some "*errors.errorString") : u = 247 :=
  typeName_ptr_named (nm := "errors.errorString") (by rw [star]; kernel_rfl) (by kernel_rfl) (by decide) u (by rw [star]; exact h)
theorem quiet {W : World} (h : laidMet Tryz.prog [("loop.example/g00672/impl.errQuiet", Rows.laid_loop_example_g00672_impl_errQuiet)] W) : ∃ u, ErrQ W u := by
  obtain ⟨ps, ⟨g', t', cs, fuel, p, q, hg', ht', hvar, hd, _, _⟩, _⟩ := h
  obtain rfl := Option.some.inj (gEq.symm.trans hg')
  obtain rfl := Option.some.inj (gEqType.symm.trans ht')
  cases fuel with
  | zero => simp [DataW.trod] at hd
  | succ n =>
    have hcell := World.var?_cell gEq hvar 0
    unfold DataW.trod at hd
    rw [Tryz.underlying101] at hd
    obtain ⟨l⟩ := cs
    match l, hd with
    | [.nilIface], hd => simp [Rows.laid_loop_example_g00672_impl_errQuiet] at hd
    | [.iface u v], hd =>
      simp only at hd
      cases hn : Tryz.prog.typeName? 3 u with
      | none => rw [hn] at hd; simp at hd
      | some name =>
        rw [hn] at hd
        simp only [Option.map_eq_some_iff, Prod.mk.injEq, Rows.laid_loop_example_g00672_impl_errQuiet, DataW.iface.injEq] at hd
        obtain ⟨y, _, ⟨e1, _⟩, _⟩ := hd
        subst e1
        obtain rfl := rowE u hn
        exact ⟨v, by simpa using hcell⟩
theorem all {W : World} (h : laidMetH Tryz.prog [("errors.errorType", Rows.laid_errors_errorType), ("loop.example/g00672/impl.formSizes", Rows.laid_loop_example_g00672_impl_formSizes), ("loop.example/g00672/impl.errQuiet", Rows.laid_loop_example_g00672_impl_errQuiet)] W) : EX W := by
  have h' : laidMet Tryz.prog [("loop.example/g00672/impl.formSizes", Rows.laid_loop_example_g00672_impl_formSizes), ("loop.example/g00672/impl.errQuiet", Rows.laid_loop_example_g00672_impl_errQuiet)] W ∧ handlesMet Tryz.prog [("errors.errorType", Rows.laid_errors_errorType)] W := h
  have h1 := h'.1.filter (fun x => x.1 == "loop.example/g00672/impl.formSizes")
  have h2 := h'.1.filter (fun x => x.1 == "loop.example/g00672/impl.errQuiet")
  obtain ⟨u, hu⟩ := quiet h2
  exact ⟨u, ⟨table h1, handle h'.2 (List.mem_singleton.2 rfl), hu⟩⟩
theorem all3 {W : World} (h : laidMetH Tryz.prog [("math/bits.deBruijn32tab", Rows.laid_math_bits_deBruijn32tab), ("math/bits.deBruijn64tab", Rows.laid_math_bits_deBruijn64tab), ("errors.errorType", Rows.laid_errors_errorType), ("loop.example/g00672/impl.formSizes", Rows.laid_loop_example_g00672_impl_formSizes), ("loop.example/g00672/impl.errQuiet", Rows.laid_loop_example_g00672_impl_errQuiet)] W) : EX3 W := by
  have h' : laidMet Tryz.prog [("math/bits.deBruijn32tab", Rows.laid_math_bits_deBruijn32tab), ("math/bits.deBruijn64tab", Rows.laid_math_bits_deBruijn64tab), ("loop.example/g00672/impl.formSizes", Rows.laid_loop_example_g00672_impl_formSizes), ("loop.example/g00672/impl.errQuiet", Rows.laid_loop_example_g00672_impl_errQuiet)] W ∧ handlesMet Tryz.prog [("errors.errorType", Rows.laid_errors_errorType)] W := h
  have h1 := h'.1.filter (fun x => x.1 == "loop.example/g00672/impl.formSizes")
  have h2 := h'.1.filter (fun x => x.1 == "loop.example/g00672/impl.errQuiet")
  have h3 := h'.1.filter (fun x => x.1 == "math/bits.deBruijn64tab")
  have h4 := h'.1.filter (fun x => x.1 == "math/bits.deBruijn32tab")
  obtain ⟨u, hu⟩ := quiet h2
  exact ⟨u, ⟨⟨⟨table h1, tb64 h3⟩, tb32 h4⟩, handle h'.2 (List.mem_singleton.2 rfl), hu⟩⟩
end Ld
open Go.RowKit Go.Deep
namespace Fd
theorem bl_add {x y : Int} {k : Nat} (hx : bitLen x.natAbs ≤ k) (hy : bitLen y.natAbs ≤ k) : bitLen (x + y).natAbs ≤ k + 1 := by
  have h1 := (Nm.bl_le_iff _ k).1 hx
  have h2 := (Nm.bl_le_iff _ k).1 hy
  refine (Nm.bl_le_iff _ _).2 ?_
  have h3 : (x + y).natAbs ≤ x.natAbs + y.natAbs := Int.natAbs_add_le _ _
  rw [Nat.pow_succ]; omega
theorem fin_ok {fm x : Int} (h : finB fm x = true) : okF fm x = true := by
  cases ho : okF fm x
  · unfold finB cls at h; rw [ho] at h; simp at h
  · rfl
theorem res4 {fn : Func} {t u v x : Tmp} (h : fn.results = #[.tmp t, .tmp u, .tmp v, .tmp x]) (tmps : Array Value) (P : Program) (w : World) :
    (results fn tmps).run P w = .ok (.tuple #[tmps.getD t undef, tmps.getD u undef, tmps.getD v undef, tmps.getD x undef]) w := by
  simp [results, h]
theorem RdB_bd (fm mode z e : Int) : 0 ≤ RdB fm mode (Nm.wn z) (Nm.wl z) e ∧ RdB fm mode (Nm.wn z) (Nm.wl z) e < 18446744073709551616 := by
  cases hO : RdO fm mode (Nm.wn z) (Nm.wl z) e
  · rw [(Rd_no hO).1]; decide
  · have hf : fmtB fm = true := by unfold RdO at hO; simp at hO; exact hO.1.1.1
    rcases fmt_cases hf with rfl | rfl
    · obtain ⟨h1, h2, -, -⟩ := ord_R32 mode z e hO; omega
    · obtain ⟨h1, h2, -, -⟩ := ord_R64 mode z e hO; omega
theorem nanOf_bd (fm : Int) : 0 ≤ nanOf fm ∧ nanOf fm < 18446744073709551616 := by unfold nanOf; split <;> omega
theorem sgn_bd2 (fm : Int) (g : Bool) : 0 ≤ sgn (sgOf fm) 0 g ∧ sgn (sgOf fm) 0 g < 18446744073709551616 ∧ 0 ≤ sgn (sgOf fm) (infOf fm) g ∧ sgn (sgOf fm) (infOf fm) g < 18446744073709551616 := by
  unfold sgn sgOf infOf; split <;> split <;> omega
theorem scB_bd (fm mode x n : Int) (x0 : 0 ≤ x) (x1 : x < 18446744073709551616) : 0 ≤ scB fm mode x n ∧ scB fm mode x n < 18446744073709551616 := by
  have h1 := RdB_bd fm mode (nZ fm x) (nE fm x + n)
  have h2 := nanOf_bd fm
  unfold scB
  repeat' split
  all_goals omega
theorem xor_bd (x y : Int) : 0 ≤ bits .xor .u64 x y ∧ bits .xor .u64 x y < 18446744073709551616 := by
  have lo := bits_lo_u64 .xor x y
  have hi := bits_hi_u64 .xor x y
  omega
theorem near2_x (fm : Int) (hf : fmtB fm = true) (x : Int) (hx : okF fm x = true) (x0 : 0 ≤ x) (x1 : x < 18446744073709551616) (rb : Nat) (ca : Option Addr) (cc : Nat) (cs : List Int) (w : World) (hr : RD w rb ca cc cs) :
    Calls Tryz.prog 77 #[.pointer (some ⟨rb, 0, none⟩), .int .i64 fm, .int .u64 x] w fun e w' => ∃ y : Int, e = .returned (.int .u64 y) ∧ 0 ≤ y ∧ y < 18446744073709551616 ∧ RD w' rb ca cc cs ∧ w.grownBy w' (some rb) := by
  have CF := hid (fun w' h => float_any fm hf rb ca cc cs w' h)
  have CS := hid (fun w' => sign_s fm w' hf)
  have CU := hid (fun w' => spec_up fm x w' x0 x1)
  have CI := hid (fun w' => spec_fin fm x w' x0 x1)
  have SB := hid (fun n => scB_bd fm 0 x n x0 x1)
  have SC := hid (fun n w' => sc_spec fm 0 x n w' x0 x1 _ _ _ rfl rfl rfl)
  clear hf hx
  have b1 := xor_bd x (sgOf fm)
  have b2 := xor_bd (upF fm x) (sgOf fm)
  obtain ⟨S, hS⟩ : ∃ q, q = sgOf fm := ⟨_, rfl⟩
  obtain ⟨U, hU⟩ : ∃ q, q = upF fm x := ⟨_, rfl⟩
  rw [← hS] at CS b1 b2
  rw [← hU] at CU b2
  clear hS hU
  go_enter Tryz.func77, Tryz.ntmps77
  go_wp2_with fail
  refine (below_any rb ca cc cs 6 _ hr (by decide) (by decide)).mono ?_
  rintro e w1 ⟨v, rfl, v0, v1, hr1, hg1⟩
  rcases (show v = 0 ∨ v = 1 ∨ v = 2 ∨ 2 < v by omega) with rfl | rfl | rfl | hv
  · go_wp2_with fail
    refine (CS.out _).mono ?_
    rintro e w2 ⟨rfl, hb2⟩
    go_wp2
    go_ret
    exact ⟨_, rfl, b1.1, b1.2, hr1.below hb2, grown_trans hg1 (grown_below hb2 _)⟩
  · go_wp2_with fail
    refine (CU.out _).mono ?_
    rintro e w2 ⟨rfl, hb2⟩
    go_wp2_with fail
    refine (CS.out _).mono ?_
    rintro e w3 ⟨rfl, hb3⟩
    go_wp2
    go_ret
    exact ⟨_, rfl, b2.1, b2.2, (hr1.below hb2).below hb3, grown_trans (grown_trans hg1 (grown_below hb2 _)) (grown_below hb3 _)⟩
  · go_wp2_with fail
    refine (CI.out _).mono ?_
    rintro e w2 ⟨rfl, hb2⟩
    have hr2 := hr1.below hb2
    have hg2 := grown_trans hg1 (grown_below hb2 (some rb))
    clear hr1 hb2 hg1
    cases hfin : finB fm x
    · go_wp2_with fail
      refine (CF.out _ hr2).mono ?_
      rintro e w3 ⟨y, rfl, y0, y1, hr3, hg3⟩
      go_wp2
      go_ret
      exact ⟨_, rfl, y0, y1, hr3, grown_trans hg2 hg3⟩
    · go_wp2_with fail
      refine (below_any rb ca cc cs 60 _ hr2 (by decide) (by decide)).mono ?_
      rintro e w3 ⟨n, rfl, n0, n1, hr3, hg3⟩
      have W1 : IntKind.i64.wrap (n - 55) = n - 55 := by rw [IntKind.wrap_i64]; omega
      have SCn := hid (fun w' => SC.out (n - 55) w')
      have hB := SB.out (n - 55)
      obtain ⟨B, hBe⟩ : ∃ q, q = scB fm 0 x (n - 55) := ⟨_, rfl⟩
      obtain ⟨F, hFe⟩ : ∃ q, q = scF fm 0 x (n - 55) := ⟨_, rfl⟩
      obtain ⟨O, hOe⟩ : ∃ q, q = scO fm 0 x (n - 55) := ⟨_, rfl⟩
      rw [← hBe] at hB
      rw [← hBe, ← hFe, ← hOe] at SCn
      clear hBe hFe hOe SC SB
      go_wp2_with fail
      refine (SCn.out _).mono ?_
      rintro e w4 ⟨rfl, hb4⟩
      go_wp2
      go_ret
      exact ⟨_, rfl, hB.1, hB.2, hr3.below hb4, grown_trans (grown_trans hg2 hg3) (grown_below hb4 _)⟩
  · have e0 : (v == 0) = false := by simp; omega
    have e1 : (v == 1) = false := by simp; omega
    have e2 : (v == 2) = false := by simp; omega
    go_wp2_with fail
    refine (CF.out _ hr1).mono ?_
    rintro e w3 ⟨y, rfl, y0, y1, hr3, hg3⟩
    go_wp2
    go_ret
    exact ⟨_, rfl, y0, y1, hr3, grown_trans hg1 hg3⟩
/-- A format, a mode and two floats, as they are drawn. -/
def DrQ (w w' : World) (e : Ending) : Prop := ∃ fm mode a b : Int, e = .returned (.tuple #[.int .i64 fm, .int .i64 mode, .int .u64 a, .int .u64 b]) ∧ 0 ≤ a ∧ a < 18446744073709551616 ∧ 0 ≤ b ∧ b < 18446744073709551616 ∧ Below w.heap.size w w'
theorem drawAdd_x (ca : Option Addr) (cc : Nat) (cs : List Int) (w : World) (hs : Sl .u8 w (.slice ca cs.length cc) cs) (hby : ∀ i, 0 ≤ cs.getD i 0 ∧ cs.getD i 0 ≤ 255) (hl : cs.length ≤ 1048576) :
    Calls Tryz.prog 59 #[.slice ca cs.length cc] w fun e w' => DrQ w w' e := by
  go_enter Tryz.func59, Tryz.ntmps59
  go_wp2_with fail
  refine (open_any ca cc cs _ hs hby hl).mono ?_
  rintro e w1 ⟨rfl, hr1, hb1⟩
  go_wp2_with fail
  refine (some_any w.heap.size ca cc cs _ hr1).mono ?_
  rintro e w2 ⟨fm, x, rfl, x0, x1, hr2, hg2⟩
  have bel := bel_rd hb1 hg2 (Nat.le_refl _)
  clear hb1 hg2
  go_wp2_with fail
  refine (spec_ok fm x _).mono ?_
  rintro e w3 ⟨rfl, hb3⟩
  have hr3 := hr2.below hb3
  replace bel := bel_go bel hb3
  clear hb3 hr2
  cases hok : okF fm x
  · go_wp2
    ((try simp only [Exit.inBlock, Exit.then]); refine bodyPost_ret (res4 rfl _ _ _) rfl ?_)
    exact ⟨fm, 0, x, x, rfl, x0, x1, x0, x1, bel⟩
  · have NE := hid (fun w' h => near2_x fm (ok_fmt hok) x hok x0 x1 w.heap.size ca cc cs w' h)
    clear hok
    go_wp2_with fail
    refine (off_z w.heap.size ca cc cs 0 5 _ hr3 (by decide) (by decide) (by decide)).mono ?_
    rintro e w4 ⟨m, rfl, hr4, hg4⟩
    go_wp2_with fail
    refine (NE.out _ hr4).mono ?_
    rintro e w5 ⟨y, rfl, y0, y1, hr5, hg5⟩
    go_wp2
    ((try simp only [Exit.inBlock, Exit.then]); refine bodyPost_ret (res4 rfl _ _ _) rfl ?_)
    exact ⟨fm, m, x, y, rfl, x0, x1, y0, y1, bel_rd (bel_rd bel hg4 (Nat.le_refl _)) hg5 (Nat.le_refl _)⟩
open Nm (rU rr rn rh rm flo flb)
/-- The bits of the neighbour nearer to 0, and of the other one. -/
def mgLo (P : Nat) (q : Int) (I : Nat) (a : Nat) (e : Int) : Nat := if flo P I (rU P q a e false) then flb P (rU P q a e false) else I - 1
def mgHi (P : Nat) (q : Int) (I : Nat) (a : Nat) (e : Int) : Nat := if flo P I (rU P q a e true) then flb P (rU P q a e true) else I
/-- Exact, and no more than the greatest. -/
def exB (P : Nat) (q : Int) (I : Nat) (a : Nat) (e : Int) : Bool := decide (rr P q a e = 0) && flo P I (rU P q a e false)
theorem flo_lt {P I u : Nat} (h : flo P I u = true) : flb P u < I := by
  unfold Nm.flo at h
  simp only [Bool.and_eq_true, decide_eq_true_eq] at h
  exact h.2
theorem rU_same {P : Nat} {q : Int} {a : Nat} {e : Int} (h : rr P q a e = 0) : rU P q a e true = rU P q a e false := by rw [Nm.rU_ex h, Nm.rU_ex h]
/-- A place is exactly a float's, but for its greatness. -/
theorem dn_exact {P : Nat} {q : Int} {a : Nat} {e : Int} (hP : 1 ≤ P) (ha : a ≠ 0) : rU P q a e false / 2 ^ (bitLen (rU P q a e false) - P) * 2 ^ (bitLen (rU P q a e false) - P) = rU P q a e false := by
  rw [Nm.rU_dn]
  obtain ⟨-, h2, h3⟩ := Nm.flb_mk (P := P) (m := rm P q a e) (k := Nm.rk P q a e) hP Nm.rm_lt (Nm.rm_top hP ha)
  rw [h3, h2]
theorem flo_dn_of_up {P I : Nat} {q : Int} {a : Nat} {e : Int} (hP : 1 ≤ P) (ha : a ≠ 0) (h : flo P I (rU P q a e true) = true) : flo P I (rU P q a e false) = true := by
  by_cases hr : rr P q a e = 0
  · rw [← rU_same hr]; exact h
  · have hb := Nm.nb_bits (P := P) hP ha hr
    exact Nm.flb_lt_flo (Nat.le_of_lt hb.2) hP (dn_exact hP ha) h (by omega)
theorem lohi {P I : Nat} {q : Int} {a : Nat} {e : Int} (hP : 1 ≤ P) (ha : a ≠ 0) (hI : I ≤ 2100 * 2 ^ (P - 1)) (hI0 : 1 ≤ I) :
    mgLo P q I a e < I ∧ mgHi P q I a e ≤ I ∧ mgHi P q I a e = (if exB P q I a e then mgLo P q I a e else mgLo P q I a e + 1) := by
  unfold mgLo mgHi exB
  by_cases hd : flo P I (rU P q a e false) = true
  · rw [if_pos hd, hd]
    have h1 := flo_lt hd
    by_cases hr : rr P q a e = 0
    · rw [rU_same hr, if_pos hd, decide_eq_true hr]
      exact ⟨h1, by omega, rfl⟩
    · rw [decide_eq_false hr]
      have hb := (Nm.nb_bits (P := P) hP ha hr).1
      by_cases hu : flo P I (rU P q a e true) = true
      · rw [if_pos hu]
        have h2 := flo_lt hu
        exact ⟨h1, by omega, by simpa using hb⟩
      · rw [if_neg hu]
        have : ¬ flb P (rU P q a e false) + 1 < I := fun h => hu (Nm.flo_up hP ha hr hI hd h)
        refine ⟨h1, Nat.le_refl _, ?_⟩
        simp; omega
  · have hu : ¬ flo P I (rU P q a e true) = true := fun h => hd (flo_dn_of_up hP ha h)
    rw [if_neg hd, if_neg hu]
    have hd' : flo P I (rU P q a e false) = false := by simpa using hd
    rw [hd', Bool.and_false]
    refine ⟨by omega, Nat.le_refl _, ?_⟩
    simp; omega
theorem lo_off {P I : Nat} {q : Int} {a : Nat} {e : Int} (hP : 2 ≤ P) (ha : a ≠ 0) (hI : I ≤ 2100 * 2 ^ (P - 1)) (hI0 : 1 ≤ I) :
    uf (2 ^ (P - 1)) (mgLo P q I a e) * 2 ^ (q - min e q).toNat ≤ a * 2 ^ (e - min e q).toNat := by
  have hd := Nm.off_dn (P := P) (q := q) (a := a) (e := e)
  have key : uf (2 ^ (P - 1)) (mgLo P q I a e) ≤ rU P q a e false := by
    unfold mgLo
    by_cases hf : flo P I (rU P q a e false) = true
    · rw [if_pos hf, flb_uf P I _ (by omega) hf]; exact Nat.le_refl _
    · rw [if_neg hf]
      rcases Nat.lt_or_ge (rU P q a e false) (uf (2 ^ (P - 1)) (I - 1)) with h | h
      · exfalso; apply hf
        have hg := uf_flo P I (by omega) (I - 1) (by omega) hI
        have hm := Nm.flb_mono' (P := P) (by omega) (Nat.le_of_lt h)
        exact Nm.flb_lt_flo (Nat.le_of_lt h) (by omega) (dn_exact (by omega) ha) hg hm
      · exact h
  exact Nat.le_trans (Nat.mul_le_mul_right _ key) (by omega)
theorem hi_off {P I : Nat} {q : Int} {a : Nat} {e : Int} (hP : 2 ≤ P) (ha : a ≠ 0) (h : mgHi P q I a e < I) :
    a * 2 ^ (e - min e q).toNat ≤ uf (2 ^ (P - 1)) (mgHi P q I a e) * 2 ^ (q - min e q).toNat ∧ flo P I (rU P q a e true) = true ∧ uf (2 ^ (P - 1)) (mgHi P q I a e) = rU P q a e true := by
  have hf : flo P I (rU P q a e true) = true := by
    cases hf : flo P I (rU P q a e true)
    · unfold mgHi at h; rw [hf] at h; simp at h
    · rfl
  have e1 : uf (2 ^ (P - 1)) (mgHi P q I a e) = rU P q a e true := by
    unfold mgHi; rw [if_pos hf, flb_uf P I _ (by omega) hf]
  refine ⟨?_, hf, e1⟩
  rw [e1]
  by_cases hr : rr P q a e = 0
  · have hd := Nm.off_dn (P := P) (q := q) (a := a) (e := e)
    rw [hr, Nat.zero_mul, Nat.add_zero] at hd
    rw [rU_same hr, hd]; exact Nat.le_refl _
  · have hu := (Nm.off_up (P := P) (q := q) (a := a) (e := e) hr).1
    omega
/-- Where both are floats: how far each is away, in halves. -/
theorem both_off {P I : Nat} {q : Int} {a : Nat} {e : Int} (hP : 2 ≤ P) (ha : a ≠ 0) (h : mgHi P q I a e < I) (hr : rr P q a e ≠ 0) :
    uf (2 ^ (P - 1)) (mgLo P q I a e) * 2 ^ (q - min e q).toNat + rr P q a e * 2 ^ (e - min e q).toNat = a * 2 ^ (e - min e q).toNat ∧
    uf (2 ^ (P - 1)) (mgHi P q I a e) * 2 ^ (q - min e q).toNat = a * 2 ^ (e - min e q).toNat + (2 ^ (rn P q a e).toNat - rr P q a e) * 2 ^ (e - min e q).toNat ∧ rr P q a e < 2 ^ (rn P q a e).toNat := by
  obtain ⟨-, hf, e1⟩ := hi_off hP ha h
  have hf2 := flo_dn_of_up (by omega) ha hf
  have hu := Nm.off_up (P := P) (q := q) (a := a) (e := e) hr
  have e2 : uf (2 ^ (P - 1)) (mgLo P q I a e) = rU P q a e false := by
    unfold mgLo; rw [if_pos hf2, flb_uf P I _ (by omega) hf2]
  rw [e1, e2]
  exact ⟨Nm.off_dn, hu.1, hu.2⟩
/-- What the modes give. -/
theorem mg_lo {P I : Nat} {q m : Int} {ng : Bool} {a : Nat} {e : Int} (hu : ∀ od h, upB m od h ng = false) (ho : ovB m ng = true) (hI0 : 1 ≤ I) : mgB P q I m ng a e = (mgLo P q I a e : Nat) := by
  unfold mgB rdU mgLo
  rw [hu, ho]
  split <;> simp <;> omega
theorem mg_hi {P I : Nat} {q m : Int} {ng : Bool} {a : Nat} {e : Int} (hu : ∀ od h, upB m od h ng = true) (ho : ovB m ng = false) : mgB P q I m ng a e = (mgHi P q I a e : Nat) := by
  unfold mgB rdU mgHi
  rw [hu, ho]
  split <;> simp
/-- To the nearest one: away from 0 or towards it, as half says. -/
theorem mg_near {P I : Nat} {q m : Int} {ng : Bool} {a : Nat} {e : Int} (hP : 1 ≤ P) (ha : a ≠ 0) (ho : ovB m ng = false) (b : Bool) (hb : b = upB m (((rm P q a e : Nat) : Int) % 2 == 1) (rh P q a e) ng) :
    mgB P q I m ng a e = (if b then ((mgHi P q I a e : Nat) : Int) else if flo P I (rU P q a e false) then ((mgLo P q I a e : Nat) : Int) else ((mgHi P q I a e : Nat) : Int)) := by
  unfold mgB rdU
  rw [← hb, ho]
  cases b
  · simp only [Bool.false_eq_true, if_false]
    by_cases hf : flo P I (rU P q a e false) = true
    · rw [if_pos hf, if_pos hf]; unfold mgLo; rw [if_pos hf]
    · rw [if_neg hf, if_neg hf]
      have hu : ¬ flo P I (rU P q a e true) = true := fun h => hf (flo_dn_of_up hP ha h)
      unfold mgHi; rw [if_neg hu]
  · simp only [if_true]
    unfold mgHi
    by_cases hf : flo P I (rU P q a e true) = true
    · rw [if_pos hf, if_pos hf]
    · rw [if_neg hf, if_neg hf]; simp
theorem rdF_zero {P I : Nat} {q m : Int} {ng : Bool} {a : Nat} {e : Int} : (rdF P q I m ng a e == 0) = exB P q I a e := by
  unfold rdF exB
  by_cases hr : rr P q a e = 0
  · have : rdU P q m ng a e = rU P q a e false := by unfold rdU; rw [Nm.rU_ex hr, Nm.rU_ex hr]
    rw [this, decide_eq_true hr, Bool.true_and]
    by_cases hf : flo P I (rU P q a e false) = true
    · rw [if_pos hf, if_pos hr, hf]; rfl
    · rw [if_neg hf]; have : flo P I (rU P q a e false) = false := by simpa using hf
      rw [this]; rfl
  · rw [decide_eq_false hr, Bool.false_and]
    by_cases hf : flo P I (rdU P q m ng a e) = true
    · rw [if_pos hf, if_neg hr]; split <;> rfl
    · rw [if_neg hf]; rfl
/-- The next float up of a neighbour. -/
theorem up_lo32 {v : Nat} (hv : v < 2139095040) : upF 32 (sgn 2147483648 (v : Int) false) = sgn 2147483648 ((v + 1 : Nat) : Int) false ∧ upF 32 (sgn 2147483648 ((v + 1 : Nat) : Int) true) = sgn 2147483648 (v : Int) true := by
  constructor
  · by_cases h : v = 0
    · subst h; decide +kernel
    · rw [up32 (by unfold sgn; simp) (by unfold sgn; simp; omega) (by unfold sgn; simp; omega)]
      unfold sgn; simp; omega
  · by_cases h : v + 1 = 2139095040
    · have : v = 2139095040 - 1 := by omega
      subst this; decide +kernel
    · have hb := sgn_abs32 (v := ((v + 1 : Nat) : Int)) (by omega) (by omega) true
      rw [up32 hb.1 hb.2.1 (by unfold sgn; simp; omega)]
      unfold sgn; simp; omega
/-- The two modes, below 0 and above. -/
theorem two_32 (z e : Int) (hO : RdO 32 0 (Nm.wn z) (Nm.wl z) e = true) (hz : z ≠ 0) :
    RdB 32 3 (Nm.wn z) (Nm.wl z) e = sgn 2147483648 ((if z < 0 then mgHi 24 (-149) 2139095040 z.natAbs e else mgLo 24 (-149) 2139095040 z.natAbs e : Nat) : Int) (Nm.wn z) ∧
    RdB 32 2 (Nm.wn z) (Nm.wl z) e = sgn 2147483648 ((if z < 0 then mgLo 24 (-149) 2139095040 z.natAbs e else mgHi 24 (-149) 2139095040 z.natAbs e : Nat) : Int) (Nm.wn z) ∧
    RdB 32 1 (Nm.wn z) (Nm.wl z) e = sgn 2147483648 ((mgLo 24 (-149) 2139095040 z.natAbs e : Nat) : Int) (Nm.wn z) ∧
    (∀ m, modeB m = true → (RdF 32 m (Nm.wn z) (Nm.wl z) e == 0) = exB 24 (-149) 2139095040 z.natAbs e) ∧
    (∀ m, m = 0 ∨ m = 4 ∨ m = 5 → RdB 32 m (Nm.wn z) (Nm.wl z) e = sgn 2147483648 (if upB m (((rm 24 (-149) z.natAbs e : Nat) : Int) % 2 == 1) (rh 24 (-149) z.natAbs e) (Nm.wn z) then ((mgHi 24 (-149) 2139095040 z.natAbs e : Nat) : Int) else if flo 24 2139095040 (rU 24 (-149) z.natAbs e false) then ((mgLo 24 (-149) 2139095040 z.natAbs e : Nat) : Int) else ((mgHi 24 (-149) 2139095040 z.natAbs e : Nat) : Int)) (Nm.wn z)) := by
  have hnz : ¬ (Nm.wl z).length = 0 := fun h => hz ((wl_zero' z).1 h)
  have hOm : ∀ m, modeB m = true → RdO 32 m (Nm.wn z) (Nm.wl z) e = true := fun m hm => by
    unfold RdO at hO ⊢; simp at hO ⊢; exact ⟨⟨⟨hO.1.1.1, hm⟩, hO.1.2⟩, hO.2⟩
  have ha : z.natAbs ≠ 0 := by omega
  have rd : ∀ m, modeB m = true → RdB 32 m (Nm.wn z) (Nm.wl z) e = sgn 2147483648 (mgB 24 (-149) 2139095040 m (Nm.wn z) z.natAbs e) (Nm.wn z) := fun m hm => by
    obtain ⟨b1, -⟩ := Rd_any32 m (Nm.wn z) (Nm.wl z) e (hOm m hm) hnz
    rw [b1, Nm.val_wl, Int.toNat_natCast, mgB_eq]
  refine ⟨?_, ?_, ?_, fun m hm => ?_, fun m hm => ?_⟩
  · rw [rd 3 (by decide)]
    by_cases h : z < 0
    · rw [if_pos h, mg_hi (fun od h' => by unfold upB Nm.wn; simp [h]) (by unfold ovB Nm.wn; simp [h])]
    · rw [if_neg h, mg_lo (fun od h' => by unfold upB Nm.wn; simp [h]) (by unfold ovB Nm.wn; simp [h]) (by decide)]
  · rw [rd 2 (by decide)]
    by_cases h : z < 0
    · rw [if_pos h, mg_lo (fun od h' => by unfold upB Nm.wn; simp [h]) (by unfold ovB Nm.wn; simp [h]) (by decide)]
    · rw [if_neg h, mg_hi (fun od h' => by unfold upB Nm.wn; simp [h]) (by unfold ovB Nm.wn; simp [h])]
  · rw [rd 1 (by decide), mg_lo (fun od h' => by unfold upB; simp) (by unfold ovB; simp) (by decide)]
  · obtain ⟨-, b2⟩ := Rd_any32 m (Nm.wn z) (Nm.wl z) e (hOm m hm) hnz
    rw [b2, Nm.val_wl, Int.toNat_natCast, rdF_zero]
  · have hm' : modeB m = true := by rcases hm with rfl | rfl | rfl <;> decide
    rw [rd m hm', mg_near (by decide) ha (by rcases hm with rfl | rfl | rfl <;> rfl) _ rfl]
/-- The units of a neighbour. -/
theorem un_mg32 (z : Int) {v : Nat} (hv : v < 2139095040) : unI 32 (sgn 2147483648 (v : Int) (Nm.wn z)) = (if z < 0 then -((uf 8388608 v : Nat) : Int) else (uf 8388608 v : Nat)) := by
  rw [(unSg32 hv (Nm.wn z)).2.2.2]
  unfold Nm.wn
  by_cases h : z < 0
  · rw [decide_eq_true h, if_pos h]; rfl
  · rw [decide_eq_false h, if_neg h]; rfl
theorem fin_mg32 {v : Nat} (hv : v ≤ 2139095040) (g : Bool) (hf : finB 32 (sgn 2147483648 (v : Int) g) = true) : v < 2139095040 := by
  have hb := sgn_abs32 (v := (v : Int)) (by omega) (by omega) g
  have := fin_lt32 hb.1 hb.2.1 hf
  unfold sgn at this
  split at this <;> omega
/-- The next float up of a neighbour. -/
theorem up_lo64 {v : Nat} (hv : v < 9218868437227405312) : upF 64 (sgn 9223372036854775808 (v : Int) false) = sgn 9223372036854775808 ((v + 1 : Nat) : Int) false ∧ upF 64 (sgn 9223372036854775808 ((v + 1 : Nat) : Int) true) = sgn 9223372036854775808 (v : Int) true := by
  constructor
  · by_cases h : v = 0
    · subst h; decide +kernel
    · rw [up64 (by unfold sgn; simp) (by unfold sgn; simp; omega) (by unfold sgn; simp; omega)]
      unfold sgn; simp; omega
  · by_cases h : v + 1 = 9218868437227405312
    · have : v = 9218868437227405312 - 1 := by omega
      subst this; decide +kernel
    · have hb := sgn_abs64 (v := ((v + 1 : Nat) : Int)) (by omega) (by omega) true
      rw [up64 hb.1 hb.2.1 (by unfold sgn; simp; omega)]
      unfold sgn; simp; omega
/-- The two modes, below 0 and above. -/
theorem two_64 (z e : Int) (hO : RdO 64 0 (Nm.wn z) (Nm.wl z) e = true) (hz : z ≠ 0) :
    RdB 64 3 (Nm.wn z) (Nm.wl z) e = sgn 9223372036854775808 ((if z < 0 then mgHi 53 (-1074) 9218868437227405312 z.natAbs e else mgLo 53 (-1074) 9218868437227405312 z.natAbs e : Nat) : Int) (Nm.wn z) ∧
    RdB 64 2 (Nm.wn z) (Nm.wl z) e = sgn 9223372036854775808 ((if z < 0 then mgLo 53 (-1074) 9218868437227405312 z.natAbs e else mgHi 53 (-1074) 9218868437227405312 z.natAbs e : Nat) : Int) (Nm.wn z) ∧
    RdB 64 1 (Nm.wn z) (Nm.wl z) e = sgn 9223372036854775808 ((mgLo 53 (-1074) 9218868437227405312 z.natAbs e : Nat) : Int) (Nm.wn z) ∧
    (∀ m, modeB m = true → (RdF 64 m (Nm.wn z) (Nm.wl z) e == 0) = exB 53 (-1074) 9218868437227405312 z.natAbs e) ∧
    (∀ m, m = 0 ∨ m = 4 ∨ m = 5 → RdB 64 m (Nm.wn z) (Nm.wl z) e = sgn 9223372036854775808 (if upB m (((rm 53 (-1074) z.natAbs e : Nat) : Int) % 2 == 1) (rh 53 (-1074) z.natAbs e) (Nm.wn z) then ((mgHi 53 (-1074) 9218868437227405312 z.natAbs e : Nat) : Int) else if flo 53 9218868437227405312 (rU 53 (-1074) z.natAbs e false) then ((mgLo 53 (-1074) 9218868437227405312 z.natAbs e : Nat) : Int) else ((mgHi 53 (-1074) 9218868437227405312 z.natAbs e : Nat) : Int)) (Nm.wn z)) := by
  have hnz : ¬ (Nm.wl z).length = 0 := fun h => hz ((wl_zero' z).1 h)
  have hOm : ∀ m, modeB m = true → RdO 64 m (Nm.wn z) (Nm.wl z) e = true := fun m hm => by
    unfold RdO at hO ⊢; simp at hO ⊢; exact ⟨⟨⟨hO.1.1.1, hm⟩, hO.1.2⟩, hO.2⟩
  have ha : z.natAbs ≠ 0 := by omega
  have rd : ∀ m, modeB m = true → RdB 64 m (Nm.wn z) (Nm.wl z) e = sgn 9223372036854775808 (mgB 53 (-1074) 9218868437227405312 m (Nm.wn z) z.natAbs e) (Nm.wn z) := fun m hm => by
    obtain ⟨b1, -⟩ := Rd_any64 m (Nm.wn z) (Nm.wl z) e (hOm m hm) hnz
    rw [b1, Nm.val_wl, Int.toNat_natCast, mgB_eq]
  refine ⟨?_, ?_, ?_, fun m hm => ?_, fun m hm => ?_⟩
  · rw [rd 3 (by decide)]
    by_cases h : z < 0
    · rw [if_pos h, mg_hi (fun od h' => by unfold upB Nm.wn; simp [h]) (by unfold ovB Nm.wn; simp [h])]
    · rw [if_neg h, mg_lo (fun od h' => by unfold upB Nm.wn; simp [h]) (by unfold ovB Nm.wn; simp [h]) (by decide)]
  · rw [rd 2 (by decide)]
    by_cases h : z < 0
    · rw [if_pos h, mg_lo (fun od h' => by unfold upB Nm.wn; simp [h]) (by unfold ovB Nm.wn; simp [h]) (by decide)]
    · rw [if_neg h, mg_hi (fun od h' => by unfold upB Nm.wn; simp [h]) (by unfold ovB Nm.wn; simp [h])]
  · rw [rd 1 (by decide), mg_lo (fun od h' => by unfold upB; simp) (by unfold ovB; simp) (by decide)]
  · obtain ⟨-, b2⟩ := Rd_any64 m (Nm.wn z) (Nm.wl z) e (hOm m hm) hnz
    rw [b2, Nm.val_wl, Int.toNat_natCast, rdF_zero]
  · have hm' : modeB m = true := by rcases hm with rfl | rfl | rfl <;> decide
    rw [rd m hm', mg_near (by decide) ha (by rcases hm with rfl | rfl | rfl <;> rfl) _ rfl]
/-- The units of a neighbour. -/
theorem un_mg64 (z : Int) {v : Nat} (hv : v < 9218868437227405312) : unI 64 (sgn 9223372036854775808 (v : Int) (Nm.wn z)) = (if z < 0 then -((uf 4503599627370496 v : Nat) : Int) else (uf 4503599627370496 v : Nat)) := by
  rw [(unSg64 hv (Nm.wn z)).2.2.2]
  unfold Nm.wn
  by_cases h : z < 0
  · rw [decide_eq_true h, if_pos h]; rfl
  · rw [decide_eq_false h, if_neg h]; rfl
theorem fin_mg64 {v : Nat} (hv : v ≤ 9218868437227405312) (g : Bool) (hf : finB 64 (sgn 9223372036854775808 (v : Int) g) = true) : v < 9218868437227405312 := by
  have hb := sgn_abs64 (v := (v : Int)) (by omega) (by omega) g
  have := fin_lt64 hb.1 hb.2.1 hf
  unfold sgn at this
  split at this <;> omega
end Fd
end Go.Proofs.YtmcflggionkhlaaGreatDoor
