/-
  What is needed of WideM, DrawE, Facts, SP, LaidE, LaidF, AU, SM.
-/
import Derived.LaidHandle
import Derived.Look8
import Derived.Test.YtmcflggionkhlaaGreatDoorK46
set_option maxHeartbeats 16000000
set_option maxRecDepth 1000000
namespace Go.Proofs.YtmcflggionkhlaaGreatDoor
set_option linter.unusedVariables false
set_option linter.unusedSimpArgs false
open Go.RowKit Go.Deep
theorem wl_len64 {n : Int} (h0 : -9223372036854775808 ≤ n) (h1 : n ≤ 9223372036854775807) : (Nm.wl n).length ≤ 200 := by
  have := fits_small (x := n) (by omega) (by omega)
  simpa [Nm.fits] using this
theorem big_any (ca : Option Addr) (n cc : Nat) (w : World) (hn : n ≤ 9223372036854775807) (b : Bool) (hb : b = decide (1048576 < n)) :
    Calls Tryz.prog 15 #[.slice ca n cc] w fun e w' => e = .returned (.bool b) ∧ w' = w := by
  by_cases h : 1048576 < n
  · have HB : Hid (b = true) := hid (by rw [hb]; simpa using h)
    clear hb
    go_enter Tryz.func15, Tryz.ntmps15
    go_wp2
    go_ret
    refine ⟨ret_bool ?_, rfl⟩
    rw [HB.out]
    first | rfl | (simp; omega)
  · have HB : Hid (b = false) := hid (by rw [hb]; simpa using h)
    clear hb
    go_enter Tryz.func15, Tryz.ntmps15
    go_wp2
    go_ret
    refine ⟨ret_bool ?_, rfl⟩
    rw [HB.out]
    first | rfl | (simp; omega)
theorem same_yes (n : Bool) (a b : Option Addr) (cap cap' : Nat) (xs : List Int) (w : World) (hx : Sl .u32 w (.slice a xs.length cap) xs) (hy : Sl .u32 w (.slice b xs.length cap') xs) (hl : xs.length ≤ 1048576) :
    Calls Tryz.prog 23 #[.agg #[.bool n, .slice a xs.length cap], .agg #[.bool n, .slice b xs.length cap']] w fun e w' => e = .returned (.bool true) ∧ Below w.heap.size w w' := by
  have hbe : (n == n) = true := by simp
  have hle : ((xs.length : Int) != (xs.length : Int)) = false := by simp
  have Bx := (Box.new w (.bool n) (.slice a xs.length cap) 31).alloc (.cells #[.bool n, .slice b xs.length cap'] 31)
  have By := Box.new2 w (.cells #[.bool n, .slice a xs.length cap] 31) (.bool n) (.slice b xs.length cap') 31
  have sx := (hx.alloc (.cells #[.bool n, .slice a xs.length cap] 31)).alloc (.cells #[.bool n, .slice b xs.length cap'] 31)
  have sy := (hy.alloc (.cells #[.bool n, .slice a xs.length cap] 31)).alloc (.cells #[.bool n, .slice b xs.length cap'] 31)
  have hbV : Below w.heap.size w ((w.alloc (.cells #[.bool n, .slice a xs.length cap] 31)).alloc (.cells #[.bool n, .slice b xs.length cap'] 31)) := (by repeat (first | exact bz0 _ _ | refine bz1 ?_ | refine bz2 ?_ _ | refine bz3 ?_ _ | refine bz5 ?_ _ | refine bz6 ?_ _))
  go_enter Tryz.func23, Tryz.ntmps23
  go_wp2_with fail
  generalize (w.alloc (.cells #[.bool n, .slice a xs.length cap] 31)).alloc (.cells #[.bool n, .slice b xs.length cap'] 31) = V at Bx By sx sy hbV ⊢
  go_loopw [5] (fun iv wr => ∃ i : Nat, i ≤ xs.length ∧ iv = .int .i64 i ∧ Below V.heap.size V wr) (fun iv _ => xs.length - (intOf iv).toNat)
  case atStart => exact ⟨0, Nat.zero_le _, rfl, Below.refl _ _⟩
  case round =>
    obtain ⟨i, hi, rfl, hb⟩ := hrel
    obtain ⟨x0, x1⟩ := Bx.below hb
    obtain ⟨y0, y1⟩ := By.below hb
    by_cases hlt : i < xs.length
    · obtain ⟨-, _, _, h3⟩ := (sx.below hb).cells
      obtain ⟨-, _, _, h4⟩ := (sy.below hb).cells
      obtain ⟨ba, oa, rfl, ha⟩ := h3 (by omega)
      obtain ⟨bb, ob, rfl, hbb⟩ := h4 (by omega)
      have ca := ha i hlt
      have cb := hbb i hlt
      obtain ⟨z, hz⟩ : ∃ z, z = xs.getD i 0 := ⟨_, rfl⟩
      rw [← hz] at ca cb
      clear h3 h4 ha hbb hz
      have hzz : (z != z) = false := by simp
      have k0 : (0 : Int) ≤ (i : Int) := by omega
      have k1 : (i : Int) < (xs.length : Int) := by omega
      have kd : wr.drew.cell? ⟨w.heap.size, 1, none⟩ = some (.slice (some ⟨ba, oa, none⟩) xs.length cap) ∧ wr.drew.cell? ⟨ba, oa + i, none⟩ = some (.int .u32 z) ∧ wr.drew.cell? ⟨w.heap.size + 1, 1, none⟩ = some (.slice (some ⟨bb, ob, none⟩) xs.length cap') ∧ wr.drew.cell? ⟨bb, ob + i, none⟩ = some (.int .u32 z) := ⟨x1, ca, y1, cb⟩
      go_wp2_with fail
      go_region_held3 (fun w' => w'.cell? ⟨w.heap.size, 1, none⟩ = some (.slice (some ⟨ba, oa, none⟩) xs.length cap) ∧ w'.cell? ⟨ba, oa + i, none⟩ = some (.int .u32 z) ∧ w'.cell? ⟨w.heap.size + 1, 1, none⟩ = some (.slice (some ⟨bb, ob, none⟩) xs.length cap') ∧ w'.cell? ⟨bb, ob + i, none⟩ = some (.int .u32 z)) (with_reducible assumption) (fail)
      go_wp2
      go_roundw
      case rel => exact ⟨i + 1, by omega, by go_num, hb.drew⟩
      case measure => simp [intOf]; omega
    · obtain rfl : i = xs.length := by omega
      go_wp2
      go_ret
      exact ⟨rfl, bel_go hbV hb⟩
end Go.Proofs.YtmcflggionkhlaaGreatDoor
namespace Go.Proofs.YtmcflggionkhlaaGreatDoor
namespace Fc
theorem own : ownKnob Tryz.prog.godebug = none := by kernel_rfl
theorem laidOut : laidOutB Tryz.prog = true := by kernel_rfl
theorem mapsRowed : Go.mapsRowed Tryz.prog = true := by kernel_rfl
theorem heard : Tryz.prog.stopsHeard = true := by kernel_rfl
theorem enter : Tryz.prog.mayEnter = true := by kernel_rfl
theorem lifts : (Rows.fnNearSubRow.lifted == Tryz.prog.liftsFinal) = true := by kernel_rfl
theorem lifts_of (l : _) (h : l = Rows.fnNearSubRow.lifted) : (l == Tryz.prog.liftsFinal) = true := by
  rw [h]; exact lifts
end Fc
set_option linter.unusedVariables false
set_option linter.unusedSimpArgs false
open Go.RowKit Go.Deep
/-- What the specification rounds exactly is what parts make. -/
theorem ef_fp {fm : Int} (hf : fmtB fm = true) (ng : Bool) {m : Nat} (hm0 : m ≠ 0) (hm1 : m < 9223372036854775808) {E : Int} (e0 : -5000 ≤ E) (e1 : E ≤ 5000) :
    EfB fm ng (Nm.lim m) E = FpB fm ng m E ∧ EfO fm ng (Nm.lim m) E = FpO fm m E := by
  have hbl : bitLen m ≤ 64 := (Nm.bl_le_iff m 64).2 (by omega)
  have hokl := ok_lim hm0 (show bitLen m ≤ 6400 by omega) ng
  have hlen : (Nm.lim m).length ≠ 0 := fun h => hm0 ((Nm.lim_length_zero m).1 h)
  have hz : ¬ ((m : Nat) : Int) = 0 := by omega
  rcases fmt_cases hf with rfl | rfl
  · have hef := fp_ef (P := 24) (I := 2139095040) (q := (-149)) (ones := 255) (S := 2147483648) (ng := ng) (e := E) hm0 (by decide) (by decide) (by decide) (by decide)
    have HO0 : FpO 32 m E = Nm.stOk 24 (-149) 255 m E := by
      show fpO 24 (-149) 255 m E = _
      unfold fpO; rw [decide_eq_true (show (0 : Int) ≤ (m : Nat) by omega), decide_eq_true e0, decide_eq_true e1, decide_eq_false hz, Int.toNat_natCast]; rfl
    have hRO : RdO 32 1 ng (Nm.lim m) E = true := by
      unfold RdO; rw [hokl]
      have : inZ E (-10000) 10000 = true := by simp [inZ]; omega
      rw [this]; rfl
    have hRF : RdF 32 1 ng (Nm.lim m) E = rdF 24 (-149) 2139095040 1 ng m E := by
      unfold RdF; rw [hRO, if_pos rfl, if_neg hlen, Nm.lim_val, Int.toNat_natCast]; rfl
    have hRB : RdB 32 1 ng (Nm.lim m) E = rdB 24 (-149) 2139095040 2147483648 1 ng m E := by
      unfold RdB; rw [hRO, if_pos rfl, if_neg hlen, Nm.lim_val, Int.toNat_natCast]; rfl
    have HEO : EfO 32 ng (Nm.lim m) E = FpO 32 m E := by
      unfold EfO; rw [hRO, hRF, ← hef.1, HO0]; simp
    refine ⟨?_, HEO⟩
    unfold EfB; rw [HEO]
    show _ = fpB 24 (-149) 255 2147483648 ng m E
    unfold fpB
    have e1 : fpO 24 (-149) 255 m E = Nm.stOk 24 (-149) 255 m E := HO0
    rw [e1, HO0, if_neg hz]
    cases hst : Nm.stOk 24 (-149) 255 m E
    · rfl
    · rw [if_pos rfl, if_pos rfl, hRB, ← hef.2 hst, Int.toNat_natCast]
  · have hef := fp_ef (P := 53) (I := 9218868437227405312) (q := (-1074)) (ones := 2047) (S := 9223372036854775808) (ng := ng) (e := E) hm0 (by decide) (by decide) (by decide) (by decide)
    have HO0 : FpO 64 m E = Nm.stOk 53 (-1074) 2047 m E := by
      show fpO 53 (-1074) 2047 m E = _
      unfold fpO; rw [decide_eq_true (show (0 : Int) ≤ (m : Nat) by omega), decide_eq_true e0, decide_eq_true e1, decide_eq_false hz, Int.toNat_natCast]; rfl
    have hRO : RdO 64 1 ng (Nm.lim m) E = true := by
      unfold RdO; rw [hokl]
      have : inZ E (-10000) 10000 = true := by simp [inZ]; omega
      rw [this]; rfl
    have hRF : RdF 64 1 ng (Nm.lim m) E = rdF 53 (-1074) 9218868437227405312 1 ng m E := by
      unfold RdF; rw [hRO, if_pos rfl, if_neg hlen, Nm.lim_val, Int.toNat_natCast]; rfl
    have hRB : RdB 64 1 ng (Nm.lim m) E = rdB 53 (-1074) 9218868437227405312 9223372036854775808 1 ng m E := by
      unfold RdB; rw [hRO, if_pos rfl, if_neg hlen, Nm.lim_val, Int.toNat_natCast]; rfl
    have HEO : EfO 64 ng (Nm.lim m) E = FpO 64 m E := by
      unfold EfO; rw [hRO, hRF, ← hef.1, HO0]; simp
    refine ⟨?_, HEO⟩
    unfold EfB; rw [HEO]
    show _ = fpB 53 (-1074) 2047 9223372036854775808 ng m E
    unfold fpB
    have e1 : fpO 53 (-1074) 2047 m E = Nm.stOk 53 (-1074) 2047 m E := HO0
    rw [e1, HO0, if_neg hz]
    cases hst : Nm.stOk 53 (-1074) 2047 m E
    · rfl
    · rw [if_pos rfl, if_pos rfl, hRB, ← hef.2 hst, Int.toNat_natCast]
/-- Whether a float has a scale. -/
def spO (fm x : Int) : Bool := finB fm x && !decide (pM fm x = 0)
def spN (fm x : Int) : Int := (bitLen (pM fm x).toNat : Nat) - 1
def spB (fm x : Int) : Int := if spO fm x then FpB fm (pS fm x) (pM fm x) (-spN fm x) else 0
theorem spN_bd {fm x : Int} (h : pM fm x ≠ 0) : 0 ≤ spN fm x ∧ spN fm x ≤ 52 := by
  obtain ⟨h0, h1⟩ := pM_bd fm x
  have a : bitLen (pM fm x).toNat ≤ 53 := (Nm.bl_le_iff _ 53).2 (by omega)
  have b : ¬ bitLen (pM fm x).toNat ≤ 0 := by rw [Nm.bl_le_iff]; simp; omega
  unfold spN; omega
end Go.Proofs.YtmcflggionkhlaaGreatDoor
namespace Go.Proofs.YtmcflggionkhlaaGreatDoor
set_option linter.unusedVariables false
set_option linter.unusedSimpArgs false
namespace Ld
open Go.RowKit Go.Deep Go.ChangeShapes Go.WideShapes Go.ChangeAt Go.Joins
theorem array9 {α : Type} {cs : Array α} (h : cs.size = 9) : ∃ c0 c1 c2 c3 c4 c5 c6 c7 c8, cs = #[c0, c1, c2, c3, c4, c5, c6, c7, c8] := by
  obtain ⟨l⟩ := cs
  match l, h with
  | [c0, c1, c2, c3, c4, c5, c6, c7, c8], _ => exact ⟨c0, c1, c2, c3, c4, c5, c6, c7, c8, rfl⟩
theorem cellsBo : Tryz.prog.cellsOf 4 = 1 := by kernel_rfl
theorem cellsSl : Tryz.prog.cellsOf 29 = 1 := by kernel_rfl
theorem gEt : Tryz.prog.globalNamed "errors.errorType" = some 2 := by kernel_rfl
theorem gEq : Tryz.prog.globalNamed "loop.example/g00672/impl.errQuiet" = some 1 := by kernel_rfl
theorem gEqType : (Tryz.prog.globals[1]?).map (·.type) = some 101 := by kernel_rfl
theorem rtT : (Tryz.prog.cutTypes.find? (·.1 == "internal/reflectlite.rtype")).map (·.2) = some 232 := by kernel_rfl
theorem sizeT : Tryz.prog.types.size = 279 := by kernel_rfl
theorem oneRow : ((List.range 279).filter fun t => Tryz.prog.rowNamed t [101, 114, 114, 111, 114]) = [101] := by kernel_rfl
theorem handle {W : World} {l : List (String × DataW Unit)} (h : handlesMet Tryz.prog l W) (hm : ("errors.errorType", Rows.laid_errors_errorType) ∈ l) : EA.ErrT W := by
  obtain ⟨name, u, ty, e1, e2, e3, e4, e5⟩ := h _ hm
  have en : name = [101, 114, 114, 111, 114] := (Option.some.inj e1).symm
  subst en
  obtain rfl := Option.some.inj (rtT.symm.trans e2)
  have hm : ty ∈ (List.range 279).filter fun t => Tryz.prog.rowNamed t [101, 114, 114, 111, 114] := List.mem_filter.2 ⟨List.mem_range.2 (by rw [← sizeT]; exact e3), e4⟩
  rw [oneRow] at hm
  obtain rfl := List.mem_singleton.1 hm
  have hh : typeHandle Tryz.prog 101 = .pointer (some ⟨5, 101, none⟩) := by kernel_rfl
  rw [hh] at e5
  simpa using World.var?_cell gEt e5 0
/-- The text of the error for a quiet NaN. -/
def qS : ByteArray := ⟨#[111, 110, 101, 32, 105, 115, 32, 97, 32, 113, 117, 105, 101, 116, 32, 78, 97, 78]⟩
noncomputable def low : Nat := (World.holding Tryz.prog default ⟨#[], #[], []⟩).heap.size
theorem tok_any {H : Type} {enc : TypeId × Value → H} {sp : Nat → Bool} {x : Value} (hx : IsIface x) (w : World) : DataW.trod enc Tryz.prog w 0 sp true 1 101 (#[x] : Array Value).toList = some (tok enc x, []) := by
  cases x <;> simp only [IsIface] at hx <;> (unfold DataW.trod; rw [Tryz.underlying101]; rfl)
theorem star : "*" ++ "errors.errorString" = "*errors.errorString" := by decide
theorem rowE (u : TypeId) (h : Tryz.prog.typeName? 3 u = some "*errors.errorString") : u = 247 :=
  typeName_ptr_named (nm := "errors.errorString") (by rw [star]; kernel_rfl) (by kernel_rfl) (by decide) u (by rw [star]; exact h)
theorem quiet {W : World} (h : laidMet Tryz.prog [("loop.example/g00672/impl.errQuiet", Rows.laid_loop_example_g00672_impl_errQuiet)] W) : ∃ u, ErrQ W u := by
  obtain ⟨ps, ⟨g', t', cs, fuel, p, q, hg', ht', hvar, hd, _, _⟩, _⟩ := h
  obtain rfl := Option.some.inj (gEq.symm.trans hg')
  obtain rfl := Option.some.inj (gEqType.symm.trans ht')
  cases fuel with
  | zero => simp [DataW.trod] at hd
  | succ n =>
    have hcell := World.var?_cell gEq hvar 0
    unfold DataW.trod at hd
    rw [Tryz.underlying101] at hd
    obtain ⟨l⟩ := cs
    match l, hd with
    | [.nilIface], hd => simp [Rows.laid_loop_example_g00672_impl_errQuiet] at hd
    | [.iface u v], hd =>
      simp only at hd
      cases hn : Tryz.prog.typeName? 3 u with
      | none => rw [hn] at hd; simp at hd
      | some name =>
        rw [hn] at hd
        simp only [Option.map_eq_some_iff, Prod.mk.injEq, Rows.laid_loop_example_g00672_impl_errQuiet, DataW.iface.injEq] at hd
        obtain ⟨y, _, ⟨e1, _⟩, _⟩ := hd
        subst e1
        obtain rfl := rowE u hn
        exact ⟨v, by simpa using hcell⟩
theorem all {W : World} (h : laidMetH Tryz.prog [("errors.errorType", Rows.laid_errors_errorType), ("loop.example/g00672/impl.formSizes", Rows.laid_loop_example_g00672_impl_formSizes), ("loop.example/g00672/impl.errQuiet", Rows.laid_loop_example_g00672_impl_errQuiet)] W) : EX W := by
  have h' : laidMet Tryz.prog [("loop.example/g00672/impl.formSizes", Rows.laid_loop_example_g00672_impl_formSizes), ("loop.example/g00672/impl.errQuiet", Rows.laid_loop_example_g00672_impl_errQuiet)] W ∧ handlesMet Tryz.prog [("errors.errorType", Rows.laid_errors_errorType)] W := h
  have h1 := h'.1.filter (fun x => x.1 == "loop.example/g00672/impl.formSizes")
  have h2 := h'.1.filter (fun x => x.1 == "loop.example/g00672/impl.errQuiet")
  obtain ⟨u, hu⟩ := quiet h2
  exact ⟨u, ⟨table h1, handle h'.2 (List.mem_singleton.2 rfl), hu⟩⟩
theorem all3 {W : World} (h : laidMetH Tryz.prog [("math/bits.deBruijn32tab", Rows.laid_math_bits_deBruijn32tab), ("math/bits.deBruijn64tab", Rows.laid_math_bits_deBruijn64tab), ("errors.errorType", Rows.laid_errors_errorType), ("loop.example/g00672/impl.formSizes", Rows.laid_loop_example_g00672_impl_formSizes), ("loop.example/g00672/impl.errQuiet", Rows.laid_loop_example_g00672_impl_errQuiet)] W) : EX3 W := by
  have h' : laidMet Tryz.prog [("math/bits.deBruijn32tab", Rows.laid_math_bits_deBruijn32tab), ("math/bits.deBruijn64tab", Rows.laid_math_bits_deBruijn64tab), ("loop.example/g00672/impl.formSizes", Rows.laid_loop_example_g00672_impl_formSizes), ("loop.example/g00672/impl.errQuiet", Rows.laid_loop_example_g00672_impl_errQuiet)] W ∧ handlesMet Tryz.prog [("errors.errorType", Rows.laid_errors_errorType)] W := h
  have h1 := h'.1.filter (fun x => x.1 == "loop.example/g00672/impl.formSizes")
  have h2 := h'.1.filter (fun x => x.1 == "loop.example/g00672/impl.errQuiet")
  have h3 := h'.1.filter (fun x => x.1 == "math/bits.deBruijn64tab")
  have h4 := h'.1.filter (fun x => x.1 == "math/bits.deBruijn32tab")
  obtain ⟨u, hu⟩ := quiet h2
  exact ⟨u, ⟨⟨⟨table h1, tb64 h3⟩, tb32 h4⟩, handle h'.2 (List.mem_singleton.2 rfl), hu⟩⟩
end Ld
open Go.RowKit Go.Deep
theorem tot_all (fm mode x y : Int) (u : Value) (x0 : 0 ≤ x) (x1 : x < 18446744073709551616) (y0 : 0 ≤ y) (y1 : y < 18446744073709551616) (ho : muO fm mode x y = true) :
    ∃ (sg inf G : Bool) (L : List Int) (E : Int) (n b : Bool) (rb rf : Int), TotAt u fm mode x y sg inf G L E n b ∧ L.length ≤ 200 ∧ Nm.Dg L ∧ (n = false → inf = false → L.length ≠ 0 → RdO fm mode G L E = true ∧ rb = RdB fm mode G L E ∧ rf = RdF fm mode G L E) ∧ adB fm mode x y = tdB (nanOf fm) (infOf fm) (sgOf fm) n inf (decide (L.length = 0)) sg rb ∧ adF fm mode x y = tdF n b inf (decide (L.length = 0)) rf ∧ ((n = false ∧ inf = false) → finB fm x = true ∧ finB fm y = true ∧ ∃ z, G = Nm.wn z ∧ L = Nm.wl z ∧ (unI fm x + unI fm y) = z * 2 ^ (E - unQ fm).toNat ∧ 0 ≤ E - unQ fm ∧ E ≤ 2000) := by
  obtain ⟨hm, ha⟩ : modeB mode = true ∧ allB fm [x, y] = true := by have : (modeB mode && allB fm [x, y]) = true := ho; simpa using this
  obtain ⟨hx, hy⟩ := all2 ha
  have hfm := ok_fmt hx
  have NX := numAt (u := u) hx x0 x1
  have NY := numAt (u := u) hy y0 y1
  cases hn : (nanB fm x || nanB fm y)
  · obtain ⟨nx, ny⟩ : nanB fm x = false ∧ nanB fm y = false := by simpa using hn
    have hB' : adB fm mode x y = aB fm mode x y := by unfold adB; rw [ho, if_pos rfl, hn]; rfl
    have hF' : adF fm mode x y = aF fm mode x y := by unfold adF; rw [ho, if_pos rfl, hn]; rfl
    have sx : nS fm x = sigB fm x := by unfold nS; rw [nx]; rfl
    have sy : nS fm y = sigB fm y := by unfold nS; rw [ny]; rfl
    unfold aB at hB'
    unfold aF at hF'
    cases ix : nI fm x
    · rw [ix] at hB' hF' NX
      cases iy : nI fm y
      · rw [iy] at hB' hF' NY
        have fx := (nan_cases hx nx).resolve_right (by rw [ix]; decide)
        have fy := (nan_cases hy ny).resolve_right (by rw [iy]; decide)
        have b1 := nZ_bd fm x
        have b2 := nZ_bd fm y
        obtain ⟨em, hem⟩ : ∃ em, em = min (nE fm x) (nE fm y) := ⟨_, rfl⟩
        obtain ⟨z, hz⟩ : ∃ z, z = nZ fm x * 2 ^ (nE fm x - em).toNat + nZ fm y * 2 ^ (nE fm y - em).toNat := ⟨_, rfl⟩
        obtain ⟨hu, hq⟩ := sum_z hx hy fx fy em hem z hz
        have hqb := unq_bd fm
        have hul := uu_len fm x y
        have hzl : (Nm.wl z).length ≤ 200 := by
          have h1 := len_bl (x := (unI fm x + unI fm y).natAbs) (k := 200) hul
          have h2 := Nm.bl_mono (sum_abs hu)
          unfold Nm.wl; exact lim_len (k := 200) (by omega)
        have lx := nzs_len (fm := fm) (x := x) (em := em) (by omega) (by omega)
        have ly := nzs_len (fm := fm) (x := y) (em := em) (by omega) (by omega)
        have hz0 : (unI fm x + unI fm y) = 0 ↔ z = 0 := by
          rw [hu]; constructor
          · intro h
            rcases Int.mul_eq_zero.1 h with h' | h'
            · exact h'
            · exact absurd h' (Int.ne_of_gt (Int.pow_pos (by decide)))
          · intro h; rw [h, Int.zero_mul]
        have hl0 : decide ((Nm.wl z).length = 0) = decide ((unI fm x + unI fm y) = 0) := by
          rw [Bool.eq_iff_iff, decide_eq_true_eq, decide_eq_true_eq, hz0]; unfold Nm.wl; rw [Nm.lim_length_zero]; omega
        have hP := tot_num fm mode x y u _ _ _ _ _ _ _ _ _ _ _ _ _ _ NX NY hn (plN (decide ((Nm.wl z).length = 0)) (nS fm x) (nS fm y) (Nm.wn z) mode) false (Nm.wn z) (Nm.wl z) em false false
          (fun Q a1 c1 a2 c2 w hQ h1 h2 => (plus_fin (nS fm x) (Nm.wn (nZ fm x)) (Nm.wl (nZ fm x)) (nE fm x) a1 c1 (nS fm y) (Nm.wn (nZ fm y)) (Nm.wl (nZ fm y)) (nE fm y) a2 c2 mode w em hem (by omega) (by omega) h1.sl h2.sl (Nm.wn (nZ fm x * 2 ^ (nE fm x - em).toNat)) (Nm.wl (nZ fm x * 2 ^ (nE fm x - em).toNat)) (Nm.wn (nZ fm y * 2 ^ (nE fm y - em).toNat)) (Nm.wl (nZ fm y * 2 ^ (nE fm y - em).toNat)) (Nm.wn z) (Nm.wl z) _ rfl hzl
            (fun w' h => wsh_at2 _ a1 c1 _ (nE fm x - em) w' h (Nm.wl_dg _) (okB_wl (nZ_len fm x)) (by omega) (by omega) _ (shz _ _ (by omega)).symm lx)
            (fun w' h => wsh_at2 _ a2 c2 _ (nE fm y - em) w' h (Nm.wl_dg _) (okB_wl (nZ_len fm y)) (by omega) (by omega) _ (shz _ _ (by omega)).symm ly)
            (fun av cv aw cw w' h h' => add_ok av aw cv cw w' h h' (Nm.wl_dg _) (Nm.wl_dg _) (okB_wl lx) (okB_wl ly) z (by rw [Nm.wv_out, Nm.wv_out]; exact hz) (by unfold Nm.fits; exact decide_eq_true hzl))).mono fun r w' ⟨a, c, hr, ho, hb⟩ => ⟨a, c, _, hr, EK.no, ho.base hQ, hb⟩)
        have hro : z ≠ 0 → RdO fm mode (Nm.wn z) (Nm.wl z) em = true ∧ RdB fm mode (Nm.wn (unI fm x + unI fm y)) (Nm.wl (unI fm x + unI fm y)) (unQ fm) = RdB fm mode (Nm.wn z) (Nm.wl z) em ∧ RdF fm mode (Nm.wn (unI fm x + unI fm y)) (Nm.wl (unI fm x + unI fm y)) (unQ fm) = RdF fm mode (Nm.wn z) (Nm.wl z) em := by
          intro hzz
          have o1 := rdo_any (fm := fm) (mode := mode) (z := z) (e := em) hfm hm hzl (by omega) (by omega)
          have o2 := rdo_any (fm := fm) (mode := mode) (z := (unI fm x + unI fm y)) (e := unQ fm) hfm hm hul (by omega) (by omega)
          have hd : unQ fm = em - ((em - unQ fm).toNat : Nat) := by omega
          rw [hu] at o2 ⊢
          rw [hd] at o2 ⊢
          have e2 : (em - (em - ((em - unQ fm).toNat : Nat))).toNat = (em - unQ fm).toNat := by omega
          rw [e2] at o2 ⊢
          obtain ⟨q1, q2⟩ := Rd_scale fm mode z (em - unQ fm).toNat em hzz o1 o2
          exact ⟨o1, q1, q2⟩
        have hzn : (Nm.wl z).length ≠ 0 → z ≠ 0 := by
          intro h e; apply h; rw [e]; have : Nm.wl 0 = [] := Nm.lim_zero
          rw [this]; rfl
        refine ⟨_, _, _, _, _, _, _, (RdB fm mode (Nm.wn (unI fm x + unI fm y)) (Nm.wl (unI fm x + unI fm y)) (unQ fm)), (RdF fm mode (Nm.wn (unI fm x + unI fm y)) (Nm.wl (unI fm x + unI fm y)) (unQ fm)), hP, hzl, (Nm.wl_dg _), (fun _ _ h => hro (hzn h)), ?_, ?_, ?_⟩
        · rw [hB', hl0, sx, sy]; unfold tdB plN
          by_cases h0 : (unI fm x + unI fm y) = 0
          · rw [decide_eq_true h0]; simp [h0]
          · rw [decide_eq_false h0]; simp [h0]
        · rw [hF', hl0]; unfold tdF
          by_cases h0 : (unI fm x + unI fm y) = 0
          · rw [decide_eq_true h0]; simp [h0]
          · rw [decide_eq_false h0]; simp [h0]
        · exact fun _ => ⟨fx, fy, z, rfl, rfl, hu, hq, by omega⟩
      · rw [iy] at hB' hF' NY
        obtain ⟨-, ey⟩ := inf_eq hy hy y0 y1 y0 y1 iy iy
        have z2 := nI_z hy iy
        have hP := tot_num fm mode x y u _ _ _ _ _ _ _ _ _ _ _ _ _ _ NX NY hn (nS fm y) true (Nm.wn (nZ fm y)) (Nm.wl (nZ fm y)) (nE fm y) false false
          (fun Q a1 c1 a2 c2 w hQ h1 h2 => (plus_inf2 (nS fm x) false (Nm.wn (nZ fm x)) (Nm.wl (nZ fm x)) (nE fm x) a1 c1 (nS fm y) true (Nm.wn (nZ fm y)) (Nm.wl (nZ fm y)) (nE fm y) a2 c2 mode w rfl rfl).mono fun r w' ⟨hr, hb⟩ => ⟨a2, c2, _, hr, EK.no, h2.below hb, hb⟩)
        refine ⟨_, _, _, _, _, _, _, 0, 0, hP, (nZ_len fm y), (Nm.wl_dg _), (fun _ h => by cases h), ?_, ?_, ?_⟩
        · rw [hB', sy]; unfold tdB; simp; exact ey
        · rw [hF']; unfold tdF; simp
        · exact fun h => absurd h (by simp)
    · rw [ix] at hB' hF' NX
      obtain ⟨-, ex⟩ := inf_eq hx hx x0 x1 x0 x1 ix ix
      cases hod : (nI fm y && (x != y))
      · have hor : nI fm y = false ∨ (nS fm x != nS fm y) = false := by
          cases iy : nI fm y
          · exact .inl rfl
          · right
            rw [iy] at hod
            rw [sx, sy, ← (inf_eq hx hy x0 x1 y0 y1 ix iy).1]; simpa using hod
        have hP := tot_num fm mode x y u _ _ _ _ _ _ _ _ _ _ _ _ _ _ NX NY hn (nS fm x) true (Nm.wn (nZ fm x)) (Nm.wl (nZ fm x)) (nE fm x) false false
          (fun Q a1 c1 a2 c2 w hQ h1 h2 => (plus_inf1 (nS fm x) true (Nm.wn (nZ fm x)) (Nm.wl (nZ fm x)) (nE fm x) a1 c1 (nS fm y) (nI fm y) (Nm.wn (nZ fm y)) (Nm.wl (nZ fm y)) (nE fm y) a2 c2 mode w rfl hor).mono fun r w' ⟨hr, hb⟩ => ⟨a1, c1, _, hr, EK.no, h1.below hb, hb⟩)
        refine ⟨_, _, _, _, _, _, _, 0, 0, hP, (nZ_len fm x), (Nm.wl_dg _), (fun _ h => by cases h), ?_, ?_, ?_⟩
        · rw [hB', Bool.true_and, hod, sx]; unfold tdB; simp; exact ex
        · rw [hF', Bool.true_and, hod]; unfold tdF; simp
        · exact fun h => absurd h (by simp)
      · obtain ⟨iy, hxy⟩ : nI fm y = true ∧ (x != y) = true := by rw [Bool.and_eq_true] at hod; exact hod
        rw [iy] at NY
        have hss : (nS fm x != nS fm y) = true := by rw [sx, sy, ← (inf_eq hx hy x0 x1 y0 y1 ix iy).1]; exact hxy
        have hP := tot_num fm mode x y u _ _ _ _ _ _ _ _ _ _ _ _ _ _ NX NY hn false false false [] 0 true true
          (fun Q a1 c1 a2 c2 w hQ h1 h2 => (plus_odd (nS fm x) true (Nm.wn (nZ fm x)) (Nm.wl (nZ fm x)) (nE fm x) a1 c1 (nS fm y) true (Nm.wn (nZ fm y)) (Nm.wl (nZ fm y)) (nE fm y) a2 c2 mode w rfl rfl hss).mono fun r w' ⟨s, hr, hb⟩ => ⟨none, 0, _, hr, EK.bad s, Own.nil _ _, hb⟩)
        refine ⟨_, _, _, _, _, _, _, 0, 0, hP, (by simp), Nm.Dg.nil, (fun h => by cases h), ?_, ?_, ?_⟩
        · rw [hB', Bool.true_and, hod]; rfl
        · rw [hF', Bool.true_and, hod]; rfl
        · exact fun h => absurd h (by simp)
  · have hB' : adB fm mode x y = nanOf fm := by unfold adB; rw [ho, if_pos rfl, hn]; rfl
    have hF' : adF fm mode x y = fl8 (nB fm x || nB fm y) := by unfold adF; rw [ho, if_pos rfl, hn]; rfl
    have hP := tot_nan fm mode x y u _ _ _ _ _ _ _ _ _ _ _ _ _ _ NX NY hn _ rfl
    refine ⟨_, _, _, _, _, _, _, 0, 0, hP, (by simp), Nm.Dg.nil, (fun h => by cases h), ?_, ?_, ?_⟩
    · rw [hB']; rfl
    · rw [hF']; unfold tdF; cases (nB fm x || nB fm y) <;> rfl
    · exact fun h => absurd h (by simp)
namespace Fd
theorem val_back {q A B z y ea ex n ua ux : Int} (hua : ua = z * 2 ^ (ea - q).toNat) (hux : ux = y * 2 ^ (ex - q).toNat) (ha : q ≤ ea) (hx : q ≤ ex) (hv : ux * 2 ^ (q - min (ea + n) q).toNat = z * 2 ^ (ea + n - min (ea + n) q).toNat) :
    ua * 2 ^ (q - min (ex - n) q).toNat = y * 2 ^ (ex - n - min (ex - n) q).toNat := by
  have hp : (0 : Int) < 2 ^ (ea + n - min (ea + n) q).toNat := pw_i _
  refine Int.eq_of_mul_eq_mul_right (Int.ne_of_gt hp) ?_
  rw [hua]
  have e1 : z * 2 ^ (ea - q).toNat * 2 ^ (q - min (ex - n) q).toNat * 2 ^ (ea + n - min (ea + n) q).toNat = z * 2 ^ (ea + n - min (ea + n) q).toNat * (2 ^ (ea - q).toNat * 2 ^ (q - min (ex - n) q).toNat) := by
    rw [Int.mul_assoc, Int.mul_assoc, Int.mul_assoc]; congr 1
    rw [← Int.mul_assoc, Int.mul_comm]
  rw [e1, ← hv, hux]
  rw [Int.mul_assoc, Int.mul_assoc, Int.mul_assoc, ← Int.pow_add, ← Int.pow_add, ← Int.pow_add, ← Int.pow_add]
  congr 2
  omega
theorem fin_ok {fm x : Int} (h : finB fm x = true) : okF fm x = true := by
  cases ho : okF fm x
  · unfold finB cls at h; rw [ho] at h; simp at h
  · rfl
theorem nE_q {fm x : Int} (hf : finB fm x = true) : unQ fm ≤ nE fm x := by
  unfold nE; rw [if_pos hf]; have := (pE_q hf).1; omega
theorem val_self {fm x : Int} (hf : finB fm x = true) : ValF fm x (nZ fm x) (nE fm x) := by
  unfold ValF
  have hq := nE_q hf
  rw [un_nZ (fin_ok hf) hf, show min (nE fm x) (unQ fm) = unQ fm by omega]
  simp
theorem cls_le3 {fm x : Int} (hx : okF fm x = true) (h : cls fm x ≤ 3) : nanB fm x = false := by
  cases hn : nanB fm x
  · rfl
  · rcases cls_nan hx hn with h' | h' <;> omega
/-- Scaled without a flag, and back. -/
theorem sc_back {fm mode a n : Int} (a0 : 0 ≤ a) (a1 : a < 18446744073709551616) (hO : scO fm mode a n = true) (hF : scF fm mode a n = 0) (hc : cls fm a ≤ 3) :
    scO fm mode (scB fm mode a n) (-n) = true ∧ scB fm mode (scB fm mode a n) (-n) = a ∧ scF fm mode (scB fm mode a n) (-n) = 0 := by
  have hO' := hO
  unfold scO at hO'
  simp only [Bool.and_eq_true] at hO'
  obtain ⟨⟨hm, hok⟩, hn⟩ := hO'
  have hn' : -5000 ≤ n ∧ n ≤ 5000 := by unfold inB at hn; simpa using hn
  have hnn : inB (-n) (-5000) 5000 = true := by unfold inB; simp; omega
  have nan := cls_le3 hok hc
  by_cases hz : (nI fm a || zF fm a) = true
  · have hB : scB fm mode a n = a := by unfold scB; rw [hO, if_pos rfl, nan]; simp only [Bool.false_eq_true, if_false]; rw [if_pos hz]
    have hO2 : scO fm mode a (-n) = true := by unfold scO; rw [hm, hok, hnn]; rfl
    rw [hB]
    refine ⟨hO2, ?_, ?_⟩
    · unfold scB; rw [hO2, if_pos rfl, nan]; simp only [Bool.false_eq_true, if_false]; rw [if_pos hz]
    · unfold scF; rw [hO2, if_pos rfl, nan]; simp only [Bool.false_eq_true, if_false]; rw [if_pos hz]
  · have hB : scB fm mode a n = RdB fm mode (Nm.wn (nZ fm a)) (Nm.wl (nZ fm a)) (nE fm a + n) := by unfold scB; rw [hO, if_pos rfl, nan]; simp only [Bool.false_eq_true, if_false]; rw [if_neg hz]
    have hF' : RdF fm mode (Nm.wn (nZ fm a)) (Nm.wl (nZ fm a)) (nE fm a + n) = 0 := by
      unfold scF at hF; rw [hO, if_pos rfl, nan] at hF; simp only [Bool.false_eq_true, if_false] at hF; rw [if_neg hz] at hF; exact hF
    have hni : nI fm a = false := by cases h : nI fm a <;> simp [h] at hz ⊢
    have hzf : zF fm a = false := by cases h : zF fm a <;> simp [h] at hz ⊢
    have hfin : finB fm a = true := by
      rcases nan_cases hok nan with h | h
      · exact h
      · rw [h] at hni; exact absurd hni (by decide)
    have hz0 : nZ fm a ≠ 0 := by have := zF_fin hok hfin; rw [hzf] at this; simpa using this.symm
    have hfm := ok_fmt hok
    obtain ⟨-, e0, e1⟩ := nZ_bd fm a
    have hRO := rdo_any (fm := fm) (mode := mode) (z := nZ fm a) (e := nE fm a + n) hfm hm (nZ_len fm a) (by omega) (by omega)
    obtain ⟨x0, x1, xok, xfin, xv⟩ := F0_any hfm mode (nZ fm a) (nE fm a + n) hRO hz0 hF'
    rw [← hB] at x0 x1 xok xfin xv
    obtain ⟨x, hx⟩ : ∃ x, x = scB fm mode a n := ⟨_, rfl⟩
    rw [← hx] at x0 x1 xok xfin xv ⊢
    have ux := un_nZ xok xfin
    have ua := un_nZ hok hfin
    unfold ValF at xv
    have hux0 : unI fm x ≠ 0 := fun h => hz0 ((sgn_same (pw_i _) (pw_i _) xv).2.1 h)
    have hx0 : nZ fm x ≠ 0 := fun h => hux0 (by rw [ux, h, Int.zero_mul])
    have hva : ValF fm a (nZ fm x) (nE fm x - n) := val_back (A := 0) (B := 0) ua ux (nE_q hfin) (nE_q xfin) xv
    obtain ⟨-, f0, f1⟩ := nZ_bd fm x
    have hRO2 := rdo_any (fm := fm) (mode := mode) (z := nZ fm x) (e := nE fm x - n) hfm hm (nZ_len fm x) (by omega) (by omega)
    have hr := RdV_any hok a0 a1 hfin mode (nZ fm x) (nE fm x - n) hm hRO2 hx0 hva
    have ff := fin_facts xok xfin
    have hO2 : scO fm mode x (-n) = true := by unfold scO; rw [hm, xok, hnn]; rfl
    have hzx : (nI fm x || zF fm x) = false := by rw [ff.2.1, zF_fin xok xfin, decide_eq_false hx0]; rfl
    have en : nE fm x + -n = nE fm x - n := (Int.sub_eq_add_neg).symm
    refine ⟨hO2, ?_, ?_⟩
    · unfold scB; rw [hO2, if_pos rfl, ff.2.2.2.2.1, hzx, en]; simp only [Bool.false_eq_true, if_false]; exact hr.1
    · unfold scF; rw [hO2, if_pos rfl, ff.2.2.2.2.1, hzx, en]; simp only [Bool.false_eq_true, if_false]; exact hr.2
theorem mul_pow_lt {m N P : Nat} (h : m < 2 ^ (N + 1)) (hN : N ≤ P) : m * 2 ^ (P - N) < 2 ^ (P + 1) := by
  have h1 : 2 ^ (P + 1) = 2 ^ (N + 1) * 2 ^ (P - N) := by rw [← Nat.pow_add]; congr 1; omega
  rw [h1]
  exact Nat.mul_lt_mul_of_pos_right h (Nat.two_pow_pos _)
theorem mul_pow_ge {m N P : Nat} (h : 2 ^ N ≤ m) (hN : N ≤ P) : 2 ^ P ≤ m * 2 ^ (P - N) := by
  have h1 : 2 ^ P = 2 ^ N * 2 ^ (P - N) := by rw [← Nat.pow_add]; congr 1; omega
  rw [h1]
  exact Nat.mul_le_mul_right _ h
/-- A float's head between 1 and 2. -/
theorem spl32 {x : Int} (x0 : 0 ≤ x) (x1 : x < 4294967296) (h : spO 32 x = true) : ∃ m : Nat, 8388608 ≤ m ∧ m < 2 * 8388608 ∧ spB 32 x = sgn 2147483648 ((m + 126 * 8388608 : Nat) : Int) (pS 32 x) ∧ ValF 32 (spB 32 x) (nZ 32 x) (-spN 32 x) := by
  have h' := h
  unfold spO at h'
  simp only [Bool.and_eq_true, Bool.not_eq_true', decide_eq_false_iff_not] at h'
  obtain ⟨hf, hM⟩ := h'
  obtain ⟨n0, n1⟩ := spN_bd hM
  obtain ⟨m0, m1⟩ := pM_bd 32 x
  have hok := fin_ok hf
  obtain ⟨M, hMe⟩ : ∃ M, M = (pM 32 x).toNat := ⟨_, rfl⟩
  obtain ⟨N, hN⟩ : ∃ N : Nat, (N : Int) = spN 32 x := ⟨(spN 32 x).toNat, by omega⟩
  have hM0 : M ≠ 0 := by omega
  have hbl : bitLen M = N + 1 := by have : spN 32 x = (bitLen (pM 32 x).toNat : Nat) - 1 := rfl; rw [← hMe] at this; omega
  have hlt : M < 2 ^ (N + 1) := (Nm.bl_le_iff M (N + 1)).1 (by omega)
  have hge : 2 ^ N ≤ M := by
    rcases Nat.lt_or_ge M (2 ^ N) with hc | hc
    · have := (Nm.bl_le_iff M N).2 hc; omega
    · exact hc
  have hNp : N ≤ 23 := by
    have := (pM_uf32 x0 x1 hf).2.2.2
    rw [← hMe] at this
    omega
  have hml := mul_pow_lt (P := 23) hlt hNp
  have hmg := mul_pow_ge (P := 23) hge hNp
  obtain ⟨m, hm⟩ : ∃ m, m = M * 2 ^ (23 - N) := ⟨_, rfl⟩
  rw [← hm] at hml hmg
  have hL : (2 : Nat) ^ 23 = 8388608 := by decide
  have hL2 : (2 : Nat) ^ (23 + 1) = 2 * 8388608 := by decide
  have hL3 : (2 : Nat) ^ (24 - 1) = 8388608 := by decide
  rw [hL2] at hml
  rw [hL] at hmg
  obtain ⟨K, hK⟩ : ∃ K : Nat, K = 126 := ⟨_, rfl⟩
  obtain ⟨f1, f2, f3⟩ := Nm.flb_mk (P := 24) (m := m) (k := K) (by decide) (by rw [show (2 : Nat) ^ 24 = 2 * 8388608 by decide]; exact hml) (fun _ => by rw [hL3]; exact hmg)
  rw [hL3] at f1
  have hflo : Nm.flo 24 2139095040 (m * 2 ^ K) = true := by
    unfold Nm.flo
    rw [f3, f2, f1]
    simp only [Bool.and_eq_true, decide_eq_true_eq]
    refine ⟨⟨by omega, trivial⟩, by rw [hK]; omega⟩
  have hu := flb_uf 24 2139095040 (m * 2 ^ K) (by decide) hflo
  rw [f1, hL3] at hu
  have eK : m + K * 8388608 = m + 126 * 8388608 := by rw [hK]
  rw [eK] at hu f1
  have hv : m + 126 * 8388608 < 2139095040 := by omega
  obtain ⟨u1, u2, u3, u4⟩ := unSg32 hv (pS 32 x)
  obtain ⟨y, hy⟩ : ∃ y, y = sgn 2147483648 ((m + 126 * 8388608 : Nat) : Int) (pS 32 x) := ⟨_, rfl⟩
  rw [← hy] at u1 u2 u3 u4
  rw [hu] at u4
  -- M times 2 to the -N
  have hz : nZ 32 x = if pS 32 x then -(M : Int) else M := by
    unfold nZ; rw [if_pos hf]; have : pM 32 x = M := by omega
    rw [this]
  have hz0 : nZ 32 x ≠ 0 := by rw [hz]; split <;> omega
  have hval : ValF 32 y (nZ 32 x) (-spN 32 x) := by
    unfold ValF
    have hq : unQ 32 = (-149) := rfl
    rw [hq, show min (-spN 32 x) (-149) = (-149) by omega, u4, hz, ← hN]
    have e1 : ((-149) - (-149) : Int).toNat = 0 := by decide
    rw [e1]
    have e2 : m * 2 ^ K = M * 2 ^ (-(N : Int) - (-149)).toNat := by
      have e0 : 23 - N + K = (-(N : Int) - (-149)).toNat := by omega
      rw [hm, Nat.mul_assoc, ← Nat.pow_add, e0]
    rw [e2]
    have e3 : ((M * 2 ^ (-(N : Int) - (-149)).toNat : Nat) : Int) = (M : Int) * 2 ^ (-(N : Int) - (-149)).toNat := by rw [Int.natCast_mul]; congr 1
    rw [e3]
    cases pS 32 x <;> simp [Int.neg_mul]
  have hfm : fmtB 32 = true := by decide
  have hRO := rdo_any (fm := 32) (mode := 1) (z := nZ 32 x) (e := -spN 32 x) hfm (by decide) (nZ_len 32 x) (by omega) (by omega)
  have hr := RdV_32 u1 u2 u3 1 (nZ 32 x) (-spN 32 x) (by decide) hRO hz0 hval
  have hef := ef_fp (fm := 32) hfm (pS 32 x) hM0 (by omega) (E := -spN 32 x) (by omega) (by omega)
  have hwl : Nm.wl (nZ 32 x) = Nm.lim M := by
    have e0 : (nZ 32 x).natAbs = M := by rw [hz]; split <;> omega
    unfold Nm.wl; rw [e0]
  have hwn : Nm.wn (nZ 32 x) = pS 32 x := by
    unfold Nm.wn; rw [hz]; cases pS 32 x
    · simp
    · simp; omega
  rw [hwl, hwn] at hr hRO
  have hEO : EfO 32 (pS 32 x) (Nm.lim M) (-spN 32 x) = true := by unfold EfO; rw [hRO, hr.2]; rfl
  have hEB : EfB 32 (pS 32 x) (Nm.lim M) (-spN 32 x) = y := by unfold EfB; rw [hEO, if_pos rfl]; exact hr.1
  have hsp : spB 32 x = y := by
    unfold spB; rw [h, if_pos rfl, ← hEB, hef.1]
    have : pM 32 x = ((M : Nat) : Int) := by omega
    rw [this]
  refine ⟨m, hmg, hml, by rw [hsp, hy], by rw [hsp]; exact hval⟩
/-- A difference of near floats is a float. -/
theorem nearR_32 {x y : Int} (x0 : 0 ≤ x) (x1 : x < 4294967296) (y0 : 0 ≤ y) (y1 : y < 4294967296) (fx : finB 32 x = true) (fy : finB 32 y = true) (hs : Nm.wn (unI 32 x) = Nm.wn (unI 32 y)) (h1 : (unI 32 y).natAbs ≤ 2 * (unI 32 x).natAbs) (h2 : (unI 32 x).natAbs ≤ 2 * (unI 32 y).natAbs) (hd : unI 32 x - unI 32 y ≠ 0) (mode : Int) (hm : modeB mode = true) :
    RdF 32 mode (Nm.wn (unI 32 x - unI 32 y)) (Nm.wl (unI 32 x - unI 32 y)) (-149) = 0 ∧
    0 ≤ RdB 32 mode (Nm.wn (unI 32 x - unI 32 y)) (Nm.wl (unI 32 x - unI 32 y)) (-149) ∧ RdB 32 mode (Nm.wn (unI 32 x - unI 32 y)) (Nm.wl (unI 32 x - unI 32 y)) (-149) < 4294967296 ∧
    finB 32 (RdB 32 mode (Nm.wn (unI 32 x - unI 32 y)) (Nm.wl (unI 32 x - unI 32 y)) (-149)) = true ∧ unI 32 (RdB 32 mode (Nm.wn (unI 32 x - unI 32 y)) (Nm.wl (unI 32 x - unI 32 y)) (-149)) = unI 32 x - unI 32 y := by
  have ux := un_uf32 x0 x1 fx
  have uy := un_uf32 y0 y1 fy
  have lx := fin_lt32 x0 x1 fx
  have ly := fin_lt32 y0 y1 fy
  obtain ⟨a, ha⟩ : ∃ a : Nat, a = (x % 2147483648).toNat := ⟨_, rfl⟩
  obtain ⟨b, hb⟩ : ∃ b : Nat, b = (y % 2147483648).toNat := ⟨_, rfl⟩
  have ux' : (unI 32 x).natAbs = uf 8388608 a := by
    rw [ux]; split
    · rw [show x.toNat = a by omega]; omega
    · rw [show (x - 2147483648).toNat = a by omega]; omega
  have uy' : (unI 32 y).natAbs = uf 8388608 b := by
    rw [uy]; split
    · rw [show y.toNat = b by omega]; omega
    · rw [show (y - 2147483648).toNat = b by omega]; omega
  have hsg : (unI 32 x < 0 ↔ unI 32 y < 0) := by
    unfold Nm.wn at hs; rw [Bool.eq_iff_iff, decide_eq_true_eq, decide_eq_true_eq] at hs; exact hs
  obtain ⟨z, hz⟩ : ∃ z, z = unI 32 x - unI 32 y := ⟨_, rfl⟩
  rw [← hz] at hd ⊢
  have hL : (2 : Nat) ^ (24 - 1) = 8388608 := by decide
  have hdist : z.natAbs + uf 8388608 b = uf 8388608 a ∨ z.natAbs + uf 8388608 a = uf 8388608 b := by
    rw [← ux', ← uy', hz]; omega
  have hnf := near_flo (P := 24) (I := 2139095040) (by decide) (by decide) a b (by omega) (by omega) (by rw [hL, ← ux', ← uy']; exact h2) (by rw [hL, ← ux', ← uy']; exact h1) z.natAbs (by rw [hL]; exact hdist)
  obtain ⟨c, c1, c2⟩ := hnf
  rw [hL] at c2
  obtain ⟨v1, v2, v3, v4⟩ := unSg32 c1 (Nm.wn z)
  rw [c2] at v4
  have v5 : unI 32 (sgn 2147483648 (c : Int) (Nm.wn z)) = z := by
    rw [v4]; unfold Nm.wn
    by_cases hn : z < 0
    · rw [decide_eq_true hn, if_pos rfl]; omega
    · rw [decide_eq_false hn]; simp only [Bool.false_eq_true, if_false]; omega
  have hlen : (Nm.wl z).length ≤ 200 := by
    have := un_len 32 _ v3; rw [v5] at this; exact this
  have hRO : RdO 32 mode (Nm.wn z) (Nm.wl z) (-149) = true := by unfold RdO; rw [okB_wl hlen, hm]; rfl
  have hval : ValF 32 (sgn 2147483648 (c : Int) (Nm.wn z)) z (-149) := by
    have hq : unQ 32 = (-149) := rfl
    unfold ValF; rw [v5, hq]
  have hr := RdV_32 v1 v2 v3 mode z (-149) hm hRO hd hval
  rw [hr.1, hr.2]
  exact ⟨rfl, v1, v2, v3, v5⟩
/-- A float's head between 1 and 2. -/
theorem spl64 {x : Int} (x0 : 0 ≤ x) (x1 : x < 18446744073709551616) (h : spO 64 x = true) : ∃ m : Nat, 4503599627370496 ≤ m ∧ m < 2 * 4503599627370496 ∧ spB 64 x = sgn 9223372036854775808 ((m + 1022 * 4503599627370496 : Nat) : Int) (pS 64 x) ∧ ValF 64 (spB 64 x) (nZ 64 x) (-spN 64 x) := by
  have h' := h
  unfold spO at h'
  simp only [Bool.and_eq_true, Bool.not_eq_true', decide_eq_false_iff_not] at h'
  obtain ⟨hf, hM⟩ := h'
  obtain ⟨n0, n1⟩ := spN_bd hM
  obtain ⟨m0, m1⟩ := pM_bd 64 x
  have hok := fin_ok hf
  obtain ⟨M, hMe⟩ : ∃ M, M = (pM 64 x).toNat := ⟨_, rfl⟩
  obtain ⟨N, hN⟩ : ∃ N : Nat, (N : Int) = spN 64 x := ⟨(spN 64 x).toNat, by omega⟩
  have hM0 : M ≠ 0 := by omega
  have hbl : bitLen M = N + 1 := by have : spN 64 x = (bitLen (pM 64 x).toNat : Nat) - 1 := rfl; rw [← hMe] at this; omega
  have hlt : M < 2 ^ (N + 1) := (Nm.bl_le_iff M (N + 1)).1 (by omega)
  have hge : 2 ^ N ≤ M := by
    rcases Nat.lt_or_ge M (2 ^ N) with hc | hc
    · have := (Nm.bl_le_iff M N).2 hc; omega
    · exact hc
  have hNp : N ≤ 52 := by
    have := (pM_uf64 x0 x1 hf).2.2.2
    rw [← hMe] at this
    omega
  have hml := mul_pow_lt (P := 52) hlt hNp
  have hmg := mul_pow_ge (P := 52) hge hNp
  obtain ⟨m, hm⟩ : ∃ m, m = M * 2 ^ (52 - N) := ⟨_, rfl⟩
  rw [← hm] at hml hmg
  have hL : (2 : Nat) ^ 52 = 4503599627370496 := by decide
  have hL2 : (2 : Nat) ^ (52 + 1) = 2 * 4503599627370496 := by decide
  have hL3 : (2 : Nat) ^ (53 - 1) = 4503599627370496 := by decide
  rw [hL2] at hml
  rw [hL] at hmg
  obtain ⟨K, hK⟩ : ∃ K : Nat, K = 1022 := ⟨_, rfl⟩
  obtain ⟨f1, f2, f3⟩ := Nm.flb_mk (P := 53) (m := m) (k := K) (by decide) (by rw [show (2 : Nat) ^ 53 = 2 * 4503599627370496 by decide]; exact hml) (fun _ => by rw [hL3]; exact hmg)
  rw [hL3] at f1
  have hflo : Nm.flo 53 9218868437227405312 (m * 2 ^ K) = true := by
    unfold Nm.flo
    rw [f3, f2, f1]
    simp only [Bool.and_eq_true, decide_eq_true_eq]
    refine ⟨⟨by omega, trivial⟩, by rw [hK]; omega⟩
  have hu := flb_uf 53 9218868437227405312 (m * 2 ^ K) (by decide) hflo
  rw [f1, hL3] at hu
  have eK : m + K * 4503599627370496 = m + 1022 * 4503599627370496 := by rw [hK]
  rw [eK] at hu f1
  have hv : m + 1022 * 4503599627370496 < 9218868437227405312 := by omega
  obtain ⟨u1, u2, u3, u4⟩ := unSg64 hv (pS 64 x)
  obtain ⟨y, hy⟩ : ∃ y, y = sgn 9223372036854775808 ((m + 1022 * 4503599627370496 : Nat) : Int) (pS 64 x) := ⟨_, rfl⟩
  rw [← hy] at u1 u2 u3 u4
  rw [hu] at u4
  -- M times 2 to the -N
  have hz : nZ 64 x = if pS 64 x then -(M : Int) else M := by
    unfold nZ; rw [if_pos hf]; have : pM 64 x = M := by omega
    rw [this]
  have hz0 : nZ 64 x ≠ 0 := by rw [hz]; split <;> omega
  have hval : ValF 64 y (nZ 64 x) (-spN 64 x) := by
    unfold ValF
    have hq : unQ 64 = (-1074) := rfl
    rw [hq, show min (-spN 64 x) (-1074) = (-1074) by omega, u4, hz, ← hN]
    have e1 : ((-1074) - (-1074) : Int).toNat = 0 := by decide
    rw [e1]
    have e2 : m * 2 ^ K = M * 2 ^ (-(N : Int) - (-1074)).toNat := by
      have e0 : 52 - N + K = (-(N : Int) - (-1074)).toNat := by omega
      rw [hm, Nat.mul_assoc, ← Nat.pow_add, e0]
    rw [e2]
    have e3 : ((M * 2 ^ (-(N : Int) - (-1074)).toNat : Nat) : Int) = (M : Int) * 2 ^ (-(N : Int) - (-1074)).toNat := by rw [Int.natCast_mul]; congr 1
    rw [e3]
    cases pS 64 x <;> simp [Int.neg_mul]
  have hfm : fmtB 64 = true := by decide
  have hRO := rdo_any (fm := 64) (mode := 1) (z := nZ 64 x) (e := -spN 64 x) hfm (by decide) (nZ_len 64 x) (by omega) (by omega)
  have hr := RdV_64 u1 u2 u3 1 (nZ 64 x) (-spN 64 x) (by decide) hRO hz0 hval
  have hef := ef_fp (fm := 64) hfm (pS 64 x) hM0 (by omega) (E := -spN 64 x) (by omega) (by omega)
  have hwl : Nm.wl (nZ 64 x) = Nm.lim M := by
    have e0 : (nZ 64 x).natAbs = M := by rw [hz]; split <;> omega
    unfold Nm.wl; rw [e0]
  have hwn : Nm.wn (nZ 64 x) = pS 64 x := by
    unfold Nm.wn; rw [hz]; cases pS 64 x
    · simp
    · simp; omega
  rw [hwl, hwn] at hr hRO
  have hEO : EfO 64 (pS 64 x) (Nm.lim M) (-spN 64 x) = true := by unfold EfO; rw [hRO, hr.2]; rfl
  have hEB : EfB 64 (pS 64 x) (Nm.lim M) (-spN 64 x) = y := by unfold EfB; rw [hEO, if_pos rfl]; exact hr.1
  have hsp : spB 64 x = y := by
    unfold spB; rw [h, if_pos rfl, ← hEB, hef.1]
    have : pM 64 x = ((M : Nat) : Int) := by omega
    rw [this]
  refine ⟨m, hmg, hml, by rw [hsp, hy], by rw [hsp]; exact hval⟩
/-- A difference of near floats is a float. -/
theorem nearR_64 {x y : Int} (x0 : 0 ≤ x) (x1 : x < 18446744073709551616) (y0 : 0 ≤ y) (y1 : y < 18446744073709551616) (fx : finB 64 x = true) (fy : finB 64 y = true) (hs : Nm.wn (unI 64 x) = Nm.wn (unI 64 y)) (h1 : (unI 64 y).natAbs ≤ 2 * (unI 64 x).natAbs) (h2 : (unI 64 x).natAbs ≤ 2 * (unI 64 y).natAbs) (hd : unI 64 x - unI 64 y ≠ 0) (mode : Int) (hm : modeB mode = true) :
    RdF 64 mode (Nm.wn (unI 64 x - unI 64 y)) (Nm.wl (unI 64 x - unI 64 y)) (-1074) = 0 ∧
    0 ≤ RdB 64 mode (Nm.wn (unI 64 x - unI 64 y)) (Nm.wl (unI 64 x - unI 64 y)) (-1074) ∧ RdB 64 mode (Nm.wn (unI 64 x - unI 64 y)) (Nm.wl (unI 64 x - unI 64 y)) (-1074) < 18446744073709551616 ∧
    finB 64 (RdB 64 mode (Nm.wn (unI 64 x - unI 64 y)) (Nm.wl (unI 64 x - unI 64 y)) (-1074)) = true ∧ unI 64 (RdB 64 mode (Nm.wn (unI 64 x - unI 64 y)) (Nm.wl (unI 64 x - unI 64 y)) (-1074)) = unI 64 x - unI 64 y := by
  have ux := un_uf64 x0 x1 fx
  have uy := un_uf64 y0 y1 fy
  have lx := fin_lt64 x0 x1 fx
  have ly := fin_lt64 y0 y1 fy
  obtain ⟨a, ha⟩ : ∃ a : Nat, a = (x % 9223372036854775808).toNat := ⟨_, rfl⟩
  obtain ⟨b, hb⟩ : ∃ b : Nat, b = (y % 9223372036854775808).toNat := ⟨_, rfl⟩
  have ux' : (unI 64 x).natAbs = uf 4503599627370496 a := by
    rw [ux]; split
    · rw [show x.toNat = a by omega]; omega
    · rw [show (x - 9223372036854775808).toNat = a by omega]; omega
  have uy' : (unI 64 y).natAbs = uf 4503599627370496 b := by
    rw [uy]; split
    · rw [show y.toNat = b by omega]; omega
    · rw [show (y - 9223372036854775808).toNat = b by omega]; omega
  have hsg : (unI 64 x < 0 ↔ unI 64 y < 0) := by
    unfold Nm.wn at hs; rw [Bool.eq_iff_iff, decide_eq_true_eq, decide_eq_true_eq] at hs; exact hs
  obtain ⟨z, hz⟩ : ∃ z, z = unI 64 x - unI 64 y := ⟨_, rfl⟩
  rw [← hz] at hd ⊢
  have hL : (2 : Nat) ^ (53 - 1) = 4503599627370496 := by decide
  have hdist : z.natAbs + uf 4503599627370496 b = uf 4503599627370496 a ∨ z.natAbs + uf 4503599627370496 a = uf 4503599627370496 b := by
    rw [← ux', ← uy', hz]; omega
  have hnf := near_flo (P := 53) (I := 9218868437227405312) (by decide) (by decide) a b (by omega) (by omega) (by rw [hL, ← ux', ← uy']; exact h2) (by rw [hL, ← ux', ← uy']; exact h1) z.natAbs (by rw [hL]; exact hdist)
  obtain ⟨c, c1, c2⟩ := hnf
  rw [hL] at c2
  obtain ⟨v1, v2, v3, v4⟩ := unSg64 c1 (Nm.wn z)
  rw [c2] at v4
  have v5 : unI 64 (sgn 9223372036854775808 (c : Int) (Nm.wn z)) = z := by
    rw [v4]; unfold Nm.wn
    by_cases hn : z < 0
    · rw [decide_eq_true hn, if_pos rfl]; omega
    · rw [decide_eq_false hn]; simp only [Bool.false_eq_true, if_false]; omega
  have hlen : (Nm.wl z).length ≤ 200 := by
    have := un_len 64 _ v3; rw [v5] at this; exact this
  have hRO : RdO 64 mode (Nm.wn z) (Nm.wl z) (-1074) = true := by unfold RdO; rw [okB_wl hlen, hm]; rfl
  have hval : ValF 64 (sgn 9223372036854775808 (c : Int) (Nm.wn z)) z (-1074) := by
    have hq : unQ 64 = (-1074) := rfl
    unfold ValF; rw [v5, hq]
  have hr := RdV_64 v1 v2 v3 mode z (-1074) hm hRO hd hval
  rw [hr.1, hr.2]
  exact ⟨rfl, v1, v2, v3, v5⟩
end Fd
end Go.Proofs.YtmcflggionkhlaaGreatDoor
