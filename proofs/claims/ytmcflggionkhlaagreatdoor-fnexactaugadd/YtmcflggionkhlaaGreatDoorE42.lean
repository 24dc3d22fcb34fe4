/-
  What is needed of LaidF, FM, FN, FO, FA, FB, DP, WI, AW, FU.
-/
import Derived.Test.YtmcflggionkhlaaGreatDoorE39
import Derived.Test.YtmcflggionkhlaaGreatDoorE40
import Derived.Test.YtmcflggionkhlaaGreatDoorE41
set_option maxHeartbeats 16000000
set_option maxRecDepth 1000000
namespace Go.Proofs.YtmcflggionkhlaaGreatDoor
set_option linter.unusedVariables false
set_option linter.unusedSimpArgs false
namespace Ld
open Go.RowKit Go.Deep Go.ChangeShapes Go.WideShapes Go.ChangeAt Go.Joins
theorem all3 {W : World} (h : laidMetH Tryz.prog [("math/bits.deBruijn32tab", Rows.laid_math_bits_deBruijn32tab), ("math/bits.deBruijn64tab", Rows.laid_math_bits_deBruijn64tab), ("errors.errorType", Rows.laid_errors_errorType), ("loop.example/g00672/impl.formSizes", Rows.laid_loop_example_g00672_impl_formSizes), ("loop.example/g00672/impl.errQuiet", Rows.laid_loop_example_g00672_impl_errQuiet)] W) : EX3 W := by
  have h' : laidMet Tryz.prog [("math/bits.deBruijn32tab", Rows.laid_math_bits_deBruijn32tab), ("math/bits.deBruijn64tab", Rows.laid_math_bits_deBruijn64tab), ("loop.example/g00672/impl.formSizes", Rows.laid_loop_example_g00672_impl_formSizes), ("loop.example/g00672/impl.errQuiet", Rows.laid_loop_example_g00672_impl_errQuiet)] W ∧ handlesMet Tryz.prog [("errors.errorType", Rows.laid_errors_errorType)] W := h
  have h1 := h'.1.filter (fun x => x.1 == "loop.example/g00672/impl.formSizes")
  have h2 := h'.1.filter (fun x => x.1 == "loop.example/g00672/impl.errQuiet")
  have h3 := h'.1.filter (fun x => x.1 == "math/bits.deBruijn64tab")
  have h4 := h'.1.filter (fun x => x.1 == "math/bits.deBruijn32tab")
  obtain ⟨u, hu⟩ := quiet h2
  exact ⟨u, ⟨⟨⟨table h1, tb64 h3⟩, tb32 h4⟩, handle h'.2 (List.mem_singleton.2 rfl), hu⟩⟩
end Ld
open Go.RowKit Go.Deep
theorem sl64_2 (w : World) (x y : Int) (t : TypeId) : Sl .u64 (w.alloc (.cells #[.int .u64 x, .int .u64 y] t)) (.slice (some ⟨w.heap.size, 0, none⟩) [x, y].length 2) [x, y] :=
  ⟨_, 2, rfl, Nat.le_refl _, by unfold maxLen; simp, .inr ⟨w.heap.size, 0, rfl, fun i hi => by
    have h2 : i < 2 := by simpa using hi
    match i, h2 with
    | 0, _ => simp
    | 1, _ => simp⟩⟩
theorem d64_2 {x y : Int} (x0 : 0 ≤ x) (x1 : x < 18446744073709551616) (y0 : 0 ≤ y) (y1 : y < 18446744073709551616) : D64 [x, y] := fun z hz => by
  simp only [List.mem_cons, List.not_mem_nil, or_false] at hz; rcases hz with rfl | rfl
  · exact ⟨x0, x1⟩
  · exact ⟨y0, y1⟩
theorem nan_cases {fm x : Int} (hx : okF fm x = true) (h : nanB fm x = false) : finB fm x = true ∨ nI fm x = true := by
  rcases cls_sixE hx with hf | h3 | h4 | h5
  · exact .inl hf
  · exact .inr (by unfold nI; rw [h3]; rfl)
  · rw [nan_ofE hx, h4] at h; simp at h
  · rw [nan_ofE hx, h5] at h; simp at h
theorem nZ_bd (fm x : Int) : (nZ fm x).natAbs < 9007199254740992 ∧ -1074 ≤ nE fm x ∧ nE fm x ≤ 2000 := by
  have h1 := pM_bd fm x
  have h2 := pE_bd fm x
  unfold nZ nE
  cases finB fm x
  · simp
  · simp; refine ⟨?_, h2⟩; cases pS fm x <;> simp <;> omega
theorem wl_of {z : Int} {k : Nat} (h : z.natAbs < 2 ^ k) (hk : k ≤ 6400) : (Nm.wl z).length ≤ 200 := by
  unfold Nm.wl; exact lim_len (k := 200) (by have := (Nm.bl_le_iff z.natAbs k).2 h; omega)
theorem nZ_len (fm x : Int) : (Nm.wl (nZ fm x)).length ≤ 200 := wl_of (k := 53) (by have := (nZ_bd fm x).1; omega) (by decide)
theorem rdo_any {fm mode : Int} {z e : Int} (hf : fmtB fm = true) (hm : modeB mode = true) (hl : (Nm.wl z).length ≤ 200) (h0 : -10000 ≤ e) (h1 : e ≤ 10000) : RdO fm mode (Nm.wn z) (Nm.wl z) e = true := by
  unfold RdO inZ; rw [hf, hm, okB_wl hl, decide_eq_true h0, decide_eq_true h1]; rfl
theorem l3r_any (fm mode : Int) (z e : Int) (p : Option Addr) (cap : Nat) (w : World) (hs : Sl .u32 w (.slice p (Nm.wl z).length cap) (Nm.wl z)) (hz : z ≠ 0) (ho : RdO fm mode (Nm.wn z) (Nm.wl z) e = true) :
    Calls Tryz.prog 103 #[.int .i64 fm, .int .i64 mode, .agg #[.bool (Nm.wn z), .slice p (Nm.wl z).length cap], .int .i64 e] w fun x w' => x = .returned (.tuple #[.int .u64 (RdB fm mode (Nm.wn z) (Nm.wl z) e), .int .i64 (RdF fm mode (Nm.wn z) (Nm.wl z) e)]) ∧ Below w.heap.size w w' := by
  have h0 : (Nm.wl z).length ≠ 0 := by unfold Nm.wl; rw [Ne, Nm.lim_length_zero]; omega
  have hf : fmtB fm = true := by unfold RdO at ho; simp only [Bool.and_eq_true] at ho; exact ho.1.1.1
  rcases fmt_cases hf with rfl | rfl
  · exact l3r_at32 mode (Nm.wn z) (Nm.wl z) e p cap w hs (Nm.wl_dg _) h0 ho
  · exact l3r_at64 mode (Nm.wn z) (Nm.wl z) e p cap w hs (Nm.wl_dg _) h0 ho
/-- A product, of all floats. -/
def muO (fm mode x y : Int) : Bool := modeB mode && allB fm [x, y]
theorem all2 {fm x y : Int} (h : allB fm [x, y] = true) : okF fm x = true ∧ okF fm y = true := by
  unfold allB at h; simpa using h
theorem all2_fmt {fm mode x y : Int} : (allB fm [x, y] && fmtB fm && modeB mode) = (modeB mode && allB fm [x, y]) := by
  cases h : allB fm [x, y]
  · simp
  · rw [ok_fmt (all2 h).1]; simp
theorem told_any (fm mode : Int) (hfm : fmtB fm = true) (neg inf G : Bool) (L : List Int) (e : Int) (p : Option Addr) (cap : Nat) (u ev : Value) (n b : Bool) (hk : EK u ev n b) (w : World) (hT : T3 w) (hg : EA.ErrT w) (hs : Sl .u32 w (.slice p L.length cap) L) (hd : Nm.Dg L) (hl : L.length ≤ 200) (rb rf : Int) (hro : n = false → inf = false → L.length ≠ 0 → RdO fm mode G L e = true ∧ rb = RdB fm mode G L e ∧ rf = RdF fm mode G L e) (B F : Int) (hB : B = tdB (nanOf fm) (infOf fm) (sgOf fm) n inf (decide (L.length = 0)) neg rb) (hF : F = tdF n b inf (decide (L.length = 0)) rf) :
    Calls Tryz.prog 88 #[.int .i64 fm, .int .i64 mode, .agg #[.bool neg, .bool inf, .bool G, .slice p L.length cap, .int .i64 e], ev] w fun r w' => r = .returned (.tuple #[.int .u64 B, .int .i64 F, .bool true]) ∧ Below w.heap.size w w' := by
  subst hB hF
  rcases fmt_cases hfm with rfl | rfl
  · exact told_32 mode neg inf G L e p cap u ev n b hk w hT hg hs hd hl rb rf hro
  · exact told_64 mode neg inf G L e p cap u ev n b hk w hT hg hs hd hl rb rf hro
theorem numAt {u : Value} {fm x : Int} (hx : okF fm x = true) (x0 : 0 ≤ x) (x1 : x < 18446744073709551616) : NumAt u fm x (nS fm x) (nI fm x) (Nm.wn (nZ fm x)) (Nm.wl (nZ fm x)) (nE fm x) (nanB fm x) (nB fm x) :=
  fun w hE => num_all fm x u w hE hx x0 x1 _ _ _ _ _ _ _ rfl rfl rfl rfl rfl rfl rfl
theorem unq_bd (fm : Int) : -1074 ≤ unQ fm ∧ unQ fm ≤ -149 := by unfold unQ; split <;> omega
theorem un_nZ {fm x : Int} (hx : okF fm x = true) (hf : finB fm x = true) : unI fm x = nZ fm x * 2 ^ (nE fm x - unQ fm).toNat := by
  obtain ⟨f1, f2, f3, f4, f5, f6⟩ := fin_facts hx hf
  have hq := pE_q hf
  have hM := pM_bd fm x
  rw [f3, f4]
  unfold unI
  rw [hf, if_pos rfl]
  have e : ((Nm.sh (pM fm x).toNat (pE fm x - unQ fm) : Nat) : Int) = pM fm x * 2 ^ (pE fm x - unQ fm).toNat := by
    unfold Nm.sh; rw [if_neg (by omega), Int.natCast_mul, Int.natCast_pow, Int.toNat_of_nonneg hM.1]; rfl
  rw [e]
  cases pS fm x
  · rfl
  · simp only [if_true, Int.neg_mul]
theorem un_blA (fm x : Int) : bitLen (unI fm x).natAbs ≤ 2200 := by
  cases hf : finB fm x
  · rw [un_no hf]; decide
  · have h : (unI fm x).natAbs = Nm.sh (pM fm x).toNat (pE fm x - unQ fm) := by unfold unI; rw [hf, if_pos rfl]; cases pS fm x <;> simp
    rw [h]; exact un_bits hf
theorem un_lenA (fm x : Int) : (Nm.wl (unI fm x)).length ≤ 200 := by unfold Nm.wl; exact lim_len (k := 200) (by have := un_blA fm x; omega)
theorem shz (z n : Int) (h : 0 ≤ n) : Nm.shV (Nm.wn z) (Nm.val (Nm.wl z)) n = z * 2 ^ n.toNat := by
  rw [Nm.val_wl, shV_sg]
  have e : ((Nm.sh z.natAbs n : Nat) : Int) = (z.natAbs : Int) * 2 ^ n.toNat := by unfold Nm.sh; rw [if_neg (by omega), Int.natCast_mul, Int.natCast_pow]; rfl
  rw [e]
  unfold Nm.wn
  by_cases hz : z < 0
  · rw [decide_eq_true hz, if_pos rfl, ← Int.neg_mul]; congr 1; omega
  · rw [decide_eq_false hz, if_neg (by decide)]; congr 1; omega
theorem sum_abs {z : Int} {d : Nat} {u : Int} (h : u = z * 2 ^ d) : z.natAbs ≤ u.natAbs := by
  rw [h, Int.natAbs_mul, Int.natAbs_pow]
  exact Nat.le_mul_of_pos_right _ (Nat.pow_pos (by decide))
/-- A right wide shifted, where all fits. -/
theorem wsh_at2 (G : Bool) (p : Option Addr) (c : Nat) (L : List Int) (n : Int) (w : World) (hs : Sl .u32 w (.slice p L.length c) L) (d : Nm.Dg L) (ho : okB G L = true) (h0 : -10000 ≤ n) (h1 : n ≤ 10000) (V : Int) (hV : V = Nm.shV G (Nm.val L) n) (hf : (Nm.wl V).length ≤ 200) :
    Calls Tryz.prog 20 #[.agg #[.bool G, .slice p L.length c], .int .i64 n] w fun r w' => ∃ a' c', r = .returned (.tuple #[.agg #[.bool (Nm.wn V), .slice a' (Nm.wl V).length c'], .bool true]) ∧ Own w' w.heap.size a' c' (Nm.wl V) ∧ Below w.heap.size w w' := by
  have h := wsh_impl G p c L n w hs d (by have := (okB_nz ho).2; omega)
  have e1 : (okB G L && inZ n (-10000) 10000) = true := by rw [ho]; unfold inZ; rw [decide_eq_true h0, decide_eq_true h1]; rfl
  have e3 : Nm.fits V = true := by unfold Nm.fits; exact decide_eq_true hf
  have e4 := out_fits e3
  rw [e1, ← hV, (op_yes _).1, (op_yes _).2.1, (op_yes _).2.2, e3, e4.1, e4.2] at h
  exact h
theorem neg_i (fm y : Int) (w : World) (hT : Tab w) (hy : okF fm y = true) (y0 : 0 ≤ y) (y1 : y < 18446744073709551616) :
    Calls Tryz.prog 32 #[.int .i64 fm, .int .u64 y] w fun e w' => e = .returned (.int .u64 (negF fm y)) ∧ Below w.heap.size w w' := by
  rcases okF_cases hy with ⟨rfl, hy'⟩ | rfl
  · rw [neg32 hy']; exact impl_neg32 y w hT y0 hy'
  · rw [neg64]; exact impl_neg64 y w hT y0 y1
namespace Fd
theorem RdB_bd (fm mode z e : Int) : 0 ≤ RdB fm mode (Nm.wn z) (Nm.wl z) e ∧ RdB fm mode (Nm.wn z) (Nm.wl z) e < 18446744073709551616 := by
  cases hO : RdO fm mode (Nm.wn z) (Nm.wl z) e
  · rw [(Rd_no hO).1]; decide
  · have hf : fmtB fm = true := by unfold RdO at hO; simp at hO; exact hO.1.1.1
    rcases fmt_cases hf with rfl | rfl
    · obtain ⟨h1, h2, -, -⟩ := ord_R32 mode z e hO; omega
    · obtain ⟨h1, h2, -, -⟩ := ord_R64 mode z e hO; omega
theorem nanOf_bd (fm : Int) : 0 ≤ nanOf fm ∧ nanOf fm < 18446744073709551616 := by unfold nanOf; split <;> omega
theorem sgn_bd2 (fm : Int) (g : Bool) : 0 ≤ sgn (sgOf fm) 0 g ∧ sgn (sgOf fm) 0 g < 18446744073709551616 ∧ 0 ≤ sgn (sgOf fm) (infOf fm) g ∧ sgn (sgOf fm) (infOf fm) g < 18446744073709551616 := by
  unfold sgn sgOf infOf; split <;> split <;> omega
end Fd
theorem al_b (w : World) (o : Obj) : Below w.heap.size w (w.alloc o) := (Below.refl _ _).alloc (Nat.le_refl _) _
/-- What a head lacks of X, in 2 to the 2 Q. -/
def auR (fm h X : Int) : Int := X - unI fm h * 2 ^ (-unQ fm).toNat
def auT (fm h X : Int) : Int := if finB fm h then (if auR fm h X = 0 then sgn (sgOf fm) 0 (sigB fm h) else RdB fm 5 (Nm.wn (auR fm h X)) (Nm.wl (auR fm h X)) (2 * unQ fm)) else h
def auF (fm h f X : Int) : Int := if finB fm h then (if auR fm h X = 0 then 0 else RdF fm 5 (Nm.wn (auR fm h X)) (Nm.wl (auR fm h X)) (2 * unQ fm)) else f
theorem bl_mulp (v : Int) (n : Nat) : bitLen (v * 2 ^ n).natAbs ≤ bitLen v.natAbs + n := by
  rw [Int.natAbs_mul, Int.natAbs_pow]
  by_cases h : v.natAbs = 0
  · rw [h, Nat.zero_mul, Nm.bl_zero]; omega
  · exact Nat.le_of_eq (Nm.bl_mul h n)
theorem bl_add2 {x y : Int} {k : Nat} (hx : bitLen x.natAbs ≤ k) (hy : bitLen y.natAbs ≤ k) : bitLen (x + y).natAbs ≤ k + 1 := by
  rw [Nm.bl_le_iff] at hx hy ⊢
  rw [Nat.pow_succ]
  have : (x + y).natAbs ≤ x.natAbs + y.natAbs := Int.natAbs_add_le x y
  exact (fun (P a b c : Nat) (h : c ≤ a + b) (ha : a < P) (hb : b < P) => by omega : ∀ P a b c : Nat, c ≤ a + b → a < P → b < P → c < P * 2) _ _ _ _ this hx hy
theorem auR_bl {fm h X : Int} (hX : bitLen X.natAbs ≤ 6300) : bitLen (auR fm h X).natAbs ≤ 6301 := by
  have h1 := un_blA fm h
  have h2 := bl_mulp (unI fm h) (-unQ fm).toNat
  have hq := unq_bd fm
  have h3 : bitLen (-(unI fm h * 2 ^ (-unQ fm).toNat)).natAbs ≤ 6300 := by rw [Int.natAbs_neg]; omega
  have := bl_add2 hX h3
  unfold auR
  rw [Int.sub_eq_add_neg]; exact this
theorem auR_len {fm h X : Int} (hX : bitLen X.natAbs ≤ 6300) : (Nm.wl (auR fm h X)).length ≤ 200 := by
  have := auR_bl (fm := fm) (h := h) hX
  unfold Nm.wl; exact lim_len (k := 200) (by omega)
theorem own_apart {w : World} {B : Nat} {a : Option Addr} {c : Nat} {L : List Int} {b : Nat} (ho : Own w B a c L) (v : Bool) (hc : w.cell? ⟨b, 0, none⟩ = some (.bool v)) : L = [] ∨ ∀ g, a = some ⟨g, 0, none⟩ → g ≠ b := by
  by_cases hL : L = []
  · exact .inl hL
  · right
    intro g hg e
    subst e
    obtain ⟨-, -, -, h⟩ := ho.sl.cells
    have hpos : 0 < L.length := List.length_pos_iff.2 hL
    obtain ⟨b', off, h1, h2⟩ := h hpos
    rw [hg] at h1
    cases h1
    have h3 := h2 0 hpos
    rw [hc] at h3
    cases h3
theorem own_keep {w : World} {B : Nat} {a : Option Addr} {c : Nat} {L : List Int} {b : Nat} (ho : Own w B a c L) (ap : L = [] ∨ ∀ g, a = some ⟨g, 0, none⟩ → g ≠ b) (u0 u1 u2 u3 u4 : Value) :
    Sl .u32 (((((w.setCell ⟨b, 0, none⟩ u0).setCell ⟨b, 1, none⟩ u1).setCell ⟨b, 2, none⟩ u2).setCell ⟨b, 3, none⟩ u3).setCell ⟨b, 4, none⟩ u4) (.slice a L.length c) L := by
  rcases ap with rfl | h
  · obtain ⟨a', cap, h1, h2, h3, -⟩ := ho.sl
    exact ⟨a', cap, h1, h2, h3, .inl rfl⟩
  · exact (((((ho.setOther h u0).setOther h u1).setOther h u2).setOther h u3).setOther h u4).sl
end Go.Proofs.YtmcflggionkhlaaGreatDoor
