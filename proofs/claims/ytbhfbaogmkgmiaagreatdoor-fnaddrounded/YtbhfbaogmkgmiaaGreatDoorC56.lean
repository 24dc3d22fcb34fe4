/-
  What is needed of AccM, RS, NP, FO, FA.
-/
import Derived.Test.YtbhfbaogmkgmiaaGreatDoorC36
import Derived.Test.YtbhfbaogmkgmiaaGreatDoorC40
import Derived.Test.YtbhfbaogmkgmiaaGreatDoorC48
set_option maxHeartbeats 16000000
set_option maxRecDepth 1000000
namespace Go.Proofs.YtbhfbaogmkgmiaaGreatDoor
set_option linter.unusedVariables false
set_option linter.unusedSimpArgs false
open Go.RowKit Go.Deep
theorem add_ok {na nb : Bool} {xs ys : List Int} (a b : Option Addr) (cap cap' : Nat) (w : World) (hx : Sl .u32 w (.slice a xs.length cap) xs) (hy : Sl .u32 w (.slice b ys.length cap') ys) (dx : Nm.Dg xs) (dy : Nm.Dg ys) (ho : okB na xs = true) (ho' : okB nb ys = true) (x : Int) (hxv : x = Nm.wv na xs + Nm.wv nb ys) (hf : Nm.fits x = true) :
    Calls Tryz.prog 78 #[.agg #[.bool na, .slice a xs.length cap], .agg #[.bool nb, .slice b ys.length cap']] w fun e w' => ∃ a' c', e = .returned (.tuple #[.agg #[.bool (Nm.wn x), .slice a' (Nm.wl x).length c'], .bool true]) ∧ Own w' w.heap.size a' c' (Nm.wl x) ∧ Below w.heap.size w w' := by
  have h1 := (okB_nz ho).2
  have h2 := (okB_nz ho').2
  have h := wadd_impl na nb a b cap cap' xs ys w hx hy dx dy (by omega) (by omega) x hxv
  have e4 := out_fits hf
  rw [ho, ho', Bool.and_self, (op_yes _).1, (op_yes _).2.1, (op_yes _).2.2, hf, e4.1, e4.2] at h
  exact h
/-- Two ways to part one number are rounded alike. -/
theorem Rd_scale (fm mode : Int) (z : Int) (d : Nat) (e : Int) (hz : z ≠ 0) (h1 : RdO fm mode (Nm.wn z) (Nm.wl z) e = true) (h2 : RdO fm mode (Nm.wn (z * 2 ^ d)) (Nm.wl (z * 2 ^ d)) (e - d) = true) :
    RdB fm mode (Nm.wn (z * 2 ^ d)) (Nm.wl (z * 2 ^ d)) (e - d) = RdB fm mode (Nm.wn z) (Nm.wl z) e ∧ RdF fm mode (Nm.wn (z * 2 ^ d)) (Nm.wl (z * 2 ^ d)) (e - d) = RdF fm mode (Nm.wn z) (Nm.wl z) e := by
  have hp : (0 : Int) < 2 ^ d := Int.pow_pos (by decide)
  have hn : Nm.wn (z * 2 ^ d) = Nm.wn z := by
    unfold Nm.wn
    rw [Bool.eq_iff_iff, decide_eq_true_eq, decide_eq_true_eq]
    constructor
    · intro h
      refine Int.not_le.1 (fun h0 => ?_)
      have := Int.mul_nonneg h0 (Int.le_of_lt hp); omega
    · intro h; exact Int.mul_neg_of_neg_of_pos h hp
  have ha : (z * 2 ^ d).natAbs = z.natAbs * 2 ^ d := by rw [Int.natAbs_mul, Int.natAbs_pow]; rfl
  have ha0 : z.natAbs ≠ 0 := by omega
  have hv1 : (Nm.val (Nm.wl z)).toNat = z.natAbs := by rw [Nm.val_wl]; simp
  have hv2 : (Nm.val (Nm.wl (z * 2 ^ d))).toNat = z.natAbs * 2 ^ d := by rw [Nm.val_wl, ha]; exact Int.toNat_natCast _
  have hl1 : (Nm.wl z).length ≠ 0 := by unfold Nm.wl; rw [Ne, Nm.lim_length_zero]; exact ha0
  have hl2 : (Nm.wl (z * 2 ^ d)).length ≠ 0 := by
    unfold Nm.wl; rw [Ne, Nm.lim_length_zero, ha]
    intro h
    rcases Nat.mul_eq_zero.1 h with h' | h'
    · exact ha0 h'
    · have := Nm.pw_pos2 d; omega
  rw [hn] at h2 ⊢
  unfold RdB RdF
  rw [h1, h2, if_pos rfl, if_pos rfl, if_pos rfl, if_pos rfl, if_neg hl1, if_neg hl1, if_neg hl2, if_neg hl2, hv1, hv2]
  by_cases h32 : fm = 32
  · rw [if_pos h32, if_pos h32, if_pos h32, if_pos h32]
    exact ⟨rdB_scale ha0 _ _ _ _ _ _ _ _, rdF_scale ha0 _ _ _ _ _ _ _⟩
  · rw [if_neg h32, if_neg h32, if_neg h32, if_neg h32]
    exact ⟨rdB_scale ha0 _ _ _ _ _ _ _ _, rdF_scale ha0 _ _ _ _ _ _ _⟩
/-- What totalOf answers at two floats, by letters. -/
abbrev TotAt (u : Value) (fm mode x y : Int) (sg inf G : Bool) (L : List Int) (E : Int) (n b : Bool) : Prop := ∀ w : World, EE u w → Calls Tryz.prog 91 #[.int .i64 fm, .int .i64 mode, .int .u64 x, .int .u64 y] w fun r w' => ∃ a' c' ev, r = .returned (.tuple #[.agg #[.bool sg, .bool inf, .bool G, .slice a' L.length c', .int .i64 E], ev]) ∧ EK u ev n b ∧ Own w' w.heap.size a' c' L ∧ Below w.heap.size w w'
theorem tot_nan (fm mode x y : Int) (u : Value) (sg1 inf1 G1 : Bool) (L1 : List Int) (E1 : Int) (n1 b1 : Bool) (sg2 inf2 G2 : Bool) (L2 : List Int) (E2 : Int) (n2 b2 : Bool) (hx : NumAt u fm x sg1 inf1 G1 L1 E1 n1 b1) (hy : NumAt u fm y sg2 inf2 G2 L2 E2 n2 b2) (hn : (n1 || n2) = true) (b : Bool) (hb : b = (b1 || b2)) :
    TotAt u fm mode x y false false false [] 0 true b := by
  intro w hE
  have CT := hid (fun w' h => two_nums fm x y u sg1 inf1 G1 L1 E1 n1 b1 sg2 inf2 G2 L2 E2 n2 b2 hx hy w' h)
  rw [hn, ← hb] at CT
  clear hn hb hx hy
  have R := Q5.new w (.bool false) (.bool false) (.bool false) (.slice none 0 0) (.int .i64 0) 91
  have bel0 : Below w.heap.size w (w.alloc (.cells #[.bool false, .bool false, .bool false, .slice none 0 0, .int .i64 0] 91)) := (by repeat (first | exact bz0 _ _ | refine bz1 ?_ | refine bz2 ?_ _ | refine bz3 ?_ _ | refine bz5 ?_ _ | refine bz6 ?_ _))
  go_enter Tryz.func91, Tryz.ntmps91
  go_wp2_with fail
  refine (CT.out _ (hE.below bel0)).mono ?_
  rintro r w1 ⟨a1, c1, a2, c2, ev, rfl, kv, o1, o2, hb1⟩
  have bel1 := bel_go bel0 hb1
  replace R := ((R.below hb1).alloc (.cells #[.bool sg1, .bool inf1, .bool G1, .slice a1 L1.length c1, .int .i64 E1] 91)).alloc (.cells #[.bool sg2, .bool inf2, .bool G2, .slice a2 L2.length c2, .int .i64 E2] 91)
  obtain ⟨r0, r1, r2, r3, r4, f0, f1, f2, f3, f4⟩ := R
  clear o1 o2
  cases kv with
  | quiet =>
    go_wp2
    refine bodyPost_ret (v := .tuple #[.agg #[.bool false, .bool false, .bool false, .slice none 0 0, .int .i64 0], .iface 170 (.agg #[.iface 209 u])]) (by simp [results, Tryz.results91, go_sem, r0, r1, r2, r3, r4]) rfl ⟨none, 0, _, rfl, EK.quiet, Own.nil _ _, ?_⟩
    exact (by (repeat with_reducible first | refine Below.setCell ?_ ?_ _ | exact bz0 _ _ | refine bz1 ?_ | refine bz2 ?_ _ | refine bz3 ?_ _ | refine bz4 ?_ hb1 | refine bz4 ?_ bel0 | refine Below.alloc ?_ ?_ _ | refine Below.trans ?_ (Below.mono hb1 ?_) | refine Below.trans ?_ (Below.mono bel0 ?_)) <;> first | omega | (simp; done) | (simp; omega))
  | bad s =>
    go_wp2
    refine bodyPost_ret (v := .tuple #[.agg #[.bool false, .bool false, .bool false, .slice none 0 0, .int .i64 0], .iface 170 (.agg #[.iface 172 (.agg #[.string s])])]) (by simp [results, Tryz.results91, go_sem, r0, r1, r2, r3, r4]) rfl ⟨none, 0, _, rfl, EK.bad s, Own.nil _ _, ?_⟩
    exact (by (repeat with_reducible first | refine Below.setCell ?_ ?_ _ | exact bz0 _ _ | refine bz1 ?_ | refine bz2 ?_ _ | refine bz3 ?_ _ | refine bz4 ?_ hb1 | refine bz4 ?_ bel0 | refine Below.alloc ?_ ?_ _ | refine Below.trans ?_ (Below.mono hb1 ?_) | refine Below.trans ?_ (Below.mono bel0 ?_)) <;> first | omega | (simp; done) | (simp; omega))
theorem tot_num (fm mode x y : Int) (u : Value) (sg1 inf1 G1 : Bool) (L1 : List Int) (E1 : Int) (n1 b1 : Bool) (sg2 inf2 G2 : Bool) (L2 : List Int) (E2 : Int) (n2 b2 : Bool) (hx : NumAt u fm x sg1 inf1 G1 L1 E1 n1 b1) (hy : NumAt u fm y sg2 inf2 G2 L2 E2 n2 b2) (hn : (n1 || n2) = false) (sg inf G : Bool) (L : List Int) (E : Int) (n b : Bool)
    (hm : ∀ (B : Nat) (a1 : Option Addr) (c1 : Nat) (a2 : Option Addr) (c2 : Nat) (w : World), B ≤ w.heap.size → Own w B a1 c1 L1 → Own w B a2 c2 L2 → Calls Tryz.prog 134 #[.agg #[.bool sg1, .bool inf1, .bool G1, .slice a1 L1.length c1, .int .i64 E1], .agg #[.bool sg2, .bool inf2, .bool G2, .slice a2 L2.length c2, .int .i64 E2], .int .i64 mode] w fun r w' => ∃ a3 c3 ev, r = .returned (.tuple #[.agg #[.bool sg, .bool inf, .bool G, .slice a3 L.length c3, .int .i64 E], ev]) ∧ EK u ev n b ∧ Own w' B a3 c3 L ∧ Below w.heap.size w w') :
    TotAt u fm mode x y sg inf G L E n b := by
  intro w hE
  have CT := hid (fun w' h => two_nums fm x y u sg1 inf1 G1 L1 E1 n1 b1 sg2 inf2 G2 L2 E2 n2 b2 hx hy w' h)
  have CM := hid hm
  rw [hn] at CT
  obtain ⟨b0, hb0⟩ : ∃ b0, b0 = (b1 || b2) := ⟨_, rfl⟩
  rw [← hb0] at CT
  clear hb0
  clear hn hx hy hm
  have R := Q5.new w (.bool false) (.bool false) (.bool false) (.slice none 0 0) (.int .i64 0) 91
  have bel0 : Below w.heap.size w (w.alloc (.cells #[.bool false, .bool false, .bool false, .slice none 0 0, .int .i64 0] 91)) := (by repeat (first | exact bz0 _ _ | refine bz1 ?_ | refine bz2 ?_ _ | refine bz3 ?_ _ | refine bz5 ?_ _ | refine bz6 ?_ _))
  go_enter Tryz.func91, Tryz.ntmps91
  go_wp2_with fail
  refine (CT.out _ (hE.below bel0)).mono ?_
  rintro r w1 ⟨a1, c1, a2, c2, ev, rfl, kv, o1, o2, hb1⟩
  have bel1w := bel_go bel0 hb1
  have bel1 := bel_al (bel_al (bel_go bel0 hb1) (.cells #[.bool sg1, .bool inf1, .bool G1, .slice a1 L1.length c1, .int .i64 E1] 91)) (.cells #[.bool sg2, .bool inf2, .bool G2, .slice a2 L2.length c2, .int .i64 E2] 91)
  replace R := ((R.below hb1).alloc (.cells #[.bool sg1, .bool inf1, .bool G1, .slice a1 L1.length c1, .int .i64 E1] 91)).alloc (.cells #[.bool sg2, .bool inf2, .bool G2, .slice a2 L2.length c2, .int .i64 E2] 91)
  have PX := (Q5.new w1 (.bool sg1) (.bool inf1) (.bool G1) (.slice a1 L1.length c1) (.int .i64 E1) 91).alloc (.cells #[.bool sg2, .bool inf2, .bool G2, .slice a2 L2.length c2, .int .i64 E2] 91)
  have PY := Q5.nw2 w1 (.cells #[.bool sg1, .bool inf1, .bool G1, .slice a1 L1.length c1, .int .i64 E1] 91) (.bool sg2) (.bool inf2) (.bool G2) (.slice a2 L2.length c2) (.int .i64 E2) 91
  have s1 := ((o1.alloc (.cells #[.bool sg1, .bool inf1, .bool G1, .slice a1 L1.length c1, .int .i64 E1] 91)).alloc (.cells #[.bool sg2, .bool inf2, .bool G2, .slice a2 L2.length c2, .int .i64 E2] 91)).base (B' := w.heap.size + 1) (by simp)
  have s2 := ((o2.alloc (.cells #[.bool sg1, .bool inf1, .bool G1, .slice a1 L1.length c1, .int .i64 E1] 91)).alloc (.cells #[.bool sg2, .bool inf2, .bool G2, .slice a2 L2.length c2, .int .i64 E2] 91)).base (B' := w.heap.size + 1) (by simp)
  have lr := R.lt
  have lb1 := hb1.size
  have lb1' : w.heap.size + 1 ≤ w1.heap.size := by simpa using lb1
  clear o1 o2
  cases kv with
  | no =>
    obtain ⟨x0, x1, x2, x3, x4⟩ := PX.cs
    obtain ⟨y0, y1, y2, y3, y4⟩ := PY.cs
    go_wp2_with fail
    refine (CM.out (w.heap.size + 1) a1 c1 a2 c2 _ (by simp; omega) s1 s2).mono ?_
    rintro r w2 ⟨a3, c3, ev, rfl, kv, o3, hb2⟩
    clear x0 x1 x2 x3 x4 y0 y1 y2 y3 y4
    obtain ⟨r0, r1, r2, r3, r4, f0, f1, f2, f3, f4⟩ := R.below hb2
    go_wp2
    refine bodyPost_ret (v := .tuple #[.agg #[.bool sg, .bool inf, .bool G, .slice a3 L.length c3, .int .i64 E], ev]) (by simp [results, Tryz.results91, go_sem, r0, r1, r2, r3, r4]) rfl ⟨a3, c3, ev, rfl, kv, ?_, ?_⟩
    · have o4 := o3
      refine Own.base (B := w.heap.size + 1) ?_ (by omega)
      repeat (first | with_reducible exact o4 | (with_reducible refine Own.setBelow ?_ ?_ _; rotate_left; (simp; try omega)))
    · exact (by (repeat with_reducible first | refine Below.setCell ?_ ?_ _ | exact bz0 _ _ | refine bz1 ?_ | refine bz2 ?_ _ | refine bz3 ?_ _ | refine bz4 ?_ hb2 | refine bz4 ?_ bel1w | refine Below.alloc ?_ ?_ _ | refine Below.trans ?_ (Below.mono hb2 ?_) | refine Below.trans ?_ (Below.mono bel1w ?_)) <;> first | omega | (simp; done) | (simp; omega))
theorem nI_z {fm x : Int} (hx : okF fm x = true) (h : nI fm x = true) : nZ fm x = 0 := by
  have h3 : cls fm x = 3 := by simpa [nI] using h
  have hf : finB fm x = false := by unfold finB; rw [h3]; decide
  exact (odd_facts hx hf).1
/-- A sum, of what are no NaNs. -/
def aB (fm mode x y : Int) : Int := if nI fm x && nI fm y && (x != y) then nanOf fm else if nI fm x then x else if nI fm y then y else if (unI fm x + unI fm y) = 0 then sgn (sgOf fm) 0 (sigB fm x && sigB fm y || ((sigB fm x != sigB fm y) && decide (mode = 3))) else RdB fm mode (Nm.wn (unI fm x + unI fm y)) (Nm.wl (unI fm x + unI fm y)) (unQ fm)
def aF (fm mode x y : Int) : Int := if nI fm x && nI fm y && (x != y) then 8 else if nI fm x || nI fm y then 0 else if (unI fm x + unI fm y) = 0 then 0 else RdF fm mode (Nm.wn (unI fm x + unI fm y)) (Nm.wl (unI fm x + unI fm y)) (unQ fm)
theorem un_blA (fm x : Int) : bitLen (unI fm x).natAbs ≤ 2200 := by
  cases hf : finB fm x
  · rw [un_no hf]; decide
  · have h : (unI fm x).natAbs = Nm.sh (pM fm x).toNat (pE fm x - unQ fm) := by unfold unI; rw [hf, if_pos rfl]; cases pS fm x <;> simp
    rw [h]; exact un_bits hf
theorem uu_len (fm x y : Int) : (Nm.wl (unI fm x + unI fm y)).length ≤ 200 := by
  obtain ⟨K, hK⟩ : ∃ K : Nat, K = 2200 := ⟨_, rfl⟩
  have h1 := (Nm.bl_le_iff (unI fm x).natAbs K).1 (by rw [hK]; exact un_blA fm x)
  have h2 := (Nm.bl_le_iff (unI fm y).natAbs K).1 (by rw [hK]; exact un_blA fm y)
  refine wl_of (k := K + 1) ?_ (by omega)
  have h3 : (unI fm x + unI fm y).natAbs ≤ (unI fm x).natAbs + (unI fm y).natAbs := Int.natAbs_add_le _ _
  have h4 : ∀ P : Nat, (unI fm x).natAbs < P → (unI fm y).natAbs < P → (unI fm x + unI fm y).natAbs < P * 2 := fun P a b => by omega
  rw [Nat.pow_succ]
  exact h4 _ h1 h2
/-- A sum, of all floats. -/
def adB (fm mode x y : Int) : Int := if muO fm mode x y then (if nanB fm x || nanB fm y then nanOf fm else aB fm mode x y) else 0
def adF (fm mode x y : Int) : Int := if muO fm mode x y then (if nanB fm x || nanB fm y then fl8 (nB fm x || nB fm y) else aF fm mode x y) else 0
theorem ad_no {fm mode x y : Int} (h : muO fm mode x y = false) : adB fm mode x y = 0 ∧ adF fm mode x y = 0 := by unfold adB adF; rw [h]; exact ⟨rfl, rfl⟩
theorem addi_no2 (fm mode x y : Int) (w : World) (hT : Tab w) (x0 : 0 ≤ x) (x1 : x < 18446744073709551616) (y0 : 0 ≤ y) (y1 : y < 18446744073709551616) (ho : (modeB mode && allB fm [x, y]) = false) :
    Calls Tryz.prog 26 #[.int .i64 fm, .int .i64 mode, .int .u64 x, .int .u64 y] w fun r w' => r = .returned (.tuple #[.int .u64 0, .int .i64 0, .bool false]) ∧ Below w.heap.size w w' := by
  have CF := hid (fun w' h h' => fok_impl fm mode (some ⟨w.heap.size, 0, none⟩) 2 [x, y] w' h h' (d64_2 x0 x1 y0 y1) (by simp))
  rw [ho] at CF
  have s2 := sl64_2 w x y 29
  have bel0 : Below w.heap.size w (w.alloc (.cells #[.int .u64 x, .int .u64 y] 29)) := (by repeat (first | exact bz0 _ _ | refine bz1 ?_ | refine bz2 ?_ _ | refine bz3 ?_ _ | refine bz5 ?_ _ | refine bz6 ?_ _))
  clear ho
  go_enter Tryz.func26, Tryz.ntmps26
  go_wp2_with fail
  refine (CF.out _ (hT.below bel0) s2).mono ?_
  rintro r w1 ⟨rfl, hb1⟩
  go_wp2
  go_ret3
  exact ⟨rfl, (by repeat (first | exact bz0 _ _ | refine bz1 ?_ | refine bz2 ?_ _ | refine bz3 ?_ _ | refine bz4 ?_ hb1 | refine bz5 ?_ _ | refine bz6 ?_ _ | refine bz7 ?_ hb1))⟩
theorem addf_core (fm mode x y : Int) (u : Value) (w : World) (hE : E3 u w) (x0 : 0 ≤ x) (x1 : x < 18446744073709551616) (y0 : 0 ≤ y) (y1 : y < 18446744073709551616) (ho : (modeB mode && allB fm [x, y]) = true) (sg inf G : Bool) (L : List Int) (E : Int) (n b : Bool) (hp : TotAt u fm mode x y sg inf G L E n b) (hl : L.length ≤ 200) (hd : Nm.Dg L) (rb rf : Int) (hro : n = false → inf = false → L.length ≠ 0 → RdO fm mode G L E = true ∧ rb = RdB fm mode G L E ∧ rf = RdF fm mode G L E) (B F : Int) (hB : B = tdB (nanOf fm) (infOf fm) (sgOf fm) n inf (decide (L.length = 0)) sg rb) (hF : F = tdF n b inf (decide (L.length = 0)) rf) :
    Calls Tryz.prog 26 #[.int .i64 fm, .int .i64 mode, .int .u64 x, .int .u64 y] w fun r w' => r = .returned (.tuple #[.int .u64 B, .int .i64 F, .bool true]) ∧ Below w.heap.size w w' := by
  have CF := hid (fun w' h h' => fok_impl fm mode (some ⟨w.heap.size, 0, none⟩) 2 [x, y] w' h h' (d64_2 x0 x1 y0 y1) (by simp))
  have hfm : fmtB fm = true := by
    have h : modeB mode = true ∧ allB fm [x, y] = true := by simpa using ho
    exact ok_fmt (all2 h.2).1
  rw [ho] at CF
  have CP := hid hp
  have CT := hid (fun p c ev hk w' h1 h2 h3 => told_any fm mode hfm sg inf G L E p c u ev n b hk w' h1 h2 h3 hd hl rb rf hro B F hB hF)
  have s2 := sl64_2 w x y 29
  have bel0 : Below w.heap.size w (w.alloc (.cells #[.int .u64 x, .int .u64 y] 29)) := (by repeat (first | exact bz0 _ _ | refine bz1 ?_ | refine bz2 ?_ _ | refine bz3 ?_ _ | refine bz5 ?_ _ | refine bz6 ?_ _))
  clear ho hp hro hB hF hfm
  go_enter Tryz.func26, Tryz.ntmps26
  go_wp2_with fail
  refine (CF.out _ (hE.t.s.f.below bel0) s2).mono ?_
  rintro r w1 ⟨rfl, hb1⟩
  have bel1 := bel_go bel0 hb1
  clear s2
  go_wp2_with fail
  refine (CP.out _ (hE.below bel1).ee).mono ?_
  rintro r w2 ⟨a', c', ev, rfl, kv, ho2, hb2⟩
  have bel2 := bel_al (bel_go bel1 hb2) (.cells #[.bool sg, .bool inf, .bool G, .slice a' L.length c', .int .i64 E] 91)
  obtain ⟨x0', x1', x2', x3', x4'⟩ := (Q5.new w2 (.bool sg) (.bool inf) (.bool G) (.slice a' L.length c') (.int .i64 E) 91).cs
  have s3 := (ho2.alloc (.cells #[.bool sg, .bool inf, .bool G, .slice a' L.length c', .int .i64 E] 91)).sl
  have E2 := hE.below bel2
  go_wp2_with fail
  refine (CT.out a' c' ev kv _ E2.t E2.g s3).mono ?_
  rintro r w3 ⟨rfl, hb3⟩
  go_wp2
  go_ret3
  exact ⟨rfl, bel_go bel2 hb3⟩
theorem sum_z {fm x y : Int} (hx : okF fm x = true) (hy : okF fm y = true) (fx : finB fm x = true) (fy : finB fm y = true) (em : Int) (hem : em = min (nE fm x) (nE fm y)) (z : Int) (hz : z = nZ fm x * 2 ^ (nE fm x - em).toNat + nZ fm y * 2 ^ (nE fm y - em).toNat) :
    (unI fm x + unI fm y) = z * 2 ^ (em - unQ fm).toNat ∧ 0 ≤ em - unQ fm := by
  obtain ⟨-, -, -, ex, -, -⟩ := fin_facts hx fx
  obtain ⟨-, -, -, ey, -, -⟩ := fin_facts hy fy
  have qx := pE_q fx
  have qy := pE_q fy
  rw [← ex] at qx
  rw [← ey] at qy
  refine ⟨?_, by omega⟩
  rw [un_nZ hx fx, un_nZ hy fy, hz, Int.add_mul, Int.mul_assoc, Int.mul_assoc, ← Int.pow_add, ← Int.pow_add]
  rw [show (nE fm x - em).toNat + (em - unQ fm).toNat = (nE fm x - unQ fm).toNat by omega, show (nE fm y - em).toNat + (em - unQ fm).toNat = (nE fm y - unQ fm).toNat by omega]
theorem sum_abs {z : Int} {d : Nat} {u : Int} (h : u = z * 2 ^ d) : z.natAbs ≤ u.natAbs := by
  rw [h, Int.natAbs_mul, Int.natAbs_pow]
  exact Nat.le_mul_of_pos_right _ (Nat.pow_pos (by decide))
theorem nzs_len {fm x em : Int} (h0 : 0 ≤ nE fm x - em) (h1 : nE fm x - em ≤ 3100) : (Nm.wl (nZ fm x * 2 ^ (nE fm x - em).toNat)).length ≤ 200 := by
  obtain ⟨K, hK⟩ : ∃ K : Nat, K = 3100 := ⟨_, rfl⟩
  refine wl_of (k := 53 + K) ?_ (by omega)
  rw [Int.natAbs_mul, Int.natAbs_pow]
  have hb := (nZ_bd fm x).1
  have hb' : (nZ fm x).natAbs ≤ 9007199254740991 := by omega
  have hd : (nE fm x - em).toNat ≤ K := by omega
  have h2 : (2 : Int).natAbs ^ (nE fm x - em).toNat ≤ 2 ^ K := Nat.pow_le_pow_right (by decide) hd
  have h3 : (nZ fm x).natAbs * (2 : Int).natAbs ^ (nE fm x - em).toNat ≤ 9007199254740991 * 2 ^ K := Nat.mul_le_mul hb' h2
  have h4 : 9007199254740991 * 2 ^ K < 2 ^ 53 * 2 ^ K := Nat.mul_lt_mul_of_pos_right (by decide) (Nat.pow_pos (by decide))
  rw [Nat.pow_add]
  exact Nat.lt_of_le_of_lt h3 h4
theorem inf_eq {fm x y : Int} (hx : okF fm x = true) (hy : okF fm y = true) (x0 : 0 ≤ x) (x1 : x < 18446744073709551616) (y0 : 0 ≤ y) (y1 : y < 18446744073709551616) (ix : nI fm x = true) (iy : nI fm y = true) : (x != y) = (sigB fm x != sigB fm y) ∧ x = sgn (sgOf fm) (infOf fm) (sigB fm x) := by
  have ax : absF fm x = infOf fm := by
    have h3 := cls_inf hx x0
    have h4 : (cls fm x == 3) = true := ix
    rw [h4] at h3; simpa using h3
  have ay : absF fm y = infOf fm := by
    have h3 := cls_inf hy y0
    have h4 : (cls fm y == 3) = true := iy
    rw [h4] at h3; simpa using h3
  have ex := abs_sig hx x0 x1
  have ey := abs_sig hy y0 y1
  rw [ax] at ex
  rw [ay] at ey
  refine ⟨?_, ex⟩
  have hs : 0 < sgOf fm := by unfold sgOf; split <;> decide
  cases h1 : sigB fm x <;> cases h2 : sigB fm y <;> rw [h1] at ex <;> rw [h2] at ey <;> unfold sgn at ex ey <;> simp at ex ey ⊢ <;> omega
theorem addf_all (fm mode x y : Int) (u : Value) (w : World) (hE : E3 u w) (x0 : 0 ≤ x) (x1 : x < 18446744073709551616) (y0 : 0 ≤ y) (y1 : y < 18446744073709551616) (B F : Int) (O : Bool) (hB : B = adB fm mode x y) (hF : F = adF fm mode x y) (hO : O = muO fm mode x y) :
    Calls Tryz.prog 26 #[.int .i64 fm, .int .i64 mode, .int .u64 x, .int .u64 y] w fun r w' => r = .returned (.tuple #[.int .u64 B, .int .i64 F, .bool O]) ∧ Below w.heap.size w w' := by
  cases ho : muO fm mode x y
  · obtain ⟨e1, e2⟩ := ad_no ho
    rw [hB, hF, hO, e1, e2, ho]
    exact addi_no2 fm mode x y w hE.t.s.f x0 x1 y0 y1 ho
  obtain ⟨hm, ha⟩ : modeB mode = true ∧ allB fm [x, y] = true := by have : (modeB mode && allB fm [x, y]) = true := ho; simpa using this
  obtain ⟨hx, hy⟩ := all2 ha
  have hfm := ok_fmt hx
  have NX := numAt (u := u) hx x0 x1
  have NY := numAt (u := u) hy y0 y1
  rw [hO, ho]
  cases hn : (nanB fm x || nanB fm y)
  · obtain ⟨nx, ny⟩ : nanB fm x = false ∧ nanB fm y = false := by simpa using hn
    have hB' : B = aB fm mode x y := by rw [hB]; unfold adB; rw [ho, if_pos rfl, hn]; rfl
    have hF' : F = aF fm mode x y := by rw [hF]; unfold adF; rw [ho, if_pos rfl, hn]; rfl
    have sx : nS fm x = sigB fm x := by unfold nS; rw [nx]; rfl
    have sy : nS fm y = sigB fm y := by unfold nS; rw [ny]; rfl
    unfold aB at hB'
    unfold aF at hF'
    cases ix : nI fm x
    · rw [ix] at hB' hF' NX
      cases iy : nI fm y
      · rw [iy] at hB' hF' NY
        have fx := (nan_cases hx nx).resolve_right (by rw [ix]; decide)
        have fy := (nan_cases hy ny).resolve_right (by rw [iy]; decide)
        have b1 := nZ_bd fm x
        have b2 := nZ_bd fm y
        obtain ⟨em, hem⟩ : ∃ em, em = min (nE fm x) (nE fm y) := ⟨_, rfl⟩
        obtain ⟨z, hz⟩ : ∃ z, z = nZ fm x * 2 ^ (nE fm x - em).toNat + nZ fm y * 2 ^ (nE fm y - em).toNat := ⟨_, rfl⟩
        obtain ⟨hu, hq⟩ := sum_z hx hy fx fy em hem z hz
        have hqb := unq_bd fm
        have hul := uu_len fm x y
        have hzl : (Nm.wl z).length ≤ 200 := by
          have h1 := len_bl (x := (unI fm x + unI fm y).natAbs) (k := 200) hul
          have h2 := Nm.bl_mono (sum_abs hu)
          unfold Nm.wl; exact lim_len (k := 200) (by omega)
        have lx := nzs_len (fm := fm) (x := x) (em := em) (by omega) (by omega)
        have ly := nzs_len (fm := fm) (x := y) (em := em) (by omega) (by omega)
        have hz0 : (unI fm x + unI fm y) = 0 ↔ z = 0 := by
          rw [hu]; constructor
          · intro h
            rcases Int.mul_eq_zero.1 h with h' | h'
            · exact h'
            · exact absurd h' (Int.ne_of_gt (Int.pow_pos (by decide)))
          · intro h; rw [h, Int.zero_mul]
        have hl0 : decide ((Nm.wl z).length = 0) = decide ((unI fm x + unI fm y) = 0) := by
          rw [Bool.eq_iff_iff, decide_eq_true_eq, decide_eq_true_eq, hz0]; unfold Nm.wl; rw [Nm.lim_length_zero]; omega
        have hP := tot_num fm mode x y u _ _ _ _ _ _ _ _ _ _ _ _ _ _ NX NY hn (plN (decide ((Nm.wl z).length = 0)) (nS fm x) (nS fm y) (Nm.wn z) mode) false (Nm.wn z) (Nm.wl z) em false false
          (fun Q a1 c1 a2 c2 w hQ h1 h2 => (plus_fin (nS fm x) (Nm.wn (nZ fm x)) (Nm.wl (nZ fm x)) (nE fm x) a1 c1 (nS fm y) (Nm.wn (nZ fm y)) (Nm.wl (nZ fm y)) (nE fm y) a2 c2 mode w em hem (by omega) (by omega) h1.sl h2.sl (Nm.wn (nZ fm x * 2 ^ (nE fm x - em).toNat)) (Nm.wl (nZ fm x * 2 ^ (nE fm x - em).toNat)) (Nm.wn (nZ fm y * 2 ^ (nE fm y - em).toNat)) (Nm.wl (nZ fm y * 2 ^ (nE fm y - em).toNat)) (Nm.wn z) (Nm.wl z) _ rfl hzl
            (fun w' h => wsh_at2 _ a1 c1 _ (nE fm x - em) w' h (Nm.wl_dg _) (okB_wl (nZ_len fm x)) (by omega) (by omega) _ (shz _ _ (by omega)).symm lx)
            (fun w' h => wsh_at2 _ a2 c2 _ (nE fm y - em) w' h (Nm.wl_dg _) (okB_wl (nZ_len fm y)) (by omega) (by omega) _ (shz _ _ (by omega)).symm ly)
            (fun av cv aw cw w' h h' => add_ok av aw cv cw w' h h' (Nm.wl_dg _) (Nm.wl_dg _) (okB_wl lx) (okB_wl ly) z (by rw [Nm.wv_out, Nm.wv_out]; exact hz) (by unfold Nm.fits; exact decide_eq_true hzl))).mono fun r w' ⟨a, c, hr, ho, hb⟩ => ⟨a, c, _, hr, EK.no, ho.base hQ, hb⟩)
        have hro : z ≠ 0 → RdO fm mode (Nm.wn z) (Nm.wl z) em = true ∧ RdB fm mode (Nm.wn (unI fm x + unI fm y)) (Nm.wl (unI fm x + unI fm y)) (unQ fm) = RdB fm mode (Nm.wn z) (Nm.wl z) em ∧ RdF fm mode (Nm.wn (unI fm x + unI fm y)) (Nm.wl (unI fm x + unI fm y)) (unQ fm) = RdF fm mode (Nm.wn z) (Nm.wl z) em := by
          intro hzz
          have o1 := rdo_any (fm := fm) (mode := mode) (z := z) (e := em) hfm hm hzl (by omega) (by omega)
          have o2 := rdo_any (fm := fm) (mode := mode) (z := (unI fm x + unI fm y)) (e := unQ fm) hfm hm hul (by omega) (by omega)
          have hd : unQ fm = em - ((em - unQ fm).toNat : Nat) := by omega
          rw [hu] at o2 ⊢
          rw [hd] at o2 ⊢
          have e2 : (em - (em - ((em - unQ fm).toNat : Nat))).toNat = (em - unQ fm).toNat := by omega
          rw [e2] at o2 ⊢
          obtain ⟨q1, q2⟩ := Rd_scale fm mode z (em - unQ fm).toNat em hzz o1 o2
          exact ⟨o1, q1, q2⟩
        have hzn : (Nm.wl z).length ≠ 0 → z ≠ 0 := by
          intro h e; apply h; rw [e]; have : Nm.wl 0 = [] := Nm.lim_zero
          rw [this]; rfl
        refine addf_core fm mode x y u w hE x0 x1 y0 y1 ho _ _ _ _ _ _ _ hP hzl (Nm.wl_dg _) (RdB fm mode (Nm.wn (unI fm x + unI fm y)) (Nm.wl (unI fm x + unI fm y)) (unQ fm)) (RdF fm mode (Nm.wn (unI fm x + unI fm y)) (Nm.wl (unI fm x + unI fm y)) (unQ fm)) (fun _ _ h => hro (hzn h)) B F ?_ ?_
        · rw [hB', hl0, sx, sy]; unfold tdB plN
          by_cases h0 : (unI fm x + unI fm y) = 0
          · rw [decide_eq_true h0]; simp [h0]
          · rw [decide_eq_false h0]; simp [h0]
        · rw [hF', hl0]; unfold tdF
          by_cases h0 : (unI fm x + unI fm y) = 0
          · rw [decide_eq_true h0]; simp [h0]
          · rw [decide_eq_false h0]; simp [h0]
      · rw [iy] at hB' hF' NY
        obtain ⟨-, ey⟩ := inf_eq hy hy y0 y1 y0 y1 iy iy
        have z2 := nI_z hy iy
        have hP := tot_num fm mode x y u _ _ _ _ _ _ _ _ _ _ _ _ _ _ NX NY hn (nS fm y) true (Nm.wn (nZ fm y)) (Nm.wl (nZ fm y)) (nE fm y) false false
          (fun Q a1 c1 a2 c2 w hQ h1 h2 => (plus_inf2 (nS fm x) false (Nm.wn (nZ fm x)) (Nm.wl (nZ fm x)) (nE fm x) a1 c1 (nS fm y) true (Nm.wn (nZ fm y)) (Nm.wl (nZ fm y)) (nE fm y) a2 c2 mode w rfl rfl).mono fun r w' ⟨hr, hb⟩ => ⟨a2, c2, _, hr, EK.no, h2.below hb, hb⟩)
        refine addf_core fm mode x y u w hE x0 x1 y0 y1 ho _ _ _ _ _ _ _ hP (nZ_len fm y) (Nm.wl_dg _) 0 0 (fun _ h => by cases h) B F ?_ ?_
        · rw [hB', sy]; unfold tdB; simp; exact ey
        · rw [hF']; unfold tdF; simp
    · rw [ix] at hB' hF' NX
      obtain ⟨-, ex⟩ := inf_eq hx hx x0 x1 x0 x1 ix ix
      cases hod : (nI fm y && (x != y))
      · have hor : nI fm y = false ∨ (nS fm x != nS fm y) = false := by
          cases iy : nI fm y
          · exact .inl rfl
          · right
            rw [iy] at hod
            rw [sx, sy, ← (inf_eq hx hy x0 x1 y0 y1 ix iy).1]; simpa using hod
        have hP := tot_num fm mode x y u _ _ _ _ _ _ _ _ _ _ _ _ _ _ NX NY hn (nS fm x) true (Nm.wn (nZ fm x)) (Nm.wl (nZ fm x)) (nE fm x) false false
          (fun Q a1 c1 a2 c2 w hQ h1 h2 => (plus_inf1 (nS fm x) true (Nm.wn (nZ fm x)) (Nm.wl (nZ fm x)) (nE fm x) a1 c1 (nS fm y) (nI fm y) (Nm.wn (nZ fm y)) (Nm.wl (nZ fm y)) (nE fm y) a2 c2 mode w rfl hor).mono fun r w' ⟨hr, hb⟩ => ⟨a1, c1, _, hr, EK.no, h1.below hb, hb⟩)
        refine addf_core fm mode x y u w hE x0 x1 y0 y1 ho _ _ _ _ _ _ _ hP (nZ_len fm x) (Nm.wl_dg _) 0 0 (fun _ h => by cases h) B F ?_ ?_
        · rw [hB', Bool.true_and, hod, sx]; unfold tdB; simp; exact ex
        · rw [hF', Bool.true_and, hod]; unfold tdF; simp
      · obtain ⟨iy, hxy⟩ : nI fm y = true ∧ (x != y) = true := by rw [Bool.and_eq_true] at hod; exact hod
        rw [iy] at NY
        have hss : (nS fm x != nS fm y) = true := by rw [sx, sy, ← (inf_eq hx hy x0 x1 y0 y1 ix iy).1]; exact hxy
        have hP := tot_num fm mode x y u _ _ _ _ _ _ _ _ _ _ _ _ _ _ NX NY hn false false false [] 0 true true
          (fun Q a1 c1 a2 c2 w hQ h1 h2 => (plus_odd (nS fm x) true (Nm.wn (nZ fm x)) (Nm.wl (nZ fm x)) (nE fm x) a1 c1 (nS fm y) true (Nm.wn (nZ fm y)) (Nm.wl (nZ fm y)) (nE fm y) a2 c2 mode w rfl rfl hss).mono fun r w' ⟨s, hr, hb⟩ => ⟨none, 0, _, hr, EK.bad s, Own.nil _ _, hb⟩)
        refine addf_core fm mode x y u w hE x0 x1 y0 y1 ho _ _ _ _ _ _ _ hP (by simp) Nm.Dg.nil 0 0 (fun h => by cases h) B F ?_ ?_
        · rw [hB', Bool.true_and, hod]; rfl
        · rw [hF', Bool.true_and, hod]; rfl
  · have hB' : B = nanOf fm := by rw [hB]; unfold adB; rw [ho, if_pos rfl, hn]; rfl
    have hF' : F = fl8 (nB fm x || nB fm y) := by rw [hF]; unfold adF; rw [ho, if_pos rfl, hn]; rfl
    have hP := tot_nan fm mode x y u _ _ _ _ _ _ _ _ _ _ _ _ _ _ NX NY hn _ rfl
    refine addf_core fm mode x y u w hE x0 x1 y0 y1 ho _ _ _ _ _ _ _ hP (by simp) Nm.Dg.nil 0 0 (fun h => by cases h) B F ?_ ?_
    · rw [hB']; rfl
    · rw [hF']; unfold tdF; cases (nB fm x || nB fm y) <;> rfl
end Go.Proofs.YtbhfbaogmkgmiaaGreatDoor
