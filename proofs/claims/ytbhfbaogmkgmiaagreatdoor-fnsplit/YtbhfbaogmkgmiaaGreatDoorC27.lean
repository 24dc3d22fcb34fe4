/-
  What is needed of Facts, NB, EF, LaidE, NO, LaidF, FS, NT, FM, FO, FC.
-/
import Derived.Test.YtbhfbaogmkgmiaaGreatDoorC20
import Derived.Test.YtbhfbaogmkgmiaaGreatDoorC21
set_option maxHeartbeats 16000000
set_option maxRecDepth 1000000
namespace Go.Proofs.YtbhfbaogmkgmiaaGreatDoor
namespace Fc
theorem mapsRowed : Go.mapsRowed Tryz.prog = true := by kernel_rfl
theorem heard : Tryz.prog.stopsHeard = true := by kernel_rfl
theorem lifts : (Rows.fnModesRow.lifted == Tryz.prog.liftsFinal) = true := by kernel_rfl
theorem lifts_of (l : _) (h : l = Rows.fnModesRow.lifted) : (l == Tryz.prog.liftsFinal) = true := by
  rw [h]; exact lifts
end Fc
set_option linter.unusedVariables false
set_option linter.unusedSimpArgs false
open Go.RowKit Go.Deep
theorem Q6.cs {w : World} {b : Nat} {v0 v1 v2 v3 v4 v5 : Value} (h : Q6 w b v0 v1 v2 v3 v4 v5) : w.cell? ⟨b, 0, none⟩ = some v0 ∧ w.cell? ⟨b, 1, none⟩ = some v1 ∧ w.cell? ⟨b, 2, none⟩ = some v2 ∧ w.cell? ⟨b, 3, none⟩ = some v3 ∧ w.cell? ⟨b, 4, none⟩ = some v4 ∧ w.cell? ⟨b, 5, none⟩ = some v5 := ⟨h.c0, h.c1, h.c2, h.c3, h.c4, h.c5⟩
theorem zero_any (neg inf G : Bool) (p : Option Addr) (n cap : Nat) (e : Int) (w : World) (hn : n ≤ 9223372036854775807) :
    Calls Tryz.prog 170 #[.agg #[.bool neg, .bool inf, .bool G, .slice p n cap, .int .i64 e]] w fun r w' => r = .returned (.bool (!inf && decide (n = 0))) ∧ Below w.heap.size w w' := by
  cases inf with
  | true =>
    go_enter Tryz.func170, Tryz.ntmps170
    go_wp2
    go_ret
    exact ⟨rfl, (by repeat (first | exact bz0 _ _ | refine bz1 ?_ | refine bz2 ?_ _ | refine bz3 ?_ _ | refine bz5 ?_ _ | refine bz6 ?_ _))⟩
  | false =>
    have hb0 : ((n : Int) == 0) = decide (n = 0) := by rw [Bool.eq_iff_iff, beq_iff_eq, decide_eq_true_eq]; omega
    obtain ⟨z, hz⟩ : ∃ z, z = decide (n = 0) := ⟨_, rfl⟩
    rw [← hz] at hb0 ⊢
    clear hz
    go_enter Tryz.func170, Tryz.ntmps170
    go_wp2
    go_ret
    exact ⟨ret_bool (by simp), (by repeat (first | exact bz0 _ _ | refine bz1 ?_ | refine bz2 ?_ _ | refine bz3 ?_ _ | refine bz5 ?_ _ | refine bz6 ?_ _))⟩
/-- An error of the program: whether it is one, and whether it tells what is invalid. -/
inductive EK (u : Value) : Value → Bool → Bool → Prop
  | no : EK u .nilIface false false
  | quiet : EK u (.iface 170 (.agg #[.iface 209 u])) true false
  | bad (s : ByteArray) : EK u (.iface 170 (.agg #[.iface 172 (.agg #[.string s])])) true true
theorem inv_any {u ev : Value} {n b : Bool} (h : EK u ev n b) (w : World) (hg : EA.ErrT w) :
    Calls Tryz.prog 169 #[ev] w fun r w' => r = .returned (.bool b) ∧ Below w.heap.size w w' := by
  cases h with
  | no => exact EA.inv_nil w hg
  | quiet => exact EA.inv_quiet u w hg
  | bad s => exact EA.inv_bad s w hg
theorem cls_sixE {fm x : Int} (h : okF fm x = true) : finB fm x = true ∨ cls fm x = 3 ∨ cls fm x = 4 ∨ cls fm x = 5 := by
  have h1 := cls_rng fm x
  by_cases hf : 0 ≤ cls fm x ∧ cls fm x ≤ 2
  · exact .inl (by unfold finB; exact decide_eq_true hf)
  · have : cls fm x ≠ -1 := by
      intro e
      cases hn : nanB fm x
      · have := cls_num h hn; omega
      · have := cls_nan h hn; omega
    omega
theorem nan_ofE {fm x : Int} (h : okF fm x = true) : nanB fm x = (decide (cls fm x = 4) || decide (cls fm x = 5)) := by
  cases hn : nanB fm x
  · have := cls_num h hn
    rw [decide_eq_false (by omega), decide_eq_false (by omega)]; rfl
  · rcases cls_nan h hn with e | e
    · rw [decide_eq_true e]; rfl
    · rw [decide_eq_true e]; simp
/-- A float as a number: its sign; whether it is infinity; M with its sign; E. -/
def nS (fm x : Int) : Bool := !nanB fm x && sigB fm x
def nI (fm x : Int) : Bool := cls fm x == 3
def nZ (fm x : Int) : Int := if finB fm x then (if pS fm x then -pM fm x else pM fm x) else 0
def nE (fm x : Int) : Int := if finB fm x then pE fm x else 0
def nB (fm x : Int) : Bool := cls fm x == 5
theorem fin_facts {fm x : Int} (hx : okF fm x = true) (hf : finB fm x = true) : nS fm x = pS fm x ∧ nI fm x = false ∧ nZ fm x = (if pS fm x then -pM fm x else pM fm x) ∧ nE fm x = pE fm x ∧ nanB fm x = false ∧ nB fm x = false := by
  have hc : 0 ≤ cls fm x ∧ cls fm x ≤ 2 := by simpa [finB] using hf
  have hps : pS fm x = sigB fm x := by unfold pS; rw [hf]; rfl
  have hn : nanB fm x = false := by rw [nan_ofE hx, decide_eq_false (by omega), decide_eq_false (by omega)]; rfl
  refine ⟨by unfold nS; rw [hn, hps]; rfl, ?_, by unfold nZ; rw [hf, if_pos rfl], by unfold nE; rw [hf, if_pos rfl], hn, ?_⟩
  · unfold nI; rw [beq_eq_false_iff_ne]; omega
  · unfold nB; rw [beq_eq_false_iff_ne]; omega
theorem odd_facts {fm x : Int} (hx : okF fm x = true) (hf : finB fm x = false) : nZ fm x = 0 ∧ nE fm x = 0 := by
  unfold nZ nE; rw [hf]; exact ⟨rfl, rfl⟩
/-- A float as a number, with why it is none. -/
theorem num_all (fm x : Int) (u : Value) (w : World) (hE : EE u w) (hx : okF fm x = true) (x0 : 0 ≤ x) (x1 : x < 18446744073709551616) (sg inf G : Bool) (L : List Int) (E : Int) (n b : Bool) (h1 : sg = nS fm x) (h2 : inf = nI fm x) (h3 : G = Nm.wn (nZ fm x)) (h4 : L = Nm.wl (nZ fm x)) (h5 : E = nE fm x) (h6 : n = nanB fm x) (h7 : b = nB fm x) :
    Calls Tryz.prog 116 #[.int .i64 fm, .int .u64 x] w fun r w' => ∃ a' c' ev, r = .returned (.tuple #[.agg #[.bool sg, .bool inf, .bool G, .slice a' L.length c', .int .i64 E], ev]) ∧ EK u ev n b ∧ Own w' w.heap.size a' c' L ∧ Below w.heap.size w w' := by
  subst h1 h2 h3 h4 h5 h6 h7
  have hl0 : Nm.wl 0 = [] := Nm.lim_zero
  have hn0 : Nm.wn 0 = false := by decide
  have hnan := nan_ofE hx
  rcases cls_sixE hx with hf | h3 | h4 | h5
  · obtain ⟨e1, e2, e3, e4, e5, e6⟩ := fin_facts hx hf
    rw [e1, e2, e3, e4, e5, e6]
    exact (num_fin fm x w hE.t x0 x1 hf _ _ _ rfl rfl rfl).mono fun r w' ⟨a, c, hr, ho, hb⟩ => ⟨a, c, _, hr, EK.no, ho, hb⟩
  · have hf : finB fm x = false := by unfold finB; rw [h3]; decide
    have hnb : nanB fm x = false := by rw [hnan, h3]; decide
    obtain ⟨z1, z2⟩ := odd_facts hx hf
    have e1 : nS fm x = sigB fm x := by unfold nS; rw [hnb]; rfl
    have e2 : nI fm x = true := by unfold nI; rw [h3]; rfl
    have e3 : nB fm x = false := by unfold nB; rw [h3]; rfl
    rw [z1, z2, hl0, hn0, hnb, e1, e2, e3]
    exact (num_inf fm x w hE.t x0 x1 h3).mono fun r w' ⟨hr, hb⟩ => ⟨none, 0, _, hr, EK.no, Own.nil _ _, hb⟩
  · have hf : finB fm x = false := by unfold finB; rw [h4]; decide
    have hnb : nanB fm x = true := by rw [hnan, h4]; decide
    obtain ⟨z1, z2⟩ := odd_facts hx hf
    have e1 : nS fm x = false := by unfold nS; rw [hnb]; rfl
    have e2 : nI fm x = false := by unfold nI; rw [h4]; rfl
    have e3 : nB fm x = false := by unfold nB; rw [h4]; rfl
    rw [z1, z2, hl0, hn0, hnb, e1, e2, e3]
    exact (num_quiet fm x u w hE.t hE.q x0 x1 h4).mono fun r w' ⟨hr, hb⟩ => ⟨none, 0, _, hr, EK.quiet, Own.nil _ _, hb⟩
  · have hf : finB fm x = false := by unfold finB; rw [h5]; decide
    have hnb : nanB fm x = true := by rw [hnan, h5]; decide
    obtain ⟨z1, z2⟩ := odd_facts hx hf
    have e1 : nS fm x = false := by unfold nS; rw [hnb]; rfl
    have e2 : nI fm x = false := by unfold nI; rw [h5]; rfl
    have e3 : nB fm x = true := by unfold nB; rw [h5]; rfl
    rw [z1, z2, hl0, hn0, hnb, e1, e2, e3]
    exact (num_signal fm x w hE.t x0 x1 h5).mono fun r w' ⟨s, hr, hb⟩ => ⟨none, 0, _, hr, EK.bad s, Own.nil _ _, hb⟩
end Go.Proofs.YtbhfbaogmkgmiaaGreatDoor
namespace Go.Proofs.YtbhfbaogmkgmiaaGreatDoor
set_option linter.unusedVariables false
set_option linter.unusedSimpArgs false
namespace Ld
open Go.RowKit Go.Deep Go.ChangeShapes Go.WideShapes Go.ChangeAt Go.Joins
/-- The text of the error for a quiet NaN. -/
def qS : ByteArray := ⟨#[111, 110, 101, 32, 105, 115, 32, 97, 32, 113, 117, 105, 101, 116, 32, 78, 97, 78]⟩
noncomputable def low : Nat := (World.holding Tryz.prog default ⟨#[], #[], []⟩).heap.size
theorem tok_any {H : Type} {enc : TypeId × Value → H} {sp : Nat → Bool} {x : Value} (hx : IsIface x) (w : World) : DataW.trod enc Tryz.prog w 0 sp true 1 93 (#[x] : Array Value).toList = some (tok enc x, []) := by
  cases x <;> simp only [IsIface] at hx <;> (unfold DataW.trod; rw [Tryz.underlying93]; rfl)
end Ld
open Go.RowKit Go.Deep
theorem E3.ee {u : Value} {w : World} (h : E3 u w) : EE u w := ⟨h.t.s.f, h.g, h.q⟩
/-- What is told: nan, inf, sg: the format's; n, b: there is no number, it is invalid; i: it is infinity; z: it is 0; rb, rf: else that. -/
def tdB (nan inf sg : Int) (n i z neg : Bool) (rb : Int) : Int := if n then nan else if i then sgn sg inf neg else if z then sgn sg 0 neg else rb
def tdF (n b i z : Bool) (rf : Int) : Int := if b then 8 else if n || i || z then 0 else rf
theorem told_32 (mode : Int) (neg inf G : Bool) (L : List Int) (e : Int) (p : Option Addr) (cap : Nat) (u ev : Value) (n b : Bool) (hk : EK u ev n b) (w : World) (hT : T3 w) (hg : EA.ErrT w) (hs : Sl .u32 w (.slice p L.length cap) L) (hd : Nm.Dg L) (hl : L.length ≤ 200) (rb rf : Int) (hro : n = false → inf = false → L.length ≠ 0 → RdO 32 mode G L e = true ∧ rb = RdB 32 mode G L e ∧ rf = RdF 32 mode G L e) :
    Calls Tryz.prog 92 #[.int .i64 32, .int .i64 mode, .agg #[.bool neg, .bool inf, .bool G, .slice p L.length cap, .int .i64 e], ev] w fun r w' => r = .returned (.tuple #[.int .u64 (tdB 2143289344 2139095040 2147483648 n inf (decide (L.length = 0)) neg rb), .int .i64 (tdF n b inf (decide (L.length = 0)) rf), .bool true]) ∧ Below w.heap.size w w' := by
  have CI := hid (fun w' h => inv_any hk w' h)
  have CZ := hid (fun w' => zero_any neg inf G p L.length cap e w' (by omega))
  obtain ⟨z, hz0⟩ : ∃ z, z = decide (L.length = 0) := ⟨_, rfl⟩
  have hz1 : z = false → L.length ≠ 0 := by intro h; rw [h] at hz0; simpa using hz0.symm
  rw [← hz0] at CZ ⊢
  clear hz0
  have X := Q5.new w (.bool neg) (.bool inf) (.bool G) (.slice p L.length cap) (.int .i64 e) 91
  have hg1 : EA.ErrT (w.alloc (.cells #[.bool neg, .bool inf, .bool G, .slice p L.length cap, .int .i64 e] 91)) := EA.five hg (by repeat (first | exact bz0 _ _ | refine bz1 ?_ | refine bz2 ?_ _ | refine bz3 ?_ _ | refine bz5 ?_ _ | refine bz6 ?_ _))
  have hT1 := hT.al (.cells #[.bool neg, .bool inf, .bool G, .slice p L.length cap, .int .i64 e] 91)
  have hs1 := hs.alloc (.cells #[.bool neg, .bool inf, .bool G, .slice p L.length cap, .int .i64 e] 91)
  cases hk with
  | quiet =>
    clear hro CZ
    go_enter Tryz.func92, Tryz.ntmps92
    go_wp2_with fail
    refine (CI.out _ hg1).mono ?_
    rintro r w1 ⟨rfl, hb1⟩
    go_wp2_with fail
    refine (impl_nan32 _ (hT1.s.f.below hb1)).mono ?_
    rintro r w2 ⟨rfl, hb2⟩
    go_wp2
    go_ret3
    exact ⟨rfl, (by repeat (first | exact bz0 _ _ | refine bz1 ?_ | refine bz2 ?_ _ | refine bz3 ?_ _ | refine bz4 ?_ hb2 | refine bz4 ?_ hb1 | refine bz5 ?_ _ | refine bz6 ?_ _ | refine bz7 ?_ hb2 | refine bz7 ?_ hb1))⟩
  | bad s =>
    clear hro CZ
    go_enter Tryz.func92, Tryz.ntmps92
    go_wp2_with fail
    refine (CI.out _ hg1).mono ?_
    rintro r w1 ⟨rfl, hb1⟩
    go_wp2_with fail
    refine (impl_nan32 _ (hT1.s.f.below hb1)).mono ?_
    rintro r w2 ⟨rfl, hb2⟩
    go_wp2
    go_ret3
    exact ⟨rfl, (by repeat (first | exact bz0 _ _ | refine bz1 ?_ | refine bz2 ?_ _ | refine bz3 ?_ _ | refine bz4 ?_ hb2 | refine bz4 ?_ hb1 | refine bz5 ?_ _ | refine bz6 ?_ _ | refine bz7 ?_ hb2 | refine bz7 ?_ hb1))⟩
  | no =>
  cases inf with
  | true =>
    clear hro CZ
    go_enter Tryz.func92, Tryz.ntmps92
    go_wp2_with fail
    refine (CI.out _ hg1).mono ?_
    rintro r w1 ⟨rfl, hb1⟩
    obtain ⟨x0, x1, x2, x3, x4⟩ := (X.below hb1).cs
    go_wp2_with fail
    refine (impl_Inf32 neg _ (hT1.s.f.below hb1)).mono ?_
    rintro r w2 ⟨rfl, hb2⟩
    go_wp2
    go_ret3
    exact ⟨rfl, (by repeat (first | exact bz0 _ _ | refine bz1 ?_ | refine bz2 ?_ _ | refine bz3 ?_ _ | refine bz4 ?_ hb2 | refine bz4 ?_ hb1 | refine bz5 ?_ _ | refine bz6 ?_ _ | refine bz7 ?_ hb2 | refine bz7 ?_ hb1))⟩
  | false =>
  simp only [Bool.not_false, Bool.true_and] at CZ
  cases z with
  | true =>
    clear hro
    go_enter Tryz.func92, Tryz.ntmps92
    go_wp2_with fail
    refine (CI.out _ hg1).mono ?_
    rintro r w1 ⟨rfl, hb1⟩
    replace X := X.below hb1
    obtain ⟨x0, x1, x2, x3, x4⟩ := X.cs
    go_wp2_with fail
    refine (CZ.out _).mono ?_
    rintro r w2 ⟨rfl, hb2⟩
    clear x0 x1 x2 x3 x4
    obtain ⟨x0, x1, x2, x3, x4⟩ := (X.below hb2).cs
    go_wp2_with fail
    refine (impl_Zero32 neg _ ((hT1.s.f.below hb1).below hb2)).mono ?_
    rintro r w3 ⟨rfl, hb3⟩
    go_wp2
    go_ret3
    exact ⟨rfl, (by repeat (first | exact bz0 _ _ | refine bz1 ?_ | refine bz2 ?_ _ | refine bz3 ?_ _ | refine bz4 ?_ hb3 | refine bz4 ?_ hb2 | refine bz4 ?_ hb1 | refine bz5 ?_ _ | refine bz6 ?_ _ | refine bz7 ?_ hb3 | refine bz7 ?_ hb2 | refine bz7 ?_ hb1))⟩
  | false =>
    obtain ⟨ho, hrb, hrf⟩ := hro rfl rfl (hz1 rfl)
    have CR := hid (fun w' h h' => rounded_impl 32 mode G L e p cap w' h h' hd (by omega))
    rw [← hrb, ← hrf, ho] at CR
    clear hro hrb hrf ho hz1
    go_enter Tryz.func92, Tryz.ntmps92
    go_wp2_with fail
    refine (CI.out _ hg1).mono ?_
    rintro r w1 ⟨rfl, hb1⟩
    replace X := X.below hb1
    obtain ⟨x0, x1, x2, x3, x4⟩ := X.cs
    go_wp2_with fail
    refine (CZ.out _).mono ?_
    rintro r w2 ⟨rfl, hb2⟩
    clear x0 x1 x2 x3 x4
    obtain ⟨x0, x1, x2, x3, x4⟩ := (X.below hb2).cs
    go_wp2_with fail
    refine (CR.out _ ((hT1.below hb1).below hb2) ((hs1.below hb1).below hb2)).mono ?_
    rintro r w3 ⟨rfl, hb3⟩
    go_wp2
    go_ret3
    exact ⟨rfl, (by repeat (first | exact bz0 _ _ | refine bz1 ?_ | refine bz2 ?_ _ | refine bz3 ?_ _ | refine bz4 ?_ hb3 | refine bz4 ?_ hb2 | refine bz4 ?_ hb1 | refine bz5 ?_ _ | refine bz6 ?_ _ | refine bz7 ?_ hb3 | refine bz7 ?_ hb2 | refine bz7 ?_ hb1))⟩
theorem told_64 (mode : Int) (neg inf G : Bool) (L : List Int) (e : Int) (p : Option Addr) (cap : Nat) (u ev : Value) (n b : Bool) (hk : EK u ev n b) (w : World) (hT : T3 w) (hg : EA.ErrT w) (hs : Sl .u32 w (.slice p L.length cap) L) (hd : Nm.Dg L) (hl : L.length ≤ 200) (rb rf : Int) (hro : n = false → inf = false → L.length ≠ 0 → RdO 64 mode G L e = true ∧ rb = RdB 64 mode G L e ∧ rf = RdF 64 mode G L e) :
    Calls Tryz.prog 92 #[.int .i64 64, .int .i64 mode, .agg #[.bool neg, .bool inf, .bool G, .slice p L.length cap, .int .i64 e], ev] w fun r w' => r = .returned (.tuple #[.int .u64 (tdB 9221120237041090560 9218868437227405312 9223372036854775808 n inf (decide (L.length = 0)) neg rb), .int .i64 (tdF n b inf (decide (L.length = 0)) rf), .bool true]) ∧ Below w.heap.size w w' := by
  have CI := hid (fun w' h => inv_any hk w' h)
  have CZ := hid (fun w' => zero_any neg inf G p L.length cap e w' (by omega))
  obtain ⟨z, hz0⟩ : ∃ z, z = decide (L.length = 0) := ⟨_, rfl⟩
  have hz1 : z = false → L.length ≠ 0 := by intro h; rw [h] at hz0; simpa using hz0.symm
  rw [← hz0] at CZ ⊢
  clear hz0
  have X := Q5.new w (.bool neg) (.bool inf) (.bool G) (.slice p L.length cap) (.int .i64 e) 91
  have hg1 : EA.ErrT (w.alloc (.cells #[.bool neg, .bool inf, .bool G, .slice p L.length cap, .int .i64 e] 91)) := EA.five hg (by repeat (first | exact bz0 _ _ | refine bz1 ?_ | refine bz2 ?_ _ | refine bz3 ?_ _ | refine bz5 ?_ _ | refine bz6 ?_ _))
  have hT1 := hT.al (.cells #[.bool neg, .bool inf, .bool G, .slice p L.length cap, .int .i64 e] 91)
  have hs1 := hs.alloc (.cells #[.bool neg, .bool inf, .bool G, .slice p L.length cap, .int .i64 e] 91)
  cases hk with
  | quiet =>
    clear hro CZ
    go_enter Tryz.func92, Tryz.ntmps92
    go_wp2_with fail
    refine (CI.out _ hg1).mono ?_
    rintro r w1 ⟨rfl, hb1⟩
    go_wp2_with fail
    refine (impl_nan64 _ (hT1.s.f.below hb1)).mono ?_
    rintro r w2 ⟨rfl, hb2⟩
    go_wp2
    go_ret3
    exact ⟨rfl, (by repeat (first | exact bz0 _ _ | refine bz1 ?_ | refine bz2 ?_ _ | refine bz3 ?_ _ | refine bz4 ?_ hb2 | refine bz4 ?_ hb1 | refine bz5 ?_ _ | refine bz6 ?_ _ | refine bz7 ?_ hb2 | refine bz7 ?_ hb1))⟩
  | bad s =>
    clear hro CZ
    go_enter Tryz.func92, Tryz.ntmps92
    go_wp2_with fail
    refine (CI.out _ hg1).mono ?_
    rintro r w1 ⟨rfl, hb1⟩
    go_wp2_with fail
    refine (impl_nan64 _ (hT1.s.f.below hb1)).mono ?_
    rintro r w2 ⟨rfl, hb2⟩
    go_wp2
    go_ret3
    exact ⟨rfl, (by repeat (first | exact bz0 _ _ | refine bz1 ?_ | refine bz2 ?_ _ | refine bz3 ?_ _ | refine bz4 ?_ hb2 | refine bz4 ?_ hb1 | refine bz5 ?_ _ | refine bz6 ?_ _ | refine bz7 ?_ hb2 | refine bz7 ?_ hb1))⟩
  | no =>
  cases inf with
  | true =>
    clear hro CZ
    go_enter Tryz.func92, Tryz.ntmps92
    go_wp2_with fail
    refine (CI.out _ hg1).mono ?_
    rintro r w1 ⟨rfl, hb1⟩
    obtain ⟨x0, x1, x2, x3, x4⟩ := (X.below hb1).cs
    go_wp2_with fail
    refine (impl_Inf64 neg _ (hT1.s.f.below hb1)).mono ?_
    rintro r w2 ⟨rfl, hb2⟩
    go_wp2
    go_ret3
    exact ⟨rfl, (by repeat (first | exact bz0 _ _ | refine bz1 ?_ | refine bz2 ?_ _ | refine bz3 ?_ _ | refine bz4 ?_ hb2 | refine bz4 ?_ hb1 | refine bz5 ?_ _ | refine bz6 ?_ _ | refine bz7 ?_ hb2 | refine bz7 ?_ hb1))⟩
  | false =>
  simp only [Bool.not_false, Bool.true_and] at CZ
  cases z with
  | true =>
    clear hro
    go_enter Tryz.func92, Tryz.ntmps92
    go_wp2_with fail
    refine (CI.out _ hg1).mono ?_
    rintro r w1 ⟨rfl, hb1⟩
    replace X := X.below hb1
    obtain ⟨x0, x1, x2, x3, x4⟩ := X.cs
    go_wp2_with fail
    refine (CZ.out _).mono ?_
    rintro r w2 ⟨rfl, hb2⟩
    clear x0 x1 x2 x3 x4
    obtain ⟨x0, x1, x2, x3, x4⟩ := (X.below hb2).cs
    go_wp2_with fail
    refine (impl_Zero64 neg _ ((hT1.s.f.below hb1).below hb2)).mono ?_
    rintro r w3 ⟨rfl, hb3⟩
    go_wp2
    go_ret3
    exact ⟨rfl, (by repeat (first | exact bz0 _ _ | refine bz1 ?_ | refine bz2 ?_ _ | refine bz3 ?_ _ | refine bz4 ?_ hb3 | refine bz4 ?_ hb2 | refine bz4 ?_ hb1 | refine bz5 ?_ _ | refine bz6 ?_ _ | refine bz7 ?_ hb3 | refine bz7 ?_ hb2 | refine bz7 ?_ hb1))⟩
  | false =>
    obtain ⟨ho, hrb, hrf⟩ := hro rfl rfl (hz1 rfl)
    have CR := hid (fun w' h h' => rounded_impl 64 mode G L e p cap w' h h' hd (by omega))
    rw [← hrb, ← hrf, ho] at CR
    clear hro hrb hrf ho hz1
    go_enter Tryz.func92, Tryz.ntmps92
    go_wp2_with fail
    refine (CI.out _ hg1).mono ?_
    rintro r w1 ⟨rfl, hb1⟩
    replace X := X.below hb1
    obtain ⟨x0, x1, x2, x3, x4⟩ := X.cs
    go_wp2_with fail
    refine (CZ.out _).mono ?_
    rintro r w2 ⟨rfl, hb2⟩
    clear x0 x1 x2 x3 x4
    obtain ⟨x0, x1, x2, x3, x4⟩ := (X.below hb2).cs
    go_wp2_with fail
    refine (CR.out _ ((hT1.below hb1).below hb2) ((hs1.below hb1).below hb2)).mono ?_
    rintro r w3 ⟨rfl, hb3⟩
    go_wp2
    go_ret3
    exact ⟨rfl, (by repeat (first | exact bz0 _ _ | refine bz1 ?_ | refine bz2 ?_ _ | refine bz3 ?_ _ | refine bz4 ?_ hb3 | refine bz4 ?_ hb2 | refine bz4 ?_ hb1 | refine bz5 ?_ _ | refine bz6 ?_ _ | refine bz7 ?_ hb3 | refine bz7 ?_ hb2 | refine bz7 ?_ hb1))⟩
end Go.Proofs.YtbhfbaogmkgmiaaGreatDoor
namespace Go.Proofs.YtbhfbaogmkgmiaaGreatDoor
set_option linter.unusedVariables false
set_option linter.unusedSimpArgs false
namespace Ld
open Go.RowKit Go.Deep Go.ChangeShapes Go.WideShapes Go.ChangeAt Go.Joins
theorem all3 {W : World} (h : laidMetH Tryz.prog [("math/bits.deBruijn32tab", Rows.laid_math_bits_deBruijn32tab), ("math/bits.deBruijn64tab", Rows.laid_math_bits_deBruijn64tab), ("errors.errorType", Rows.laid_errors_errorType), ("loop.example/g00672/impl.formSizes", Rows.laid_loop_example_g00672_impl_formSizes), ("loop.example/g00672/impl.errQuiet", Rows.laid_loop_example_g00672_impl_errQuiet)] W) : EX3 W := by
  have h' : laidMet Tryz.prog [("math/bits.deBruijn32tab", Rows.laid_math_bits_deBruijn32tab), ("math/bits.deBruijn64tab", Rows.laid_math_bits_deBruijn64tab), ("loop.example/g00672/impl.formSizes", Rows.laid_loop_example_g00672_impl_formSizes), ("loop.example/g00672/impl.errQuiet", Rows.laid_loop_example_g00672_impl_errQuiet)] W ∧ handlesMet Tryz.prog [("errors.errorType", Rows.laid_errors_errorType)] W := h
  have h1 := h'.1.filter (fun x => x.1 == "loop.example/g00672/impl.formSizes")
  have h2 := h'.1.filter (fun x => x.1 == "loop.example/g00672/impl.errQuiet")
  have h3 := h'.1.filter (fun x => x.1 == "math/bits.deBruijn64tab")
  have h4 := h'.1.filter (fun x => x.1 == "math/bits.deBruijn32tab")
  obtain ⟨u, hu⟩ := quiet h2
  exact ⟨u, ⟨⟨⟨table h1, tb64 h3⟩, tb32 h4⟩, handle h'.2 (List.mem_singleton.2 rfl), hu⟩⟩
end Ld
open Go.RowKit Go.Deep
theorem fok_impl (fm mode : Int) (a : Option Addr) (cap : Nat) (xs : List Int) (w : World) (hT : Tab w) (hx : Sl .u64 w (.slice a xs.length cap) xs) (dx : D64 xs) (hl : xs.length ≤ 1048576) :
    Calls Tryz.prog 90 #[.int .i64 fm, .int .i64 mode, .slice a xs.length cap] w fun e w' => e = .returned (.bool (modeB mode && allB fm xs)) ∧ Below w.heap.size w w' := by
  have CM := hid (fun w' => mode_impl mode w')
  have CA := hid (fun w' h h' => allf_impl fm a cap xs w' h h' dx hl)
  obtain ⟨m, hm⟩ : ∃ m, m = modeB mode := ⟨_, rfl⟩
  obtain ⟨o, ho⟩ : ∃ o, o = allB fm xs := ⟨_, rfl⟩
  rw [← hm] at CM ⊢
  rw [← ho] at CA ⊢
  clear hm ho dx
  cases m with
  | false =>
    go_enter Tryz.func90, Tryz.ntmps90
    go_wp2_with fail
    refine (CM.out _).mono ?_
    rintro e w1 ⟨rfl, rfl⟩
    go_wp2
    go_ret
    exact ⟨rfl, (by repeat (first | exact bz0 _ _ | refine bz1 ?_ | refine bz2 ?_ _ | refine bz3 ?_ _ | refine bz5 ?_ _ | refine bz6 ?_ _))⟩
  | true =>
    go_enter Tryz.func90, Tryz.ntmps90
    go_wp2_with fail
    refine (CM.out _).mono ?_
    rintro e w1 ⟨rfl, rfl⟩
    go_wp2_with fail
    refine (CA.out _ hT hx).mono ?_
    rintro e w2 ⟨rfl, hb2⟩
    go_wp2
    go_ret
    exact ⟨rfl, hb2⟩
/-- The flag of what is invalid. -/
def fl8 (b : Bool) : Int := if b then 8 else 0
theorem cls_inf {fm x : Int} (hx : okF fm x = true) (x0 : 0 ≤ x) : (absF fm x == infOf fm) = (cls fm x == 3) := by
  rw [Bool.eq_iff_iff, beq_iff_eq, beq_iff_eq]
  rcases okF_cases hx with ⟨rfl, hx'⟩ | rfl
  · rw [abs32 hx', cls32 hx']
    unfold infOf clsY
    rw [if_pos rfl]
    have := Int.emod_nonneg x (show (2147483648 : Int) ≠ 0 by decide)
    repeat (first | omega | split)
  · rw [abs64, cls64]
    unfold infOf clsY
    rw [if_neg (by decide)]
    have := Int.emod_nonneg x (show (9223372036854775808 : Int) ≠ 0 by decide)
    repeat (first | omega | split)
theorem ok_fmt {fm x : Int} (h : okF fm x = true) : fmtB fm = true := by
  rcases okF_cases h with ⟨rfl, _⟩ | rfl <;> rfl
/-- What numberOf answers at a float, by letters. -/
abbrev NumAt (u : Value) (fm x : Int) (sg inf G : Bool) (L : List Int) (E : Int) (n b : Bool) : Prop := ∀ w : World, EE u w → Calls Tryz.prog 116 #[.int .i64 fm, .int .u64 x] w fun r w' => ∃ a' c' ev, r = .returned (.tuple #[.agg #[.bool sg, .bool inf, .bool G, .slice a' L.length c', .int .i64 E], ev]) ∧ EK u ev n b ∧ Own w' w.heap.size a' c' L ∧ Below w.heap.size w w'
theorem sl64_1 (w : World) (x : Int) (t : TypeId) : Sl .u64 (w.alloc (.cells #[.int .u64 x] t)) (.slice (some ⟨w.heap.size, 0, none⟩) [x].length 1) [x] :=
  ⟨_, 1, rfl, Nat.le_refl _, by unfold maxLen; omega, .inr ⟨w.heap.size, 0, rfl, fun i hi => by
    have : i = 0 := by simpa using hi
    subst this; simp⟩⟩
theorem d64_1 {x : Int} (x0 : 0 ≤ x) (x1 : x < 18446744073709551616) : D64 [x] := fun z hz => by
  simp only [List.mem_cons, List.not_mem_nil, or_false] at hz; subst hz; exact ⟨x0, x1⟩
def zF (fm x : Int) : Bool := absF fm x == 0
theorem zF_fin {fm x : Int} (hx : okF fm x = true) (hf : finB fm x = true) : zF fm x = decide (nZ fm x = 0) := by
  have hM := pM_bd fm x
  have e : (nZ fm x = 0) ↔ pM fm x = 0 := by
    rw [(fin_facts hx hf).2.2.1]; cases pS fm x <;> simp
  have h := cls_zero hx
  show (absF fm x == 0) = _
  rw [← h, Bool.eq_iff_iff, beq_iff_eq, decide_eq_true_eq, e]
  constructor
  · intro h
    have ha : (absF fm x == 0) = true := by rw [← cls_zero hx, h]; rfl
    have ha' : absF fm x = 0 := by simpa using ha
    unfold pM; rw [hf, if_pos rfl]
    rcases okF_cases hx with ⟨rfl, hx'⟩ | rfl
    · rw [abs32 hx'] at ha'
      rw [if_pos rfl, ha']; rfl
    · rw [abs64] at ha'
      rw [if_neg (by decide), ha']; rfl
  · intro h
    have hc : 0 ≤ cls fm x ∧ cls fm x ≤ 2 := by simpa [finB] using hf
    by_cases h12 : cls fm x = 1 ∨ cls fm x = 2
    · have := (pM_pos h12).2; omega
    · omega
theorem nan_cases {fm x : Int} (hx : okF fm x = true) (h : nanB fm x = false) : finB fm x = true ∨ nI fm x = true := by
  rcases cls_sixE hx with hf | h3 | h4 | h5
  · exact .inl hf
  · exact .inr (by unfold nI; rw [h3]; rfl)
  · rw [nan_ofE hx, h4] at h; simp at h
  · rw [nan_ofE hx, h5] at h; simp at h
theorem nZ_bd (fm x : Int) : (nZ fm x).natAbs < 9007199254740992 ∧ -1074 ≤ nE fm x ∧ nE fm x ≤ 2000 := by
  have h1 := pM_bd fm x
  have h2 := pE_bd fm x
  unfold nZ nE
  cases finB fm x
  · simp
  · simp; refine ⟨?_, h2⟩; cases pS fm x <;> simp <;> omega
theorem wl_of {z : Int} {k : Nat} (h : z.natAbs < 2 ^ k) (hk : k ≤ 6400) : (Nm.wl z).length ≤ 200 := by
  unfold Nm.wl; exact lim_len (k := 200) (by have := (Nm.bl_le_iff z.natAbs k).2 h; omega)
theorem nZ_len (fm x : Int) : (Nm.wl (nZ fm x)).length ≤ 200 := wl_of (k := 53) (by have := (nZ_bd fm x).1; omega) (by decide)
theorem rdo_any {fm mode : Int} {z e : Int} (hf : fmtB fm = true) (hm : modeB mode = true) (hl : (Nm.wl z).length ≤ 200) (h0 : -10000 ≤ e) (h1 : e ≤ 10000) : RdO fm mode (Nm.wn z) (Nm.wl z) e = true := by
  unfold RdO inZ; rw [hf, hm, okB_wl hl, decide_eq_true h0, decide_eq_true h1]; rfl
theorem told_any (fm mode : Int) (hfm : fmtB fm = true) (neg inf G : Bool) (L : List Int) (e : Int) (p : Option Addr) (cap : Nat) (u ev : Value) (n b : Bool) (hk : EK u ev n b) (w : World) (hT : T3 w) (hg : EA.ErrT w) (hs : Sl .u32 w (.slice p L.length cap) L) (hd : Nm.Dg L) (hl : L.length ≤ 200) (rb rf : Int) (hro : n = false → inf = false → L.length ≠ 0 → RdO fm mode G L e = true ∧ rb = RdB fm mode G L e ∧ rf = RdF fm mode G L e) (B F : Int) (hB : B = tdB (nanOf fm) (infOf fm) (sgOf fm) n inf (decide (L.length = 0)) neg rb) (hF : F = tdF n b inf (decide (L.length = 0)) rf) :
    Calls Tryz.prog 92 #[.int .i64 fm, .int .i64 mode, .agg #[.bool neg, .bool inf, .bool G, .slice p L.length cap, .int .i64 e], ev] w fun r w' => r = .returned (.tuple #[.int .u64 B, .int .i64 F, .bool true]) ∧ Below w.heap.size w w' := by
  subst hB hF
  rcases fmt_cases hfm with rfl | rfl
  · exact told_32 mode neg inf G L e p cap u ev n b hk w hT hg hs hd hl rb rf hro
  · exact told_64 mode neg inf G L e p cap u ev n b hk w hT hg hs hd hl rb rf hro
theorem numAt {u : Value} {fm x : Int} (hx : okF fm x = true) (x0 : 0 ≤ x) (x1 : x < 18446744073709551616) : NumAt u fm x (nS fm x) (nI fm x) (Nm.wn (nZ fm x)) (Nm.wl (nZ fm x)) (nE fm x) (nanB fm x) (nB fm x) :=
  fun w hE => num_all fm x u w hE hx x0 x1 _ _ _ _ _ _ _ rfl rfl rfl rfl rfl rfl rfl
theorem all1 {fm x : Int} : allB fm [x] = okF fm x := by unfold allB; simp
/-- A scaled float. -/
def scO (fm mode x n : Int) : Bool := modeB mode && okF fm x && inB n (-5000) 5000
def scB (fm mode x n : Int) : Int := if scO fm mode x n then (if nanB fm x then nanOf fm else if nI fm x || zF fm x then x else RdB fm mode (Nm.wn (nZ fm x)) (Nm.wl (nZ fm x)) (nE fm x + n)) else 0
def scF (fm mode x n : Int) : Int := if scO fm mode x n then (if nanB fm x then fl8 (nB fm x) else if nI fm x || zF fm x then 0 else RdF fm mode (Nm.wn (nZ fm x)) (Nm.wl (nZ fm x)) (nE fm x + n)) else 0
theorem sc_no {fm mode x n : Int} (h : scO fm mode x n = false) : scB fm mode x n = 0 ∧ scF fm mode x n = 0 := by unfold scB scF; rw [h]; exact ⟨rfl, rfl⟩
end Go.Proofs.YtbhfbaogmkgmiaaGreatDoor
