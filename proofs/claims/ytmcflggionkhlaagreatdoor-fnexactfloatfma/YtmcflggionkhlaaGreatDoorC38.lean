/-
  What is needed of AccF, AccM, RS, NB, EF, FH, RX.
-/
import Derived.Test.YtmcflggionkhlaaGreatDoorC21
import Derived.Test.YtmcflggionkhlaaGreatDoorC36
set_option maxHeartbeats 16000000
set_option maxRecDepth 1000000
namespace Go.Proofs.YtmcflggionkhlaaGreatDoor
set_option linter.unusedVariables false
set_option linter.unusedSimpArgs false
open Go.RowKit Go.Deep
theorem Q9.new2 (w : World) (o : Obj) (v0 v1 v2 v3 v4 v5 v6 v7 v8 : Value) (t : TypeId) : Q9 ((w.alloc o).alloc (.cells #[v0, v1, v2, v3, v4, v5, v6, v7, v8] t)) (w.heap.size + 1) v0 v1 v2 v3 v4 v5 v6 v7 v8 := by simpa using Q9.new (w.alloc o) v0 v1 v2 v3 v4 v5 v6 v7 v8 t
theorem add_ok {na nb : Bool} {xs ys : List Int} (a b : Option Addr) (cap cap' : Nat) (w : World) (hx : Sl .u32 w (.slice a xs.length cap) xs) (hy : Sl .u32 w (.slice b ys.length cap') ys) (dx : Nm.Dg xs) (dy : Nm.Dg ys) (ho : okB na xs = true) (ho' : okB nb ys = true) (x : Int) (hxv : x = Nm.wv na xs + Nm.wv nb ys) (hf : Nm.fits x = true) :
    Calls Tryz.prog 72 #[.agg #[.bool na, .slice a xs.length cap], .agg #[.bool nb, .slice b ys.length cap']] w fun e w' => ∃ a' c', e = .returned (.tuple #[.agg #[.bool (Nm.wn x), .slice a' (Nm.wl x).length c'], .bool true]) ∧ Own w' w.heap.size a' c' (Nm.wl x) ∧ Below w.heap.size w w' := by
  have h1 := (okB_nz ho).2
  have h2 := (okB_nz ho').2
  have h := wadd_impl na nb a b cap cap' xs ys w hx hy dx dy (by omega) (by omega) x hxv
  have e4 := out_fits hf
  rw [ho, ho', Bool.and_self, (op_yes _).1, (op_yes _).2.1, (op_yes _).2.2, hf, e4.1, e4.2] at h
  exact h
theorem Q9.nw2 (w : World) (o : Obj) (v0 v1 v2 v3 v4 v5 v6 v7 v8 : Value) (t : TypeId) : Q9 ((w.alloc o).alloc (.cells #[v0, v1, v2, v3, v4, v5, v6, v7, v8] t)) (w.heap.size + 1) v0 v1 v2 v3 v4 v5 v6 v7 v8 := by simpa using Q9.new (w.alloc o) v0 v1 v2 v3 v4 v5 v6 v7 v8 t
theorem Box.of_block {w w' : World} {b : Nat} {v0 v1 : Value} (h : Box w b v0 v1) (e : w'.heap[b]? = w.heap[b]?) : Box w' b v0 v1 :=
  ⟨(World.cell?_of_block (a := ⟨b, 0, none⟩) e).trans h.1, (World.cell?_of_block (a := ⟨b, 1, none⟩) e).trans h.2⟩
theorem rdU_scale {a : Nat} (h : a ≠ 0) (P : Nat) (q : Int) (mode : Int) (ng : Bool) (e : Int) (d : Nat) : rdU P q mode ng (a * 2 ^ d) (e - d) = rdU P q mode ng a e := by
  unfold rdU
  refine Nm.rU_scale h P q e d _ _ (fun hr => ?_)
  rw [Nm.rm_scale h, Nm.rh_scale h P q e d hr]
theorem rdB_scale {a : Nat} (h : a ≠ 0) (P : Nat) (q : Int) (I : Nat) (S mode : Int) (ng : Bool) (e : Int) (d : Nat) : rdB P q I S mode ng (a * 2 ^ d) (e - d) = rdB P q I S mode ng a e := by
  unfold rdB; rw [rdU_scale h]
theorem rdF_scale {a : Nat} (h : a ≠ 0) (P : Nat) (q : Int) (I : Nat) (mode : Int) (ng : Bool) (e : Int) (d : Nat) : rdF P q I mode ng (a * 2 ^ d) (e - d) = rdF P q I mode ng a e := by
  unfold rdF; rw [rdU_scale h, Nm.bl_mul h, show ((bitLen a + d : Nat) : Int) + (e - d) = (bitLen a : Int) + e by omega]
  by_cases hr : Nm.rr P q a e = 0
  · rw [if_pos hr, if_pos ((Nm.rr_scale0 h P q e d).2 hr)]
  · rw [if_neg hr, if_neg (fun c => hr ((Nm.rr_scale0 h P q e d).1 c))]
/-- Two ways to part one number are rounded alike. -/
theorem Rd_scale (fm mode : Int) (z : Int) (d : Nat) (e : Int) (hz : z ≠ 0) (h1 : RdO fm mode (Nm.wn z) (Nm.wl z) e = true) (h2 : RdO fm mode (Nm.wn (z * 2 ^ d)) (Nm.wl (z * 2 ^ d)) (e - d) = true) :
    RdB fm mode (Nm.wn (z * 2 ^ d)) (Nm.wl (z * 2 ^ d)) (e - d) = RdB fm mode (Nm.wn z) (Nm.wl z) e ∧ RdF fm mode (Nm.wn (z * 2 ^ d)) (Nm.wl (z * 2 ^ d)) (e - d) = RdF fm mode (Nm.wn z) (Nm.wl z) e := by
  have hp : (0 : Int) < 2 ^ d := Int.pow_pos (by decide)
  have hn : Nm.wn (z * 2 ^ d) = Nm.wn z := by
    unfold Nm.wn
    rw [Bool.eq_iff_iff, decide_eq_true_eq, decide_eq_true_eq]
    constructor
    · intro h
      refine Int.not_le.1 (fun h0 => ?_)
      have := Int.mul_nonneg h0 (Int.le_of_lt hp); omega
    · intro h; exact Int.mul_neg_of_neg_of_pos h hp
  have ha : (z * 2 ^ d).natAbs = z.natAbs * 2 ^ d := by rw [Int.natAbs_mul, Int.natAbs_pow]; rfl
  have ha0 : z.natAbs ≠ 0 := by omega
  have hv1 : (Nm.val (Nm.wl z)).toNat = z.natAbs := by rw [Nm.val_wl]; simp
  have hv2 : (Nm.val (Nm.wl (z * 2 ^ d))).toNat = z.natAbs * 2 ^ d := by rw [Nm.val_wl, ha]; exact Int.toNat_natCast _
  have hl1 : (Nm.wl z).length ≠ 0 := by unfold Nm.wl; rw [Ne, Nm.lim_length_zero]; exact ha0
  have hl2 : (Nm.wl (z * 2 ^ d)).length ≠ 0 := by
    unfold Nm.wl; rw [Ne, Nm.lim_length_zero, ha]
    intro h
    rcases Nat.mul_eq_zero.1 h with h' | h'
    · exact ha0 h'
    · have := Nm.pw_pos2 d; omega
  rw [hn] at h2 ⊢
  unfold RdB RdF
  rw [h1, h2, if_pos rfl, if_pos rfl, if_pos rfl, if_pos rfl, if_neg hl1, if_neg hl1, if_neg hl2, if_neg hl2, hv1, hv2]
  by_cases h32 : fm = 32
  · rw [if_pos h32, if_pos h32, if_pos h32, if_pos h32]
    exact ⟨rdB_scale ha0 _ _ _ _ _ _ _ _, rdF_scale ha0 _ _ _ _ _ _ _⟩
  · rw [if_neg h32, if_neg h32, if_neg h32, if_neg h32]
    exact ⟨rdB_scale ha0 _ _ _ _ _ _ _ _, rdF_scale ha0 _ _ _ _ _ _ _⟩
/-- A box of 6 cells that may be written. -/
structure Q6 (w : World) (b : Nat) (v0 v1 v2 v3 v4 v5 : Value) : Prop where
  c0 : w.cell? ⟨b, 0, none⟩ = some v0
  c1 : w.cell? ⟨b, 1, none⟩ = some v1
  c2 : w.cell? ⟨b, 2, none⟩ = some v2
  c3 : w.cell? ⟨b, 3, none⟩ = some v3
  c4 : w.cell? ⟨b, 4, none⟩ = some v4
  c5 : w.cell? ⟨b, 5, none⟩ = some v5
  f0 : w.frozen? ⟨b, 0, none⟩ = false
  f1 : w.frozen? ⟨b, 1, none⟩ = false
  f2 : w.frozen? ⟨b, 2, none⟩ = false
  f3 : w.frozen? ⟨b, 3, none⟩ = false
  f4 : w.frozen? ⟨b, 4, none⟩ = false
  f5 : w.frozen? ⟨b, 5, none⟩ = false
theorem Q6.lt {w : World} {b : Nat} {v0 v1 v2 v3 v4 v5 : Value} (h : Q6 w b v0 v1 v2 v3 v4 v5) : b < w.heap.size := World.block_lt_of_cell? w _ h.c0
theorem Q6.of_block {w w' : World} {b : Nat} {v0 v1 v2 v3 v4 v5 : Value} (h : Q6 w b v0 v1 v2 v3 v4 v5) (e : w'.heap[b]? = w.heap[b]?) : Q6 w' b v0 v1 v2 v3 v4 v5 :=
  ⟨(World.cell?_of_block (a := ⟨b, 0, none⟩) e).trans h.c0, (World.cell?_of_block (a := ⟨b, 1, none⟩) e).trans h.c1, (World.cell?_of_block (a := ⟨b, 2, none⟩) e).trans h.c2, (World.cell?_of_block (a := ⟨b, 3, none⟩) e).trans h.c3, (World.cell?_of_block (a := ⟨b, 4, none⟩) e).trans h.c4, (World.cell?_of_block (a := ⟨b, 5, none⟩) e).trans h.c5, (World.frozen?_of_block (a := ⟨b, 0, none⟩) e).trans h.f0, (World.frozen?_of_block (a := ⟨b, 1, none⟩) e).trans h.f1, (World.frozen?_of_block (a := ⟨b, 2, none⟩) e).trans h.f2, (World.frozen?_of_block (a := ⟨b, 3, none⟩) e).trans h.f3, (World.frozen?_of_block (a := ⟨b, 4, none⟩) e).trans h.f4, (World.frozen?_of_block (a := ⟨b, 5, none⟩) e).trans h.f5⟩
theorem Q6.below {w w' : World} {b : Nat} {v0 v1 v2 v3 v4 v5 : Value} (h : Q6 w b v0 v1 v2 v3 v4 v5) (hb : Below w.heap.size w w') : Q6 w' b v0 v1 v2 v3 v4 v5 := h.of_block (hb.block b h.lt)
theorem Q6.new (w : World) (v0 v1 v2 v3 v4 v5 : Value) (t : TypeId) : Q6 (w.alloc (.cells #[v0, v1, v2, v3, v4, v5] t)) w.heap.size v0 v1 v2 v3 v4 v5 := ⟨by simp, by simp, by simp, by simp, by simp, by simp, by simp, by simp, by simp, by simp, by simp, by simp⟩
theorem Q6.alloc {w : World} {b : Nat} {v0 v1 v2 v3 v4 v5 : Value} (h : Q6 w b v0 v1 v2 v3 v4 v5) (o : Obj) : Q6 (w.alloc o) b v0 v1 v2 v3 v4 v5 := h.below ((Below.refl _ _).alloc (Nat.le_refl _) _)
theorem Q6.drew {w : World} {b : Nat} {v0 v1 v2 v3 v4 v5 : Value} (h : Q6 w b v0 v1 v2 v3 v4 v5) : Q6 w.drew b v0 v1 v2 v3 v4 v5 := ⟨h.c0, h.c1, h.c2, h.c3, h.c4, h.c5, h.f0, h.f1, h.f2, h.f3, h.f4, h.f5⟩
theorem Q6.cs {w : World} {b : Nat} {v0 v1 v2 v3 v4 v5 : Value} (h : Q6 w b v0 v1 v2 v3 v4 v5) : w.cell? ⟨b, 0, none⟩ = some v0 ∧ w.cell? ⟨b, 1, none⟩ = some v1 ∧ w.cell? ⟨b, 2, none⟩ = some v2 ∧ w.cell? ⟨b, 3, none⟩ = some v3 ∧ w.cell? ⟨b, 4, none⟩ = some v4 ∧ w.cell? ⟨b, 5, none⟩ = some v5 := ⟨h.c0, h.c1, h.c2, h.c3, h.c4, h.c5⟩
theorem Q6.nw2 (w : World) (o : Obj) (v0 v1 v2 v3 v4 v5 : Value) (t : TypeId) : Q6 ((w.alloc o).alloc (.cells #[v0, v1, v2, v3, v4, v5] t)) (w.heap.size + 1) v0 v1 v2 v3 v4 v5 := by simpa using Q6.new (w.alloc o) v0 v1 v2 v3 v4 v5 t
theorem zero_any (neg inf G : Bool) (p : Option Addr) (n cap : Nat) (e : Int) (w : World) (hn : n ≤ 9223372036854775807) :
    Calls Tryz.prog 162 #[.agg #[.bool neg, .bool inf, .bool G, .slice p n cap, .int .i64 e]] w fun r w' => r = .returned (.bool (!inf && decide (n = 0))) ∧ Below w.heap.size w w' := by
  cases inf with
  | true =>
    go_enter Tryz.func162, Tryz.ntmps162
    go_wp2
    go_ret
    exact ⟨rfl, (by repeat (first | exact bz0 _ _ | refine bz1 ?_ | refine bz2 ?_ _ | refine bz3 ?_ _ | refine bz5 ?_ _ | refine bz6 ?_ _))⟩
  | false =>
    have hb0 : ((n : Int) == 0) = decide (n = 0) := by rw [Bool.eq_iff_iff, beq_iff_eq, decide_eq_true_eq]; omega
    obtain ⟨z, hz⟩ : ∃ z, z = decide (n = 0) := ⟨_, rfl⟩
    rw [← hz] at hb0 ⊢
    clear hz
    go_enter Tryz.func162, Tryz.ntmps162
    go_wp2
    go_ret
    exact ⟨ret_bool (by simp), (by repeat (first | exact bz0 _ _ | refine bz1 ?_ | refine bz2 ?_ _ | refine bz3 ?_ _ | refine bz5 ?_ _ | refine bz6 ?_ _))⟩
/-- What the program's variables hold. -/
structure EE (u : Value) (w : World) : Prop where
  t : Tab w
  g : EA.ErrT w
  q : ErrQ w u
def EX (w : World) : Prop := ∃ u, EE u w
theorem EE.below {u : Value} {w w' : World} (h : EE u w) (hb : Below w.heap.size w w') : EE u w' := ⟨h.t.below hb, EA.five h.g hb, (hb.cell (p := ⟨1, 0, none⟩) (World.block_lt_of_cell? w _ h.q)).trans h.q⟩
theorem EX.below {w w' : World} (h : EX w) (hb : Below w.heap.size w w') : EX w' := by obtain ⟨u, h⟩ := h; exact ⟨u, h.below hb⟩
/-- An error of the program: whether it is one, and whether it tells what is invalid. -/
inductive EK (u : Value) : Value → Bool → Bool → Prop
  | no : EK u .nilIface false false
  | quiet : EK u (.iface 168 (.agg #[.iface 247 u])) true false
  | bad (s : ByteArray) : EK u (.iface 168 (.agg #[.iface 170 (.agg #[.string s])])) true true
theorem inv_any {u ev : Value} {n b : Bool} (h : EK u ev n b) (w : World) (hg : EA.ErrT w) :
    Calls Tryz.prog 161 #[ev] w fun r w' => r = .returned (.bool b) ∧ Below w.heap.size w w' := by
  cases h with
  | no => exact EA.inv_nil w hg
  | quiet => exact EA.inv_quiet u w hg
  | bad s => exact EA.inv_bad s w hg
theorem worse_any {u a b : Value} {n1 b1 n2 b2 : Bool} (ha : EK u a n1 b1) (hb : EK u b n2 b2) (w : World) (hg : EA.ErrT w) :
    Calls Tryz.prog 86 #[a, b] w fun r w' => ∃ ev, r = .returned ev ∧ EK u ev (n1 || n2) (b1 || b2) ∧ Below w.heap.size w w' := by
  have CI := hid (fun w' h => inv_any hb w' h)
  have HB := hid hb
  clear hb
  cases ha with
  | no =>
    go_enter Tryz.func86, Tryz.ntmps86
    go_wp2
    go_ret
    exact ⟨b, rfl, by simpa using HB.out, (by repeat (first | exact bz0 _ _ | refine bz1 ?_ | refine bz2 ?_ _ | refine bz3 ?_ _ | refine bz5 ?_ _ | refine bz6 ?_ _))⟩
  | quiet =>
    cases b2
    · have HE : Hid (EK u (.iface 168 (.agg #[.iface 247 u])) (true || n2) (false || false)) := hid EK.quiet
      go_enter Tryz.func86, Tryz.ntmps86
      go_wp2_with fail
      refine (CI.out _ hg).mono ?_
      rintro r w1 ⟨rfl, hb1⟩
      go_wp2
      go_ret
      exact ⟨_, rfl, HE.out, (by repeat (first | exact bz0 _ _ | refine bz1 ?_ | refine bz2 ?_ _ | refine bz3 ?_ _ | refine bz4 ?_ hb1 | refine bz5 ?_ _ | refine bz6 ?_ _ | refine bz7 ?_ hb1))⟩
    · have hn : n2 = true := by have h := HB.out; cases h; rfl
      subst hn
      go_enter Tryz.func86, Tryz.ntmps86
      go_wp2_with fail
      refine (CI.out _ hg).mono ?_
      rintro r w1 ⟨rfl, hb1⟩
      go_wp2
      go_ret
      exact ⟨b, rfl, HB.out, (by repeat (first | exact bz0 _ _ | refine bz1 ?_ | refine bz2 ?_ _ | refine bz3 ?_ _ | refine bz4 ?_ hb1 | refine bz5 ?_ _ | refine bz6 ?_ _ | refine bz7 ?_ hb1))⟩
  | bad s =>
    cases b2
    · have HE : Hid (EK u (.iface 168 (.agg #[.iface 170 (.agg #[.string s])])) (true || n2) (true || false)) := hid (EK.bad s)
      go_enter Tryz.func86, Tryz.ntmps86
      go_wp2_with fail
      refine (CI.out _ hg).mono ?_
      rintro r w1 ⟨rfl, hb1⟩
      go_wp2
      go_ret
      exact ⟨_, rfl, HE.out, (by repeat (first | exact bz0 _ _ | refine bz1 ?_ | refine bz2 ?_ _ | refine bz3 ?_ _ | refine bz4 ?_ hb1 | refine bz5 ?_ _ | refine bz6 ?_ _ | refine bz7 ?_ hb1))⟩
    · have hn : n2 = true := by have h := HB.out; cases h; rfl
      subst hn
      go_enter Tryz.func86, Tryz.ntmps86
      go_wp2_with fail
      refine (CI.out _ hg).mono ?_
      rintro r w1 ⟨rfl, hb1⟩
      go_wp2
      go_ret
      exact ⟨b, rfl, HB.out, (by repeat (first | exact bz0 _ _ | refine bz1 ?_ | refine bz2 ?_ _ | refine bz3 ?_ _ | refine bz4 ?_ hb1 | refine bz5 ?_ _ | refine bz6 ?_ _ | refine bz7 ?_ hb1))⟩
theorem cls_sixE {fm x : Int} (h : okF fm x = true) : finB fm x = true ∨ cls fm x = 3 ∨ cls fm x = 4 ∨ cls fm x = 5 := by
  have h1 := cls_rng fm x
  by_cases hf : 0 ≤ cls fm x ∧ cls fm x ≤ 2
  · exact .inl (by unfold finB; exact decide_eq_true hf)
  · have : cls fm x ≠ -1 := by
      intro e
      cases hn : nanB fm x
      · have := cls_num h hn; omega
      · have := cls_nan h hn; omega
    omega
theorem nan_ofE {fm x : Int} (h : okF fm x = true) : nanB fm x = (decide (cls fm x = 4) || decide (cls fm x = 5)) := by
  cases hn : nanB fm x
  · have := cls_num h hn
    rw [decide_eq_false (by omega), decide_eq_false (by omega)]; rfl
  · rcases cls_nan h hn with e | e
    · rw [decide_eq_true e]; rfl
    · rw [decide_eq_true e]; simp
/-- A float as a number: its sign; whether it is infinity; M with its sign; E. -/
def nS (fm x : Int) : Bool := !nanB fm x && sigB fm x
def nI (fm x : Int) : Bool := cls fm x == 3
def nZ (fm x : Int) : Int := if finB fm x then (if pS fm x then -pM fm x else pM fm x) else 0
def nE (fm x : Int) : Int := if finB fm x then pE fm x else 0
def nB (fm x : Int) : Bool := cls fm x == 5
theorem fin_facts {fm x : Int} (hx : okF fm x = true) (hf : finB fm x = true) : nS fm x = pS fm x ∧ nI fm x = false ∧ nZ fm x = (if pS fm x then -pM fm x else pM fm x) ∧ nE fm x = pE fm x ∧ nanB fm x = false ∧ nB fm x = false := by
  have hc : 0 ≤ cls fm x ∧ cls fm x ≤ 2 := by simpa [finB] using hf
  have hps : pS fm x = sigB fm x := by unfold pS; rw [hf]; rfl
  have hn : nanB fm x = false := by rw [nan_ofE hx, decide_eq_false (by omega), decide_eq_false (by omega)]; rfl
  refine ⟨by unfold nS; rw [hn, hps]; rfl, ?_, by unfold nZ; rw [hf, if_pos rfl], by unfold nE; rw [hf, if_pos rfl], hn, ?_⟩
  · unfold nI; rw [beq_eq_false_iff_ne]; omega
  · unfold nB; rw [beq_eq_false_iff_ne]; omega
theorem odd_facts {fm x : Int} (hx : okF fm x = true) (hf : finB fm x = false) : nZ fm x = 0 ∧ nE fm x = 0 := by
  unfold nZ nE; rw [hf]; exact ⟨rfl, rfl⟩
/-- A float as a number, with why it is none. -/
theorem num_all (fm x : Int) (u : Value) (w : World) (hE : EE u w) (hx : okF fm x = true) (x0 : 0 ≤ x) (x1 : x < 18446744073709551616) (sg inf G : Bool) (L : List Int) (E : Int) (n b : Bool) (h1 : sg = nS fm x) (h2 : inf = nI fm x) (h3 : G = Nm.wn (nZ fm x)) (h4 : L = Nm.wl (nZ fm x)) (h5 : E = nE fm x) (h6 : n = nanB fm x) (h7 : b = nB fm x) :
    Calls Tryz.prog 85 #[.int .i64 fm, .int .u64 x] w fun r w' => ∃ a' c' ev, r = .returned (.tuple #[.agg #[.bool sg, .bool inf, .bool G, .slice a' L.length c', .int .i64 E], ev]) ∧ EK u ev n b ∧ Own w' w.heap.size a' c' L ∧ Below w.heap.size w w' := by
  subst h1 h2 h3 h4 h5 h6 h7
  have hl0 : Nm.wl 0 = [] := Nm.lim_zero
  have hn0 : Nm.wn 0 = false := by decide
  have hnan := nan_ofE hx
  rcases cls_sixE hx with hf | h3 | h4 | h5
  · obtain ⟨e1, e2, e3, e4, e5, e6⟩ := fin_facts hx hf
    rw [e1, e2, e3, e4, e5, e6]
    exact (num_fin fm x w hE.t x0 x1 hf _ _ _ rfl rfl rfl).mono fun r w' ⟨a, c, hr, ho, hb⟩ => ⟨a, c, _, hr, EK.no, ho, hb⟩
  · have hf : finB fm x = false := by unfold finB; rw [h3]; decide
    have hnb : nanB fm x = false := by rw [hnan, h3]; decide
    obtain ⟨z1, z2⟩ := odd_facts hx hf
    have e1 : nS fm x = sigB fm x := by unfold nS; rw [hnb]; rfl
    have e2 : nI fm x = true := by unfold nI; rw [h3]; rfl
    have e3 : nB fm x = false := by unfold nB; rw [h3]; rfl
    rw [z1, z2, hl0, hn0, hnb, e1, e2, e3]
    exact (num_inf fm x w hE.t x0 x1 h3).mono fun r w' ⟨hr, hb⟩ => ⟨none, 0, _, hr, EK.no, Own.nil _ _, hb⟩
  · have hf : finB fm x = false := by unfold finB; rw [h4]; decide
    have hnb : nanB fm x = true := by rw [hnan, h4]; decide
    obtain ⟨z1, z2⟩ := odd_facts hx hf
    have e1 : nS fm x = false := by unfold nS; rw [hnb]; rfl
    have e2 : nI fm x = false := by unfold nI; rw [h4]; rfl
    have e3 : nB fm x = false := by unfold nB; rw [h4]; rfl
    rw [z1, z2, hl0, hn0, hnb, e1, e2, e3]
    exact (num_quiet fm x u w hE.t hE.q x0 x1 h4).mono fun r w' ⟨hr, hb⟩ => ⟨none, 0, _, hr, EK.quiet, Own.nil _ _, hb⟩
  · have hf : finB fm x = false := by unfold finB; rw [h5]; decide
    have hnb : nanB fm x = true := by rw [hnan, h5]; decide
    obtain ⟨z1, z2⟩ := odd_facts hx hf
    have e1 : nS fm x = false := by unfold nS; rw [hnb]; rfl
    have e2 : nI fm x = false := by unfold nI; rw [h5]; rfl
    have e3 : nB fm x = true := by unfold nB; rw [h5]; rfl
    rw [z1, z2, hl0, hn0, hnb, e1, e2, e3]
    exact (num_signal fm x w hE.t x0 x1 h5).mono fun r w' ⟨s, hr, hb⟩ => ⟨none, 0, _, hr, EK.bad s, Own.nil _ _, hb⟩
namespace Fd
/-- Six numbers in a row. -/
def Row6 (S : Int) (w : World) (B : Nat) : Prop := ∀ j, j < 6 → ∃ d : Int, w.cell? ⟨B, j, none⟩ = some (.int .u64 d) ∧ 0 ≤ d ∧ d < S
theorem Row6.new {S v0 v1 v2 v3 v4 v5 : Int} {t : TypeId} (w : World) (h : (0 ≤ v0 ∧ v0 < S) ∧ (0 ≤ v1 ∧ v1 < S) ∧ (0 ≤ v2 ∧ v2 < S) ∧ (0 ≤ v3 ∧ v3 < S) ∧ (0 ≤ v4 ∧ v4 < S) ∧ (0 ≤ v5 ∧ v5 < S)) : Row6 S (w.alloc (.cells #[.int .u64 v0, .int .u64 v1, .int .u64 v2, .int .u64 v3, .int .u64 v4, .int .u64 v5] t)) w.heap.size := fun k hk => by
  have q := World.cell?_alloc_new w #[.int .u64 v0, .int .u64 v1, .int .u64 v2, .int .u64 v3, .int .u64 v4, .int .u64 v5] t k
  rw [q]
  obtain ⟨h0, h1, h2, h3, h4, h5⟩ := h
  rcases (show k = 0 ∨ k = 1 ∨ k = 2 ∨ k = 3 ∨ k = 4 ∨ k = 5 by omega) with rfl | rfl | rfl | rfl | rfl | rfl
  · exact ⟨v0, rfl, h0⟩
  · exact ⟨v1, rfl, h1⟩
  · exact ⟨v2, rfl, h2⟩
  · exact ⟨v3, rfl, h3⟩
  · exact ⟨v4, rfl, h4⟩
  · exact ⟨v5, rfl, h5⟩
theorem natAbs_pow (z : Int) (n : Nat) : (z * 2 ^ n).natAbs = z.natAbs * 2 ^ n := by
  rw [Int.natAbs_mul, Int.natAbs_pow]; rfl
end Fd
end Go.Proofs.YtmcflggionkhlaaGreatDoor
