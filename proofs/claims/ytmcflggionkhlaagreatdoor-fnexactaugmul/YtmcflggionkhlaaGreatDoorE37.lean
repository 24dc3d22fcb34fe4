/-
  What is needed of DrawC, AccF, AccM, TP, AE, EF.
-/
import Derived.Test.YtmcflggionkhlaaGreatDoorE23
import Derived.Test.YtmcflggionkhlaaGreatDoorE34
import Derived.Test.YtmcflggionkhlaaGreatDoorE35
set_option maxHeartbeats 16000000
set_option maxRecDepth 1000000
namespace Go.Proofs.YtmcflggionkhlaaGreatDoor
set_option linter.unusedVariables false
set_option linter.unusedSimpArgs false
open Go.RowKit Go.Deep
/-- Only the reader's block, one row, and what is new has turned. -/
structure Gr2 (w w' : World) (rb : Nat) (a : Option Addr) : Prop where
  os : w'.os = w.os
  tape : w'.tape = w.tape
  output : w'.output = w.output
  size : w.heap.size ≤ w'.heap.size
  block : ∀ k, k < w.heap.size → k ≠ rb → (∀ g, a = some ⟨g, 0, none⟩ → k ≠ g) → w'.heap[k]? = w.heap[k]?
theorem Gr2.of {w w' : World} {rb : Nat} {a : Option Addr} (h : w.grownBy w' (some rb)) : Gr2 w w' rb a := ⟨h.os, h.tape, h.output, h.size, fun k hk hne _ => h.block k hk (by intro e; exact hne (Option.some.inj e))⟩
theorem Gr2.trans {w w1 w2 : World} {rb : Nat} {a : Option Addr} (h : Gr2 w w1 rb a) (k : Gr2 w1 w2 rb a) : Gr2 w w2 rb a :=
  ⟨k.os.trans h.os, k.tape.trans h.tape, k.output.trans h.output, Nat.le_trans h.size k.size, fun i hi h1 h2 => (k.block i (Nat.lt_of_lt_of_le hi h.size) h1 h2).trans (h.block i hi h1 h2)⟩
theorem Gr2.below {w w1 w2 : World} {rb : Nat} {a : Option Addr} (h : Gr2 w w1 rb a) (hb : Below w1.heap.size w1 w2) : Gr2 w w2 rb a := h.trans (Gr2.of (grown_below hb _))
/-- .. and a row that is new, or is that one. -/
theorem Gr2.row {w w1 w2 : World} {rb : Nat} {a a' : Option Addr} {n c : Nat} (h : Gr2 w w1 rb a) (hg : w1.grownBy w2 (Value.slice a' n c).ownBlock) (hn : ∀ g, a' = some ⟨g, 0, none⟩ → a = some ⟨g, 0, none⟩ ∨ w.heap.size ≤ g) (hf : ∀ x, a' = some x → ∃ g, x = ⟨g, 0, none⟩) : Gr2 w w2 rb a :=
  ⟨hg.os.trans h.os, hg.tape.trans h.tape, hg.output.trans h.output, Nat.le_trans h.size hg.size, fun i hi h1 h2 => (hg.block i (Nat.lt_of_lt_of_le hi h.size) (by
    intro e
    cases a' with
    | none => cases e
    | some x =>
      obtain ⟨g, rfl⟩ := hf x rfl
      have e' : i = g := Option.some.inj e
      subst e'
      rcases hn i rfl with h3 | h3
      · exact h2 i h3 rfl
      · omega)).trans (h.block i hi h1 h2)⟩
theorem Gr2.box {w w' : World} {rb b : Nat} {a : Option Addr} {v0 v1 : Value} (h : Box w b v0 v1) (hg : Gr2 w w' rb a) (h1 : b ≠ rb) (h2 : ∀ g, a = some ⟨g, 0, none⟩ → b ≠ g) : Box w' b v0 v1 := by
  have e := hg.block b (World.block_lt_of_cell? w _ h.1) h1 h2
  exact ⟨(World.cell?_of_block (a := ⟨b, 0, none⟩) e).trans h.1, (World.cell?_of_block (a := ⟨b, 1, none⟩) e).trans h.2⟩
theorem Gr2.own {w w' : World} {rb B : Nat} {a o : Option Addr} {c : Nat} {zs : List Int} (h : Own w B o c zs) (hg : Gr2 w w' rb a) (h1 : ∀ g, o = some ⟨g, 0, none⟩ → g ≠ rb ∧ ∀ g', a = some ⟨g', 0, none⟩ → g ≠ g') : Own w' B o c zs := by
  refine ⟨h.1, ?_⟩
  rcases h.2 with h2 | ⟨g, cap', cur, e1, e2, e3, e4⟩
  · exact .inl h2
  · have hg' : o = some ⟨g, 0, none⟩ := by simpa using (Value.slice.inj e1).1
    refine .inr ⟨g, cap', cur, e1, e2, ?_, e4⟩
    rw [hg.block g (Array.getElem?_eq_some_iff.1 e3).1 (h1 g hg').1 (h1 g hg').2]; exact e3
theorem own_form {w : World} {B : Nat} {a : Option Addr} {c : Nat} {zs : List Int} (h : Own w B a c zs) : ∀ x, a = some x → ∃ g, x = ⟨g, 0, none⟩ := by
  intro x hx
  rcases h.block with ⟨e, _⟩ | ⟨g, e, _⟩
  · rw [e] at hx; cases hx
  · rw [e] at hx; cases hx; exact ⟨g, rfl⟩
theorem own_at {w : World} {B : Nat} {a : Option Addr} {c : Nat} {zs : List Int} (h : Own w B a c zs) : ∀ g, a = some ⟨g, 0, none⟩ → B ≤ g ∧ g < w.heap.size := by
  intro g hg
  rcases h.block with ⟨e, _⟩ | ⟨g', e, h1, h2⟩
  · rw [e] at hg; cases hg
  · rw [e] at hg; cases hg; exact ⟨h1, h2⟩
theorem RD.row {w w' : World} {rb B : Nat} {ca : Option Addr} {cc : Nat} {cs : List Int} {a : Option Addr} {n c : Nat} {zs : List Int} (h : RD w rb ca cc cs) (ho : Own w B a c zs) (hB : rb < B) (hg : w.grownBy w' (Value.slice a n c).ownBlock) : RD w' rb ca cc cs := by
  cases a with
  | none => exact h.below ⟨hg.os, hg.tape, hg.output, hg.size, fun k hk => hg.block k hk (by intro e; cases e)⟩
  | some x =>
    obtain ⟨g, rfl⟩ := own_form ho x rfl
    exact h.grown (g := g) hg (by have := (own_at ho g rfl).1; omega)
theorem set_grown (w : World) (p : Addr) (v : Value) : w.grownBy (w.setCell p v) (some p.block) :=
  ⟨by simp [World.setCell], by simp [World.setCell], by simp [World.setCell], by simp [World.setCell], fun k hk hne => Below.heap_setCell w p v k (by intro e; exact hne (by rw [e]))⟩
theorem Gr2.set {w w1 : World} {rb : Nat} {a : Option Addr} (h : Gr2 w w1 rb a) {p : Addr} (hp : w.heap.size ≤ p.block) (v : Value) : Gr2 w (w1.setCell p v) rb a := by
  have hg := set_grown w1 p v
  exact ⟨hg.os.trans h.os, hg.tape.trans h.tape, hg.output.trans h.output, Nat.le_trans h.size hg.size, fun i hi h1 h2 => (hg.block i (Nat.lt_of_lt_of_le hi h.size) (by intro e; have : i = p.block := Option.some.inj e; omega)).trans (h.block i hi h1 h2)⟩
theorem RD.other {w : World} {rb : Nat} {ca : Option Addr} {cc : Nat} {cs : List Int} (h : RD w rb ca cc cs) {p : Addr} (hp : rb < p.block) (v : Value) : RD (w.setCell p v) rb ca cc cs := h.grown (set_grown w p v) hp
theorem R2.row {w w' : World} {b B n c : Nat} {v0 v1 : Value} {a : Option Addr} {zs : List Int} (h : R2 w b v0 v1) (ho : Own w B a c zs) (hg : w.grownBy w' (Value.slice a n c).ownBlock) (hne : ∀ g, a = some ⟨g, 0, none⟩ → b ≠ g) : R2 w' b v0 v1 := by
  cases a with
  | none => exact h.below ⟨hg.os, hg.tape, hg.output, hg.size, fun k hk => hg.block k hk (by intro e; cases e)⟩
  | some x =>
    obtain ⟨g, rfl⟩ := own_form ho x rfl
    exact h.grown (g := g) hg (hne g rfl)
theorem Q9.new2 (w : World) (o : Obj) (v0 v1 v2 v3 v4 v5 v6 v7 v8 : Value) (t : TypeId) : Q9 ((w.alloc o).alloc (.cells #[v0, v1, v2, v3, v4, v5, v6, v7, v8] t)) (w.heap.size + 1) v0 v1 v2 v3 v4 v5 v6 v7 v8 := by simpa using Q9.new (w.alloc o) v0 v1 v2 v3 v4 v5 v6 v7 v8 t
theorem add_ok {na nb : Bool} {xs ys : List Int} (a b : Option Addr) (cap cap' : Nat) (w : World) (hx : Sl .u32 w (.slice a xs.length cap) xs) (hy : Sl .u32 w (.slice b ys.length cap') ys) (dx : Nm.Dg xs) (dy : Nm.Dg ys) (ho : okB na xs = true) (ho' : okB nb ys = true) (x : Int) (hxv : x = Nm.wv na xs + Nm.wv nb ys) (hf : Nm.fits x = true) :
    Calls Tryz.prog 72 #[.agg #[.bool na, .slice a xs.length cap], .agg #[.bool nb, .slice b ys.length cap']] w fun e w' => ∃ a' c', e = .returned (.tuple #[.agg #[.bool (Nm.wn x), .slice a' (Nm.wl x).length c'], .bool true]) ∧ Own w' w.heap.size a' c' (Nm.wl x) ∧ Below w.heap.size w w' := by
  have h1 := (okB_nz ho).2
  have h2 := (okB_nz ho').2
  have h := wadd_impl na nb a b cap cap' xs ys w hx hy dx dy (by omega) (by omega) x hxv
  have e4 := out_fits hf
  rw [ho, ho', Bool.and_self, (op_yes _).1, (op_yes _).2.1, (op_yes _).2.2, hf, e4.1, e4.2] at h
  exact h
theorem Q9.nw2 (w : World) (o : Obj) (v0 v1 v2 v3 v4 v5 v6 v7 v8 : Value) (t : TypeId) : Q9 ((w.alloc o).alloc (.cells #[v0, v1, v2, v3, v4, v5, v6, v7, v8] t)) (w.heap.size + 1) v0 v1 v2 v3 v4 v5 v6 v7 v8 := by simpa using Q9.new (w.alloc o) v0 v1 v2 v3 v4 v5 v6 v7 v8 t
theorem Box.of_block {w w' : World} {b : Nat} {v0 v1 : Value} (h : Box w b v0 v1) (e : w'.heap[b]? = w.heap[b]?) : Box w' b v0 v1 :=
  ⟨(World.cell?_of_block (a := ⟨b, 0, none⟩) e).trans h.1, (World.cell?_of_block (a := ⟨b, 1, none⟩) e).trans h.2⟩
theorem bl_pos {z : Int} (h : z ≠ 0) : 1 ≤ bitLen z.natAbs := by
  have : ¬ bitLen z.natAbs ≤ 0 := by
    rw [Nm.bl_le_iff]; simp; omega
  omega
theorem Q9.set1 {w : World} {b : Nat} {v0 v1 v2 v3 v4 v5 v6 v7 v8 : Value} (h : Q9 w b v0 v1 v2 v3 v4 v5 v6 v7 v8) (u : Value) : Q9 (w.setCell ⟨b, 1, none⟩ u) b v0 u v2 v3 v4 v5 v6 v7 v8 := by
  obtain ⟨c0, c1, c2, c3, c4, c5, c6, c7, c8, f0, f1, f2, f3, f4, f5, f6, f7, f8⟩ := h
  exact ⟨by simp [go_sem, c0, c1], by simp [go_sem, c1, c1], by simp [go_sem, c2, c1], by simp [go_sem, c3, c1], by simp [go_sem, c4, c1], by simp [go_sem, c5, c1], by simp [go_sem, c6, c1], by simp [go_sem, c7, c1], by simp [go_sem, c8, c1], by simp [go_sem, f0], by simp [go_sem, f1], by simp [go_sem, f2], by simp [go_sem, f3], by simp [go_sem, f4], by simp [go_sem, f5], by simp [go_sem, f6], by simp [go_sem, f7], by simp [go_sem, f8]⟩
theorem sQb (fm : Int) (w : World) (h : fmtB fm = true) : Calls Tryz.prog 98 #[.int .i64 fm] w fun e w' => e = .returned (.int .i64 (unQ fm)) ∧ Below w.heap.size w w' :=
  (sQ_any fm w h).mono fun e w' ⟨a, b⟩ => ⟨a, b ▸ Below.refl _ _⟩
/-- What the program's variables hold. -/
structure EE (u : Value) (w : World) : Prop where
  t : Tab w
  g : EA.ErrT w
  q : ErrQ w u
def EX (w : World) : Prop := ∃ u, EE u w
theorem EE.below {u : Value} {w w' : World} (h : EE u w) (hb : Below w.heap.size w w') : EE u w' := ⟨h.t.below hb, EA.five h.g hb, (hb.cell (p := ⟨1, 0, none⟩) (World.block_lt_of_cell? w _ h.q)).trans h.q⟩
theorem EX.below {w w' : World} (h : EX w) (hb : Below w.heap.size w w') : EX w' := by obtain ⟨u, h⟩ := h; exact ⟨u, h.below hb⟩
/-- An error of the program: whether it is one, and whether it tells what is invalid. -/
inductive EK (u : Value) : Value → Bool → Bool → Prop
  | no : EK u .nilIface false false
  | quiet : EK u (.iface 168 (.agg #[.iface 247 u])) true false
  | bad (s : ByteArray) : EK u (.iface 168 (.agg #[.iface 170 (.agg #[.string s])])) true true
theorem inv_any {u ev : Value} {n b : Bool} (h : EK u ev n b) (w : World) (hg : EA.ErrT w) :
    Calls Tryz.prog 161 #[ev] w fun r w' => r = .returned (.bool b) ∧ Below w.heap.size w w' := by
  cases h with
  | no => exact EA.inv_nil w hg
  | quiet => exact EA.inv_quiet u w hg
  | bad s => exact EA.inv_bad s w hg
theorem worse_any {u a b : Value} {n1 b1 n2 b2 : Bool} (ha : EK u a n1 b1) (hb : EK u b n2 b2) (w : World) (hg : EA.ErrT w) :
    Calls Tryz.prog 86 #[a, b] w fun r w' => ∃ ev, r = .returned ev ∧ EK u ev (n1 || n2) (b1 || b2) ∧ Below w.heap.size w w' := by
  have CI := hid (fun w' h => inv_any hb w' h)
  have HB := hid hb
  clear hb
  cases ha with
  | no =>
    go_enter Tryz.func86, Tryz.ntmps86
    go_wp2
    go_ret
    exact ⟨b, rfl, by simpa using HB.out, (by repeat (first | exact bz0 _ _ | refine bz1 ?_ | refine bz2 ?_ _ | refine bz3 ?_ _ | refine bz5 ?_ _ | refine bz6 ?_ _))⟩
  | quiet =>
    cases b2
    · have HE : Hid (EK u (.iface 168 (.agg #[.iface 247 u])) (true || n2) (false || false)) := hid EK.quiet
      go_enter Tryz.func86, Tryz.ntmps86
      go_wp2_with fail
      refine (CI.out _ hg).mono ?_
      rintro r w1 ⟨rfl, hb1⟩
      go_wp2
      go_ret
      exact ⟨_, rfl, HE.out, (by repeat (first | exact bz0 _ _ | refine bz1 ?_ | refine bz2 ?_ _ | refine bz3 ?_ _ | refine bz4 ?_ hb1 | refine bz5 ?_ _ | refine bz6 ?_ _ | refine bz7 ?_ hb1))⟩
    · have hn : n2 = true := by have h := HB.out; cases h; rfl
      subst hn
      go_enter Tryz.func86, Tryz.ntmps86
      go_wp2_with fail
      refine (CI.out _ hg).mono ?_
      rintro r w1 ⟨rfl, hb1⟩
      go_wp2
      go_ret
      exact ⟨b, rfl, HB.out, (by repeat (first | exact bz0 _ _ | refine bz1 ?_ | refine bz2 ?_ _ | refine bz3 ?_ _ | refine bz4 ?_ hb1 | refine bz5 ?_ _ | refine bz6 ?_ _ | refine bz7 ?_ hb1))⟩
  | bad s =>
    cases b2
    · have HE : Hid (EK u (.iface 168 (.agg #[.iface 170 (.agg #[.string s])])) (true || n2) (true || false)) := hid (EK.bad s)
      go_enter Tryz.func86, Tryz.ntmps86
      go_wp2_with fail
      refine (CI.out _ hg).mono ?_
      rintro r w1 ⟨rfl, hb1⟩
      go_wp2
      go_ret
      exact ⟨_, rfl, HE.out, (by repeat (first | exact bz0 _ _ | refine bz1 ?_ | refine bz2 ?_ _ | refine bz3 ?_ _ | refine bz4 ?_ hb1 | refine bz5 ?_ _ | refine bz6 ?_ _ | refine bz7 ?_ hb1))⟩
    · have hn : n2 = true := by have h := HB.out; cases h; rfl
      subst hn
      go_enter Tryz.func86, Tryz.ntmps86
      go_wp2_with fail
      refine (CI.out _ hg).mono ?_
      rintro r w1 ⟨rfl, hb1⟩
      go_wp2
      go_ret
      exact ⟨b, rfl, HB.out, (by repeat (first | exact bz0 _ _ | refine bz1 ?_ | refine bz2 ?_ _ | refine bz3 ?_ _ | refine bz4 ?_ hb1 | refine bz5 ?_ _ | refine bz6 ?_ _ | refine bz7 ?_ hb1))⟩
theorem cls_sixE {fm x : Int} (h : okF fm x = true) : finB fm x = true ∨ cls fm x = 3 ∨ cls fm x = 4 ∨ cls fm x = 5 := by
  have h1 := cls_rng fm x
  by_cases hf : 0 ≤ cls fm x ∧ cls fm x ≤ 2
  · exact .inl (by unfold finB; exact decide_eq_true hf)
  · have : cls fm x ≠ -1 := by
      intro e
      cases hn : nanB fm x
      · have := cls_num h hn; omega
      · have := cls_nan h hn; omega
    omega
theorem nan_ofE {fm x : Int} (h : okF fm x = true) : nanB fm x = (decide (cls fm x = 4) || decide (cls fm x = 5)) := by
  cases hn : nanB fm x
  · have := cls_num h hn
    rw [decide_eq_false (by omega), decide_eq_false (by omega)]; rfl
  · rcases cls_nan h hn with e | e
    · rw [decide_eq_true e]; rfl
    · rw [decide_eq_true e]; simp
/-- A float as a number: its sign; whether it is infinity; M with its sign; E. -/
def nS (fm x : Int) : Bool := !nanB fm x && sigB fm x
def nI (fm x : Int) : Bool := cls fm x == 3
def nZ (fm x : Int) : Int := if finB fm x then (if pS fm x then -pM fm x else pM fm x) else 0
def nE (fm x : Int) : Int := if finB fm x then pE fm x else 0
def nB (fm x : Int) : Bool := cls fm x == 5
theorem fin_facts {fm x : Int} (hx : okF fm x = true) (hf : finB fm x = true) : nS fm x = pS fm x ∧ nI fm x = false ∧ nZ fm x = (if pS fm x then -pM fm x else pM fm x) ∧ nE fm x = pE fm x ∧ nanB fm x = false ∧ nB fm x = false := by
  have hc : 0 ≤ cls fm x ∧ cls fm x ≤ 2 := by simpa [finB] using hf
  have hps : pS fm x = sigB fm x := by unfold pS; rw [hf]; rfl
  have hn : nanB fm x = false := by rw [nan_ofE hx, decide_eq_false (by omega), decide_eq_false (by omega)]; rfl
  refine ⟨by unfold nS; rw [hn, hps]; rfl, ?_, by unfold nZ; rw [hf, if_pos rfl], by unfold nE; rw [hf, if_pos rfl], hn, ?_⟩
  · unfold nI; rw [beq_eq_false_iff_ne]; omega
  · unfold nB; rw [beq_eq_false_iff_ne]; omega
theorem odd_facts {fm x : Int} (hx : okF fm x = true) (hf : finB fm x = false) : nZ fm x = 0 ∧ nE fm x = 0 := by
  unfold nZ nE; rw [hf]; exact ⟨rfl, rfl⟩
/-- A float as a number, with why it is none. -/
theorem num_all (fm x : Int) (u : Value) (w : World) (hE : EE u w) (hx : okF fm x = true) (x0 : 0 ≤ x) (x1 : x < 18446744073709551616) (sg inf G : Bool) (L : List Int) (E : Int) (n b : Bool) (h1 : sg = nS fm x) (h2 : inf = nI fm x) (h3 : G = Nm.wn (nZ fm x)) (h4 : L = Nm.wl (nZ fm x)) (h5 : E = nE fm x) (h6 : n = nanB fm x) (h7 : b = nB fm x) :
    Calls Tryz.prog 85 #[.int .i64 fm, .int .u64 x] w fun r w' => ∃ a' c' ev, r = .returned (.tuple #[.agg #[.bool sg, .bool inf, .bool G, .slice a' L.length c', .int .i64 E], ev]) ∧ EK u ev n b ∧ Own w' w.heap.size a' c' L ∧ Below w.heap.size w w' := by
  subst h1 h2 h3 h4 h5 h6 h7
  have hl0 : Nm.wl 0 = [] := Nm.lim_zero
  have hn0 : Nm.wn 0 = false := by decide
  have hnan := nan_ofE hx
  rcases cls_sixE hx with hf | h3 | h4 | h5
  · obtain ⟨e1, e2, e3, e4, e5, e6⟩ := fin_facts hx hf
    rw [e1, e2, e3, e4, e5, e6]
    exact (num_fin fm x w hE.t x0 x1 hf _ _ _ rfl rfl rfl).mono fun r w' ⟨a, c, hr, ho, hb⟩ => ⟨a, c, _, hr, EK.no, ho, hb⟩
  · have hf : finB fm x = false := by unfold finB; rw [h3]; decide
    have hnb : nanB fm x = false := by rw [hnan, h3]; decide
    obtain ⟨z1, z2⟩ := odd_facts hx hf
    have e1 : nS fm x = sigB fm x := by unfold nS; rw [hnb]; rfl
    have e2 : nI fm x = true := by unfold nI; rw [h3]; rfl
    have e3 : nB fm x = false := by unfold nB; rw [h3]; rfl
    rw [z1, z2, hl0, hn0, hnb, e1, e2, e3]
    exact (num_inf fm x w hE.t x0 x1 h3).mono fun r w' ⟨hr, hb⟩ => ⟨none, 0, _, hr, EK.no, Own.nil _ _, hb⟩
  · have hf : finB fm x = false := by unfold finB; rw [h4]; decide
    have hnb : nanB fm x = true := by rw [hnan, h4]; decide
    obtain ⟨z1, z2⟩ := odd_facts hx hf
    have e1 : nS fm x = false := by unfold nS; rw [hnb]; rfl
    have e2 : nI fm x = false := by unfold nI; rw [h4]; rfl
    have e3 : nB fm x = false := by unfold nB; rw [h4]; rfl
    rw [z1, z2, hl0, hn0, hnb, e1, e2, e3]
    exact (num_quiet fm x u w hE.t hE.q x0 x1 h4).mono fun r w' ⟨hr, hb⟩ => ⟨none, 0, _, hr, EK.quiet, Own.nil _ _, hb⟩
  · have hf : finB fm x = false := by unfold finB; rw [h5]; decide
    have hnb : nanB fm x = true := by rw [hnan, h5]; decide
    obtain ⟨z1, z2⟩ := odd_facts hx hf
    have e1 : nS fm x = false := by unfold nS; rw [hnb]; rfl
    have e2 : nI fm x = false := by unfold nI; rw [h5]; rfl
    have e3 : nB fm x = true := by unfold nB; rw [h5]; rfl
    rw [z1, z2, hl0, hn0, hnb, e1, e2, e3]
    exact (num_signal fm x w hE.t x0 x1 h5).mono fun r w' ⟨s, hr, hb⟩ => ⟨none, 0, _, hr, EK.bad s, Own.nil _ _, hb⟩
end Go.Proofs.YtmcflggionkhlaaGreatDoor
