/-
  What the program's variables hold; the kinds of errors; the worse one of two; a float as a number, at every float.
-/
import Derived.Test.YtapjclcjojadaaaGreatDoorG19
namespace Go.Proofs.YtapjclcjojadaaaGreatDoor
set_option linter.unusedVariables false
set_option linter.unusedSimpArgs false
open Go.RowKit Go.Deep
/-- What the program's variables hold. -/
structure EE (u : Value) (w : World) : Prop where
  t : Tab w
  g : EA.ErrT w
  q : ErrQ w u
def EX (w : World) : Prop := ∃ u, EE u w
theorem EE.below {u : Value} {w w' : World} (h : EE u w) (hb : Below w.heap.size w w') : EE u w' := ⟨h.t.below hb, EA.five h.g hb, (hb.cell (p := ⟨0, 0, none⟩) (World.block_lt_of_cell? w _ h.q)).trans h.q⟩
theorem EX.below {w w' : World} (h : EX w) (hb : Below w.heap.size w w') : EX w' := by obtain ⟨u, h⟩ := h; exact ⟨u, h.below hb⟩
/-- An error of the program: whether it is one, and whether it tells what is invalid. -/
inductive EK (u : Value) : Value → Bool → Bool → Prop
  | no : EK u .nilIface false false
  | quiet : EK u (.iface 176 (.agg #[.iface 244 u])) true false
  | bad (s : ByteArray) : EK u (.iface 176 (.agg #[.iface 178 (.agg #[.string s])])) true true
theorem inv_any {u ev : Value} {n b : Bool} (h : EK u ev n b) (w : World) (hg : EA.ErrT w) :
    Calls Tryz.prog 152 #[ev] w fun r w' => r = .returned (.bool b) ∧ Below w.heap.size w w' := by
  cases h with
  | no => exact EA.inv_nil w hg
  | quiet => exact EA.inv_quiet u w hg
  | bad s => exact EA.inv_bad s w hg
set_option maxRecDepth 100000 in
theorem worse_any {u a b : Value} {n1 b1 n2 b2 : Bool} (ha : EK u a n1 b1) (hb : EK u b n2 b2) (w : World) (hg : EA.ErrT w) :
    Calls Tryz.prog 107 #[a, b] w fun r w' => ∃ ev, r = .returned ev ∧ EK u ev (n1 || n2) (b1 || b2) ∧ Below w.heap.size w w' := by
  have CI := hid (fun w' h => inv_any hb w' h)
  have HB := hid hb
  clear hb
  cases ha with
  | no =>
    go_enter Tryz.func107, Tryz.ntmps107
    go_wp2
    go_ret
    exact ⟨b, rfl, by simpa using HB.out, (by repeat (first | exact Below.refl _ _ | refine Below.drew ?_ | refine bel_dn ?_ _ | refine bel_al ?_ _ | refine Below.setCell ?_ (by first | omega | (simp; done) | (simp; omega)) _ | refine Below.alloc ?_ (by first | omega | (simp; done) | (simp; omega)) _))⟩
  | quiet =>
    cases b2
    · have HE : Hid (EK u (.iface 176 (.agg #[.iface 244 u])) (true || n2) (false || false)) := hid EK.quiet
      go_enter Tryz.func107, Tryz.ntmps107
      go_wp2_with fail
      refine (CI.out _ hg).mono ?_
      rintro r w1 ⟨rfl, hb1⟩
      go_wp2
      go_ret
      exact ⟨_, rfl, HE.out, (by repeat (first | exact Below.refl _ _ | refine Below.drew ?_ | refine bel_dn ?_ _ | refine bel_al ?_ _ | refine bel_go ?_ hb1 | refine Below.setCell ?_ (by first | omega | (simp; done) | (simp; omega)) _ | refine Below.alloc ?_ (by first | omega | (simp; done) | (simp; omega)) _ | refine Below.trans ?_ (Below.mono hb1 (by first | omega | (simp; done) | (simp; omega)))))⟩
    · have hn : n2 = true := by have h := HB.out; cases h; rfl
      subst hn
      go_enter Tryz.func107, Tryz.ntmps107
      go_wp2_with fail
      refine (CI.out _ hg).mono ?_
      rintro r w1 ⟨rfl, hb1⟩
      go_wp2
      go_ret
      exact ⟨b, rfl, HB.out, (by repeat (first | exact Below.refl _ _ | refine Below.drew ?_ | refine bel_dn ?_ _ | refine bel_al ?_ _ | refine bel_go ?_ hb1 | refine Below.setCell ?_ (by first | omega | (simp; done) | (simp; omega)) _ | refine Below.alloc ?_ (by first | omega | (simp; done) | (simp; omega)) _ | refine Below.trans ?_ (Below.mono hb1 (by first | omega | (simp; done) | (simp; omega)))))⟩
  | bad s =>
    cases b2
    · have HE : Hid (EK u (.iface 176 (.agg #[.iface 178 (.agg #[.string s])])) (true || n2) (true || false)) := hid (EK.bad s)
      go_enter Tryz.func107, Tryz.ntmps107
      go_wp2_with fail
      refine (CI.out _ hg).mono ?_
      rintro r w1 ⟨rfl, hb1⟩
      go_wp2
      go_ret
      exact ⟨_, rfl, HE.out, (by repeat (first | exact Below.refl _ _ | refine Below.drew ?_ | refine bel_dn ?_ _ | refine bel_al ?_ _ | refine bel_go ?_ hb1 | refine Below.setCell ?_ (by first | omega | (simp; done) | (simp; omega)) _ | refine Below.alloc ?_ (by first | omega | (simp; done) | (simp; omega)) _ | refine Below.trans ?_ (Below.mono hb1 (by first | omega | (simp; done) | (simp; omega)))))⟩
    · have hn : n2 = true := by have h := HB.out; cases h; rfl
      subst hn
      go_enter Tryz.func107, Tryz.ntmps107
      go_wp2_with fail
      refine (CI.out _ hg).mono ?_
      rintro r w1 ⟨rfl, hb1⟩
      go_wp2
      go_ret
      exact ⟨b, rfl, HB.out, (by repeat (first | exact Below.refl _ _ | refine Below.drew ?_ | refine bel_dn ?_ _ | refine bel_al ?_ _ | refine bel_go ?_ hb1 | refine Below.setCell ?_ (by first | omega | (simp; done) | (simp; omega)) _ | refine Below.alloc ?_ (by first | omega | (simp; done) | (simp; omega)) _ | refine Below.trans ?_ (Below.mono hb1 (by first | omega | (simp; done) | (simp; omega)))))⟩
theorem cls_sixE {fm x : Int} (h : okF fm x = true) : finB fm x = true ∨ cls fm x = 3 ∨ cls fm x = 4 ∨ cls fm x = 5 := by
  have h1 := cls_rng fm x
  by_cases hf : 0 ≤ cls fm x ∧ cls fm x ≤ 2
  · exact .inl (by unfold finB; exact decide_eq_true hf)
  · have : cls fm x ≠ -1 := by
      intro e
      cases hn : nanB fm x
      · have := cls_num h hn; omega
      · have := cls_nan h hn; omega
    omega
theorem nan_ofE {fm x : Int} (h : okF fm x = true) : nanB fm x = (decide (cls fm x = 4) || decide (cls fm x = 5)) := by
  cases hn : nanB fm x
  · have := cls_num h hn
    rw [decide_eq_false (by omega), decide_eq_false (by omega)]; rfl
  · rcases cls_nan h hn with e | e
    · rw [decide_eq_true e]; rfl
    · rw [decide_eq_true e]; simp
/-- A float as a number: its sign; whether it is infinity; M with its sign; E. -/
def nS (fm x : Int) : Bool := !nanB fm x && sigB fm x
def nI (fm x : Int) : Bool := cls fm x == 3
def nZ (fm x : Int) : Int := if finB fm x then (if pS fm x then -pM fm x else pM fm x) else 0
def nE (fm x : Int) : Int := if finB fm x then pE fm x else 0
def nB (fm x : Int) : Bool := cls fm x == 5
theorem fin_facts {fm x : Int} (hx : okF fm x = true) (hf : finB fm x = true) : nS fm x = pS fm x ∧ nI fm x = false ∧ nZ fm x = (if pS fm x then -pM fm x else pM fm x) ∧ nE fm x = pE fm x ∧ nanB fm x = false ∧ nB fm x = false := by
  have hc : 0 ≤ cls fm x ∧ cls fm x ≤ 2 := by simpa [finB] using hf
  have hps : pS fm x = sigB fm x := by unfold pS; rw [hf]; rfl
  have hn : nanB fm x = false := by rw [nan_ofE hx, decide_eq_false (by omega), decide_eq_false (by omega)]; rfl
  refine ⟨by unfold nS; rw [hn, hps]; rfl, ?_, by unfold nZ; rw [hf, if_pos rfl], by unfold nE; rw [hf, if_pos rfl], hn, ?_⟩
  · unfold nI; rw [beq_eq_false_iff_ne]; omega
  · unfold nB; rw [beq_eq_false_iff_ne]; omega
theorem odd_facts {fm x : Int} (hx : okF fm x = true) (hf : finB fm x = false) : nZ fm x = 0 ∧ nE fm x = 0 := by
  unfold nZ nE; rw [hf]; exact ⟨rfl, rfl⟩
/-- A float as a number, with why it is none. -/
theorem num_all (fm x : Int) (u : Value) (w : World) (hE : EE u w) (hx : okF fm x = true) (x0 : 0 ≤ x) (x1 : x < 18446744073709551616) (sg inf G : Bool) (L : List Int) (E : Int) (n b : Bool) (h1 : sg = nS fm x) (h2 : inf = nI fm x) (h3 : G = Nm.wn (nZ fm x)) (h4 : L = Nm.wl (nZ fm x)) (h5 : E = nE fm x) (h6 : n = nanB fm x) (h7 : b = nB fm x) :
    Calls Tryz.prog 96 #[.int .i64 fm, .int .u64 x] w fun r w' => ∃ a' c' ev, r = .returned (.tuple #[.agg #[.bool sg, .bool inf, .bool G, .slice a' L.length c', .int .i64 E], ev]) ∧ EK u ev n b ∧ Own w' w.heap.size a' c' L ∧ Below w.heap.size w w' := by
  subst h1 h2 h3 h4 h5 h6 h7
  have hl0 : Nm.wl 0 = [] := Nm.lim_zero
  have hn0 : Nm.wn 0 = false := by decide
  have hnan := nan_ofE hx
  rcases cls_sixE hx with hf | h3 | h4 | h5
  · obtain ⟨e1, e2, e3, e4, e5, e6⟩ := fin_facts hx hf
    rw [e1, e2, e3, e4, e5, e6]
    exact (num_fin fm x w hE.t x0 x1 hf _ _ _ rfl rfl rfl).mono fun r w' ⟨a, c, hr, ho, hb⟩ => ⟨a, c, _, hr, EK.no, ho, hb⟩
  · have hf : finB fm x = false := by unfold finB; rw [h3]; decide
    have hnb : nanB fm x = false := by rw [hnan, h3]; decide
    obtain ⟨z1, z2⟩ := odd_facts hx hf
    have e1 : nS fm x = sigB fm x := by unfold nS; rw [hnb]; rfl
    have e2 : nI fm x = true := by unfold nI; rw [h3]; rfl
    have e3 : nB fm x = false := by unfold nB; rw [h3]; rfl
    rw [z1, z2, hl0, hn0, hnb, e1, e2, e3]
    exact (num_inf fm x w hE.t x0 x1 h3).mono fun r w' ⟨hr, hb⟩ => ⟨none, 0, _, hr, EK.no, Own.nil _ _, hb⟩
  · have hf : finB fm x = false := by unfold finB; rw [h4]; decide
    have hnb : nanB fm x = true := by rw [hnan, h4]; decide
    obtain ⟨z1, z2⟩ := odd_facts hx hf
    have e1 : nS fm x = false := by unfold nS; rw [hnb]; rfl
    have e2 : nI fm x = false := by unfold nI; rw [h4]; rfl
    have e3 : nB fm x = false := by unfold nB; rw [h4]; rfl
    rw [z1, z2, hl0, hn0, hnb, e1, e2, e3]
    exact (num_quiet fm x u w hE.t hE.q x0 x1 h4).mono fun r w' ⟨hr, hb⟩ => ⟨none, 0, _, hr, EK.quiet, Own.nil _ _, hb⟩
  · have hf : finB fm x = false := by unfold finB; rw [h5]; decide
    have hnb : nanB fm x = true := by rw [hnan, h5]; decide
    obtain ⟨z1, z2⟩ := odd_facts hx hf
    have e1 : nS fm x = false := by unfold nS; rw [hnb]; rfl
    have e2 : nI fm x = false := by unfold nI; rw [h5]; rfl
    have e3 : nB fm x = true := by unfold nB; rw [h5]; rfl
    rw [z1, z2, hl0, hn0, hnb, e1, e2, e3]
    exact (num_signal fm x w hE.t x0 x1 h5).mono fun r w' ⟨s, hr, hb⟩ => ⟨none, 0, _, hr, EK.bad s, Own.nil _ _, hb⟩
end Go.Proofs.YtapjclcjojadaaaGreatDoor
