/-
  What is needed of DrawA, DrawB, DrawC, ITs, IB, IC.
-/
import Derived.Laws.Closers25b
import Derived.WideLaws
import Derived.Test.YtbhfbaogmkgmiaaGreatDoorC13
set_option maxHeartbeats 16000000
set_option maxRecDepth 1000000
namespace Go.Proofs.YtbhfbaogmkgmiaaGreatDoor
set_option linter.unusedVariables false
set_option linter.unusedSimpArgs false
open Go.RowKit Go.Deep
/-- A reader in block rb over the bytes cs. -/
structure RD (w : World) (rb : Nat) (ca : Option Addr) (cc : Nat) (cs : List Int) : Prop where
  p : ∃ p : Nat, p ≤ cs.length ∧ R2 w rb (.slice ca cs.length cc) (.int .i64 p)
  s : Sl .u8 w (.slice ca cs.length cc) cs
  ne : 0 < cs.length → ∀ b off, ca = some ⟨b, off, none⟩ → b < rb
  by_ : ∀ i, 0 ≤ cs.getD i 0 ∧ cs.getD i 0 ≤ 255
  len : cs.length ≤ 1048576
theorem Sl.any {k : IntKind} {w w' : World} {v : Value} {zs : List Int} (h : Sl k w v zs) (h0 : ¬ 0 < zs.length) : Sl k w' v zs := by
  obtain ⟨a, cap, rfl, h1, h2, h3⟩ := h
  exact ⟨a, cap, rfl, h1, h2, .inl (List.eq_nil_of_length_eq_zero (by omega))⟩
theorem Sl.grownNe {k : IntKind} {w w' : World} {ca : Option Addr} {n cc g : Nat} {zs : List Int} (h : Sl k w (.slice ca n cc) zs) (hg : w.grownBy w' (some g)) (hne : 0 < zs.length → ∀ b off, ca = some ⟨b, off, none⟩ → b ≠ g) : Sl k w' (.slice ca n cc) zs := by
  by_cases h0 : 0 < zs.length
  · refine h.grown hg (fun g' hg' => ?_)
    cases hg'
    right
    intro b off n cap he
    cases he
    exact hne h0 b off rfl
  · exact h.any h0
theorem grown_trans {w w1 w2 : World} {row : Option Nat} (h : w.grownBy w1 row) (k : w1.grownBy w2 row) : w.grownBy w2 row :=
  ⟨k.os.trans h.os, k.tape.trans h.tape, k.output.trans h.output, Nat.le_trans h.size k.size, fun i hi hne => (k.block i (Nat.lt_of_lt_of_le hi h.size) hne).trans (h.block i hi hne)⟩
theorem grown_refl (w : World) (row : Option Nat) : w.grownBy w row := ⟨rfl, rfl, rfl, Nat.le_refl _, fun _ _ _ => rfl⟩
theorem grown_below {w w' : World} (h : Below w.heap.size w w') (row : Option Nat) : w.grownBy w' row := ⟨h.os, h.tape, h.output, h.size, fun i hi _ => h.block i hi⟩
theorem grown_alloc {w w' : World} {row : Option Nat} (h : w.grownBy w' row) (o : Obj) : w.grownBy (w'.alloc o) row :=
  grown_trans h (grown_below ((Below.refl _ _).alloc (Nat.le_refl _) _) row)
theorem RD.lt {w : World} {rb : Nat} {ca : Option Addr} {cc : Nat} {cs : List Int} (h : RD w rb ca cc cs) : rb < w.heap.size := by
  obtain ⟨p, _, r⟩ := h.p; exact World.block_lt_of_cell? w _ r.c0
theorem RD.below {w w' : World} {rb : Nat} {ca : Option Addr} {cc : Nat} {cs : List Int} (h : RD w rb ca cc cs) (hb : Below w.heap.size w w') : RD w' rb ca cc cs := by
  obtain ⟨⟨p, hp, r⟩, s, ne, hby, hl⟩ := h
  exact ⟨⟨p, hp, r.below hb⟩, s.below hb, ne, hby, hl⟩
theorem RD.alloc {w : World} {rb : Nat} {ca : Option Addr} {cc : Nat} {cs : List Int} (h : RD w rb ca cc cs) (o : Obj) : RD (w.alloc o) rb ca cc cs := h.below ((Below.refl _ _).alloc (Nat.le_refl _) _)
theorem RD.drew {w : World} {rb : Nat} {ca : Option Addr} {cc : Nat} {cs : List Int} (h : RD w rb ca cc cs) : RD w.drew rb ca cc cs := by
  obtain ⟨⟨p, hp, r⟩, s, ne, hby, hl⟩ := h
  exact ⟨⟨p, hp, r.drew⟩, s.drew, ne, hby, hl⟩
theorem RD.grown {w w' : World} {rb g : Nat} {ca : Option Addr} {cc : Nat} {cs : List Int} (h : RD w rb ca cc cs) (hg : w.grownBy w' (some g)) (h1 : rb < g) : RD w' rb ca cc cs := by
  obtain ⟨⟨p, hp, r⟩, s, ne, hby, hl⟩ := h
  exact ⟨⟨p, hp, r.grown hg (by omega)⟩, s.grownNe hg (fun h0 b off he => by have := ne h0 b off he; omega), ne, hby, hl⟩
/-- The place is set. -/
theorem RD.set {w : World} {rb : Nat} {ca : Option Addr} {cc : Nat} {cs : List Int} (h : RD w rb ca cc cs) (q : Nat) (hq : q ≤ cs.length) : RD (w.setCell ⟨rb, 1, none⟩ (.int .i64 q)) rb ca cc cs ∧ w.grownBy (w.setCell ⟨rb, 1, none⟩ (.int .i64 q)) (some rb) := by
  obtain ⟨⟨p, hp, r⟩, s, ne, hby, hl⟩ := h
  have hg : w.grownBy (w.setCell ⟨rb, 1, none⟩ (.int .i64 q)) (some rb) :=
    ⟨by simp [World.setCell], by simp [World.setCell], by simp [World.setCell], by simp [World.setCell], fun i hi hne => Below.heap_setCell w ⟨rb, 1, none⟩ _ i (by simpa using hne)⟩
  refine ⟨⟨⟨q, hq, ?_⟩, s.grownNe hg (fun h0 b off he => by have := ne h0 b off he; omega), ne, hby, hl⟩, hg⟩
  obtain ⟨c0, c1, f0, f1⟩ := r
  exact ⟨by simp [go_sem, c0, c1], by simp [go_sem, c0, c1], by simp [go_sem, f0, f1], by simp [go_sem, f0, f1]⟩
theorem next_any (rb : Nat) (ca : Option Addr) (cc : Nat) (cs : List Int) (w : World) (hr : RD w rb ca cc cs) :
    Calls Tryz.prog 151 #[.pointer (some ⟨rb, 0, none⟩)] w fun e w' => ∃ v : Int, e = .returned (.int .i64 v) ∧ 0 ≤ v ∧ v ≤ 255 ∧ RD w' rb ca cc cs ∧ w.grownBy w' (some rb) := by
  obtain ⟨p, hp, r⟩ := hr.p
  obtain ⟨c0, c1, f0, f1⟩ := r
  have hl := hr.len
  by_cases hlt : p < cs.length
  · have hset := hr.set (p + 1) (by omega)
    rw [show ((p + 1 : Nat) : Int) = (p : Int) + 1 from rfl] at hset
    have hby := hr.by_ p
    obtain ⟨-, hx1, hx2, hx3⟩ := hr.s.cells
    obtain ⟨b, off, rfl, hcx⟩ := hx3 (by omega)
    have hca := hcx p hlt
    have hne := hr.ne (by omega) b off rfl
    obtain ⟨x, hxk⟩ : ∃ x, x = cs.getD p 0 := ⟨_, rfl⟩
    rw [← hxk] at hca hby
    obtain ⟨b0, b1⟩ := hby
    have HSET := hid hset
    have HR := hid hr
    have hne' : rb ≠ b := by omega
    clear hset hx3 hcx hxk hr
    have k0 : (0 : Int) ≤ (p : Int) := by omega
    have k1 : (p : Int) < (cs.length : Int) := by omega
    go_enter Tryz.func151, Tryz.ntmps151
    go_wp2_with fail
    go_region
    all_goals go_wp2_with fail
    all_goals go_region
    all_goals go_wp2_with fail
    all_goals go_ret
    all_goals exact ⟨x, rfl, b0, b1, HSET.out.1.below (by exact (by repeat (first | exact bz0 _ _ | refine bz1 ?_ | refine bz2 ?_ _ | refine bz3 ?_ _ | refine bz5 ?_ _ | refine bz6 ?_ _))), grown_trans HSET.out.2 (grown_below (by exact (by repeat (first | exact bz0 _ _ | refine bz1 ?_ | refine bz2 ?_ _ | refine bz3 ?_ _ | refine bz5 ?_ _ | refine bz6 ?_ _))) _)⟩
  · go_enter Tryz.func151, Tryz.ntmps151
    go_wp2_with fail
    go_region
    all_goals go_wp2
    all_goals go_ret
    all_goals exact ⟨0, rfl, by omega, by omega, hr.below (by exact (by repeat (first | exact bz0 _ _ | refine bz1 ?_ | refine bz2 ?_ _ | refine bz3 ?_ _ | refine bz5 ?_ _ | refine bz6 ?_ _))), grown_below (by repeat (first | exact bz0 _ _ | refine bz1 ?_ | refine bz2 ?_ _ | refine bz3 ?_ _ | refine bz5 ?_ _ | refine bz6 ?_ _)) _⟩
theorem below_any (rb : Nat) (ca : Option Addr) (cc : Nat) (cs : List Int) (n : Int) (w : World) (hr : RD w rb ca cc cs) (h1 : 1 ≤ n) (h2 : n ≤ 1000000) :
    Calls Tryz.prog 64 #[.pointer (some ⟨rb, 0, none⟩), .int .i64 n] w fun e w' => ∃ v : Int, e = .returned (.int .i64 v) ∧ 0 ≤ v ∧ v < n ∧ RD w' rb ca cc cs ∧ w.grownBy w' (some rb) := by
  by_cases c1 : n ≤ 1
  · go_enter Tryz.func64, Tryz.ntmps64
    go_wp2
    go_ret
    exact ⟨0, rfl, by omega, by omega, hr, grown_refl _ _⟩
  · by_cases c2 : n ≤ 256
    · go_enter Tryz.func64, Tryz.ntmps64
      go_wp2_with fail
      refine (next_any rb ca cc cs _ hr).mono ?_
      rintro e w1 ⟨v, rfl, v0, v1, hr1, hg1⟩
      go_wp2
      go_ret
      exact ⟨v % n, rfl, Int.emod_nonneg v (by omega), Int.emod_lt_of_pos v (by omega), hr1, hg1⟩
    · go_enter Tryz.func64, Tryz.ntmps64
      go_wp2_with fail
      refine (next_any rb ca cc cs _ hr).mono ?_
      rintro e w1 ⟨v, rfl, v0, v1, hr1, hg1⟩
      go_wp2_with fail
      refine (next_any rb ca cc cs _ hr1).mono ?_
      rintro e w2 ⟨u, rfl, u0, u1, hr2, hg2⟩
      go_wp2
      go_ret
      exact ⟨(v * 256 + u) % n, rfl, Int.emod_nonneg _ (by omega), Int.emod_lt_of_pos _ (by omega), hr2, grown_trans hg1 hg2⟩
theorem once_any (rb : Nat) (ca : Option Addr) (cc : Nat) (cs : List Int) (n : Int) (w : World) (hr : RD w rb ca cc cs) (h1 : 1 ≤ n) (h2 : n ≤ 1000000) :
    Calls Tryz.prog 74 #[.pointer (some ⟨rb, 0, none⟩), .int .i64 n] w fun e w' => ∃ v : Bool, e = .returned (.bool v) ∧ RD w' rb ca cc cs ∧ w.grownBy w' (some rb) := by
  go_enter Tryz.func74, Tryz.ntmps74
  go_wp2_with fail
  refine (below_any rb ca cc cs n _ hr h1 h2).mono ?_
  rintro e w1 ⟨v, rfl, v0, v1, hr1, hg1⟩
  go_wp2
  go_ret
  exact ⟨_, rfl, hr1, hg1⟩
theorem word_any (rb : Nat) (ca : Option Addr) (cc : Nat) (cs : List Int) (w : World) (hr : RD w rb ca cc cs) :
    Calls Tryz.prog 153 #[.pointer (some ⟨rb, 0, none⟩)] w fun e w' => ∃ v : Int, e = .returned (.int .u64 v) ∧ 0 ≤ v ∧ v < 18446744073709551616 ∧ RD w' rb ca cc cs ∧ w.grownBy w' (some rb) := by
  have HR := hid hr
  clear hr
  go_enter Tryz.func153, Tryz.ntmps153
  go_wp2_with fail
  go_loopw [3, 4] (fun xv iv wr => ∃ i : Nat, ∃ x : Int, i ≤ 8 ∧ iv = .int .i64 i ∧ xv = .int .u64 x ∧ 0 ≤ x ∧ x < 18446744073709551616 ∧ RD wr rb ca cc cs ∧ w.grownBy wr (some rb)) (fun _ iv _ => 8 - (intOf iv).toNat)
  case atStart => exact ⟨0, 0, by omega, rfl, rfl, by omega, by omega, HR.out, grown_refl _ _⟩
  case round =>
    obtain ⟨i, x, hi, rfl, rfl, x0, x1, hr1, hg1⟩ := hrel
    by_cases hlt : i < 8
    · go_wp2_with fail
      refine (next_any rb ca cc cs _ hr1).mono ?_
      rintro e w1 ⟨v, rfl, v0, v1, hr2, hg2⟩
      go_wp2_with fail
      have lo := bits_lo_u64 .or (IntKind.u64.wrap (x * 256)) v
      have hi' := bits_hi_u64 .or (IntKind.u64.wrap (x * 256)) v
      go_roundw
      case rel => exact ⟨i + 1, _, by omega, by go_num, rfl, lo, by omega, hr2, grown_trans hg1 hg2⟩
      case measure => simp [intOf]; omega
    · obtain rfl : i = 8 := by omega
      go_wp2
      go_ret
      exact ⟨x, rfl, x0, x1, hr1, hg1⟩
theorem open_any (ca : Option Addr) (cc : Nat) (cs : List Int) (w : World) (hs : Sl .u8 w (.slice ca cs.length cc) cs) (hby : ∀ i, 0 ≤ cs.getD i 0 ∧ cs.getD i 0 ≤ 255) (hl : cs.length ≤ 1048576)  :
    Calls Tryz.prog 60 #[.slice ca cs.length cc] w fun e w' => e = .returned (.pointer (some ⟨w.heap.size, 0, none⟩)) ∧ RD w' w.heap.size ca cc cs ∧ Below w.heap.size w w' := by
  go_enter Tryz.func60, Tryz.ntmps60
  go_wp2
  go_ret
  refine ⟨rfl, ⟨⟨0, Nat.zero_le _, R2.new w _ _ _⟩, hs.alloc _, fun h0 b off he => ?_, hby, hl⟩, (by repeat (first | exact bz0 _ _ | refine bz1 ?_ | refine bz2 ?_ _ | refine bz3 ?_ _ | refine bz5 ?_ _ | refine bz6 ?_ _))⟩
  obtain ⟨_, _, _, h3⟩ := hs.cells
  obtain ⟨b', off', e, hc⟩ := h3 h0
  rw [he] at e
  cases e
  have := World.block_lt_of_cell? w _ (hc 0 h0)
  simpa using this
/-- Own rows above a reader stay. -/
theorem Own.rd {w w' : World} {B rb : Nat} {a : Option Addr} {cap : Nat} {zs : List Int} (h : Own w B a cap zs) (hg : w.grownBy w' (some rb)) (hlt : rb < B) : Own w' B a cap zs :=
  h.kept hg (fun g hg' hr => by
    have e : rb = g := Option.some.inj hr
    rcases h.block with ⟨e', _⟩ | ⟨g', e', h1, _⟩
    · rw [e'] at hg'; cases hg'
    · rw [e'] at hg'; cases hg'; omega)
theorem R2.rd {w w' : World} {b rb : Nat} {v0 v1 : Value} (h : R2 w b v0 v1) (hg : w.grownBy w' (some rb)) (hne : b ≠ rb) : R2 w' b v0 v1 := h.grown hg hne
theorem Box.rd {w w' : World} {b rb : Nat} {v0 v1 : Value} (h : Box w b v0 v1) (hg : w.grownBy w' (some rb)) (hne : b ≠ rb) : Box w' b v0 v1 := h.grown hg (fun g e => by cases e; exact hne)
/-- Only the reader's block, one row, and what is new has turned. -/
structure Gr2 (w w' : World) (rb : Nat) (a : Option Addr) : Prop where
  os : w'.os = w.os
  tape : w'.tape = w.tape
  output : w'.output = w.output
  size : w.heap.size ≤ w'.heap.size
  block : ∀ k, k < w.heap.size → k ≠ rb → (∀ g, a = some ⟨g, 0, none⟩ → k ≠ g) → w'.heap[k]? = w.heap[k]?
theorem Gr2.of {w w' : World} {rb : Nat} {a : Option Addr} (h : w.grownBy w' (some rb)) : Gr2 w w' rb a := ⟨h.os, h.tape, h.output, h.size, fun k hk hne _ => h.block k hk (by intro e; exact hne (Option.some.inj e))⟩
theorem Gr2.trans {w w1 w2 : World} {rb : Nat} {a : Option Addr} (h : Gr2 w w1 rb a) (k : Gr2 w1 w2 rb a) : Gr2 w w2 rb a :=
  ⟨k.os.trans h.os, k.tape.trans h.tape, k.output.trans h.output, Nat.le_trans h.size k.size, fun i hi h1 h2 => (k.block i (Nat.lt_of_lt_of_le hi h.size) h1 h2).trans (h.block i hi h1 h2)⟩
theorem Gr2.below {w w1 w2 : World} {rb : Nat} {a : Option Addr} (h : Gr2 w w1 rb a) (hb : Below w1.heap.size w1 w2) : Gr2 w w2 rb a := h.trans (Gr2.of (grown_below hb _))
/-- .. and a row that is new, or is that one. -/
theorem Gr2.row {w w1 w2 : World} {rb : Nat} {a a' : Option Addr} {n c : Nat} (h : Gr2 w w1 rb a) (hg : w1.grownBy w2 (Value.slice a' n c).ownBlock) (hn : ∀ g, a' = some ⟨g, 0, none⟩ → a = some ⟨g, 0, none⟩ ∨ w.heap.size ≤ g) (hf : ∀ x, a' = some x → ∃ g, x = ⟨g, 0, none⟩) : Gr2 w w2 rb a :=
  ⟨hg.os.trans h.os, hg.tape.trans h.tape, hg.output.trans h.output, Nat.le_trans h.size hg.size, fun i hi h1 h2 => (hg.block i (Nat.lt_of_lt_of_le hi h.size) (by
    intro e
    cases a' with
    | none => cases e
    | some x =>
      obtain ⟨g, rfl⟩ := hf x rfl
      have e' : i = g := Option.some.inj e
      subst e'
      rcases hn i rfl with h3 | h3
      · exact h2 i h3 rfl
      · omega)).trans (h.block i hi h1 h2)⟩
theorem Gr2.box {w w' : World} {rb b : Nat} {a : Option Addr} {v0 v1 : Value} (h : Box w b v0 v1) (hg : Gr2 w w' rb a) (h1 : b ≠ rb) (h2 : ∀ g, a = some ⟨g, 0, none⟩ → b ≠ g) : Box w' b v0 v1 := by
  have e := hg.block b (World.block_lt_of_cell? w _ h.1) h1 h2
  exact ⟨(World.cell?_of_block (a := ⟨b, 0, none⟩) e).trans h.1, (World.cell?_of_block (a := ⟨b, 1, none⟩) e).trans h.2⟩
theorem Gr2.own {w w' : World} {rb B : Nat} {a o : Option Addr} {c : Nat} {zs : List Int} (h : Own w B o c zs) (hg : Gr2 w w' rb a) (h1 : ∀ g, o = some ⟨g, 0, none⟩ → g ≠ rb ∧ ∀ g', a = some ⟨g', 0, none⟩ → g ≠ g') : Own w' B o c zs := by
  refine ⟨h.1, ?_⟩
  rcases h.2 with h2 | ⟨g, cap', cur, e1, e2, e3, e4⟩
  · exact .inl h2
  · have hg' : o = some ⟨g, 0, none⟩ := by simpa using (Value.slice.inj e1).1
    refine .inr ⟨g, cap', cur, e1, e2, ?_, e4⟩
    rw [hg.block g (Array.getElem?_eq_some_iff.1 e3).1 (h1 g hg').1 (h1 g hg').2]; exact e3
theorem own_form {w : World} {B : Nat} {a : Option Addr} {c : Nat} {zs : List Int} (h : Own w B a c zs) : ∀ x, a = some x → ∃ g, x = ⟨g, 0, none⟩ := by
  intro x hx
  rcases h.block with ⟨e, _⟩ | ⟨g, e, _⟩
  · rw [e] at hx; cases hx
  · rw [e] at hx; cases hx; exact ⟨g, rfl⟩
theorem own_at {w : World} {B : Nat} {a : Option Addr} {c : Nat} {zs : List Int} (h : Own w B a c zs) : ∀ g, a = some ⟨g, 0, none⟩ → B ≤ g ∧ g < w.heap.size := by
  intro g hg
  rcases h.block with ⟨e, _⟩ | ⟨g', e, h1, h2⟩
  · rw [e] at hg; cases hg
  · rw [e] at hg; cases hg; exact ⟨h1, h2⟩
theorem RD.row {w w' : World} {rb B : Nat} {ca : Option Addr} {cc : Nat} {cs : List Int} {a : Option Addr} {n c : Nat} {zs : List Int} (h : RD w rb ca cc cs) (ho : Own w B a c zs) (hB : rb < B) (hg : w.grownBy w' (Value.slice a n c).ownBlock) : RD w' rb ca cc cs := by
  cases a with
  | none => exact h.below ⟨hg.os, hg.tape, hg.output, hg.size, fun k hk => hg.block k hk (by intro e; cases e)⟩
  | some x =>
    obtain ⟨g, rfl⟩ := own_form ho x rfl
    exact h.grown (g := g) hg (by have := (own_at ho g rfl).1; omega)
theorem set_grown (w : World) (p : Addr) (v : Value) : w.grownBy (w.setCell p v) (some p.block) :=
  ⟨by simp [World.setCell], by simp [World.setCell], by simp [World.setCell], by simp [World.setCell], fun k hk hne => Below.heap_setCell w p v k (by intro e; exact hne (by rw [e]))⟩
theorem Gr2.set {w w1 : World} {rb : Nat} {a : Option Addr} (h : Gr2 w w1 rb a) {p : Addr} (hp : w.heap.size ≤ p.block) (v : Value) : Gr2 w (w1.setCell p v) rb a := by
  have hg := set_grown w1 p v
  exact ⟨hg.os.trans h.os, hg.tape.trans h.tape, hg.output.trans h.output, Nat.le_trans h.size hg.size, fun i hi h1 h2 => (hg.block i (Nat.lt_of_lt_of_le hi h.size) (by intro e; have : i = p.block := Option.some.inj e; omega)).trans (h.block i hi h1 h2)⟩
theorem RD.other {w : World} {rb : Nat} {ca : Option Addr} {cc : Nat} {cs : List Int} (h : RD w rb ca cc cs) {p : Addr} (hp : rb < p.block) (v : Value) : RD (w.setCell p v) rb ca cc cs := h.grown (set_grown w p v) hp
theorem R2.row {w w' : World} {b B n c : Nat} {v0 v1 : Value} {a : Option Addr} {zs : List Int} (h : R2 w b v0 v1) (ho : Own w B a c zs) (hg : w.grownBy w' (Value.slice a n c).ownBlock) (hne : ∀ g, a = some ⟨g, 0, none⟩ → b ≠ g) : R2 w' b v0 v1 := by
  cases a with
  | none => exact h.below ⟨hg.os, hg.tape, hg.output, hg.size, fun k hk => hg.block k hk (by intro e; cases e)⟩
  | some x =>
    obtain ⟨g, rfl⟩ := own_form ho x rfl
    exact h.grown (g := g) hg (hne g rfl)
/-- The table of formats, and that of 64. -/
structure Ts (w : World) : Prop where
  f : Tab w
  t64 : Tb w 4 Lib.deBruijn64tab
theorem Ts.below {w w' : World} (h : Ts w) (hb : Below w.heap.size w w') : Ts w' := ⟨h.f.below hb, h.t64.below (by decide) hb⟩
theorem Ts.al {w : World} (h : Ts w) (o : Obj) : Ts (w.alloc o) := h.below ((Below.refl _ _).alloc (Nat.le_refl _) _)
theorem Ts.dr {w : World} (h : Ts w) : Ts w.drew := ⟨⟨h.f.c0, h.f.c1, h.f.c2, h.f.c3, h.f.c4, h.f.c5, h.f.c6, h.f.c7, h.f.c8⟩, h.t64⟩
theorem bitAt_n (ng : Bool) (a : Nat) (i : Int) (p : Option Addr) (c : Nat) (w : World) (hs : Sl .u32 w (.slice p (Nm.lim a).length c) (Nm.lim a)) (hl : bitLen a ≤ 20000) (h0 : 0 ≤ i) (h1 : i ≤ 100000) :
    Calls Tryz.prog 183 #[.agg #[.bool ng, .slice p (Nm.lim a).length c], .int .i64 i] w fun e w' => e = .returned (.bool (decide (a / 2 ^ i.toNat % 2 = 1))) ∧ Below w.heap.size w w' := by
  have hlen := lim_len (x := a) (k := 20000) (by omega)
  obtain ⟨wh, r, hq, hm, hw, hr⟩ := parts32 i h0 (by omega)
  have hd := (Nm.lim_dg a).getD wh
  obtain ⟨x, hx⟩ : ∃ x, x = (Nm.lim a).getD wh 0 := ⟨_, rfl⟩
  rw [← hx] at hd
  have hla := fun w' h => limbAt_any p c (Nm.lim a) wh w' h (by omega) (by omega)
  rw [← hx] at hla
  have HLA := hid hla
  clear hla
  have hbl := bit_limb a wh r hr
  rw [← hx, show 32 * wh + r = i.toNat by omega] at hbl
  have HR : Hid (decide (a / 2 ^ i.toNat % 2 = 1) = (x / (2 : Int) ^ r % 2 == 1)) := hid (by
    have e : ((2 ^ r : Nat) : Int) = (2 : Int) ^ r := by simp
    rw [e] at hbl
    rw [hbl, Bool.eq_iff_iff, decide_eq_true_eq, beq_iff_eq]; omega)
  have hxr : 0 ≤ x / (2 : Int) ^ r ∧ x / (2 : Int) ^ r < 4294967296 := by
    have hp : (0 : Int) < (2 : Int) ^ r := Int.pow_pos (by decide)
    exact ⟨Int.ediv_nonneg hd.1 (by omega), Int.lt_of_le_of_lt (Int.ediv_le_self _ hd.1) hd.2⟩
  have hand : bits .and .u32 (x / (2 : Int) ^ r) 1 = x / (2 : Int) ^ r % 2 := by
    obtain ⟨n, hn⟩ : ∃ n : Nat, x / (2 : Int) ^ r = n := ⟨(x / (2 : Int) ^ r).toNat, by omega⟩
    rw [hn] at hxr ⊢
    have h := u32_and_nat n 1 (by omega) (by decide)
    rw [show ((1 : Nat) : Int) = 1 from rfl] at h
    rw [h, Nat.and_one_is_mod]; simp
  clear hbl hx hxr
  go_enter Tryz.func183, Tryz.ntmps183
  go_wp2_with fail
  refine (HLA.out _ (hs.alloc _)).mono ?_
  rintro e w1 ⟨rfl, rfl⟩
  go_wp2
  go_ret
  exact ⟨ret_bool HR.out.symm, (by repeat (first | exact bz0 _ _ | refine bz1 ?_ | refine bz2 ?_ _ | refine bz3 ?_ _ | refine bz5 ?_ _ | refine bz6 ?_ _))⟩
theorem store_func (P : Program) (w : World) (a : Addr) (f : Fn) (xs ys) (m) : (store a (.func f xs ys) m).run P w = stored P w a (.func f xs ys) m := run_store P w a _ m rfl
attribute [local go_sem] store_func
/-- The function of a mode. -/
def ruleF (m : Int) : Nat := if m = 0 then 174 else if m = 1 then 175 else if m = 2 then 176 else if m = 3 then 177 else if m = 4 then 178 else 179
theorem ruleOf_any (m : Int) (w : World) (h : modeB m = true) :
    Calls Tryz.prog 98 #[.int .i64 m] w fun e w' => e = .returned (.func (.func (ruleF m)) #[] #[]) ∧ Below w.heap.size w w' := by
  rcases mode_cases h with rfl | rfl | rfl | rfl | rfl | rfl
  all_goals
    go_enter Tryz.func98, Tryz.ntmps98
    go_wp2
    go_ret
    exact ⟨rfl, (by repeat (first | exact bz0 _ _ | refine bz1 ?_ | refine bz2 ?_ _ | refine bz3 ?_ _ | refine bz5 ?_ _ | refine bz6 ?_ _))⟩
/-- A function tells of what is cut off what this mode does. -/
def Rule (fid : Nat) (R : Bool → Int → Bool → Bool) : Prop := (∀ (args : Array Value) (w : World), (callFunc fid args).run Tryz.prog w = .ok (.enter fid args) w) ∧ ∀ (ng od : Bool) (h : Int) (w : World), (h = -1 ∨ h = 0 ∨ h = 1) →
  Calls Tryz.prog fid #[.agg #[.bool ng, .bool od, .int .i64 h]] w fun e w' => e = .returned (.bool (R od h ng)) ∧ Below w.heap.size w w'
theorem rule_0 : Rule 174 (fun od h ng => upB 0 od h ng) := by
  have k1 : (Tryz.f174.name == "runtime.NumGoroutine") = false := by kernel_rfl
  have k2 : Tryz.f174.body.isNone = false := by kernel_rfl
  have k3 : ¬ Tryz.f174.name = "runtime.NumGoroutine" := by simpa using k1
  have k4 : ¬ Tryz.f174.body = none := by intro h; rw [h] at k2; cases k2
  refine ⟨fun args w => by simp [callFunc, go_sem, Tryz.func174, k3, k4], ?_⟩
  clear k1 k2 k3 k4
  intro ng od h w hh
  rcases hh with rfl | rfl | rfl
  all_goals
    cases ng <;> cases od
    all_goals
      go_enter Tryz.func174, Tryz.ntmps174
      go_wp2
      go_ret
      exact ⟨rfl, (by repeat (first | exact bz0 _ _ | refine bz1 ?_ | refine bz2 ?_ _ | refine bz3 ?_ _ | refine bz5 ?_ _ | refine bz6 ?_ _))⟩
theorem rule_1 : Rule 175 (fun od h ng => upB 1 od h ng) := by
  have k1 : (Tryz.f175.name == "runtime.NumGoroutine") = false := by kernel_rfl
  have k2 : Tryz.f175.body.isNone = false := by kernel_rfl
  have k3 : ¬ Tryz.f175.name = "runtime.NumGoroutine" := by simpa using k1
  have k4 : ¬ Tryz.f175.body = none := by intro h; rw [h] at k2; cases k2
  refine ⟨fun args w => by simp [callFunc, go_sem, Tryz.func175, k3, k4], ?_⟩
  clear k1 k2 k3 k4
  intro ng od h w hh
  rcases hh with rfl | rfl | rfl
  all_goals
    cases ng <;> cases od
    all_goals
      go_enter Tryz.func175, Tryz.ntmps175
      go_wp2
      go_ret
      exact ⟨rfl, (by repeat (first | exact bz0 _ _ | refine bz1 ?_ | refine bz2 ?_ _ | refine bz3 ?_ _ | refine bz5 ?_ _ | refine bz6 ?_ _))⟩
theorem rule_2 : Rule 176 (fun od h ng => upB 2 od h ng) := by
  have k1 : (Tryz.f176.name == "runtime.NumGoroutine") = false := by kernel_rfl
  have k2 : Tryz.f176.body.isNone = false := by kernel_rfl
  have k3 : ¬ Tryz.f176.name = "runtime.NumGoroutine" := by simpa using k1
  have k4 : ¬ Tryz.f176.body = none := by intro h; rw [h] at k2; cases k2
  refine ⟨fun args w => by simp [callFunc, go_sem, Tryz.func176, k3, k4], ?_⟩
  clear k1 k2 k3 k4
  intro ng od h w hh
  rcases hh with rfl | rfl | rfl
  all_goals
    cases ng <;> cases od
    all_goals
      go_enter Tryz.func176, Tryz.ntmps176
      go_wp2
      go_ret
      exact ⟨rfl, (by repeat (first | exact bz0 _ _ | refine bz1 ?_ | refine bz2 ?_ _ | refine bz3 ?_ _ | refine bz5 ?_ _ | refine bz6 ?_ _))⟩
theorem rule_3 : Rule 177 (fun od h ng => upB 3 od h ng) := by
  have k1 : (Tryz.f177.name == "runtime.NumGoroutine") = false := by kernel_rfl
  have k2 : Tryz.f177.body.isNone = false := by kernel_rfl
  have k3 : ¬ Tryz.f177.name = "runtime.NumGoroutine" := by simpa using k1
  have k4 : ¬ Tryz.f177.body = none := by intro h; rw [h] at k2; cases k2
  refine ⟨fun args w => by simp [callFunc, go_sem, Tryz.func177, k3, k4], ?_⟩
  clear k1 k2 k3 k4
  intro ng od h w hh
  rcases hh with rfl | rfl | rfl
  all_goals
    cases ng <;> cases od
    all_goals
      go_enter Tryz.func177, Tryz.ntmps177
      go_wp2
      go_ret
      exact ⟨rfl, (by repeat (first | exact bz0 _ _ | refine bz1 ?_ | refine bz2 ?_ _ | refine bz3 ?_ _ | refine bz5 ?_ _ | refine bz6 ?_ _))⟩
theorem rule_4 : Rule 178 (fun od h ng => upB 4 od h ng) := by
  have k1 : (Tryz.f178.name == "runtime.NumGoroutine") = false := by kernel_rfl
  have k2 : Tryz.f178.body.isNone = false := by kernel_rfl
  have k3 : ¬ Tryz.f178.name = "runtime.NumGoroutine" := by simpa using k1
  have k4 : ¬ Tryz.f178.body = none := by intro h; rw [h] at k2; cases k2
  refine ⟨fun args w => by simp [callFunc, go_sem, Tryz.func178, k3, k4], ?_⟩
  clear k1 k2 k3 k4
  intro ng od h w hh
  rcases hh with rfl | rfl | rfl
  all_goals
    cases ng <;> cases od
    all_goals
      go_enter Tryz.func178, Tryz.ntmps178
      go_wp2
      go_ret
      exact ⟨rfl, (by repeat (first | exact bz0 _ _ | refine bz1 ?_ | refine bz2 ?_ _ | refine bz3 ?_ _ | refine bz5 ?_ _ | refine bz6 ?_ _))⟩
theorem rule_5 : Rule 179 (fun od h ng => upB 5 od h ng) := by
  have k1 : (Tryz.f179.name == "runtime.NumGoroutine") = false := by kernel_rfl
  have k2 : Tryz.f179.body.isNone = false := by kernel_rfl
  have k3 : ¬ Tryz.f179.name = "runtime.NumGoroutine" := by simpa using k1
  have k4 : ¬ Tryz.f179.body = none := by intro h; rw [h] at k2; cases k2
  refine ⟨fun args w => by simp [callFunc, go_sem, Tryz.func179, k3, k4], ?_⟩
  clear k1 k2 k3 k4
  intro ng od h w hh
  rcases hh with rfl | rfl | rfl
  all_goals
    cases ng <;> cases od
    all_goals
      go_enter Tryz.func179, Tryz.ntmps179
      go_wp2
      go_ret
      exact ⟨rfl, (by repeat (first | exact bz0 _ _ | refine bz1 ?_ | refine bz2 ?_ _ | refine bz3 ?_ _ | refine bz5 ?_ _ | refine bz6 ?_ _))⟩
theorem rule_any (m : Int) (h : modeB m = true) : Rule (ruleF m) (fun od h ng => upB m od h ng) := by
  rcases mode_cases h with rfl | rfl | rfl | rfl | rfl | rfl
  · exact rule_0
  · exact rule_1
  · exact rule_2
  · exact rule_3
  · exact rule_4
  · exact rule_5
theorem ok_lim {a : Nat} (ha : a ≠ 0) (hl : bitLen a ≤ 6400) (ng : Bool) : okB ng (Nm.lim a) = true := by
  have hlen := lim_len (x := a) (k := 200) (by omega)
  have hne : (Nm.lim a).length ≠ 0 := fun h => ha ((Nm.lim_length_zero a).1 h)
  have hz := Nm.lim_nz a
  unfold okB
  rw [if_neg hne, decide_eq_true hlen, Bool.true_and]
  have : (Nm.lim a).getD ((Nm.lim a).length - 1) 0 ≠ 0 := by
    apply hz
    rw [List.getLast?_eq_getElem?, List.getD_eq_getElem?_getD, List.getElem?_eq_getElem (by omega)]; rfl
  rw [decide_eq_false this]; rfl
theorem fits_nat {x : Nat} (h : bitLen x ≤ 6400) : Nm.fits (x : Int) = true := by
  unfold Nm.fits; rw [wl_nat]; exact decide_eq_true (lim_len (k := 200) (by omega))
theorem wsh_n (a : Nat) (n : Int) (p : Option Addr) (c : Nat) (w : World) (hs : Sl .u32 w (.slice p (Nm.lim a).length c) (Nm.lim a)) (ha : a ≠ 0) (hl : bitLen a ≤ 6400) (h0 : -10000 ≤ n) (h1 : n ≤ 10000) (hf : bitLen (Nm.sh a n) ≤ 6400) :
    Calls Tryz.prog 40 #[.agg #[.bool false, .slice p (Nm.lim a).length c], .int .i64 n] w fun e w' => ∃ a' c', e = .returned (.tuple #[.agg #[.bool false, .slice a' (Nm.lim (Nm.sh a n)).length c'], .bool true]) ∧ Own w' w.heap.size a' c' (Nm.lim (Nm.sh a n)) ∧ Below w.heap.size w w' := by
  have h := wsh_impl false p c (Nm.lim a) n w hs (Nm.lim_dg a) (by have := lim_len (x := a) (k := 200) (by omega); omega)
  have e1 : (okB false (Nm.lim a) && inZ n (-10000) 10000) = true := by
    rw [ok_lim ha hl]; simp [inZ]; omega
  have e2 : Nm.shV false (Nm.val (Nm.lim a)) n = ((Nm.sh a n : Nat) : Int) := by rw [Nm.lim_val, Nm.shV_sh]
  rw [e1, e2] at h
  have e3 := fits_nat hf
  have e4 := out_fits e3
  rw [(op_yes _).1, (op_yes _).2.1, (op_yes _).2.2, e3, e4.1, e4.2, wn_nat, wl_nat] at h
  exact h
theorem small_n (x : Nat) (a : Option Addr) (c : Nat) (w : World) (hx : Sl .u32 w (.slice a (Nm.lim x).length c) (Nm.lim x)) (h : x < 9223372036854775808) :
    Calls Tryz.prog 181 #[.agg #[.bool false, .slice a (Nm.lim x).length c]] w fun e w' => e = .returned (.tuple #[.int .i64 (x : Nat), .bool true]) ∧ Below w.heap.size w w' := by
  have h2 := lim_two (x := x) (by omega)
  have h' := smi_any false a c (Nm.lim x) w hx (Nm.lim_dg x) (by omega)
  have hok : okB false (Nm.lim x) = true := by
    by_cases h0 : x = 0
    · subst h0; rw [Nm.lim_zero]; rfl
    · exact ok_lim h0 (by have := (Nm.bl_le_iff x 64).2 (by omega); omega) false
  rw [(sm_yes hok h2).1, (sm_yes hok h2).2, two_val rfl h2] at h'
  have e1 : smI false (x : Int) = (x : Int) := by unfold smI; rw [if_neg (by decide), if_pos (by omega)]
  have e2 : smB false (x : Int) = true := by unfold smB; rw [if_neg (by decide)]; exact decide_eq_true (by omega)
  rw [e1, e2] at h'
  exact h'
theorem lz_n (ng : Bool) (x : Nat) (a : Option Addr) (c : Nat) (w : World) (hT : Tb w 3 Lib.deBruijn32tab) (hx : Sl .u32 w (.slice a (Nm.lim x).length c) (Nm.lim x)) (h0 : x ≠ 0) (hl : bitLen x ≤ 6400) :
    Calls Tryz.prog 182 #[.agg #[.bool ng, .slice a (Nm.lim x).length c]] w fun e w' => e = .returned (.int .i64 (Nm.tz x : Nat)) ∧ Below w.heap.size w w' := by
  have h := lz_impl ng a c (Nm.lim x) w hT hx (Nm.lim_dg x) (by have := lim_len (x := x) (k := 200) (by omega); omega)
  have e : lzW ng (Nm.lim x) = (Nm.tz x : Int) := by
    unfold lzW
    rw [ok_lim h0 hl, decide_eq_false (fun h => h0 ((Nm.lim_length_zero x).1 h)), Nm.lim_val]; simp
  rw [e] at h
  exact h
end Go.Proofs.YtbhfbaogmkgmiaaGreatDoor
