/-
  What is needed of Laid, DrawA, Facts.
-/
import Derived.Test.YtkfjmcdniohljaaGreatDoorCards
import Derived.Test.YtkfjmcdniohljaaGreatDoorTie
import Derived.ProofKit
import Derived.OpenShut
import Derived.WalkSmall
import Derived.Deep.DeepHandedRow
import Derived.Deep.Strs
import Derived.Lib.LaidTab
import Derived.Laws.Closers25b
import Derived.Test.YtkfjmcdniohljaaGreatDoorE05
set_option maxHeartbeats 16000000
set_option maxRecDepth 1000000
namespace Go.Proofs.YtkfjmcdniohljaaGreatDoor
set_option linter.unusedVariables false
set_option linter.unusedSimpArgs false
namespace Ld
open Go.RowKit Go.Deep
theorem own : ownKnob Tryz.prog.godebug = none := by kernel_rfl
theorem laidOut : laidOutB Tryz.prog = true := by kernel_rfl
theorem gTab : Tryz.prog.globalNamed "loop.example/g00672/impl.formSizes" = some 1 := by kernel_rfl
theorem gTabType : (Tryz.prog.globals[1]?).map (·.type) = some 187 := by kernel_rfl
theorem cellsS : Tryz.prog.cellsOf 121 = 3 := by kernel_rfl
theorem cellsU : Tryz.prog.cellsOf 22 = 1 := by kernel_rfl
theorem cellsI : Tryz.prog.cellsOf 2 = 1 := by kernel_rfl

theorem lt_of_var {P : Program} {w : World} {n : String} {g : Nat} {cs : Array Value} (hg : P.globalNamed n = some g) (h : w.var? P n = some cs) : g < w.heap.size := by
  simp only [World.var?, hg, Option.bind_some] at h
  by_cases hlt : g < w.heap.size
  · exact hlt
  · rw [Array.getElem?_eq_none (by omega)] at h; simp at h

/-- One row of the table: its three cells. -/
theorem three {H : Type} {enc : TypeId × Value → H} {w : World} {base : Nat} {sp : Nat → Bool} {held : Bool} {m : Nat} {cs : List Value} {a b c : Int} {q : List MemPlace}
    (h : DataW.trod enc Tryz.prog w base sp held m 121 cs = some (.agg [.lit (.int .u64 a), .lit (.int .u64 b), .lit (.int .i64 c)], q)) :
    cs[0]? = some (.int .u64 a) ∧ cs[1]? = some (.int .u64 b) ∧ cs[2]? = some (.int .i64 c) := by
  obtain ⟨y0, y1, y2, n, hx, hl, h0, h1, h2⟩ := trod_struct3 Tryz.underlying121 h
  obtain ⟨n0, e0, rfl, _⟩ := DataW.trod_int Tryz.underlying22 h0
  obtain ⟨n1, e1, rfl, _⟩ := DataW.trod_int Tryz.underlying22 h1
  obtain ⟨n2, e2, rfl, _⟩ := DataW.trod_int Tryz.underlying2 h2
  simp only [Prod.mk.injEq, DataW.agg.injEq, List.cons.injEq, DataW.lit.injEq, Lit.int.injEq, true_and, and_true] at hx
  obtain ⟨⟨rfl, rfl, rfl⟩, _⟩ := hx
  simp only [cellsU, cellsI] at e0 e1 e2
  refine ⟨?_, ?_, ?_⟩
  · have := congrArg (·[0]?) e0; simpa [List.getElem?_take, List.getElem?_drop] using this
  · have := congrArg (·[0]?) e1; simpa [List.getElem?_take, List.getElem?_drop] using this
  · have := congrArg (·[0]?) e2; simpa [List.getElem?_take, List.getElem?_drop] using this

theorem table {W : World} (h : laidMet Tryz.prog [("loop.example/g00672/impl.formSizes", Rows.laid_loop_example_g00672_impl_formSizes)] W) : Tab W := by
  obtain ⟨ps, ⟨g', t', cs, fuel, p, q, hg', ht', hvar, hd, _, _⟩, _⟩ := h
  obtain rfl := Option.some.inj (gTab.symm.trans hg')
  obtain rfl := Option.some.inj (gTabType.symm.trans ht')
  obtain ⟨xs, m, rfl, hx, hlen, hxl, hel⟩ := DataW.trod_array Tryz.underlying187 hd
  match xs, hxl with
  | [x0, x1, x2], _ =>
    simp only [Rows.laid_loop_example_g00672_impl_formSizes, Prod.mk.injEq, DataW.agg.injEq, List.map_cons, List.map_nil, List.cons.injEq, and_true] at hx
    obtain ⟨⟨hx0, hx1, hx2⟩, _⟩ := hx
    have t0 := hel 0 (by decide); have t1 := hel 1 (by decide); have t2 := hel 2 (by decide)
    simp only [cellsS, List.getElem?_cons_zero, List.getElem?_cons_succ] at t0 t1 t2
    obtain ⟨x0a, x0b⟩ := x0; obtain ⟨x1a, x1b⟩ := x1; obtain ⟨x2a, x2b⟩ := x2
    simp only at hx0 hx1 hx2
    subst hx0; subst hx1; subst hx2
    have r0 := three t0; have r1 := three t1; have r2 := three t2
    have cell : ∀ i v, cs.toList[i]? = some v → W.cell? ⟨1, i, none⟩ = some v := fun i v hv => by
      rw [World.var?_cell gTab hvar i]; simpa using hv
    simp [List.getElem?_take, List.getElem?_drop] at r0 r1 r2
    exact ⟨cell 0 _ (by simpa using r0.1), cell 1 _ (by simpa using r0.2.1), cell 2 _ (by simpa using r0.2.2), cell 3 _ (by simpa using r1.1), cell 4 _ (by simpa using r1.2.1), cell 5 _ (by simpa using r1.2.2), cell 6 _ (by simpa using r2.1), cell 7 _ (by simpa using r2.2.1), cell 8 _ (by simpa using r2.2.2)⟩
end Ld
open Go.RowKit Go.Deep
/-- A reader in block rb over the bytes cs. -/
structure RD (w : World) (rb : Nat) (ca : Option Addr) (cc : Nat) (cs : List Int) : Prop where
  p : ∃ p : Nat, p ≤ cs.length ∧ R2 w rb (.slice ca cs.length cc) (.int .i64 p)
  s : Sl .u8 w (.slice ca cs.length cc) cs
  ne : 0 < cs.length → ∀ b off, ca = some ⟨b, off, none⟩ → b < rb
  by_ : ∀ i, 0 ≤ cs.getD i 0 ∧ cs.getD i 0 ≤ 255
  len : cs.length ≤ 1048576
theorem Sl.any {k : IntKind} {w w' : World} {v : Value} {zs : List Int} (h : Sl k w v zs) (h0 : ¬ 0 < zs.length) : Sl k w' v zs := by
  obtain ⟨a, cap, rfl, h1, h2, h3⟩ := h
  exact ⟨a, cap, rfl, h1, h2, .inl (List.eq_nil_of_length_eq_zero (by omega))⟩
theorem Sl.grownNe {k : IntKind} {w w' : World} {ca : Option Addr} {n cc g : Nat} {zs : List Int} (h : Sl k w (.slice ca n cc) zs) (hg : w.grownBy w' (some g)) (hne : 0 < zs.length → ∀ b off, ca = some ⟨b, off, none⟩ → b ≠ g) : Sl k w' (.slice ca n cc) zs := by
  by_cases h0 : 0 < zs.length
  · refine h.grown hg (fun g' hg' => ?_)
    cases hg'
    right
    intro b off n cap he
    cases he
    exact hne h0 b off rfl
  · exact h.any h0
theorem grown_trans {w w1 w2 : World} {row : Option Nat} (h : w.grownBy w1 row) (k : w1.grownBy w2 row) : w.grownBy w2 row :=
  ⟨k.os.trans h.os, k.tape.trans h.tape, k.output.trans h.output, Nat.le_trans h.size k.size, fun i hi hne => (k.block i (Nat.lt_of_lt_of_le hi h.size) hne).trans (h.block i hi hne)⟩
theorem grown_refl (w : World) (row : Option Nat) : w.grownBy w row := ⟨rfl, rfl, rfl, Nat.le_refl _, fun _ _ _ => rfl⟩
theorem grown_below {w w' : World} (h : Below w.heap.size w w') (row : Option Nat) : w.grownBy w' row := ⟨h.os, h.tape, h.output, h.size, fun i hi _ => h.block i hi⟩
theorem grown_alloc {w w' : World} {row : Option Nat} (h : w.grownBy w' row) (o : Obj) : w.grownBy (w'.alloc o) row :=
  grown_trans h (grown_below ((Below.refl _ _).alloc (Nat.le_refl _) _) row)
theorem RD.lt {w : World} {rb : Nat} {ca : Option Addr} {cc : Nat} {cs : List Int} (h : RD w rb ca cc cs) : rb < w.heap.size := by
  obtain ⟨p, _, r⟩ := h.p; exact World.block_lt_of_cell? w _ r.c0
theorem RD.below {w w' : World} {rb : Nat} {ca : Option Addr} {cc : Nat} {cs : List Int} (h : RD w rb ca cc cs) (hb : Below w.heap.size w w') : RD w' rb ca cc cs := by
  obtain ⟨⟨p, hp, r⟩, s, ne, hby, hl⟩ := h
  exact ⟨⟨p, hp, r.below hb⟩, s.below hb, ne, hby, hl⟩
theorem RD.alloc {w : World} {rb : Nat} {ca : Option Addr} {cc : Nat} {cs : List Int} (h : RD w rb ca cc cs) (o : Obj) : RD (w.alloc o) rb ca cc cs := h.below ((Below.refl _ _).alloc (Nat.le_refl _) _)
theorem RD.drew {w : World} {rb : Nat} {ca : Option Addr} {cc : Nat} {cs : List Int} (h : RD w rb ca cc cs) : RD w.drew rb ca cc cs := by
  obtain ⟨⟨p, hp, r⟩, s, ne, hby, hl⟩ := h
  exact ⟨⟨p, hp, r.drew⟩, s.drew, ne, hby, hl⟩
theorem RD.grown {w w' : World} {rb g : Nat} {ca : Option Addr} {cc : Nat} {cs : List Int} (h : RD w rb ca cc cs) (hg : w.grownBy w' (some g)) (h1 : rb < g) : RD w' rb ca cc cs := by
  obtain ⟨⟨p, hp, r⟩, s, ne, hby, hl⟩ := h
  exact ⟨⟨p, hp, r.grown hg (by omega)⟩, s.grownNe hg (fun h0 b off he => by have := ne h0 b off he; omega), ne, hby, hl⟩
/-- The place is set. -/
theorem RD.set {w : World} {rb : Nat} {ca : Option Addr} {cc : Nat} {cs : List Int} (h : RD w rb ca cc cs) (q : Nat) (hq : q ≤ cs.length) : RD (w.setCell ⟨rb, 1, none⟩ (.int .i64 q)) rb ca cc cs ∧ w.grownBy (w.setCell ⟨rb, 1, none⟩ (.int .i64 q)) (some rb) := by
  obtain ⟨⟨p, hp, r⟩, s, ne, hby, hl⟩ := h
  have hg : w.grownBy (w.setCell ⟨rb, 1, none⟩ (.int .i64 q)) (some rb) :=
    ⟨by simp [World.setCell], by simp [World.setCell], by simp [World.setCell], by simp [World.setCell], fun i hi hne => Below.heap_setCell w ⟨rb, 1, none⟩ _ i (by simpa using hne)⟩
  refine ⟨⟨⟨q, hq, ?_⟩, s.grownNe hg (fun h0 b off he => by have := ne h0 b off he; omega), ne, hby, hl⟩, hg⟩
  obtain ⟨c0, c1, f0, f1⟩ := r
  exact ⟨by simp [go_sem, c0, c1], by simp [go_sem, c0, c1], by simp [go_sem, f0, f1], by simp [go_sem, f0, f1]⟩
theorem next_any (rb : Nat) (ca : Option Addr) (cc : Nat) (cs : List Int) (w : World) (hr : RD w rb ca cc cs) :
    Calls Tryz.prog 191 #[.pointer (some ⟨rb, 0, none⟩)] w fun e w' => ∃ v : Int, e = .returned (.int .i64 v) ∧ 0 ≤ v ∧ v ≤ 255 ∧ RD w' rb ca cc cs ∧ w.grownBy w' (some rb) := by
  obtain ⟨p, hp, r⟩ := hr.p
  obtain ⟨c0, c1, f0, f1⟩ := r
  have hl := hr.len
  by_cases hlt : p < cs.length
  · have hset := hr.set (p + 1) (by omega)
    rw [show ((p + 1 : Nat) : Int) = (p : Int) + 1 from rfl] at hset
    have hby := hr.by_ p
    obtain ⟨-, hx1, hx2, hx3⟩ := hr.s.cells
    obtain ⟨b, off, rfl, hcx⟩ := hx3 (by omega)
    have hca := hcx p hlt
    have hne := hr.ne (by omega) b off rfl
    obtain ⟨x, hxk⟩ : ∃ x, x = cs.getD p 0 := ⟨_, rfl⟩
    rw [← hxk] at hca hby
    obtain ⟨b0, b1⟩ := hby
    have HSET := hid hset
    have HR := hid hr
    have hne' : rb ≠ b := by omega
    clear hset hx3 hcx hxk hr
    have k0 : (0 : Int) ≤ (p : Int) := by omega
    have k1 : (p : Int) < (cs.length : Int) := by omega
    go_enter Tryz.func191, Tryz.ntmps191
    go_wp2_with fail
    go_region
    all_goals go_wp2_with fail
    all_goals go_region
    all_goals go_wp2_with fail
    all_goals go_ret
    all_goals exact ⟨x, rfl, b0, b1, HSET.out.1.below (by exact (by repeat (first | exact bz0 _ _ | refine bz1 ?_ | refine bz2 ?_ _ | refine bz3 ?_ _ | refine bz5 ?_ _ | refine bz6 ?_ _))), grown_trans HSET.out.2 (grown_below (by exact (by repeat (first | exact bz0 _ _ | refine bz1 ?_ | refine bz2 ?_ _ | refine bz3 ?_ _ | refine bz5 ?_ _ | refine bz6 ?_ _))) _)⟩
  · go_enter Tryz.func191, Tryz.ntmps191
    go_wp2_with fail
    go_region
    all_goals go_wp2
    all_goals go_ret
    all_goals exact ⟨0, rfl, by omega, by omega, hr.below (by exact (by repeat (first | exact bz0 _ _ | refine bz1 ?_ | refine bz2 ?_ _ | refine bz3 ?_ _ | refine bz5 ?_ _ | refine bz6 ?_ _))), grown_below (by repeat (first | exact bz0 _ _ | refine bz1 ?_ | refine bz2 ?_ _ | refine bz3 ?_ _ | refine bz5 ?_ _ | refine bz6 ?_ _)) _⟩
theorem below_any (rb : Nat) (ca : Option Addr) (cc : Nat) (cs : List Int) (n : Int) (w : World) (hr : RD w rb ca cc cs) (h1 : 1 ≤ n) (h2 : n ≤ 1000000) :
    Calls Tryz.prog 99 #[.pointer (some ⟨rb, 0, none⟩), .int .i64 n] w fun e w' => ∃ v : Int, e = .returned (.int .i64 v) ∧ 0 ≤ v ∧ v < n ∧ RD w' rb ca cc cs ∧ w.grownBy w' (some rb) := by
  by_cases c1 : n ≤ 1
  · go_enter Tryz.func99, Tryz.ntmps99
    go_wp2
    go_ret
    exact ⟨0, rfl, by omega, by omega, hr, grown_refl _ _⟩
  · by_cases c2 : n ≤ 256
    · go_enter Tryz.func99, Tryz.ntmps99
      go_wp2_with fail
      refine (next_any rb ca cc cs _ hr).mono ?_
      rintro e w1 ⟨v, rfl, v0, v1, hr1, hg1⟩
      go_wp2
      go_ret
      exact ⟨v % n, rfl, Int.emod_nonneg v (by omega), Int.emod_lt_of_pos v (by omega), hr1, hg1⟩
    · go_enter Tryz.func99, Tryz.ntmps99
      go_wp2_with fail
      refine (next_any rb ca cc cs _ hr).mono ?_
      rintro e w1 ⟨v, rfl, v0, v1, hr1, hg1⟩
      go_wp2_with fail
      refine (next_any rb ca cc cs _ hr1).mono ?_
      rintro e w2 ⟨u, rfl, u0, u1, hr2, hg2⟩
      go_wp2
      go_ret
      exact ⟨(v * 256 + u) % n, rfl, Int.emod_nonneg _ (by omega), Int.emod_lt_of_pos _ (by omega), hr2, grown_trans hg1 hg2⟩
theorem once_any (rb : Nat) (ca : Option Addr) (cc : Nat) (cs : List Int) (n : Int) (w : World) (hr : RD w rb ca cc cs) (h1 : 1 ≤ n) (h2 : n ≤ 1000000) :
    Calls Tryz.prog 97 #[.pointer (some ⟨rb, 0, none⟩), .int .i64 n] w fun e w' => ∃ v : Bool, e = .returned (.bool v) ∧ RD w' rb ca cc cs ∧ w.grownBy w' (some rb) := by
  go_enter Tryz.func97, Tryz.ntmps97
  go_wp2_with fail
  refine (below_any rb ca cc cs n _ hr h1 h2).mono ?_
  rintro e w1 ⟨v, rfl, v0, v1, hr1, hg1⟩
  go_wp2
  go_ret
  exact ⟨_, rfl, hr1, hg1⟩
theorem word_any (rb : Nat) (ca : Option Addr) (cc : Nat) (cs : List Int) (w : World) (hr : RD w rb ca cc cs) :
    Calls Tryz.prog 222 #[.pointer (some ⟨rb, 0, none⟩)] w fun e w' => ∃ v : Int, e = .returned (.int .u64 v) ∧ 0 ≤ v ∧ v < 18446744073709551616 ∧ RD w' rb ca cc cs ∧ w.grownBy w' (some rb) := by
  have HR := hid hr
  clear hr
  go_enter Tryz.func222, Tryz.ntmps222
  go_wp2_with fail
  go_loopw [3, 4] (fun xv iv wr => ∃ i : Nat, ∃ x : Int, i ≤ 8 ∧ iv = .int .i64 i ∧ xv = .int .u64 x ∧ 0 ≤ x ∧ x < 18446744073709551616 ∧ RD wr rb ca cc cs ∧ w.grownBy wr (some rb)) (fun _ iv _ => 8 - (intOf iv).toNat)
  case atStart => exact ⟨0, 0, by omega, rfl, rfl, by omega, by omega, HR.out, grown_refl _ _⟩
  case round =>
    obtain ⟨i, x, hi, rfl, rfl, x0, x1, hr1, hg1⟩ := hrel
    by_cases hlt : i < 8
    · go_wp2_with fail
      refine (next_any rb ca cc cs _ hr1).mono ?_
      rintro e w1 ⟨v, rfl, v0, v1, hr2, hg2⟩
      go_wp2_with fail
      have lo := bits_lo_u64 .or (IntKind.u64.wrap (x * 256)) v
      have hi' := bits_hi_u64 .or (IntKind.u64.wrap (x * 256)) v
      go_roundw
      case rel => exact ⟨i + 1, _, by omega, by go_num, rfl, lo, by omega, hr2, grown_trans hg1 hg2⟩
      case measure => simp [intOf]; omega
    · obtain rfl : i = 8 := by omega
      go_wp2
      go_ret
      exact ⟨x, rfl, x0, x1, hr1, hg1⟩
theorem open_any (ca : Option Addr) (cc : Nat) (cs : List Int) (w : World) (hs : Sl .u8 w (.slice ca cs.length cc) cs) (hby : ∀ i, 0 ≤ cs.getD i 0 ∧ cs.getD i 0 ≤ 255) (hl : cs.length ≤ 1048576)  :
    Calls Tryz.prog 94 #[.slice ca cs.length cc] w fun e w' => e = .returned (.pointer (some ⟨w.heap.size, 0, none⟩)) ∧ RD w' w.heap.size ca cc cs ∧ Below w.heap.size w w' := by
  go_enter Tryz.func94, Tryz.ntmps94
  go_wp2
  go_ret
  refine ⟨rfl, ⟨⟨0, Nat.zero_le _, R2.new w _ _ _⟩, hs.alloc _, fun h0 b off he => ?_, hby, hl⟩, (by repeat (first | exact bz0 _ _ | refine bz1 ?_ | refine bz2 ?_ _ | refine bz3 ?_ _ | refine bz5 ?_ _ | refine bz6 ?_ _))⟩
  obtain ⟨_, _, _, h3⟩ := hs.cells
  obtain ⟨b', off', e, hc⟩ := h3 h0
  rw [he] at e
  cases e
  have := World.block_lt_of_cell? w _ (hc 0 h0)
  simpa using this
end Go.Proofs.YtkfjmcdniohljaaGreatDoor
namespace Go.Proofs.YtkfjmcdniohljaaGreatDoor
namespace Fc
theorem own : ownKnob Tryz.prog.godebug = none := by kernel_rfl
theorem laidOut : laidOutB Tryz.prog = true := by kernel_rfl
end Fc
end Go.Proofs.YtkfjmcdniohljaaGreatDoor
