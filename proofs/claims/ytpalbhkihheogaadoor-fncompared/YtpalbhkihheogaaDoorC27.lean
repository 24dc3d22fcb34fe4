/-
  What is needed of Laid, Uf, FloatN, ITs, FloatO, FJ, IC, ID, IG.
-/
import Derived.Test.YtpalbhkihheogaaDoorCards
import Derived.Test.YtpalbhkihheogaaDoorTie
import Derived.ProofKit
import Derived.OpenShut
import Derived.WalkSmall
import Derived.Deep.DeepHandedRow
import Derived.Deep.Strs
import Derived.Lib.LaidTab
import Derived.WideLaws
import Derived.Test.YtpalbhkihheogaaDoorC26
set_option maxHeartbeats 16000000
set_option maxRecDepth 1000000
namespace Go.Proofs.YtpalbhkihheogaaDoor
set_option linter.unusedVariables false
set_option linter.unusedSimpArgs false
namespace Ld
open Go.RowKit Go.Deep
theorem own : ownKnob Tryd.prog.godebug = none := by kernel_rfl
theorem laidOut : laidOutB Tryd.prog = true := by kernel_rfl
theorem gTab : Tryd.prog.globalNamed "loop.example/g00672/impl.formSizes" = some 0 := by kernel_rfl
theorem gTabType : (Tryd.prog.globals[0]?).map (·.type) = some 149 := by kernel_rfl
theorem cellsS : Tryd.prog.cellsOf 84 = 3 := by kernel_rfl
theorem cellsU : Tryd.prog.cellsOf 24 = 1 := by kernel_rfl
theorem cellsI : Tryd.prog.cellsOf 2 = 1 := by kernel_rfl

theorem lt_of_var {P : Program} {w : World} {n : String} {g : Nat} {cs : Array Value} (hg : P.globalNamed n = some g) (h : w.var? P n = some cs) : g < w.heap.size := by
  simp only [World.var?, hg, Option.bind_some] at h
  by_cases hlt : g < w.heap.size
  · exact hlt
  · rw [Array.getElem?_eq_none (by omega)] at h; simp at h

/-- One row of the table: its three cells. -/
theorem three {H : Type} {enc : TypeId × Value → H} {w : World} {base : Nat} {sp : Nat → Bool} {held : Bool} {m : Nat} {cs : List Value} {a b c : Int} {q : List MemPlace}
    (h : DataW.trod enc Tryd.prog w base sp held m 84 cs = some (.agg [.lit (.int .u64 a), .lit (.int .u64 b), .lit (.int .i64 c)], q)) :
    cs[0]? = some (.int .u64 a) ∧ cs[1]? = some (.int .u64 b) ∧ cs[2]? = some (.int .i64 c) := by
  obtain ⟨y0, y1, y2, n, hx, hl, h0, h1, h2⟩ := trod_struct3 Tryd.underlying84 h
  obtain ⟨n0, e0, rfl, _⟩ := DataW.trod_int Tryd.underlying24 h0
  obtain ⟨n1, e1, rfl, _⟩ := DataW.trod_int Tryd.underlying24 h1
  obtain ⟨n2, e2, rfl, _⟩ := DataW.trod_int Tryd.underlying2 h2
  simp only [Prod.mk.injEq, DataW.agg.injEq, List.cons.injEq, DataW.lit.injEq, Lit.int.injEq, true_and, and_true] at hx
  obtain ⟨⟨rfl, rfl, rfl⟩, _⟩ := hx
  simp only [cellsU, cellsI] at e0 e1 e2
  refine ⟨?_, ?_, ?_⟩
  · have := congrArg (·[0]?) e0; simpa [List.getElem?_take, List.getElem?_drop] using this
  · have := congrArg (·[0]?) e1; simpa [List.getElem?_take, List.getElem?_drop] using this
  · have := congrArg (·[0]?) e2; simpa [List.getElem?_take, List.getElem?_drop] using this

theorem table {W : World} (h : laidMet Tryd.prog [("loop.example/g00672/impl.formSizes", Rows.laid_loop_example_g00672_impl_formSizes)] W) : Tab W := by
  obtain ⟨ps, ⟨g', t', cs, fuel, p, q, hg', ht', hvar, hd, _, _⟩, _⟩ := h
  obtain rfl := Option.some.inj (gTab.symm.trans hg')
  obtain rfl := Option.some.inj (gTabType.symm.trans ht')
  obtain ⟨xs, m, rfl, hx, hlen, hxl, hel⟩ := DataW.trod_array Tryd.underlying149 hd
  match xs, hxl with
  | [x0, x1, x2], _ =>
    simp only [Rows.laid_loop_example_g00672_impl_formSizes, Prod.mk.injEq, DataW.agg.injEq, List.map_cons, List.map_nil, List.cons.injEq, and_true] at hx
    obtain ⟨⟨hx0, hx1, hx2⟩, _⟩ := hx
    have t0 := hel 0 (by decide); have t1 := hel 1 (by decide); have t2 := hel 2 (by decide)
    simp only [cellsS, List.getElem?_cons_zero, List.getElem?_cons_succ] at t0 t1 t2
    obtain ⟨x0a, x0b⟩ := x0; obtain ⟨x1a, x1b⟩ := x1; obtain ⟨x2a, x2b⟩ := x2
    simp only at hx0 hx1 hx2
    subst hx0; subst hx1; subst hx2
    have r0 := three t0; have r1 := three t1; have r2 := three t2
    have cell : ∀ i v, cs.toList[i]? = some v → W.cell? ⟨0, i, none⟩ = some v := fun i v hv => by
      rw [World.var?_cell gTab hvar i]; simpa using hv
    simp [List.getElem?_take, List.getElem?_drop] at r0 r1 r2
    exact ⟨cell 0 _ (by simpa using r0.1), cell 1 _ (by simpa using r0.2.1), cell 2 _ (by simpa using r0.2.2), cell 3 _ (by simpa using r1.1), cell 4 _ (by simpa using r1.2.1), cell 5 _ (by simpa using r1.2.2), cell 6 _ (by simpa using r2.1), cell 7 _ (by simpa using r2.2.1), cell 8 _ (by simpa using r2.2.2)⟩
end Ld
end Go.Proofs.YtpalbhkihheogaaDoor
namespace Go.Proofs.YtpalbhkihheogaaDoor
set_option linter.unusedVariables false
namespace Fd
def uf (L y : Nat) : Nat := if y < L then y else (y % L + L) * 2 ^ (y / L - 1)
theorem uf_step (L : Nat) (hL : 1 < L) (y : Nat) : uf L y < uf L (y + 1) := by
  unfold uf
  by_cases h1 : y < L
  · rw [if_pos h1]
    by_cases h2 : y + 1 < L
    · rw [if_pos h2]; omega
    · rw [if_neg h2]
      have : y + 1 = L := by omega
      rw [this, Nat.mod_self, Nat.div_self (by omega)]; simp; exact h1
  · have h2 : ¬ y + 1 < L := by omega
    rw [if_neg h1, if_neg h2]
    have hq : 1 ≤ y / L := Nat.div_pos (by omega) (by omega)
    have hm : y % L < L := Nat.mod_lt _ (by omega)
    have hd := Nat.div_add_mod y L
    by_cases h3 : y % L + 1 = L
    · have e : y + 1 = L * (y / L + 1) := by rw [Nat.mul_add]; omega
      rw [e, Nat.mul_mod_right, Nat.mul_div_cancel_left _ (by omega)]
      obtain ⟨q, hq'⟩ : ∃ q, y / L = q + 1 := ⟨y / L - 1, by omega⟩
      rw [hq']
      simp only [Nat.add_sub_cancel, Nat.zero_add]
      rw [Nat.pow_succ, show L * (2 ^ q * 2) = (L + L) * 2 ^ q by rw [Nat.add_mul]; rw [Nat.mul_comm (2 ^ q) 2, ← Nat.mul_assoc, Nat.mul_comm L 2, Nat.mul_assoc, Nat.two_mul]]
      exact Nat.mul_lt_mul_of_pos_right (by omega) (Nat.two_pow_pos _)
    · have e : y + 1 = L * (y / L) + (y % L + 1) := by omega
      have hlt : y % L + 1 < L := by omega
      have e1 : (y + 1) / L = y / L := by
        conv => lhs; rw [e]
        rw [Nat.mul_add_div (by omega), Nat.div_eq_of_lt hlt]; rfl
      have e2 : (y + 1) % L = y % L + 1 := by
        conv => lhs; rw [e]
        rw [Nat.mul_add_mod, Nat.mod_eq_of_lt hlt]
      rw [e1, e2]
      exact Nat.mul_lt_mul_of_pos_right (by omega) (Nat.two_pow_pos _)
theorem uf_mono (L : Nat) (hL : 1 < L) (x : Nat) : ∀ d, uf L x < uf L (x + d + 1)
  | 0 => uf_step L hL x
  | d + 1 => Nat.lt_trans (uf_mono L hL x d) (uf_step L hL _)
theorem uf_lt (L : Nat) (hL : 1 < L) {x y : Nat} (h : x < y) : uf L x < uf L y := by
  have := uf_mono L hL x (y - x - 1)
  rwa [show x + (y - x - 1) + 1 = y by omega] at this
theorem uf_zero (L : Nat) (hL : 1 < L) : uf L 0 = 0 := by unfold uf; rw [if_pos (by omega)]
end Fd
set_option linter.unusedSimpArgs false
open Go.RowKit
/-- M and E of a finite float whose bits without sign are y. -/
def parM (L y : Int) : Int := if y / L = 0 then y % L else y % L + L
def parE (L q y : Int) : Int := if y / L = 0 then q else q + y / L - 1

theorem Tab.al {w : World} (h : Tab w) (o : Obj) : Tab (w.alloc o) := h.below ((Below.refl _ _).alloc (Nat.le_refl _) _)
theorem Tab.dr {w : World} (h : Tab w) : Tab w.drew := ⟨h.c0, h.c1, h.c2, h.c3, h.c4, h.c5, h.c6, h.c7, h.c8⟩
/-- A box of three cells that may be written. -/
structure R3 (w : World) (b : Nat) (v0 v1 v2 : Value) : Prop where
  c0 : w.cell? ⟨b, 0, none⟩ = some v0
  c1 : w.cell? ⟨b, 1, none⟩ = some v1
  c2 : w.cell? ⟨b, 2, none⟩ = some v2
  f0 : w.frozen? ⟨b, 0, none⟩ = false
  f1 : w.frozen? ⟨b, 1, none⟩ = false
  f2 : w.frozen? ⟨b, 2, none⟩ = false
theorem R3.below {w w' : World} {b : Nat} {v0 v1 v2 : Value} (h : R3 w b v0 v1 v2) (hb : Below w.heap.size w w') : R3 w' b v0 v1 v2 := by
  have hlt := World.block_lt_of_cell? w _ h.c0
  exact ⟨(hb.cell (p := ⟨b, 0, none⟩) hlt).trans h.c0, (hb.cell (p := ⟨b, 1, none⟩) hlt).trans h.c1, (hb.cell (p := ⟨b, 2, none⟩) hlt).trans h.c2,
    (hb.frozen (p := ⟨b, 0, none⟩) hlt).trans h.f0, (hb.frozen (p := ⟨b, 1, none⟩) hlt).trans h.f1, (hb.frozen (p := ⟨b, 2, none⟩) hlt).trans h.f2⟩
theorem R3.new (w : World) (v0 v1 v2 : Value) (t : TypeId) : R3 (w.alloc (.cells #[v0, v1, v2] t)) w.heap.size v0 v1 v2 := ⟨by simp, by simp, by simp, by simp, by simp, by simp⟩
theorem R3.dr {w : World} {b : Nat} {v0 v1 v2 : Value} (h : R3 w b v0 v1 v2) : R3 w.drew b v0 v1 v2 := ⟨h.c0, h.c1, h.c2, h.f0, h.f1, h.f2⟩
theorem R3.al {w : World} {b : Nat} {v0 v1 v2 : Value} (h : R3 w b v0 v1 v2) (o : Obj) : R3 (w.alloc o) b v0 v1 v2 := h.below ((Below.refl _ _).alloc (Nat.le_refl _) _)

theorem R3.other {w : World} {b : Nat} {v0 v1 v2 : Value} (h : R3 w b v0 v1 v2) {p : Addr} (hp : b ≠ p.block) (u : Value) : R3 (w.setCell p u) b v0 v1 v2 := by
  have e := Below.heap_setCell w p u b hp
  exact ⟨(World.cell?_of_block (a := ⟨b, 0, none⟩) e).trans h.c0, (World.cell?_of_block (a := ⟨b, 1, none⟩) e).trans h.c1, (World.cell?_of_block (a := ⟨b, 2, none⟩) e).trans h.c2,
    (World.frozen?_of_block (a := ⟨b, 0, none⟩) e).trans h.f0, (World.frozen?_of_block (a := ⟨b, 1, none⟩) e).trans h.f1, (World.frozen?_of_block (a := ⟨b, 2, none⟩) e).trans h.f2⟩
theorem R3.set {w : World} {b : Nat} {v0 v1 v2 : Value} (h : R3 w b v0 v1 v2) (a0 a1 a2 : Value) : R3 (((w.setCell ⟨b, 0, none⟩ a0).setCell ⟨b, 1, none⟩ a1).setCell ⟨b, 2, none⟩ a2) b a0 a1 a2 := by
  obtain ⟨h0, h1, h2, f0, f1, f2⟩ := h
  exact ⟨by simp [go_sem, h0, h1, h2], by simp [go_sem, h0, h1, h2], by simp [go_sem, h0, h1, h2], by simp [go_sem, f0, f1, f2], by simp [go_sem, f0, f1, f2], by simp [go_sem, f0, f1, f2]⟩
theorem ret_parts {s : Bool} {a b a' b' : Int} (h : a = a') (k : b = b') : Ending.returned (.tuple #[.agg #[.bool s, .int .i64 a, .int .i64 b], .bool true]) = .returned (.tuple #[.agg #[.bool s, .int .i64 a', .int .i64 b'], .bool true]) := by rw [h, k]

theorem impl_parts32 (x : Int) (w : World) (hT : Tab w) (hf : finB 32 x = true) (h0 : 0 ≤ x) (h1 : x < 4294967296) (hi : x % 2147483648 < 2139095040) :
    Calls Tryd.prog 19 #[.int .i64 32, .int .u64 x] w fun e w' => e = .returned (.tuple #[.agg #[.bool (sigB 32 x), .int .i64 (parM 8388608 (x % 2147483648)), .int .i64 (parE 8388608 (-149) (x % 2147483648))], .bool true]) ∧ Below w.heap.size w w' := by
  have h1' : x < 18446744073709551616 := by omega
  have HM : Hid (x / 8388608 % 256 = x % 2147483648 / 8388608) := hid (by omega)
  have HN : Hid (x % 8388608 = x % 2147483648 % 8388608) := hid (by omega)
  have hxl : x % 8388608 < 8388608 := by omega
  have hxl0 : 0 ≤ x % 8388608 := by omega
  have hzb : x / 8388608 % 256 < 256 := by omega
  have hzb0 : 0 ≤ x / 8388608 % 256 := by omega
  have hwr : IntKind.i64.wrap (x % 8388608) = x % 8388608 := by rw [IntKind.wrap_i64]; omega
  go_enter Tryd.func19, Tryd.ntmps19
  go_wp2_with fail
  refine (impl_fin 32 x _ (hT.al _) h0 h1').mono ?_
  rintro e w1 ⟨rfl, hb1⟩
  have hT1 := (hT.al _).below hb1
  have r1 := (R3.new w _ _ _ _).below hb1
  go_wp2_with fail
  refine (sizes32 _ hT1).mono ?_
  rintro e w2 ⟨rfl, hb2⟩
  have hT2 := (hT1.below hb2).al (.cells #[.int .u64 23, .int .u64 255, .int .i64 (-149)] 84)
  have r2 := (r1.below hb2).al (.cells #[.int .u64 23, .int .u64 255, .int .i64 (-149)] 84)
  go_wp2_with fail
  refine (parted32 x _ h0 h1').mono ?_
  rintro e w3 ⟨rfl, hb3⟩
  have hT3 := hT2.below hb3
  have r3 := r2.below hb3
  have z3 : R3 w3 w2.heap.size (.int .u64 23) (.int .u64 255) (.int .i64 (-149)) := (R3.new w2 (.int .u64 23) (.int .u64 255) (.int .i64 (-149)) 84).below hb3
  have z30 := z3.c0; have z31 := z3.c1; have z32 := z3.c2
  have l3 : w2.heap.size < w3.heap.size := World.block_lt_of_cell? w3 _ z30
  have l3' : w.heap.size < w3.heap.size := World.block_lt_of_cell? w3 _ r3.c0
  have l3'' : w.heap.size < w2.heap.size := Nat.lt_of_lt_of_le (World.block_lt_of_cell? w1 _ r1.c0) hb2.size
  go_upto_region 5 with fail
  go_cut [10] (fun s wx => ∃ g : Nat, s = .pointer (some ⟨g, 0, none⟩) ∧ w3.heap.size ≤ g ∧ R3 wx g (.bool (sigB 32 x)) (.int .i64 (x % 8388608)) (.int .i64 (-149)) ∧ R3 wx w.heap.size (.bool false) (.int .i64 0) (.int .i64 0) ∧ R3 wx w2.heap.size (.int .u64 23) (.int .u64 255) (.int .i64 (-149)) ∧ Below w.heap.size w wx)
  case first =>
    go_region_with (first
      | (go_at_call 66; refine (impl_sig 32 x _ hT3.dr h0 h1').mono ?_; rintro e w4 ⟨rfl, hb4⟩; have rr4 := r3.dr.below hb4; have zz4 := z3.dr.below hb4; have l4s : w3.heap.size ≤ w4.heap.size := hb4.size; obtain ⟨zc0, zc1, zc2, zf0, zf1, zf2⟩ := zz4; have l4 : w2.heap.size < w4.heap.size := World.block_lt_of_cell? w4 _ zc0)
      | (go_at_call 66; refine (impl_sig 32 x _ (hT3.al _).dr h0 h1').mono ?_; rintro e w4 ⟨rfl, hb4⟩; have rr4 := (r3.al _).dr.below hb4; have zz4 := (z3.al _).dr.below hb4; obtain ⟨zc0, zc1, zc2, zf0, zf1, zf2⟩ := zz4; obtain ⟨pc0, pc1, pc2, pf0, pf1, pf2⟩ := (R3.new w3 _ _ _ _).dr.below hb4; have l4 : w2.heap.size < w4.heap.size := World.block_lt_of_cell? w4 _ zc0))
    all_goals (go_wp2_with fail; go_meet)
    all_goals first
      | exact ⟨w4.heap.size, rfl, l4s, R3.new w4 _ _ _ _, rr4.al _, R3.al ⟨zc0, zc1, zc2, zf0, zf1, zf2⟩ _, (by repeat (first | exact bz0 _ _ | refine bz1 ?_ | refine bz2 ?_ _ | refine bz3 ?_ _ | refine bz4 ?_ hb4 | refine bz4 ?_ hb3 | refine bz4 ?_ hb2 | refine bz4 ?_ hb1 | refine bz5 ?_ _ | refine bz6 ?_ _ | refine bz7 ?_ hb4 | refine bz7 ?_ hb3 | refine bz7 ?_ hb2 | refine bz7 ?_ hb1))⟩
      | exact ⟨w3.heap.size, rfl, Nat.le_refl _, R3.set ⟨pc0, pc1, pc2, pf0, pf1, pf2⟩ _ _ _, ((rr4.other (by simp; omega) _).other (by simp; omega) _).other (by simp; omega) _, ((R3.other ⟨zc0, zc1, zc2, zf0, zf1, zf2⟩ (by simp; omega) _).other (by simp; omega) _).other (by simp; omega) _, (by repeat (first | exact bz0 _ _ | refine bz1 ?_ | refine bz2 ?_ _ | refine bz3 ?_ _ | refine bz4 ?_ hb4 | refine bz4 ?_ hb3 | refine bz4 ?_ hb2 | refine bz4 ?_ hb1 | refine bz5 ?_ _ | refine bz6 ?_ _ | refine bz7 ?_ hb4 | refine bz7 ?_ hb3 | refine bz7 ?_ hb2 | refine bz7 ?_ hb1))⟩
  case rest =>
  obtain ⟨g, rfl, hg, pg, pr, pz, hbel⟩ := hcut
  obtain ⟨p0, p1, p2, q0, q1, q2⟩ := pg
  obtain ⟨rc0, rc1, rc2, rf0, rf1, rf2⟩ := pr
  obtain ⟨zc0, zc1, zc2, zf0, zf1, zf2⟩ := pz
  have hgw : w.heap.size < g := by omega
  have hgw2 : w2.heap.size < g := by omega
  by_cases hz : x / 8388608 % 256 = 0
  · have HP : Hid (x % 8388608 = parM 8388608 (x % 2147483648)) := hid (by unfold parM; rw [← HM.out, if_pos hz]; exact HN.out)
    have HQ : Hid ((-149) = parE 8388608 (-149) (x % 2147483648)) := hid (by unfold parE; rw [← HM.out, if_pos hz])
    have hz' : ¬ 0 < x / 8388608 % 256 := by omega
    clear hz
    go_wp2
    exact bodyPost_ret (v := .tuple #[.agg #[.bool (sigB 32 x), .int .i64 (x % 8388608), .int .i64 (-149)], .bool true]) (by simp [results, Tryd.results19, go_sem, rc0, rc1, rc2, hgw]) rfl ⟨ret_parts HP.out HQ.out, (by repeat (first | exact bz0 _ _ | refine bz1 ?_ | refine bz2 ?_ _ | refine bz3 ?_ _ | refine bz4 ?_ hbel | refine bz5 ?_ _ | refine bz6 ?_ _ | refine bz7 ?_ hbel))⟩
  · have HP : Hid (x % 8388608 + 8388608 = parM 8388608 (x % 2147483648)) := hid (by unfold parM; rw [← HM.out, if_neg hz, ← HN.out])
    have HQ : Hid ((-149) + (x / 8388608 % 256 - 1) = parE 8388608 (-149) (x % 2147483648)) := hid (by unfold parE; rw [← HM.out, if_neg hz]; omega)
    have hz' : 0 < x / 8388608 % 256 := by omega
    clear hz
    go_wp2
    exact bodyPost_ret (v := .tuple #[.agg #[.bool (sigB 32 x), .int .i64 (x % 8388608 + 8388608), .int .i64 ((-149) + (x / 8388608 % 256 - 1))], .bool true]) (by simp [results, Tryd.results19, go_sem, rc0, rc1, rc2, hgw]) rfl ⟨ret_parts HP.out HQ.out, (by repeat (first | exact bz0 _ _ | refine bz1 ?_ | refine bz2 ?_ _ | refine bz3 ?_ _ | refine bz4 ?_ hbel | refine bz5 ?_ _ | refine bz6 ?_ _ | refine bz7 ?_ hbel))⟩
theorem impl_parts64 (x : Int) (w : World) (hT : Tab w) (hf : finB 64 x = true) (h0 : 0 ≤ x) (h1 : x < 18446744073709551616) (hi : x % 9223372036854775808 < 9218868437227405312) :
    Calls Tryd.prog 19 #[.int .i64 64, .int .u64 x] w fun e w' => e = .returned (.tuple #[.agg #[.bool (sigB 64 x), .int .i64 (parM 4503599627370496 (x % 9223372036854775808)), .int .i64 (parE 4503599627370496 (-1074) (x % 9223372036854775808))], .bool true]) ∧ Below w.heap.size w w' := by
  have h1' : x < 18446744073709551616 := by omega
  have HM : Hid (x / 4503599627370496 % 2048 = x % 9223372036854775808 / 4503599627370496) := hid (by omega)
  have HN : Hid (x % 4503599627370496 = x % 9223372036854775808 % 4503599627370496) := hid (by omega)
  have hxl : x % 4503599627370496 < 4503599627370496 := by omega
  have hxl0 : 0 ≤ x % 4503599627370496 := by omega
  have hzb : x / 4503599627370496 % 2048 < 2048 := by omega
  have hzb0 : 0 ≤ x / 4503599627370496 % 2048 := by omega
  have hwr : IntKind.i64.wrap (x % 4503599627370496) = x % 4503599627370496 := by rw [IntKind.wrap_i64]; omega
  go_enter Tryd.func19, Tryd.ntmps19
  go_wp2_with fail
  refine (impl_fin 64 x _ (hT.al _) h0 h1').mono ?_
  rintro e w1 ⟨rfl, hb1⟩
  have hT1 := (hT.al _).below hb1
  have r1 := (R3.new w _ _ _ _).below hb1
  go_wp2_with fail
  refine (sizes64 _ hT1).mono ?_
  rintro e w2 ⟨rfl, hb2⟩
  have hT2 := (hT1.below hb2).al (.cells #[.int .u64 52, .int .u64 2047, .int .i64 (-1074)] 84)
  have r2 := (r1.below hb2).al (.cells #[.int .u64 52, .int .u64 2047, .int .i64 (-1074)] 84)
  go_wp2_with fail
  refine (parted64 x _ h0 h1').mono ?_
  rintro e w3 ⟨rfl, hb3⟩
  have hT3 := hT2.below hb3
  have r3 := r2.below hb3
  have z3 : R3 w3 w2.heap.size (.int .u64 52) (.int .u64 2047) (.int .i64 (-1074)) := (R3.new w2 (.int .u64 52) (.int .u64 2047) (.int .i64 (-1074)) 84).below hb3
  have z30 := z3.c0; have z31 := z3.c1; have z32 := z3.c2
  have l3 : w2.heap.size < w3.heap.size := World.block_lt_of_cell? w3 _ z30
  have l3' : w.heap.size < w3.heap.size := World.block_lt_of_cell? w3 _ r3.c0
  have l3'' : w.heap.size < w2.heap.size := Nat.lt_of_lt_of_le (World.block_lt_of_cell? w1 _ r1.c0) hb2.size
  go_upto_region 5 with fail
  go_cut [10] (fun s wx => ∃ g : Nat, s = .pointer (some ⟨g, 0, none⟩) ∧ w3.heap.size ≤ g ∧ R3 wx g (.bool (sigB 64 x)) (.int .i64 (x % 4503599627370496)) (.int .i64 (-1074)) ∧ R3 wx w.heap.size (.bool false) (.int .i64 0) (.int .i64 0) ∧ R3 wx w2.heap.size (.int .u64 52) (.int .u64 2047) (.int .i64 (-1074)) ∧ Below w.heap.size w wx)
  case first =>
    go_region_with (first
      | (go_at_call 66; refine (impl_sig 64 x _ hT3.dr h0 h1').mono ?_; rintro e w4 ⟨rfl, hb4⟩; have rr4 := r3.dr.below hb4; have zz4 := z3.dr.below hb4; have l4s : w3.heap.size ≤ w4.heap.size := hb4.size; obtain ⟨zc0, zc1, zc2, zf0, zf1, zf2⟩ := zz4; have l4 : w2.heap.size < w4.heap.size := World.block_lt_of_cell? w4 _ zc0)
      | (go_at_call 66; refine (impl_sig 64 x _ (hT3.al _).dr h0 h1').mono ?_; rintro e w4 ⟨rfl, hb4⟩; have rr4 := (r3.al _).dr.below hb4; have zz4 := (z3.al _).dr.below hb4; obtain ⟨zc0, zc1, zc2, zf0, zf1, zf2⟩ := zz4; obtain ⟨pc0, pc1, pc2, pf0, pf1, pf2⟩ := (R3.new w3 _ _ _ _).dr.below hb4; have l4 : w2.heap.size < w4.heap.size := World.block_lt_of_cell? w4 _ zc0))
    all_goals (go_wp2_with fail; go_meet)
    all_goals first
      | exact ⟨w4.heap.size, rfl, l4s, R3.new w4 _ _ _ _, rr4.al _, R3.al ⟨zc0, zc1, zc2, zf0, zf1, zf2⟩ _, (by repeat (first | exact bz0 _ _ | refine bz1 ?_ | refine bz2 ?_ _ | refine bz3 ?_ _ | refine bz4 ?_ hb4 | refine bz4 ?_ hb3 | refine bz4 ?_ hb2 | refine bz4 ?_ hb1 | refine bz5 ?_ _ | refine bz6 ?_ _ | refine bz7 ?_ hb4 | refine bz7 ?_ hb3 | refine bz7 ?_ hb2 | refine bz7 ?_ hb1))⟩
      | exact ⟨w3.heap.size, rfl, Nat.le_refl _, R3.set ⟨pc0, pc1, pc2, pf0, pf1, pf2⟩ _ _ _, ((rr4.other (by simp; omega) _).other (by simp; omega) _).other (by simp; omega) _, ((R3.other ⟨zc0, zc1, zc2, zf0, zf1, zf2⟩ (by simp; omega) _).other (by simp; omega) _).other (by simp; omega) _, (by repeat (first | exact bz0 _ _ | refine bz1 ?_ | refine bz2 ?_ _ | refine bz3 ?_ _ | refine bz4 ?_ hb4 | refine bz4 ?_ hb3 | refine bz4 ?_ hb2 | refine bz4 ?_ hb1 | refine bz5 ?_ _ | refine bz6 ?_ _ | refine bz7 ?_ hb4 | refine bz7 ?_ hb3 | refine bz7 ?_ hb2 | refine bz7 ?_ hb1))⟩
  case rest =>
  obtain ⟨g, rfl, hg, pg, pr, pz, hbel⟩ := hcut
  obtain ⟨p0, p1, p2, q0, q1, q2⟩ := pg
  obtain ⟨rc0, rc1, rc2, rf0, rf1, rf2⟩ := pr
  obtain ⟨zc0, zc1, zc2, zf0, zf1, zf2⟩ := pz
  have hgw : w.heap.size < g := by omega
  have hgw2 : w2.heap.size < g := by omega
  by_cases hz : x / 4503599627370496 % 2048 = 0
  · have HP : Hid (x % 4503599627370496 = parM 4503599627370496 (x % 9223372036854775808)) := hid (by unfold parM; rw [← HM.out, if_pos hz]; exact HN.out)
    have HQ : Hid ((-1074) = parE 4503599627370496 (-1074) (x % 9223372036854775808)) := hid (by unfold parE; rw [← HM.out, if_pos hz])
    have hz' : ¬ 0 < x / 4503599627370496 % 2048 := by omega
    clear hz
    go_wp2
    exact bodyPost_ret (v := .tuple #[.agg #[.bool (sigB 64 x), .int .i64 (x % 4503599627370496), .int .i64 (-1074)], .bool true]) (by simp [results, Tryd.results19, go_sem, rc0, rc1, rc2, hgw]) rfl ⟨ret_parts HP.out HQ.out, (by repeat (first | exact bz0 _ _ | refine bz1 ?_ | refine bz2 ?_ _ | refine bz3 ?_ _ | refine bz4 ?_ hbel | refine bz5 ?_ _ | refine bz6 ?_ _ | refine bz7 ?_ hbel))⟩
  · have HP : Hid (x % 4503599627370496 + 4503599627370496 = parM 4503599627370496 (x % 9223372036854775808)) := hid (by unfold parM; rw [← HM.out, if_neg hz, ← HN.out])
    have HQ : Hid ((-1074) + (x / 4503599627370496 % 2048 - 1) = parE 4503599627370496 (-1074) (x % 9223372036854775808)) := hid (by unfold parE; rw [← HM.out, if_neg hz]; omega)
    have hz' : 0 < x / 4503599627370496 % 2048 := by omega
    clear hz
    go_wp2
    exact bodyPost_ret (v := .tuple #[.agg #[.bool (sigB 64 x), .int .i64 (x % 4503599627370496 + 4503599627370496), .int .i64 ((-1074) + (x / 4503599627370496 % 2048 - 1))], .bool true]) (by simp [results, Tryd.results19, go_sem, rc0, rc1, rc2, hgw]) rfl ⟨ret_parts HP.out HQ.out, (by repeat (first | exact bz0 _ _ | refine bz1 ?_ | refine bz2 ?_ _ | refine bz3 ?_ _ | refine bz4 ?_ hbel | refine bz5 ?_ _ | refine bz6 ?_ _ | refine bz7 ?_ hbel))⟩
end Go.Proofs.YtpalbhkihheogaaDoor
namespace Go.Proofs.YtpalbhkihheogaaDoor
set_option linter.unusedVariables false
set_option linter.unusedSimpArgs false
open Go.RowKit Go.Deep
/-- The table of formats, and that of 64. -/
structure Ts (w : World) : Prop where
  f : Tab w
  t64 : Tb w 1 Lib.deBruijn64tab
theorem Ts.below {w w' : World} (h : Ts w) (hb : Below w.heap.size w w') : Ts w' := ⟨h.f.below hb, h.t64.below (by decide) hb⟩
theorem Ts.al {w : World} (h : Ts w) (o : Obj) : Ts (w.alloc o) := h.below ((Below.refl _ _).alloc (Nat.le_refl _) _)
theorem Ts.dr {w : World} (h : Ts w) : Ts w.drew := ⟨⟨h.f.c0, h.f.c1, h.f.c2, h.f.c3, h.f.c4, h.f.c5, h.f.c6, h.f.c7, h.f.c8⟩, h.t64⟩
end Go.Proofs.YtpalbhkihheogaaDoor
namespace Go.Proofs.YtpalbhkihheogaaDoor
set_option linter.unusedVariables false
set_option linter.unusedSimpArgs false
open Go.RowKit
theorem fin_no {fm x : Int} (h : okF fm x = false) : finB fm x = false := by unfold finB; rw [cls_no h]; decide
theorem fin_lt {fm x : Int} (h : okF fm x = true) : finB fm x = decide (absF fm x < infOf fm) := by
  rcases okF_cases h with ⟨rfl, hx⟩ | rfl
  · unfold finB infOf; rw [cls32 hx, abs32 hx, if_pos rfl]; unfold clsY
    rw [Bool.eq_iff_iff]; simp only [decide_eq_true_eq]
    repeat' split
    all_goals omega
  · unfold finB infOf; rw [cls64, abs64, if_neg (by decide)]; unfold clsY
    rw [Bool.eq_iff_iff]; simp only [decide_eq_true_eq]
    repeat' split
    all_goals omega
theorem impl_partsNo (fm x : Int) (w : World) (hT : Tab w) (hf : finB fm x = false) (h0 : 0 ≤ x) (h1 : x < 18446744073709551616) :
    Calls Tryd.prog 19 #[.int .i64 fm, .int .u64 x] w fun e w' => e = .returned (.tuple #[.agg #[.bool false, .int .i64 0, .int .i64 0], .bool false]) ∧ Below w.heap.size w w' := by
  go_enter Tryd.func19, Tryd.ntmps19
  go_wp2_with fail
  refine (impl_fin fm x _ (hT.below ((Below.refl _ _).alloc (Nat.le_refl _) _)) h0 h1).mono ?_
  rintro e w1 ⟨rfl, hb1⟩
  have c0 : w1.cell? ⟨w.heap.size, 0, none⟩ = some (.bool false) := (hb1.cell (p := ⟨w.heap.size, 0, none⟩) (by simp)).trans (by simp)
  have c1 : w1.cell? ⟨w.heap.size, 1, none⟩ = some (.int .i64 0) := (hb1.cell (p := ⟨w.heap.size, 1, none⟩) (by simp)).trans (by simp)
  have c2 : w1.cell? ⟨w.heap.size, 2, none⟩ = some (.int .i64 0) := (hb1.cell (p := ⟨w.heap.size, 2, none⟩) (by simp)).trans (by simp)
  have f0 : w1.frozen? ⟨w.heap.size, 0, none⟩ = false := (hb1.frozen (p := ⟨w.heap.size, 0, none⟩) (by simp)).trans (by simp)
  have f1 : w1.frozen? ⟨w.heap.size, 1, none⟩ = false := (hb1.frozen (p := ⟨w.heap.size, 1, none⟩) (by simp)).trans (by simp)
  have f2 : w1.frozen? ⟨w.heap.size, 2, none⟩ = false := (hb1.frozen (p := ⟨w.heap.size, 2, none⟩) (by simp)).trans (by simp)
  go_wp2
  exact bodyPost_ret (v := .tuple #[.agg #[.bool false, .int .i64 0, .int .i64 0], .bool false]) (by simp [results, Tryd.results19, go_sem, c0, c1, c2]) rfl ⟨rfl, (by repeat (first | exact bz0 _ _ | refine bz1 ?_ | refine bz2 ?_ _ | refine bz3 ?_ _ | refine bz4 ?_ hb1 | refine bz5 ?_ _ | refine bz6 ?_ _ | refine bz7 ?_ hb1))⟩
theorem spec_P32 (w : World) :
    Calls Tryd.prog 109 #[.int .i64 32] w fun e w' => e = .returned (.int .i64 24) ∧ Below w.heap.size w w' := by
  go_enter Tryd.func109, Tryd.ntmps109
  go_wp2
  go_ret
  exact ⟨rfl, (by repeat (first | exact bz0 _ _ | refine bz1 ?_ | refine bz2 ?_ _ | refine bz3 ?_ _ | refine bz5 ?_ _ | refine bz6 ?_ _))⟩
theorem spec_P64 (w : World) :
    Calls Tryd.prog 109 #[.int .i64 64] w fun e w' => e = .returned (.int .i64 53) ∧ Below w.heap.size w w' := by
  go_enter Tryd.func109, Tryd.ntmps109
  go_wp2
  go_ret
  exact ⟨rfl, (by repeat (first | exact bz0 _ _ | refine bz1 ?_ | refine bz2 ?_ _ | refine bz3 ?_ _ | refine bz5 ?_ _ | refine bz6 ?_ _))⟩
/-- The parts of a float: the empty ones where it is not finite. -/
def pS (fm x : Int) : Bool := if finB fm x then sigB fm x else false
def pM (fm x : Int) : Int := if finB fm x then (if fm = 32 then parM 8388608 (x % 2147483648) else parM 4503599627370496 (x % 9223372036854775808)) else 0
def pE (fm x : Int) : Int := if finB fm x then (if fm = 32 then parE 8388608 (-149) (x % 2147483648) else parE 4503599627370496 (-1074) (x % 9223372036854775808)) else 0
theorem ret_p4 {s s' : Bool} {a b a' b' : Int} {o o' : Bool} (g : s = s') (h : a = a') (k : b = b') (l : o = o') : Ending.returned (.tuple #[.agg #[.bool s, .int .i64 a, .int .i64 b], .bool o]) = .returned (.tuple #[.agg #[.bool s', .int .i64 a', .int .i64 b'], .bool o']) := by rw [g, h, k, l]
theorem impl_parts (fm x : Int) (w : World) (hT : Tab w) (h0 : 0 ≤ x) (h1 : x < 18446744073709551616) :
    Calls Tryd.prog 19 #[.int .i64 fm, .int .u64 x] w fun e w' => e = .returned (.tuple #[.agg #[.bool (pS fm x), .int .i64 (pM fm x), .int .i64 (pE fm x)], .bool (finB fm x)]) ∧ Below w.heap.size w w' := by
  cases hf : finB fm x
  · refine (impl_partsNo fm x w hT hf h0 h1).mono ?_
    rintro e w1 ⟨rfl, hb1⟩
    exact ⟨ret_p4 (by unfold pS; rw [hf]; rfl) (by unfold pM; rw [hf]; rfl) (by unfold pE; rw [hf]; rfl) rfl, hb1⟩
  have ho : okF fm x = true := by
    cases ho : okF fm x
    · rw [fin_no ho] at hf; cases hf
    · rfl
  have hlt := fin_lt ho
  rw [hf] at hlt
  have hlt' := of_decide_eq_true hlt.symm
  rcases okF_cases ho with ⟨rfl, hx⟩ | rfl
  · rw [abs32 hx] at hlt'
    refine (impl_parts32 x w hT hf h0 hx hlt').mono ?_
    rintro e w1 ⟨rfl, hb1⟩
    exact ⟨ret_p4 (by unfold pS; rw [hf]; rfl) (by unfold pM; rw [hf]; rfl) (by unfold pE; rw [hf]; rfl) rfl, hb1⟩
  · rw [abs64] at hlt'
    refine (impl_parts64 x w hT hf h0 h1 hlt').mono ?_
    rintro e w1 ⟨rfl, hb1⟩
    exact ⟨ret_p4 (by unfold pS; rw [hf]; rfl) (by unfold pM; rw [hf]; rfl) (by unfold pE; rw [hf]; rfl) rfl, hb1⟩
end Go.Proofs.YtpalbhkihheogaaDoor
namespace Go.Proofs.YtpalbhkihheogaaDoor
set_option linter.unusedVariables false
set_option linter.unusedSimpArgs false
open Go.RowKit Go.Deep
namespace Fd
theorem ab32 {x : Int} (h0 : 0 ≤ x) (h1 : x < 4294967296) : absF 32 x = if x < 2147483648 then x else x - 2147483648 := by
  rw [abs32 h1]; split <;> omega
theorem od32 {x : Int} (h0 : 0 ≤ x) (h1 : x < 4294967296) : ordI 32 x = if x < 2147483648 then x else 2147483648 - 1 - x := by
  have ha := ab32 h0 h1
  unfold ordI
  rw [okF32 h1, if_pos rfl]
  unfold sigB
  rw [ha]
  by_cases h : x < 2147483648
  · rw [if_pos h, if_pos h]; simp
  · rw [if_neg h, if_neg h]
    have : (x != x - 2147483648) = true := by simp; omega
    rw [this, if_pos rfl]; omega
theorem ab64 {x : Int} (h0 : 0 ≤ x) (h1 : x < 18446744073709551616) : absF 64 x = if x < 9223372036854775808 then x else x - 9223372036854775808 := by
  rw [abs64]; split <;> omega
theorem od64 {x : Int} (h0 : 0 ≤ x) (h1 : x < 18446744073709551616) : ordI 64 x = if x < 9223372036854775808 then x else 9223372036854775808 - 1 - x := by
  have ha := ab64 h0 h1
  unfold ordI
  rw [okF64, if_pos rfl]
  unfold sigB
  rw [ha]
  by_cases h : x < 9223372036854775808
  · rw [if_pos h, if_pos h]; simp
  · rw [if_neg h, if_neg h]
    have : (x != x - 9223372036854775808) = true := by simp; omega
    rw [this, if_pos rfl]; omega
end Fd
theorem store_func (P : Program) (w : World) (a : Addr) (f : Fn) (xs ys) (m) : (store a (.func f xs ys) m).run P w = stored P w a (.func f xs ys) m := run_store P w a _ m rfl
attribute [local go_sem] store_func
theorem ok_lim {a : Nat} (ha : a ≠ 0) (hl : bitLen a ≤ 6400) (ng : Bool) : okB ng (Nm.lim a) = true := by
  have hlen := lim_len (x := a) (k := 200) (by omega)
  have hne : (Nm.lim a).length ≠ 0 := fun h => ha ((Nm.lim_length_zero a).1 h)
  have hz := Nm.lim_nz a
  unfold okB
  rw [if_neg hne, decide_eq_true hlen, Bool.true_and]
  have : (Nm.lim a).getD ((Nm.lim a).length - 1) 0 ≠ 0 := by
    apply hz
    rw [List.getLast?_eq_getElem?, List.getD_eq_getElem?_getD, List.getElem?_eq_getElem (by omega)]; rfl
  rw [decide_eq_false this]; rfl
end Go.Proofs.YtpalbhkihheogaaDoor
namespace Go.Proofs.YtpalbhkihheogaaDoor
set_option linter.unusedVariables false
set_option linter.unusedSimpArgs false
open Go.RowKit Go.Deep
/-- What is cut off, against a half, as the program tells it. -/
def hI (a : Nat) (n : Int) : Int := if (Nm.tz a : Int) = n - 1 then 0 else if a / 2 ^ (n - 1).toNat % 2 = 1 then 1 else -1
theorem ret_ub {a a' : Int} {c c' : Bool} (h : a = a') (l : c = c') : Ending.returned (.tuple #[.int .u64 a, .bool c]) = .returned (.tuple #[.int .u64 a', .bool c']) := by rw [h, l]
/-- What parts make. -/
def fpO (P : Nat) (q ones : Int) (M E : Int) : Bool := decide (0 ≤ M) && decide (-5000 ≤ E) && decide (E ≤ 5000) && (decide (M = 0) || Nm.stOk P q ones M.toNat E)
def fpB (P : Nat) (q ones S : Int) (ng : Bool) (M E : Int) : Int := if fpO P q ones M E then (if M = 0 then sgn S 0 ng else sgn S (Nm.flb P (Nm.stU q M.toNat E) : Nat) ng) else 0
end Go.Proofs.YtpalbhkihheogaaDoor
