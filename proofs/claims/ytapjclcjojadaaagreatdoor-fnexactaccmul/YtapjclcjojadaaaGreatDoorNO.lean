/-
  A number, or why there is none, told as a float.
-/
import Derived.Test.YtapjclcjojadaaaGreatDoorEF
import Derived.Test.YtapjclcjojadaaaGreatDoorG20
import Derived.Test.YtapjclcjojadaaaGreatDoorG15
namespace Go.Proofs.YtapjclcjojadaaaGreatDoor
set_option linter.unusedVariables false
set_option linter.unusedSimpArgs false
open Go.RowKit Go.Deep
/-- What the program's variables hold, the tables of math/bits among them. -/
structure E3 (u : Value) (w : World) : Prop where
  t : T3 w
  g : EA.ErrT w
  q : ErrQ w u
theorem E3.below {u : Value} {w w' : World} (h : E3 u w) (hb : Below w.heap.size w w') : E3 u w' := ⟨h.t.below hb, EA.five h.g hb, (hb.cell (p := ⟨0, 0, none⟩) (World.block_lt_of_cell? w _ h.q)).trans h.q⟩
theorem E3.ee {u : Value} {w : World} (h : E3 u w) : EE u w := ⟨h.t.s.f, h.g, h.q⟩
def EX3 (w : World) : Prop := ∃ u, E3 u w
theorem EX3.below {w w' : World} (h : EX3 w) (hb : Below w.heap.size w w') : EX3 w' := by obtain ⟨u, h⟩ := h; exact ⟨u, h.below hb⟩
/-- What is told: nan, inf, sg: the format's; n, b: there is no number, it is invalid; i: it is infinity; z: it is 0; rb, rf: else that. -/
def tdB (nan inf sg : Int) (n i z neg : Bool) (rb : Int) : Int := if n then nan else if i then sgn sg inf neg else if z then sgn sg 0 neg else rb
def tdF (n b i z : Bool) (rf : Int) : Int := if b then 8 else if n || i || z then 0 else rf
set_option maxHeartbeats 4000000 in
set_option maxRecDepth 100000 in
theorem told_32 (mode : Int) (neg inf G : Bool) (L : List Int) (e : Int) (p : Option Addr) (cap : Nat) (u ev : Value) (n b : Bool) (hk : EK u ev n b) (w : World) (hT : T3 w) (hg : EA.ErrT w) (hs : Sl .u32 w (.slice p L.length cap) L) (hd : Nm.Dg L) (hl : L.length ≤ 200) (rb rf : Int) (hro : n = false → inf = false → L.length ≠ 0 → RdO 32 mode G L e = true ∧ rb = RdB 32 mode G L e ∧ rf = RdF 32 mode G L e) :
    Calls Tryz.prog 89 #[.int .i64 32, .int .i64 mode, .agg #[.bool neg, .bool inf, .bool G, .slice p L.length cap, .int .i64 e], ev] w fun r w' => r = .returned (.tuple #[.int .u64 (tdB 2143289344 2139095040 2147483648 n inf (decide (L.length = 0)) neg rb), .int .i64 (tdF n b inf (decide (L.length = 0)) rf), .bool true]) ∧ Below w.heap.size w w' := by
  have CI := hid (fun w' h => inv_any hk w' h)
  have CZ := hid (fun w' => zero_any neg inf G p L.length cap e w' (by omega))
  obtain ⟨z, hz0⟩ : ∃ z, z = decide (L.length = 0) := ⟨_, rfl⟩
  have hz1 : z = false → L.length ≠ 0 := by intro h; rw [h] at hz0; simpa using hz0.symm
  rw [← hz0] at CZ ⊢
  clear hz0
  have X := Q5.new w (.bool neg) (.bool inf) (.bool G) (.slice p L.length cap) (.int .i64 e) 78
  have hg1 : EA.ErrT (w.alloc (.cells #[.bool neg, .bool inf, .bool G, .slice p L.length cap, .int .i64 e] 78)) := EA.five hg (by repeat (first | exact Below.refl _ _ | refine Below.drew ?_ | refine bel_dn ?_ _ | refine bel_al ?_ _ | refine Below.setCell ?_ (by first | omega | (simp; done) | (simp; omega)) _ | refine Below.alloc ?_ (by first | omega | (simp; done) | (simp; omega)) _))
  have hT1 := hT.al (.cells #[.bool neg, .bool inf, .bool G, .slice p L.length cap, .int .i64 e] 78)
  have hs1 := hs.alloc (.cells #[.bool neg, .bool inf, .bool G, .slice p L.length cap, .int .i64 e] 78)
  cases hk with
  | quiet =>
    clear hro CZ
    go_enter Tryz.func89, Tryz.ntmps89
    go_wp2_with fail
    refine (CI.out _ hg1).mono ?_
    rintro r w1 ⟨rfl, hb1⟩
    go_wp2_with fail
    refine (impl_nan32 _ (hT1.s.f.below hb1)).mono ?_
    rintro r w2 ⟨rfl, hb2⟩
    go_wp2
    go_ret3
    exact ⟨rfl, (by repeat (first | exact Below.refl _ _ | refine Below.drew ?_ | refine bel_dn ?_ _ | refine bel_al ?_ _ | refine bel_go ?_ hb2 | refine bel_go ?_ hb1 | refine Below.setCell ?_ (by first | omega | (simp; done) | (simp; omega)) _ | refine Below.alloc ?_ (by first | omega | (simp; done) | (simp; omega)) _ | refine Below.trans ?_ (Below.mono hb2 (by first | omega | (simp; done) | (simp; omega))) | refine Below.trans ?_ (Below.mono hb1 (by first | omega | (simp; done) | (simp; omega)))))⟩
  | bad s =>
    clear hro CZ
    go_enter Tryz.func89, Tryz.ntmps89
    go_wp2_with fail
    refine (CI.out _ hg1).mono ?_
    rintro r w1 ⟨rfl, hb1⟩
    go_wp2_with fail
    refine (impl_nan32 _ (hT1.s.f.below hb1)).mono ?_
    rintro r w2 ⟨rfl, hb2⟩
    go_wp2
    go_ret3
    exact ⟨rfl, (by repeat (first | exact Below.refl _ _ | refine Below.drew ?_ | refine bel_dn ?_ _ | refine bel_al ?_ _ | refine bel_go ?_ hb2 | refine bel_go ?_ hb1 | refine Below.setCell ?_ (by first | omega | (simp; done) | (simp; omega)) _ | refine Below.alloc ?_ (by first | omega | (simp; done) | (simp; omega)) _ | refine Below.trans ?_ (Below.mono hb2 (by first | omega | (simp; done) | (simp; omega))) | refine Below.trans ?_ (Below.mono hb1 (by first | omega | (simp; done) | (simp; omega)))))⟩
  | no =>
  cases inf with
  | true =>
    clear hro CZ
    go_enter Tryz.func89, Tryz.ntmps89
    go_wp2_with fail
    refine (CI.out _ hg1).mono ?_
    rintro r w1 ⟨rfl, hb1⟩
    obtain ⟨x0, x1, x2, x3, x4⟩ := (X.below hb1).cs
    go_wp2_with fail
    refine (impl_Inf32 neg _ (hT1.s.f.below hb1)).mono ?_
    rintro r w2 ⟨rfl, hb2⟩
    go_wp2
    go_ret3
    exact ⟨rfl, (by repeat (first | exact Below.refl _ _ | refine Below.drew ?_ | refine bel_dn ?_ _ | refine bel_al ?_ _ | refine bel_go ?_ hb2 | refine bel_go ?_ hb1 | refine Below.setCell ?_ (by first | omega | (simp; done) | (simp; omega)) _ | refine Below.alloc ?_ (by first | omega | (simp; done) | (simp; omega)) _ | refine Below.trans ?_ (Below.mono hb2 (by first | omega | (simp; done) | (simp; omega))) | refine Below.trans ?_ (Below.mono hb1 (by first | omega | (simp; done) | (simp; omega)))))⟩
  | false =>
  simp only [Bool.not_false, Bool.true_and] at CZ
  cases z with
  | true =>
    clear hro
    go_enter Tryz.func89, Tryz.ntmps89
    go_wp2_with fail
    refine (CI.out _ hg1).mono ?_
    rintro r w1 ⟨rfl, hb1⟩
    replace X := X.below hb1
    obtain ⟨x0, x1, x2, x3, x4⟩ := X.cs
    go_wp2_with fail
    refine (CZ.out _).mono ?_
    rintro r w2 ⟨rfl, hb2⟩
    clear x0 x1 x2 x3 x4
    obtain ⟨x0, x1, x2, x3, x4⟩ := (X.below hb2).cs
    go_wp2_with fail
    refine (impl_Zero32 neg _ ((hT1.s.f.below hb1).below hb2)).mono ?_
    rintro r w3 ⟨rfl, hb3⟩
    go_wp2
    go_ret3
    exact ⟨rfl, (by repeat (first | exact Below.refl _ _ | refine Below.drew ?_ | refine bel_dn ?_ _ | refine bel_al ?_ _ | refine bel_go ?_ hb3 | refine bel_go ?_ hb2 | refine bel_go ?_ hb1 | refine Below.setCell ?_ (by first | omega | (simp; done) | (simp; omega)) _ | refine Below.alloc ?_ (by first | omega | (simp; done) | (simp; omega)) _ | refine Below.trans ?_ (Below.mono hb3 (by first | omega | (simp; done) | (simp; omega))) | refine Below.trans ?_ (Below.mono hb2 (by first | omega | (simp; done) | (simp; omega))) | refine Below.trans ?_ (Below.mono hb1 (by first | omega | (simp; done) | (simp; omega)))))⟩
  | false =>
    obtain ⟨ho, hrb, hrf⟩ := hro rfl rfl (hz1 rfl)
    have CR := hid (fun w' h h' => rounded_impl 32 mode G L e p cap w' h h' hd (by omega))
    rw [← hrb, ← hrf, ho] at CR
    clear hro hrb hrf ho hz1
    go_enter Tryz.func89, Tryz.ntmps89
    go_wp2_with fail
    refine (CI.out _ hg1).mono ?_
    rintro r w1 ⟨rfl, hb1⟩
    replace X := X.below hb1
    obtain ⟨x0, x1, x2, x3, x4⟩ := X.cs
    go_wp2_with fail
    refine (CZ.out _).mono ?_
    rintro r w2 ⟨rfl, hb2⟩
    clear x0 x1 x2 x3 x4
    obtain ⟨x0, x1, x2, x3, x4⟩ := (X.below hb2).cs
    go_wp2_with fail
    refine (CR.out _ ((hT1.below hb1).below hb2) ((hs1.below hb1).below hb2)).mono ?_
    rintro r w3 ⟨rfl, hb3⟩
    go_wp2
    go_ret3
    exact ⟨rfl, (by repeat (first | exact Below.refl _ _ | refine Below.drew ?_ | refine bel_dn ?_ _ | refine bel_al ?_ _ | refine bel_go ?_ hb3 | refine bel_go ?_ hb2 | refine bel_go ?_ hb1 | refine Below.setCell ?_ (by first | omega | (simp; done) | (simp; omega)) _ | refine Below.alloc ?_ (by first | omega | (simp; done) | (simp; omega)) _ | refine Below.trans ?_ (Below.mono hb3 (by first | omega | (simp; done) | (simp; omega))) | refine Below.trans ?_ (Below.mono hb2 (by first | omega | (simp; done) | (simp; omega))) | refine Below.trans ?_ (Below.mono hb1 (by first | omega | (simp; done) | (simp; omega)))))⟩
set_option maxHeartbeats 4000000 in
set_option maxRecDepth 100000 in
theorem told_64 (mode : Int) (neg inf G : Bool) (L : List Int) (e : Int) (p : Option Addr) (cap : Nat) (u ev : Value) (n b : Bool) (hk : EK u ev n b) (w : World) (hT : T3 w) (hg : EA.ErrT w) (hs : Sl .u32 w (.slice p L.length cap) L) (hd : Nm.Dg L) (hl : L.length ≤ 200) (rb rf : Int) (hro : n = false → inf = false → L.length ≠ 0 → RdO 64 mode G L e = true ∧ rb = RdB 64 mode G L e ∧ rf = RdF 64 mode G L e) :
    Calls Tryz.prog 89 #[.int .i64 64, .int .i64 mode, .agg #[.bool neg, .bool inf, .bool G, .slice p L.length cap, .int .i64 e], ev] w fun r w' => r = .returned (.tuple #[.int .u64 (tdB 9221120237041090560 9218868437227405312 9223372036854775808 n inf (decide (L.length = 0)) neg rb), .int .i64 (tdF n b inf (decide (L.length = 0)) rf), .bool true]) ∧ Below w.heap.size w w' := by
  have CI := hid (fun w' h => inv_any hk w' h)
  have CZ := hid (fun w' => zero_any neg inf G p L.length cap e w' (by omega))
  obtain ⟨z, hz0⟩ : ∃ z, z = decide (L.length = 0) := ⟨_, rfl⟩
  have hz1 : z = false → L.length ≠ 0 := by intro h; rw [h] at hz0; simpa using hz0.symm
  rw [← hz0] at CZ ⊢
  clear hz0
  have X := Q5.new w (.bool neg) (.bool inf) (.bool G) (.slice p L.length cap) (.int .i64 e) 78
  have hg1 : EA.ErrT (w.alloc (.cells #[.bool neg, .bool inf, .bool G, .slice p L.length cap, .int .i64 e] 78)) := EA.five hg (by repeat (first | exact Below.refl _ _ | refine Below.drew ?_ | refine bel_dn ?_ _ | refine bel_al ?_ _ | refine Below.setCell ?_ (by first | omega | (simp; done) | (simp; omega)) _ | refine Below.alloc ?_ (by first | omega | (simp; done) | (simp; omega)) _))
  have hT1 := hT.al (.cells #[.bool neg, .bool inf, .bool G, .slice p L.length cap, .int .i64 e] 78)
  have hs1 := hs.alloc (.cells #[.bool neg, .bool inf, .bool G, .slice p L.length cap, .int .i64 e] 78)
  cases hk with
  | quiet =>
    clear hro CZ
    go_enter Tryz.func89, Tryz.ntmps89
    go_wp2_with fail
    refine (CI.out _ hg1).mono ?_
    rintro r w1 ⟨rfl, hb1⟩
    go_wp2_with fail
    refine (impl_nan64 _ (hT1.s.f.below hb1)).mono ?_
    rintro r w2 ⟨rfl, hb2⟩
    go_wp2
    go_ret3
    exact ⟨rfl, (by repeat (first | exact Below.refl _ _ | refine Below.drew ?_ | refine bel_dn ?_ _ | refine bel_al ?_ _ | refine bel_go ?_ hb2 | refine bel_go ?_ hb1 | refine Below.setCell ?_ (by first | omega | (simp; done) | (simp; omega)) _ | refine Below.alloc ?_ (by first | omega | (simp; done) | (simp; omega)) _ | refine Below.trans ?_ (Below.mono hb2 (by first | omega | (simp; done) | (simp; omega))) | refine Below.trans ?_ (Below.mono hb1 (by first | omega | (simp; done) | (simp; omega)))))⟩
  | bad s =>
    clear hro CZ
    go_enter Tryz.func89, Tryz.ntmps89
    go_wp2_with fail
    refine (CI.out _ hg1).mono ?_
    rintro r w1 ⟨rfl, hb1⟩
    go_wp2_with fail
    refine (impl_nan64 _ (hT1.s.f.below hb1)).mono ?_
    rintro r w2 ⟨rfl, hb2⟩
    go_wp2
    go_ret3
    exact ⟨rfl, (by repeat (first | exact Below.refl _ _ | refine Below.drew ?_ | refine bel_dn ?_ _ | refine bel_al ?_ _ | refine bel_go ?_ hb2 | refine bel_go ?_ hb1 | refine Below.setCell ?_ (by first | omega | (simp; done) | (simp; omega)) _ | refine Below.alloc ?_ (by first | omega | (simp; done) | (simp; omega)) _ | refine Below.trans ?_ (Below.mono hb2 (by first | omega | (simp; done) | (simp; omega))) | refine Below.trans ?_ (Below.mono hb1 (by first | omega | (simp; done) | (simp; omega)))))⟩
  | no =>
  cases inf with
  | true =>
    clear hro CZ
    go_enter Tryz.func89, Tryz.ntmps89
    go_wp2_with fail
    refine (CI.out _ hg1).mono ?_
    rintro r w1 ⟨rfl, hb1⟩
    obtain ⟨x0, x1, x2, x3, x4⟩ := (X.below hb1).cs
    go_wp2_with fail
    refine (impl_Inf64 neg _ (hT1.s.f.below hb1)).mono ?_
    rintro r w2 ⟨rfl, hb2⟩
    go_wp2
    go_ret3
    exact ⟨rfl, (by repeat (first | exact Below.refl _ _ | refine Below.drew ?_ | refine bel_dn ?_ _ | refine bel_al ?_ _ | refine bel_go ?_ hb2 | refine bel_go ?_ hb1 | refine Below.setCell ?_ (by first | omega | (simp; done) | (simp; omega)) _ | refine Below.alloc ?_ (by first | omega | (simp; done) | (simp; omega)) _ | refine Below.trans ?_ (Below.mono hb2 (by first | omega | (simp; done) | (simp; omega))) | refine Below.trans ?_ (Below.mono hb1 (by first | omega | (simp; done) | (simp; omega)))))⟩
  | false =>
  simp only [Bool.not_false, Bool.true_and] at CZ
  cases z with
  | true =>
    clear hro
    go_enter Tryz.func89, Tryz.ntmps89
    go_wp2_with fail
    refine (CI.out _ hg1).mono ?_
    rintro r w1 ⟨rfl, hb1⟩
    replace X := X.below hb1
    obtain ⟨x0, x1, x2, x3, x4⟩ := X.cs
    go_wp2_with fail
    refine (CZ.out _).mono ?_
    rintro r w2 ⟨rfl, hb2⟩
    clear x0 x1 x2 x3 x4
    obtain ⟨x0, x1, x2, x3, x4⟩ := (X.below hb2).cs
    go_wp2_with fail
    refine (impl_Zero64 neg _ ((hT1.s.f.below hb1).below hb2)).mono ?_
    rintro r w3 ⟨rfl, hb3⟩
    go_wp2
    go_ret3
    exact ⟨rfl, (by repeat (first | exact Below.refl _ _ | refine Below.drew ?_ | refine bel_dn ?_ _ | refine bel_al ?_ _ | refine bel_go ?_ hb3 | refine bel_go ?_ hb2 | refine bel_go ?_ hb1 | refine Below.setCell ?_ (by first | omega | (simp; done) | (simp; omega)) _ | refine Below.alloc ?_ (by first | omega | (simp; done) | (simp; omega)) _ | refine Below.trans ?_ (Below.mono hb3 (by first | omega | (simp; done) | (simp; omega))) | refine Below.trans ?_ (Below.mono hb2 (by first | omega | (simp; done) | (simp; omega))) | refine Below.trans ?_ (Below.mono hb1 (by first | omega | (simp; done) | (simp; omega)))))⟩
  | false =>
    obtain ⟨ho, hrb, hrf⟩ := hro rfl rfl (hz1 rfl)
    have CR := hid (fun w' h h' => rounded_impl 64 mode G L e p cap w' h h' hd (by omega))
    rw [← hrb, ← hrf, ho] at CR
    clear hro hrb hrf ho hz1
    go_enter Tryz.func89, Tryz.ntmps89
    go_wp2_with fail
    refine (CI.out _ hg1).mono ?_
    rintro r w1 ⟨rfl, hb1⟩
    replace X := X.below hb1
    obtain ⟨x0, x1, x2, x3, x4⟩ := X.cs
    go_wp2_with fail
    refine (CZ.out _).mono ?_
    rintro r w2 ⟨rfl, hb2⟩
    clear x0 x1 x2 x3 x4
    obtain ⟨x0, x1, x2, x3, x4⟩ := (X.below hb2).cs
    go_wp2_with fail
    refine (CR.out _ ((hT1.below hb1).below hb2) ((hs1.below hb1).below hb2)).mono ?_
    rintro r w3 ⟨rfl, hb3⟩
    go_wp2
    go_ret3
    exact ⟨rfl, (by repeat (first | exact Below.refl _ _ | refine Below.drew ?_ | refine bel_dn ?_ _ | refine bel_al ?_ _ | refine bel_go ?_ hb3 | refine bel_go ?_ hb2 | refine bel_go ?_ hb1 | refine Below.setCell ?_ (by first | omega | (simp; done) | (simp; omega)) _ | refine Below.alloc ?_ (by first | omega | (simp; done) | (simp; omega)) _ | refine Below.trans ?_ (Below.mono hb3 (by first | omega | (simp; done) | (simp; omega))) | refine Below.trans ?_ (Below.mono hb2 (by first | omega | (simp; done) | (simp; omega))) | refine Below.trans ?_ (Below.mono hb1 (by first | omega | (simp; done) | (simp; omega)))))⟩
end Go.Proofs.YtapjclcjojadaaaGreatDoor
