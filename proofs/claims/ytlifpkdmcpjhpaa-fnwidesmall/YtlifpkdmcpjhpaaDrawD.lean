/-
  Drawn pairs of wides.
-/
import Derived.Test.YtlifpkdmcpjhpaaDrawC
import Derived.Test.YtlifpkdmcpjhpaaWideN
import Derived.Test.YtlifpkdmcpjhpaaWideS
namespace Go.Proofs.Ytlifpkdmcpjhpaa
set_option linter.unusedVariables false
set_option linter.unusedSimpArgs false
open Go.RowKit Go.Deep
/-- A drawn wide: some limbs in memory of its own. -/
def DW (w : World) (B : Nat) (v : Value) : Prop := ∃ (ng : Bool) (L : List Int) (a : Option Addr) (c : Nat), v = .agg #[.bool ng, .slice a L.length c] ∧ L.length ≤ 2000 ∧ Nm.Dg L ∧ Own w B a c L
theorem neg_short {x : Int} (h : (Nm.wl x).length ≤ 200) (k : Int) (h0 : -2 ≤ k) (h1 : k ≤ 2) : (Nm.wl (-x + k)).length ≤ 201 := by
  unfold Nm.wl at *
  rw [Nm.lim_length] at *
  have h3 : Nm.pw 201 = 4294967296 * Nm.pw 200 := rfl
  have := Nm.pw_pos 200
  omega
theorem wl_64 {n : Int} (h0 : -9223372036854775808 ≤ n) (h1 : n ≤ 9223372036854775807) : (Nm.wl n).length ≤ 200 := by
  have := fits_small (x := n) (by omega) (by omega)
  simpa [Nm.fits] using this
theorem wv_neg (x : Int) : -x = Nm.wv (!Nm.wn x) (Nm.wl x) := by
  have h := Nm.wv_out x
  unfold Nm.wv at h ⊢
  cases hn : Nm.wn x <;> rw [hn] at h <;> simp at h ⊢ <;> omega
theorem four_set {w : World} {b b' z : Nat} {v0 v1 u0 u1 : Value} (h0 : w.cell? ⟨b, 0, none⟩ = some v0) (h1 : w.cell? ⟨b, 1, none⟩ = some v1) (k0 : w.cell? ⟨b', 0, none⟩ = some u0) (k1 : w.cell? ⟨b', 1, none⟩ = some u1) (n1 : b ≠ z) (n2 : b' ≠ z) (p q : Value) :
    ((w.setCell ⟨z, 0, none⟩ p).setCell ⟨z, 1, none⟩ q).cell? ⟨b, 0, none⟩ = some v0 ∧ ((w.setCell ⟨z, 0, none⟩ p).setCell ⟨z, 1, none⟩ q).cell? ⟨b, 1, none⟩ = some v1 ∧ ((w.setCell ⟨z, 0, none⟩ p).setCell ⟨z, 1, none⟩ q).cell? ⟨b', 0, none⟩ = some u0 ∧ ((w.setCell ⟨z, 0, none⟩ p).setCell ⟨z, 1, none⟩ q).cell? ⟨b', 1, none⟩ = some u1 :=
  ⟨(keep3_set h0 h1 k1 n1 n2 p q).1, (keep3_set h0 h1 k1 n1 n2 p q).2.1, (keep3_set k0 k1 h1 n2 n1 p q).1, (keep3_set h0 h1 k1 n1 n2 p q).2.2⟩
theorem four_set' {w : World} {b b' z : Nat} {v0 v1 u0 u1 p q : Value} (h : w.cell? ⟨b, 0, none⟩ = some v0 ∧ w.cell? ⟨b, 1, none⟩ = some v1 ∧ w.cell? ⟨b', 0, none⟩ = some u0 ∧ w.cell? ⟨b', 1, none⟩ = some u1) (n1 : b ≠ z) (n2 : b' ≠ z) :
    ((w.setCell ⟨z, 0, none⟩ p).setCell ⟨z, 1, none⟩ q).cell? ⟨b, 0, none⟩ = some v0 ∧ ((w.setCell ⟨z, 0, none⟩ p).setCell ⟨z, 1, none⟩ q).cell? ⟨b, 1, none⟩ = some v1 ∧ ((w.setCell ⟨z, 0, none⟩ p).setCell ⟨z, 1, none⟩ q).cell? ⟨b', 0, none⟩ = some u0 ∧ ((w.setCell ⟨z, 0, none⟩ p).setCell ⟨z, 1, none⟩ q).cell? ⟨b', 1, none⟩ = some u1 := four_set h.1 h.2.1 h.2.2.1 h.2.2.2 n1 n2 p q
theorem bel_gr2 {w W w' : World} {rb : Nat} {a : Option Addr} (h : Below w.heap.size w W) (hG : Gr2 W w' rb a) (h1 : w.heap.size ≤ rb) (h2 : ∀ g, a = some ⟨g, 0, none⟩ → w.heap.size ≤ g) : Below w.heap.size w w' :=
  ⟨hG.os.trans h.os, hG.tape.trans h.tape, hG.output.trans h.output, Nat.le_trans h.size hG.size, fun i hi => (hG.block i (Nat.lt_of_lt_of_le hi h.size) (by omega) (fun g hg => by have := h2 g hg; omega)).trans (h.block i hi)⟩
theorem wv_sum (p q : Int) : p + q = Nm.wv (Nm.wn p) (Nm.wl p) + Nm.wv (Nm.wn q) (Nm.wl q) := by rw [Nm.wv_out, Nm.wv_out]
theorem own_blk {w w' : World} {B B' : Nat} {a b : Option Addr} {c d : Nat} {xs ys : List Int} (h : Own w B a c xs) (hlt : ∀ g, a = some ⟨g, 0, none⟩ → g < B') (k : Own w' B' b d ys) : ∀ g, b = some ⟨g, 0, none⟩ → ∀ g', a = some ⟨g', 0, none⟩ → g ≠ g' := fun g hg g' hg' => by
  have h1 := hlt g' hg'
  have h2 := (own_at k g hg).1
  omega
set_option maxRecDepth 10000 in
set_option maxHeartbeats 800000 in
theorem drawAdd_any (ca : Option Addr) (cc : Nat) (cs : List Int) (w : World) (hs : Sl .u8 w (.slice ca cs.length cc) cs) (hby : ∀ i, 0 ≤ cs.getD i 0 ∧ cs.getD i 0 ≤ 255) (hl : cs.length ≤ 1048576) :
    Calls Try.prog 21 #[.slice ca cs.length cc] w fun e w' => ∃ (na nb : Bool) (xs ys : List Int) (a b : Option Addr) (c d : Nat), e = .returned (.tuple #[.agg #[.bool na, .slice a xs.length c], .agg #[.bool nb, .slice b ys.length d]]) ∧ xs.length ≤ 2000 ∧ ys.length ≤ 2000 ∧ Nm.Dg xs ∧ Nm.Dg ys ∧ Own w' w.heap.size a c xs ∧ Own w' w.heap.size b d ys ∧ Below w.heap.size w w' := by
  have Z1 := (R2.new w (.bool false) (.slice none 0 0) 26).alloc (.cells #[.bool false, .slice none 0 0] 26)
  have Z2 := R2.new2 w (.cells #[.bool false, .slice none 0 0] 26) (.bool false) (.slice none 0 0) 26
  have hsV := (hs.alloc (.cells #[.bool false, .slice none 0 0] 26)).alloc (.cells #[.bool false, .slice none 0 0] 26)
  have hzV : ((w.alloc (.cells #[.bool false, .slice none 0 0] 26)).alloc (.cells #[.bool false, .slice none 0 0] 26)).heap.size = w.heap.size + 1 + 1 := by simp
  have hbV : Below w.heap.size w ((w.alloc (.cells #[.bool false, .slice none 0 0] 26)).alloc (.cells #[.bool false, .slice none 0 0] 26)) := (by repeat (first | exact Below.refl _ _ | refine Below.drew ?_ | refine bel_dn ?_ _ | refine bel_al ?_ _ | refine Below.setCell ?_ (by first | omega | (simp; done) | (simp; omega)) _ | refine Below.alloc ?_ (by first | omega | (simp; done) | (simp; omega)) _))
  go_enter Try.func21, Try.ntmps21
  go_wp2_with fail
  generalize (w.alloc (.cells #[.bool false, .slice none 0 0] 26)).alloc (.cells #[.bool false, .slice none 0 0] 26) = V at Z1 Z2 hsV hzV hbV ⊢
  refine (open_any ca cc cs _ hsV hby hl).mono ?_
  rintro e w1 ⟨rfl, hr1, hb1⟩
  obtain ⟨rb, hrb⟩ : ∃ rb, rb = V.heap.size := ⟨_, rfl⟩
  rw [← hrb] at hr1
  have hr1l := hr1.lt
  replace Z1 := Z1.below hb1
  replace Z2 := Z2.below hb1
  have hbw1 := bel_go hbV hb1
  have HRB := hid (And.intro hrb hzV)
  have hz0 : w.heap.size + 1 < rb := by omega
  simp only [← hrb]
  clear hrb hzV hb1
  go_wp2_with fail
  refine (wide_any rb ca cc cs _ hr1).mono ?_
  rintro e w2 ⟨x, a2, c2, rfl, lx, ho2, hr2, hg2⟩
  replace Z1 := (Z1.rd hg2 (by omega)).alloc (.cells #[.bool (Nm.wn x), .slice a2 (Nm.wl x).length c2] 26)
  replace Z2 := (Z2.rd hg2 (by omega)).alloc (.cells #[.bool (Nm.wn x), .slice a2 (Nm.wl x).length c2] 26)
  have X := R2.new w2 (.bool (Nm.wn x)) (.slice a2 (Nm.wl x).length c2) 26
  have hat2 := own_at ho2
  have l2 : w1.heap.size ≤ w2.heap.size := hg2.size
  have hbw2 : Below w.heap.size w w2 := hbw1.grown hg2 (by omega) (fun k hk => by cases hk; omega)
  replace ho2 := ho2.alloc (.cells #[.bool (Nm.wn x), .slice a2 (Nm.wl x).length c2] 26)
  go_wp2_with fail
  refine (wide_any rb ca cc cs _ (hr2.alloc _)).mono ?_
  rintro e w3 ⟨y, a3, c3, rfl, ly, ho3, hr3, hg3⟩
  replace Z1 := (Z1.rd hg3 (by omega)).alloc (.cells #[.bool (Nm.wn y), .slice a3 (Nm.wl y).length c3] 26)
  replace Z2 := (Z2.rd hg3 (by omega)).alloc (.cells #[.bool (Nm.wn y), .slice a3 (Nm.wl y).length c3] 26)
  replace X := (X.rd hg3 (by omega)).alloc (.cells #[.bool (Nm.wn y), .slice a3 (Nm.wl y).length c3] 26)
  have Y := R2.new w3 (.bool (Nm.wn y)) (.slice a3 (Nm.wl y).length c3) 26
  have hat3 := own_at ho3
  simp at hat3
  have l3 : w2.heap.size < w3.heap.size := by have := hg3.size; simp at this; omega
  have hbw3 : Below w.heap.size w w3 := (bel_al hbw2 _).grown hg3 (by simp; omega) (fun k hk => by cases hk; omega)
  replace ho2 := (ho2.rd hg3 hr1l).alloc (.cells #[.bool (Nm.wn y), .slice a3 (Nm.wl y).length c3] 26)
  replace ho3 := (ho3.base (B' := w1.heap.size) (by simp; omega)).alloc (.cells #[.bool (Nm.wn y), .slice a3 (Nm.wl y).length c3] 26)
  go_wp2_with fail
  refine (once_any rb ca cc cs 4 _ (hr3.alloc _) (by decide) (by decide)).mono ?_
  rintro e w4 ⟨bb, rfl, hr4, hg4⟩
  replace Z1 := Z1.rd hg4 (by omega)
  replace Z2 := Z2.rd hg4 (by omega)
  replace X := X.rd hg4 (by omega)
  replace Y := Y.rd hg4 (by omega)
  replace ho2 := ho2.rd hg4 hr1l
  replace ho3 := ho3.rd hg4 hr1l
  have l4 : w3.heap.size < w4.heap.size := by have := hg4.size; simp at this; omega
  have hbw4 : Below w.heap.size w w4 := (bel_al hbw3 _).grown hg4 (by simp; omega) (fun k hk => by cases hk; omega)
  cases bb
  case' false =>
    have ly' : (Nm.wl y).length ≤ 201 := by omega
    have hb3 : ∀ g, a3 = some ⟨g, 0, none⟩ → w2.heap.size < g ∧ g ≠ w3.heap.size := fun g hg => by have := hat3 g hg; omega
    go_wp2_with fail
  case' true =>
    obtain ⟨x0, x1, xf0, xf1⟩ := X
    go_wp2_with fail
    refine (l1neg_any (Nm.wn x) a2 c2 (Nm.wl x) _ ho2.sl (Nm.wl_dg x) (by omega) (-x) (wv_neg x)).mono ?_
    rintro e w5 ⟨a5, c5, rfl, ho5, hb5⟩
    have X : R2 w4 w2.heap.size (.bool (Nm.wn x)) (.slice a2 (Nm.wl x).length c2) := ⟨x0, x1, xf0, xf1⟩
    replace Z1 := Z1.below hb5
    replace Z2 := Z2.below hb5
    replace X := X.below hb5
    replace Y := Y.below hb5
    replace ho2 := ho2.below hb5
    replace hr4 := hr4.below hb5
    have hbw5 := bel_go hbw4 hb5
    have l5 : w4.heap.size ≤ w5.heap.size := hb5.size
    clear x0 x1 xf0 xf1
    go_wp2_with fail
    refine (below_any rb ca cc cs 3 _ hr4 (by decide) (by decide)).mono ?_
    rintro e w6 ⟨v, rfl, v0, v1, hr6, hg6⟩
    replace Z1 := Z1.rd hg6 (by omega)
    replace Z2 := Z2.rd hg6 (by omega)
    replace X := X.rd hg6 (by omega)
    replace Y := Y.rd hg6 (by omega)
    replace ho2 := ho2.rd hg6 hr1l
    replace ho5 := ho5.rd hg6 (by omega)
    have hbw6 : Below w.heap.size w w6 := hbw5.grown hg6 (by omega) (fun k hk => by cases hk; omega)
    have l6 : w5.heap.size ≤ w6.heap.size := hg6.size
    go_wp2_with fail
    refine (wof_spec (v - 1) _ (by omega) (by omega)).mono ?_
    rintro e w7 ⟨a7, c7, rfl, ho7, hb7⟩
    replace Z1 := Z1.below hb7
    replace Z2 := Z2.below hb7
    replace X := X.below hb7
    replace Y := Y.below hb7
    replace ho2 := ho2.below hb7
    replace ho5 := ho5.below hb7
    replace hr6 := hr6.below hb7
    have hbw7 := bel_go hbw6 hb7
    have l7 : w6.heap.size ≤ w7.heap.size := hb7.size
    have ln5 : (Nm.wl (-x)).length ≤ 200 := by have e : Nm.wl (-x) = Nm.wl x := (by unfold Nm.wl; rw [Int.natAbs_neg]); rw [e]; exact lx
    have ln7 := wl_64 (n := v - 1) (by omega) (by omega)
    go_wp2_with fail
    refine (l1add_any _ _ a5 a7 c5 c7 _ _ _ ho5.sl ho7.sl (Nm.wl_dg _) (Nm.wl_dg _) (Nm.wl_nz _) (Nm.wl_nz _) (by omega) (by omega) (-x + (v - 1)) (wv_sum _ _)).mono ?_
    rintro e w8 ⟨a3, c3, rfl, ho3, hb8⟩
    replace Z1 := Z1.below hb8
    replace Z2 := Z2.below hb8
    replace X := X.below hb8
    replace Y := Y.below hb8
    replace ho2 := ho2.below hb8
    replace hr6 := hr6.below hb8
    have hbw8 := bel_go hbw7 hb8
    have l8 : w7.heap.size ≤ w8.heap.size := hb8.size
    have ly' := neg_short lx (v - 1) (by omega) (by omega)
    obtain ⟨y, hy⟩ : ∃ y, y = -x + (v - 1) := ⟨_, rfl⟩
    rw [← hy] at ho3 ly'
    simp only [← hy]
    clear hy
    have hat3 := own_at ho3
    have Ys := R2.set Y (.bool (Nm.wn y)) (.slice a3 (Nm.wl y).length c3)
    replace Z1 := (Z1.other (p := ⟨w3.heap.size, 0, none⟩) (by simp; omega) (.bool (Nm.wn y))).other (p := ⟨w3.heap.size, 1, none⟩) (by simp; omega) (.slice a3 (Nm.wl y).length c3)
    replace Z2 := (Z2.other (p := ⟨w3.heap.size, 0, none⟩) (by simp; omega) (.bool (Nm.wn y))).other (p := ⟨w3.heap.size, 1, none⟩) (by simp; omega) (.slice a3 (Nm.wl y).length c3)
    replace X := (X.other (p := ⟨w3.heap.size, 0, none⟩) (by simp; omega) (.bool (Nm.wn y))).other (p := ⟨w3.heap.size, 1, none⟩) (by simp; omega) (.slice a3 (Nm.wl y).length c3)
    replace hr4 := (hr6.other (p := ⟨w3.heap.size, 0, none⟩) (by simp; omega) (.bool (Nm.wn y))).other (p := ⟨w3.heap.size, 1, none⟩) (by simp; omega) (.slice a3 (Nm.wl y).length c3)
    replace ho2 := (ho2.setOther (p := ⟨w3.heap.size, 0, none⟩) (fun g hg => by have := hat2 g hg; simp; omega) (.bool (Nm.wn y))).setOther (p := ⟨w3.heap.size, 1, none⟩) (fun g hg => by have := hat2 g hg; simp; omega) (.slice a3 (Nm.wl y).length c3)
    replace ho3 := ((ho3.setBelow (p := ⟨w3.heap.size, 0, none⟩) (by simp; omega) (.bool (Nm.wn y))).setBelow (p := ⟨w3.heap.size, 1, none⟩) (by simp; omega) (.slice a3 (Nm.wl y).length c3)).base (B' := w1.heap.size) (by omega)
    have hbw4 : Below w.heap.size w ((w8.setCell ⟨w3.heap.size, 0, none⟩ (.bool (Nm.wn y))).setCell ⟨w3.heap.size, 1, none⟩ (.slice a3 (Nm.wl y).length c3)) := (hbw8.setCell (by simp; omega) _).setCell (by simp; omega) _
    have hb3 : ∀ g, a3 = some ⟨g, 0, none⟩ → w2.heap.size < g ∧ g ≠ w3.heap.size := fun g hg => by have := hat3 g hg; omega
    obtain ⟨y0, y1, yf0, yf1⟩ := Y
    have Y := Ys
    go_wp2_with fail
    generalize (w8.setCell ⟨w3.heap.size, 0, none⟩ (.bool (Nm.wn y))).setCell ⟨w3.heap.size, 1, none⟩ (.slice a3 (Nm.wl y).length c3) = w4 at Z1 Z2 X hr4 ho2 ho3 hbw4 Y ⊢
  all_goals
    have l4 : w3.heap.size < w4.heap.size := World.block_lt_of_cell? w4 _ Y.c0
    have xx0 := X.c0
    have xx1 := X.c1
    have yy0 := Y.c0
    have yy1 := Y.c1
    have kd : w4.drew.cell? ⟨w2.heap.size, 0, none⟩ = some (.bool (Nm.wn x)) ∧ w4.drew.cell? ⟨w2.heap.size, 1, none⟩ = some (.slice a2 (Nm.wl x).length c2) ∧ w4.drew.cell? ⟨w3.heap.size, 0, none⟩ = some (.bool (Nm.wn y)) ∧ w4.drew.cell? ⟨w3.heap.size, 1, none⟩ = some (.slice a3 (Nm.wl y).length c3) := ⟨xx0, xx1, yy0, yy1⟩
    have HH := hid (And.intro Z1 Z2)
    clear Z1 Z2
    go_region_held3 (fun w' => w'.cell? ⟨w2.heap.size, 0, none⟩ = some (.bool (Nm.wn x)) ∧ w'.cell? ⟨w2.heap.size, 1, none⟩ = some (.slice a2 (Nm.wl x).length c2) ∧ w'.cell? ⟨w3.heap.size, 0, none⟩ = some (.bool (Nm.wn y)) ∧ w'.cell? ⟨w3.heap.size, 1, none⟩ = some (.slice a3 (Nm.wl y).length c3))
      (first | with_reducible assumption | with_reducible exact kd | ((with_reducible refine four_set' ‹_› ?_ ?_) <;> omega))
      (first
        | (go_at_call_of 65 x; refine (hurt_any rb ca cc cs (Nm.wn x) a2 c2 (Nm.wl x) w1.heap.size _ (by exact hr4.drew) (by exact ho2.drew) hr1l (Nm.wl_dg x) (by omega) (by simp; omega)).mono ?_; rintro e w5 ⟨n5, L5, a5, c5, rfl, len5, dg5, ho5, hr5, hG5, hw5⟩; have k5x : Box w5 w2.heap.size (.bool (Nm.wn x)) (.slice a2 (Nm.wl x).length c2) := Gr2.box (w := w4.drew) ⟨xx0, xx1⟩ hG5 (by omega) (fun g hg => by have := hat2 g hg; omega); have k5y : Box w5 w3.heap.size (.bool (Nm.wn y)) (.slice a3 (Nm.wl y).length c3) := Gr2.box (w := w4.drew) ⟨yy0, yy1⟩ hG5 (by omega) (fun g hg => by have := hat2 g hg; omega); have k5 := And.intro k5x.1 (And.intro k5x.2 (And.intro k5y.1 k5y.2)); have o5 := Gr2.own ho3.drew hG5 (fun g hg => ⟨by have := hb3 g hg; omega, fun g' hg' => by have := hb3 g hg; have := hat2 g' hg'; omega⟩))
        | (go_at_call 65; refine (hurt_any rb ca cc cs (Nm.wn y) a3 c3 (Nm.wl y) w1.heap.size _ (by exact hr5) (by exact o5) hr1l (Nm.wl_dg y) (by omega) (by have := hG5.size; simp at this; omega)).mono ?_; rintro e w6 ⟨n6, L6, a6, c6, rfl, len6, dg6, ho6, hr6, hG6, hw6⟩; have z5 : R2 w5 w.heap.size (.bool false) (.slice none 0 0) ∧ R2 w5 (w.heap.size + 1) (.bool false) (.slice none 0 0) := ⟨Gr2.r2 (w := w4.drew) HH.out.1.drew hG5 (by omega) (fun g hg => by have := hat2 g hg; omega), Gr2.r2 (w := w4.drew) HH.out.2.drew hG5 (by omega) (fun g hg => by have := hat2 g hg; omega)⟩; have z6 : R2 w6 w.heap.size (.bool false) (.slice none 0 0) ∧ R2 w6 (w.heap.size + 1) (.bool false) (.slice none 0 0) := ⟨Gr2.r2 z5.1 hG6 (by omega) (fun g hg => by have := hb3 g hg; omega), Gr2.r2 z5.2 hG6 (by omega) (fun g hg => by have := hb3 g hg; omega)⟩; obtain ⟨⟨p0, p1, p2, p3⟩, ⟨q0, q1, q2, q3⟩⟩ := z6; have k6x := Gr2.box k5x hG6 (by omega) (fun g hg => by have := hb3 g hg; omega); have k6y := Gr2.box k5y hG6 (by omega) (fun g hg => by have := hb3 g hg; omega); have k6 := And.intro k6x.1 (And.intro k6x.2 (And.intro k6y.1 k6y.2))))
    have hat3w := own_at ho3
    have ho56 := Gr2.own ho5 hG6 (fun g hg => ⟨by have := (own_at ho5 g hg).1; omega, fun g' hg' => by
      have h3 := hb3 g' hg'
      have h4 := (hat3w g' hg').2
      rcases hw5 g hg with h | h
      · have := hat2 g h; omega
      · simp at h; omega⟩)
    have hbw5 := bel_gr2 (Below.drew hbw4) hG5 (by omega) (fun g hg => by have := hat2 g hg; omega)
    have hbw6 := bel_gr2 hbw5 hG6 (by omega) (fun g hg => by have := hb3 g hg; omega)
    go_wp2
    refine bodyPost_ret (v := .tuple #[.agg #[.bool n5, .slice a5 L5.length c5], .agg #[.bool n6, .slice a6 L6.length c6]]) (by simp [results, Try.results21, go_sem, p0, p1, q0, q1]) rfl ⟨n5, n6, L5, L6, a5, a6, c5, c6, rfl, len5, len6, dg5, dg6, ?_, ?_, ?_⟩
    · exact ((((ho56.setBelow (by simp; omega) _).setBelow (by simp; omega) _).setBelow (by simp; omega) _).setBelow (by simp; omega) _).base (by omega)
    · exact ((((ho6.setBelow (by simp; omega) _).setBelow (by simp; omega) _).setBelow (by simp; omega) _).setBelow (by simp; omega) _).base (by omega)
    · exact (((hbw6.setCell (by simp) _).setCell (by simp) _).setCell (by simp) _).setCell (by simp) _
end Go.Proofs.Ytlifpkdmcpjhpaa
