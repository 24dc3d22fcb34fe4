/-
  What is needed of DrawC.
-/
import Derived.Test.YtkfjmcdniohljaaGreatDoorF31
set_option maxHeartbeats 16000000
set_option maxRecDepth 1000000
namespace Go.Proofs.YtkfjmcdniohljaaGreatDoor
set_option linter.unusedVariables false
set_option linter.unusedSimpArgs false
open Go.RowKit Go.Deep
structure Gr2 (w w' : World) (rb : Nat) (a : Option Addr) : Prop where
 os : w'.os = w.os
 tape : w'.tape = w.tape
 output : w'.output = w.output
 size : w.heap.size ≤ w'.heap.size
 block : ∀ k, k < w.heap.size → k ≠ rb → (∀ g, a = some ⟨g, 0, none⟩ → k ≠ g) → w'.heap[k]? = w.heap[k]?
theorem Gr2.of {w w' : World} {rb : Nat} {a : Option Addr} (h : w.grownBy w' (some rb)) : Gr2 w w' rb a := ⟨h.os, h.tape, h.output, h.size, fun k hk hne _ => h.block k hk (by intro e; exact hne (Option.some.inj e))⟩
theorem Gr2.trans {w w1 w2 : World} {rb : Nat} {a : Option Addr} (h : Gr2 w w1 rb a) (k : Gr2 w1 w2 rb a) : Gr2 w w2 rb a :=
 ⟨k.os.trans h.os, k.tape.trans h.tape, k.output.trans h.output, Nat.le_trans h.size k.size, fun i hi h1 h2 => (k.block i (Nat.lt_of_lt_of_le hi h.size) h1 h2).trans (h.block i hi h1 h2)⟩
theorem Gr2.below {w w1 w2 : World} {rb : Nat} {a : Option Addr} (h : Gr2 w w1 rb a) (hb : Below w1.heap.size w1 w2) : Gr2 w w2 rb a := h.trans (Gr2.of (grown_below hb _))
theorem Gr2.row {w w1 w2 : World} {rb : Nat} {a a' : Option Addr} {n c : Nat} (h : Gr2 w w1 rb a) (hg : w1.grownBy w2 (Value.slice a' n c).ownBlock) (hn : ∀ g, a' = some ⟨g, 0, none⟩ → a = some ⟨g, 0, none⟩ ∨ w.heap.size ≤ g) (hf : ∀ x, a' = some x → ∃ g, x = ⟨g, 0, none⟩) : Gr2 w w2 rb a :=
 ⟨hg.os.trans h.os, hg.tape.trans h.tape, hg.output.trans h.output, Nat.le_trans h.size hg.size, fun i hi h1 h2 => (hg.block i (Nat.lt_of_lt_of_le hi h.size) (by
  intro e
  cases a' with
  | none => cases e
  | some x =>
   obtain ⟨g, rfl⟩ := hf x rfl
   have e' : i = g := Option.some.inj e
   subst e'
   rcases hn i rfl with h3 | h3
   ·exact h2 i h3 rfl
   ·omega)).trans (h.block i hi h1 h2)⟩
theorem Gr2.box {w w' : World} {rb b : Nat} {a : Option Addr} {v0 v1 : Value} (h : Box w b v0 v1) (hg : Gr2 w w' rb a) (h1 : b ≠ rb) (h2 : ∀ g, a = some ⟨g, 0, none⟩ → b ≠ g) : Box w' b v0 v1 := by
 have e := hg.block b (World.block_lt_of_cell? w _ h.1) h1 h2
 exact ⟨(World.cell?_of_block (a := ⟨b, 0, none⟩) e).trans h.1, (World.cell?_of_block (a := ⟨b, 1, none⟩) e).trans h.2⟩
theorem Gr2.own {w w' : World} {rb B : Nat} {a o : Option Addr} {c : Nat} {zs : List Int} (h : Own w B o c zs) (hg : Gr2 w w' rb a) (h1 : ∀ g, o = some ⟨g, 0, none⟩ → g ≠ rb ∧ ∀ g', a = some ⟨g', 0, none⟩ → g ≠ g') : Own w' B o c zs := by
 refine ⟨h.1, ?_⟩
 rcases h.2 with h2 | ⟨g, cap', cur, e1, e2, e3, e4⟩
 ·exact .inl h2
 ·have hg' : o = some ⟨g, 0, none⟩ := by simpa using (Value.slice.inj e1).1
  refine .inr ⟨g, cap', cur, e1, e2, ?_, e4⟩
  rw [hg.block g (Array.getElem?_eq_some_iff.1 e3).1 (h1 g hg').1 (h1 g hg').2]; exact e3
theorem own_form {w : World} {B : Nat} {a : Option Addr} {c : Nat} {zs : List Int} (h : Own w B a c zs) : ∀ x, a = some x → ∃ g, x = ⟨g, 0, none⟩ := by
 intro x hx
 rcases h.block with ⟨e, _⟩ | ⟨g, e, _⟩
 ·rw [e] at hx; cases hx
 ·rw [e] at hx; cases hx; exact ⟨g, rfl⟩
theorem own_at {w : World} {B : Nat} {a : Option Addr} {c : Nat} {zs : List Int} (h : Own w B a c zs) : ∀ g, a = some ⟨g, 0, none⟩ → B ≤ g ∧ g < w.heap.size := by
 intro g hg
 rcases h.block with ⟨e, _⟩ | ⟨g', e, h1, h2⟩
 ·rw [e] at hg; cases hg
 ·rw [e] at hg; cases hg; exact ⟨h1, h2⟩
theorem RD.row {w w' : World} {rb B : Nat} {ca : Option Addr} {cc : Nat} {cs : List Int} {a : Option Addr} {n c : Nat} {zs : List Int} (h : RD w rb ca cc cs) (ho : Own w B a c zs) (hB : rb < B) (hg : w.grownBy w' (Value.slice a n c).ownBlock) : RD w' rb ca cc cs := by
 cases a with
 | none => exact h.below ⟨hg.os, hg.tape, hg.output, hg.size, fun k hk => hg.block k hk (by intro e; cases e)⟩
 | some x =>
  obtain ⟨g, rfl⟩ := own_form ho x rfl
  exact h.grown (g := g) hg (by have := (own_at ho g rfl).1; omega)
theorem own_snoc {w : World} {B g cap : Nat} {os : List Int} {d : Int} (h : w.ownsRow B 128 1 (.slice (some ⟨g, 0, none⟩) (os.length + 1) cap) (os.length + 1) (os.map (Value.int .u32) ++ [.int .u32 d])) : Own w B (some ⟨g, 0, none⟩) cap (os ++ [d]) := own_more h
theorem set_grown (w : World) (p : Addr) (v : Value) : w.grownBy (w.setCell p v) (some p.block) :=
 ⟨by simp [World.setCell], by simp [World.setCell], by simp [World.setCell], by simp [World.setCell], fun k hk hne => Below.heap_setCell w p v k (by intro e; exact hne (by rw [e]))⟩
theorem Gr2.set {w w1 : World} {rb : Nat} {a : Option Addr} (h : Gr2 w w1 rb a) {p : Addr} (hp : w.heap.size ≤ p.block) (v : Value) : Gr2 w (w1.setCell p v) rb a := by
 have hg := set_grown w1 p v
 exact ⟨hg.os.trans h.os, hg.tape.trans h.tape, hg.output.trans h.output, Nat.le_trans h.size hg.size, fun i hi h1 h2 => (hg.block i (Nat.lt_of_lt_of_le hi h.size) (by intro e; have : i = p.block := Option.some.inj e; omega)).trans (h.block i hi h1 h2)⟩
theorem RD.other {w : World} {rb : Nat} {ca : Option Addr} {cc : Nat} {cs : List Int} (h : RD w rb ca cc cs) {p : Addr} (hp : rb < p.block) (v : Value) : RD (w.setCell p v) rb ca cc cs := h.grown (set_grown w p v) hp
theorem R2.row {w w' : World} {b B n c : Nat} {v0 v1 : Value} {a : Option Addr} {zs : List Int} (h : R2 w b v0 v1) (ho : Own w B a c zs) (hg : w.grownBy w' (Value.slice a n c).ownBlock) (hne : ∀ g, a = some ⟨g, 0, none⟩ → b ≠ g) : R2 w' b v0 v1 := by
 cases a with
 | none => exact h.below ⟨hg.os, hg.tape, hg.output, hg.size, fun k hk => hg.block k hk (by intro e; cases e)⟩
 | some x =>
  obtain ⟨g, rfl⟩ := own_form ho x rfl
  exact h.grown (g := g) hg (hne g rfl)
theorem hurt_any (rb : Nat) (ca : Option Addr) (cc : Nat) (cs : List Int) (ng : Bool) (a : Option Addr) (c : Nat) (L : List Int) (B : Nat) (w : World) (hr : RD w rb ca cc cs) (ho : Own w B a c L) (hB : rb < B) (hd : Nm.Dg L) (hl : L.length ≤ 1000) (hBw : B ≤ w.heap.size) :
  Calls Tryz.prog 198 #[.pointer (some ⟨rb, 0, none⟩), .agg #[.bool ng, .slice a L.length c]] w fun e w' => ∃ ng' L' a' c', e = .returned (.agg #[.bool ng', .slice a' L'.length c']) ∧ L'.length ≤ 2000 ∧ Nm.Dg L' ∧ Own w' B a' c' L' ∧ RD w' rb ca cc cs ∧ Gr2 w w' rb a ∧ (∀ g, a' = some ⟨g, 0, none⟩ → a = some ⟨g, 0, none⟩ ∨ w.heap.size ≤ g) := by
 obtain ⟨i0, hi, hz0, hz1, hz2⟩ := info_parts info32
 have HI := hid (And.intro hi (And.intro hz0 (And.intro hz1 hz2)))
 clear hi hz0 hz1 hz2
 have Rx := (R2.new w (.bool ng) (.slice a L.length c) 32).alloc (.cells #[.bool false, .slice none 0 0] 32)
 have Rz := R2.new2 w (.cells #[.bool ng, .slice a L.length c] 32) (.bool false) (.slice none 0 0) 32
 have hrV := (hr.alloc (.cells #[.bool ng, .slice a L.length c] 32)).alloc (.cells #[.bool false, .slice none 0 0] 32)
 have hoV := (ho.alloc (.cells #[.bool ng, .slice a L.length c] 32)).alloc (.cells #[.bool false, .slice none 0 0] 32)
 have hsV : ((w.alloc (.cells #[.bool ng, .slice a L.length c] 32)).alloc (.cells #[.bool false, .slice none 0 0] 32)).heap.size = w.heap.size + 1 + 1 := by simp
 have hbV : Below w.heap.size w ((w.alloc (.cells #[.bool ng, .slice a L.length c] 32)).alloc (.cells #[.bool false, .slice none 0 0] 32)) := (by repeat (first | exact bz0 _ _ | refine bz1 ?_ | refine bz2 ?_ _ | refine bz3 ?_ _ | refine bz5 ?_ _ | refine bz6 ?_ _))
 have hat := own_at ho
 have hrlt := hr.lt
 go_enter Tryz.func198, Tryz.ntmps198
 go_wp2_with fail
 generalize (w.alloc (.cells #[.bool ng, .slice a L.length c] 32)).alloc (.cells #[.bool false, .slice none 0 0] 32) = V at Rx Rz hrV hoV hsV hbV ⊢
 have HSV := hid hsV
 clear hsV
 refine (below_any rb ca cc cs 30 _ hrV (by decide) (by decide)).mono ?_
 rintro e w1 ⟨v, rfl, v0, v1, hr1, hg1⟩
 have hG1 : Gr2 w w1 rb a := (Gr2.of (grown_below hbV _)).trans (Gr2.of hg1)
 replace Rx := Rx.rd hg1 (by omega)
 replace Rz := Rz.rd hg1 (by omega)
 have ho1 := hoV.rd hg1 hB
 have l1 : w.heap.size + 1 + 1 ≤ w1.heap.size := by have := hg1.size; have := HSV.out; omega
 rcases (show v = 0 ∨ v = 1 ∨ v = 2 ∨ 2 < v by omega) with rfl | rfl | rfl | hv
 ·obtain ⟨x0, x1, xf0, xf1⟩ := Rx
  have HZ := hid Rz
  clear Rz
  go_wp2_with (at_builtin; refine wpList_append_lies _ rfl _ _ 30 rfl B 128 i0 (.int .u32 0) 1 4 Tryz.underlying30 HI.out.1 HI.out.2.1 HI.out.2.2.1 HI.out.2.2.2 rfl (by decide) (.slice a L.length c) L.length (L.map (Value.int .u32)) rfl (by exact ho1.alloc _) ⟨w1.heap.size, 0, none⟩ 1 1 [.int .u32 0] rfl rfl (by exact news_one w1 _) (one_one _) (by decide) (by unfold maxLen; omega) (by omega) (by simp; omega) (w1.heap.size + 1) (by simp) ?_; intro g1 cp1 w2 hown2 hgrow hat2 hlt2; obtain ⟨q0, q1, q2, q3⟩ := R2.row (R2.alloc ⟨x0, x1, xf0, xf1⟩ _) (ho1.alloc _) hgrow (fun g hg => by have := hat g hg; omega); obtain ⟨z0, z1, z2, z3⟩ := R2.row (HZ.out.alloc _) (ho1.alloc _) hgrow (fun g hg => by have := hat g hg; omega))
  have ho2 := own_snoc hown2
  have hr2 := RD.row (hr1.alloc (.cells #[.int .u32 0] 128)) (ho1.alloc _) hB hgrow
  have hG2 := Gr2.row (hG1.below ((Below.refl _ _).alloc (Nat.le_refl _) (.cells #[.int .u32 0] 128))) hgrow (fun g hg => .inl hg) (own_form ho1)
  have hg1n : g1 ≠ w.heap.size ∧ g1 ≠ w.heap.size + 1 := by
   rcases hat2 with h | h
   ·have : g1 < w.heap.size := by
     cases a with
     | none => cases h
     | some x =>
      obtain ⟨g, rfl⟩ := own_form ho x rfl
      have e : g = g1 := Option.some.inj h
      have := hat g rfl
      omega
    omega
   ·omega
  have hwh : ∀ g, (some ⟨g1, 0, none⟩ : Option Addr) = some ⟨g, 0, none⟩ → a = some ⟨g, 0, none⟩ ∨ w.heap.size ≤ g := fun g hg => by
   cases hg
   rcases hat2 with h | h
   ·cases a with
    | none => cases h
    | some x =>
     obtain ⟨g, rfl⟩ := own_form ho x rfl
     have e : g = g1 := Option.some.inj h
     subst e
     exact .inl rfl
   ·right; omega
  have hgs : ∀ b, b ≠ g1 → ∀ g, (some ⟨g1, 0, none⟩ : Option Addr) = some ⟨g, 0, none⟩ → g ≠ b := fun b hb g hg => by cases hg; exact fun e => hb e.symm
  refine bodyPost_ret (v := .agg #[.bool ng, .slice (some ⟨g1, 0, none⟩) (L.length + 1) cp1]) (by simp [results, Tryz.results198, go_sem, z0, z1]) rfl ⟨ng, L ++ [0], some ⟨g1, 0, none⟩, cp1, by simp, by simp; omega, hd.append (Nm.Dg.cons (by decide) Nm.Dg.nil), ?_, ?_, ?_, hwh⟩
  ·exact ((ho2.setOther (hgs _ (by simp; omega)) _).setOther (hgs _ (by simp; omega)) _).setOther (hgs _ (by simp; omega)) _
  ·exact ((hr2.other (by simp; omega) _).other (by simp; omega) _).other (by simp; omega) _
  ·exact ((hG2.set (by simp) _).set (by simp) _).set (by simp) _
 ·obtain ⟨x0, x1, xf0, xf1⟩ := Rx
  obtain ⟨z0, z1, z2, z3⟩ := Rz
  go_wp2
  refine bodyPost_ret (v := .agg #[.bool true, .slice none 0 0]) (by simp [results, Tryz.results198, go_sem, z0, z1]) rfl ⟨true, [], none, 0, rfl, by simp, Nm.Dg.nil, Own.nil _ _, ?_, ?_, fun g hg => by cases hg⟩
  ·exact (hr1.other (by simp; omega) _).other (by simp; omega) _
  ·exact (hG1.set (by simp) _).set (by simp) _
 ·have HX := hid Rx
  have HZ := hid Rz
  clear Rx Rz
  go_wp2_with fail
  go_loopw [5] (fun iv wr => ∃ i : Nat, ∃ L' : List Int, ∃ a' c', i ≤ 202 ∧ iv = .int .i64 i ∧ L'.length ≤ L.length + i ∧ Nm.Dg L' ∧ R2 wr w.heap.size (.bool ng) (.slice a' L'.length c') ∧ R2 wr (w.heap.size + 1) (.bool false) (.slice none 0 0) ∧ Own wr B a' c' L' ∧ RD wr rb ca cc cs ∧ Gr2 w wr rb a ∧ (∀ g, a' = some ⟨g, 0, none⟩ → a = some ⟨g, 0, none⟩ ∨ w.heap.size + 2 ≤ g) ∧ w.heap.size + 2 ≤ wr.heap.size) (fun iv _ => 202 - (intOf iv).toNat)
  case atStart => exact ⟨0, L, a, c, by omega, rfl, by omega, hd, HX.out, HZ.out, ho1, hr1, hG1, fun g hg => .inl hg, l1⟩
  case round =>
   obtain ⟨i, L', a', c', hi, rfl, hlen, hdd, Rx, Rz, hoo, hrr, hGG, haa, lr⟩ := hrel
   obtain ⟨p, hp, rp⟩ := hrr.p
   have y0 := rp.c0
   have hcl := hrr.len
   obtain ⟨x0, x1, xf0, xf1⟩ := Rx
   have HRP := hid rp
   have HAA := hid haa
   have HDD := hid hdd
   have HZ2 := hid Rz
   clear rp haa Rz hdd
   by_cases hlt : i < 202
   ·have gd : decide ((i : Int) < 202) = true := by simp; omega
    obtain ⟨t, ht⟩ : ∃ t, t = ((cs.length : Int)).tmod 3 := ⟨_, rfl⟩
    have ht' : ((cs.length : Int)).tmod 3 = t := ht.symm
    have ht2 : 0 ≤ t ∧ t < 3 := by rw [ht, Int.tmod_eq_emod_of_nonneg (by omega)]; omega
    clear ht
    have kw : IntKind.i64.wrap (199 + t) = 199 + t := by rw [IntKind.wrap_i64]; omega
    by_cases hle : (L'.length : Int) < 199 + t
    ·have gl : decide ((L'.length : Int) < 199 + t) = true := by simpa using hle
     go_wp2_with fail
     go_region_held3 (fun w' => w'.cell? ⟨w.heap.size, 1, none⟩ = some (.slice a' L'.length c') ∧ w'.cell? ⟨rb, 0, none⟩ = some (.slice ca cs.length cc)) (first | assumption | exact ⟨x1, y0⟩) (fail)
     go_wp2_with (at_builtin; refine wpList_append_lies _ rfl _ _ 30 rfl B 128 i0 (.int .u32 0) 1 4 Tryz.underlying30 HI.out.1 HI.out.2.1 HI.out.2.2.1 HI.out.2.2.2 rfl (by decide) (.slice a' L'.length c') L'.length (L'.map (Value.int .u32)) rfl (by exact hoo.drew.alloc _) ⟨wr.heap.size, 0, none⟩ 1 1 [.int .u32 4294967295] rfl rfl (by exact news_one wr.drew _) (one_one _) (by decide) (by unfold maxLen; omega) (by omega) (by simp; omega) (wr.heap.size + 1) (by simp) ?_; intro g1 cp1 w2 hown2 hgrow hat2 hlt2; obtain ⟨q0, q1, q2, q3⟩ := R2.row (R2.alloc (R2.drew ⟨x0, x1, xf0, xf1⟩) _) (hoo.drew.alloc _) hgrow (fun g hg => by rcases HAA.out g hg with h | h; (have := hat g h; omega); omega))
     have z2 := R2.row (R2.alloc (R2.drew HZ2.out) (.cells #[.int .u32 4294967295] 128)) (hoo.drew.alloc _) hgrow (fun g hg => by
      rcases HAA.out g hg with h | h
      ·have := hat g h; omega
      ·have := (own_at hoo g hg).2; omega)
     have ho2 := own_snoc hown2
     have hr2 := RD.row ((hrr.drew).alloc (.cells #[.int .u32 4294967295] 128)) (hoo.drew.alloc _) hB hgrow
     have hG2 := Gr2.row (hGG.below (by exact (Below.drew (Below.refl _ _)).alloc (by simp) (.cells #[.int .u32 4294967295] 128))) hgrow (fun g hg => by
      rcases HAA.out g hg with h | h
      ·exact .inl h
      ·exact .inr (by omega)) (own_form hoo)
     have hg1n : a = some ⟨g1, 0, none⟩ ∨ w.heap.size + 2 ≤ g1 := by
      rcases hat2 with h | h
      ·cases a' with
       | none => cases h
       | some x =>
        obtain ⟨g, rfl⟩ := own_form hoo x rfl
        have e : g = g1 := Option.some.inj h
        subst e
        exact HAA.out g rfl
      ·right; omega
     have hg1m : g1 ≠ w.heap.size ∧ g1 ≠ w.heap.size + 1 := by
      rcases hg1n with h | h
      ·have := hat g1 h; omega
      ·omega
     have hgs : ∀ g, (some ⟨g1, 0, none⟩ : Option Addr) = some ⟨g, 0, none⟩ → g ≠ w.heap.size := fun g hg => by cases hg; exact hg1m.1
     have rs : R2 (w2.setCell ⟨w.heap.size, 1, none⟩ (.slice (some ⟨g1, 0, none⟩) (L'.length + 1) cp1)) w.heap.size (.bool ng) (.slice (some ⟨g1, 0, none⟩) (L'.length + 1) cp1) := ⟨by simp [go_sem, q0, q1], by simp [go_sem, q0, q1], by simp [go_sem, q2, q3], by simp [go_sem, q2, q3]⟩
     have lw2 : wr.heap.size ≤ w2.heap.size := by have := hgrow.size; simp at this; omega
     clear hown2 hat2
     go_roundw
     case rel => exact ⟨i + 1, L' ++ [4294967295], some ⟨g1, 0, none⟩, cp1, by omega, by go_num, by simp; omega, HDD.out.append (Nm.Dg.cons (by decide) Nm.Dg.nil), by rw [List.length_append]; exact rs, z2.other (by simp) _, ho2.setOther hgs _, hr2.other (by simp; omega) _, hG2.set (by simp) _, fun g hg => by cases hg; exact hg1n, by simp; omega⟩
     case measure => simp [intOf]; omega
    ·have gl : decide ((L'.length : Int) < 199 + t) = false := by simpa using hle
     go_wp2_with fail
     go_region_held3 (fun w' => w'.cell? ⟨w.heap.size, 1, none⟩ = some (.slice a' L'.length c') ∧ w'.cell? ⟨rb, 0, none⟩ = some (.slice ca cs.length cc)) (first | assumption | exact ⟨x1, y0⟩) (fail)
     have hgs : ∀ b, b = w.heap.size ∨ b = w.heap.size + 1 → ∀ g, a' = some ⟨g, 0, none⟩ → g ≠ b := fun b hb g hg => by
      rcases HAA.out g hg with h | h
      ·have := hat g h; omega
      ·omega
     obtain ⟨z0, z1, z2, z3⟩ := HZ2.out
     go_wp2
     refine bodyPost_ret (v := .agg #[.bool ng, .slice a' L'.length c']) (by simp [results, Tryz.results198, go_sem, z0, z1]) rfl ⟨ng, L', a', c', rfl, by omega, HDD.out, ?_, ?_, ?_, fun g hg => (HAA.out g hg).imp id (fun h => by omega)⟩
     ·exact ((hoo.drew).setOther (hgs _ (.inr rfl)) _).setOther (hgs _ (.inr rfl)) _
     ·exact ((hrr.drew).other (by simp; omega) _).other (by simp; omega) _
     ·exact ((hGG.below (Below.drew (Below.refl _ _))).set (by simp) _).set (by simp) _
   ·have gd : decide ((i : Int) < 202) = false := by simp; omega
    go_wp2_with fail
    go_region
    all_goals
     have hgs : ∀ b, b = w.heap.size ∨ b = w.heap.size + 1 → ∀ g, a' = some ⟨g, 0, none⟩ → g ≠ b := fun b hb g hg => by
      rcases HAA.out g hg with h | h
      ·have := hat g h; omega
      ·omega
     obtain ⟨z0, z1, z2, z3⟩ := HZ2.out
     go_wp2
     refine bodyPost_ret (v := .agg #[.bool ng, .slice a' L'.length c']) (by simp [results, Tryz.results198, go_sem, z0, z1]) rfl ⟨ng, L', a', c', rfl, by omega, HDD.out, ?_, ?_, ?_, fun g hg => (HAA.out g hg).imp id (fun h => by omega)⟩
     ·exact ((hoo.drew).setOther (hgs _ (.inr rfl)) _).setOther (hgs _ (.inr rfl)) _
     ·exact ((hrr.drew).other (by simp; omega) _).other (by simp; omega) _
     ·exact ((hGG.below (Below.drew (Below.refl _ _))).set (by simp) _).set (by simp) _
 ·obtain ⟨x0, x1, xf0, xf1⟩ := Rx
  obtain ⟨z0, z1, z2, z3⟩ := Rz
  have e0 : (v == 0) = false := by simp; omega
  have e1 : (v == 1) = false := by simp; omega
  have e2 : (v == 2) = false := by simp; omega
  go_wp2
  have hgs : ∀ b, w.heap.size ≤ b → ∀ g, a = some ⟨g, 0, none⟩ → g ≠ b := fun b hb g hg => by have := hat g hg; omega
  refine bodyPost_ret (v := .agg #[.bool ng, .slice a L.length c]) (by simp [results, Tryz.results198, go_sem, z0, z1]) rfl ⟨ng, L, a, c, rfl, by omega, hd, ?_, ?_, ?_, fun g hg => .inl hg⟩
  ·exact (ho1.setOther (hgs _ (by simp)) _).setOther (hgs _ (by simp)) _
  ·exact (hr1.other (by simp; omega) _).other (by simp; omega) _
  ·exact (hG1.set (by simp) _).set (by simp) _
end Go.Proofs.YtkfjmcdniohljaaGreatDoor
