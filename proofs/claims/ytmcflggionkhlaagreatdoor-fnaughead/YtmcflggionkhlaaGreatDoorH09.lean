/-
  What is needed of WideQ, DrawA.
-/
import Derived.Deep.RegionHeld3
import Derived.Laws.Closers25b
import Derived.Test.YtmcflggionkhlaaGreatDoorH06
set_option maxHeartbeats 16000000
set_option maxRecDepth 1000000
namespace Go.Proofs.YtmcflggionkhlaaGreatDoor
set_option linter.unusedVariables false
set_option linter.unusedSimpArgs false
open Go.RowKit Go.Deep
theorem news_one (w : World) (d : Int) : ∀ j u, ([Value.int .u32 d] : List Value)[j]? = some u → (w.alloc (.cells #[.int .u32 d] 89)).cell? ((⟨w.heap.size, 0, none⟩ : Addr).add j) = some u := by
  intro j u hj
  cases j with
  | zero => simp at hj; subst hj; simp [Addr.add]
  | succ j => simp at hj
theorem one_one (d : Int) : ∀ u ∈ ([Value.int .u32 d] : List Value), u.oneCell' = true := by
  intro u hu; simp at hu; subst hu; rfl
/-- One limb more, behind those of the call's own. -/
theorem own_more {w : World} {B g cap : Nat} {os : List Int} {d : Int} (h : w.ownsRow B 89 1 (.slice (some ⟨g, 0, none⟩) (os.length + 1) cap) (os.length + 1) (os.map (Value.int .u32) ++ [.int .u32 d])) : Own w B (some ⟨g, 0, none⟩) cap (os ++ [d]) := by
  unfold Own; simpa using h
theorem own_buf {w : World} : Own (w.alloc (.cells #[] 89)) w.heap.size (some ⟨w.heap.size, 0, none⟩) 0 [] := by
  have := World.ownsRow_made (base := w.heap.size) (e := 89) (size := 1) w #[] 0 (by simp) (by decide) rfl
  simpa [Own] using this
theorem own_ge {w : World} {B g cap : Nat} {os : List Int} (h : Own w B (some ⟨g, 0, none⟩) cap os) : B ≤ g ∧ g < w.heap.size := by
  rcases h.block with ⟨e, _⟩ | ⟨g', e, h1, h2⟩
  · cases e
  · cases e; exact ⟨h1, h2⟩
theorem bel_app {w W w' : World} {g : Nat} {n cap : Nat} (h : Below w.heap.size w W) (hg : W.grownBy w' (Value.slice (some ⟨g, 0, none⟩) n cap).ownBlock) (hge : w.heap.size ≤ g) : Below w.heap.size w w' :=
  h.grown hg h.size (fun k hk => by have h' : g = k := Option.some.inj hk; omega)
theorem plus_any (a a' : Option Addr) (cap cap' : Nat) (xs ys : List Int) (w : World) (hx : Sl .u32 w (.slice a xs.length cap) xs) (hy : Sl .u32 w (.slice a' ys.length cap') ys) (dx : Nm.Dg xs) (dy : Nm.Dg ys) (hl : xs.length ≤ 500000) (hl' : ys.length ≤ 500000) :
    Calls Tryz.prog 167 #[.slice a xs.length cap, .slice a' ys.length cap'] w fun e w' => ∃ a1 c1 os, e = .returned (.slice a1 os.length c1) ∧ Own w' w.heap.size a1 c1 os ∧ Nm.Dg os ∧ Nm.val os = Nm.val xs + Nm.val ys ∧ os.length ≤ 1048576 ∧ Below w.heap.size w w' := by
  obtain ⟨i0, hi, hz0, hz1, hz2⟩ := info_parts info32
  have HI := hid (And.intro hi (And.intro hz0 (And.intro hz1 hz2)))
  clear hi hz0 hz1 hz2
  go_enter Tryz.func167, Tryz.ntmps167
  go_wp2_with fail
  go_loopw [5, 6, 7] (fun sl cy i wr => ∃ os : List Int, ∃ c : Int, ∃ g cp : Nat, os.length ≤ xs.length + ys.length + 1 ∧ i = .int .i64 os.length ∧ cy = .int .u64 c ∧ sl = .slice (some ⟨g, 0, none⟩) os.length cp ∧ 0 ≤ c ∧ c ≤ 1 ∧ (xs.length ≤ os.length → ys.length ≤ os.length → 0 < c → os.length ≤ xs.length + ys.length) ∧ Own wr w.heap.size (some ⟨g, 0, none⟩) cp os ∧ Nm.Dg os ∧ Nm.AddAt xs ys os os.length c ∧ Below w.heap.size w wr) (fun _ _ i _ => xs.length + ys.length + 1 - (intOf i).toNat)
  case atStart => exact ⟨[], 0, w.heap.size, 0, by simp, rfl, rfl, rfl, by omega, by omega, by simp, own_buf, Nm.Dg.nil, Nm.AddAt.zero _ _ _, (by repeat (first | exact bz0 _ _ | refine bz1 ?_ | refine bz2 ?_ _ | refine bz3 ?_ _ | refine bz5 ?_ _ | refine bz6 ?_ _))⟩
  case round =>
    obtain ⟨os, c, g, cp, hk, rfl, rfl, rfl, hc0, hc1, hlast, hown, hdo, hadd, hb⟩ := hrel
    have HADD := hid hadd
    have HDO := hid hdo
    have HLAST := hid hlast
    have hbs : w.heap.size ≤ wr.heap.size := hb.size
    have sx := hx.below hb
    have sy := hy.below hb
    by_cases hgo : os.length < xs.length ∨ os.length < ys.length ∨ 0 < c
    · have hroom : os.length ≤ xs.length + ys.length := by
        rcases hgo with h | h | h
        · omega
        · omega
        · by_cases h1 : xs.length ≤ os.length
          · by_cases h2 : ys.length ≤ os.length
            · exact hlast h1 h2 h
            · omega
          · omega
      have hc1' := limb_any a cap xs os.length wr sx dx (by omega) (by omega)
      have hc2' := limb_any a' cap' ys os.length wr sy dy (by omega) (by omega)
      have hst := fun d c' => Nm.AddAt.stepSnoc (d := d) (c' := c') HADD.out
      have hzx : xs.length ≤ os.length → xs.getD os.length 0 = 0 := fun h => Nm.getD_out h
      have hzy : ys.length ≤ os.length → ys.getD os.length 0 = 0 := fun h => Nm.getD_out h
      obtain ⟨ex0, ex1⟩ := dx.getD os.length
      obtain ⟨ey0, ey1⟩ := dy.getD os.length
      obtain ⟨x, hxk⟩ : ∃ x, x = xs.getD os.length 0 := ⟨_, rfl⟩
      obtain ⟨y, hyk⟩ : ∃ y, y = ys.getD os.length 0 := ⟨_, rfl⟩
      rw [← hxk] at hc1' ex0 ex1 hzx
      rw [← hyk] at hc2' ey0 ey1 hzy
      rw [← hxk, ← hyk] at hst
      have C1 := hid hc1'
      have C2 := hid hc2'
      have HST := hid hst
      have HZ := hid (And.intro hzx hzy)
      clear hc1' hc2' hst hxk hyk hzx hzy hlast hadd hdo
      have hmore : Hid (xs.length ≤ (os ++ [(c + x + y) % 4294967296]).length → ys.length ≤ (os ++ [(c + x + y) % 4294967296]).length → 0 < (c + x + y) / 4294967296 → (os ++ [(c + x + y) % 4294967296]).length ≤ xs.length + ys.length) := hid (by
        intro h1 h2 h3
        simp at h1 h2 ⊢
        by_cases g1 : xs.length ≤ os.length
        · by_cases g2 : ys.length ≤ os.length
          · have := HZ.out.1 g1; have := HZ.out.2 g2; omega
          · omega
        · omega)
      rcases (show (os.length < xs.length ∨ (¬ os.length < xs.length ∧ os.length < ys.length) ∨ (¬ os.length < xs.length ∧ ¬ os.length < ys.length ∧ 0 < c)) by omega) with h | ⟨h, h'⟩ | ⟨h, h', h''⟩
      all_goals
        clear hgo
        go_wp2_with fail
        refine C1.out.mono ?_
        rintro e w1 ⟨rfl, rfl⟩
        go_wp2_with fail
        refine C2.out.mono ?_
        rintro e w1 ⟨rfl, rfl⟩
        go_wp2_with (at_builtin; refine wpList_append_lies _ rfl _ _ 29 rfl w.heap.size 89 i0 (.int .u32 0) 1 4 Tryz.underlying29 HI.out.1 HI.out.2.1 HI.out.2.2.1 HI.out.2.2.2 rfl (by decide) (.slice (some ⟨g, 0, none⟩) os.length cp) os.length (os.map (Value.int .u32)) rfl (hown.alloc _) ⟨w1.heap.size, 0, none⟩ 1 1 [.int .u32 ((c + x + y) % 4294967296)] rfl rfl (news_one w1 _) (one_one _) (by decide) (by unfold maxLen; omega) (by omega) (by simp; omega) (w1.heap.size + 1) (by simp) ?_; intro g1 cp1 w2 hown2 hgrow hat hlt2)
        have ho2 := own_more hown2
        have hg0 := (own_ge hown).1
        have hb2 : Below w.heap.size w w2 := bel_app (bel_al hb _) hgrow hg0
        clear hown2 hat
        go_roundw
        case rel => exact ⟨os ++ [(c + x + y) % 4294967296], (c + x + y) / 4294967296, g1, cp1, by simp; omega, by simp, rfl, by simp, by omega, by omega, hmore.out, ho2, HDO.out.append (Nm.Dg.cons (by omega) Nm.Dg.nil), HST.out _ _ (by omega), hb2⟩
        case measure => simp [intOf]; omega
    · have h : ¬ os.length < xs.length := by omega
      have h' : ¬ os.length < ys.length := by omega
      have h'' : ¬ 0 < c := by omega
      obtain rfl : c = 0 := by omega
      clear hgo hlast hadd hdo
      go_wp2
      go_ret
      refine ⟨some ⟨g, 0, none⟩, cp, os, rfl, hown, HDO.out, ?_, by omega, hb⟩
      have := HADD.out.full (by omega) (by omega) rfl
      simpa using this
theorem less_any (a a' : Option Addr) (cap cap' : Nat) (xs ys : List Int) (w : World) (hx : Sl .u32 w (.slice a xs.length cap) xs) (hy : Sl .u32 w (.slice a' ys.length cap') ys) (dx : Nm.Dg xs) (dy : Nm.Dg ys) (hl : xs.length ≤ 500000) (hl' : ys.length ≤ xs.length) (hge : Nm.val ys ≤ Nm.val xs) :
    Calls Tryz.prog 169 #[.slice a xs.length cap, .slice a' ys.length cap'] w fun e w' => ∃ a1 c1 os, e = .returned (.slice a1 os.length c1) ∧ Own w' w.heap.size a1 c1 os ∧ Nm.Dg os ∧ Nm.val os = Nm.val xs - Nm.val ys ∧ os.length ≤ 1048576 ∧ Below w.heap.size w w' := by
  obtain ⟨i0, hi, hz0, hz1, hz2⟩ := info_parts info32
  have HI := hid (And.intro hi (And.intro hz0 (And.intro hz1 hz2)))
  clear hi hz0 hz1 hz2
  obtain ⟨-, hx1, hx2, hx3⟩ := hx.cells
  have HX3 := hid hx3
  have HGE := hid hge
  clear hx3 hge
  go_enter Tryz.func169, Tryz.ntmps169
  go_wp2_with fail
  go_loopw [5, 6, 7] (fun sl cy i wr => ∃ os : List Int, ∃ c : Int, ∃ g cp : Nat, os.length ≤ xs.length ∧ i = .int .i64 os.length ∧ cy = .int .i64 c ∧ sl = .slice (some ⟨g, 0, none⟩) os.length cp ∧ -1 ≤ c ∧ c ≤ 0 ∧ Own wr w.heap.size (some ⟨g, 0, none⟩) cp os ∧ Nm.Dg os ∧ Nm.SubAt xs ys os os.length (-c) ∧ Below w.heap.size w wr) (fun _ _ i _ => xs.length - (intOf i).toNat)
  case atStart => exact ⟨[], 0, w.heap.size, 0, by simp, rfl, rfl, rfl, by omega, by omega, own_buf, Nm.Dg.nil, Nm.SubAt.zero _ _ _, (by repeat (first | exact bz0 _ _ | refine bz1 ?_ | refine bz2 ?_ _ | refine bz3 ?_ _ | refine bz5 ?_ _ | refine bz6 ?_ _))⟩
  case round =>
    obtain ⟨os, c, g, cp, hk, rfl, rfl, rfl, hc0, hc1, hown, hdo, hadd, hb⟩ := hrel
    have HADD := hid hadd
    have HDO := hid hdo
    have hbs : w.heap.size ≤ wr.heap.size := hb.size
    have sy := hy.below hb
    by_cases hgo : os.length < xs.length
    · obtain ⟨b, off, rfl, hcx⟩ := HX3.out (by omega)
      have hcell := hcx os.length hgo
      have hcell : wr.cell? ⟨b, off + os.length, none⟩ = some (.int .u32 (xs.getD os.length 0)) := (hb.cell (p := ⟨b, off + os.length, none⟩) (World.block_lt_of_cell? w _ hcell)).trans hcell
      have hc2' := fun w' (h : Sl .u32 w' (.slice a' ys.length cap') ys) => limb_any a' cap' ys os.length w' h dy (by omega) (by omega)
      have hst := fun d c' => Nm.SubAt.stepSnoc (d := d) (c' := c') HADD.out
      obtain ⟨ex0, ex1⟩ := dx.getD os.length
      obtain ⟨ey0, ey1⟩ := dy.getD os.length
      obtain ⟨x, hxk⟩ : ∃ x, x = xs.getD os.length 0 := ⟨_, rfl⟩
      obtain ⟨y, hyk⟩ : ∃ y, y = ys.getD os.length 0 := ⟨_, rfl⟩
      rw [← hxk] at hcell ex0 ex1
      simp only [← hyk] at hc2'
      rw [← hyk] at ey0 ey1
      rw [← hxk, ← hyk] at hst
      have C2 := hid hc2'
      have HST := hid hst
      clear hcx hc2' hst hxk hyk hadd hdo
      have k0 : (0 : Int) ≤ (os.length : Int) := by omega
      have k1 : (os.length : Int) < (xs.length : Int) := by omega
      go_wp2_with fail
      go_region_held3 (fun w' => w'.cell? ⟨b, off + os.length, none⟩ = some (.int .u32 x)) (first | assumption | go_keep)
        (first | (go_at_call 170; refine (C2.out _ (by exact Sl.drew sy)).mono ?_; rintro e w' ⟨rfl, rfl⟩))
      go_wp2_with (at_builtin; refine wpList_append_lies _ rfl _ _ 29 rfl w.heap.size 89 i0 (.int .u32 0) 1 4 Tryz.underlying29 HI.out.1 HI.out.2.1 HI.out.2.2.1 HI.out.2.2.2 rfl (by decide) (.slice (some ⟨g, 0, none⟩) os.length cp) os.length (os.map (Value.int .u32)) rfl (by exact hown.drew.alloc _) ⟨wr.heap.size, 0, none⟩ 1 1 [.int .u32 ((c + x - y) % 4294967296)] rfl rfl (by exact news_one wr.drew _) (one_one _) (by decide) (by unfold maxLen; omega) (by omega) (by simp; omega) (wr.heap.size + 1) (by simp) ?_; intro g1 cp1 w2 hown2 hgrow hat hlt2)
      have ho2 := own_more hown2
      have hg0 := (own_ge hown).1
      have hb2 : Below w.heap.size w w2 := bel_app (bel_al (Below.drew hb) _) hgrow hg0
      clear hown2 hat
      go_roundw
      case rel => exact ⟨os ++ [(c + x - y) % 4294967296], (c + x - y) / 4294967296, g1, cp1, by simp; omega, by simp, rfl, by simp, by omega, by omega, ho2, HDO.out.append (Nm.Dg.cons (by omega) Nm.Dg.nil), HST.out _ _ (by omega), hb2⟩
      case measure => simp [intOf]; omega
    · have hlen : os.length = xs.length := by omega
      have HL := hid hlen
      clear hlen hadd hdo
      go_wp2
      go_ret
      exact ⟨some ⟨g, 0, none⟩, cp, os, rfl, hown, HDO.out, HADD.out.full HL.out.symm (by have := HL.out; omega) dx dy HDO.out (by omega) HGE.out, by omega, hb⟩
/-- A reader in block rb over the bytes cs. -/
structure RD (w : World) (rb : Nat) (ca : Option Addr) (cc : Nat) (cs : List Int) : Prop where
  p : ∃ p : Nat, p ≤ cs.length ∧ R2 w rb (.slice ca cs.length cc) (.int .i64 p)
  s : Sl .u8 w (.slice ca cs.length cc) cs
  ne : 0 < cs.length → ∀ b off, ca = some ⟨b, off, none⟩ → b < rb
  by_ : ∀ i, 0 ≤ cs.getD i 0 ∧ cs.getD i 0 ≤ 255
  len : cs.length ≤ 1048576
theorem Sl.any {k : IntKind} {w w' : World} {v : Value} {zs : List Int} (h : Sl k w v zs) (h0 : ¬ 0 < zs.length) : Sl k w' v zs := by
  obtain ⟨a, cap, rfl, h1, h2, h3⟩ := h
  exact ⟨a, cap, rfl, h1, h2, .inl (List.eq_nil_of_length_eq_zero (by omega))⟩
theorem Sl.grownNe {k : IntKind} {w w' : World} {ca : Option Addr} {n cc g : Nat} {zs : List Int} (h : Sl k w (.slice ca n cc) zs) (hg : w.grownBy w' (some g)) (hne : 0 < zs.length → ∀ b off, ca = some ⟨b, off, none⟩ → b ≠ g) : Sl k w' (.slice ca n cc) zs := by
  by_cases h0 : 0 < zs.length
  · refine h.grown hg (fun g' hg' => ?_)
    cases hg'
    right
    intro b off n cap he
    cases he
    exact hne h0 b off rfl
  · exact h.any h0
theorem grown_trans {w w1 w2 : World} {row : Option Nat} (h : w.grownBy w1 row) (k : w1.grownBy w2 row) : w.grownBy w2 row :=
  ⟨k.os.trans h.os, k.tape.trans h.tape, k.output.trans h.output, Nat.le_trans h.size k.size, fun i hi hne => (k.block i (Nat.lt_of_lt_of_le hi h.size) hne).trans (h.block i hi hne)⟩
theorem grown_refl (w : World) (row : Option Nat) : w.grownBy w row := ⟨rfl, rfl, rfl, Nat.le_refl _, fun _ _ _ => rfl⟩
theorem grown_below {w w' : World} (h : Below w.heap.size w w') (row : Option Nat) : w.grownBy w' row := ⟨h.os, h.tape, h.output, h.size, fun i hi _ => h.block i hi⟩
theorem grown_alloc {w w' : World} {row : Option Nat} (h : w.grownBy w' row) (o : Obj) : w.grownBy (w'.alloc o) row :=
  grown_trans h (grown_below ((Below.refl _ _).alloc (Nat.le_refl _) _) row)
theorem RD.lt {w : World} {rb : Nat} {ca : Option Addr} {cc : Nat} {cs : List Int} (h : RD w rb ca cc cs) : rb < w.heap.size := by
  obtain ⟨p, _, r⟩ := h.p; exact World.block_lt_of_cell? w _ r.c0
theorem RD.below {w w' : World} {rb : Nat} {ca : Option Addr} {cc : Nat} {cs : List Int} (h : RD w rb ca cc cs) (hb : Below w.heap.size w w') : RD w' rb ca cc cs := by
  obtain ⟨⟨p, hp, r⟩, s, ne, hby, hl⟩ := h
  exact ⟨⟨p, hp, r.below hb⟩, s.below hb, ne, hby, hl⟩
theorem RD.alloc {w : World} {rb : Nat} {ca : Option Addr} {cc : Nat} {cs : List Int} (h : RD w rb ca cc cs) (o : Obj) : RD (w.alloc o) rb ca cc cs := h.below ((Below.refl _ _).alloc (Nat.le_refl _) _)
theorem RD.drew {w : World} {rb : Nat} {ca : Option Addr} {cc : Nat} {cs : List Int} (h : RD w rb ca cc cs) : RD w.drew rb ca cc cs := by
  obtain ⟨⟨p, hp, r⟩, s, ne, hby, hl⟩ := h
  exact ⟨⟨p, hp, r.drew⟩, s.drew, ne, hby, hl⟩
theorem RD.grown {w w' : World} {rb g : Nat} {ca : Option Addr} {cc : Nat} {cs : List Int} (h : RD w rb ca cc cs) (hg : w.grownBy w' (some g)) (h1 : rb < g) : RD w' rb ca cc cs := by
  obtain ⟨⟨p, hp, r⟩, s, ne, hby, hl⟩ := h
  exact ⟨⟨p, hp, r.grown hg (by omega)⟩, s.grownNe hg (fun h0 b off he => by have := ne h0 b off he; omega), ne, hby, hl⟩
/-- The place is set. -/
theorem RD.set {w : World} {rb : Nat} {ca : Option Addr} {cc : Nat} {cs : List Int} (h : RD w rb ca cc cs) (q : Nat) (hq : q ≤ cs.length) : RD (w.setCell ⟨rb, 1, none⟩ (.int .i64 q)) rb ca cc cs ∧ w.grownBy (w.setCell ⟨rb, 1, none⟩ (.int .i64 q)) (some rb) := by
  obtain ⟨⟨p, hp, r⟩, s, ne, hby, hl⟩ := h
  have hg : w.grownBy (w.setCell ⟨rb, 1, none⟩ (.int .i64 q)) (some rb) :=
    ⟨by simp [World.setCell], by simp [World.setCell], by simp [World.setCell], by simp [World.setCell], fun i hi hne => Below.heap_setCell w ⟨rb, 1, none⟩ _ i (by simpa using hne)⟩
  refine ⟨⟨⟨q, hq, ?_⟩, s.grownNe hg (fun h0 b off he => by have := ne h0 b off he; omega), ne, hby, hl⟩, hg⟩
  obtain ⟨c0, c1, f0, f1⟩ := r
  exact ⟨by simp [go_sem, c0, c1], by simp [go_sem, c0, c1], by simp [go_sem, f0, f1], by simp [go_sem, f0, f1]⟩
theorem next_any (rb : Nat) (ca : Option Addr) (cc : Nat) (cs : List Int) (w : World) (hr : RD w rb ca cc cs) :
    Calls Tryz.prog 180 #[.pointer (some ⟨rb, 0, none⟩)] w fun e w' => ∃ v : Int, e = .returned (.int .i64 v) ∧ 0 ≤ v ∧ v ≤ 255 ∧ RD w' rb ca cc cs ∧ w.grownBy w' (some rb) := by
  obtain ⟨p, hp, r⟩ := hr.p
  obtain ⟨c0, c1, f0, f1⟩ := r
  have hl := hr.len
  by_cases hlt : p < cs.length
  · have hset := hr.set (p + 1) (by omega)
    rw [show ((p + 1 : Nat) : Int) = (p : Int) + 1 from rfl] at hset
    have hby := hr.by_ p
    obtain ⟨-, hx1, hx2, hx3⟩ := hr.s.cells
    obtain ⟨b, off, rfl, hcx⟩ := hx3 (by omega)
    have hca := hcx p hlt
    have hne := hr.ne (by omega) b off rfl
    obtain ⟨x, hxk⟩ : ∃ x, x = cs.getD p 0 := ⟨_, rfl⟩
    rw [← hxk] at hca hby
    obtain ⟨b0, b1⟩ := hby
    have HSET := hid hset
    have HR := hid hr
    have hne' : rb ≠ b := by omega
    clear hset hx3 hcx hxk hr
    have k0 : (0 : Int) ≤ (p : Int) := by omega
    have k1 : (p : Int) < (cs.length : Int) := by omega
    go_enter Tryz.func180, Tryz.ntmps180
    go_wp2_with fail
    go_region
    all_goals go_wp2_with fail
    all_goals go_region
    all_goals go_wp2_with fail
    all_goals go_ret
    all_goals exact ⟨x, rfl, b0, b1, HSET.out.1.below (by exact (by repeat (first | exact bz0 _ _ | refine bz1 ?_ | refine bz2 ?_ _ | refine bz3 ?_ _ | refine bz5 ?_ _ | refine bz6 ?_ _))), grown_trans HSET.out.2 (grown_below (by exact (by repeat (first | exact bz0 _ _ | refine bz1 ?_ | refine bz2 ?_ _ | refine bz3 ?_ _ | refine bz5 ?_ _ | refine bz6 ?_ _))) _)⟩
  · go_enter Tryz.func180, Tryz.ntmps180
    go_wp2_with fail
    go_region
    all_goals go_wp2
    all_goals go_ret
    all_goals exact ⟨0, rfl, by omega, by omega, hr.below (by exact (by repeat (first | exact bz0 _ _ | refine bz1 ?_ | refine bz2 ?_ _ | refine bz3 ?_ _ | refine bz5 ?_ _ | refine bz6 ?_ _))), grown_below (by repeat (first | exact bz0 _ _ | refine bz1 ?_ | refine bz2 ?_ _ | refine bz3 ?_ _ | refine bz5 ?_ _ | refine bz6 ?_ _)) _⟩
theorem below_any (rb : Nat) (ca : Option Addr) (cc : Nat) (cs : List Int) (n : Int) (w : World) (hr : RD w rb ca cc cs) (h1 : 1 ≤ n) (h2 : n ≤ 1000000) :
    Calls Tryz.prog 110 #[.pointer (some ⟨rb, 0, none⟩), .int .i64 n] w fun e w' => ∃ v : Int, e = .returned (.int .i64 v) ∧ 0 ≤ v ∧ v < n ∧ RD w' rb ca cc cs ∧ w.grownBy w' (some rb) := by
  by_cases c1 : n ≤ 1
  · go_enter Tryz.func110, Tryz.ntmps110
    go_wp2
    go_ret
    exact ⟨0, rfl, by omega, by omega, hr, grown_refl _ _⟩
  · by_cases c2 : n ≤ 256
    · go_enter Tryz.func110, Tryz.ntmps110
      go_wp2_with fail
      refine (next_any rb ca cc cs _ hr).mono ?_
      rintro e w1 ⟨v, rfl, v0, v1, hr1, hg1⟩
      go_wp2
      go_ret
      exact ⟨v % n, rfl, Int.emod_nonneg v (by omega), Int.emod_lt_of_pos v (by omega), hr1, hg1⟩
    · go_enter Tryz.func110, Tryz.ntmps110
      go_wp2_with fail
      refine (next_any rb ca cc cs _ hr).mono ?_
      rintro e w1 ⟨v, rfl, v0, v1, hr1, hg1⟩
      go_wp2_with fail
      refine (next_any rb ca cc cs _ hr1).mono ?_
      rintro e w2 ⟨u, rfl, u0, u1, hr2, hg2⟩
      go_wp2
      go_ret
      exact ⟨(v * 256 + u) % n, rfl, Int.emod_nonneg _ (by omega), Int.emod_lt_of_pos _ (by omega), hr2, grown_trans hg1 hg2⟩
theorem once_any (rb : Nat) (ca : Option Addr) (cc : Nat) (cs : List Int) (n : Int) (w : World) (hr : RD w rb ca cc cs) (h1 : 1 ≤ n) (h2 : n ≤ 1000000) :
    Calls Tryz.prog 79 #[.pointer (some ⟨rb, 0, none⟩), .int .i64 n] w fun e w' => ∃ v : Bool, e = .returned (.bool v) ∧ RD w' rb ca cc cs ∧ w.grownBy w' (some rb) := by
  go_enter Tryz.func79, Tryz.ntmps79
  go_wp2_with fail
  refine (below_any rb ca cc cs n _ hr h1 h2).mono ?_
  rintro e w1 ⟨v, rfl, v0, v1, hr1, hg1⟩
  go_wp2
  go_ret
  exact ⟨_, rfl, hr1, hg1⟩
theorem word_any (rb : Nat) (ca : Option Addr) (cc : Nat) (cs : List Int) (w : World) (hr : RD w rb ca cc cs) :
    Calls Tryz.prog 204 #[.pointer (some ⟨rb, 0, none⟩)] w fun e w' => ∃ v : Int, e = .returned (.int .u64 v) ∧ 0 ≤ v ∧ v < 18446744073709551616 ∧ RD w' rb ca cc cs ∧ w.grownBy w' (some rb) := by
  have HR := hid hr
  clear hr
  go_enter Tryz.func204, Tryz.ntmps204
  go_wp2_with fail
  go_loopw [3, 4] (fun xv iv wr => ∃ i : Nat, ∃ x : Int, i ≤ 8 ∧ iv = .int .i64 i ∧ xv = .int .u64 x ∧ 0 ≤ x ∧ x < 18446744073709551616 ∧ RD wr rb ca cc cs ∧ w.grownBy wr (some rb)) (fun _ iv _ => 8 - (intOf iv).toNat)
  case atStart => exact ⟨0, 0, by omega, rfl, rfl, by omega, by omega, HR.out, grown_refl _ _⟩
  case round =>
    obtain ⟨i, x, hi, rfl, rfl, x0, x1, hr1, hg1⟩ := hrel
    by_cases hlt : i < 8
    · go_wp2_with fail
      refine (next_any rb ca cc cs _ hr1).mono ?_
      rintro e w1 ⟨v, rfl, v0, v1, hr2, hg2⟩
      go_wp2_with fail
      have lo := bits_lo_u64 .or (IntKind.u64.wrap (x * 256)) v
      have hi' := bits_hi_u64 .or (IntKind.u64.wrap (x * 256)) v
      go_roundw
      case rel => exact ⟨i + 1, _, by omega, by go_num, rfl, lo, by omega, hr2, grown_trans hg1 hg2⟩
      case measure => simp [intOf]; omega
    · obtain rfl : i = 8 := by omega
      go_wp2
      go_ret
      exact ⟨x, rfl, x0, x1, hr1, hg1⟩
theorem open_any (ca : Option Addr) (cc : Nat) (cs : List Int) (w : World) (hs : Sl .u8 w (.slice ca cs.length cc) cs) (hby : ∀ i, 0 ≤ cs.getD i 0 ∧ cs.getD i 0 ≤ 255) (hl : cs.length ≤ 1048576)  :
    Calls Tryz.prog 74 #[.slice ca cs.length cc] w fun e w' => e = .returned (.pointer (some ⟨w.heap.size, 0, none⟩)) ∧ RD w' w.heap.size ca cc cs ∧ Below w.heap.size w w' := by
  go_enter Tryz.func74, Tryz.ntmps74
  go_wp2
  go_ret
  refine ⟨rfl, ⟨⟨0, Nat.zero_le _, R2.new w _ _ _⟩, hs.alloc _, fun h0 b off he => ?_, hby, hl⟩, (by repeat (first | exact bz0 _ _ | refine bz1 ?_ | refine bz2 ?_ _ | refine bz3 ?_ _ | refine bz5 ?_ _ | refine bz6 ?_ _))⟩
  obtain ⟨_, _, _, h3⟩ := hs.cells
  obtain ⟨b', off', e, hc⟩ := h3 h0
  rw [he] at e
  cases e
  have := World.block_lt_of_cell? w _ (hc 0 h0)
  simpa using this
end Go.Proofs.YtmcflggionkhlaaGreatDoor
