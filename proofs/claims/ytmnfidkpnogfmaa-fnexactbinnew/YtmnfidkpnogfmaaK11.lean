/-
  What is needed of WideQ.
-/
import Derived.Test.YtmnfidkpnogfmaaK09
set_option maxHeartbeats 16000000
set_option maxRecDepth 1000000
namespace Go.Proofs.Ytmnfidkpnogfmaa
set_option linter.unusedVariables false
set_option linter.unusedSimpArgs false
open Go.RowKit Go.Deep
theorem news_one (w : World) (d : Int) : ∀ j u, ([Value.int .u32 d] : List Value)[j]? = some u → (w.alloc (.cells #[.int .u32 d] 121)).cell? ((⟨w.heap.size, 0, none⟩ : Addr).add j) = some u := by
  intro j u hj
  cases j with
  | zero => simp at hj; subst hj; simp [Addr.add]
  | succ j => simp at hj
theorem one_one (d : Int) : ∀ u ∈ ([Value.int .u32 d] : List Value), u.oneCell' = true := by
  intro u hu; simp at hu; subst hu; rfl
/-- One limb more, behind those of the call's own. -/
theorem own_more {w : World} {B g cap : Nat} {os : List Int} {d : Int} (h : w.ownsRow B 121 1 (.slice (some ⟨g, 0, none⟩) (os.length + 1) cap) (os.length + 1) (os.map (Value.int .u32) ++ [.int .u32 d])) : Own w B (some ⟨g, 0, none⟩) cap (os ++ [d]) := by
  unfold Own; simpa using h
theorem own_buf {w : World} : Own (w.alloc (.cells #[] 121)) w.heap.size (some ⟨w.heap.size, 0, none⟩) 0 [] := by
  have := World.ownsRow_made (base := w.heap.size) (e := 121) (size := 1) w #[] 0 (by simp) (by decide) rfl
  simpa [Own] using this
theorem own_ge {w : World} {B g cap : Nat} {os : List Int} (h : Own w B (some ⟨g, 0, none⟩) cap os) : B ≤ g ∧ g < w.heap.size := by
  rcases h.block with ⟨e, _⟩ | ⟨g', e, h1, h2⟩
  · cases e
  · cases e; exact ⟨h1, h2⟩
theorem bel_app {w W w' : World} {g : Nat} {n cap : Nat} (h : Below w.heap.size w W) (hg : W.grownBy w' (Value.slice (some ⟨g, 0, none⟩) n cap).ownBlock) (hge : w.heap.size ≤ g) : Below w.heap.size w w' :=
  h.grown hg h.size (fun k hk => by have h' : g = k := Option.some.inj hk; omega)
theorem plus_any (a a' : Option Addr) (cap cap' : Nat) (xs ys : List Int) (w : World) (hx : Sl .u32 w (.slice a xs.length cap) xs) (hy : Sl .u32 w (.slice a' ys.length cap') ys) (dx : Nm.Dg xs) (dy : Nm.Dg ys) (hl : xs.length ≤ 500000) (hl' : ys.length ≤ 500000) :
    Calls Try.prog 144 #[.slice a xs.length cap, .slice a' ys.length cap'] w fun e w' => ∃ a1 c1 os, e = .returned (.slice a1 os.length c1) ∧ Own w' w.heap.size a1 c1 os ∧ Nm.Dg os ∧ Nm.val os = Nm.val xs + Nm.val ys ∧ os.length ≤ 1048576 ∧ Below w.heap.size w w' := by
  obtain ⟨i0, hi, hz0, hz1, hz2⟩ := info_parts info32
  have HI := hid (And.intro hi (And.intro hz0 (And.intro hz1 hz2)))
  clear hi hz0 hz1 hz2
  go_enter Try.func144, Try.ntmps144
  go_wp2_with fail
  go_loopw [5, 6, 7] (fun sl cy i wr => ∃ os : List Int, ∃ c : Int, ∃ g cp : Nat, os.length ≤ xs.length + ys.length + 1 ∧ i = .int .i64 os.length ∧ cy = .int .u64 c ∧ sl = .slice (some ⟨g, 0, none⟩) os.length cp ∧ 0 ≤ c ∧ c ≤ 1 ∧ (xs.length ≤ os.length → ys.length ≤ os.length → 0 < c → os.length ≤ xs.length + ys.length) ∧ Own wr w.heap.size (some ⟨g, 0, none⟩) cp os ∧ Nm.Dg os ∧ Nm.AddAt xs ys os os.length c ∧ Below w.heap.size w wr) (fun _ _ i _ => xs.length + ys.length + 1 - (intOf i).toNat)
  case atStart => exact ⟨[], 0, w.heap.size, 0, by simp, rfl, rfl, rfl, by omega, by omega, by simp, own_buf, Nm.Dg.nil, Nm.AddAt.zero _ _ _, (by repeat (first | exact bz0 _ _ | refine bz1 ?_ | refine bz2 ?_ _ | refine bz3 ?_ _ | refine bz5 ?_ _ | refine bz6 ?_ _))⟩
  case round =>
    obtain ⟨os, c, g, cp, hk, rfl, rfl, rfl, hc0, hc1, hlast, hown, hdo, hadd, hb⟩ := hrel
    have HADD := hid hadd
    have HDO := hid hdo
    have HLAST := hid hlast
    have hbs : w.heap.size ≤ wr.heap.size := hb.size
    have sx := hx.below hb
    have sy := hy.below hb
    by_cases hgo : os.length < xs.length ∨ os.length < ys.length ∨ 0 < c
    · have hroom : os.length ≤ xs.length + ys.length := by
        rcases hgo with h | h | h
        · omega
        · omega
        · by_cases h1 : xs.length ≤ os.length
          · by_cases h2 : ys.length ≤ os.length
            · exact hlast h1 h2 h
            · omega
          · omega
      have hc1' := limb_any a cap xs os.length wr sx dx (by omega) (by omega)
      have hc2' := limb_any a' cap' ys os.length wr sy dy (by omega) (by omega)
      have hst := fun d c' => Nm.AddAt.stepSnoc (d := d) (c' := c') HADD.out
      have hzx : xs.length ≤ os.length → xs.getD os.length 0 = 0 := fun h => Nm.getD_out h
      have hzy : ys.length ≤ os.length → ys.getD os.length 0 = 0 := fun h => Nm.getD_out h
      obtain ⟨ex0, ex1⟩ := dx.getD os.length
      obtain ⟨ey0, ey1⟩ := dy.getD os.length
      obtain ⟨x, hxk⟩ : ∃ x, x = xs.getD os.length 0 := ⟨_, rfl⟩
      obtain ⟨y, hyk⟩ : ∃ y, y = ys.getD os.length 0 := ⟨_, rfl⟩
      rw [← hxk] at hc1' ex0 ex1 hzx
      rw [← hyk] at hc2' ey0 ey1 hzy
      rw [← hxk, ← hyk] at hst
      have C1 := hid hc1'
      have C2 := hid hc2'
      have HST := hid hst
      have HZ := hid (And.intro hzx hzy)
      clear hc1' hc2' hst hxk hyk hzx hzy hlast hadd hdo
      have hmore : Hid (xs.length ≤ (os ++ [(c + x + y) % 4294967296]).length → ys.length ≤ (os ++ [(c + x + y) % 4294967296]).length → 0 < (c + x + y) / 4294967296 → (os ++ [(c + x + y) % 4294967296]).length ≤ xs.length + ys.length) := hid (by
        intro h1 h2 h3
        simp at h1 h2 ⊢
        by_cases g1 : xs.length ≤ os.length
        · by_cases g2 : ys.length ≤ os.length
          · have := HZ.out.1 g1; have := HZ.out.2 g2; omega
          · omega
        · omega)
      rcases (show (os.length < xs.length ∨ (¬ os.length < xs.length ∧ os.length < ys.length) ∨ (¬ os.length < xs.length ∧ ¬ os.length < ys.length ∧ 0 < c)) by omega) with h | ⟨h, h'⟩ | ⟨h, h', h''⟩
      all_goals
        clear hgo
        go_wp2_with fail
        refine C1.out.mono ?_
        rintro e w1 ⟨rfl, rfl⟩
        go_wp2_with fail
        refine C2.out.mono ?_
        rintro e w1 ⟨rfl, rfl⟩
        go_wp2_with (at_builtin; refine wpList_append_lies _ rfl _ _ 60 rfl w.heap.size 121 i0 (.int .u32 0) 1 4 Try.underlying60 HI.out.1 HI.out.2.1 HI.out.2.2.1 HI.out.2.2.2 rfl (by decide) (.slice (some ⟨g, 0, none⟩) os.length cp) os.length (os.map (Value.int .u32)) rfl (hown.alloc _) ⟨w1.heap.size, 0, none⟩ 1 1 [.int .u32 ((c + x + y) % 4294967296)] rfl rfl (news_one w1 _) (one_one _) (by decide) (by unfold maxLen; omega) (by omega) (by simp; omega) (w1.heap.size + 1) (by simp) ?_; intro g1 cp1 w2 hown2 hgrow hat hlt2)
        have ho2 := own_more hown2
        have hg0 := (own_ge hown).1
        have hb2 : Below w.heap.size w w2 := bel_app (bel_al hb _) hgrow hg0
        clear hown2 hat
        go_roundw
        case rel => exact ⟨os ++ [(c + x + y) % 4294967296], (c + x + y) / 4294967296, g1, cp1, by simp; omega, by simp, rfl, by simp, by omega, by omega, hmore.out, ho2, HDO.out.append (Nm.Dg.cons (by omega) Nm.Dg.nil), HST.out _ _ (by omega), hb2⟩
        case measure => simp [intOf]; omega
    · have h : ¬ os.length < xs.length := by omega
      have h' : ¬ os.length < ys.length := by omega
      have h'' : ¬ 0 < c := by omega
      obtain rfl : c = 0 := by omega
      clear hgo hlast hadd hdo
      go_wp2
      go_ret
      refine ⟨some ⟨g, 0, none⟩, cp, os, rfl, hown, HDO.out, ?_, by omega, hb⟩
      have := HADD.out.full (by omega) (by omega) rfl
      simpa using this
theorem less_any (a a' : Option Addr) (cap cap' : Nat) (xs ys : List Int) (w : World) (hx : Sl .u32 w (.slice a xs.length cap) xs) (hy : Sl .u32 w (.slice a' ys.length cap') ys) (dx : Nm.Dg xs) (dy : Nm.Dg ys) (hl : xs.length ≤ 500000) (hl' : ys.length ≤ xs.length) (hge : Nm.val ys ≤ Nm.val xs) :
    Calls Try.prog 146 #[.slice a xs.length cap, .slice a' ys.length cap'] w fun e w' => ∃ a1 c1 os, e = .returned (.slice a1 os.length c1) ∧ Own w' w.heap.size a1 c1 os ∧ Nm.Dg os ∧ Nm.val os = Nm.val xs - Nm.val ys ∧ os.length ≤ 1048576 ∧ Below w.heap.size w w' := by
  obtain ⟨i0, hi, hz0, hz1, hz2⟩ := info_parts info32
  have HI := hid (And.intro hi (And.intro hz0 (And.intro hz1 hz2)))
  clear hi hz0 hz1 hz2
  obtain ⟨-, hx1, hx2, hx3⟩ := hx.cells
  have HX3 := hid hx3
  have HGE := hid hge
  clear hx3 hge
  go_enter Try.func146, Try.ntmps146
  go_wp2_with fail
  go_loopw [5, 6, 7] (fun sl cy i wr => ∃ os : List Int, ∃ c : Int, ∃ g cp : Nat, os.length ≤ xs.length ∧ i = .int .i64 os.length ∧ cy = .int .i64 c ∧ sl = .slice (some ⟨g, 0, none⟩) os.length cp ∧ -1 ≤ c ∧ c ≤ 0 ∧ Own wr w.heap.size (some ⟨g, 0, none⟩) cp os ∧ Nm.Dg os ∧ Nm.SubAt xs ys os os.length (-c) ∧ Below w.heap.size w wr) (fun _ _ i _ => xs.length - (intOf i).toNat)
  case atStart => exact ⟨[], 0, w.heap.size, 0, by simp, rfl, rfl, rfl, by omega, by omega, own_buf, Nm.Dg.nil, Nm.SubAt.zero _ _ _, (by repeat (first | exact bz0 _ _ | refine bz1 ?_ | refine bz2 ?_ _ | refine bz3 ?_ _ | refine bz5 ?_ _ | refine bz6 ?_ _))⟩
  case round =>
    obtain ⟨os, c, g, cp, hk, rfl, rfl, rfl, hc0, hc1, hown, hdo, hadd, hb⟩ := hrel
    have HADD := hid hadd
    have HDO := hid hdo
    have hbs : w.heap.size ≤ wr.heap.size := hb.size
    have sy := hy.below hb
    by_cases hgo : os.length < xs.length
    · obtain ⟨b, off, rfl, hcx⟩ := HX3.out (by omega)
      have hcell := hcx os.length hgo
      have hcell : wr.cell? ⟨b, off + os.length, none⟩ = some (.int .u32 (xs.getD os.length 0)) := (hb.cell (p := ⟨b, off + os.length, none⟩) (World.block_lt_of_cell? w _ hcell)).trans hcell
      have hc2' := fun w' (h : Sl .u32 w' (.slice a' ys.length cap') ys) => limb_any a' cap' ys os.length w' h dy (by omega) (by omega)
      have hst := fun d c' => Nm.SubAt.stepSnoc (d := d) (c' := c') HADD.out
      obtain ⟨ex0, ex1⟩ := dx.getD os.length
      obtain ⟨ey0, ey1⟩ := dy.getD os.length
      obtain ⟨x, hxk⟩ : ∃ x, x = xs.getD os.length 0 := ⟨_, rfl⟩
      obtain ⟨y, hyk⟩ : ∃ y, y = ys.getD os.length 0 := ⟨_, rfl⟩
      rw [← hxk] at hcell ex0 ex1
      simp only [← hyk] at hc2'
      rw [← hyk] at ey0 ey1
      rw [← hxk, ← hyk] at hst
      have C2 := hid hc2'
      have HST := hid hst
      clear hcx hc2' hst hxk hyk hadd hdo
      have k0 : (0 : Int) ≤ (os.length : Int) := by omega
      have k1 : (os.length : Int) < (xs.length : Int) := by omega
      go_wp2_with fail
      go_region_held3 (fun w' => w'.cell? ⟨b, off + os.length, none⟩ = some (.int .u32 x)) (first | assumption | go_keep)
        (first | (go_at_call 141; refine (C2.out _ (by exact Sl.drew sy)).mono ?_; rintro e w' ⟨rfl, rfl⟩))
      go_wp2_with (at_builtin; refine wpList_append_lies _ rfl _ _ 60 rfl w.heap.size 121 i0 (.int .u32 0) 1 4 Try.underlying60 HI.out.1 HI.out.2.1 HI.out.2.2.1 HI.out.2.2.2 rfl (by decide) (.slice (some ⟨g, 0, none⟩) os.length cp) os.length (os.map (Value.int .u32)) rfl (by exact hown.drew.alloc _) ⟨wr.heap.size, 0, none⟩ 1 1 [.int .u32 ((c + x - y) % 4294967296)] rfl rfl (by exact news_one wr.drew _) (one_one _) (by decide) (by unfold maxLen; omega) (by omega) (by simp; omega) (wr.heap.size + 1) (by simp) ?_; intro g1 cp1 w2 hown2 hgrow hat hlt2)
      have ho2 := own_more hown2
      have hg0 := (own_ge hown).1
      have hb2 : Below w.heap.size w w2 := bel_app (bel_al (Below.drew hb) _) hgrow hg0
      clear hown2 hat
      go_roundw
      case rel => exact ⟨os ++ [(c + x - y) % 4294967296], (c + x - y) / 4294967296, g1, cp1, by simp; omega, by simp, rfl, by simp, by omega, by omega, ho2, HDO.out.append (Nm.Dg.cons (by omega) Nm.Dg.nil), HST.out _ _ (by omega), hb2⟩
      case measure => simp [intOf]; omega
    · have hlen : os.length = xs.length := by omega
      have HL := hid hlen
      clear hlen hadd hdo
      go_wp2
      go_ret
      exact ⟨some ⟨g, 0, none⟩, cp, os, rfl, hown, HDO.out, HADD.out.full HL.out.symm (by have := HL.out; omega) dx dy HDO.out (by omega) HGE.out, by omega, hb⟩
end Go.Proofs.Ytmnfidkpnogfmaa
