/-
  What is needed of WideK.
-/
import Derived.Deep.RegionWith
import Derived.Deep.DeepCutAuto
import Derived.Deep.RegionHeldLaw
import Derived.Deep.DrawnRows
import Derived.Test.YtkfjmcdniohljaaGreatDoorF05
import Derived.Test.YtkfjmcdniohljaaGreatDoorF06
set_option maxHeartbeats 16000000
set_option maxRecDepth 1000000
namespace Go.Proofs.YtkfjmcdniohljaaGreatDoor
set_option linter.unusedVariables false
set_option linter.unusedSimpArgs false
open Go.RowKit Go.Deep
theorem okB_nz {ng : Bool} {zs : List Int} (h : okB ng zs = true) : Nm.Nz zs ∧ zs.length ≤ 200 := by
 unfold okB at h
 split at h
 ·rename_i h0
  have : zs = [] := List.eq_nil_of_length_eq_zero h0
  subst this; exact ⟨Nm.Nz.nil, by simp⟩
 ·rename_i h0
  simp at h
  refine ⟨fun z hz => ?_, h.1⟩
  have h2 := h.2
  rw [List.getLast?_eq_getElem?] at hz
  rw [hz] at h2
  simpa using h2
def negL (ng : Bool) (zs : List Int) : List Int := if okB ng zs then Nm.wl (Nm.wv (!ng) zs) else []
def negN (ng : Bool) (zs : List Int) : Bool := if okB ng zs then Nm.wn (Nm.wv (!ng) zs) else false
theorem ok_fits {ng : Bool} {zs : List Int} (hd : Nm.Dg zs) (h : okB ng zs = true) (m : Bool) : Nm.fits (Nm.wv m zs) = true := by
 obtain ⟨h1, h2⟩ := okB_nz h
 unfold Nm.fits
 rw [Nm.wl_wv m hd, Nm.trim_eq hd h1]; simpa using h2

theorem sl_news {W : World} {b off cap : Nat} {zs : List Int} (h : Sl .u32 W (.slice (some ⟨b, off, none⟩) zs.length cap) zs) : ∀ j u, (zs.map (Value.int .u32))[j]? = some u → W.cell? ((⟨b, off, none⟩ : Addr).add j) = some u := fun j u hj => by
 have hjn : j < zs.length := by
  rcases Nat.lt_or_ge j zs.length with h | h
  ·exact h
  ·rw [List.getElem?_eq_none (by simpa using h)] at hj; cases hj
 obtain ⟨a, c, he, _, _, h3⟩ := h
 rcases h3 with h3 | ⟨b', off', ha, hc⟩
 ·subst h3; simp at hjn
 ·cases he
  cases ha
  have hju : u = .int .u32 (zs.getD j 0) := by
   rw [List.getElem?_map] at hj
   rw [List.getD_eq_getElem?_getD]
   cases hzj : zs[j]? with
   | none => rw [hzj] at hj; cases hj
   | some q => rw [hzj] at hj; simp at hj ⊢; exact hj.symm
  have e : (⟨b, off, none⟩ : Addr).add j = ⟨b, off + j, none⟩ := by unfold Addr.add; split <;> simp_all
  rw [e, hju]
  exact hc j hjn
theorem own_empty (W : World) {B : Nat} (hB : B ≤ W.heap.size) : (W.alloc (.cells #[] 128)).ownsRow B 128 1 (.slice (some ⟨W.heap.size, 0, none⟩) 0 0) 0 [] := by
 have := World.ownsRow_made (base := B) (e := 128) (size := 1) W #[] 0 (by simpa using hB) (by decide) rfl
 simpa using this
theorem emp1 (w1 : World) : (w1.alloc (.cells #[] 128)).ownsRow w1.heap.size 128 1 (.slice (some ⟨w1.heap.size, 0, none⟩) 0 0) 0 [] := own_empty w1 (Nat.le_refl _)
theorem emp2 (w1 : World) (o : Obj) : ((w1.alloc o).alloc (.cells #[] 128)).ownsRow w1.heap.size 128 1 (.slice (some ⟨w1.heap.size + 1, 0, none⟩) 0 0) 0 [] := by
 have := own_empty (w1.alloc o) (B := w1.heap.size) (by simp)
 simpa using this
theorem emp3 (w1 : World) (o : Obj) : ((w1.alloc (.cells #[] 128)).alloc o).ownsRow w1.heap.size 128 1 (.slice (some ⟨w1.heap.size, 0, none⟩) 0 0) 0 [] := (emp1 w1).alloc o
theorem grow_below {w1 W w2 : World} {row : Option Nat} (h : Below w1.heap.size w1 W) (hg : W.grownBy w2 row) (hge : ∀ k, row = some k → w1.heap.size ≤ k) : Below w1.heap.size w1 w2 := h.grown hg h.size hge
theorem keepS {w1 W : World} {B : Nat} {u v : Value} (hb : Below w1.heap.size w1 W) (hbw : B < w1.heap.size) (x10 : w1.cell? ⟨B, 0, none⟩ = some u) (x11 : w1.cell? ⟨B, 1, none⟩ = some v) : W.cell? ⟨B, 0, none⟩ = some u ∧ W.cell? ⟨B, 1, none⟩ = some v :=
 ⟨(hb.cell (p := ⟨B, 0, none⟩) hbw).trans x10, (hb.cell (p := ⟨B, 1, none⟩) hbw).trans x11⟩
theorem boxA {w1 w2 : World} {v0 v1 : Value} {t : TypeId} {o : Obj} (h : ((w1.alloc (.cells #[v0, v1] t)).alloc o).grownBy w2 (some (w1.heap.size + 1))) : R2 w2 w1.heap.size v0 v1 :=
 R2.grown ((R2.new w1 v0 v1 t).alloc o) h (by omega)
theorem boxB {w1 w2 : World} {v0 v1 : Value} {t : TypeId} {o : Obj} (h : ((w1.alloc o).alloc (.cells #[v0, v1] t)).grownBy w2 (some w1.heap.size)) : R2 w2 (w1.heap.size + 1) v0 v1 :=
 R2.grown (R2.new2 w1 o v0 v1 t) h (by omega)
attribute [local go_sem ↓] Go.wp_at_zero Go.wp_at_succ
theorem wneg_impl (ng : Bool) (a : Option Addr) (cap : Nat) (zs : List Int) (w : World) (hs : Sl .u32 w (.slice a zs.length cap) zs) (hz : Nm.Dg zs) (hl : zs.length ≤ 1048576) :
  Calls Tryz.prog 110 #[.agg #[.bool ng, .slice a zs.length cap]] w fun e w' => ∃ a' c', e = .returned (.agg #[.bool (negN ng zs), .slice a' (negL ng zs).length c']) ∧ Own w' w.heap.size a' c' (negL ng zs) ∧ Below w.heap.size w w' := by
 have hl' : zs.length ≤ 140737488355328 := by omega
 cases h1 : okB ng zs
 ·have HR : Hid (negN ng zs = false ∧ negL ng zs = []) := hid (by unfold negN negL; rw [h1]; exact ⟨rfl, rfl⟩)
  go_enter Tryz.func110, Tryz.ntmps110
  go_wp2_with fail
  refine (ok_impl ng a cap zs _ ((hs.alloc _).alloc _) hl').mono ?_
  rintro e w1 ⟨rfl, hb1⟩
  obtain ⟨r10, r11, f10, f11⟩ := (R2.new2 w _ (.bool false) (.slice none 0 0) 32).below hb1
  go_wp2
  refine bodyPost_ret (v := .agg #[.bool false, .slice none 0 0]) (by simp [results, Tryz.results110, go_sem, r10, r11]) rfl ⟨none, 0, ?_, ?_, (by repeat (first | exact bz0 _ _ | refine bz1 ?_ | refine bz2 ?_ _ | refine bz3 ?_ _ | refine bz4 ?_ hb1 | refine bz5 ?_ _ | refine bz6 ?_ _ | refine bz7 ?_ hb1))⟩
  ·rw [HR.out.1, HR.out.2]; rfl
  ·rw [HR.out.2]; exact Own.nil _ _
 ·have HR : Hid (Nm.outL (Nm.wv (!ng) zs) = negL ng zs ∧ Nm.outN (Nm.wv (!ng) zs) = negN ng zs) := hid (by unfold negN negL; rw [h1]; exact out_fits (ok_fits hz h1 _))
  obtain ⟨i0, hi, hz0, hz1, hz2⟩ := info_parts info32
  have HI := hid (And.intro hi (And.intro hz0 (And.intro hz1 hz2)))
  clear hi hz0 hz1 hz2
  go_enter Tryz.func110, Tryz.ntmps110
  go_wp2_with fail
  refine (ok_impl ng a cap zs _ ((hs.alloc _).alloc _) hl').mono ?_
  rintro e w1 ⟨rfl, hb1⟩
  have r1 := (R2.new2 w (.cells #[.bool ng, .slice a zs.length cap] 32) (.bool false) (.slice none 0 0) 32).below hb1
  obtain ⟨x10, x11⟩ := ((Box.new w (.bool ng) (.slice a zs.length cap) 32).alloc _).below hb1
  have s1 := ((hs.alloc _).alloc _).below hb1
  have hbw1 : w.heap.size + 1 < w1.heap.size := World.block_lt_of_cell? w1 _ r1.c0
  have hbw : w.heap.size < w1.heap.size := World.block_lt_of_cell? w1 _ x10
  have hone : ∀ u ∈ zs.map (Value.int .u32), u.oneCell' = true := fun u hu => by
   obtain ⟨q, _, rfl⟩ := List.mem_map.1 hu; rfl
  have HO := hid hone
  clear hone
  by_cases hpos : 0 < zs.length
  ·obtain ⟨b, off, rfl⟩ : ∃ b off, a = some ⟨b, off, none⟩ := by
    obtain ⟨a', c', he, _, _, h3⟩ := s1
    rcases h3 with h3 | ⟨b', off', ha, hc⟩
    ·subst h3; simp at hpos
    ·cases he; exact ⟨b', off', ha⟩
   go_upto_region 5 with fail
   have s1' : Sl .u32 w1 (.slice (some ⟨b, off, none⟩) zs.length cap) zs := s1
   go_cut [3] (fun v3 wx => ∃ p : Nat, ∃ a' c', v3 = .pointer (some ⟨p, 0, none⟩) ∧ w1.heap.size ≤ p ∧ R2 wx p (.bool (Nm.outN (Nm.wv (!ng) zs))) (.slice a' (Nm.outL (Nm.wv (!ng) zs)).length c') ∧ Own wx w1.heap.size a' c' (Nm.outL (Nm.wv (!ng) zs)) ∧ R2 wx (w.heap.size + 1) (.bool false) (.slice none 0 0) ∧ Below w1.heap.size w1 wx)
   case first =>
    go_region_held_law (fun w' => w'.cell? ⟨w.heap.size, 0, none⟩ = some (.bool ng) ∧ w'.cell? ⟨w.heap.size, 1, none⟩ = some (.slice (some ⟨b, off, none⟩) zs.length cap))
     (first
      | go_keep
      | (refine keepS ?_ hbw x10 x11; (first | refine Below.setCell (Below.setCell hb3' ?_ _) ?_ _ | refine Below.setCell (Below.setCell (bel_al hb3' _) ?_ _) ?_ _) <;> (simp; try omega))
      | exact keepS hb3' hbw x10 x11
      | exact keepS hb2 hbw x10 x11
      | exact keepS (bel_al hb3' _) hbw x10 x11
      | exact keepS (bel_al hb2 _) hbw x10 x11)
     ((first
      | (refine step_append_lies _ (by rfl) _ _ _ (by rfl) w1.heap.size 128 i0 (.int .u32 0) 1 4 Tryz.underlying30 HI.out.1 HI.out.2.1 HI.out.2.2.1 HI.out.2.2.2 rfl (by decide) _ 0 [] (by rfl) (by first | exact emp1 w1.drew | exact emp2 w1.drew _ | exact emp3 w1.drew _) ⟨b, off, none⟩ zs.length cap (zs.map (Value.int .u32)) (by rfl) (by simp) (by first | exact sl_news (Sl.alloc (Sl.drew s1) _) | exact sl_news (Sl.alloc (Sl.alloc (Sl.drew s1) _) _)) HO.out hpos (by unfold maxLen; omega) (by omega) (by first | omega | (simp; done) | (simp; omega)) _ rfl ?_; intro g cap' w2 hown1 hgrow hat hlt; have ho2 : Own w2 w1.heap.size (some ⟨g, 0, none⟩) cap' zs := (by simpa [Own] using hown1); have hsz := hgrow.size; simp at hsz; have hb2 : Below w1.heap.size w1 w2 := grow_below (by first | exact bel_al (Below.drew (Below.refl _ _)) _ | exact bel_al (bel_al (Below.drew (Below.refl _ _)) _) _) hgrow (fun k hk => by first | (have h' : w1.heap.size = k := Option.some.inj hk; omega) | (have h' : w1.heap.size + 1 = k := Option.some.inj hk; omega) | (have h' : (w1.alloc _).heap.size = k := Option.some.inj hk; simp at h'; omega)); (first | (have rb : R2 w2 w1.heap.size (.bool false) (.slice none 0 0) := boxA (w1 := w1.drew) hgrow) | (have rb : R2 w2 (w1.heap.size + 1) (.bool false) (.slice none 0 0) := boxB (w1 := w1.drew) hgrow) | skip))
      | (go_at_call 105; refine (fitted_va (!ng) (some ⟨g, 0, none⟩) cap' zs w1.heap.size _ (by first | exact ho2 | exact ho2.alloc _) hz hl _ rfl).mono ?_; rintro e w3 ⟨a', c', rfl, ho3, hb3, hsame⟩; have hsz3 := hb3.size; (try simp at hsz3); have hb3' : Below w1.heap.size w1 w3 := (by first | exact bel_go hb2 hb3 | exact bel_go (bel_al hb2 _) hb3); (first | (have rc := R2.below rb hb3; obtain ⟨q0, q1, q2, q3⟩ := rc) | (have rc := R2.below (R2.new w2 (.bool false) (.slice none 0 0) 32) hb3; obtain ⟨q0, q1, q2, q3⟩ := rc) | skip))))
    all_goals (go_wp2_with fail; go_meet)
    ·exact ⟨w3.heap.size, a', c', rfl, by omega, R2.new w3 _ _ _, ho3.alloc _, (r1.below hb3').alloc _, bel_al hb3' _⟩
    ·have hgp : ∀ g', a' = some ⟨g', 0, none⟩ → g' ≠ w2.heap.size := fun g' he => by
      rcases hsame with h | h
      ·rw [h] at he; cases he
      ·rw [h] at he; cases he; omega
     exact ⟨w2.heap.size, a', c', rfl, by omega, R2.set ⟨q0, q1, q2, q3⟩ _ _, (ho3.setOther hgp _).setOther hgp _, ((r1.below hb3').other (by simp; omega) _).other (by simp; omega) _, (hb3'.setCell (by simp; omega) _).setCell (by simp; omega) _⟩
    ·have hgq : g ≠ w1.heap.size + 1 := by
      rcases hat with h | h
      ·have h' : w1.heap.size = g := Option.some.inj h
       omega
      ·simp at h; omega
     have hgp : ∀ g', a' = some ⟨g', 0, none⟩ → g' ≠ w1.heap.size + 1 := fun g' he => by
      rcases hsame with h | h
      ·rw [h] at he; cases he
      ·rw [h] at he; cases he; exact hgq
     exact ⟨w1.heap.size + 1, a', c', rfl, by omega, R2.set ⟨q0, q1, q2, q3⟩ _ _, (ho3.setOther hgp _).setOther hgp _, ((r1.below hb3').other (by simp; omega) _).other (by simp; omega) _, (hb3'.setCell (by simp) _).setCell (by simp) _⟩
    ·have hgq : g ≠ w1.heap.size := by
      rcases hat with h | h
      ·have h' : w1.heap.size + 1 = g := Option.some.inj h
       omega
      ·simp at h; omega
     have hgp : ∀ g', a' = some ⟨g', 0, none⟩ → g' ≠ w1.heap.size := fun g' he => by
      rcases hsame with h | h
      ·rw [h] at he; cases he
      ·rw [h] at he; cases he; exact hgq
     exact ⟨w1.heap.size, a', c', rfl, by omega, R2.set ⟨q0, q1, q2, q3⟩ _ _, (ho3.setOther hgp _).setOther hgp _, ((r1.below hb3').other (by simp; omega) _).other (by simp; omega) _, (hb3'.setCell (by simp) _).setCell (by simp) _⟩
   case rest =>
    obtain ⟨p, a', c', rfl, hp, ⟨p0, p1, pf0, pf1⟩, ho, ⟨z0, z1, zf0, zf1⟩, hbx⟩ := hcut
    have hwp : w.heap.size + 1 < p := by omega
    obtain ⟨eL, eN⟩ := HR.out
    go_wp2
    refine bodyPost_ret (v := .agg #[.bool (negN ng zs), .slice a' (negL ng zs).length c']) (by simp [results, Tryz.results110, go_sem, z0, z1, eL, eN]) rfl ⟨a', c', rfl, ?_, ?_⟩
    ·rw [eL] at ho
     exact Own.base ((ho.setBelow (by simp; omega) _).setBelow (by simp; omega) _) (by omega)
    ·have hb0 : Below w.heap.size w w1 := (by repeat (first | exact bz0 _ _ | refine bz1 ?_ | refine bz2 ?_ _ | refine bz3 ?_ _ | refine bz4 ?_ hb1 | refine bz5 ?_ _ | refine bz6 ?_ _ | refine bz7 ?_ hb1))
     exact ((hb0.trans (hbx.mono (by omega))).setCell (by simp) _).setCell (by simp) _
  ·obtain rfl : zs = [] := List.eq_nil_of_length_eq_zero (by omega)
   go_upto_region 5 with fail
   go_cut [3] (fun v3 wx => ∃ p : Nat, ∃ a' c', v3 = .pointer (some ⟨p, 0, none⟩) ∧ w1.heap.size ≤ p ∧ R2 wx p (.bool (Nm.outN (Nm.wv (!ng) []))) (.slice a' (Nm.outL (Nm.wv (!ng) [])).length c') ∧ Own wx w1.heap.size a' c' (Nm.outL (Nm.wv (!ng) [])) ∧ R2 wx (w.heap.size + 1) (.bool false) (.slice none 0 0) ∧ Below w1.heap.size w1 wx)
   case first =>
    go_region_held_law (fun w' => w'.cell? ⟨w.heap.size, 0, none⟩ = some (.bool ng) ∧ w'.cell? ⟨w.heap.size, 1, none⟩ = some (.slice a 0 cap))
     (first
      | go_keep
      | (refine keepS ?_ hbw x10 x11; (first | refine Below.setCell (Below.setCell hb3' ?_ _) ?_ _ | refine Below.setCell (Below.setCell (bel_al hb3' _) ?_ _) ?_ _) <;> (simp; try omega))
      | exact keepS hb3' hbw x10 x11
      | exact keepS (bel_al hb3' _) hbw x10 x11)
     ((first
      | (refine step_append_zero (by rfl) _ _ _ (by rfl) 128 i0 Tryz.underlying30 HI.out.1 _ a cap (by rfl) (by rfl) ?_)
      | (go_at_call 105; refine (fitted_va (!ng) _ 0 [] w1.heap.size _ (by first | exact emp1 w1.drew | exact emp2 w1.drew _ | exact emp3 w1.drew _) hz hl _ rfl).mono ?_; rintro e w3 ⟨a', c', rfl, ho3, hb3, hsame⟩; have hsz3 := hb3.size; (try simp at hsz3); have hb3' : Below w1.heap.size w1 w3 := (by first | exact bel_go (bel_al (Below.drew (Below.refl _ _)) _) hb3 | exact bel_go (bel_al (bel_al (Below.drew (Below.refl _ _)) _) _) hb3); (first | (have rc : R2 w3 w1.heap.size (.bool false) (.slice none 0 0) := R2.below ((R2.new w1.drew (.bool false) (.slice none 0 0) 32).alloc (.cells #[] 128)) hb3; obtain ⟨q0, q1, q2, q3⟩ := rc) | (have rc : R2 w3 (w1.heap.size + 1) (.bool false) (.slice none 0 0) := R2.below (R2.new2 w1.drew (.cells #[] 128) (.bool false) (.slice none 0 0) 32) hb3; obtain ⟨q0, q1, q2, q3⟩ := rc) | skip))))
    all_goals (go_wp2_with fail; go_meet)
    ·exact ⟨w3.heap.size, a', c', rfl, by omega, R2.new w3 _ _ _, ho3.alloc _, (r1.below hb3').alloc _, bel_al hb3' _⟩
    ·have hgp : ∀ g', a' = some ⟨g', 0, none⟩ → g' ≠ w1.heap.size + 1 := fun g' he => by
      rcases hsame with h | h
      ·rw [h] at he; cases he
      ·rw [h] at he
       have h' : w1.heap.size = g' := by simpa using he
       omega
     exact ⟨w1.heap.size + 1, a', c', rfl, by omega, R2.set ⟨q0, q1, q2, q3⟩ _ _, (ho3.setOther hgp _).setOther hgp _, ((r1.below hb3').other (by simp; omega) _).other (by simp; omega) _, (hb3'.setCell (by simp) _).setCell (by simp) _⟩
    ·have hgp : ∀ g', a' = some ⟨g', 0, none⟩ → g' ≠ w1.heap.size + 1 := fun g' he => by
      rcases hsame with h | h
      ·rw [h] at he; cases he
      ·rw [h] at he
       have h' : w1.heap.size = g' := by simpa using he
       omega
     exact ⟨w1.heap.size + 1, a', c', rfl, by omega, R2.set ⟨q0, q1, q2, q3⟩ _ _, (ho3.setOther hgp _).setOther hgp _, ((r1.below hb3').other (by simp; omega) _).other (by simp; omega) _, (hb3'.setCell (by simp) _).setCell (by simp) _⟩
    ·have hgp : ∀ g', a' = some ⟨g', 0, none⟩ → g' ≠ w1.heap.size := fun g' he => by
      rcases hsame with h | h
      ·rw [h] at he; cases he
      ·rw [h] at he
       have h' : w1.heap.size + 1 = g' := by simpa using he
       omega
     exact ⟨w1.heap.size, a', c', rfl, by omega, R2.set ⟨q0, q1, q2, q3⟩ _ _, (ho3.setOther hgp _).setOther hgp _, ((r1.below hb3').other (by simp; omega) _).other (by simp; omega) _, (hb3'.setCell (by simp) _).setCell (by simp) _⟩
   case rest =>
    obtain ⟨p, a', c', rfl, hp, ⟨p0, p1, pf0, pf1⟩, ho, ⟨z0, z1, zf0, zf1⟩, hbx⟩ := hcut
    have hwp : w.heap.size + 1 < p := by omega
    obtain ⟨eL, eN⟩ := HR.out
    go_wp2
    refine bodyPost_ret (v := .agg #[.bool (negN ng []), .slice a' (negL ng []).length c']) (by simp [results, Tryz.results110, go_sem, z0, z1, eL, eN]) rfl ⟨a', c', rfl, ?_, ?_⟩
    ·rw [eL] at ho
     exact Own.base ((ho.setBelow (by simp; omega) _).setBelow (by simp; omega) _) (by omega)
    ·have hb0 : Below w.heap.size w w1 := (by repeat (first | exact bz0 _ _ | refine bz1 ?_ | refine bz2 ?_ _ | refine bz3 ?_ _ | refine bz4 ?_ hb1 | refine bz5 ?_ _ | refine bz6 ?_ _ | refine bz7 ?_ hb1))
     exact ((hb0.trans (hbx.mono (by omega))).setCell (by simp) _).setCell (by simp) _
end Go.Proofs.YtkfjmcdniohljaaGreatDoor
