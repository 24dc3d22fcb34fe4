/-
  Several texts in one: LawsC, AppendZ, WideK, WideT, NumsF, ShiftD.
-/
import Derived.Test.YtojcaoccjapdoaaDoorG00
import Derived.Test.YtojcaoccjapdoaaDoorG01
import Derived.Deep.AppendLies
import Derived.WalkKit
import Derived.Deep.RegionWith
import Derived.Deep.DeepCutAuto
import Derived.Deep.RegionHeldLaw
import Derived.Deep.DrawnRows
import Derived.Test.YtojcaoccjapdoaaDoorG04
import Derived.Test.YtojcaoccjapdoaaDoorG03
/-
  What the laws' marks leave alone.
-/
namespace Go.Proofs.YtojcaoccjapdoaaDoor
set_option linter.unusedVariables false
set_option linter.unusedSimpArgs false
open Go.RowKit Go.Deep
/-- Where a slice's row lies, if there is one: told by its first cell's block. -/
theorem Own.at {w : World} {B : Nat} {a : Option Addr} {cap : Nat} {zs : List Int} (h : Own w B a cap zs) (n c : Nat) : ∀ g, (Value.slice a n c).ownBlock = some g → B ≤ g ∧ g < w.heap.size := by
  intro g hg
  rcases h.block with ⟨rfl, _, _⟩ | ⟨g', rfl, h1, h2⟩
  · simp [Value.ownBlock] at hg
  · simp [Value.ownBlock] at hg; subst hg; exact ⟨h1, h2⟩
theorem Box.grown {w w' : World} {b : Nat} {v0 v1 : Value} {row : Option Nat} (h : Box w b v0 v1) (hg : w.grownBy w' row) (hne : ∀ g, row = some g → b ≠ g) : Box w' b v0 v1 := by
  have hlt := World.block_lt_of_cell? w _ h.1
  have e := hg.block b hlt (by
    cases row with
    | none => simp
    | some g => simpa using hne g rfl)
  exact ⟨(World.cell?_of_block (a := ⟨b, 0, none⟩) e).trans h.1, (World.cell?_of_block (a := ⟨b, 1, none⟩) e).trans h.2⟩
/-- What is owned below what is marked. -/
theorem Own.under {w w' : World} {B : Nat} {a : Option Addr} {cap : Nat} {zs : List Int} {row : Option Nat} (h : Own w B a cap zs) (hg : w.grownBy w' row) (hlt : ∀ g g', a = some ⟨g, 0, none⟩ → row = some g' → g ≠ g') : Own w' B a cap zs :=
  h.kept hg (fun g hg' hr => hlt g g hg' hr rfl)
theorem Sl.grown {k : IntKind} {w w' : World} {v : Value} {zs : List Int} {row : Option Nat} (h : Sl k w v zs) (hg : w.grownBy w' row) (hne : ∀ g, row = some g → w.heap.size ≤ g ∨ ∀ b off n cap, v = .slice (some ⟨b, off, none⟩) n cap → b ≠ g) : Sl k w' v zs := by
  obtain ⟨a, cap, rfl, h1, h2, h3⟩ := h
  refine ⟨a, cap, rfl, h1, h2, ?_⟩
  rcases h3 with h3 | ⟨b, off, rfl, hc⟩
  · exact .inl h3
  · refine .inr ⟨b, off, rfl, fun i hi => ?_⟩
    have hci := hc i hi
    have hlt := World.block_lt_of_cell? w _ hci
    have e := hg.block b hlt (by
      cases row with
      | none => simp
      | some g =>
        rcases hne g rfl with h | h
        · simp at hlt ⊢; omega
        · simpa using h b off _ _ rfl)
    exact (World.cell?_of_block (a := ⟨b, off + i, none⟩) e).trans hci
/-- Nothing old has turned, where only a new block is marked. -/
theorem bel_mark {w W w' : World} {row : Option Nat} (h : Below w.heap.size w W) (hg : W.grownBy w' row) (hge : ∀ g, row = some g → w.heap.size ≤ g) : Below w.heap.size w w' :=
  h.grown hg h.size hge
theorem iot_dg (n : Nat) (hn : n ≤ 1048576) : Nm.Dg (iot 1 n) := by
  intro z hz
  simp only [iot, List.mem_map, List.mem_range] at hz
  obtain ⟨i, hi, rfl⟩ := hz
  omega
theorem heldR_iot (n : Nat) : heldR 1 (iot 1 n) = 1 + n := by unfold heldR; rw [iot_length, if_pos rfl]
theorem eqW_refl (n : Bool) (zs : List Int) : eqW n n zs zs = true := by simp [eqW, eqL]
end Go.Proofs.YtojcaoccjapdoaaDoor
/-
  Nothing is appended: at a step of a region that draws its order.
-/
namespace Go.Proofs.YtojcaoccjapdoaaDoor
set_option linter.unusedVariables false
set_option linter.unusedSimpArgs false
open Go.RowKit
theorem run_append_zero {P : Program} (w : World) (t ty e : TypeId) (i : TypeInfo) (ht : P.underlying t = some (.slice e)) (hi : P.info? e = some i) (g a : Option Addr) (cap : Nat) :
    (Builtin.append_ #[t, t] ty #[.slice g 0 0, .slice a 0 cap]).run P w = .ok (.slice g 0 0) w := by
  cases a <;> cases g <;> simp [Builtin.append_, run_underlying ht, sizeOf, typeInfo, hi, Builtin.lenOf, Builtin.firstCells, storeCells, go_sem, loadCellsFrom]
theorem step_append_zero {P : Program} {ops : Array Oper} {o : Oper} {a : Act} {w : World} {K : Act → World → Prop} {Q : Exit → Act → World → Prop} {E : Prop} (hgd : o.guard = none) (s x : Operand) (t : TypeId)
    (ho : o.op = .call { callee := .builtin .append, args := #[s, x], argTypes := #[t, t] })
    (e : TypeId) (i : TypeInfo) (ht : P.underlying t = some (.slice e)) (hi : P.info? e = some i) (g b : Option Addr) (cap : Nat) (hs : a.eval s = .slice g 0 0) (hx : a.eval x = .slice b 0 cap)
    (h : K (a.put o.dst (.slice g 0 0)) w) :
    if Region.wanted o (yielded ops a.tmps) = true then Oper.wp P o a w K Q else E := by
  have hw : Region.wanted o (yielded ops a.tmps) = true := by simp [Region.wanted, hgd]
  rw [if_pos hw]
  have hr := run_append_zero (P := P) w t o.type e i ht hi g b cap
  unfold Oper.wp execOp
  simp only [ho, resolve, invoke, builtin, Sem.run_bind, Sem.run_pure, Result.andThen_ok, List.map_toArray, List.map_cons, List.map_nil, hs, hx, hr]
  exact h
end Go.Proofs.YtojcaoccjapdoaaDoor
/-
  0 less a wide, by the program.
-/
namespace Go.Proofs.YtojcaoccjapdoaaDoor
set_option linter.unusedVariables false
set_option linter.unusedSimpArgs false
open Go.RowKit Go.Deep
/-- A right wide's limbs end in no nought. -/
theorem okB_nz {ng : Bool} {zs : List Int} (h : okB ng zs = true) : Nm.Nz zs ∧ zs.length ≤ 200 := by
  unfold okB at h
  split at h
  · rename_i h0
    have : zs = [] := List.eq_nil_of_length_eq_zero h0
    subst this; exact ⟨Nm.Nz.nil, by simp⟩
  · rename_i h0
    simp at h
    refine ⟨fun z hz => ?_, h.1⟩
    have h2 := h.2
    rw [List.getLast?_eq_getElem?] at hz
    rw [hz] at h2
    simpa using h2
theorem fit_ok {ng : Bool} {zs : List Int} (hd : Nm.Dg zs) (h : okB ng zs = true) (m : Bool) : fitL zs = zs ∧ fitN m zs = (m && !decide (zs.length = 0)) ∧ fitO zs = true := by
  obtain ⟨h1, h2⟩ := okB_nz h
  have ht := Nm.trim_eq hd h1
  unfold fitL fitN fitO
  rw [ht, if_pos h2, if_pos h2]
  exact ⟨rfl, rfl, by simpa using h2⟩
/-- 0 less a wide: its limbs and its sign. -/
def negL (ng : Bool) (zs : List Int) : List Int := if okB ng zs then Nm.wl (Nm.wv (!ng) zs) else []
def negN (ng : Bool) (zs : List Int) : Bool := if okB ng zs then Nm.wn (Nm.wv (!ng) zs) else false
theorem ok_fits {ng : Bool} {zs : List Int} (hd : Nm.Dg zs) (h : okB ng zs = true) (m : Bool) : Nm.fits (Nm.wv m zs) = true := by
  obtain ⟨h1, h2⟩ := okB_nz h
  unfold Nm.fits
  rw [Nm.wl_wv m hd, Nm.trim_eq hd h1]; simpa using h2

theorem sl_news {W : World} {b off cap : Nat} {zs : List Int} (h : Sl .u32 W (.slice (some ⟨b, off, none⟩) zs.length cap) zs) : ∀ j u, (zs.map (Value.int .u32))[j]? = some u → W.cell? ((⟨b, off, none⟩ : Addr).add j) = some u := fun j u hj => by
  have hjn : j < zs.length := by
    rcases Nat.lt_or_ge j zs.length with h | h
    · exact h
    · rw [List.getElem?_eq_none (by simpa using h)] at hj; cases hj
  obtain ⟨a, c, he, _, _, h3⟩ := h
  rcases h3 with h3 | ⟨b', off', ha, hc⟩
  · subst h3; simp at hjn
  · cases he
    cases ha
    have hju : u = .int .u32 (zs.getD j 0) := by
      rw [List.getElem?_map] at hj
      rw [List.getD_eq_getElem?_getD]
      cases hzj : zs[j]? with
      | none => rw [hzj] at hj; cases hj
      | some q => rw [hzj] at hj; simp at hj ⊢; exact hj.symm
    have e : (⟨b, off, none⟩ : Addr).add j = ⟨b, off + j, none⟩ := by unfold Addr.add; split <;> simp_all
    rw [e, hju]
    exact hc j hjn
theorem own_empty (W : World) {B : Nat} (hB : B ≤ W.heap.size) : (W.alloc (.cells #[] 74)).ownsRow B 74 1 (.slice (some ⟨W.heap.size, 0, none⟩) 0 0) 0 [] := by
  have := World.ownsRow_made (base := B) (e := 74) (size := 1) W #[] 0 (by simpa using hB) (by decide) rfl
  simpa using this
theorem emp1 (w1 : World) : (w1.alloc (.cells #[] 74)).ownsRow w1.heap.size 74 1 (.slice (some ⟨w1.heap.size, 0, none⟩) 0 0) 0 [] := own_empty w1 (Nat.le_refl _)
theorem emp2 (w1 : World) (o : Obj) : ((w1.alloc o).alloc (.cells #[] 74)).ownsRow w1.heap.size 74 1 (.slice (some ⟨w1.heap.size + 1, 0, none⟩) 0 0) 0 [] := by
  have := own_empty (w1.alloc o) (B := w1.heap.size) (by simp)
  simpa using this
theorem emp3 (w1 : World) (o : Obj) : ((w1.alloc (.cells #[] 74)).alloc o).ownsRow w1.heap.size 74 1 (.slice (some ⟨w1.heap.size, 0, none⟩) 0 0) 0 [] := (emp1 w1).alloc o
theorem grow_below {w1 W w2 : World} {row : Option Nat} (h : Below w1.heap.size w1 W) (hg : W.grownBy w2 row) (hge : ∀ k, row = some k → w1.heap.size ≤ k) : Below w1.heap.size w1 w2 := h.grown hg h.size hge
theorem keepS {w1 W : World} {B : Nat} {u v : Value} (hb : Below w1.heap.size w1 W) (hbw : B < w1.heap.size) (x10 : w1.cell? ⟨B, 0, none⟩ = some u) (x11 : w1.cell? ⟨B, 1, none⟩ = some v) : W.cell? ⟨B, 0, none⟩ = some u ∧ W.cell? ⟨B, 1, none⟩ = some v :=
  ⟨(hb.cell (p := ⟨B, 0, none⟩) hbw).trans x10, (hb.cell (p := ⟨B, 1, none⟩) hbw).trans x11⟩
theorem boxA {w1 w2 : World} {v0 v1 : Value} {t : TypeId} {o : Obj} (h : ((w1.alloc (.cells #[v0, v1] t)).alloc o).grownBy w2 (some (w1.heap.size + 1))) : R2 w2 w1.heap.size v0 v1 :=
  R2.grown ((R2.new w1 v0 v1 t).alloc o) h (by omega)
theorem boxB {w1 w2 : World} {v0 v1 : Value} {t : TypeId} {o : Obj} (h : ((w1.alloc o).alloc (.cells #[v0, v1] t)).grownBy w2 (some w1.heap.size)) : R2 w2 (w1.heap.size + 1) v0 v1 :=
  R2.grown (R2.new2 w1 o v0 v1 t) h (by omega)
attribute [local go_sem ↓] Go.wp_at_zero Go.wp_at_succ
set_option maxRecDepth 4000 in
set_option maxHeartbeats 4000000 in
theorem wneg_impl (ng : Bool) (a : Option Addr) (cap : Nat) (zs : List Int) (w : World) (hs : Sl .u32 w (.slice a zs.length cap) zs) (hz : Nm.Dg zs) (hl : zs.length ≤ 1048576) :
    Calls Tryd.prog 30 #[.agg #[.bool ng, .slice a zs.length cap]] w fun e w' => ∃ a' c', e = .returned (.agg #[.bool (negN ng zs), .slice a' (negL ng zs).length c']) ∧ Own w' w.heap.size a' c' (negL ng zs) ∧ Below w.heap.size w w' := by
  have hl' : zs.length ≤ 140737488355328 := by omega
  cases h1 : okB ng zs
  · have HR : Hid (negN ng zs = false ∧ negL ng zs = []) := hid (by unfold negN negL; rw [h1]; exact ⟨rfl, rfl⟩)
    go_enter Tryd.func30, Tryd.ntmps30
    go_wp2_with fail
    refine (ok_impl ng a cap zs _ ((hs.alloc _).alloc _) hl').mono ?_
    rintro e w1 ⟨rfl, hb1⟩
    obtain ⟨r10, r11, f10, f11⟩ := (R2.new2 w _ (.bool false) (.slice none 0 0) 31).below hb1
    go_wp2
    refine bodyPost_ret (v := .agg #[.bool false, .slice none 0 0]) (by simp [results, Tryd.results30, go_sem, r10, r11]) rfl ⟨none, 0, ?_, ?_, (by repeat (first | exact Below.refl _ _ | refine Below.drew ?_ | refine bel_dn ?_ _ | refine bel_al ?_ _ | refine bel_go ?_ hb1 | refine Below.setCell ?_ (by first | omega | (simp; done) | (simp; omega)) _ | refine Below.alloc ?_ (by first | omega | (simp; done) | (simp; omega)) _ | refine Below.trans ?_ (Below.mono hb1 (by first | omega | (simp; done) | (simp; omega)))))⟩
    · rw [HR.out.1, HR.out.2]; rfl
    · rw [HR.out.2]; exact Own.nil _ _
  · have HR : Hid (Nm.outL (Nm.wv (!ng) zs) = negL ng zs ∧ Nm.outN (Nm.wv (!ng) zs) = negN ng zs) := hid (by unfold negN negL; rw [h1]; exact out_fits (ok_fits hz h1 _))
    obtain ⟨i0, hi, hz0, hz1, hz2⟩ := info_parts info32
    have HI := hid (And.intro hi (And.intro hz0 (And.intro hz1 hz2)))
    clear hi hz0 hz1 hz2
    go_enter Tryd.func30, Tryd.ntmps30
    go_wp2_with fail
    refine (ok_impl ng a cap zs _ ((hs.alloc _).alloc _) hl').mono ?_
    rintro e w1 ⟨rfl, hb1⟩
    have r1 := (R2.new2 w (.cells #[.bool ng, .slice a zs.length cap] 31) (.bool false) (.slice none 0 0) 31).below hb1
    obtain ⟨x10, x11⟩ := ((Box.new w (.bool ng) (.slice a zs.length cap) 31).alloc _).below hb1
    have s1 := ((hs.alloc _).alloc _).below hb1
    have hbw1 : w.heap.size + 1 < w1.heap.size := World.block_lt_of_cell? w1 _ r1.c0
    have hbw : w.heap.size < w1.heap.size := World.block_lt_of_cell? w1 _ x10
    have hone : ∀ u ∈ zs.map (Value.int .u32), u.oneCell' = true := fun u hu => by
      obtain ⟨q, _, rfl⟩ := List.mem_map.1 hu; rfl
    have HO := hid hone
    clear hone
    by_cases hpos : 0 < zs.length
    · obtain ⟨b, off, rfl⟩ : ∃ b off, a = some ⟨b, off, none⟩ := by
        obtain ⟨a', c', he, _, _, h3⟩ := s1
        rcases h3 with h3 | ⟨b', off', ha, hc⟩
        · subst h3; simp at hpos
        · cases he; exact ⟨b', off', ha⟩
      go_upto_region 5 with fail
      have s1' : Sl .u32 w1 (.slice (some ⟨b, off, none⟩) zs.length cap) zs := s1
      go_cut [3] (fun v3 wx => ∃ p : Nat, ∃ a' c', v3 = .pointer (some ⟨p, 0, none⟩) ∧ w1.heap.size ≤ p ∧ R2 wx p (.bool (Nm.outN (Nm.wv (!ng) zs))) (.slice a' (Nm.outL (Nm.wv (!ng) zs)).length c') ∧ Own wx w1.heap.size a' c' (Nm.outL (Nm.wv (!ng) zs)) ∧ R2 wx (w.heap.size + 1) (.bool false) (.slice none 0 0) ∧ Below w1.heap.size w1 wx)
      case first =>
        go_region_held_law (fun w' => w'.cell? ⟨w.heap.size, 0, none⟩ = some (.bool ng) ∧ w'.cell? ⟨w.heap.size, 1, none⟩ = some (.slice (some ⟨b, off, none⟩) zs.length cap))
          (first
            | go_keep
            | (refine keepS ?_ hbw x10 x11; (first | refine Below.setCell (Below.setCell hb3' ?_ _) ?_ _ | refine Below.setCell (Below.setCell (bel_al hb3' _) ?_ _) ?_ _) <;> (simp; try omega))
            | exact keepS hb3' hbw x10 x11
            | exact keepS hb2 hbw x10 x11
            | exact keepS (bel_al hb3' _) hbw x10 x11
            | exact keepS (bel_al hb2 _) hbw x10 x11)
          ((first
            | (refine step_append_lies _ (by rfl) _ _ _ (by rfl) w1.heap.size 74 i0 (.int .u32 0) 1 4 Tryd.underlying29 HI.out.1 HI.out.2.1 HI.out.2.2.1 HI.out.2.2.2 rfl (by decide) _ 0 [] (by rfl) (by first | exact emp1 w1.drew | exact emp2 w1.drew _ | exact emp3 w1.drew _) ⟨b, off, none⟩ zs.length cap (zs.map (Value.int .u32)) (by rfl) (by simp) (by first | exact sl_news (Sl.alloc (Sl.drew s1) _) | exact sl_news (Sl.alloc (Sl.alloc (Sl.drew s1) _) _)) HO.out hpos (by unfold maxLen; omega) (by omega) (by first | omega | (simp; done) | (simp; omega)) _ rfl ?_; intro g cap' w2 hown1 hgrow hat hlt; have ho2 : Own w2 w1.heap.size (some ⟨g, 0, none⟩) cap' zs := (by simpa [Own] using hown1); have hsz := hgrow.size; simp at hsz; have hb2 : Below w1.heap.size w1 w2 := grow_below (by first | exact bel_al (Below.drew (Below.refl _ _)) _ | exact bel_al (bel_al (Below.drew (Below.refl _ _)) _) _) hgrow (fun k hk => by first | (have h' : w1.heap.size = k := Option.some.inj hk; omega) | (have h' : w1.heap.size + 1 = k := Option.some.inj hk; omega) | (have h' : (w1.alloc _).heap.size = k := Option.some.inj hk; simp at h'; omega)); (first | (have rb : R2 w2 w1.heap.size (.bool false) (.slice none 0 0) := boxA (w1 := w1.drew) hgrow) | (have rb : R2 w2 (w1.heap.size + 1) (.bool false) (.slice none 0 0) := boxB (w1 := w1.drew) hgrow) | skip))
            | (go_at_call 59; refine (fitted_va (!ng) (some ⟨g, 0, none⟩) cap' zs w1.heap.size _ (by first | exact ho2 | exact ho2.alloc _) hz hl _ rfl).mono ?_; rintro e w3 ⟨a', c', rfl, ho3, hb3, hsame⟩; have hsz3 := hb3.size; (try simp at hsz3); have hb3' : Below w1.heap.size w1 w3 := (by first | exact bel_go hb2 hb3 | exact bel_go (bel_al hb2 _) hb3); (first | (have rc := R2.below rb hb3; obtain ⟨q0, q1, q2, q3⟩ := rc) | (have rc := R2.below (R2.new w2 (.bool false) (.slice none 0 0) 31) hb3; obtain ⟨q0, q1, q2, q3⟩ := rc) | skip))))
        all_goals (go_wp2_with fail; go_meet)
        · exact ⟨w3.heap.size, a', c', rfl, by omega, R2.new w3 _ _ _, ho3.alloc _, (r1.below hb3').alloc _, bel_al hb3' _⟩
        · have hgp : ∀ g', a' = some ⟨g', 0, none⟩ → g' ≠ w2.heap.size := fun g' he => by
            rcases hsame with h | h
            · rw [h] at he; cases he
            · rw [h] at he; cases he; omega
          exact ⟨w2.heap.size, a', c', rfl, by omega, R2.set ⟨q0, q1, q2, q3⟩ _ _, (ho3.setOther hgp _).setOther hgp _, ((r1.below hb3').other (by simp; omega) _).other (by simp; omega) _, (hb3'.setCell (by simp; omega) _).setCell (by simp; omega) _⟩
        · have hgq : g ≠ w1.heap.size + 1 := by
            rcases hat with h | h
            · have h' : w1.heap.size = g := Option.some.inj h
              omega
            · simp at h; omega
          have hgp : ∀ g', a' = some ⟨g', 0, none⟩ → g' ≠ w1.heap.size + 1 := fun g' he => by
            rcases hsame with h | h
            · rw [h] at he; cases he
            · rw [h] at he; cases he; exact hgq
          exact ⟨w1.heap.size + 1, a', c', rfl, by omega, R2.set ⟨q0, q1, q2, q3⟩ _ _, (ho3.setOther hgp _).setOther hgp _, ((r1.below hb3').other (by simp; omega) _).other (by simp; omega) _, (hb3'.setCell (by simp) _).setCell (by simp) _⟩
        · have hgq : g ≠ w1.heap.size := by
            rcases hat with h | h
            · have h' : w1.heap.size + 1 = g := Option.some.inj h
              omega
            · simp at h; omega
          have hgp : ∀ g', a' = some ⟨g', 0, none⟩ → g' ≠ w1.heap.size := fun g' he => by
            rcases hsame with h | h
            · rw [h] at he; cases he
            · rw [h] at he; cases he; exact hgq
          exact ⟨w1.heap.size, a', c', rfl, by omega, R2.set ⟨q0, q1, q2, q3⟩ _ _, (ho3.setOther hgp _).setOther hgp _, ((r1.below hb3').other (by simp; omega) _).other (by simp; omega) _, (hb3'.setCell (by simp) _).setCell (by simp) _⟩
      case rest =>
        obtain ⟨p, a', c', rfl, hp, ⟨p0, p1, pf0, pf1⟩, ho, ⟨z0, z1, zf0, zf1⟩, hbx⟩ := hcut
        have hwp : w.heap.size + 1 < p := by omega
        obtain ⟨eL, eN⟩ := HR.out
        go_wp2
        refine bodyPost_ret (v := .agg #[.bool (negN ng zs), .slice a' (negL ng zs).length c']) (by simp [results, Tryd.results30, go_sem, z0, z1, eL, eN]) rfl ⟨a', c', rfl, ?_, ?_⟩
        · rw [eL] at ho
          exact Own.base ((ho.setBelow (by simp; omega) _).setBelow (by simp; omega) _) (by omega)
        · have hb0 : Below w.heap.size w w1 := (by repeat (first | exact Below.refl _ _ | refine Below.drew ?_ | refine bel_dn ?_ _ | refine bel_al ?_ _ | refine bel_go ?_ hb1 | refine Below.setCell ?_ (by first | omega | (simp; done) | (simp; omega)) _ | refine Below.alloc ?_ (by first | omega | (simp; done) | (simp; omega)) _ | refine Below.trans ?_ (Below.mono hb1 (by first | omega | (simp; done) | (simp; omega)))))
          exact ((hb0.trans (hbx.mono (by omega))).setCell (by simp) _).setCell (by simp) _
    · obtain rfl : zs = [] := List.eq_nil_of_length_eq_zero (by omega)
      go_upto_region 5 with fail
      go_cut [3] (fun v3 wx => ∃ p : Nat, ∃ a' c', v3 = .pointer (some ⟨p, 0, none⟩) ∧ w1.heap.size ≤ p ∧ R2 wx p (.bool (Nm.outN (Nm.wv (!ng) []))) (.slice a' (Nm.outL (Nm.wv (!ng) [])).length c') ∧ Own wx w1.heap.size a' c' (Nm.outL (Nm.wv (!ng) [])) ∧ R2 wx (w.heap.size + 1) (.bool false) (.slice none 0 0) ∧ Below w1.heap.size w1 wx)
      case first =>
        go_region_held_law (fun w' => w'.cell? ⟨w.heap.size, 0, none⟩ = some (.bool ng) ∧ w'.cell? ⟨w.heap.size, 1, none⟩ = some (.slice a 0 cap))
          (first
            | go_keep
            | (refine keepS ?_ hbw x10 x11; (first | refine Below.setCell (Below.setCell hb3' ?_ _) ?_ _ | refine Below.setCell (Below.setCell (bel_al hb3' _) ?_ _) ?_ _) <;> (simp; try omega))
            | exact keepS hb3' hbw x10 x11
            | exact keepS (bel_al hb3' _) hbw x10 x11)
          ((first
            | (refine step_append_zero (by rfl) _ _ _ (by rfl) 74 i0 Tryd.underlying29 HI.out.1 _ a cap (by rfl) (by rfl) ?_)
            | (go_at_call 59; refine (fitted_va (!ng) _ 0 [] w1.heap.size _ (by first | exact emp1 w1.drew | exact emp2 w1.drew _ | exact emp3 w1.drew _) hz hl _ rfl).mono ?_; rintro e w3 ⟨a', c', rfl, ho3, hb3, hsame⟩; have hsz3 := hb3.size; (try simp at hsz3); have hb3' : Below w1.heap.size w1 w3 := (by first | exact bel_go (bel_al (Below.drew (Below.refl _ _)) _) hb3 | exact bel_go (bel_al (bel_al (Below.drew (Below.refl _ _)) _) _) hb3);
                (first | (have rc : R2 w3 w1.heap.size (.bool false) (.slice none 0 0) := R2.below ((R2.new w1.drew (.bool false) (.slice none 0 0) 31).alloc (.cells #[] 74)) hb3; obtain ⟨q0, q1, q2, q3⟩ := rc) | (have rc : R2 w3 (w1.heap.size + 1) (.bool false) (.slice none 0 0) := R2.below (R2.new2 w1.drew (.cells #[] 74) (.bool false) (.slice none 0 0) 31) hb3; obtain ⟨q0, q1, q2, q3⟩ := rc) | skip))))
        all_goals (go_wp2_with fail; go_meet)
        · exact ⟨w3.heap.size, a', c', rfl, by omega, R2.new w3 _ _ _, ho3.alloc _, (r1.below hb3').alloc _, bel_al hb3' _⟩
        · have hgp : ∀ g', a' = some ⟨g', 0, none⟩ → g' ≠ w1.heap.size + 1 := fun g' he => by
            rcases hsame with h | h
            · rw [h] at he; cases he
            · rw [h] at he
              have h' : w1.heap.size = g' := by simpa using he
              omega
          exact ⟨w1.heap.size + 1, a', c', rfl, by omega, R2.set ⟨q0, q1, q2, q3⟩ _ _, (ho3.setOther hgp _).setOther hgp _, ((r1.below hb3').other (by simp; omega) _).other (by simp; omega) _, (hb3'.setCell (by simp) _).setCell (by simp) _⟩
        · have hgp : ∀ g', a' = some ⟨g', 0, none⟩ → g' ≠ w1.heap.size + 1 := fun g' he => by
            rcases hsame with h | h
            · rw [h] at he; cases he
            · rw [h] at he
              have h' : w1.heap.size = g' := by simpa using he
              omega
          exact ⟨w1.heap.size + 1, a', c', rfl, by omega, R2.set ⟨q0, q1, q2, q3⟩ _ _, (ho3.setOther hgp _).setOther hgp _, ((r1.below hb3').other (by simp; omega) _).other (by simp; omega) _, (hb3'.setCell (by simp) _).setCell (by simp) _⟩
        · have hgp : ∀ g', a' = some ⟨g', 0, none⟩ → g' ≠ w1.heap.size := fun g' he => by
            rcases hsame with h | h
            · rw [h] at he; cases he
            · rw [h] at he
              have h' : w1.heap.size + 1 = g' := by simpa using he
              omega
          exact ⟨w1.heap.size, a', c', rfl, by omega, R2.set ⟨q0, q1, q2, q3⟩ _ _, (ho3.setOther hgp _).setOther hgp _, ((r1.below hb3').other (by simp; omega) _).other (by simp; omega) _, (hb3'.setCell (by simp) _).setCell (by simp) _⟩
      case rest =>
        obtain ⟨p, a', c', rfl, hp, ⟨p0, p1, pf0, pf1⟩, ho, ⟨z0, z1, zf0, zf1⟩, hbx⟩ := hcut
        have hwp : w.heap.size + 1 < p := by omega
        obtain ⟨eL, eN⟩ := HR.out
        go_wp2
        refine bodyPost_ret (v := .agg #[.bool (negN ng []), .slice a' (negL ng []).length c']) (by simp [results, Tryd.results30, go_sem, z0, z1, eL, eN]) rfl ⟨a', c', rfl, ?_, ?_⟩
        · rw [eL] at ho
          exact Own.base ((ho.setBelow (by simp; omega) _).setBelow (by simp; omega) _) (by omega)
        · have hb0 : Below w.heap.size w w1 := (by repeat (first | exact Below.refl _ _ | refine Below.drew ?_ | refine bel_dn ?_ _ | refine bel_al ?_ _ | refine bel_go ?_ hb1 | refine Below.setCell ?_ (by first | omega | (simp; done) | (simp; omega)) _ | refine Below.alloc ?_ (by first | omega | (simp; done) | (simp; omega)) _ | refine Below.trans ?_ (Below.mono hb1 (by first | omega | (simp; done) | (simp; omega)))))
          exact ((hb0.trans (hbx.mono (by omega))).setCell (by simp) _).setCell (by simp) _
end Go.Proofs.YtojcaoccjapdoaaDoor
/-
  Sums of wides: the specification's whole function.
-/
namespace Go.Proofs.YtojcaoccjapdoaaDoor
set_option linter.unusedVariables false
set_option linter.unusedSimpArgs false
open Go.RowKit Go.Deep
/-- What is answered where the arguments may not be right: x, or nothing. -/
def opL (ok : Bool) (x : Int) : List Int := if ok then Nm.outL x else []
def opN (ok : Bool) (x : Int) : Bool := ok && Nm.outN x
def opO (ok : Bool) (x : Int) : Bool := ok && Nm.fits x
theorem op_200 (ok : Bool) (x : Int) : (opL ok x).length ≤ 200 ∧ Nm.Dg (opL ok x) := by
  unfold opL; split
  · exact ⟨Nm.outL_length x, Nm.outL_dg x⟩
  · exact ⟨by simp, Nm.Dg.nil⟩
theorem op_no (x : Int) : opL false x = [] ∧ opN false x = false ∧ opO false x = false := ⟨rfl, rfl, rfl⟩
theorem op_yes (x : Int) : opL true x = Nm.outL x ∧ opN true x = Nm.outN x ∧ opO true x = Nm.fits x := ⟨rfl, rfl, rfl⟩
theorem val_200 {zs : List Int} (d : Nm.Dg zs) (h : zs.length ≤ 200) : 0 ≤ Nm.val zs ∧ Nm.val zs < Nm.pw 200 := by
  have h1 := Nm.val_lt d
  have h2 := Nm.pw_mono h
  have h3 := Nm.val_nonneg d
  exact ⟨h3, by omega⟩
theorem sum_short {na nb : Bool} {xs ys : List Int} {x : Int} (hx : x = Nm.wv na xs + Nm.wv nb ys) (dx : Nm.Dg xs) (dy : Nm.Dg ys) (lx : xs.length ≤ 200) (ly : ys.length ≤ 200) : (Nm.wl x).length ≤ 1048576 := by
  have h1 := val_200 dx lx
  have h2 := val_200 dy ly
  have h3 : Nm.pw 201 = 4294967296 * Nm.pw 200 := rfl
  have : (Nm.wl x).length ≤ 201 := by
    unfold Nm.wl
    rw [Nm.lim_length, hx]
    unfold Nm.wv
    cases na <;> cases nb <;> simp <;> omega
  omega
end Go.Proofs.YtojcaoccjapdoaaDoor
/-
  Plain mathematics, no Go: shifts as powers of 2.
-/
namespace Go.Proofs.YtojcaoccjapdoaaDoor
set_option linter.unusedVariables false
namespace Nm
/-- m times 2 to the n, cut. (m is not below 0.) -/
def shM (m n : Int) : Int := if n < 0 then m / (2 : Int) ^ (-n).toNat else m * (2 : Int) ^ n.toNat
/-- A wide's value shifted: towards 0. -/
def shV (ng : Bool) (m n : Int) : Int := if ng then - shM m n else shM m n
theorem pw_pow (n : Nat) : pw n = (2 : Int) ^ (32 * n) := by rw [pw_two]; simp
theorem shM_up {m n : Int} {wh r : Nat} (h0 : 0 ≤ n) (hq : n / 32 = (wh : Int)) (hm : n % 32 = (r : Int)) : pw wh * ((2 : Int) ^ r * m) = shM m n := by
  unfold shM
  rw [if_neg (by omega), pw_pow, show n.toNat = 32 * wh + r by omega, Int.pow_add, Int.mul_comm m, Int.mul_assoc]
theorem shM_down {m n : Int} {wh r : Nat} (h0 : n < 0) (hq : -n / 32 = (wh : Int)) (hm : -n % 32 = (r : Int)) : m / pw wh / (2 : Int) ^ r = shM m n := by
  unfold shM
  have hp := pw_pos wh
  rw [if_pos h0, show (-n).toNat = 32 * wh + r by omega, Int.pow_add, ← pw_pow, Int.ediv_ediv_of_nonneg (by omega)]
theorem shV_wv {ng : Bool} {m n : Int} {os : List Int} (h : val os = shM m n) : shV ng m n = wv ng os := by unfold shV wv; rw [h]
theorem shM_nonneg {m n : Int} (h : 0 ≤ m) : 0 ≤ shM m n := by
  unfold shM; split
  · exact Int.ediv_nonneg h (Int.le_of_lt (Int.pow_pos (by decide)))
  · exact Int.mul_nonneg h (Int.le_of_lt (Int.pow_pos (by decide)))
theorem shV_natAbs (ng : Bool) {m n : Int} (h : 0 ≤ m) : (shV ng m n).natAbs = (shM m n).toNat := by
  have := shM_nonneg (n := n) h
  unfold shV; cases ng <;> simp <;> omega
/-- How long what is shifted is. -/
theorem sh_len {m n : Int} {k : Nat} (ng : Bool) (h0 : 0 ≤ m) (h : m < pw k) (hn : n ≤ 10000) : (wl (shV ng m n)).length ≤ k + 313 := by
  unfold wl
  rw [lim_length, shV_natAbs ng h0]
  have hs := shM_nonneg (n := n) h0
  have h1 : shM m n < pw (k + 313) := by
    unfold shM
    have hp1 := pw_pos k
    have hp2 := pw_pos 313
    have hpa : pw (k + 313) = pw k * pw 313 := pw_add k 313
    split
    · have hd : m / (2 : Int) ^ (-n).toNat ≤ m := Int.ediv_le_self _ h0
      have : pw k ≤ pw (k + 313) := pw_mono (by omega)
      omega
    · rename_i hc
      have hle : (2 : Int) ^ n.toNat ≤ pw 313 := by
        rw [pw_pow]
        have := Nat.pow_le_pow_right (n := 2) (by decide) (show n.toNat ≤ 32 * 313 by omega)
        have h2 : ∀ k : Nat, ((2 ^ k : Nat) : Int) = (2 : Int) ^ k := fun k => by simp
        rw [← h2, ← h2]; exact Int.ofNat_le.2 this
      have hpp : (0 : Int) < (2 : Int) ^ n.toNat := Int.pow_pos (by decide)
      have e1 : m * (2 : Int) ^ n.toNat < pw k * (2 : Int) ^ n.toNat := Int.mul_lt_mul_of_pos_right h hpp
      have e2 : pw k * (2 : Int) ^ n.toNat ≤ pw k * pw 313 := Int.mul_le_mul_of_nonneg_left hle (by omega)
      omega
  omega
end Nm
end Go.Proofs.YtojcaoccjapdoaaDoor
/-
  Wides shifted: the specification's whole function.
-/
namespace Go.Proofs.YtojcaoccjapdoaaDoor
set_option linter.unusedVariables false
set_option linter.unusedSimpArgs false
open Go.RowKit Go.Deep
theorem parts32 (n : Int) (h : 0 ≤ n) (h1 : n ≤ 1000000) : ∃ wh r : Nat, n / 32 = (wh : Int) ∧ n % 32 = (r : Int) ∧ wh ≤ 400000 ∧ r < 32 :=
  ⟨(n / 32).toNat, (n % 32).toNat, by omega, by omega, by omega, by omega⟩
theorem l1shift_any (ng : Bool) (a : Option Addr) (cap : Nat) (xs : List Int) (n : Int) (w : World) (hx : Sl .u32 w (.slice a xs.length cap) xs) (dx : Nm.Dg xs) (hl : xs.length ≤ 400000) (h0 : -1000000 ≤ n) (h1 : n ≤ 1000000) (v : Int) (hv : v = Nm.shV ng (Nm.val xs) n) :
    Calls Tryd.prog 125 #[.agg #[.bool ng, .slice a xs.length cap], .int .i64 n] w fun e w' => ∃ a' c', e = .returned (.agg #[.bool (Nm.wn v), .slice a' (Nm.wl v).length c']) ∧ Own w' w.heap.size a' c' (Nm.wl v) ∧ Below w.heap.size w w' := by
  by_cases hn : 0 ≤ n
  · obtain ⟨wh, r, hq, hm, hw, hr⟩ := parts32 n hn h1
    exact l1up_any ng a cap xs n wh r w hx dx hl hw hr hn h1 hq hm v (fun os h => by rw [hv]; exact Nm.shV_wv (h.trans (Nm.shM_up hn hq hm)))
  · obtain ⟨m, rfl⟩ : ∃ m, n = -m := ⟨-n, by omega⟩
    obtain ⟨wh, r, hq, hm, hw, hr⟩ := parts32 m (by omega) (by omega)
    have hd : Nm.val (Nm.sd ((2 : Int) ^ r) (xs.drop wh)) = Nm.shM (Nm.val xs) (-m) := (sd_drop_val dx wh r hr).trans (Nm.shM_down (by omega) (by rw [Int.neg_neg]; exact hq) (by rw [Int.neg_neg]; exact hm))
    by_cases hc : xs.length ≤ wh
    · have hz : Nm.shV ng (Nm.val xs) (-m) = 0 := by
        rw [List.drop_eq_nil_of_le hc] at hd
        unfold Nm.shV; rw [← hd]; simp [Nm.sd, Nm.val]
      rw [hv, hz]
      have e1 : Nm.wl 0 = [] := Nm.lim_zero
      have e2 : Nm.wn 0 = false := by decide
      rw [e1, e2]
      exact (l1down_no ng a cap xs m wh w hx hl hw (by omega) (by omega) hq hc).mono fun e w' ⟨he, hb⟩ => ⟨none, 0, by rw [he]; rfl, Own.nil _ _, hb⟩
    · exact l1down_yes ng a cap xs m wh r w hx dx hl hw hr (by omega) (by omega) hq hm hc v (by rw [hv]; exact Nm.shV_wv hd)
/-- Whether a number lies between two. -/
def inZ (n lo hi : Int) : Bool := decide (lo ≤ n) && decide (n ≤ hi)
set_option maxHeartbeats 400000 in
theorem in_any (n lo hi : Int) (w : World) :
    Calls Tryd.prog 92 #[.int .i64 n, .int .i64 lo, .int .i64 hi] w fun e w' => e = .returned (.bool (inZ n lo hi)) ∧ w' = w := by
  by_cases h1 : lo ≤ n
  · by_cases h2 : n ≤ hi
    · have HR : Hid (inZ n lo hi = true) := hid (by simp [inZ, h1, h2])
      go_enter Tryd.func92, Tryd.ntmps92
      go_wp2
      go_ret
      exact ⟨ret_bool HR.out.symm, rfl⟩
    · have HR : Hid (inZ n lo hi = false) := hid (by simp [inZ, h1, h2])
      go_enter Tryd.func92, Tryd.ntmps92
      go_wp2
      go_ret
      exact ⟨ret_bool HR.out.symm, rfl⟩
  · have HR : Hid (inZ n lo hi = false) := hid (by simp [inZ, h1])
    go_enter Tryd.func92, Tryd.ntmps92
    go_wp2
    go_ret
    exact ⟨ret_bool HR.out.symm, rfl⟩
theorem inZ_yes {n lo hi : Int} (h : inZ n lo hi = true) : lo ≤ n ∧ n ≤ hi := by simpa [inZ] using h
end Go.Proofs.YtojcaoccjapdoaaDoor
