/-
  What is needed of AppendZ, Nums, WideL, WideK, FloatO, EO, PX, LH, RX, WI, AW.
-/
import Derived.Test.YtmcflggionkhlaaGreatDoorF43
import Derived.Test.YtmcflggionkhlaaGreatDoorF46
set_option maxHeartbeats 16000000
set_option maxRecDepth 1000000
namespace Go.Proofs.YtmcflggionkhlaaGreatDoor
set_option linter.unusedVariables false
set_option linter.unusedSimpArgs false
open Go.RowKit
theorem run_append_zero {P : Program} (w : World) (t ty e : TypeId) (i : TypeInfo) (ht : P.underlying t = some (.slice e)) (hi : P.info? e = some i) (g a : Option Addr) (cap : Nat) :
    (Builtin.append_ #[t, t] ty #[.slice g 0 0, .slice a 0 cap]).run P w = .ok (.slice g 0 0) w := by
  cases a <;> cases g <;> simp [Builtin.append_, run_underlying ht, sizeOf, typeInfo, hi, Builtin.lenOf, Builtin.firstCells, storeCells, go_sem, loadCellsFrom]
theorem step_append_zero {P : Program} {ops : Array Oper} {o : Oper} {a : Act} {w : World} {K : Act → World → Prop} {Q : Exit → Act → World → Prop} {E : Prop} (hgd : o.guard = none) (s x : Operand) (t : TypeId)
    (ho : o.op = .call { callee := .builtin .append, args := #[s, x], argTypes := #[t, t] })
    (e : TypeId) (i : TypeInfo) (ht : P.underlying t = some (.slice e)) (hi : P.info? e = some i) (g b : Option Addr) (cap : Nat) (hs : a.eval s = .slice g 0 0) (hx : a.eval x = .slice b 0 cap)
    (h : K (a.put o.dst (.slice g 0 0)) w) :
    if Region.wanted o (yielded ops a.tmps) = true then Oper.wp P o a w K Q else E := by
  have hw : Region.wanted o (yielded ops a.tmps) = true := by simp [Region.wanted, hgd]
  rw [if_pos hw]
  have hr := run_append_zero (P := P) w t o.type e i ht hi g b cap
  unfold Oper.wp execOp
  simp only [ho, resolve, invoke, builtin, Sem.run_bind, Sem.run_pure, Result.andThen_ok, List.map_toArray, List.map_cons, List.map_nil, hs, hx, hr]
  exact h
end Go.Proofs.YtmcflggionkhlaaGreatDoor
namespace Go.Proofs.YtmcflggionkhlaaGreatDoor
namespace Nm
theorem trim_eq {l : List Int} (h : Dg l) (k : Nz l) : trim l = l := val_inj (trim_dg h) h (trim_nz l) k (trim_val l)

end Nm
set_option linter.unusedVariables false
set_option linter.unusedSimpArgs false
open Go.RowKit Go.Deep
theorem fitted_va (ng : Bool) (a : Option Addr) (cap : Nat) (zs : List Int) (B : Nat) (w : World) (ho : Own w B a cap zs) (hz : Nm.Dg zs) (hl : zs.length ≤ 1048576) (x : Int) (hx : x = Nm.wv ng zs) :
    Calls Tryz.prog 68 #[.bool ng, .slice a zs.length cap] w fun e w' => ∃ a' c', e = .returned (.tuple #[.agg #[.bool (Nm.outN x), .slice a' (Nm.outL x).length c'], .bool (Nm.fits x)]) ∧ Own w' B a' c' (Nm.outL x) ∧ Below w.heap.size w w' ∧ (a' = none ∨ a' = a) := by
  obtain ⟨e1, e2, e3⟩ := fit_out ng hz
  subst hx
  rw [← e1, ← e2, ← e3]
  exact fitted_at ng a cap zs B w ho hz hl
/-- 0 less a wide: its limbs and its sign. -/
def negL (ng : Bool) (zs : List Int) : List Int := if okB ng zs then Nm.wl (Nm.wv (!ng) zs) else []
def negN (ng : Bool) (zs : List Int) : Bool := if okB ng zs then Nm.wn (Nm.wv (!ng) zs) else false
theorem ok_fits {ng : Bool} {zs : List Int} (hd : Nm.Dg zs) (h : okB ng zs = true) (m : Bool) : Nm.fits (Nm.wv m zs) = true := by
  obtain ⟨h1, h2⟩ := okB_nz h
  unfold Nm.fits
  rw [Nm.wl_wv m hd, Nm.trim_eq hd h1]; simpa using h2

theorem sl_news {W : World} {b off cap : Nat} {zs : List Int} (h : Sl .u32 W (.slice (some ⟨b, off, none⟩) zs.length cap) zs) : ∀ j u, (zs.map (Value.int .u32))[j]? = some u → W.cell? ((⟨b, off, none⟩ : Addr).add j) = some u := fun j u hj => by
  have hjn : j < zs.length := by
    rcases Nat.lt_or_ge j zs.length with h | h
    · exact h
    · rw [List.getElem?_eq_none (by simpa using h)] at hj; cases hj
  obtain ⟨a, c, he, _, _, h3⟩ := h
  rcases h3 with h3 | ⟨b', off', ha, hc⟩
  · subst h3; simp at hjn
  · cases he
    cases ha
    have hju : u = .int .u32 (zs.getD j 0) := by
      rw [List.getElem?_map] at hj
      rw [List.getD_eq_getElem?_getD]
      cases hzj : zs[j]? with
      | none => rw [hzj] at hj; cases hj
      | some q => rw [hzj] at hj; simp at hj ⊢; exact hj.symm
    have e : (⟨b, off, none⟩ : Addr).add j = ⟨b, off + j, none⟩ := by unfold Addr.add; split <;> simp_all
    rw [e, hju]
    exact hc j hjn
theorem own_empty (W : World) {B : Nat} (hB : B ≤ W.heap.size) : (W.alloc (.cells #[] 89)).ownsRow B 89 1 (.slice (some ⟨W.heap.size, 0, none⟩) 0 0) 0 [] := by
  have := World.ownsRow_made (base := B) (e := 89) (size := 1) W #[] 0 (by simpa using hB) (by decide) rfl
  simpa using this
theorem emp1 (w1 : World) : (w1.alloc (.cells #[] 89)).ownsRow w1.heap.size 89 1 (.slice (some ⟨w1.heap.size, 0, none⟩) 0 0) 0 [] := own_empty w1 (Nat.le_refl _)
theorem emp2 (w1 : World) (o : Obj) : ((w1.alloc o).alloc (.cells #[] 89)).ownsRow w1.heap.size 89 1 (.slice (some ⟨w1.heap.size + 1, 0, none⟩) 0 0) 0 [] := by
  have := own_empty (w1.alloc o) (B := w1.heap.size) (by simp)
  simpa using this
theorem emp3 (w1 : World) (o : Obj) : ((w1.alloc (.cells #[] 89)).alloc o).ownsRow w1.heap.size 89 1 (.slice (some ⟨w1.heap.size, 0, none⟩) 0 0) 0 [] := (emp1 w1).alloc o
theorem grow_below {w1 W w2 : World} {row : Option Nat} (h : Below w1.heap.size w1 W) (hg : W.grownBy w2 row) (hge : ∀ k, row = some k → w1.heap.size ≤ k) : Below w1.heap.size w1 w2 := h.grown hg h.size hge
theorem keepS {w1 W : World} {B : Nat} {u v : Value} (hb : Below w1.heap.size w1 W) (hbw : B < w1.heap.size) (x10 : w1.cell? ⟨B, 0, none⟩ = some u) (x11 : w1.cell? ⟨B, 1, none⟩ = some v) : W.cell? ⟨B, 0, none⟩ = some u ∧ W.cell? ⟨B, 1, none⟩ = some v :=
  ⟨(hb.cell (p := ⟨B, 0, none⟩) hbw).trans x10, (hb.cell (p := ⟨B, 1, none⟩) hbw).trans x11⟩
theorem boxA {w1 w2 : World} {v0 v1 : Value} {t : TypeId} {o : Obj} (h : ((w1.alloc (.cells #[v0, v1] t)).alloc o).grownBy w2 (some (w1.heap.size + 1))) : R2 w2 w1.heap.size v0 v1 :=
  R2.grown ((R2.new w1 v0 v1 t).alloc o) h (by omega)
theorem boxB {w1 w2 : World} {v0 v1 : Value} {t : TypeId} {o : Obj} (h : ((w1.alloc o).alloc (.cells #[v0, v1] t)).grownBy w2 (some w1.heap.size)) : R2 w2 (w1.heap.size + 1) v0 v1 :=
  R2.grown (R2.new2 w1 o v0 v1 t) h (by omega)
attribute [local go_sem ↓] Go.wp_at_zero Go.wp_at_succ
theorem wneg_impl (ng : Bool) (a : Option Addr) (cap : Nat) (zs : List Int) (w : World) (hs : Sl .u32 w (.slice a zs.length cap) zs) (hz : Nm.Dg zs) (hl : zs.length ≤ 1048576) :
    Calls Tryz.prog 73 #[.agg #[.bool ng, .slice a zs.length cap]] w fun e w' => ∃ a' c', e = .returned (.agg #[.bool (negN ng zs), .slice a' (negL ng zs).length c']) ∧ Own w' w.heap.size a' c' (negL ng zs) ∧ Below w.heap.size w w' := by
  have hl' : zs.length ≤ 140737488355328 := by omega
  cases h1 : okB ng zs
  · have HR : Hid (negN ng zs = false ∧ negL ng zs = []) := hid (by unfold negN negL; rw [h1]; exact ⟨rfl, rfl⟩)
    go_enter Tryz.func73, Tryz.ntmps73
    go_wp2_with fail
    refine (ok_impl ng a cap zs _ ((hs.alloc _).alloc _) hl').mono ?_
    rintro e w1 ⟨rfl, hb1⟩
    obtain ⟨r10, r11, f10, f11⟩ := (R2.new2 w _ (.bool false) (.slice none 0 0) 31).below hb1
    go_wp2
    refine bodyPost_ret (v := .agg #[.bool false, .slice none 0 0]) (by simp [results, Tryz.results73, go_sem, r10, r11]) rfl ⟨none, 0, ?_, ?_, (by repeat (first | exact bz0 _ _ | refine bz1 ?_ | refine bz2 ?_ _ | refine bz3 ?_ _ | refine bz4 ?_ hb1 | refine bz5 ?_ _ | refine bz6 ?_ _ | refine bz7 ?_ hb1))⟩
    · rw [HR.out.1, HR.out.2]; rfl
    · rw [HR.out.2]; exact Own.nil _ _
  · have HR : Hid (Nm.outL (Nm.wv (!ng) zs) = negL ng zs ∧ Nm.outN (Nm.wv (!ng) zs) = negN ng zs) := hid (by unfold negN negL; rw [h1]; exact out_fits (ok_fits hz h1 _))
    obtain ⟨i0, hi, hz0, hz1, hz2⟩ := info_parts info32
    have HI := hid (And.intro hi (And.intro hz0 (And.intro hz1 hz2)))
    clear hi hz0 hz1 hz2
    go_enter Tryz.func73, Tryz.ntmps73
    go_wp2_with fail
    refine (ok_impl ng a cap zs _ ((hs.alloc _).alloc _) hl').mono ?_
    rintro e w1 ⟨rfl, hb1⟩
    have r1 := (R2.new2 w (.cells #[.bool ng, .slice a zs.length cap] 31) (.bool false) (.slice none 0 0) 31).below hb1
    obtain ⟨x10, x11⟩ := ((Box.new w (.bool ng) (.slice a zs.length cap) 31).alloc _).below hb1
    have s1 := ((hs.alloc _).alloc _).below hb1
    have hbw1 : w.heap.size + 1 < w1.heap.size := World.block_lt_of_cell? w1 _ r1.c0
    have hbw : w.heap.size < w1.heap.size := World.block_lt_of_cell? w1 _ x10
    have hone : ∀ u ∈ zs.map (Value.int .u32), u.oneCell' = true := fun u hu => by
      obtain ⟨q, _, rfl⟩ := List.mem_map.1 hu; rfl
    have HO := hid hone
    clear hone
    by_cases hpos : 0 < zs.length
    · obtain ⟨b, off, rfl⟩ : ∃ b off, a = some ⟨b, off, none⟩ := by
        obtain ⟨a', c', he, _, _, h3⟩ := s1
        rcases h3 with h3 | ⟨b', off', ha, hc⟩
        · subst h3; simp at hpos
        · cases he; exact ⟨b', off', ha⟩
      go_upto_region 5 with fail
      have s1' : Sl .u32 w1 (.slice (some ⟨b, off, none⟩) zs.length cap) zs := s1
      go_cut [3] (fun v3 wx => ∃ p : Nat, ∃ a' c', v3 = .pointer (some ⟨p, 0, none⟩) ∧ w1.heap.size ≤ p ∧ R2 wx p (.bool (Nm.outN (Nm.wv (!ng) zs))) (.slice a' (Nm.outL (Nm.wv (!ng) zs)).length c') ∧ Own wx w1.heap.size a' c' (Nm.outL (Nm.wv (!ng) zs)) ∧ R2 wx (w.heap.size + 1) (.bool false) (.slice none 0 0) ∧ Below w1.heap.size w1 wx)
      case first =>
        go_region_held_law (fun w' => w'.cell? ⟨w.heap.size, 0, none⟩ = some (.bool ng) ∧ w'.cell? ⟨w.heap.size, 1, none⟩ = some (.slice (some ⟨b, off, none⟩) zs.length cap))
          (first
            | go_keep
            | (refine keepS ?_ hbw x10 x11; (first | refine Below.setCell (Below.setCell hb3' ?_ _) ?_ _ | refine Below.setCell (Below.setCell (bel_al hb3' _) ?_ _) ?_ _) <;> (simp; try omega))
            | exact keepS hb3' hbw x10 x11
            | exact keepS hb2 hbw x10 x11
            | exact keepS (bel_al hb3' _) hbw x10 x11
            | exact keepS (bel_al hb2 _) hbw x10 x11)
          ((first
            | (refine step_append_lies _ (by rfl) _ _ _ (by rfl) w1.heap.size 89 i0 (.int .u32 0) 1 4 Tryz.underlying29 HI.out.1 HI.out.2.1 HI.out.2.2.1 HI.out.2.2.2 rfl (by decide) _ 0 [] (by rfl) (by first | exact emp1 w1.drew | exact emp2 w1.drew _ | exact emp3 w1.drew _) ⟨b, off, none⟩ zs.length cap (zs.map (Value.int .u32)) (by rfl) (by simp) (by first | exact sl_news (Sl.alloc (Sl.drew s1) _) | exact sl_news (Sl.alloc (Sl.alloc (Sl.drew s1) _) _)) HO.out hpos (by unfold maxLen; omega) (by omega) (by first | omega | (simp; done) | (simp; omega)) _ rfl ?_; intro g cap' w2 hown1 hgrow hat hlt; have ho2 : Own w2 w1.heap.size (some ⟨g, 0, none⟩) cap' zs := (by simpa [Own] using hown1); have hsz := hgrow.size; simp at hsz; have hb2 : Below w1.heap.size w1 w2 := grow_below (by first | exact bel_al (Below.drew (Below.refl _ _)) _ | exact bel_al (bel_al (Below.drew (Below.refl _ _)) _) _) hgrow (fun k hk => by first | (have h' : w1.heap.size = k := Option.some.inj hk; omega) | (have h' : w1.heap.size + 1 = k := Option.some.inj hk; omega) | (have h' : (w1.alloc _).heap.size = k := Option.some.inj hk; simp at h'; omega)); (first | (have rb : R2 w2 w1.heap.size (.bool false) (.slice none 0 0) := boxA (w1 := w1.drew) hgrow) | (have rb : R2 w2 (w1.heap.size + 1) (.bool false) (.slice none 0 0) := boxB (w1 := w1.drew) hgrow) | skip))
            | (go_at_call 68; refine (fitted_va (!ng) (some ⟨g, 0, none⟩) cap' zs w1.heap.size _ (by first | exact ho2 | exact ho2.alloc _) hz hl _ rfl).mono ?_; rintro e w3 ⟨a', c', rfl, ho3, hb3, hsame⟩; have hsz3 := hb3.size; (try simp at hsz3); have hb3' : Below w1.heap.size w1 w3 := (by first | exact bel_go hb2 hb3 | exact bel_go (bel_al hb2 _) hb3); (first | (have rc := R2.below rb hb3; obtain ⟨q0, q1, q2, q3⟩ := rc) | (have rc := R2.below (R2.new w2 (.bool false) (.slice none 0 0) 31) hb3; obtain ⟨q0, q1, q2, q3⟩ := rc) | skip))))
        all_goals (go_wp2_with fail; go_meet)
        · exact ⟨w3.heap.size, a', c', rfl, by omega, R2.new w3 _ _ _, ho3.alloc _, (r1.below hb3').alloc _, bel_al hb3' _⟩
        · have hgp : ∀ g', a' = some ⟨g', 0, none⟩ → g' ≠ w2.heap.size := fun g' he => by
            rcases hsame with h | h
            · rw [h] at he; cases he
            · rw [h] at he; cases he; omega
          exact ⟨w2.heap.size, a', c', rfl, by omega, R2.set ⟨q0, q1, q2, q3⟩ _ _, (ho3.setOther hgp _).setOther hgp _, ((r1.below hb3').other (by simp; omega) _).other (by simp; omega) _, (hb3'.setCell (by simp; omega) _).setCell (by simp; omega) _⟩
        · have hgq : g ≠ w1.heap.size + 1 := by
            rcases hat with h | h
            · have h' : w1.heap.size = g := Option.some.inj h
              omega
            · simp at h; omega
          have hgp : ∀ g', a' = some ⟨g', 0, none⟩ → g' ≠ w1.heap.size + 1 := fun g' he => by
            rcases hsame with h | h
            · rw [h] at he; cases he
            · rw [h] at he; cases he; exact hgq
          exact ⟨w1.heap.size + 1, a', c', rfl, by omega, R2.set ⟨q0, q1, q2, q3⟩ _ _, (ho3.setOther hgp _).setOther hgp _, ((r1.below hb3').other (by simp; omega) _).other (by simp; omega) _, (hb3'.setCell (by simp) _).setCell (by simp) _⟩
        · have hgq : g ≠ w1.heap.size := by
            rcases hat with h | h
            · have h' : w1.heap.size + 1 = g := Option.some.inj h
              omega
            · simp at h; omega
          have hgp : ∀ g', a' = some ⟨g', 0, none⟩ → g' ≠ w1.heap.size := fun g' he => by
            rcases hsame with h | h
            · rw [h] at he; cases he
            · rw [h] at he; cases he; exact hgq
          exact ⟨w1.heap.size, a', c', rfl, by omega, R2.set ⟨q0, q1, q2, q3⟩ _ _, (ho3.setOther hgp _).setOther hgp _, ((r1.below hb3').other (by simp; omega) _).other (by simp; omega) _, (hb3'.setCell (by simp) _).setCell (by simp) _⟩
      case rest =>
        obtain ⟨p, a', c', rfl, hp, ⟨p0, p1, pf0, pf1⟩, ho, ⟨z0, z1, zf0, zf1⟩, hbx⟩ := hcut
        have hwp : w.heap.size + 1 < p := by omega
        obtain ⟨eL, eN⟩ := HR.out
        go_wp2
        refine bodyPost_ret (v := .agg #[.bool (negN ng zs), .slice a' (negL ng zs).length c']) (by simp [results, Tryz.results73, go_sem, z0, z1, eL, eN]) rfl ⟨a', c', rfl, ?_, ?_⟩
        · rw [eL] at ho
          exact Own.base ((ho.setBelow (by simp; omega) _).setBelow (by simp; omega) _) (by omega)
        · have hb0 : Below w.heap.size w w1 := (by repeat (first | exact bz0 _ _ | refine bz1 ?_ | refine bz2 ?_ _ | refine bz3 ?_ _ | refine bz4 ?_ hb1 | refine bz5 ?_ _ | refine bz6 ?_ _ | refine bz7 ?_ hb1))
          exact ((hb0.trans (hbx.mono (by omega))).setCell (by simp) _).setCell (by simp) _
    · obtain rfl : zs = [] := List.eq_nil_of_length_eq_zero (by omega)
      go_upto_region 5 with fail
      go_cut [3] (fun v3 wx => ∃ p : Nat, ∃ a' c', v3 = .pointer (some ⟨p, 0, none⟩) ∧ w1.heap.size ≤ p ∧ R2 wx p (.bool (Nm.outN (Nm.wv (!ng) []))) (.slice a' (Nm.outL (Nm.wv (!ng) [])).length c') ∧ Own wx w1.heap.size a' c' (Nm.outL (Nm.wv (!ng) [])) ∧ R2 wx (w.heap.size + 1) (.bool false) (.slice none 0 0) ∧ Below w1.heap.size w1 wx)
      case first =>
        go_region_held_law (fun w' => w'.cell? ⟨w.heap.size, 0, none⟩ = some (.bool ng) ∧ w'.cell? ⟨w.heap.size, 1, none⟩ = some (.slice a 0 cap))
          (first
            | go_keep
            | (refine keepS ?_ hbw x10 x11; (first | refine Below.setCell (Below.setCell hb3' ?_ _) ?_ _ | refine Below.setCell (Below.setCell (bel_al hb3' _) ?_ _) ?_ _) <;> (simp; try omega))
            | exact keepS hb3' hbw x10 x11
            | exact keepS (bel_al hb3' _) hbw x10 x11)
          ((first
            | (refine step_append_zero (by rfl) _ _ _ (by rfl) 89 i0 Tryz.underlying29 HI.out.1 _ a cap (by rfl) (by rfl) ?_)
            | (go_at_call 68; refine (fitted_va (!ng) _ 0 [] w1.heap.size _ (by first | exact emp1 w1.drew | exact emp2 w1.drew _ | exact emp3 w1.drew _) hz hl _ rfl).mono ?_; rintro e w3 ⟨a', c', rfl, ho3, hb3, hsame⟩; have hsz3 := hb3.size; (try simp at hsz3); have hb3' : Below w1.heap.size w1 w3 := (by first | exact bel_go (bel_al (Below.drew (Below.refl _ _)) _) hb3 | exact bel_go (bel_al (bel_al (Below.drew (Below.refl _ _)) _) _) hb3);
                (first | (have rc : R2 w3 w1.heap.size (.bool false) (.slice none 0 0) := R2.below ((R2.new w1.drew (.bool false) (.slice none 0 0) 31).alloc (.cells #[] 89)) hb3; obtain ⟨q0, q1, q2, q3⟩ := rc) | (have rc : R2 w3 (w1.heap.size + 1) (.bool false) (.slice none 0 0) := R2.below (R2.new2 w1.drew (.cells #[] 89) (.bool false) (.slice none 0 0) 31) hb3; obtain ⟨q0, q1, q2, q3⟩ := rc) | skip))))
        all_goals (go_wp2_with fail; go_meet)
        · exact ⟨w3.heap.size, a', c', rfl, by omega, R2.new w3 _ _ _, ho3.alloc _, (r1.below hb3').alloc _, bel_al hb3' _⟩
        · have hgp : ∀ g', a' = some ⟨g', 0, none⟩ → g' ≠ w1.heap.size + 1 := fun g' he => by
            rcases hsame with h | h
            · rw [h] at he; cases he
            · rw [h] at he
              have h' : w1.heap.size = g' := by simpa using he
              omega
          exact ⟨w1.heap.size + 1, a', c', rfl, by omega, R2.set ⟨q0, q1, q2, q3⟩ _ _, (ho3.setOther hgp _).setOther hgp _, ((r1.below hb3').other (by simp; omega) _).other (by simp; omega) _, (hb3'.setCell (by simp) _).setCell (by simp) _⟩
        · have hgp : ∀ g', a' = some ⟨g', 0, none⟩ → g' ≠ w1.heap.size + 1 := fun g' he => by
            rcases hsame with h | h
            · rw [h] at he; cases he
            · rw [h] at he
              have h' : w1.heap.size = g' := by simpa using he
              omega
          exact ⟨w1.heap.size + 1, a', c', rfl, by omega, R2.set ⟨q0, q1, q2, q3⟩ _ _, (ho3.setOther hgp _).setOther hgp _, ((r1.below hb3').other (by simp; omega) _).other (by simp; omega) _, (hb3'.setCell (by simp) _).setCell (by simp) _⟩
        · have hgp : ∀ g', a' = some ⟨g', 0, none⟩ → g' ≠ w1.heap.size := fun g' he => by
            rcases hsame with h | h
            · rw [h] at he; cases he
            · rw [h] at he
              have h' : w1.heap.size + 1 = g' := by simpa using he
              omega
          exact ⟨w1.heap.size, a', c', rfl, by omega, R2.set ⟨q0, q1, q2, q3⟩ _ _, (ho3.setOther hgp _).setOther hgp _, ((r1.below hb3').other (by simp; omega) _).other (by simp; omega) _, (hb3'.setCell (by simp) _).setCell (by simp) _⟩
      case rest =>
        obtain ⟨p, a', c', rfl, hp, ⟨p0, p1, pf0, pf1⟩, ho, ⟨z0, z1, zf0, zf1⟩, hbx⟩ := hcut
        have hwp : w.heap.size + 1 < p := by omega
        obtain ⟨eL, eN⟩ := HR.out
        go_wp2
        refine bodyPost_ret (v := .agg #[.bool (negN ng []), .slice a' (negL ng []).length c']) (by simp [results, Tryz.results73, go_sem, z0, z1, eL, eN]) rfl ⟨a', c', rfl, ?_, ?_⟩
        · rw [eL] at ho
          exact Own.base ((ho.setBelow (by simp; omega) _).setBelow (by simp; omega) _) (by omega)
        · have hb0 : Below w.heap.size w w1 := (by repeat (first | exact bz0 _ _ | refine bz1 ?_ | refine bz2 ?_ _ | refine bz3 ?_ _ | refine bz4 ?_ hb1 | refine bz5 ?_ _ | refine bz6 ?_ _ | refine bz7 ?_ hb1))
          exact ((hb0.trans (hbx.mono (by omega))).setCell (by simp) _).setCell (by simp) _
end Go.Proofs.YtmcflggionkhlaaGreatDoor
namespace Go.Proofs.YtmcflggionkhlaaGreatDoor
set_option linter.unusedVariables false
set_option linter.unusedSimpArgs false
open Go.RowKit
theorem spec_l2Parts (fm x : Int) (w : World) (hf : finB fm x = true) (h0 : 0 ≤ x) (h1 : x < 18446744073709551616) :
    Calls Tryz.prog 113 #[.int .i64 fm, .int .u64 x] w fun e w' => e = .returned (.agg #[.bool (pS fm x), .int .i64 (pM fm x), .int .i64 (pE fm x)]) ∧ Below w.heap.size w w' := by
  have ho : okF fm x = true := by
    cases ho : okF fm x
    · rw [fin_no ho] at hf; cases hf
    · rfl
  rcases okF_cases ho with ⟨rfl, hx⟩ | rfl
  · refine (spec_l2Parts32 x w h0 hx).mono ?_
    rintro e w1 ⟨rfl, hb1⟩
    exact ⟨ret_p3 (by unfold pS; rw [hf]; rfl) (by unfold pM; rw [hf]; rfl) (by unfold pE; rw [hf]; rfl), hb1⟩
  · refine (spec_l2Parts64 x w h0 h1).mono ?_
    rintro e w1 ⟨rfl, hb1⟩
    exact ⟨ret_p3 (by unfold pS; rw [hf]; rfl) (by unfold pM; rw [hf]; rfl) (by unfold pE; rw [hf]; rfl), hb1⟩
theorem spec_parts (fm x : Int) (w : World) (h0 : 0 ≤ x) (h1 : x < 18446744073709551616) :
    Calls Tryz.prog 121 #[.int .i64 fm, .int .u64 x] w fun e w' => e = .returned (.tuple #[.agg #[.bool (pS fm x), .int .i64 (pM fm x), .int .i64 (pE fm x)], .bool (finB fm x)]) ∧ Below w.heap.size w w' := by
  cases hf : finB fm x
  · have HS : Hid (false = pS fm x) := hid (by unfold pS; rw [hf]; rfl)
    have HM : Hid (0 = pM fm x) := hid (by unfold pM; rw [hf]; rfl)
    have HE : Hid (0 = pE fm x) := hid (by unfold pE; rw [hf]; rfl)
    go_enter Tryz.func121, Tryz.ntmps121
    go_wp2_with fail
    refine (spec_fin fm x _ h0 h1).mono ?_
    rintro e w1 ⟨rfl, hb1⟩
    obtain ⟨rc0, rc1, rc2, rf0, rf1, rf2⟩ := (R3.new w (.bool false) (.int .i64 0) (.int .i64 0) 77).below hb1
    go_wp2
    exact bodyPost_ret (v := .tuple #[.agg #[.bool false, .int .i64 0, .int .i64 0], .bool false]) (by simp [results, Tryz.results121, go_sem, rc0, rc1, rc2]) rfl ⟨ret_p4 HS.out HM.out HE.out rfl, (by repeat (first | exact bz0 _ _ | refine bz1 ?_ | refine bz2 ?_ _ | refine bz3 ?_ _ | refine bz4 ?_ hb1 | refine bz5 ?_ _ | refine bz6 ?_ _ | refine bz7 ?_ hb1))⟩
  · have HF := hid hf
    go_enter Tryz.func121, Tryz.ntmps121
    go_wp2_with fail
    refine (spec_fin fm x _ h0 h1).mono ?_
    rintro e w1 ⟨rfl, hb1⟩
    have r1 := (R3.new w (.bool false) (.int .i64 0) (.int .i64 0) 77).below hb1
    go_wp2_with fail
    refine (spec_l2Parts fm x _ HF.out h0 h1).mono ?_
    rintro e w2 ⟨rfl, hb2⟩
    obtain ⟨rc0, rc1, rc2, rf0, rf1, rf2⟩ := r1.below hb2
    go_wp2
    exact bodyPost_ret (v := .tuple #[.agg #[.bool (pS fm x), .int .i64 (pM fm x), .int .i64 (pE fm x)], .bool true]) (by simp [results, Tryz.results121, go_sem, rc0, rc1, rc2]) rfl ⟨rfl, (by repeat (first | exact bz0 _ _ | refine bz1 ?_ | refine bz2 ?_ _ | refine bz3 ?_ _ | refine bz4 ?_ hb2 | refine bz4 ?_ hb1 | refine bz5 ?_ _ | refine bz6 ?_ _ | refine bz7 ?_ hb2 | refine bz7 ?_ hb1))⟩
end Go.Proofs.YtmcflggionkhlaaGreatDoor
namespace Go.Proofs.YtmcflggionkhlaaGreatDoor
set_option linter.unusedVariables false
set_option linter.unusedSimpArgs false
open Go.RowKit Go.Deep
theorem eneg_impl (z : Int) (a : Option Addr) (cap : Nat) (w : World) (hs : Sl .u32 w (.slice a (Nm.wl z).length cap) (Nm.wl z)) (hl : (Nm.wl z).length ≤ 200) :
    Calls Tryz.prog 73 #[.agg #[.bool (Nm.wn z), .slice a (Nm.wl z).length cap]] w fun e w' => ∃ a' c', e = .returned (.agg #[.bool (Nm.wn (-z)), .slice a' (Nm.wl (-z)).length c']) ∧ Own w' w.heap.size a' c' (Nm.wl (-z)) ∧ Below w.heap.size w w' := by
  have h := wneg_impl (Nm.wn z) a cap (Nm.wl z) w hs (Nm.wl_dg _) (by omega)
  have e : Nm.wv (!Nm.wn z) (Nm.wl z) = -z := by
    have := Nm.wv_out z
    unfold Nm.wv at this ⊢
    cases hn : Nm.wn z <;> rw [hn] at this <;> simp at this ⊢ <;> omega
  unfold negN negL at h
  rw [okB_wl hl, if_pos rfl, if_pos rfl, e] at h
  exact h
theorem wl_zero : Nm.wl 0 = [] := Nm.lim_zero
theorem wn_zero : Nm.wn 0 = false := by decide
theorem pmul_impl (x y z u : Int) (a b : Option Addr) (cap cap' : Nat) (w : World) (hx : Sl .u32 w (.slice a (Nm.wl x).length cap) (Nm.wl x)) (hy : Sl .u32 w (.slice b (Nm.wl y).length cap') (Nm.wl y)) (lx : (Nm.wl x).length ≤ 200) (ly : (Nm.wl y).length ≤ 200) (hz : z = x * y) (hu : u = if Nm.fits z then z else 0) :
    Calls Tryz.prog 127 #[.agg #[.bool (Nm.wn x), .slice a (Nm.wl x).length cap], .agg #[.bool (Nm.wn y), .slice b (Nm.wl y).length cap']] w fun e w' => ∃ a' c', e = .returned (.tuple #[.agg #[.bool (Nm.wn u), .slice a' (Nm.wl u).length c'], .bool (Nm.fits z)]) ∧ Own w' w.heap.size a' c' (Nm.wl u) ∧ Below w.heap.size w w' := by
  have h := wmul_impl (Nm.wn x) (Nm.wn y) a b cap cap' (Nm.wl x) (Nm.wl y) w hx hy (Nm.wl_dg _) (Nm.wl_dg _) (by omega) (by omega) z (by rw [Nm.wv_out, Nm.wv_out]; exact hz)
  rw [okB_wl lx, okB_wl ly, Bool.and_self, (op_yes _).1, (op_yes _).2.1, (op_yes _).2.2] at h
  cases hf : Nm.fits z
  · rw [hf, if_neg (by decide)] at hu
    have e1 : Nm.outL z = [] := by unfold Nm.outL; rw [hf]; rfl
    have e2 : Nm.outN z = false := by unfold Nm.outN; rw [hf]; rfl
    rw [hf, e1, e2] at h
    rw [hu, wl_zero, wn_zero]
    exact h
  · rw [hf, if_pos rfl] at hu
    have e4 := out_fits hf
    rw [hf, e4.1, e4.2] at h
    rw [hu]; exact h
namespace Fd
theorem unit32 (w : World) :
    Calls Tryz.prog 37 #[.int .i64 32] w fun e w' => e = .returned (.int .i64 (-149)) ∧ Below w.heap.size w w' := by
  have CP := hid (fun w' => spec_parts 32 0 w' (by decide) (by decide))
  have hf : finB 32 0 = true := by decide +kernel
  have h1 : pS 32 0 = false := by decide +kernel
  have h2 : pM 32 0 = 0 := by decide +kernel
  have h3 : pE 32 0 = (-149) := by decide +kernel
  rw [hf, h1, h2, h3] at CP
  clear hf h1 h2 h3
  go_enter Tryz.func37, Tryz.ntmps37
  go_wp2_with fail
  refine (CP.out _).mono ?_
  rintro e w1 ⟨rfl, hb1⟩
  go_wp2
  go_ret
  exact ⟨rfl, (by repeat (first | exact bz0 _ _ | refine bz1 ?_ | refine bz2 ?_ _ | refine bz3 ?_ _ | refine bz4 ?_ hb1 | refine bz5 ?_ _ | refine bz6 ?_ _ | refine bz7 ?_ hb1))⟩
theorem unit64 (w : World) :
    Calls Tryz.prog 37 #[.int .i64 64] w fun e w' => e = .returned (.int .i64 (-1074)) ∧ Below w.heap.size w w' := by
  have CP := hid (fun w' => spec_parts 64 0 w' (by decide) (by decide))
  have hf : finB 64 0 = true := by decide +kernel
  have h1 : pS 64 0 = false := by decide +kernel
  have h2 : pM 64 0 = 0 := by decide +kernel
  have h3 : pE 64 0 = (-1074) := by decide +kernel
  rw [hf, h1, h2, h3] at CP
  clear hf h1 h2 h3
  go_enter Tryz.func37, Tryz.ntmps37
  go_wp2_with fail
  refine (CP.out _).mono ?_
  rintro e w1 ⟨rfl, hb1⟩
  go_wp2
  go_ret
  exact ⟨rfl, (by repeat (first | exact bz0 _ _ | refine bz1 ?_ | refine bz2 ?_ _ | refine bz3 ?_ _ | refine bz4 ?_ hb1 | refine bz5 ?_ _ | refine bz6 ?_ _ | refine bz7 ?_ hb1))⟩
/-- What is rounded and is not too great, in units. -/
theorem unR32 (mode z e : Int) (hO : RdO 32 mode (Nm.wn z) (Nm.wl z) e = true) (hz : z ≠ 0) (hf : Nm.flo 24 2139095040 (rdU 24 (-149) mode (Nm.wn z) z.natAbs e) = true) :
    0 ≤ RdB 32 mode (Nm.wn z) (Nm.wl z) e ∧ RdB 32 mode (Nm.wn z) (Nm.wl z) e < 4294967296 ∧ finB 32 (RdB 32 mode (Nm.wn z) (Nm.wl z) e) = true ∧ unI 32 (RdB 32 mode (Nm.wn z) (Nm.wl z) e) = (if z < 0 then -((rdU 24 (-149) mode (Nm.wn z) z.natAbs e : Nat) : Int) else (rdU 24 (-149) mode (Nm.wn z) z.natAbs e : Nat)) := by
  obtain ⟨b1, -⟩ := Rd_any32 mode (Nm.wn z) (Nm.wl z) e hO (fun h => hz ((wl_zero' z).1 h))
  rw [b1, Nm.val_wl, Int.toNat_natCast]
  have hI : Nm.flb 24 (rdU 24 (-149) mode (Nm.wn z) z.natAbs e) < 2139095040 := by
    unfold Nm.flo at hf
    simp only [Bool.and_eq_true, decide_eq_true_eq] at hf
    exact hf.2
  have hr : rdB 24 (-149) 2139095040 2147483648 mode (Nm.wn z) z.natAbs e = sgn 2147483648 (Nm.flb 24 (rdU 24 (-149) mode (Nm.wn z) z.natAbs e) : Nat) (Nm.wn z) := by unfold rdB; rw [if_pos hf]
  have hu := flb_uf 24 2139095040 _ (by decide) hf
  rw [show (2 : Nat) ^ (24 - 1) = 8388608 by decide] at hu
  obtain ⟨u1, u2, u3, u4⟩ := unSg32 hI (Nm.wn z)
  rw [hr]
  refine ⟨u1, u2, u3, ?_⟩
  rw [u4, hu]
  unfold Nm.wn
  by_cases h : z < 0
  · rw [decide_eq_true h, if_pos h]; rfl
  · rw [decide_eq_false h, if_neg h]; rfl
/-- Without a flag it is what was rounded. -/
theorem F0_32 (mode z e : Int) (hO : RdO 32 mode (Nm.wn z) (Nm.wl z) e = true) (hz : z ≠ 0) (hF : RdF 32 mode (Nm.wn z) (Nm.wl z) e = 0) :
    0 ≤ RdB 32 mode (Nm.wn z) (Nm.wl z) e ∧ RdB 32 mode (Nm.wn z) (Nm.wl z) e < 4294967296 ∧ finB 32 (RdB 32 mode (Nm.wn z) (Nm.wl z) e) = true ∧ ValF 32 (RdB 32 mode (Nm.wn z) (Nm.wl z) e) z e ∧ Nm.rr 24 (-149) z.natAbs e = 0 := by
  obtain ⟨-, b2⟩ := Rd_any32 mode (Nm.wn z) (Nm.wl z) e hO (fun h => hz ((wl_zero' z).1 h))
  rw [b2, Nm.val_wl, Int.toNat_natCast] at hF
  have hf : Nm.flo 24 2139095040 (rdU 24 (-149) mode (Nm.wn z) z.natAbs e) = true := by
    cases h : Nm.flo 24 2139095040 (rdU 24 (-149) mode (Nm.wn z) z.natAbs e)
    · unfold rdF at hF; rw [h] at hF; simp at hF
    · rfl
  have hr : Nm.rr 24 (-149) z.natAbs e = 0 := by
    unfold rdF at hF
    rw [if_pos hf] at hF
    by_cases h : Nm.rr 24 (-149) z.natAbs e = 0
    · exact h
    · rw [if_neg h] at hF; split at hF <;> simp at hF
  obtain ⟨u1, u2, u3, u4⟩ := unR32 mode z e hO hz hf
  refine ⟨u1, u2, u3, ?_, hr⟩
  have hd := Nm.off_dn (P := 24) (q := (-149)) (a := z.natAbs) (e := e)
  rw [hr, Nat.zero_mul, Nat.add_zero] at hd
  have hU : rdU 24 (-149) mode (Nm.wn z) z.natAbs e = Nm.rU 24 (-149) z.natAbs e false := by
    unfold rdU; rw [Nm.rU_ex hr, Nm.rU_ex hr]
  rw [← hU] at hd
  have hd' : ((rdU 24 (-149) mode (Nm.wn z) z.natAbs e : Nat) : Int) * 2 ^ ((-149) - min e (-149)).toNat = (z.natAbs : Int) * 2 ^ (e - min e (-149)).toNat := by
    have := congrArg (fun n : Nat => (n : Int)) hd
    simpa using this
  unfold ValF
  rw [u4]
  show _ * 2 ^ ((-149) - min e (-149)).toNat = _ * 2 ^ (e - min e (-149)).toNat
  by_cases h : z < 0
  · rw [if_pos h, Int.neg_mul, hd', show ((z.natAbs : Nat) : Int) = -z by omega, Int.neg_mul, Int.neg_neg]
  · rw [if_neg h, hd', show ((z.natAbs : Nat) : Int) = z by omega]
/-- What is rounded and is not too great, in units. -/
theorem unR64 (mode z e : Int) (hO : RdO 64 mode (Nm.wn z) (Nm.wl z) e = true) (hz : z ≠ 0) (hf : Nm.flo 53 9218868437227405312 (rdU 53 (-1074) mode (Nm.wn z) z.natAbs e) = true) :
    0 ≤ RdB 64 mode (Nm.wn z) (Nm.wl z) e ∧ RdB 64 mode (Nm.wn z) (Nm.wl z) e < 18446744073709551616 ∧ finB 64 (RdB 64 mode (Nm.wn z) (Nm.wl z) e) = true ∧ unI 64 (RdB 64 mode (Nm.wn z) (Nm.wl z) e) = (if z < 0 then -((rdU 53 (-1074) mode (Nm.wn z) z.natAbs e : Nat) : Int) else (rdU 53 (-1074) mode (Nm.wn z) z.natAbs e : Nat)) := by
  obtain ⟨b1, -⟩ := Rd_any64 mode (Nm.wn z) (Nm.wl z) e hO (fun h => hz ((wl_zero' z).1 h))
  rw [b1, Nm.val_wl, Int.toNat_natCast]
  have hI : Nm.flb 53 (rdU 53 (-1074) mode (Nm.wn z) z.natAbs e) < 9218868437227405312 := by
    unfold Nm.flo at hf
    simp only [Bool.and_eq_true, decide_eq_true_eq] at hf
    exact hf.2
  have hr : rdB 53 (-1074) 9218868437227405312 9223372036854775808 mode (Nm.wn z) z.natAbs e = sgn 9223372036854775808 (Nm.flb 53 (rdU 53 (-1074) mode (Nm.wn z) z.natAbs e) : Nat) (Nm.wn z) := by unfold rdB; rw [if_pos hf]
  have hu := flb_uf 53 9218868437227405312 _ (by decide) hf
  rw [show (2 : Nat) ^ (53 - 1) = 4503599627370496 by decide] at hu
  obtain ⟨u1, u2, u3, u4⟩ := unSg64 hI (Nm.wn z)
  rw [hr]
  refine ⟨u1, u2, u3, ?_⟩
  rw [u4, hu]
  unfold Nm.wn
  by_cases h : z < 0
  · rw [decide_eq_true h, if_pos h]; rfl
  · rw [decide_eq_false h, if_neg h]; rfl
/-- Without a flag it is what was rounded. -/
theorem F0_64 (mode z e : Int) (hO : RdO 64 mode (Nm.wn z) (Nm.wl z) e = true) (hz : z ≠ 0) (hF : RdF 64 mode (Nm.wn z) (Nm.wl z) e = 0) :
    0 ≤ RdB 64 mode (Nm.wn z) (Nm.wl z) e ∧ RdB 64 mode (Nm.wn z) (Nm.wl z) e < 18446744073709551616 ∧ finB 64 (RdB 64 mode (Nm.wn z) (Nm.wl z) e) = true ∧ ValF 64 (RdB 64 mode (Nm.wn z) (Nm.wl z) e) z e ∧ Nm.rr 53 (-1074) z.natAbs e = 0 := by
  obtain ⟨-, b2⟩ := Rd_any64 mode (Nm.wn z) (Nm.wl z) e hO (fun h => hz ((wl_zero' z).1 h))
  rw [b2, Nm.val_wl, Int.toNat_natCast] at hF
  have hf : Nm.flo 53 9218868437227405312 (rdU 53 (-1074) mode (Nm.wn z) z.natAbs e) = true := by
    cases h : Nm.flo 53 9218868437227405312 (rdU 53 (-1074) mode (Nm.wn z) z.natAbs e)
    · unfold rdF at hF; rw [h] at hF; simp at hF
    · rfl
  have hr : Nm.rr 53 (-1074) z.natAbs e = 0 := by
    unfold rdF at hF
    rw [if_pos hf] at hF
    by_cases h : Nm.rr 53 (-1074) z.natAbs e = 0
    · exact h
    · rw [if_neg h] at hF; split at hF <;> simp at hF
  obtain ⟨u1, u2, u3, u4⟩ := unR64 mode z e hO hz hf
  refine ⟨u1, u2, u3, ?_, hr⟩
  have hd := Nm.off_dn (P := 53) (q := (-1074)) (a := z.natAbs) (e := e)
  rw [hr, Nat.zero_mul, Nat.add_zero] at hd
  have hU : rdU 53 (-1074) mode (Nm.wn z) z.natAbs e = Nm.rU 53 (-1074) z.natAbs e false := by
    unfold rdU; rw [Nm.rU_ex hr, Nm.rU_ex hr]
  rw [← hU] at hd
  have hd' : ((rdU 53 (-1074) mode (Nm.wn z) z.natAbs e : Nat) : Int) * 2 ^ ((-1074) - min e (-1074)).toNat = (z.natAbs : Int) * 2 ^ (e - min e (-1074)).toNat := by
    have := congrArg (fun n : Nat => (n : Int)) hd
    simpa using this
  unfold ValF
  rw [u4]
  show _ * 2 ^ ((-1074) - min e (-1074)).toNat = _ * 2 ^ (e - min e (-1074)).toNat
  by_cases h : z < 0
  · rw [if_pos h, Int.neg_mul, hd', show ((z.natAbs : Nat) : Int) = -z by omega, Int.neg_mul, Int.neg_neg]
  · rw [if_neg h, hd', show ((z.natAbs : Nat) : Int) = z by omega]
theorem F0_any {fm : Int} (hfm : fmtB fm = true) (mode z e : Int) (hO : RdO fm mode (Nm.wn z) (Nm.wl z) e = true) (hz : z ≠ 0) (hF : RdF fm mode (Nm.wn z) (Nm.wl z) e = 0) :
    0 ≤ RdB fm mode (Nm.wn z) (Nm.wl z) e ∧ RdB fm mode (Nm.wn z) (Nm.wl z) e < 18446744073709551616 ∧ okF fm (RdB fm mode (Nm.wn z) (Nm.wl z) e) = true ∧ finB fm (RdB fm mode (Nm.wn z) (Nm.wl z) e) = true ∧ ValF fm (RdB fm mode (Nm.wn z) (Nm.wl z) e) z e := by
  rcases fmt_cases hfm with rfl | rfl
  · obtain ⟨a1, a2, a3, a4, -⟩ := F0_32 mode z e hO hz hF
    exact ⟨a1, by omega, okF32 a2, a3, a4⟩
  · obtain ⟨a1, a2, a3, a4, -⟩ := F0_64 mode z e hO hz hF
    exact ⟨a1, a2, okF64, a3, a4⟩
theorem fit_k {x : Int} (h : bitLen x.natAbs ≤ 6400) : (Nm.wl x).length ≤ 200 := by unfold Nm.wl; exact lim_len (k := 200) h
theorem bl_shl (x : Int) (n : Nat) : bitLen (x * 2 ^ n).natAbs ≤ bitLen x.natAbs + n := by
  rw [natAbs_pow]
  by_cases h : x.natAbs = 0
  · rw [h, Nat.zero_mul, Nm.bl_zero]; omega
  · rw [Nm.bl_mul h]; exact Nat.le_refl _
/-- Shifted up. -/
theorem shl_w (x : Int) (n : Int) (a : Option Addr) (c : Nat) (w : World) (hs : Sl .u32 w (.slice a (Nm.wl x).length c) (Nm.wl x)) (n0 : 0 ≤ n) (hb : bitLen x.natAbs + n.toNat ≤ 6400) :
    Calls Tryz.prog 20 #[.agg #[.bool (Nm.wn x), .slice a (Nm.wl x).length c], .int .i64 n] w fun r w' => ∃ a' c', r = .returned (.tuple #[.agg #[.bool (Nm.wn (x * 2 ^ n.toNat)), .slice a' (Nm.wl (x * 2 ^ n.toNat)).length c'], .bool true]) ∧ Own w' w.heap.size a' c' (Nm.wl (x * 2 ^ n.toNat)) ∧ Below w.heap.size w w' :=
  wsh_at2 (Nm.wn x) a c (Nm.wl x) n w hs (Nm.wl_dg _) (okB_wl (fit_k (by omega))) (by omega) (by omega) _ (shz x n n0).symm (fit_k (by have := bl_shl x n.toNat; omega))
end Fd
def amX (fm a b : Int) : Int := nZ fm a * nZ fm b * 2 ^ (nE fm a + nE fm b - 2 * unQ fm).toNat
def amB (fm a b : Int) : Int := if muO fm 5 a b then muB fm 5 a b else 0
def amT (fm a b : Int) : Int := if muO fm 5 a b then auT fm (muB fm 5 a b) (amX fm a b) else 0
def amF (fm a b : Int) : Int := if muO fm 5 a b then auF fm (muB fm 5 a b) (muF fm 5 a b) (amX fm a b) else 0
theorem amX_bl (fm a b : Int) : bitLen (amX fm a b).natAbs ≤ 6300 := by
  have h1 : bitLen (nZ fm a * nZ fm b).natAbs ≤ 106 := (Nm.bl_le_iff _ 106).2 (nZm_bd fm a b)
  have h2 := bl_mulp (nZ fm a * nZ fm b) (nE fm a + nE fm b - 2 * unQ fm).toNat
  have hq := unq_bd fm
  obtain ⟨-, a0, a1⟩ := nZ_bd fm a
  obtain ⟨-, b0, b1⟩ := nZ_bd fm b
  unfold amX; omega
namespace Fd
/-- FnAugMul's numbers. -/
theorem am_main {fm a b : Int} (hO : muO fm 5 a b = true) (hf : amF fm a b = 0) (fh : finB fm (amB fm a b) = true) :
    0 ≤ amT fm a b ∧ amT fm a b < 18446744073709551616 ∧ finB fm (amT fm a b) = true ∧ (unI fm (amB fm a b) + unI fm (amT fm a b)) * 2 ^ (-unQ fm).toNat = amX fm a b := by
  unfold amB at fh
  rw [if_pos hO] at fh
  unfold amF auF at hf
  rw [if_pos hO, if_pos fh] at hf
  have hO' := hO
  unfold muO at hO'
  simp only [Bool.and_eq_true] at hO'
  have hfm := ok_fmt (all2 hO'.2).1
  have hq := unq_bd fm
  unfold amB amT auT
  rw [if_pos hO, if_pos hO, if_pos fh]
  by_cases hz : auR fm (muB fm 5 a b) (amX fm a b) = 0
  · rw [if_pos hz]
    obtain ⟨z1, z2, z3, z4⟩ := zun fm hfm (sigB fm (muB fm 5 a b))
    refine ⟨z1, z2, z3, ?_⟩
    rw [z4]; unfold auR at hz; rw [Int.add_zero]; omega
  · rw [if_neg hz] at hf ⊢
    have hRO := rdo_any (fm := fm) (mode := 5) (z := auR fm (muB fm 5 a b) (amX fm a b)) (e := 2 * unQ fm) hfm (by decide) (auR_len (amX_bl fm a b)) (by omega) (by omega)
    obtain ⟨r0, r1, r2, r3, r4⟩ := F0_any hfm 5 _ _ hRO hz hf
    refine ⟨r0, r1, r3, ?_⟩
    unfold ValF at r4
    rw [show min (2 * unQ fm) (unQ fm) = 2 * unQ fm by omega, show unQ fm - 2 * unQ fm = -unQ fm by omega, show (2 * unQ fm - 2 * unQ fm).toNat = 0 by omega, Int.pow_zero, Int.mul_one] at r4
    rw [Int.add_mul, r4]; unfold auR; omega
end Fd
end Go.Proofs.YtmcflggionkhlaaGreatDoor
