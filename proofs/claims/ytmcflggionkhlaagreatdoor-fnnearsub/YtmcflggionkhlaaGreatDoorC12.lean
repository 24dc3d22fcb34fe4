/-
  What is needed of AppendZ, Nums, Bits, Mem, LawsA, WideC, WideL.
-/
import Derived.Test.YtmcflggionkhlaaGreatDoorC07
set_option maxHeartbeats 16000000
set_option maxRecDepth 1000000
namespace Go.Proofs.YtmcflggionkhlaaGreatDoor
set_option linter.unusedVariables false
set_option linter.unusedSimpArgs false
open Go.RowKit
theorem run_append_zero {P : Program} (w : World) (t ty e : TypeId) (i : TypeInfo) (ht : P.underlying t = some (.slice e)) (hi : P.info? e = some i) (g a : Option Addr) (cap : Nat) :
    (Builtin.append_ #[t, t] ty #[.slice g 0 0, .slice a 0 cap]).run P w = .ok (.slice g 0 0) w := by
  cases a <;> cases g <;> simp [Builtin.append_, run_underlying ht, sizeOf, typeInfo, hi, Builtin.lenOf, Builtin.firstCells, storeCells, go_sem, loadCellsFrom]
theorem step_append_zero {P : Program} {ops : Array Oper} {o : Oper} {a : Act} {w : World} {K : Act → World → Prop} {Q : Exit → Act → World → Prop} {E : Prop} (hgd : o.guard = none) (s x : Operand) (t : TypeId)
    (ho : o.op = .call { callee := .builtin .append, args := #[s, x], argTypes := #[t, t] })
    (e : TypeId) (i : TypeInfo) (ht : P.underlying t = some (.slice e)) (hi : P.info? e = some i) (g b : Option Addr) (cap : Nat) (hs : a.eval s = .slice g 0 0) (hx : a.eval x = .slice b 0 cap)
    (h : K (a.put o.dst (.slice g 0 0)) w) :
    if Region.wanted o (yielded ops a.tmps) = true then Oper.wp P o a w K Q else E := by
  have hw : Region.wanted o (yielded ops a.tmps) = true := by simp [Region.wanted, hgd]
  rw [if_pos hw]
  have hr := run_append_zero (P := P) w t o.type e i ht hi g b cap
  unfold Oper.wp execOp
  simp only [ho, resolve, invoke, builtin, Sem.run_bind, Sem.run_pure, Result.andThen_ok, List.map_toArray, List.map_cons, List.map_nil, hs, hx, hr]
  exact h
end Go.Proofs.YtmcflggionkhlaaGreatDoor
namespace Go.Proofs.YtmcflggionkhlaaGreatDoor
namespace Nm
theorem trim_eq {l : List Int} (h : Dg l) (k : Nz l) : trim l = l := val_inj (trim_dg h) h (trim_nz l) k (trim_val l)

end Nm
set_option linter.unusedVariables false
set_option linter.unusedSimpArgs false
namespace Bt
theorem xor31 (x : Int) (h0 : 0 ≤ x) (h1 : x < 18446744073709551616) : bits .xor .u64 x 2147483648 = if x / 2147483648 % 2 = 0 then x + 2147483648 else x - 2147483648 := by
  obtain ⟨n, rfl⟩ := Int.eq_ofNat_of_zero_le h0
  have := u64_xor_nat n 2147483648 (by omega) (by decide)
  rw [show ((2147483648 : Nat) : Int) = 2147483648 from rfl] at this
  rw [this, nxor31]
  split <;> split <;> omega

theorem xor63 (x : Int) (h0 : 0 ≤ x) (h1 : x < 18446744073709551616) : bits .xor .u64 x 9223372036854775808 = if x / 9223372036854775808 % 2 = 0 then x + 9223372036854775808 else x - 9223372036854775808 := by
  obtain ⟨n, rfl⟩ := Int.eq_ofNat_of_zero_le h0
  have := u64_xor_nat n 9223372036854775808 (by omega) (by decide)
  rw [show ((9223372036854775808 : Nat) : Int) = 9223372036854775808 from rfl] at this
  rw [this, nxor63]
  split <;> split <;> omega

end Bt
open Go.RowKit Go.Deep
/-- What a reader of a slice of integers gives. -/
theorem Sl.of_cells {k : IntKind} {w : World} {x : Addr} {l c : Nat} {zs : List Int} (hl : l ≤ c) (hm : c ≤ maxLen) (hz : zs.length = c) (hcell : ∀ i, i < zs.length → w.cell? (x.add i) = some (.int k (zs.getD i 0))) :
    Sl k w (.slice (some x) l c) (zs.take l) := by
  have hlen : (zs.take l).length = l := by simp; omega
  refine ⟨some x, c, by rw [hlen], by rw [hlen]; exact hl, hm, ?_⟩
  by_cases h0 : l = 0
  · left; simp [h0]
  · right
    obtain ⟨b, off, spot⟩ := x
    have hc := hcell 0 (by omega)
    have hspot : spot = none := by simpa [Addr.add] using World.cell?_spot hc
    subst hspot
    refine ⟨b, off, rfl, fun i hi => ?_⟩
    rw [hlen] at hi
    have := hcell i (by omega)
    simp only [Addr.add] at this
    rw [List.getD_eq_getElem?_getD, List.getElem?_take_of_lt hi, ← List.getD_eq_getElem?_getD]
    by_cases e : i = 0
    · subst e; simpa using this
    · rw [if_neg e] at this; exact this

/-- .. and while another block is written. -/
theorem Own.kept {w w' : World} {B : Nat} {a : Option Addr} {cap : Nat} {zs : List Int} {row : Option Nat} (h : Own w B a cap zs) (hg : w.grownBy w' row) (hne : ∀ g, a = some ⟨g, 0, none⟩ → row ≠ some g) : Own w' B a cap zs := by
  refine World.ownsRow.kept h hg ?_
  rcases h.block with ⟨rfl, _⟩ | ⟨g, rfl, _⟩
  · exact .inl rfl
  · exact .inr (fun e => hne g rfl (by rw [← e]; rfl))

theorem ok_spec (ng : Bool) (a : Option Addr) (cap : Nat) (zs : List Int) (w : World) (hs : Sl .u32 w (.slice a zs.length cap) zs) (hl : zs.length ≤ 140737488355328) :
    Calls Tryz.prog 213 #[.agg #[.bool ng, .slice a zs.length cap]] w fun e w' => e = .returned (.bool (okB ng zs)) ∧ Below w.heap.size w w' := by
  obtain ⟨a0, cap0, he, hc1, hc2, hz⟩ := hs
  simp at he; obtain ⟨rfl, rfl⟩ := he
  by_cases h0 : zs.length = 0
  · have H : Hid (okB ng zs = !ng) := hid (by unfold okB; rw [if_pos h0])
    have hb0 : ((zs.length : Int) == 0) = true := by rw [beq_iff_eq]; omega
    go_enter Tryz.func213, Tryz.ntmps213
    go_wp2
    go_ret
    exact ⟨ret_bool H.out.symm, (by repeat (first | exact bz0 _ _ | refine bz1 ?_ | refine bz2 ?_ _ | refine bz3 ?_ _ | refine bz5 ?_ _ | refine bz6 ?_ _))⟩
  · obtain ⟨b, off, rfl, hcell⟩ : ∃ b off, a = some ⟨b, off, none⟩ ∧ ∀ i, i < zs.length → w.cell? ⟨b, off + i, none⟩ = some (.int .u32 (zs.getD i 0)) := by
      rcases hz with rfl | hz
      · simp at h0
      · exact hz
    clear hz
    have hb0 : ((zs.length : Int) == 0) = false := by rw [beq_eq_false_iff_ne]; omega
    have hc0 := hcell (zs.length - 1) (by omega)
    have hlt := World.block_lt_of_cell? w _ hc0
    generalize hz : zs.getD (zs.length - 1) 0 = z at hc0
    by_cases h2 : zs.length ≤ 200
    · by_cases h3 : z = 0
      · have H : Hid (okB ng zs = false) := hid (by unfold okB; rw [if_neg h0, hz]; simp [h3])
        clear hcell hz
        have h3' : (z != 0) = false := by simp [h3]
        go_enter Tryz.func213, Tryz.ntmps213
        go_wp2
        go_ret
        exact ⟨ret_bool H.out.symm, (by repeat (first | exact bz0 _ _ | refine bz1 ?_ | refine bz2 ?_ _ | refine bz3 ?_ _ | refine bz5 ?_ _ | refine bz6 ?_ _))⟩
      · have H : Hid (okB ng zs = true) := hid (by unfold okB; rw [if_neg h0, hz]; simp [h3, h2])
        clear hcell hz
        have h3' : (z != 0) = true := by simp [h3]
        go_enter Tryz.func213, Tryz.ntmps213
        go_wp2
        go_ret
        exact ⟨ret_bool H.out.symm, (by repeat (first | exact bz0 _ _ | refine bz1 ?_ | refine bz2 ?_ _ | refine bz3 ?_ _ | refine bz5 ?_ _ | refine bz6 ?_ _))⟩
    · have H : Hid (okB ng zs = false) := hid (by unfold okB; rw [if_neg h0]; simp [h2])
      clear hcell hz
      go_enter Tryz.func213, Tryz.ntmps213
      go_wp2
      go_ret
      exact ⟨ret_bool H.out.symm, (by repeat (first | exact bz0 _ _ | refine bz1 ?_ | refine bz2 ?_ _ | refine bz3 ?_ _ | refine bz5 ?_ _ | refine bz6 ?_ _))⟩

/-- How two wides compare. -/
def wcmp (na nb : Bool) (xs ys : List Int) : Int := if okB na xs && okB nb ys then (if na && nb then cmpL ys xs else if na then -1 else if nb then 1 else cmpL xs ys) else 2
theorem wcmp_no1 {na nb : Bool} {xs ys : List Int} (h : okB na xs = false) : wcmp na nb xs ys = 2 := by unfold wcmp; rw [h]; rfl
theorem wcmp_no2 {na nb : Bool} {xs ys : List Int} (h : okB nb ys = false) : wcmp na nb xs ys = 2 := by unfold wcmp; rw [h]; simp
theorem wcmp_yes {na nb : Bool} {xs ys : List Int} (h : okB na xs = true) (k : okB nb ys = true) : wcmp na nb xs ys = if na && nb then cmpL ys xs else if na then -1 else if nb then 1 else cmpL xs ys := by unfold wcmp; rw [h, k]; rfl
theorem wcmp_impl (na nb : Bool) (a a' : Option Addr) (cap cap' : Nat) (xs ys : List Int) (w : World) (hx : Sl .u32 w (.slice a xs.length cap) xs) (hy : Sl .u32 w (.slice a' ys.length cap') ys) (hl : xs.length ≤ 140737488355328) (hl' : ys.length ≤ 140737488355328) :
    Calls Tryz.prog 22 #[.agg #[.bool na, .slice a xs.length cap], .agg #[.bool nb, .slice a' ys.length cap']] w fun e w' => e = .returned (.int .i64 (wcmp na nb xs ys)) ∧ Below w.heap.size w w' := by
  have hx1 : ∀ o o', Sl .u32 ((w.alloc o).alloc o') (.slice a xs.length cap) xs := fun o o' => (hx.alloc o).alloc o'
  have hy1 : ∀ o o', Sl .u32 ((w.alloc o).alloc o') (.slice a' ys.length cap') ys := fun o o' => (hy.alloc o).alloc o'
  have HX := hid hx1; have HY := hid hy1
  clear hx1 hy1
  cases h1 : okB na xs
  · have HR := hid (wcmp_no1 (nb := nb) (ys := ys) h1)
    go_enter Tryz.func22, Tryz.ntmps22
    go_wp2_with fail
    refine (ok_impl na a cap xs _ (HX.out _ _) hl).mono ?_
    rintro e w1 ⟨rfl, hb1⟩
    go_wp2
    go_ret
    exact ⟨ret_int HR.out.symm, (by repeat (first | exact bz0 _ _ | refine bz1 ?_ | refine bz2 ?_ _ | refine bz3 ?_ _ | refine bz4 ?_ hb1 | refine bz5 ?_ _ | refine bz6 ?_ _ | refine bz7 ?_ hb1))⟩
  cases h2 : okB nb ys
  · have HR := hid (wcmp_no2 (na := na) (xs := xs) h2)
    go_enter Tryz.func22, Tryz.ntmps22
    go_wp2_with fail
    refine (ok_impl na a cap xs _ (HX.out _ _) hl).mono ?_
    rintro e w1 ⟨rfl, hb1⟩
    obtain ⟨x10, x11⟩ := ((Box.new w (.bool na) (.slice a xs.length cap) 31).alloc _).below hb1
    obtain ⟨y10, y11⟩ := (Box.new2 w _ (.bool nb) (.slice a' ys.length cap') 31).below hb1
    have HX1 := (HX.out _ _).below hb1; have HY1 := (HY.out _ _).below hb1
    go_wp2_with fail
    refine (ok_impl nb a' cap' ys _ HY1 hl').mono ?_
    rintro e w2 ⟨rfl, hb2⟩
    obtain ⟨x20, x21⟩ := Box.below ⟨x10, x11⟩ hb2
    obtain ⟨y20, y21⟩ := Box.below ⟨y10, y11⟩ hb2
    have HX2 := HX1.below hb2; have HY2 := HY1.below hb2
    go_wp2
    go_ret
    exact ⟨ret_int HR.out.symm, (by repeat (first | exact bz0 _ _ | refine bz1 ?_ | refine bz2 ?_ _ | refine bz3 ?_ _ | refine bz4 ?_ hb2 | refine bz4 ?_ hb1 | refine bz5 ?_ _ | refine bz6 ?_ _ | refine bz7 ?_ hb2 | refine bz7 ?_ hb1))⟩
  have HW := hid (wcmp_yes h1 h2)
  cases na <;> cases nb
  · have HR : Hid (wcmp false false xs ys = cmpL xs ys) := hid (by rw [HW.out]; rfl)
    go_enter Tryz.func22, Tryz.ntmps22
    go_wp2_with fail
    refine (ok_impl false a cap xs _ (HX.out _ _) hl).mono ?_
    rintro e w1 ⟨rfl, hb1⟩
    obtain ⟨x10, x11⟩ := ((Box.new w (.bool false) (.slice a xs.length cap) 31).alloc _).below hb1
    obtain ⟨y10, y11⟩ := (Box.new2 w _ (.bool false) (.slice a' ys.length cap') 31).below hb1
    have HX1 := (HX.out _ _).below hb1; have HY1 := (HY.out _ _).below hb1
    go_wp2_with fail
    refine (ok_impl false a' cap' ys _ HY1 hl').mono ?_
    rintro e w2 ⟨rfl, hb2⟩
    obtain ⟨x20, x21⟩ := Box.below ⟨x10, x11⟩ hb2
    obtain ⟨y20, y21⟩ := Box.below ⟨y10, y11⟩ hb2
    have HX2 := HX1.below hb2; have HY2 := HY1.below hb2
    go_wp2_with fail
    refine (cmpLimbs_any a a' cap cap' xs ys _ HX2 HY2 hl hl').mono ?_
    rintro e w3 ⟨rfl, hb3⟩
    go_wp2
    go_ret
    exact ⟨ret_int HR.out.symm, (by repeat (first | exact bz0 _ _ | refine bz1 ?_ | refine bz2 ?_ _ | refine bz3 ?_ _ | refine bz4 ?_ hb3 | refine bz4 ?_ hb2 | refine bz4 ?_ hb1 | refine bz5 ?_ _ | refine bz6 ?_ _ | refine bz7 ?_ hb3 | refine bz7 ?_ hb2 | refine bz7 ?_ hb1))⟩
  · have HR : Hid (wcmp false true xs ys = 1) := hid (by rw [HW.out]; rfl)
    go_enter Tryz.func22, Tryz.ntmps22
    go_wp2_with fail
    refine (ok_impl false a cap xs _ (HX.out _ _) hl).mono ?_
    rintro e w1 ⟨rfl, hb1⟩
    obtain ⟨x10, x11⟩ := ((Box.new w (.bool false) (.slice a xs.length cap) 31).alloc _).below hb1
    obtain ⟨y10, y11⟩ := (Box.new2 w _ (.bool true) (.slice a' ys.length cap') 31).below hb1
    have HX1 := (HX.out _ _).below hb1; have HY1 := (HY.out _ _).below hb1
    go_wp2_with fail
    refine (ok_impl true a' cap' ys _ HY1 hl').mono ?_
    rintro e w2 ⟨rfl, hb2⟩
    obtain ⟨x20, x21⟩ := Box.below ⟨x10, x11⟩ hb2
    obtain ⟨y20, y21⟩ := Box.below ⟨y10, y11⟩ hb2
    have HX2 := HX1.below hb2; have HY2 := HY1.below hb2
    go_wp2
    go_ret
    exact ⟨ret_int HR.out.symm, (by repeat (first | exact bz0 _ _ | refine bz1 ?_ | refine bz2 ?_ _ | refine bz3 ?_ _ | refine bz4 ?_ hb2 | refine bz4 ?_ hb1 | refine bz5 ?_ _ | refine bz6 ?_ _ | refine bz7 ?_ hb2 | refine bz7 ?_ hb1))⟩
  · have HR : Hid (wcmp true false xs ys = -1) := hid (by rw [HW.out]; rfl)
    go_enter Tryz.func22, Tryz.ntmps22
    go_wp2_with fail
    refine (ok_impl true a cap xs _ (HX.out _ _) hl).mono ?_
    rintro e w1 ⟨rfl, hb1⟩
    obtain ⟨x10, x11⟩ := ((Box.new w (.bool true) (.slice a xs.length cap) 31).alloc _).below hb1
    obtain ⟨y10, y11⟩ := (Box.new2 w _ (.bool false) (.slice a' ys.length cap') 31).below hb1
    have HX1 := (HX.out _ _).below hb1; have HY1 := (HY.out _ _).below hb1
    go_wp2_with fail
    refine (ok_impl false a' cap' ys _ HY1 hl').mono ?_
    rintro e w2 ⟨rfl, hb2⟩
    obtain ⟨x20, x21⟩ := Box.below ⟨x10, x11⟩ hb2
    obtain ⟨y20, y21⟩ := Box.below ⟨y10, y11⟩ hb2
    have HX2 := HX1.below hb2; have HY2 := HY1.below hb2
    go_wp2
    go_ret
    exact ⟨ret_int HR.out.symm, (by repeat (first | exact bz0 _ _ | refine bz1 ?_ | refine bz2 ?_ _ | refine bz3 ?_ _ | refine bz4 ?_ hb2 | refine bz4 ?_ hb1 | refine bz5 ?_ _ | refine bz6 ?_ _ | refine bz7 ?_ hb2 | refine bz7 ?_ hb1))⟩
  · have HR : Hid (wcmp true true xs ys = cmpL ys xs) := hid (by rw [HW.out]; rfl)
    go_enter Tryz.func22, Tryz.ntmps22
    go_wp2_with fail
    refine (ok_impl true a cap xs _ (HX.out _ _) hl).mono ?_
    rintro e w1 ⟨rfl, hb1⟩
    obtain ⟨x10, x11⟩ := ((Box.new w (.bool true) (.slice a xs.length cap) 31).alloc _).below hb1
    obtain ⟨y10, y11⟩ := (Box.new2 w _ (.bool true) (.slice a' ys.length cap') 31).below hb1
    have HX1 := (HX.out _ _).below hb1; have HY1 := (HY.out _ _).below hb1
    go_wp2_with fail
    refine (ok_impl true a' cap' ys _ HY1 hl').mono ?_
    rintro e w2 ⟨rfl, hb2⟩
    obtain ⟨x20, x21⟩ := Box.below ⟨x10, x11⟩ hb2
    obtain ⟨y20, y21⟩ := Box.below ⟨y10, y11⟩ hb2
    have HX2 := HX1.below hb2; have HY2 := HY1.below hb2
    go_wp2_with fail
    refine (cmpLimbs_any a' a cap' cap ys xs _ HY2 HX2 hl' hl).mono ?_
    rintro e w3 ⟨rfl, hb3⟩
    go_wp2
    go_ret
    exact ⟨ret_int HR.out.symm, (by repeat (first | exact bz0 _ _ | refine bz1 ?_ | refine bz2 ?_ _ | refine bz3 ?_ _ | refine bz4 ?_ hb3 | refine bz4 ?_ hb2 | refine bz4 ?_ hb1 | refine bz5 ?_ _ | refine bz6 ?_ _ | refine bz7 ?_ hb3 | refine bz7 ?_ hb2 | refine bz7 ?_ hb1))⟩

theorem fitted_va (ng : Bool) (a : Option Addr) (cap : Nat) (zs : List Int) (B : Nat) (w : World) (ho : Own w B a cap zs) (hz : Nm.Dg zs) (hl : zs.length ≤ 1048576) (x : Int) (hx : x = Nm.wv ng zs) :
    Calls Tryz.prog 68 #[.bool ng, .slice a zs.length cap] w fun e w' => ∃ a' c', e = .returned (.tuple #[.agg #[.bool (Nm.outN x), .slice a' (Nm.outL x).length c'], .bool (Nm.fits x)]) ∧ Own w' B a' c' (Nm.outL x) ∧ Below w.heap.size w w' ∧ (a' = none ∨ a' = a) := by
  obtain ⟨e1, e2, e3⟩ := fit_out ng hz
  subst hx
  rw [← e1, ← e2, ← e3]
  exact fitted_at ng a cap zs B w ho hz hl
end Go.Proofs.YtmcflggionkhlaaGreatDoor
