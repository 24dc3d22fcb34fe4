/-
  What is needed of WideE, WideL.
-/
import Derived.Laws.AppendOwnNone
import Derived.Test.YtkfjmcdniohljaaGreatDoorF01
import Derived.Test.YtkfjmcdniohljaaGreatDoorF02
set_option maxHeartbeats 16000000
set_option maxRecDepth 1000000
namespace Go.Proofs.YtkfjmcdniohljaaGreatDoor
set_option linter.unusedVariables false
set_option linter.unusedSimpArgs false
open Go.RowKit Go.Deep
theorem own_slice {w : World} {B : Nat} {v : Value} {zs : List Int} {n : Nat} (hn : n = zs.length) (h : w.ownsRow B 128 1 v n (zs.map (Value.int .u32))) : ∃ a c, v = .slice a n c ∧ Own w B a c zs := by
 subst hn
 rcases h.2 with ⟨h1, h2⟩ | ⟨g, cap, cur, h1, _⟩
 ·subst h1
  have : zs = [] := List.eq_nil_of_length_eq_zero h2
  subst this
  exact ⟨none, 0, rfl, h⟩
 ·subst h1; exact ⟨_, _, rfl, h⟩

theorem box_grown {w W w' : World} {t : TypeId} {v0 v1 : Value} {g : Nat} (hW : W.heap[w.heap.size]? = some (.cells #[v0, v1] t (0, 0))) (hg : W.grownBy w' (some g)) (hne : g ≠ w.heap.size) :
  w'.cell? ⟨w.heap.size, 0, none⟩ = some v0 ∧ w'.cell? ⟨w.heap.size, 1, none⟩ = some v1 ∧ w'.frozen? ⟨w.heap.size, 0, none⟩ = false ∧ w'.frozen? ⟨w.heap.size, 1, none⟩ = false := by
 have hlt : w.heap.size < W.heap.size := (Array.getElem?_eq_some_iff.1 hW).1
 have h := hg.block w.heap.size hlt (by simpa using fun e => hne e.symm)
 rw [hW] at h
 exact ⟨by simp [World.cell?, h], by simp [World.cell?, h], by simp [World.frozen?, h], by simp [World.frozen?, h]⟩
theorem bel_grown {w W w' : World} {g : Nat} (h : Below w.heap.size w W) (hg : W.grownBy w' (some g)) (hge : w.heap.size ≤ g) : Below w.heap.size w w' :=
 h.grown hg h.size (fun k hk => by cases hk; exact hge)

theorem made_any (ng : Bool) (a : Option Addr) (cap : Nat) (zs : List Int) (w : World) (hs : Sl .u32 w (.slice a zs.length cap) zs) (hz : Nm.Dg zs) (hl : zs.length ≤ 1048576) :
  Calls Tryz.prog 175 #[.bool ng, .slice a zs.length cap] w fun e w' => ∃ a' c', e = .returned (.agg #[.bool (ng && !decide ((Nm.trim zs).length = 0)), .slice a' (Nm.trim zs).length c']) ∧ Own w' w.heap.size a' c' (Nm.trim zs) ∧ Below w.heap.size w w' := by
 obtain ⟨-, hc1, hc2, hc3⟩ := hs.cells
 obtain ⟨i0, hi, hz0, hz1, hz2⟩ := info_parts info32
 have HI := hid (And.intro hi (And.intro hz0 (And.intro hz1 hz2)))
 clear hi hz0 hz1 hz2
 go_enter Tryz.func175, Tryz.ntmps175
 go_wp2_with fail
 go_loop [5] (fun i => ∃ n : Nat, n ≤ zs.length ∧ i = .int .i64 n ∧ (∀ i, n ≤ i → i < zs.length → zs.getD i 0 = 0)) (fun i => (intOf i).toNat)
 case atStart => exact ⟨zs.length, Nat.le_refl _, rfl, fun i h1 h2 => absurd h2 (by omega)⟩
 case round =>
  obtain ⟨n, hn, rfl, hpre⟩ := hrel
  have PRE := hid hpre
  clear hpre
  by_cases h0 : n = 0
  ·subst h0
   have hT := Nm.trim_take hz (Nat.zero_le _) PRE.out (.inl rfl)
   have HT : Hid (Nm.trim zs = []) := hid (by rw [hT]; rfl)
   have hown : ∀ o, ((w.alloc o).alloc (.cells #[] 128)).ownsRow (w.heap.size + 1) 128 1 (.slice (some ⟨w.heap.size + 1, 0, none⟩) 0 0) 0 [] := fun o => by
    have := World.ownsRow_made (base := w.heap.size + 1) (e := 128) (size := 1) (w.alloc o) #[] 0 (by simp) (by decide) rfl
    simpa using this
   have HW := hid hown
   clear hT hown hc3
   cases a with
   | none =>
    cases ng
    all_goals
     go_wp2
     refine bodyPost_ret (v := .agg #[.bool false, .slice (some ⟨w.heap.size + 1, 0, none⟩) 0 0]) (by simp [results, Tryz.results175, go_sem]) rfl ⟨some ⟨w.heap.size + 1, 0, none⟩, 0, ?_, ?_, (by repeat (first | exact bz0 _ _ | refine bz1 ?_ | refine bz2 ?_ _ | refine bz3 ?_ _ | refine bz5 ?_ _ | refine bz6 ?_ _))⟩
     ·rw [HT.out]; rfl
     ·rw [HT.out]
      have hq : Own ((w.alloc (.cells #[.bool false, .slice (some ⟨w.heap.size + 1, 0, none⟩) 0 0] 32)).alloc (.cells #[] 128)) (w.heap.size + 1) (some ⟨w.heap.size + 1, 0, none⟩) 0 [] := HW.out _
      exact hq.base (by omega)
   | some x =>
    cases ng
    all_goals
     go_wp2_with (at_builtin; refine wpList_append_own _ rfl _ _ 30 rfl (w.heap.size + 1) 128 i0 (.int .u32 0) 1 4 Tryz.underlying30 HI.out.1 HI.out.2.1 HI.out.2.2.1 HI.out.2.2.2 rfl (by decide) (.slice (some ⟨w.heap.size + 1, 0, none⟩) 0 0) 0 [] rfl (HW.out _) x 0 cap [] rfl rfl (by intro j u hj; cases hj) (by intro u hu; cases hu) (by decide) (by decide) (by simp) ?_)
     intro v' w1 hown' hgrow hnn
     obtain ⟨a', c', rfl, ho⟩ := own_slice (zs := []) rfl hown'
     obtain ⟨rc0, rc1, rf0, rf1⟩ := box_grown (w := w) (t := 32) (v0 := .bool false) (v1 := .slice none 0 0) (by rw [blk_alloc_lt _ _ _ (by simp)]; exact blk_alloc_new _ _) hgrow (by simp)
     have hbel : Below w.heap.size w w1 := bel_grown (by repeat (first | exact bz0 _ _ | refine bz1 ?_ | refine bz2 ?_ _ | refine bz3 ?_ _ | refine bz5 ?_ _ | refine bz6 ?_ _)) hgrow (by simp)
     clear hown' hgrow hnn
     go_wp2
     refine bodyPost_ret (v := .agg #[.bool false, .slice a' 0 c']) (by simp [results, Tryz.results175, go_sem, rc0, rc1]) rfl ⟨a', c', ?_, ?_, (by repeat (first | exact bz0 _ _ | refine bz1 ?_ | refine bz2 ?_ _ | refine bz3 ?_ _ | refine bz4 ?_ hbel | refine bz5 ?_ _ | refine bz6 ?_ _ | refine bz7 ?_ hbel))⟩
     ·rw [HT.out]; rfl
     ·rw [HT.out]
      exact ((ho.setBelow (by simp) _).setBelow (by simp) _).base (by omega)
  ·obtain ⟨b, off, rfl, hcell⟩ := hc3 (by omega)
   have hcx := hcell (n - 1) (by omega)
   have hlt := World.block_lt_of_cell? w _ hcx
   obtain ⟨z, hzk⟩ : ∃ z, z = zs.getD (n - 1) 0 := ⟨_, rfl⟩
   rw [← hzk] at hcx
   have HZ := hid hzk
   have HC := hid hcell
   clear hzk hcell hc3
   have hn1 : 1 ≤ n := by omega
   by_cases hz0 : z = 0
   ·have t0 : (z == 0) = true := by simpa using hz0
    have HZ0 := hid hz0
    clear hz0
    go_wp2_with fail
    go_round
    case rel => exact ⟨n - 1, by omega, by go_num, fun i h1 h2 => by
     by_cases e : i = n - 1
     ·subst e; rw [← HZ.out]; exact HZ0.out
     ·exact PRE.out i (by omega) h2⟩
    case measure => simp [intOf]; omega
   ·have t0 : (z == 0) = false := by simpa using hz0
    have hT := Nm.trim_take hz hn PRE.out (.inr (by rw [← HZ.out]; exact hz0))
    have HT := hid hT
    have hlen : (zs.take n).length = n := by simp; omega
    have HL := hid hlen
    have hnews : ∀ (o o' : Obj) j u, ((zs.take n).map (Value.int .u32))[j]? = some u → ((w.alloc o).alloc o').cell? ((⟨b, off, none⟩ : Addr).add j) = some u := fun o o' j u hj => by
     have hjn : j < n := by
      rcases Nat.lt_or_ge j n with h | h
      ·exact h
      ·rw [List.getElem?_eq_none (by simp; omega)] at hj; cases hj
     have hc := HC.out j (by omega)
     have hju : u = .int .u32 (zs.getD j 0) := by
      rw [List.getElem?_map, List.getElem?_take_of_lt hjn] at hj
      rw [List.getD_eq_getElem?_getD]
      cases hzj : zs[j]? with
      | none => rw [hzj] at hj; cases hj
      | some q => rw [hzj] at hj; simp at hj ⊢; exact hj.symm
     rw [hju]
     have e : (⟨b, off, none⟩ : Addr).add j = ⟨b, off + j, none⟩ := by unfold Addr.add; split <;> simp_all
     rw [e]
     exact ((((Below.refl _ w).alloc (Nat.le_refl _) o).alloc (by simp) o').cell (p := ⟨b, off + j, none⟩) hlt).trans hc
    have HN := hid hnews
    have hone : ∀ u ∈ (zs.take n).map (Value.int .u32), u.oneCell' = true := fun u hu => by
     obtain ⟨q, _, rfl⟩ := List.mem_map.1 hu; rfl
    have HO := hid hone
    have hown : ∀ o, ((w.alloc o).alloc (.cells #[] 128)).ownsRow (w.heap.size + 1) 128 1 (.slice (some ⟨w.heap.size + 1, 0, none⟩) 0 0) 0 [] := fun o => by
     have := World.ownsRow_made (base := w.heap.size + 1) (e := 128) (size := 1) (w.alloc o) #[] 0 (by simp) (by decide) rfl
     simpa using this
    have HW := hid hown
    clear hT hlen hnews hone hown hz0
    cases ng
    ·go_wp2_with (at_builtin; refine wpList_append_own _ rfl _ _ 30 rfl (w.heap.size + 1) 128 i0 (.int .u32 0) 1 4 Tryz.underlying30 HI.out.1 HI.out.2.1 HI.out.2.2.1 HI.out.2.2.2 rfl (by decide) (.slice (some ⟨w.heap.size + 1, 0, none⟩) 0 0) 0 [] rfl (HW.out _) ⟨b, off, none⟩ n cap ((zs.take n).map (Value.int .u32)) rfl (by rw [List.length_map, HL.out, Nat.mul_one]) (HN.out _ _) HO.out (by unfold maxLen; omega) (by omega) (by simp) ?_)
     intro v' w1 hown' hgrow hnn
     rw [← List.map_take] at hown'
     obtain ⟨a', c', rfl, ho⟩ := own_slice HL.out.symm hown'
     obtain ⟨rc0, rc1, rf0, rf1⟩ := box_grown (w := w) (t := 32) (v0 := .bool false) (v1 := .slice none 0 0) (by rw [blk_alloc_lt _ _ _ (by simp)]; exact blk_alloc_new _ _) hgrow (by simp)
     have hbel : Below w.heap.size w w1 := bel_grown (by repeat (first | exact bz0 _ _ | refine bz1 ?_ | refine bz2 ?_ _ | refine bz3 ?_ _ | refine bz5 ?_ _ | refine bz6 ?_ _)) hgrow (by simp)
     clear hown' hgrow hnn
     go_wp2
     refine bodyPost_ret (v := .agg #[.bool false, .slice a' n c']) (by simp [results, Tryz.results175, go_sem, rc0, rc1]) rfl ⟨a', c', ?_, ?_, (by repeat (first | exact bz0 _ _ | refine bz1 ?_ | refine bz2 ?_ _ | refine bz3 ?_ _ | refine bz4 ?_ hbel | refine bz5 ?_ _ | refine bz6 ?_ _ | refine bz7 ?_ hbel))⟩
     ·rw [HT.out, HL.out]; rfl
     ·rw [HT.out]
      exact ((ho.setBelow (by simp) _).setBelow (by simp) _).base (by omega)
    ·go_wp2_with (at_builtin; refine wpList_append_own _ rfl _ _ 30 rfl (w.heap.size + 1) 128 i0 (.int .u32 0) 1 4 Tryz.underlying30 HI.out.1 HI.out.2.1 HI.out.2.2.1 HI.out.2.2.2 rfl (by decide) (.slice (some ⟨w.heap.size + 1, 0, none⟩) 0 0) 0 [] rfl (HW.out _) ⟨b, off, none⟩ n cap ((zs.take n).map (Value.int .u32)) rfl (by rw [List.length_map, HL.out, Nat.mul_one]) (HN.out _ _) HO.out (by unfold maxLen; omega) (by omega) (by simp) ?_)
     intro v' w1 hown' hgrow hnn
     rw [← List.map_take] at hown'
     obtain ⟨a', c', rfl, ho⟩ := own_slice HL.out.symm hown'
     obtain ⟨rc0, rc1, rf0, rf1⟩ := box_grown (w := w) (t := 32) (v0 := .bool false) (v1 := .slice none 0 0) (by rw [blk_alloc_lt _ _ _ (by simp)]; exact blk_alloc_new _ _) hgrow (by simp)
     have hbel : Below w.heap.size w w1 := bel_grown (by repeat (first | exact bz0 _ _ | refine bz1 ?_ | refine bz2 ?_ _ | refine bz3 ?_ _ | refine bz5 ?_ _ | refine bz6 ?_ _)) hgrow (by simp)
     clear hown' hgrow hnn
     go_wp2
     refine bodyPost_ret (v := .agg #[.bool true, .slice a' n c']) (by simp [results, Tryz.results175, go_sem, rc0, rc1]) rfl ⟨a', c', ?_, ?_, (by repeat (first | exact bz0 _ _ | refine bz1 ?_ | refine bz2 ?_ _ | refine bz3 ?_ _ | refine bz4 ?_ hbel | refine bz5 ?_ _ | refine bz6 ?_ _ | refine bz7 ?_ hbel))⟩
     ·rw [HT.out, HL.out]; simp; omega
     ·rw [HT.out]
      exact ((ho.setBelow (by simp) _).setBelow (by simp) _).base (by omega)
theorem fit_out (ng : Bool) {zs : List Int} (hd : Nm.Dg zs) : fitL zs = Nm.outL (Nm.wv ng zs) ∧ fitN ng zs = Nm.outN (Nm.wv ng zs) ∧ fitO zs = Nm.fits (Nm.wv ng zs) := by
 have h1 := Nm.wl_wv ng hd
 have h2 := Nm.wn_wv ng hd
 unfold fitL fitN fitO Nm.outL Nm.outN Nm.fits
 rw [h1, h2]
 by_cases h : (Nm.trim zs).length ≤ 200 <;> simp [h]
theorem fitted_v (ng : Bool) (a : Option Addr) (cap : Nat) (zs : List Int) (B : Nat) (w : World) (ho : Own w B a cap zs) (hz : Nm.Dg zs) (hl : zs.length ≤ 1048576) (x : Int) (hx : x = Nm.wv ng zs) :
  Calls Tryz.prog 105 #[.bool ng, .slice a zs.length cap] w fun e w' => ∃ a' c', e = .returned (.tuple #[.agg #[.bool (Nm.outN x), .slice a' (Nm.outL x).length c'], .bool (Nm.fits x)]) ∧ Own w' B a' c' (Nm.outL x) ∧ Below w.heap.size w w' := by
 obtain ⟨e1, e2, e3⟩ := fit_out ng hz
 subst hx
 rw [← e1, ← e2, ← e3]
 exact fitted_any ng a cap zs B w ho hz hl
theorem fitted_va (ng : Bool) (a : Option Addr) (cap : Nat) (zs : List Int) (B : Nat) (w : World) (ho : Own w B a cap zs) (hz : Nm.Dg zs) (hl : zs.length ≤ 1048576) (x : Int) (hx : x = Nm.wv ng zs) :
  Calls Tryz.prog 105 #[.bool ng, .slice a zs.length cap] w fun e w' => ∃ a' c', e = .returned (.tuple #[.agg #[.bool (Nm.outN x), .slice a' (Nm.outL x).length c'], .bool (Nm.fits x)]) ∧ Own w' B a' c' (Nm.outL x) ∧ Below w.heap.size w w' ∧ (a' = none ∨ a' = a) := by
 obtain ⟨e1, e2, e3⟩ := fit_out ng hz
 subst hx
 rw [← e1, ← e2, ← e3]
 exact fitted_at ng a cap zs B w ho hz hl
theorem made_v (ng : Bool) (a : Option Addr) (cap : Nat) (zs : List Int) (w : World) (hs : Sl .u32 w (.slice a zs.length cap) zs) (hz : Nm.Dg zs) (hl : zs.length ≤ 1048576) (x : Int) (hx : x = Nm.wv ng zs) :
  Calls Tryz.prog 175 #[.bool ng, .slice a zs.length cap] w fun e w' => ∃ a' c', e = .returned (.agg #[.bool (Nm.wn x), .slice a' (Nm.wl x).length c']) ∧ Own w' w.heap.size a' c' (Nm.wl x) ∧ Below w.heap.size w w' := by
 subst hx
 rw [Nm.wl_wv ng hz, Nm.wn_wv ng hz]
 exact made_any ng a cap zs w hs hz hl
theorem fits_small {x : Int} (h0 : -18446744073709551616 < x) (h1 : x < 18446744073709551616) : Nm.fits x = true := by
 unfold Nm.fits Nm.wl
 rw [decide_eq_true_iff, Nm.lim_length]
 have h2 : Nm.pw 2 ≤ Nm.pw 200 := Nm.pw_mono (by decide)
 have h3 : Nm.pw 2 = 18446744073709551616 := by decide
 omega
theorem out_fits {x : Int} (h : Nm.fits x = true) : Nm.outL x = Nm.wl x ∧ Nm.outN x = Nm.wn x := by
 unfold Nm.outL Nm.outN; rw [h]; simp
def two (m : Int) : List Int := [m % 4294967296, m / 4294967296]
theorem two_dg {m : Int} (h0 : 0 ≤ m) (h1 : m < 18446744073709551616) : Nm.Dg (two m) := by
 unfold two; exact Nm.Dg.cons (by omega) (Nm.Dg.cons (by omega) Nm.Dg.nil)
theorem two_wv {m : Int} (ng : Bool) (h0 : 0 ≤ m) : Nm.wv ng (two m) = if ng then -m else m := by
 unfold Nm.wv two; simp only [Nm.val]; cases ng <;> simp <;> omega
theorem own_two {w : World} {B g : Nat} (hB : B ≤ w.heap.size) (hg : g = w.heap.size) (x y : Int) : Own (w.alloc (.cells #[.int .u32 x, .int .u32 y] 128)) B (some ⟨g, 0, none⟩) 2 [x, y] := by
 subst hg
 exact ⟨by simp, .inr ⟨w.heap.size, 2, #[.int .u32 x, .int .u32 y], rfl, hB, heap_alloc_new w _, by simp, by decide, by simp, by simp⟩⟩

theorem w64_neg {n : Int} (h0 : -9223372036854775808 ≤ n) (h : n < 0) : IntKind.u64.wrap (-(IntKind.u64.wrap n)) = -n := by
 rw [IntKind.wrap_u64, IntKind.wrap_u64]; omega
theorem w64_pos {n : Int} (h0 : 0 ≤ n) (h : n ≤ 9223372036854775807) : IntKind.u64.wrap n = n := by
 rw [IntKind.wrap_u64]; omega
theorem wof_impl_true (n : Int) (w : World) (h0 : -9223372036854775808 ≤ n) (h1 : n ≤ 9223372036854775807) (hn : decide (n < 0) = true) :
  Calls Tryz.prog 22 #[.int .i64 n] w fun e w' => ∃ a' c', e = .returned (.agg #[.bool (Nm.wn n), .slice a' (Nm.wl n).length c']) ∧ Own w' w.heap.size a' c' (Nm.wl n) ∧ Below w.heap.size w w' := by
 have HO := hid (out_fits (fits_small (x := n) (by omega) (by omega)))
 have h := hn
 simp at h
 have e0 := w64_neg h0 h
 have HV : Hid (n = Nm.wv true (two (-n))) := hid (by have := two_wv (m := (-n)) true (by omega); simp at this; rw [this])
 have HD := hid (two_dg (m := (-n)) (by omega) (by omega))
 go_enter Tryz.func22, Tryz.ntmps22
 go_wp2_with fail
 refine (fitted_v true _ 2 (two (-n)) (w.heap.size + 1) _ (by refine own_two ?_ ?_ _ _ <;> simp) HD.out (by simp [two]) n HV.out).mono ?_
 rintro e w1 ⟨a', c', rfl, ho, hb⟩
 have r := (R2.new w (.bool false) (.slice none 0 0) 32).alloc (.cells #[.int .u32 ((-n) % 4294967296), .int .u32 ((-n) / 4294967296)] 128)
 obtain ⟨rc0, rc1, rf0, rf1⟩ := r.below hb
 have hz : w.heap.size < w1.heap.size := World.block_lt_of_cell? w1 _ rc0
 go_wp2
 obtain ⟨oL, oN⟩ := HO.out
 refine bodyPost_ret (v := .agg #[.bool (Nm.wn n), .slice a' (Nm.wl n).length c']) (by simp [results, Tryz.results22, go_sem, oL, oN, hz, rc0, rc1]) rfl ⟨a', c', rfl, ?_, (by repeat (first | exact bz0 _ _ | refine bz1 ?_ | refine bz2 ?_ _ | refine bz3 ?_ _ | refine bz4 ?_ hb | refine bz5 ?_ _ | refine bz6 ?_ _ | refine bz7 ?_ hb))⟩
 rw [oL] at ho
 exact Own.base (((ho.setBelow (by simp) _).setBelow (by simp) _).alloc _) (by omega)
theorem wof_impl_false (n : Int) (w : World) (h0 : -9223372036854775808 ≤ n) (h1 : n ≤ 9223372036854775807) (hn : decide (n < 0) = false) :
  Calls Tryz.prog 22 #[.int .i64 n] w fun e w' => ∃ a' c', e = .returned (.agg #[.bool (Nm.wn n), .slice a' (Nm.wl n).length c']) ∧ Own w' w.heap.size a' c' (Nm.wl n) ∧ Below w.heap.size w w' := by
 have HO := hid (out_fits (fits_small (x := n) (by omega) (by omega)))
 have h := hn
 simp at h
 have e0 := w64_pos (n := n) (by omega) h1
 have HV : Hid (n = Nm.wv false (two n)) := hid (by have := two_wv (m := n) false (by omega); simp at this; rw [this])
 have HD := hid (two_dg (m := n) (by omega) (by omega))
 go_enter Tryz.func22, Tryz.ntmps22
 go_wp2_with fail
 refine (fitted_v false _ 2 (two n) (w.heap.size + 1) _ (by refine own_two ?_ ?_ _ _ <;> simp) HD.out (by simp [two]) n HV.out).mono ?_
 rintro e w1 ⟨a', c', rfl, ho, hb⟩
 have r := (R2.new w (.bool false) (.slice none 0 0) 32).alloc (.cells #[.int .u32 (n % 4294967296), .int .u32 (n / 4294967296)] 128)
 obtain ⟨rc0, rc1, rf0, rf1⟩ := r.below hb
 have hz : w.heap.size < w1.heap.size := World.block_lt_of_cell? w1 _ rc0
 go_wp2
 obtain ⟨oL, oN⟩ := HO.out
 refine bodyPost_ret (v := .agg #[.bool (Nm.wn n), .slice a' (Nm.wl n).length c']) (by simp [results, Tryz.results22, go_sem, oL, oN, hz, rc0, rc1]) rfl ⟨a', c', rfl, ?_, (by repeat (first | exact bz0 _ _ | refine bz1 ?_ | refine bz2 ?_ _ | refine bz3 ?_ _ | refine bz4 ?_ hb | refine bz5 ?_ _ | refine bz6 ?_ _ | refine bz7 ?_ hb))⟩
 rw [oL] at ho
 exact Own.base (((ho.setBelow (by simp) _).setBelow (by simp) _).alloc _) (by omega)
theorem wof_impl (n : Int) (w : World) (h0 : -9223372036854775808 ≤ n) (h1 : n ≤ 9223372036854775807) :
  Calls Tryz.prog 22 #[.int .i64 n] w fun e w' => ∃ a' c', e = .returned (.agg #[.bool (Nm.wn n), .slice a' (Nm.wl n).length c']) ∧ Own w' w.heap.size a' c' (Nm.wl n) ∧ Below w.heap.size w w' := by
 cases h : decide (n < 0)
 ·exact wof_impl_false n w h0 h1 h
 ·exact wof_impl_true n w h0 h1 h
theorem wof_spec_true (n : Int) (w : World) (h0 : -9223372036854775808 ≤ n) (h1 : n ≤ 9223372036854775807) (hn : decide (n < 0) = true) :
  Calls Tryz.prog 86 #[.int .i64 n] w fun e w' => ∃ a' c', e = .returned (.agg #[.bool (Nm.wn n), .slice a' (Nm.wl n).length c']) ∧ Own w' w.heap.size a' c' (Nm.wl n) ∧ Below w.heap.size w w' := by
 have h := hn
 simp at h
 have e0 := w64_neg h0 h
 have HV : Hid (n = Nm.wv true (two (-n))) := hid (by have := two_wv (m := (-n)) true (by omega); simp at this; rw [this])
 have HD := hid (two_dg (m := (-n)) (by omega) (by omega))
 go_enter Tryz.func86, Tryz.ntmps86
 go_wp2_with fail
 refine (made_v true _ 2 (two (-n)) _ (by refine Own.sl (own_two (B := 0) ?_ ?_ _ _) <;> simp) HD.out (by simp [two]) n HV.out).mono ?_
 rintro e w1 ⟨a', c', rfl, ho, hb⟩
 have r := (R2.new w (.bool false) (.slice none 0 0) 32).alloc (.cells #[.int .u32 ((-n) % 4294967296), .int .u32 ((-n) / 4294967296)] 128)
 obtain ⟨rc0, rc1, rf0, rf1⟩ := r.below hb
 have hz : w.heap.size < w1.heap.size := World.block_lt_of_cell? w1 _ rc0
 have ho : Own w1 (w.heap.size + 1 + 1) a' c' (Nm.wl n) := by simpa using ho
 go_wp2
 refine bodyPost_ret (v := .agg #[.bool (Nm.wn n), .slice a' (Nm.wl n).length c']) (by simp [results, Tryz.results86, go_sem, hz, rc0, rc1]) rfl ⟨a', c', rfl, ?_, (by repeat (first | exact bz0 _ _ | refine bz1 ?_ | refine bz2 ?_ _ | refine bz3 ?_ _ | refine bz4 ?_ hb | refine bz5 ?_ _ | refine bz6 ?_ _ | refine bz7 ?_ hb))⟩
 exact Own.base ((ho.setBelow (by simp; omega) _).setBelow (by simp; omega) _) (by omega)
theorem wof_spec_false (n : Int) (w : World) (h0 : -9223372036854775808 ≤ n) (h1 : n ≤ 9223372036854775807) (hn : decide (n < 0) = false) :
  Calls Tryz.prog 86 #[.int .i64 n] w fun e w' => ∃ a' c', e = .returned (.agg #[.bool (Nm.wn n), .slice a' (Nm.wl n).length c']) ∧ Own w' w.heap.size a' c' (Nm.wl n) ∧ Below w.heap.size w w' := by
 have h := hn
 simp at h
 have e0 := w64_pos (n := n) (by omega) h1
 have HV : Hid (n = Nm.wv false (two n)) := hid (by have := two_wv (m := n) false (by omega); simp at this; rw [this])
 have HD := hid (two_dg (m := n) (by omega) (by omega))
 go_enter Tryz.func86, Tryz.ntmps86
 go_wp2_with fail
 refine (made_v false _ 2 (two n) _ (by refine Own.sl (own_two (B := 0) ?_ ?_ _ _) <;> simp) HD.out (by simp [two]) n HV.out).mono ?_
 rintro e w1 ⟨a', c', rfl, ho, hb⟩
 have r := (R2.new w (.bool false) (.slice none 0 0) 32).alloc (.cells #[.int .u32 (n % 4294967296), .int .u32 (n / 4294967296)] 128)
 obtain ⟨rc0, rc1, rf0, rf1⟩ := r.below hb
 have hz : w.heap.size < w1.heap.size := World.block_lt_of_cell? w1 _ rc0
 have ho : Own w1 (w.heap.size + 1 + 1) a' c' (Nm.wl n) := by simpa using ho
 go_wp2
 refine bodyPost_ret (v := .agg #[.bool (Nm.wn n), .slice a' (Nm.wl n).length c']) (by simp [results, Tryz.results86, go_sem, hz, rc0, rc1]) rfl ⟨a', c', rfl, ?_, (by repeat (first | exact bz0 _ _ | refine bz1 ?_ | refine bz2 ?_ _ | refine bz3 ?_ _ | refine bz4 ?_ hb | refine bz5 ?_ _ | refine bz6 ?_ _ | refine bz7 ?_ hb))⟩
 exact Own.base ((ho.setBelow (by simp; omega) _).setBelow (by simp; omega) _) (by omega)
theorem wof_spec (n : Int) (w : World) (h0 : -9223372036854775808 ≤ n) (h1 : n ≤ 9223372036854775807) :
  Calls Tryz.prog 86 #[.int .i64 n] w fun e w' => ∃ a' c', e = .returned (.agg #[.bool (Nm.wn n), .slice a' (Nm.wl n).length c']) ∧ Own w' w.heap.size a' c' (Nm.wl n) ∧ Below w.heap.size w w' := by
 cases h : decide (n < 0)
 ·exact wof_spec_false n w h0 h1 h
 ·exact wof_spec_true n w h0 h1 h
end Go.Proofs.YtkfjmcdniohljaaGreatDoor
