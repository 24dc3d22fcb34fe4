/-
  Vectors turned: by the specification; slices.Clone.
-/
import Derived.Test.YtmnfidkpnogfmaaVO
import Derived.Test.YtmnfidkpnogfmaaK28
import Derived.Test.YtmnfidkpnogfmaaK00
import Derived.Test.YtmnfidkpnogfmaaK10
import Derived.Lib.SliceRun
import Derived.Shelf.RegionOpenPlain
namespace Go.Proofs.Ytmnfidkpnogfmaa
set_option linter.unusedVariables false
set_option linter.unusedSimpArgs false
open Go.RowKit Go.Deep
theorem o8_buf {w : World} : O8 (w.alloc (.cells #[] 37)) w.heap.size (some ⟨w.heap.size, 0, none⟩) 0 [] := by
  have := World.ownsRow_made (base := w.heap.size) (e := 37) (size := 1) w #[] 0 (by simp) (by decide) rfl
  simpa [O8] using this
theorem o8_more {w : World} {B g cap : Nat} {os : List Int} {d : Int} (h : w.ownsRow B 37 1 (.slice (some ⟨g, 0, none⟩) (os.length + 1) cap) (os.length + 1) (os.map (Value.int .u64) ++ [.int .u64 d])) : O8 w B (some ⟨g, 0, none⟩) cap (os ++ [d]) := by
  unfold O8; simpa using h
theorem newsV (w : World) (d : Int) : ∀ j u, ([Value.int .u64 d] : List Value)[j]? = some u → (w.alloc (.cells #[.int .u64 d] 37)).cell? ((⟨w.heap.size, 0, none⟩ : Addr).add j) = some u := by
  intro j u hj
  cases j with
  | zero => simp at hj; subst hj; simp [Addr.add]
  | succ j => simp at hj
theorem oneV (d : Int) : ∀ u ∈ ([Value.int .u64 d] : List Value), u.oneCell' = true := by
  intro u hu; simp at hu; subst hu; rfl
theorem bel_own {w w1 w2 : World} {g : Nat} (h : Below w.heap.size w w1) (hg : w1.grownBy w2 (some g)) (hge : w.heap.size ≤ g) : Below w.heap.size w w2 :=
  ⟨hg.os.trans h.os, hg.tape.trans h.tape, hg.output.trans h.output, Nat.le_trans h.size hg.size, fun i hi => (hg.block i (Nat.lt_of_lt_of_le hi h.size) (by intro e; have h' : i = g := Option.some.inj e; omega)).trans (h.block i hi)⟩
/-- A vector turned. -/
def turnL (xs : List Int) : List Int := if xs.length ≤ 300 then xs.reverse else []
set_option maxHeartbeats 8000000 in
set_option maxRecDepth 100000 in
theorem turned_spec (a : Option Addr) (cap : Nat) (xs : List Int) (w : World) (hx : Sl .u64 w (.slice a xs.length cap) xs) (hl : xs.length ≤ 1048576) :
    Calls Try.prog 13 #[.slice a xs.length cap] w fun r w' => ∃ g c, r = .returned (.slice (some ⟨g, 0, none⟩) (turnL xs).length c) ∧ O8 w' w.heap.size (some ⟨g, 0, none⟩) c (turnL xs) ∧ Below w.heap.size w w' := by
  obtain ⟨-, hx1, hx2, hx3⟩ := hx.cells
  obtain ⟨i0, hi⟩ : ∃ i0, Try.prog.info? 37 = some i0 := by
    have h := info64
    cases e : Try.prog.info? 37 with
    | none => rw [e] at h; cases h
    | some i => exact ⟨i, rfl⟩
  have HI : Hid (Try.prog.info? 37 = some i0 ∧ i0.zero = some (.int .u64 0) ∧ i0.size = 1 ∧ i0.bytes = 8) := hid (by
    have h := info64
    rw [hi] at h
    have h' : (i0.zero, i0.size, i0.bytes) = (some (.int .u64 0), 1, 8) := Option.some.inj h
    simp only [Prod.mk.injEq] at h'
    exact ⟨hi, h'⟩)
  clear hi
  go_enter Try.func13, Try.ntmps13
  go_wp2_with fail
  go_loopw [3, 4] (fun l i wr => ∃ (k j g cp : Nat), j + k = xs.length ∧ (k = 0 ∨ xs.length ≤ 300) ∧ i = .int .i64 ((j : Int) - 1) ∧ l = .slice (some ⟨g, 0, none⟩) k cp ∧ (xs.reverse.take k).length = k ∧ O8 wr w.heap.size (some ⟨g, 0, none⟩) cp (xs.reverse.take k) ∧ Below w.heap.size w wr) (fun _ i _ => (intOf i + 1).toNat)
  case atStart => exact ⟨0, xs.length, w.heap.size, 0, rfl, .inl rfl, rfl, rfl, rfl, o8_buf, bel_al (Below.refl _ _) _⟩
  case round =>
    obtain ⟨k, j, g, cp, hkj, h300, rfl, rfl, hkl, O, hb⟩ := hrel
    have hge : w.heap.size ≤ g ∧ g < wr.heap.size := by
      rcases O.block with ⟨e, _⟩ | ⟨g', e, h1, h2⟩
      · cases e
      · cases e; exact ⟨h1, h2⟩
    by_cases hn : xs.length ≤ 300
    · have d3 : decide ((xs.length : Int) ≤ 300) = true := decide_eq_true (by omega)
      cases j with
      | succ j =>
        have ej : (((j + 1 : Nat) : Int) - 1) = (j : Int) := by omega
        rw [ej]
        have dj : decide (0 ≤ (j : Int)) = true := decide_eq_true (by omega)
        have hlt : j < xs.length := by omega
        obtain ⟨b, off, rfl, hcx⟩ := hx3 (by omega)
        have h1 := hcx j hlt
        have hbw : b < w.heap.size := World.block_lt_of_cell? w _ h1
        have h1 : wr.cell? ⟨b, off + j, none⟩ = some (.int .u64 (xs.getD j 0)) := (hb.cell (p := ⟨b, off + j, none⟩) hbw).trans h1
        have HT1 : Hid (xs.reverse.take (k + 1) = xs.reverse.take k ++ [xs.getD j 0]) := hid (by
          have hk : k < xs.reverse.length := by simp; omega
          rw [List.take_succ_eq_append_getElem hk]
          congr 2
          rw [List.getElem_reverse, List.getD_eq_getElem?_getD, List.getElem?_eq_getElem hlt]
          simp
          congr 1; omega)
        clear hx3 hcx
        obtain ⟨x, hxk⟩ : ∃ x, x = xs.getD j 0 := ⟨_, rfl⟩
        obtain ⟨os, hos⟩ : ∃ os, os = xs.reverse.take k := ⟨_, rfl⟩
        rw [← hxk] at h1 HT1
        rw [← hos] at HT1 O hkl
        clear hxk hos
        have hO1 : wr.ownsRow w.heap.size 37 1 (.slice (some ⟨g, 0, none⟩) k cp) k (os.map (Value.int .u64)) := by have := O; unfold O8 at this; rwa [hkl] at this
        have lws := hb.size
        clear O
        go_wp2_with (at_builtin; refine wpList_append_lies _ rfl _ _ 22 rfl w.heap.size 37 i0 (.int .u64 0) 1 8 Try.underlying22 HI.out.1 HI.out.2.1 HI.out.2.2.1 HI.out.2.2.2 rfl (by decide) (.slice (some ⟨g, 0, none⟩) k cp) k (os.map (Value.int .u64)) rfl (hO1.alloc _) ⟨wr.heap.size, 0, none⟩ 1 1 [.int .u64 x] rfl rfl (newsV wr _) (oneV _) (by decide) (by unfold maxLen; omega) (by omega) (by simp; omega) (wr.heap.size + 1) (by simp) ?_; intro g1 cp1 w2 hown2 hgrow hat hlt2)
        have ho2 : O8 w2 w.heap.size (some ⟨g1, 0, none⟩) cp1 (os ++ [x]) := o8_more (by rw [hkl]; exact hown2)
        have hb2 : Below w.heap.size w w2 := bel_own (bel_al hb _) hgrow hge.1
        clear hown2 hat
        go_roundw
        case rel => exact ⟨k + 1, j, g1, cp1, by omega, .inr hn, by go_num, rfl, by rw [HT1.out]; simp [hkl], by rw [HT1.out]; exact ho2, hb2⟩
        case measure => simp [intOf] <;> omega
      | zero =>
        obtain rfl : k = xs.length := by omega
        have e0 : (((0 : Nat) : Int) - 1) = -1 := by decide
        rw [e0]
        have hT : turnL xs = xs.reverse := by unfold turnL; rw [if_pos hn]
        have e1 : xs.reverse.take xs.length = xs.reverse := List.take_of_length_le (by simp)
        rw [e1] at O
        have HR := hid hT
        have HL : Hid (xs.reverse.length = xs.length) := hid (by simp)
        clear hT e1 hkl d3
        go_wp2
        go_ret
        exact ⟨g, cp, by rw [HR.out, HL.out]; rfl, by rw [HR.out]; exact O, hb⟩
    · have d3 : decide ((xs.length : Int) ≤ 300) = false := decide_eq_false (by omega)
      obtain rfl : k = 0 := h300.resolve_right hn
      obtain rfl : j = xs.length := by omega
      have dj : decide (0 ≤ (xs.length : Int) - 1) = true := decide_eq_true (by omega)
      have hT : turnL xs = [] := by unfold turnL; rw [if_neg hn]
      have HR := hid hT
      clear hT hx3 hkl h300
      go_wp2
      go_ret
      exact ⟨g, cp, by rw [HR.out]; rfl, by rw [HR.out]; exact O, hb⟩
theorem news_sl {w : World} {b off : Nat} {xs : List Int} (h : ∀ i, i < xs.length → w.cell? ⟨b, off + i, none⟩ = some (.int .u64 (xs.getD i 0))) : ∀ j u, (xs.map (Value.int .u64))[j]? = some u → w.cell? ((⟨b, off, none⟩ : Addr).add j) = some u := by
  intro j u hj
  rw [List.getElem?_map] at hj
  cases hx : xs[j]? with
  | none => rw [hx] at hj; cases hj
  | some x =>
    rw [hx] at hj
    obtain rfl : Value.int .u64 x = u := Option.some.inj hj
    have hlt := (List.getElem?_eq_some_iff.1 hx).1
    have := h j hlt
    rw [List.getD_eq_getElem?_getD, hx, Option.getD_some] at this
    rw [Addr.add_lit]; exact this
theorem one_map (xs : List Int) : ∀ u ∈ xs.map (Value.int .u64), u.oneCell' = true := by
  intro u hu; rw [List.mem_map] at hu; obtain ⟨x, -, rfl⟩ := hu; rfl
set_option maxHeartbeats 8000000 in
set_option maxRecDepth 100000 in
theorem clone_any (a : Option Addr) (cap : Nat) (xs : List Int) (w : World) (hx : Sl .u64 w (.slice a xs.length cap) xs) (hl : xs.length ≤ 1048576) :
    Calls Try.prog 65 #[.slice a xs.length cap] w fun r w' => ∃ a' c, r = .returned (.slice a' xs.length c) ∧ O8 w' w.heap.size a' c xs ∧ Below w.heap.size w w' := by
  obtain ⟨-, hx1, hx2, hx3⟩ := hx.cells
  have q22 : ∀ (w : World) (a : Option Addr) (n c n' c' : Nat), (binOp .eql 22 (.slice a n c) (.slice none n' c')).run Try.prog w = .ok (.bool a.isNone) w := fun w a n c n' c' => Lib.run_eql_slice_nil w _ _ a n c n' c' Try.underlying22
  obtain ⟨i0, hi⟩ : ∃ i0, Try.prog.info? 37 = some i0 := by
    have h := info64
    cases e : Try.prog.info? 37 with
    | none => rw [e] at h; cases h
    | some i => exact ⟨i, rfl⟩
  have HI : Hid (Try.prog.info? 37 = some i0 ∧ i0.zero = some (.int .u64 0) ∧ i0.size = 1 ∧ i0.bytes = 8) := hid (by
    have h := info64
    rw [hi] at h
    have h' : (i0.zero, i0.size, i0.bytes) = (some (.int .u64 0), 1, 8) := Option.some.inj h
    simp only [Prod.mk.injEq] at h'
    exact ⟨hi, h'⟩)
  clear hi
  cases a with
  | none =>
    have e : xs = [] := by
      by_cases hp : 0 < xs.length
      · obtain ⟨b, off, e, -⟩ := hx3 hp; cases e
      · exact List.eq_nil_of_length_eq_zero (by omega)
    subst e
    clear hx3
    go_enter Try.func65, Try.ntmps65
    go_wp2
    go_ret
    exact ⟨none, 0, rfl, by unfold O8; exact World.ownsRow_nil w _ _ _, Below.refl _ _⟩
  | some p =>
    have hO : O8 (w.alloc (.cells #[] 37)) w.heap.size (some ⟨w.heap.size, 0, none⟩) 0 [] := o8_buf
    have hnews : ∀ j u, (xs.map (Value.int .u64))[j]? = some u → (w.alloc (.cells #[] 37)).cell? (p.add j) = some u := by
      by_cases hp : 0 < xs.length
      · obtain ⟨b, off, e, hcx⟩ := hx3 hp
        obtain rfl : p = ⟨b, off, none⟩ := Option.some.inj e
        have hbw : b < w.heap.size := World.block_lt_of_cell? w _ (hcx 0 hp)
        exact news_sl (fun i hi => ((bel_al (Below.refl w.heap.size w) (.cells #[] 37)).cell (p := ⟨b, off + i, none⟩) hbw).trans (hcx i hi))
      · have e : xs = [] := List.eq_nil_of_length_eq_zero (by omega)
        subst e
        intro j u hj; simp at hj
    have HN := hid hnews
    clear hx3 hnews
    go_enter Try.func65, Try.ntmps65
    go_wp2_with (at_builtin; refine wpList_append_own _ rfl _ _ 22 rfl w.heap.size 37 i0 (.int .u64 0) 1 8 Try.underlying22 HI.out.1 HI.out.2.1 HI.out.2.2.1 HI.out.2.2.2 rfl (by decide) (.slice (some ⟨w.heap.size, 0, none⟩) 0 0) 0 [] rfl hO p xs.length cap (xs.map (Value.int .u64)) rfl (by simp) HN.out (one_map xs) (by unfold maxLen; omega) (by omega) (by simp) ?_; intro v' w2 hown2 hgrow hnil)
    go_wp2
    go_ret
    have h0 : 0 + xs.length = xs.length := Nat.zero_add _
    rw [h0, List.nil_append] at hown2
    have hb2 : Below w.heap.size w w2 := bel_own (bel_al (Below.refl _ _) _) hgrow (Nat.le_refl _)
    rcases id hown2.2 with ⟨e, -⟩ | ⟨g, cp, cur, e, -⟩
    · exact absurd (hnil.1 (by simpa using e)).1 (by simp)
    · subst e
      exact ⟨some ⟨g, 0, none⟩, cp, rfl, hown2, hb2⟩
/-- A vector of which the first k and the last k have changed places. -/
def revK (zs : List Int) (k : Nat) : List Int := (List.range zs.length).map (fun i => if i < k ∨ zs.length ≤ i + k then zs.getD (zs.length - 1 - i) 0 else zs.getD i 0)
theorem revK_len (zs : List Int) (k : Nat) : (revK zs k).length = zs.length := by simp [revK]
theorem revK_get {zs : List Int} {k i : Nat} (h : i < zs.length) : (revK zs k).getD i 0 = if i < k ∨ zs.length ≤ i + k then zs.getD (zs.length - 1 - i) 0 else zs.getD i 0 := by
  rw [List.getD_eq_getElem?_getD, List.getElem?_eq_getElem (by rw [revK_len]; exact h)]
  simp [revK]
theorem ext_getD {us vs : List Int} (hl : us.length = vs.length) (h : ∀ i, i < us.length → us.getD i 0 = vs.getD i 0) : us = vs := by
  apply List.ext_getElem hl
  intro i h1 h2
  have := h i h1
  rwa [List.getD_eq_getElem?_getD, List.getD_eq_getElem?_getD, List.getElem?_eq_getElem h1, List.getElem?_eq_getElem h2] at this
theorem revK_zero (zs : List Int) : revK zs 0 = zs := ext_getD (revK_len _ _) fun i hi => by
  rw [revK_len] at hi
  rw [revK_get hi, if_neg (by omega)]
theorem rev_get {zs : List Int} {i : Nat} (h : i < zs.length) : zs.reverse.getD i 0 = zs.getD (zs.length - 1 - i) 0 := by
  rw [List.getD_eq_getElem?_getD, List.getD_eq_getElem?_getD, List.getElem?_reverse h]
theorem revK_full {zs : List Int} {k : Nat} (h : zs.length ≤ 2 * k + 1) : revK zs k = zs.reverse := ext_getD (by rw [revK_len]; simp) fun i hi => by
  rw [revK_len] at hi
  rw [revK_get hi, rev_get hi]
  split
  · rfl
  · rw [show zs.length - 1 - i = i by omega]
theorem set_get {zs : List Int} {j i : Nat} {v : Int} (h : i < zs.length) : (zs.set j v).getD i 0 = if j = i then v else zs.getD i 0 := by
  rw [List.getD_eq_getElem?_getD, List.getD_eq_getElem?_getD, List.getElem?_set]
  split
  · rename_i e; subst e; rw [if_pos h]; rfl
  · rfl
theorem revK_step {zs : List Int} {k m : Nat} (hm : k + m + 1 = zs.length) (hk : k < m) : ((revK zs k).set k (zs.getD m 0)).set m (zs.getD k 0) = revK zs (k + 1) := ext_getD (by rw [List.length_set, List.length_set, revK_len, revK_len]) fun i hi => by
  rw [List.length_set, List.length_set, revK_len] at hi
  rw [set_get (by rw [List.length_set, revK_len]; exact hi), set_get (by rw [revK_len]; exact hi), revK_get hi, revK_get hi]
  by_cases e1 : m = i
  · rw [if_pos e1, if_pos (by omega)]; congr 1; omega
  · rw [if_neg e1]
    by_cases e2 : k = i
    · rw [if_pos e2, if_pos (by omega)]; congr 1; omega
    · rw [if_neg e2]
      by_cases e3 : i < k ∨ zs.length ≤ i + k
      · rw [if_pos e3, if_pos (by omega)]
      · rw [if_neg e3, if_neg (by omega)]
set_option maxHeartbeats 8000000 in
set_option maxRecDepth 100000 in
theorem rev_any (a : Option Addr) (cap B : Nat) (zs : List Int) (w : World) (ho : O8 w B a cap zs) (hl : zs.length ≤ 1048576) :
    Calls Try.prog 66 #[.slice a zs.length cap] w fun r w' => r = .returned (.tuple #[]) ∧ O8 w' B a cap zs.reverse ∧ w.grownBy w' (Value.slice a zs.length cap).ownBlock := by
  have mixed : Try.prog.follows Departure.mixedOrders = true := by kernel_rfl
  go_enter Try.func66, Try.ntmps66
  go_wp2
  go_loopw [2, 3] (fun s2 s3 wr => ∃ k m : Nat, k + m = zs.length ∧ s2 = .int .i64 k ∧ s3 = .int .i64 ((m : Int) - 1) ∧ k ≤ m + 1 ∧ wr.ownsRow B 37 1 (.slice a zs.length cap) zs.length ((revK zs k).map (Value.int .u64)) ∧ w.grownBy wr (Value.slice a zs.length cap).ownBlock) (fun _ s3 _ => (intOf s3 + 1).toNat)
  case atStart => exact ⟨0, zs.length, by omega, rfl, rfl, by omega, by rw [revK_zero]; exact ho, ⟨rfl, rfl, rfl, Nat.le_refl _, fun _ _ _ => rfl⟩⟩
  case round =>
    obtain ⟨k, m, hkm, rfl, rfl, hk1, hown, hg⟩ := hrel
    by_cases hlt : k + 1 < m
    · obtain ⟨m, rfl⟩ : ∃ m', m = m' + 1 := ⟨m - 1, by omega⟩
      have ej : (((m + 1 : Nat) : Int) - 1) = (m : Int) := by omega
      rw [ej]
      have dj : decide ((k : Int) < (m : Int)) = true := decide_eq_true (by omega)
      obtain ⟨g, rfl⟩ : ∃ g, a = some ⟨g, 0, none⟩ := by
        rcases ho.block with ⟨-, -, e⟩ | ⟨g, e, -⟩
        · subst e; simp at hkm
        · exact ⟨g, e⟩
      have ck : wr.cell? ⟨g, k, none⟩ = some (.int .u64 (zs.getD k 0)) := by
        rw [hown.cellAt k (by omega), List.getElem?_map, List.getElem?_eq_getElem (by rw [revK_len]; omega)]
        have h := revK_get (zs := zs) (k := k) (i := k) (by omega)
        rw [List.getD_eq_getElem?_getD, List.getElem?_eq_getElem (by rw [revK_len]; omega), if_neg (by omega)] at h
        simp only [Option.getD_some] at h
        rw [h]; rfl
      have cm : wr.cell? ⟨g, m, none⟩ = some (.int .u64 (zs.getD m 0)) := by
        rw [hown.cellAt m (by omega), List.getElem?_map, List.getElem?_eq_getElem (by rw [revK_len]; omega)]
        have h := revK_get (zs := zs) (k := k) (i := m) (by omega)
        rw [List.getD_eq_getElem?_getD, List.getElem?_eq_getElem (by rw [revK_len]; omega), if_neg (by omega)] at h
        simp only [Option.getD_some] at h
        rw [h]; rfl
      have fk := hown.frozenAt k
      have fm := hown.frozenAt m
      have hkn : k < zs.length := by omega
      have hmn : m < zs.length := by omega
      have s1 := hown.stored k (.int .u64 (zs.getD m 0))
      have s2 := s1.1.stored m (.int .u64 (zs.getD k 0))
      have ST : Hid (((wr.setCell ⟨g, k, none⟩ (.int .u64 (zs.getD m 0))).setCell ⟨g, m, none⟩ (.int .u64 (zs.getD k 0))).ownsRow B 37 1 (.slice (some ⟨g, 0, none⟩) zs.length cap) zs.length ((revK zs (k + 1)).map (Value.int .u64))) := hid (by
        have h := s2.1
        rw [← List.map_set, ← List.map_set, revK_step (by omega) (by omega)] at h
        exact h)
      have S1 := hid s1.2
      have S2 := hid s2.2
      clear s1 s2 hown
      obtain ⟨x, h_x⟩ : ∃ q, q = zs.getD k 0 := ⟨_, rfl⟩
      obtain ⟨y, h_y⟩ : ∃ q, q = zs.getD m 0 := ⟨_, rfl⟩
      rw [← h_x] at ck ST S2
      rw [← h_y] at cm ST S1 S2
      clear h_x h_y
      have HG := hid hg
      clear hg ho
      go_wp2_with fail
      go_region_o
      go_wp2
      go_roundw
      case rel =>
        refine ⟨k + 1, m, by omega, by go_num, rfl, by omega, ST.out, ?_⟩
        have h1 := S1.out
        have h2 := S2.out
        have h0 := HG.out
        exact ⟨h2.os.trans (h1.os.trans h0.os), h2.tape.trans (h1.tape.trans h0.tape), h2.output.trans (h1.output.trans h0.output), Nat.le_trans h0.size (Nat.le_trans h1.size h2.size), fun i hi hne => (h2.block i (Nat.lt_of_lt_of_le hi (Nat.le_trans h0.size h1.size)) hne).trans ((h1.block i (Nat.lt_of_lt_of_le hi h0.size) hne).trans (h0.block i hi hne))⟩
      case measure => simp [intOf] <;> omega
    · have dj : decide ((k : Int) < (m : Int) - 1) = false := decide_eq_false (by omega)
      have hf := revK_full (zs := zs) (k := k) (by omega)
      rw [hf] at hown
      have HO := hid hown
      have HG := hid hg
      clear hf hown hg ho
      go_wp2
      go_end0
      exact ⟨rfl, by unfold O8; rw [List.length_reverse]; exact HO.out, HG.out⟩
end Go.Proofs.Ytmnfidkpnogfmaa
