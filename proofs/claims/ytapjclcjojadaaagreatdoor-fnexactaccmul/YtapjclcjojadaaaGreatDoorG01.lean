/-
  Several texts in one: WideA, NumsB, LawsC, AccA, AD, ModeA.
-/
import Derived.Test.YtapjclcjojadaaaGreatDoorG00
import Derived.Deep.RegionHeld3
import Derived.Deep.DeepCutAuto
import Derived.Test.YtapjclcjojadaaaGreatDoorRows
import Derived.WalkKit
import Derived.WalkSpells
import Derived.WalkLawsBesides
/-
  Limbs cut to a wide that fits, by the program.
-/
namespace Go.Proofs.YtapjclcjojadaaaGreatDoor
set_option linter.unusedVariables false
set_option linter.unusedSimpArgs false
open Go.RowKit Go.Deep

/-- What limbs are as a wide that fits: the limbs, the sign, whether it fits. -/
def fitL (zs : List Int) : List Int := if (Nm.trim zs).length ≤ 200 then Nm.trim zs else []
def fitN (ng : Bool) (zs : List Int) : Bool := if (Nm.trim zs).length ≤ 200 then ng && !decide ((Nm.trim zs).length = 0) else false
def fitO (zs : List Int) : Bool := decide ((Nm.trim zs).length ≤ 200)

theorem Own.nil (w : World) (B : Nat) : Own w B none 0 [] := World.ownsRow_nil w B 147 1
/-- The first n limbs of what is owned. -/
theorem Own.take {w : World} {B : Nat} {a : Option Addr} {cap : Nat} {zs : List Int} (h : Own w B a cap zs) (n : Nat) (hn : n ≤ zs.length) : Own w B a cap (zs.take n) := by
  have hlen : (zs.take n).length = n := by simp; omega
  rcases h.2 with ⟨h1, h2⟩ | ⟨g, cap', cur, h1, h2, h3, h4, h5, h6, h7⟩
  · simp at h1
    obtain ⟨rfl, hz, rfl⟩ := h1
    subst hz
    simp
    exact Own.nil w B
  · simp only [Value.slice.injEq, true_and] at h1
    obtain ⟨rfl, rfl⟩ := h1
    refine ⟨by simp, .inr ⟨g, cap, cur, by rw [hlen], h2, h3, by rw [hlen]; omega, h5, h6, ?_⟩⟩
    rw [hlen, List.map_take, ← h7, List.take_take, Nat.mul_one, Nat.mul_one, Nat.min_eq_left hn]

theorem fit_cases (ng : Bool) (zs : List Int) {n : Nat} (h : Nm.trim zs = zs.take n) (hn : n ≤ zs.length) :
    (n = 0 → fitL zs = [] ∧ fitN ng zs = false ∧ fitO zs = true) ∧ (200 < n → fitL zs = [] ∧ fitN ng zs = false ∧ fitO zs = false) ∧ (0 < n → n ≤ 200 → fitL zs = zs.take n ∧ fitN ng zs = ng ∧ fitO zs = true) := by
  have hlen : (zs.take n).length = n := by simp; omega
  unfold fitL fitN fitO
  rw [h, hlen]
  refine ⟨fun e => ?_, fun e => ?_, fun e1 e2 => ?_⟩
  · subst e; simp
  · rw [if_neg (by omega), if_neg (by omega)]; simp; omega
  · rw [if_pos e2, if_pos e2]; simp [show n ≠ 0 by omega, e2]

set_option maxHeartbeats 1000000 in
theorem fitted_at (ng : Bool) (a : Option Addr) (cap : Nat) (zs : List Int) (B : Nat) (w : World) (ho : Own w B a cap zs) (hz : Nm.Dg zs) (hl : zs.length ≤ 1048576) :
    Calls Tryz.prog 179 #[.bool ng, .slice a zs.length cap] w fun e w' => ∃ a' c', e = .returned (.tuple #[.agg #[.bool (fitN ng zs), .slice a' (fitL zs).length c'], .bool (fitO zs)]) ∧ Own w' B a' c' (fitL zs) ∧ Below w.heap.size w w' ∧ (a' = none ∨ a' = a) := by
  obtain ⟨-, hc1, hc2, hc3⟩ := ho.sl.cells
  go_enter Tryz.func179, Tryz.ntmps179
  go_wp2_with fail
  go_loop [6] (fun i => ∃ n : Nat, n ≤ zs.length ∧ i = .int .i64 n ∧ (∀ i, n ≤ i → i < zs.length → zs.getD i 0 = 0)) (fun i => (intOf i).toNat)
  case atStart => exact ⟨zs.length, Nat.le_refl _, rfl, fun i h1 h2 => absurd h2 (by omega)⟩
  case round =>
    obtain ⟨n, hn, rfl, hpre⟩ := hrel
    have PRE := hid hpre
    clear hpre
    by_cases h0 : n = 0
    · subst h0
      have hT := Nm.trim_take hz (Nat.zero_le _) PRE.out (.inl rfl)
      obtain ⟨e1, e2, e3⟩ := (fit_cases ng zs hT (Nat.zero_le _)).1 rfl
      have HF := hid (And.intro e1 (And.intro e2 e3))
      clear hT e1 e2 e3 hc3
      go_wp2
      refine bodyPost_ret (v := .tuple #[.agg #[.bool false, .slice none 0 0], .bool true]) (by simp [results, Tryz.results179, go_sem]) rfl ⟨none, 0, ?_, ?_, (by repeat (first | exact Below.refl _ _ | refine Below.drew ?_ | refine bel_dn ?_ _ | refine bel_al ?_ _ | refine Below.setCell ?_ (by first | omega | (simp; done) | (simp; omega)) _ | refine Below.alloc ?_ (by first | omega | (simp; done) | (simp; omega)) _)), .inl rfl⟩
      · rw [HF.out.1, HF.out.2.1, HF.out.2.2]; rfl
      · rw [HF.out.1]; exact Own.nil _ _
    · obtain ⟨b, off, rfl, hcell⟩ := hc3 (by omega)
      have hcx := hcell (n - 1) (by omega)
      have hlt := World.block_lt_of_cell? w _ hcx
      obtain ⟨z, hzk⟩ : ∃ z, z = zs.getD (n - 1) 0 := ⟨_, rfl⟩
      rw [← hzk] at hcx
      have HZ := hid hzk
      clear hzk hcell hc3
      have hn1 : 1 ≤ n := by omega
      by_cases hz0 : z = 0
      · have t0 : (z == 0) = true := by simpa using hz0
        have HZ0 := hid hz0
        clear hz0
        go_wp2
        go_round
        case rel => exact ⟨n - 1, by omega, by go_num, fun i h1 h2 => by
          by_cases e : i = n - 1
          · subst e; rw [← HZ.out]; exact HZ0.out
          · exact PRE.out i (by omega) h2⟩
        case measure => simp [intOf]; omega
      · have t0 : (z == 0) = false := by simpa using hz0
        have hT := Nm.trim_take hz hn PRE.out (.inr (by rw [← HZ.out]; exact hz0))
        have hfc := fit_cases ng zs hT hn
        have HF := hid hfc
        have tn : ((n : Int) == 0) = false := by rw [beq_eq_false_iff_ne]; omega
        clear hfc hT hz0
        by_cases h200 : n ≤ 200
        · go_wp2
          refine bodyPost_ret (v := .tuple #[.agg #[.bool ng, .slice (some ⟨b, off, none⟩) n cap], .bool true]) (by simp [results, Tryz.results179, go_sem]) rfl ⟨some ⟨b, off, none⟩, cap, ?_, ?_, (by repeat (first | exact Below.refl _ _ | refine Below.drew ?_ | refine bel_dn ?_ _ | refine bel_al ?_ _ | refine Below.setCell ?_ (by first | omega | (simp; done) | (simp; omega)) _ | refine Below.alloc ?_ (by first | omega | (simp; done) | (simp; omega)) _)), .inr rfl⟩
          · obtain ⟨e1, e2, e3⟩ := HF.out.2.2 hn1 h200
            rw [e1, e2, e3, List.length_take, Nat.min_eq_left hn]
          · obtain ⟨e1, e2, e3⟩ := HF.out.2.2 hn1 h200
            rw [e1]
            exact (ho.take n hn).below (by repeat (first | exact Below.refl _ _ | refine Below.drew ?_ | refine bel_dn ?_ _ | refine bel_al ?_ _ | refine Below.setCell ?_ (by first | omega | (simp; done) | (simp; omega)) _ | refine Below.alloc ?_ (by first | omega | (simp; done) | (simp; omega)) _))
        · go_wp2
          refine bodyPost_ret (v := .tuple #[.agg #[.bool false, .slice none 0 0], .bool false]) (by simp [results, Tryz.results179, go_sem]) rfl ⟨none, 0, ?_, ?_, (by repeat (first | exact Below.refl _ _ | refine Below.drew ?_ | refine bel_dn ?_ _ | refine bel_al ?_ _ | refine Below.setCell ?_ (by first | omega | (simp; done) | (simp; omega)) _ | refine Below.alloc ?_ (by first | omega | (simp; done) | (simp; omega)) _)), .inl rfl⟩
          · obtain ⟨e1, e2, e3⟩ := HF.out.2.1 (by omega)
            rw [e1, e2, e3]; rfl
          · obtain ⟨e1, e2, e3⟩ := HF.out.2.1 (by omega)
            rw [e1]; exact Own.nil _ _
theorem fitted_any (ng : Bool) (a : Option Addr) (cap : Nat) (zs : List Int) (B : Nat) (w : World) (ho : Own w B a cap zs) (hz : Nm.Dg zs) (hl : zs.length ≤ 1048576) :
    Calls Tryz.prog 179 #[.bool ng, .slice a zs.length cap] w fun e w' => ∃ a' c', e = .returned (.tuple #[.agg #[.bool (fitN ng zs), .slice a' (fitL zs).length c'], .bool (fitO zs)]) ∧ Own w' B a' c' (fitL zs) ∧ Below w.heap.size w w' :=
  (fitted_at ng a cap zs B w ho hz hl).mono fun e w' ⟨a', c', h1, h2, h3, _⟩ => ⟨a', c', h1, h2, h3⟩
end Go.Proofs.YtapjclcjojadaaaGreatDoor
/-
  Plain mathematics, no Go: the limbs of a number; what a list is worth when a limb of it is set; wides as integers.
-/
namespace Go.Proofs.YtapjclcjojadaaaGreatDoor
set_option linter.unusedVariables false
namespace Nm

/-- The limbs of a number, least first, none on top that is 0. -/
def lim (n : Nat) : List Int := if h : n = 0 then [] else ((n % 4294967296 : Nat) : Int) :: lim (n / 4294967296)
termination_by n
decreasing_by exact Nat.div_lt_self (by omega) (by decide)

theorem lim_zero : lim 0 = [] := by unfold lim; simp
theorem lim_pos {n : Nat} (h : n ≠ 0) : lim n = ((n % 4294967296 : Nat) : Int) :: lim (n / 4294967296) := by rw [lim]; simp [h]

theorem lim_dg (n : Nat) : Dg (lim n) := by
  induction n using Nat.strongRecOn with
  | _ n ih =>
    by_cases h : n = 0
    · subst h; rw [lim_zero]; exact Dg.nil
    · rw [lim_pos h]; exact Dg.cons (by omega) (ih _ (Nat.div_lt_self (by omega) (by decide)))

theorem lim_val (n : Nat) : val (lim n) = n := by
  induction n using Nat.strongRecOn with
  | _ n ih =>
    by_cases h : n = 0
    · subst h; rw [lim_zero]; rfl
    · rw [lim_pos h, val, ih _ (Nat.div_lt_self (by omega) (by decide))]; omega

theorem lim_nil {n : Nat} (h : lim n = []) : n = 0 := by
  by_cases h0 : n = 0
  · exact h0
  · rw [lim_pos h0] at h; cases h

theorem lim_nz (n : Nat) : Nz (lim n) := by
  induction n using Nat.strongRecOn with
  | _ n ih =>
    by_cases h : n = 0
    · subst h; rw [lim_zero]; exact Nz.nil
    · rw [lim_pos h]
      have h1 := ih _ (Nat.div_lt_self (by omega : 0 < n) (by decide : 1 < 4294967296))
      intro z hz
      cases e : lim (n / 4294967296) with
      | nil => rw [e] at hz; have := lim_nil e; simp at hz; omega
      | cons y r => rw [e] at hz; rw [List.getLast?_cons_cons, ← e] at hz; exact h1 z hz

theorem lim_of {l : List Int} (h : Dg l) (k : Nz l) : lim (val l).toNat = l :=
  val_inj (lim_dg _) h (lim_nz _) k (by rw [lim_val]; have := val_nonneg h; omega)
theorem trim_lim {l : List Int} (h : Dg l) : trim l = lim (val l).toNat :=
  val_inj (trim_dg h) (lim_dg _) (trim_nz _) (lim_nz _) (by rw [lim_val, trim_val]; have := val_nonneg h; omega)
theorem lim_length (n k : Nat) : (lim n).length ≤ k ↔ (n : Int) < pw k := by
  rw [length_le_iff (lim_dg n) (lim_nz n) k, lim_val]
theorem lim_length_zero (n : Nat) : (lim n).length = 0 ↔ n = 0 := by
  constructor
  · intro h; exact lim_nil (List.eq_nil_of_length_eq_zero h)
  · rintro rfl; rw [lim_zero]; rfl

/-- A limb is set. -/
theorem val_set (l : List Int) (k : Nat) (v : Int) (h : k < l.length) : val (l.set k v) = val l + pw k * (v - l.getD k 0) := by
  induction l generalizing k with
  | nil => simp at h
  | cons z r ih =>
    cases k with
    | zero => simp [val, pw]; omega
    | succ k =>
      have := ih k (by simpa using h)
      simp only [List.set_cons_succ, val, this, pw, List.getD_cons_succ]
      rw [Int.mul_add, Int.mul_assoc]; omega
theorem Dg.set {l : List Int} (h : Dg l) (k : Nat) {v : Int} (hv : 0 ≤ v ∧ v < 4294967296) : Dg (l.set k v) := fun x hx => by
  rcases List.mem_or_eq_of_mem_set hx with hx | rfl
  · exact h x hx
  · exact hv
theorem getD_set (l : List Int) (k i : Nat) (v : Int) (h : k < l.length) : (l.set k v).getD i 0 = if i = k then v else l.getD i 0 := by
  rw [List.getD_eq_getElem?_getD, List.getElem?_set, List.getD_eq_getElem?_getD]
  by_cases e : k = i
  · subst e; simp [h]
  · rw [if_neg e, if_neg (fun h => e h.symm)]

theorem take_snoc {l : List Int} {k : Nat} (h : k < l.length) : l.take (k + 1) = l.take k ++ [l.getD k 0] := by
  rw [List.take_succ_eq_append_getElem h]; simp [List.getD_eq_getElem?_getD, h]
/-- The first limbs, and one more (or 0, behind the last one). -/
theorem val_take_succ (l : List Int) (k : Nat) : val (l.take (k + 1)) = val (l.take k) + pw k * l.getD k 0 := by
  by_cases h : k < l.length
  · rw [take_snoc h, val_append]
    simp [val, Nat.min_eq_left (Nat.le_of_lt h)]
  · rw [List.take_of_length_le (by omega), List.take_of_length_le (by omega), List.getD_eq_getElem?_getD, List.getElem?_eq_none (by omega)]; simp
theorem val_snoc (l : List Int) (z : Int) : val (l ++ [z]) = val l + pw l.length * z := by rw [val_append]; simp [val]
theorem getD_out {l : List Int} {k : Nat} (h : l.length ≤ k) : l.getD k 0 = 0 := by rw [List.getD_eq_getElem?_getD, List.getElem?_eq_none (by omega)]; rfl
theorem getD_replicate (n k : Nat) : (List.replicate n (0 : Int)).getD k 0 = 0 := by
  rw [List.getD_eq_getElem?_getD]
  by_cases h : k < n
  · simp [h]
  · simp [h]

/-- A wide that is x: the limbs, the sign; what is answered where it may not fit. -/
def wl (x : Int) : List Int := lim x.natAbs
def wn (x : Int) : Bool := decide (x < 0)
def fits (x : Int) : Bool := decide ((wl x).length ≤ 200)
def outL (x : Int) : List Int := if fits x then wl x else []
def outN (x : Int) : Bool := fits x && wn x
/-- What a wide with this sign and limbs is. -/
def wv (ng : Bool) (zs : List Int) : Int := if ng then - val zs else val zs
theorem natAbs_wv {zs : List Int} (ng : Bool) (h : Dg zs) : (wv ng zs).natAbs = (val zs).toNat := by
  have := val_nonneg h
  unfold wv; cases ng <;> simp <;> omega
theorem wl_wv {zs : List Int} (ng : Bool) (h : Dg zs) : wl (wv ng zs) = trim zs := by
  unfold wl; rw [natAbs_wv ng h, trim_lim h]
theorem wn_wv {zs : List Int} (ng : Bool) (h : Dg zs) : wn (wv ng zs) = (ng && !decide ((trim zs).length = 0)) := by
  have h0 := val_nonneg h
  have h1 : (trim zs).length = 0 ↔ val zs = 0 := by rw [trim_lim h, lim_length_zero]; omega
  unfold wn wv
  by_cases e : val zs = 0
  · rw [decide_eq_true (h1.2 e), e]; cases ng <;> simp
  · rw [decide_eq_false (fun h => e (h1.1 h))]; cases ng
    · simp; omega
    · simp; omega
theorem wl_dg (x : Int) : Dg (wl x) := lim_dg _
theorem wl_nz (x : Int) : Nz (wl x) := lim_nz _
theorem val_wl (x : Int) : val (wl x) = x.natAbs := lim_val _
theorem wv_out (x : Int) : wv (wn x) (wl x) = x := by
  unfold wv wn; rw [val_wl]; by_cases h : x < 0 <;> simp [h] <;> omega
theorem outL_dg (x : Int) : Dg (outL x) := by
  unfold outL; split
  · exact wl_dg x
  · exact Dg.nil
theorem outL_length (x : Int) : (outL x).length ≤ 200 := by
  unfold outL; split
  · rename_i h; simpa [fits] using h
  · simp
end Nm
end Go.Proofs.YtapjclcjojadaaaGreatDoor
/-
  What the laws' marks leave alone.
-/
namespace Go.Proofs.YtapjclcjojadaaaGreatDoor
set_option linter.unusedVariables false
set_option linter.unusedSimpArgs false
open Go.RowKit Go.Deep
/-- Where a slice's row lies, if there is one: told by its first cell's block. -/
theorem Own.at {w : World} {B : Nat} {a : Option Addr} {cap : Nat} {zs : List Int} (h : Own w B a cap zs) (n c : Nat) : ∀ g, (Value.slice a n c).ownBlock = some g → B ≤ g ∧ g < w.heap.size := by
  intro g hg
  rcases h.block with ⟨rfl, _, _⟩ | ⟨g', rfl, h1, h2⟩
  · simp [Value.ownBlock] at hg
  · simp [Value.ownBlock] at hg; subst hg; exact ⟨h1, h2⟩
theorem Box.grown {w w' : World} {b : Nat} {v0 v1 : Value} {row : Option Nat} (h : Box w b v0 v1) (hg : w.grownBy w' row) (hne : ∀ g, row = some g → b ≠ g) : Box w' b v0 v1 := by
  have hlt := World.block_lt_of_cell? w _ h.1
  have e := hg.block b hlt (by
    cases row with
    | none => simp
    | some g => simpa using hne g rfl)
  exact ⟨(World.cell?_of_block (a := ⟨b, 0, none⟩) e).trans h.1, (World.cell?_of_block (a := ⟨b, 1, none⟩) e).trans h.2⟩
/-- What is owned below what is marked. -/
theorem Own.under {w w' : World} {B : Nat} {a : Option Addr} {cap : Nat} {zs : List Int} {row : Option Nat} (h : Own w B a cap zs) (hg : w.grownBy w' row) (hlt : ∀ g g', a = some ⟨g, 0, none⟩ → row = some g' → g ≠ g') : Own w' B a cap zs :=
  h.kept hg (fun g hg' hr => hlt g g hg' hr rfl)
theorem Sl.grown {k : IntKind} {w w' : World} {v : Value} {zs : List Int} {row : Option Nat} (h : Sl k w v zs) (hg : w.grownBy w' row) (hne : ∀ g, row = some g → w.heap.size ≤ g ∨ ∀ b off n cap, v = .slice (some ⟨b, off, none⟩) n cap → b ≠ g) : Sl k w' v zs := by
  obtain ⟨a, cap, rfl, h1, h2, h3⟩ := h
  refine ⟨a, cap, rfl, h1, h2, ?_⟩
  rcases h3 with h3 | ⟨b, off, rfl, hc⟩
  · exact .inl h3
  · refine .inr ⟨b, off, rfl, fun i hi => ?_⟩
    have hci := hc i hi
    have hlt := World.block_lt_of_cell? w _ hci
    have e := hg.block b hlt (by
      cases row with
      | none => simp
      | some g =>
        rcases hne g rfl with h | h
        · simp at hlt ⊢; omega
        · simpa using h b off _ _ rfl)
    exact (World.cell?_of_block (a := ⟨b, off + i, none⟩) e).trans hci
/-- Nothing old has turned, where only a new block is marked. -/
theorem bel_mark {w W w' : World} {row : Option Nat} (h : Below w.heap.size w W) (hg : W.grownBy w' row) (hge : ∀ g, row = some g → w.heap.size ≤ g) : Below w.heap.size w w' :=
  h.grown hg h.size hge
theorem iot_dg (n : Nat) (hn : n ≤ 1048576) : Nm.Dg (iot 1 n) := by
  intro z hz
  simp only [iot, List.mem_map, List.mem_range] at hz
  obtain ⟨i, hi, rfl⟩ := hz
  omega
theorem heldR_iot (n : Nat) : heldR 1 (iot 1 n) = 1 + n := by unfold heldR; rw [iot_length, if_pos rfl]
theorem eqW_refl (n : Bool) (zs : List Int) : eqW n n zs zs = true := by simp [eqW, eqL]
end Go.Proofs.YtapjclcjojadaaaGreatDoor
/-
  Accumulators in memory, nine cells; the laws' own helpers over them.
-/
namespace Go.Proofs.YtapjclcjojadaaaGreatDoor
set_option linter.unusedVariables false
set_option linter.unusedSimpArgs false
open Go.RowKit Go.Deep
/-- A box of nine cells that may be written. -/
structure Q9 (w : World) (b : Nat) (v0 v1 v2 v3 v4 v5 v6 v7 v8 : Value) : Prop where
  c0 : w.cell? ⟨b, 0, none⟩ = some v0
  c1 : w.cell? ⟨b, 1, none⟩ = some v1
  c2 : w.cell? ⟨b, 2, none⟩ = some v2
  c3 : w.cell? ⟨b, 3, none⟩ = some v3
  c4 : w.cell? ⟨b, 4, none⟩ = some v4
  c5 : w.cell? ⟨b, 5, none⟩ = some v5
  c6 : w.cell? ⟨b, 6, none⟩ = some v6
  c7 : w.cell? ⟨b, 7, none⟩ = some v7
  c8 : w.cell? ⟨b, 8, none⟩ = some v8
  f0 : w.frozen? ⟨b, 0, none⟩ = false
  f1 : w.frozen? ⟨b, 1, none⟩ = false
  f2 : w.frozen? ⟨b, 2, none⟩ = false
  f3 : w.frozen? ⟨b, 3, none⟩ = false
  f4 : w.frozen? ⟨b, 4, none⟩ = false
  f5 : w.frozen? ⟨b, 5, none⟩ = false
  f6 : w.frozen? ⟨b, 6, none⟩ = false
  f7 : w.frozen? ⟨b, 7, none⟩ = false
  f8 : w.frozen? ⟨b, 8, none⟩ = false
theorem Q9.lt {w : World} {b : Nat} {v0 v1 v2 v3 v4 v5 v6 v7 v8 : Value} (h : Q9 w b v0 v1 v2 v3 v4 v5 v6 v7 v8) : b < w.heap.size := World.block_lt_of_cell? w _ h.c0
theorem Q9.cs {w : World} {b : Nat} {v0 v1 v2 v3 v4 v5 v6 v7 v8 : Value} (h : Q9 w b v0 v1 v2 v3 v4 v5 v6 v7 v8) : w.cell? ⟨b, 0, none⟩ = some v0 ∧ w.cell? ⟨b, 1, none⟩ = some v1 ∧ w.cell? ⟨b, 2, none⟩ = some v2 ∧ w.cell? ⟨b, 3, none⟩ = some v3 ∧ w.cell? ⟨b, 4, none⟩ = some v4 ∧ w.cell? ⟨b, 5, none⟩ = some v5 ∧ w.cell? ⟨b, 6, none⟩ = some v6 ∧ w.cell? ⟨b, 7, none⟩ = some v7 ∧ w.cell? ⟨b, 8, none⟩ = some v8 := ⟨h.c0, h.c1, h.c2, h.c3, h.c4, h.c5, h.c6, h.c7, h.c8⟩
theorem Q9.of_block {w w' : World} {b : Nat} {v0 v1 v2 v3 v4 v5 v6 v7 v8 : Value} (h : Q9 w b v0 v1 v2 v3 v4 v5 v6 v7 v8) (e : w'.heap[b]? = w.heap[b]?) : Q9 w' b v0 v1 v2 v3 v4 v5 v6 v7 v8 :=
  ⟨(World.cell?_of_block (a := ⟨b, 0, none⟩) e).trans h.c0, (World.cell?_of_block (a := ⟨b, 1, none⟩) e).trans h.c1, (World.cell?_of_block (a := ⟨b, 2, none⟩) e).trans h.c2, (World.cell?_of_block (a := ⟨b, 3, none⟩) e).trans h.c3, (World.cell?_of_block (a := ⟨b, 4, none⟩) e).trans h.c4, (World.cell?_of_block (a := ⟨b, 5, none⟩) e).trans h.c5, (World.cell?_of_block (a := ⟨b, 6, none⟩) e).trans h.c6, (World.cell?_of_block (a := ⟨b, 7, none⟩) e).trans h.c7, (World.cell?_of_block (a := ⟨b, 8, none⟩) e).trans h.c8, (World.frozen?_of_block (a := ⟨b, 0, none⟩) e).trans h.f0, (World.frozen?_of_block (a := ⟨b, 1, none⟩) e).trans h.f1, (World.frozen?_of_block (a := ⟨b, 2, none⟩) e).trans h.f2, (World.frozen?_of_block (a := ⟨b, 3, none⟩) e).trans h.f3, (World.frozen?_of_block (a := ⟨b, 4, none⟩) e).trans h.f4, (World.frozen?_of_block (a := ⟨b, 5, none⟩) e).trans h.f5, (World.frozen?_of_block (a := ⟨b, 6, none⟩) e).trans h.f6, (World.frozen?_of_block (a := ⟨b, 7, none⟩) e).trans h.f7, (World.frozen?_of_block (a := ⟨b, 8, none⟩) e).trans h.f8⟩
theorem Q9.below {w w' : World} {b : Nat} {v0 v1 v2 v3 v4 v5 v6 v7 v8 : Value} (h : Q9 w b v0 v1 v2 v3 v4 v5 v6 v7 v8) (hb : Below w.heap.size w w') : Q9 w' b v0 v1 v2 v3 v4 v5 v6 v7 v8 := h.of_block (hb.block b h.lt)
theorem Q9.new (w : World) (v0 v1 v2 v3 v4 v5 v6 v7 v8 : Value) (t : TypeId) : Q9 (w.alloc (.cells #[v0, v1, v2, v3, v4, v5, v6, v7, v8] t)) w.heap.size v0 v1 v2 v3 v4 v5 v6 v7 v8 := ⟨by simp, by simp, by simp, by simp, by simp, by simp, by simp, by simp, by simp, by simp, by simp, by simp, by simp, by simp, by simp, by simp, by simp, by simp⟩
theorem Q9.alloc {w : World} {b : Nat} {v0 v1 v2 v3 v4 v5 v6 v7 v8 : Value} (h : Q9 w b v0 v1 v2 v3 v4 v5 v6 v7 v8) (o : Obj) : Q9 (w.alloc o) b v0 v1 v2 v3 v4 v5 v6 v7 v8 := h.below ((Below.refl _ _).alloc (Nat.le_refl _) _)
theorem Q9.drew {w : World} {b : Nat} {v0 v1 v2 v3 v4 v5 v6 v7 v8 : Value} (h : Q9 w b v0 v1 v2 v3 v4 v5 v6 v7 v8) : Q9 w.drew b v0 v1 v2 v3 v4 v5 v6 v7 v8 := ⟨h.c0, h.c1, h.c2, h.c3, h.c4, h.c5, h.c6, h.c7, h.c8, h.f0, h.f1, h.f2, h.f3, h.f4, h.f5, h.f6, h.f7, h.f8⟩
theorem Q9.grown {w w' : World} {b : Nat} {v0 v1 v2 v3 v4 v5 v6 v7 v8 : Value} {row : Option Nat} (h : Q9 w b v0 v1 v2 v3 v4 v5 v6 v7 v8) (hg : w.grownBy w' row) (hne : ∀ g, row = some g → b ≠ g) : Q9 w' b v0 v1 v2 v3 v4 v5 v6 v7 v8 :=
  h.of_block (hg.block b h.lt (fun e => hne b e.symm rfl))
theorem Q9.other {w : World} {b : Nat} {v0 v1 v2 v3 v4 v5 v6 v7 v8 : Value} (h : Q9 w b v0 v1 v2 v3 v4 v5 v6 v7 v8) {p : Addr} (hp : b ≠ p.block) (u : Value) : Q9 (w.setCell p u) b v0 v1 v2 v3 v4 v5 v6 v7 v8 := h.of_block (Below.heap_setCell w p u b hp)
set_option maxHeartbeats 400000 in
theorem szA_any (fm : Int) (ng : Bool) (T : Int) (nn bd pl mi am : Bool) (a : Option Addr) (len cap : Nat) (left : Int) (w : World) (hl : len ≤ 9223372036854775807) (h0 : 0 ≤ left) (h1 : left ≤ 1048576) :
    Calls Tryz.prog 15 #[.agg #[.int .i64 fm, .bool ng, .slice a len cap, .int .i64 T, .bool nn, .bool bd, .bool pl, .bool mi, .bool am], .int .i64 left] w fun e w' => e = .returned (.int .i64 (szR left len)) ∧ Below w.heap.size w w' := by
  by_cases h : szR left len < 0
  · have hr : szR left len = -1 := by unfold szR at *; split at h <;> rename_i hc <;> simp only [hc, if_true, if_false] <;> omega
    have H : Hid (szR left len = -1) := hr
    clear hr
    go_enter Tryz.func15, Tryz.ntmps15
    go_wp2_with fail
    refine (szW_any ng a len cap left _ hl h0 h1).mono ?_
    rintro e w1 ⟨rfl, hb1⟩
    go_wp2
    go_ret
    exact ⟨ret_int H.out.symm, (by repeat (first | exact Below.refl _ _ | refine Below.drew ?_ | refine bel_dn ?_ _ | refine bel_al ?_ _ | refine bel_go ?_ hb1 | refine Below.setCell ?_ (by first | omega | (simp; done) | (simp; omega)) _ | refine Below.alloc ?_ (by first | omega | (simp; done) | (simp; omega)) _ | refine Below.trans ?_ (Below.mono hb1 (by first | omega | (simp; done) | (simp; omega)))))⟩
  · go_enter Tryz.func15, Tryz.ntmps15
    go_wp2_with fail
    refine (szW_any ng a len cap left _ hl h0 h1).mono ?_
    rintro e w1 ⟨rfl, hb1⟩
    go_wp2
    go_ret
    exact ⟨rfl, (by repeat (first | exact Below.refl _ _ | refine Below.drew ?_ | refine bel_dn ?_ _ | refine bel_al ?_ _ | refine bel_go ?_ hb1 | refine Below.setCell ?_ (by first | omega | (simp; done) | (simp; omega)) _ | refine Below.alloc ?_ (by first | omega | (simp; done) | (simp; omega)) _ | refine Below.trans ?_ (Below.mono hb1 (by first | omega | (simp; done) | (simp; omega)))))⟩
set_option maxHeartbeats 2000000 in
theorem toA_any (fm : Int) (ng : Bool) (T : Int) (nn bd pl mi am : Bool) (v : Value) (zs : List Int) (w : World) (hs : Sl .u32 w v zs) (hl : zs.length ≤ 1048576) :
    Calls Tryz.prog 17 #[.agg #[.int .i64 fm, .bool ng, v, .int .i64 T, .bool nn, .bool bd, .bool pl, .bool mi, .bool am]] w fun e w' => ∃ a' c', e = .returned (.agg #[.int .i64 fm, .bool ng, .slice a' zs.length c', .int .i64 T, .bool nn, .bool bd, .bool pl, .bool mi, .bool am]) ∧ Own w' w.heap.size a' c' zs ∧ Below w.heap.size w w' := by
  go_enter Tryz.func17, Tryz.ntmps17
  go_wp2_with fail
  refine (toW_any ng v zs _ (hs.below (by repeat (first | exact Below.refl _ _ | refine Below.drew ?_ | refine bel_dn ?_ _ | refine bel_al ?_ _ | refine Below.setCell ?_ (by first | omega | (simp; done) | (simp; omega)) _ | refine Below.alloc ?_ (by first | omega | (simp; done) | (simp; omega)) _))) hl).mono ?_
  rintro e w1 ⟨a', c', rfl, hown, hb⟩
  obtain ⟨hc, hf⟩ := bcell hb
  have hz : w.heap.size + 1 + 1 + 1 ≤ w1.heap.size := by have := hb.size; simp at this; omega
  go_wp2
  have ho : Own w1 (w.heap.size + 1 + 1 + 1) a' c' zs := by simpa using hown
  refine bodyPost_ret (v := .agg #[.int .i64 fm, .bool ng, .slice a' zs.length c', .int .i64 T, .bool nn, .bool bd, .bool pl, .bool mi, .bool am]) (by simp [results, Tryz.results17, go_sem, hc]) rfl ⟨a', c', rfl, ?_, ?_⟩
  · refine Own.base (B := w.heap.size + 1 + 1 + 1) ?_ (by omega)
    repeat (first | with_reducible exact ho | (with_reducible refine Own.setBelow ?_ ?_ _; rotate_left; simp))
  · exact (by repeat (first | (with_reducible refine Below.setCell ?_ ?_ _; rotate_left; focus (first | omega | (simp; done) | (simp; omega))) | (with_reducible exact Below.refl _ _) | (with_reducible refine Below.drew ?_) | (with_reducible refine bel_dn ?_ _) | (with_reducible refine bel_al ?_ _) | (with_reducible refine bel_go ?_ hb) | (with_reducible refine Below.alloc ?_ ?_ _; rotate_left; focus (first | omega | (simp; done) | (simp; omega))) | (with_reducible refine Below.trans ?_ (Below.mono hb ?_); rotate_left; focus (first | omega | (simp; done) | (simp; omega)))))
set_option maxHeartbeats 2000000 in
theorem eqA_same (fm : Int) (ng : Bool) (T : Int) (nn bd pl mi am : Bool) (a a' : Option Addr) (cap cap' : Nat) (zs : List Int) (w : World) (hx : Sl .u32 w (.slice a zs.length cap) zs) (hy : Sl .u32 w (.slice a' zs.length cap') zs) (hl : zs.length ≤ 140737488355328) :
    Calls Tryz.prog 19 #[.agg #[.int .i64 fm, .bool ng, .slice a zs.length cap, .int .i64 T, .bool nn, .bool bd, .bool pl, .bool mi, .bool am], .agg #[.int .i64 fm, .bool ng, .slice a' zs.length cap', .int .i64 T, .bool nn, .bool bd, .bool pl, .bool mi, .bool am]] w fun e w' => e = .returned (.bool true) ∧ Below w.heap.size w w' := by
  have q1 : (fm != fm) = false := by simp
  have q2 : (T != T) = false := by simp
  have q3 : (nn != nn) = false := by simp
  have q4 : (bd != bd) = false := by simp
  have q5 : (pl != pl) = false := by simp
  have q6 : (mi != mi) = false := by simp
  have q7 : (am != am) = false := by simp
  have C := hid (eqW_any ng ng a a' cap cap' zs zs ((w.alloc (.cells #[.int .i64 fm, .bool ng, .slice a zs.length cap, .int .i64 T, .bool nn, .bool bd, .bool pl, .bool mi, .bool am] 31)).alloc (.cells #[.int .i64 fm, .bool ng, .slice a' zs.length cap', .int .i64 T, .bool nn, .bool bd, .bool pl, .bool mi, .bool am] 31)) ((hx.alloc _).alloc _) ((hy.alloc _).alloc _) hl)
  rw [eqW_refl] at C
  go_enter Tryz.func19, Tryz.ntmps19
  go_wp2_with fail
  refine C.out.mono ?_
  rintro e w1 ⟨rfl, hb1⟩
  obtain ⟨hc, hf⟩ := bcell hb1
  go_wp2
  go_ret
  exact ⟨rfl, (by repeat (first | exact Below.refl _ _ | refine Below.drew ?_ | refine bel_dn ?_ _ | refine bel_al ?_ _ | refine bel_go ?_ hb1 | refine Below.setCell ?_ (by first | omega | (simp; done) | (simp; omega)) _ | refine Below.alloc ?_ (by first | omega | (simp; done) | (simp; omega)) _ | refine Below.trans ?_ (Below.mono hb1 (by first | omega | (simp; done) | (simp; omega)))))⟩
set_option maxHeartbeats 1000000 in
theorem markA_any (fm : Int) (ng : Bool) (T : Int) (nn bd pl mi am : Bool) (a : Option Addr) (cap : Nat) (zs : List Int) (k : Int) (B : Nat) (w : World) (ho : Own w B a cap zs) (hl : zs.length ≤ 1048576) (h0 : 0 ≤ k) (h1 : k ≤ 1073741824) :
    Calls Tryz.prog 20 #[.agg #[.int .i64 fm, .bool ng, .slice a zs.length cap, .int .i64 T, .bool nn, .bool bd, .bool pl, .bool mi, .bool am], .int .i64 k] w fun e w' => e = .returned (.int .i64 (k + zs.length)) ∧ Own w' B a cap (iot k zs.length) ∧ w.grownBy w' (Value.slice a zs.length cap).ownBlock := by
  go_enter Tryz.func20, Tryz.ntmps20
  go_wp2_with fail
  refine (markW_any ng a cap zs k B _ (ho.below ((Below.refl _ _).alloc (Nat.le_refl _) _)) hl h0 h1).mono ?_
  rintro e w1 ⟨rfl, hown, hg⟩
  go_wp2
  go_ret
  refine ⟨rfl, hown, hg.os, hg.tape, hg.output, ?_, fun i hi hne => ?_⟩
  · have := hg.size; simp at this; omega
  · exact (hg.block i (by simp; omega) hne).trans (Below.heap_alloc _ _ _ hi)
set_option maxHeartbeats 1000000 in
theorem heldA_any (fm : Int) (ng : Bool) (T : Int) (nn bd pl mi am : Bool) (a : Option Addr) (cap : Nat) (zs : List Int) (k : Int) (w : World) (hs : Sl .u32 w (.slice a zs.length cap) zs) (hz : Nm.Dg zs) (hl : zs.length ≤ 1048576) (h0 : 0 ≤ k) (h1 : k ≤ 1073741824) :
    Calls Tryz.prog 21 #[.agg #[.int .i64 fm, .bool ng, .slice a zs.length cap, .int .i64 T, .bool nn, .bool bd, .bool pl, .bool mi, .bool am], .int .i64 k] w fun e w' => e = .returned (.int .i64 (heldR k zs)) ∧ Below w.heap.size w w' := by
  by_cases hn : heldR k zs < 0
  · have HN := hid (heldR_lt k zs hn h0)
    go_enter Tryz.func21, Tryz.ntmps21
    go_wp2_with fail
    refine (heldW_any ng a cap zs k _ (hs.alloc _) hz hl h0 h1).mono ?_
    rintro e w1 ⟨rfl, hb⟩
    go_wp2
    go_ret
    exact ⟨ret_int HN.out.symm, (by repeat (first | exact Below.refl _ _ | refine Below.drew ?_ | refine bel_dn ?_ _ | refine bel_al ?_ _ | refine bel_go ?_ hb | refine Below.setCell ?_ (by first | omega | (simp; done) | (simp; omega)) _ | refine Below.alloc ?_ (by first | omega | (simp; done) | (simp; omega)) _ | refine Below.trans ?_ (Below.mono hb (by first | omega | (simp; done) | (simp; omega)))))⟩
  · go_enter Tryz.func21, Tryz.ntmps21
    go_wp2_with fail
    refine (heldW_any ng a cap zs k _ (hs.alloc _) hz hl h0 h1).mono ?_
    rintro e w1 ⟨rfl, hb⟩
    go_wp2
    go_ret
    exact ⟨rfl, (by repeat (first | exact Below.refl _ _ | refine Below.drew ?_ | refine bel_dn ?_ _ | refine bel_al ?_ _ | refine bel_go ?_ hb | refine Below.setCell ?_ (by first | omega | (simp; done) | (simp; omega)) _ | refine Below.alloc ?_ (by first | omega | (simp; done) | (simp; omega)) _ | refine Below.trans ?_ (Below.mono hb (by first | omega | (simp; done) | (simp; omega)))))⟩
end Go.Proofs.YtapjclcjojadaaaGreatDoor
/-
  One term more: the laying of flags, by the specification.
-/
namespace Go.Proofs.YtapjclcjojadaaaGreatDoor
set_option linter.unusedVariables false
set_option linter.unusedSimpArgs false
open Go.RowKit Go.Deep
theorem Q9.nw2b (w : World) (o : Obj) (v0 v1 v2 v3 v4 v5 v6 v7 v8 : Value) (t : TypeId) : Q9 ((w.alloc o).alloc (.cells #[v0, v1, v2, v3, v4, v5, v6, v7, v8] t)) (w.heap.size + 1) v0 v1 v2 v3 v4 v5 v6 v7 v8 := by simpa using Q9.new (w.alloc o) v0 v1 v2 v3 v4 v5 v6 v7 v8 t
set_option maxHeartbeats 4000000 in
set_option maxRecDepth 100000 in
theorem zero7 (fm : Int) (ng : Bool) (T : Int) (nn bd pl mi am : Bool) (p : Option Addr) (n cap : Nat) (zr neg : Bool) (w : World) (h0 : 0 ≤ T) (h1 : T ≤ 1000000) (T2 : Int) (hT2 : T2 = T + 1) (a2 : Bool) (ha2 : a2 = (zr && neg && (am || decide (T = 0)))) :
    Calls Tryz.prog 62 #[.agg #[.int .i64 fm, .bool ng, .slice p n cap, .int .i64 T, .bool nn, .bool bd, .bool pl, .bool mi, .bool am], .bool zr, .bool neg] w fun e w' => e = .returned (.agg #[.int .i64 fm, .bool ng, .slice p n cap, .int .i64 T2, .bool nn, .bool bd, .bool pl, .bool mi, .bool a2]) ∧ Below w.heap.size w w' := by
  have hd1 : (T == 0) = decide (T = 0) := by rw [Bool.eq_iff_iff, beq_iff_eq, decide_eq_true_eq]
  obtain ⟨d1, e1'⟩ : ∃ d1, d1 = decide (T = 0) := ⟨_, rfl⟩
  rw [← e1'] at hd1 ha2
  clear e1'
  have hwr : IntKind.i64.wrap (T + 1) = T2 := by rw [IntKind.wrap_i64]; omega
  have HT2 := hid hT2
  clear hT2
  cases zr with
  | false =>
    have ha : a2 = false := ha2
    subst ha
    clear ha2
    go_enter Tryz.func62, Tryz.ntmps62
    go_wp2
    refine bodyPost_ret (v := .agg #[.int .i64 fm, .bool ng, .slice p n cap, .int .i64 T2, .bool nn, .bool bd, .bool pl, .bool mi, .bool false]) (by simp [results, Tryz.results62, go_sem, HT2.out]) rfl ⟨rfl, ?_⟩
    exact (by repeat (first | (with_reducible refine Below.setCell ?_ ?_ _; rotate_left; focus (first | omega | (simp; done) | (simp; omega))) | (with_reducible exact Below.refl _ _) | (with_reducible refine Below.drew ?_) | (with_reducible refine bel_dn ?_ _) | (with_reducible refine bel_al ?_ _) | (with_reducible refine Below.alloc ?_ ?_ _; rotate_left; focus (first | omega | (simp; done) | (simp; omega)))))
  | true =>
  cases neg with
  | false =>
    have ha : a2 = false := ha2
    subst ha
    clear ha2
    go_enter Tryz.func62, Tryz.ntmps62
    go_wp2
    refine bodyPost_ret (v := .agg #[.int .i64 fm, .bool ng, .slice p n cap, .int .i64 T2, .bool nn, .bool bd, .bool pl, .bool mi, .bool false]) (by simp [results, Tryz.results62, go_sem, HT2.out]) rfl ⟨rfl, ?_⟩
    exact (by repeat (first | (with_reducible refine Below.setCell ?_ ?_ _; rotate_left; focus (first | omega | (simp; done) | (simp; omega))) | (with_reducible exact Below.refl _ _) | (with_reducible refine Below.drew ?_) | (with_reducible refine bel_dn ?_ _) | (with_reducible refine bel_al ?_ _) | (with_reducible refine Below.alloc ?_ ?_ _; rotate_left; focus (first | omega | (simp; done) | (simp; omega)))))
  | true =>
  cases am with
  | true =>
    have ha : a2 = true := ha2
    subst ha
    clear ha2
    go_enter Tryz.func62, Tryz.ntmps62
    go_wp2
    refine bodyPost_ret (v := .agg #[.int .i64 fm, .bool ng, .slice p n cap, .int .i64 T2, .bool nn, .bool bd, .bool pl, .bool mi, .bool true]) (by simp [results, Tryz.results62, go_sem, HT2.out]) rfl ⟨rfl, ?_⟩
    exact (by repeat (first | (with_reducible refine Below.setCell ?_ ?_ _; rotate_left; focus (first | omega | (simp; done) | (simp; omega))) | (with_reducible exact Below.refl _ _) | (with_reducible refine Below.drew ?_) | (with_reducible refine bel_dn ?_ _) | (with_reducible refine bel_al ?_ _) | (with_reducible refine Below.alloc ?_ ?_ _; rotate_left; focus (first | omega | (simp; done) | (simp; omega)))))
  | false =>
    have ha : a2 = d1 := by rw [ha2]; cases d1 <;> rfl
    subst ha
    clear ha2
    go_enter Tryz.func62, Tryz.ntmps62
    go_wp2
    refine bodyPost_ret (v := .agg #[.int .i64 fm, .bool ng, .slice p n cap, .int .i64 T2, .bool nn, .bool bd, .bool pl, .bool mi, .bool a2]) (by simp [results, Tryz.results62, go_sem, HT2.out]) rfl ⟨rfl, ?_⟩
    exact (by repeat (first | (with_reducible refine Below.setCell ?_ ?_ _; rotate_left; focus (first | omega | (simp; done) | (simp; omega))) | (with_reducible exact Below.refl _ _) | (with_reducible refine Below.drew ?_) | (with_reducible refine bel_dn ?_ _) | (with_reducible refine bel_al ?_ _) | (with_reducible refine Below.alloc ?_ ?_ _; rotate_left; focus (first | omega | (simp; done) | (simp; omega)))))
theorem Q9.set4' {w : World} {b : Nat} {v0 v1 v2 v3 v4 v5 v6 v7 v8 : Value} (h : Q9 w b v0 v1 v2 v3 v4 v5 v6 v7 v8) (u : Value) : Q9 (w.setCell ⟨b, 4, none⟩ u) b v0 v1 v2 v3 u v5 v6 v7 v8 := by
  obtain ⟨c0, c1, c2, c3, c4, c5, c6, c7, c8, f0, f1, f2, f3, f4, f5, f6, f7, f8⟩ := h
  exact ⟨by simp [go_sem, c0, c4], by simp [go_sem, c1, c4], by simp [go_sem, c2, c4], by simp [go_sem, c3, c4], by simp [go_sem, c4, c4], by simp [go_sem, c5, c4], by simp [go_sem, c6, c4], by simp [go_sem, c7, c4], by simp [go_sem, c8, c4], by simp [go_sem, f0], by simp [go_sem, f1], by simp [go_sem, f2], by simp [go_sem, f3], by simp [go_sem, f4], by simp [go_sem, f5], by simp [go_sem, f6], by simp [go_sem, f7], by simp [go_sem, f8]⟩
theorem Q9.set5' {w : World} {b : Nat} {v0 v1 v2 v3 v4 v5 v6 v7 v8 : Value} (h : Q9 w b v0 v1 v2 v3 v4 v5 v6 v7 v8) (u : Value) : Q9 (w.setCell ⟨b, 5, none⟩ u) b v0 v1 v2 v3 v4 u v6 v7 v8 := by
  obtain ⟨c0, c1, c2, c3, c4, c5, c6, c7, c8, f0, f1, f2, f3, f4, f5, f6, f7, f8⟩ := h
  exact ⟨by simp [go_sem, c0, c5], by simp [go_sem, c1, c5], by simp [go_sem, c2, c5], by simp [go_sem, c3, c5], by simp [go_sem, c4, c5], by simp [go_sem, c5, c5], by simp [go_sem, c6, c5], by simp [go_sem, c7, c5], by simp [go_sem, c8, c5], by simp [go_sem, f0], by simp [go_sem, f1], by simp [go_sem, f2], by simp [go_sem, f3], by simp [go_sem, f4], by simp [go_sem, f5], by simp [go_sem, f6], by simp [go_sem, f7], by simp [go_sem, f8]⟩
theorem Q9.set6' {w : World} {b : Nat} {v0 v1 v2 v3 v4 v5 v6 v7 v8 : Value} (h : Q9 w b v0 v1 v2 v3 v4 v5 v6 v7 v8) (u : Value) : Q9 (w.setCell ⟨b, 6, none⟩ u) b v0 v1 v2 v3 v4 v5 u v7 v8 := by
  obtain ⟨c0, c1, c2, c3, c4, c5, c6, c7, c8, f0, f1, f2, f3, f4, f5, f6, f7, f8⟩ := h
  exact ⟨by simp [go_sem, c0, c6], by simp [go_sem, c1, c6], by simp [go_sem, c2, c6], by simp [go_sem, c3, c6], by simp [go_sem, c4, c6], by simp [go_sem, c5, c6], by simp [go_sem, c6, c6], by simp [go_sem, c7, c6], by simp [go_sem, c8, c6], by simp [go_sem, f0], by simp [go_sem, f1], by simp [go_sem, f2], by simp [go_sem, f3], by simp [go_sem, f4], by simp [go_sem, f5], by simp [go_sem, f6], by simp [go_sem, f7], by simp [go_sem, f8]⟩
theorem Q9.set7' {w : World} {b : Nat} {v0 v1 v2 v3 v4 v5 v6 v7 v8 : Value} (h : Q9 w b v0 v1 v2 v3 v4 v5 v6 v7 v8) (u : Value) : Q9 (w.setCell ⟨b, 7, none⟩ u) b v0 v1 v2 v3 v4 v5 v6 u v8 := by
  obtain ⟨c0, c1, c2, c3, c4, c5, c6, c7, c8, f0, f1, f2, f3, f4, f5, f6, f7, f8⟩ := h
  exact ⟨by simp [go_sem, c0, c7], by simp [go_sem, c1, c7], by simp [go_sem, c2, c7], by simp [go_sem, c3, c7], by simp [go_sem, c4, c7], by simp [go_sem, c5, c7], by simp [go_sem, c6, c7], by simp [go_sem, c7, c7], by simp [go_sem, c8, c7], by simp [go_sem, f0], by simp [go_sem, f1], by simp [go_sem, f2], by simp [go_sem, f3], by simp [go_sem, f4], by simp [go_sem, f5], by simp [go_sem, f6], by simp [go_sem, f7], by simp [go_sem, f8]⟩
set_option maxHeartbeats 8000000 in
set_option maxRecDepth 100000 in
theorem special7 (fm : Int) (ng : Bool) (T : Int) (nn bd pl mi am : Bool) (p : Option Addr) (n cap : Nat) (nan bad neg : Bool) (w : World) (h0 : 0 ≤ T) (h1 : T ≤ 1000000) (T2 : Int) (hT2 : T2 = T + 1) (n2 b2 p2 m2 : Bool) (hn2 : n2 = (nn || nan)) (hb2 : b2 = (bd || bad)) (hp2 : p2 = (pl || (!nan && !neg))) (hm2 : m2 = (mi || (!nan && neg))) :
    Calls Tryz.prog 56 #[.agg #[.int .i64 fm, .bool ng, .slice p n cap, .int .i64 T, .bool nn, .bool bd, .bool pl, .bool mi, .bool am], .bool nan, .bool bad, .bool neg] w fun e w' => e = .returned (.agg #[.int .i64 fm, .bool ng, .slice p n cap, .int .i64 T2, .bool n2, .bool b2, .bool p2, .bool m2, .bool false]) ∧ Below w.heap.size w w' := by
  have CZ := hid (fun w' => zero7 fm ng T n2 b2 p2 m2 am p n cap false false w' h0 h1 T2 hT2 false rfl)
  have H4 := hid hn2
  have H5 := hid hb2
  have H6 := hid hp2
  have H7 := hid hm2
  clear hn2 hb2 hp2 hm2 hT2
  have Q := (Q9.new w (.int .i64 fm) (.bool ng) (.slice p n cap) (.int .i64 T) (.bool nn) (.bool bd) (.bool pl) (.bool mi) (.bool am) 31).alloc (.cells #[.int .i64 0, .bool false, .slice none 0 0, .int .i64 0, .bool false, .bool false, .bool false, .bool false, .bool false] 31)
  have R := Q9.nw2b w (.cells #[.int .i64 fm, .bool ng, .slice p n cap, .int .i64 T, .bool nn, .bool bd, .bool pl, .bool mi, .bool am] 31) (.int .i64 0) (.bool false) (.slice none 0 0) (.int .i64 0) (.bool false) (.bool false) (.bool false) (.bool false) (.bool false) 31
  have bel : Below w.heap.size w ((w.alloc (.cells #[.int .i64 fm, .bool ng, .slice p n cap, .int .i64 T, .bool nn, .bool bd, .bool pl, .bool mi, .bool am] 31)).alloc (.cells #[.int .i64 0, .bool false, .slice none 0 0, .int .i64 0, .bool false, .bool false, .bool false, .bool false, .bool false] 31)) := (by repeat (first | exact Below.refl _ _ | refine Below.drew ?_ | refine bel_dn ?_ _ | refine bel_al ?_ _ | refine Below.setCell ?_ (by first | omega | (simp; done) | (simp; omega)) _ | refine Below.alloc ?_ (by first | omega | (simp; done) | (simp; omega)) _))
  go_enter Tryz.func56, Tryz.ntmps56
  go_upto_region 1 with fail
  obtain ⟨W, hW⟩ : ∃ W, W = (w.alloc (.cells #[.int .i64 fm, .bool ng, .slice p n cap, .int .i64 T, .bool nn, .bool bd, .bool pl, .bool mi, .bool am] 31)).alloc (.cells #[.int .i64 0, .bool false, .slice none 0 0, .int .i64 0, .bool false, .bool false, .bool false, .bool false, .bool false] 31) := ⟨_, rfl⟩
  rw [← hW] at Q R bel ⊢
  clear hW
  go_cut [] (fun wx => Q9 wx w.heap.size (.int .i64 fm) (.bool ng) (.slice p n cap) (.int .i64 T) (.bool n2) (.bool bd) (.bool pl) (.bool mi) (.bool am) ∧ Q9 wx (w.heap.size + 1) (.int .i64 0) (.bool false) (.slice none 0 0) (.int .i64 0) (.bool false) (.bool false) (.bool false) (.bool false) (.bool false) ∧ Below w.heap.size w wx)
  case first =>
    have e1 := Q.c4
    have e2 := Q.f4
    cases nn with
    | true =>
      go_wp2_with fail; go_meet; (have hh := H4.out; simp at hh; subst hh; exact ⟨Q.set4' _, R.other (by simp) _, bel.setCell (by simp) _⟩)
    | false =>
      go_wp2_with fail; go_meet; (have hh := H4.out; simp at hh; subst hh; exact ⟨Q.set4' _, R.other (by simp) _, bel.setCell (by simp) _⟩)
  case rest =>
  clear Q R bel
  rename World => wx1
  obtain ⟨Q, R, bel⟩ := hcut
  go_upto_region 2 with fail
  go_cut [] (fun wx => Q9 wx w.heap.size (.int .i64 fm) (.bool ng) (.slice p n cap) (.int .i64 T) (.bool n2) (.bool b2) (.bool pl) (.bool mi) (.bool am) ∧ Q9 wx (w.heap.size + 1) (.int .i64 0) (.bool false) (.slice none 0 0) (.int .i64 0) (.bool false) (.bool false) (.bool false) (.bool false) (.bool false) ∧ Below w.heap.size w wx)
  case first =>
    have e1 := Q.c5
    have e2 := Q.f5
    cases bd with
    | true =>
      go_wp2_with fail; go_meet; (have hh := H5.out; simp at hh; subst hh; exact ⟨Q.set5' _, R.other (by simp) _, bel.setCell (by simp) _⟩)
    | false =>
      go_wp2_with fail; go_meet; (have hh := H5.out; simp at hh; subst hh; exact ⟨Q.set5' _, R.other (by simp) _, bel.setCell (by simp) _⟩)
  case rest =>
  clear Q R bel
  rename World => wx2
  obtain ⟨Q, R, bel⟩ := hcut
  go_upto_region 3 with fail
  go_cut [] (fun wx => Q9 wx w.heap.size (.int .i64 fm) (.bool ng) (.slice p n cap) (.int .i64 T) (.bool n2) (.bool b2) (.bool p2) (.bool mi) (.bool am) ∧ Q9 wx (w.heap.size + 1) (.int .i64 0) (.bool false) (.slice none 0 0) (.int .i64 0) (.bool false) (.bool false) (.bool false) (.bool false) (.bool false) ∧ Below w.heap.size w wx)
  case first =>
    have e1 := Q.c6
    have e2 := Q.f6
    cases pl with
    | true =>
      go_wp2_with fail; go_meet; (have hh := H6.out; simp at hh; subst hh; exact ⟨Q.set6' _, R.other (by simp) _, bel.setCell (by simp) _⟩)
    | false =>
      cases nan with
      | true =>
        go_wp2_with fail; go_meet; (have hh := H6.out; simp at hh; subst hh; exact ⟨Q.set6' _, R.other (by simp) _, bel.setCell (by simp) _⟩)
      | false =>
        go_wp2_with fail; go_meet; (have hh := H6.out; simp at hh; subst hh; exact ⟨Q.set6' _, R.other (by simp) _, bel.setCell (by simp) _⟩)
  case rest =>
  clear Q R bel
  rename World => wx3
  obtain ⟨Q, R, bel⟩ := hcut
  go_upto_region 4 with fail
  go_cut [] (fun wx => Q9 wx w.heap.size (.int .i64 fm) (.bool ng) (.slice p n cap) (.int .i64 T) (.bool n2) (.bool b2) (.bool p2) (.bool m2) (.bool am) ∧ Q9 wx (w.heap.size + 1) (.int .i64 0) (.bool false) (.slice none 0 0) (.int .i64 0) (.bool false) (.bool false) (.bool false) (.bool false) (.bool false) ∧ Below w.heap.size w wx)
  case first =>
    have e1 := Q.c7
    have e2 := Q.f7
    cases mi with
    | true =>
      go_wp2_with fail; go_meet; (have hh := H7.out; simp at hh; subst hh; exact ⟨Q.set7' _, R.other (by simp) _, bel.setCell (by simp) _⟩)
    | false =>
      cases nan with
      | true =>
        go_wp2_with fail; go_meet; (have hh := H7.out; simp at hh; subst hh; exact ⟨Q.set7' _, R.other (by simp) _, bel.setCell (by simp) _⟩)
      | false =>
        go_wp2_with fail; go_meet; (have hh := H7.out; simp at hh; subst hh; exact ⟨Q.set7' _, R.other (by simp) _, bel.setCell (by simp) _⟩)
  case rest =>
  clear Q R bel
  rename World => wx4
  obtain ⟨Q, R, bel⟩ := hcut
  obtain ⟨c0, c1, c2, c3, c4, c5, c6, c7, c8⟩ := Q.cs
  go_wp2_with fail
  refine (CZ.out _).mono ?_
  rintro e w5 ⟨rfl, hb5⟩
  clear c0 c1 c2 c3 c4 c5 c6 c7 c8
  obtain ⟨r0, r1, r2, r3, r4, r5, r6, r7, r8, f0, f1, f2, f3, f4, f5, f6, f7, f8⟩ := R.below hb5
  go_wp2
  refine bodyPost_ret (v := .agg #[.int .i64 fm, .bool ng, .slice p n cap, .int .i64 T2, .bool n2, .bool b2, .bool p2, .bool m2, .bool false]) (by simp [results, Tryz.results56, go_sem, r0, r1, r2, r3, r4, r5, r6, r7, r8]) rfl ⟨rfl, ?_⟩
  exact (by repeat (first | (with_reducible refine Below.setCell ?_ ?_ _; rotate_left; focus (first | omega | (simp; done) | (simp; omega))) | (with_reducible exact Below.refl _ _) | (with_reducible refine Below.drew ?_) | (with_reducible refine bel_dn ?_ _) | (with_reducible refine bel_al ?_ _) | (with_reducible refine bel_go ?_ hb5) | (with_reducible refine bel_go ?_ bel) | (with_reducible refine Below.alloc ?_ ?_ _; rotate_left; focus (first | omega | (simp; done) | (simp; omega))) | (with_reducible refine Below.trans ?_ (Below.mono hb5 ?_); rotate_left; focus (first | omega | (simp; done) | (simp; omega))) | (with_reducible refine Below.trans ?_ (Below.mono bel ?_); rotate_left; focus (first | omega | (simp; done) | (simp; omega)))))
end Go.Proofs.YtapjclcjojadaaaGreatDoor
/-
  Modes: whether a number is one, by the program and by the specification; the law.
-/
namespace Go.Proofs.YtapjclcjojadaaaGreatDoor
set_option linter.unusedVariables false
set_option linter.unusedSimpArgs false
open Go.RowKit
/-- Whether a number is a mode. -/
def modeB (m : Int) : Bool := decide (0 ≤ m) && decide (m ≤ 5)
/-- Whether a number lies between two. -/
def inB (n lo hi : Int) : Bool := decide (lo ≤ n) && decide (n ≤ hi)
set_option maxHeartbeats 400000 in
theorem in_spec (n lo hi : Int) (w : World) :
    Calls Tryz.prog 90 #[.int .i64 n, .int .i64 lo, .int .i64 hi] w fun e w' => e = .returned (.bool (inB n lo hi)) ∧ w' = w := by
  by_cases h1 : lo ≤ n
  · by_cases h2 : n ≤ hi
    · have HR : Hid (inB n lo hi = true) := hid (by simp [inB, h1, h2])
      go_enter Tryz.func90, Tryz.ntmps90
      go_wp2
      go_ret
      exact ⟨ret_bool HR.out.symm, rfl⟩
    · have HR : Hid (inB n lo hi = false) := hid (by simp [inB, h1, h2])
      go_enter Tryz.func90, Tryz.ntmps90
      go_wp2
      go_ret
      exact ⟨ret_bool HR.out.symm, rfl⟩
  · have HR : Hid (inB n lo hi = false) := hid (by simp [inB, h1])
    go_enter Tryz.func90, Tryz.ntmps90
    go_wp2
    go_ret
    exact ⟨ret_bool HR.out.symm, rfl⟩
theorem mode_spec (m : Int) (w : World) :
    Calls Tryz.prog 143 #[.int .i64 m] w fun e w' => e = .returned (.bool (modeB m)) ∧ w' = w := by
  go_enter Tryz.func143, Tryz.ntmps143
  go_wp2_with fail
  refine (in_spec m 0 5 _).mono ?_
  rintro e w1 ⟨rfl, rfl⟩
  go_wp2
  go_ret
  exact ⟨rfl, rfl⟩
theorem mode_impl (m : Int) (w : World) :
    Calls Tryz.prog 146 #[.int .i64 m] w fun e w' => e = .returned (.bool (modeB m)) ∧ w' = w := by
  by_cases h1 : 0 ≤ m
  · by_cases h2 : m ≤ 5
    · have HR : Hid (modeB m = true) := hid (by simp [modeB, h1, h2])
      go_enter Tryz.func146, Tryz.ntmps146
      go_wp2
      go_ret
      exact ⟨ret_bool HR.out.symm, rfl⟩
    · have HR : Hid (modeB m = false) := hid (by simp [modeB, h1, h2])
      go_enter Tryz.func146, Tryz.ntmps146
      go_wp2
      go_ret
      exact ⟨ret_bool HR.out.symm, rfl⟩
  · have HR : Hid (modeB m = false) := hid (by simp [modeB, h1])
    go_enter Tryz.func146, Tryz.ntmps146
    go_wp2
    go_ret
    exact ⟨ret_bool HR.out.symm, rfl⟩
end Go.Proofs.YtapjclcjojadaaaGreatDoor
