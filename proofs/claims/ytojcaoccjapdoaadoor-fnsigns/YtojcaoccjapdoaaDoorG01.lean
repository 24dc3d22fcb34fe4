/-
  Several texts in one: WideE, NumsB, WideL, NumsC.
-/
import Derived.Test.YtojcaoccjapdoaaDoorG00
import Derived.Laws.AppendOwnNone
/-
  Limbs made to a wide, by the specification.
-/
namespace Go.Proofs.YtojcaoccjapdoaaDoor
set_option linter.unusedVariables false
set_option linter.unusedSimpArgs false
open Go.RowKit Go.Deep
/-- What is appended to the empty slice of the call's own. -/
theorem own_slice {w : World} {B : Nat} {v : Value} {zs : List Int} {n : Nat} (hn : n = zs.length) (h : w.ownsRow B 74 1 v n (zs.map (Value.int .u32))) : ∃ a c, v = .slice a n c ∧ Own w B a c zs := by
  subst hn
  rcases h.2 with ⟨h1, h2⟩ | ⟨g, cap, cur, h1, _⟩
  · subst h1
    have : zs = [] := List.eq_nil_of_length_eq_zero h2
    subst this
    exact ⟨none, 0, rfl, h⟩
  · subst h1; exact ⟨_, _, rfl, h⟩

/-- The box of a wide result, behind what turns one block alone. -/
theorem box_grown {w W w' : World} {t : TypeId} {v0 v1 : Value} {g : Nat} (hW : W.heap[w.heap.size]? = some (.cells #[v0, v1] t (0, 0))) (hg : W.grownBy w' (some g)) (hne : g ≠ w.heap.size) :
    w'.cell? ⟨w.heap.size, 0, none⟩ = some v0 ∧ w'.cell? ⟨w.heap.size, 1, none⟩ = some v1 ∧ w'.frozen? ⟨w.heap.size, 0, none⟩ = false ∧ w'.frozen? ⟨w.heap.size, 1, none⟩ = false := by
  have hlt : w.heap.size < W.heap.size := (Array.getElem?_eq_some_iff.1 hW).1
  have h := hg.block w.heap.size hlt (by simpa using fun e => hne e.symm)
  rw [hW] at h
  exact ⟨by simp [World.cell?, h], by simp [World.cell?, h], by simp [World.frozen?, h], by simp [World.frozen?, h]⟩
theorem bel_grown {w W w' : World} {g : Nat} (h : Below w.heap.size w W) (hg : W.grownBy w' (some g)) (hge : w.heap.size ≤ g) : Below w.heap.size w w' :=
  h.grown hg h.size (fun k hk => by cases hk; exact hge)

set_option maxHeartbeats 1000000 in
theorem made_any (ng : Bool) (a : Option Addr) (cap : Nat) (zs : List Int) (w : World) (hs : Sl .u32 w (.slice a zs.length cap) zs) (hz : Nm.Dg zs) (hl : zs.length ≤ 1048576) :
    Calls Tryd.prog 121 #[.bool ng, .slice a zs.length cap] w fun e w' => ∃ a' c', e = .returned (.agg #[.bool (ng && !decide ((Nm.trim zs).length = 0)), .slice a' (Nm.trim zs).length c']) ∧ Own w' w.heap.size a' c' (Nm.trim zs) ∧ Below w.heap.size w w' := by
  obtain ⟨-, hc1, hc2, hc3⟩ := hs.cells
  obtain ⟨i0, hi, hz0, hz1, hz2⟩ := info_parts info32
  have HI := hid (And.intro hi (And.intro hz0 (And.intro hz1 hz2)))
  clear hi hz0 hz1 hz2
  go_enter Tryd.func121, Tryd.ntmps121
  go_wp2_with fail
  go_loop [5] (fun i => ∃ n : Nat, n ≤ zs.length ∧ i = .int .i64 n ∧ (∀ i, n ≤ i → i < zs.length → zs.getD i 0 = 0)) (fun i => (intOf i).toNat)
  case atStart => exact ⟨zs.length, Nat.le_refl _, rfl, fun i h1 h2 => absurd h2 (by omega)⟩
  case round =>
    obtain ⟨n, hn, rfl, hpre⟩ := hrel
    have PRE := hid hpre
    clear hpre
    by_cases h0 : n = 0
    · subst h0
      have hT := Nm.trim_take hz (Nat.zero_le _) PRE.out (.inl rfl)
      have HT : Hid (Nm.trim zs = []) := hid (by rw [hT]; rfl)
      have hown : ∀ o, ((w.alloc o).alloc (.cells #[] 74)).ownsRow (w.heap.size + 1) 74 1 (.slice (some ⟨w.heap.size + 1, 0, none⟩) 0 0) 0 [] := fun o => by
        have := World.ownsRow_made (base := w.heap.size + 1) (e := 74) (size := 1) (w.alloc o) #[] 0 (by simp) (by decide) rfl
        simpa using this
      have HW := hid hown
      clear hT hown hc3
      cases a with
      | none =>
        cases ng
        all_goals
          go_wp2
          refine bodyPost_ret (v := .agg #[.bool false, .slice (some ⟨w.heap.size + 1, 0, none⟩) 0 0]) (by simp [results, Tryd.results121, go_sem]) rfl ⟨some ⟨w.heap.size + 1, 0, none⟩, 0, ?_, ?_, (by repeat (first | exact Below.refl _ _ | refine Below.drew ?_ | refine bel_dn ?_ _ | refine bel_al ?_ _ | refine Below.setCell ?_ (by first | omega | (simp; done) | (simp; omega)) _ | refine Below.alloc ?_ (by first | omega | (simp; done) | (simp; omega)) _))⟩
          · rw [HT.out]; rfl
          · rw [HT.out]
            have hq : Own ((w.alloc (.cells #[.bool false, .slice (some ⟨w.heap.size + 1, 0, none⟩) 0 0] 31)).alloc (.cells #[] 74)) (w.heap.size + 1) (some ⟨w.heap.size + 1, 0, none⟩) 0 [] := HW.out _
            exact hq.base (by omega)
      | some x =>
        cases ng
        all_goals
          go_wp2_with (at_builtin; refine wpList_append_own _ rfl _ _ 29 rfl (w.heap.size + 1) 74 i0 (.int .u32 0) 1 4 Tryd.underlying29 HI.out.1 HI.out.2.1 HI.out.2.2.1 HI.out.2.2.2 rfl (by decide) (.slice (some ⟨w.heap.size + 1, 0, none⟩) 0 0) 0 [] rfl (HW.out _) x 0 cap [] rfl rfl (by intro j u hj; cases hj) (by intro u hu; cases hu) (by decide) (by decide) (by simp) ?_)
          intro v' w1 hown' hgrow hnn
          obtain ⟨a', c', rfl, ho⟩ := own_slice (zs := []) rfl hown'
          obtain ⟨rc0, rc1, rf0, rf1⟩ := box_grown (w := w) (t := 31) (v0 := .bool false) (v1 := .slice none 0 0) (by rw [blk_alloc_lt _ _ _ (by simp)]; exact blk_alloc_new _ _) hgrow (by simp)
          have hbel : Below w.heap.size w w1 := bel_grown (by repeat (first | exact Below.refl _ _ | refine Below.drew ?_ | refine bel_dn ?_ _ | refine bel_al ?_ _ | refine Below.setCell ?_ (by first | omega | (simp; done) | (simp; omega)) _ | refine Below.alloc ?_ (by first | omega | (simp; done) | (simp; omega)) _)) hgrow (by simp)
          clear hown' hgrow hnn
          go_wp2
          refine bodyPost_ret (v := .agg #[.bool false, .slice a' 0 c']) (by simp [results, Tryd.results121, go_sem, rc0, rc1]) rfl ⟨a', c', ?_, ?_, (by repeat (first | exact Below.refl _ _ | refine Below.drew ?_ | refine bel_dn ?_ _ | refine bel_al ?_ _ | refine bel_go ?_ hbel | refine Below.setCell ?_ (by first | omega | (simp; done) | (simp; omega)) _ | refine Below.alloc ?_ (by first | omega | (simp; done) | (simp; omega)) _ | refine Below.trans ?_ (Below.mono hbel (by first | omega | (simp; done) | (simp; omega)))))⟩
          · rw [HT.out]; rfl
          · rw [HT.out]
            exact ((ho.setBelow (by simp) _).setBelow (by simp) _).base (by omega)
    · obtain ⟨b, off, rfl, hcell⟩ := hc3 (by omega)
      have hcx := hcell (n - 1) (by omega)
      have hlt := World.block_lt_of_cell? w _ hcx
      obtain ⟨z, hzk⟩ : ∃ z, z = zs.getD (n - 1) 0 := ⟨_, rfl⟩
      rw [← hzk] at hcx
      have HZ := hid hzk
      have HC := hid hcell
      clear hzk hcell hc3
      have hn1 : 1 ≤ n := by omega
      by_cases hz0 : z = 0
      · have t0 : (z == 0) = true := by simpa using hz0
        have HZ0 := hid hz0
        clear hz0
        go_wp2_with fail
        go_round
        case rel => exact ⟨n - 1, by omega, by go_num, fun i h1 h2 => by
          by_cases e : i = n - 1
          · subst e; rw [← HZ.out]; exact HZ0.out
          · exact PRE.out i (by omega) h2⟩
        case measure => simp [intOf]; omega
      · have t0 : (z == 0) = false := by simpa using hz0
        have hT := Nm.trim_take hz hn PRE.out (.inr (by rw [← HZ.out]; exact hz0))
        have HT := hid hT
        have hlen : (zs.take n).length = n := by simp; omega
        have HL := hid hlen
        have hnews : ∀ (o o' : Obj) j u, ((zs.take n).map (Value.int .u32))[j]? = some u → ((w.alloc o).alloc o').cell? ((⟨b, off, none⟩ : Addr).add j) = some u := fun o o' j u hj => by
          have hjn : j < n := by
            rcases Nat.lt_or_ge j n with h | h
            · exact h
            · rw [List.getElem?_eq_none (by simp; omega)] at hj; cases hj
          have hc := HC.out j (by omega)
          have hju : u = .int .u32 (zs.getD j 0) := by
            rw [List.getElem?_map, List.getElem?_take_of_lt hjn] at hj
            rw [List.getD_eq_getElem?_getD]
            cases hzj : zs[j]? with
            | none => rw [hzj] at hj; cases hj
            | some q => rw [hzj] at hj; simp at hj ⊢; exact hj.symm
          rw [hju]
          have e : (⟨b, off, none⟩ : Addr).add j = ⟨b, off + j, none⟩ := by unfold Addr.add; split <;> simp_all
          rw [e]
          exact ((((Below.refl _ w).alloc (Nat.le_refl _) o).alloc (by simp) o').cell (p := ⟨b, off + j, none⟩) hlt).trans hc
        have HN := hid hnews
        have hone : ∀ u ∈ (zs.take n).map (Value.int .u32), u.oneCell' = true := fun u hu => by
          obtain ⟨q, _, rfl⟩ := List.mem_map.1 hu; rfl
        have HO := hid hone
        have hown : ∀ o, ((w.alloc o).alloc (.cells #[] 74)).ownsRow (w.heap.size + 1) 74 1 (.slice (some ⟨w.heap.size + 1, 0, none⟩) 0 0) 0 [] := fun o => by
          have := World.ownsRow_made (base := w.heap.size + 1) (e := 74) (size := 1) (w.alloc o) #[] 0 (by simp) (by decide) rfl
          simpa using this
        have HW := hid hown
        clear hT hlen hnews hone hown hz0
        cases ng
        · go_wp2_with (at_builtin; refine wpList_append_own _ rfl _ _ 29 rfl (w.heap.size + 1) 74 i0 (.int .u32 0) 1 4 Tryd.underlying29 HI.out.1 HI.out.2.1 HI.out.2.2.1 HI.out.2.2.2 rfl (by decide) (.slice (some ⟨w.heap.size + 1, 0, none⟩) 0 0) 0 [] rfl (HW.out _) ⟨b, off, none⟩ n cap ((zs.take n).map (Value.int .u32)) rfl (by rw [List.length_map, HL.out, Nat.mul_one]) (HN.out _ _) HO.out (by unfold maxLen; omega) (by omega) (by simp) ?_)
          intro v' w1 hown' hgrow hnn
          rw [← List.map_take] at hown'
          obtain ⟨a', c', rfl, ho⟩ := own_slice HL.out.symm hown'
          obtain ⟨rc0, rc1, rf0, rf1⟩ := box_grown (w := w) (t := 31) (v0 := .bool false) (v1 := .slice none 0 0) (by rw [blk_alloc_lt _ _ _ (by simp)]; exact blk_alloc_new _ _) hgrow (by simp)
          have hbel : Below w.heap.size w w1 := bel_grown (by repeat (first | exact Below.refl _ _ | refine Below.drew ?_ | refine bel_dn ?_ _ | refine bel_al ?_ _ | refine Below.setCell ?_ (by first | omega | (simp; done) | (simp; omega)) _ | refine Below.alloc ?_ (by first | omega | (simp; done) | (simp; omega)) _)) hgrow (by simp)
          clear hown' hgrow hnn
          go_wp2
          refine bodyPost_ret (v := .agg #[.bool false, .slice a' n c']) (by simp [results, Tryd.results121, go_sem, rc0, rc1]) rfl ⟨a', c', ?_, ?_, (by repeat (first | exact Below.refl _ _ | refine Below.drew ?_ | refine bel_dn ?_ _ | refine bel_al ?_ _ | refine bel_go ?_ hbel | refine Below.setCell ?_ (by first | omega | (simp; done) | (simp; omega)) _ | refine Below.alloc ?_ (by first | omega | (simp; done) | (simp; omega)) _ | refine Below.trans ?_ (Below.mono hbel (by first | omega | (simp; done) | (simp; omega)))))⟩
          · rw [HT.out, HL.out]; rfl
          · rw [HT.out]
            exact ((ho.setBelow (by simp) _).setBelow (by simp) _).base (by omega)
        · go_wp2_with (at_builtin; refine wpList_append_own _ rfl _ _ 29 rfl (w.heap.size + 1) 74 i0 (.int .u32 0) 1 4 Tryd.underlying29 HI.out.1 HI.out.2.1 HI.out.2.2.1 HI.out.2.2.2 rfl (by decide) (.slice (some ⟨w.heap.size + 1, 0, none⟩) 0 0) 0 [] rfl (HW.out _) ⟨b, off, none⟩ n cap ((zs.take n).map (Value.int .u32)) rfl (by rw [List.length_map, HL.out, Nat.mul_one]) (HN.out _ _) HO.out (by unfold maxLen; omega) (by omega) (by simp) ?_)
          intro v' w1 hown' hgrow hnn
          rw [← List.map_take] at hown'
          obtain ⟨a', c', rfl, ho⟩ := own_slice HL.out.symm hown'
          obtain ⟨rc0, rc1, rf0, rf1⟩ := box_grown (w := w) (t := 31) (v0 := .bool false) (v1 := .slice none 0 0) (by rw [blk_alloc_lt _ _ _ (by simp)]; exact blk_alloc_new _ _) hgrow (by simp)
          have hbel : Below w.heap.size w w1 := bel_grown (by repeat (first | exact Below.refl _ _ | refine Below.drew ?_ | refine bel_dn ?_ _ | refine bel_al ?_ _ | refine Below.setCell ?_ (by first | omega | (simp; done) | (simp; omega)) _ | refine Below.alloc ?_ (by first | omega | (simp; done) | (simp; omega)) _)) hgrow (by simp)
          clear hown' hgrow hnn
          go_wp2
          refine bodyPost_ret (v := .agg #[.bool true, .slice a' n c']) (by simp [results, Tryd.results121, go_sem, rc0, rc1]) rfl ⟨a', c', ?_, ?_, (by repeat (first | exact Below.refl _ _ | refine Below.drew ?_ | refine bel_dn ?_ _ | refine bel_al ?_ _ | refine bel_go ?_ hbel | refine Below.setCell ?_ (by first | omega | (simp; done) | (simp; omega)) _ | refine Below.alloc ?_ (by first | omega | (simp; done) | (simp; omega)) _ | refine Below.trans ?_ (Below.mono hbel (by first | omega | (simp; done) | (simp; omega)))))⟩
          · rw [HT.out, HL.out]; simp; omega
          · rw [HT.out]
            exact ((ho.setBelow (by simp) _).setBelow (by simp) _).base (by omega)
end Go.Proofs.YtojcaoccjapdoaaDoor
/-
  Plain mathematics, no Go: the limbs of a number; what a list is worth when a limb of it is set; wides as integers.
-/
namespace Go.Proofs.YtojcaoccjapdoaaDoor
set_option linter.unusedVariables false
namespace Nm

/-- The limbs of a number, least first, none on top that is 0. -/
def lim (n : Nat) : List Int := if h : n = 0 then [] else ((n % 4294967296 : Nat) : Int) :: lim (n / 4294967296)
termination_by n
decreasing_by exact Nat.div_lt_self (by omega) (by decide)

theorem lim_zero : lim 0 = [] := by unfold lim; simp
theorem lim_pos {n : Nat} (h : n ≠ 0) : lim n = ((n % 4294967296 : Nat) : Int) :: lim (n / 4294967296) := by rw [lim]; simp [h]

theorem lim_dg (n : Nat) : Dg (lim n) := by
  induction n using Nat.strongRecOn with
  | _ n ih =>
    by_cases h : n = 0
    · subst h; rw [lim_zero]; exact Dg.nil
    · rw [lim_pos h]; exact Dg.cons (by omega) (ih _ (Nat.div_lt_self (by omega) (by decide)))

theorem lim_val (n : Nat) : val (lim n) = n := by
  induction n using Nat.strongRecOn with
  | _ n ih =>
    by_cases h : n = 0
    · subst h; rw [lim_zero]; rfl
    · rw [lim_pos h, val, ih _ (Nat.div_lt_self (by omega) (by decide))]; omega

theorem lim_nil {n : Nat} (h : lim n = []) : n = 0 := by
  by_cases h0 : n = 0
  · exact h0
  · rw [lim_pos h0] at h; cases h

theorem lim_nz (n : Nat) : Nz (lim n) := by
  induction n using Nat.strongRecOn with
  | _ n ih =>
    by_cases h : n = 0
    · subst h; rw [lim_zero]; exact Nz.nil
    · rw [lim_pos h]
      have h1 := ih _ (Nat.div_lt_self (by omega : 0 < n) (by decide : 1 < 4294967296))
      intro z hz
      cases e : lim (n / 4294967296) with
      | nil => rw [e] at hz; have := lim_nil e; simp at hz; omega
      | cons y r => rw [e] at hz; rw [List.getLast?_cons_cons, ← e] at hz; exact h1 z hz

theorem lim_of {l : List Int} (h : Dg l) (k : Nz l) : lim (val l).toNat = l :=
  val_inj (lim_dg _) h (lim_nz _) k (by rw [lim_val]; have := val_nonneg h; omega)
theorem trim_lim {l : List Int} (h : Dg l) : trim l = lim (val l).toNat :=
  val_inj (trim_dg h) (lim_dg _) (trim_nz _) (lim_nz _) (by rw [lim_val, trim_val]; have := val_nonneg h; omega)
theorem lim_length (n k : Nat) : (lim n).length ≤ k ↔ (n : Int) < pw k := by
  rw [length_le_iff (lim_dg n) (lim_nz n) k, lim_val]
theorem lim_length_zero (n : Nat) : (lim n).length = 0 ↔ n = 0 := by
  constructor
  · intro h; exact lim_nil (List.eq_nil_of_length_eq_zero h)
  · rintro rfl; rw [lim_zero]; rfl

/-- A limb is set. -/
theorem val_set (l : List Int) (k : Nat) (v : Int) (h : k < l.length) : val (l.set k v) = val l + pw k * (v - l.getD k 0) := by
  induction l generalizing k with
  | nil => simp at h
  | cons z r ih =>
    cases k with
    | zero => simp [val, pw]; omega
    | succ k =>
      have := ih k (by simpa using h)
      simp only [List.set_cons_succ, val, this, pw, List.getD_cons_succ]
      rw [Int.mul_add, Int.mul_assoc]; omega
theorem Dg.set {l : List Int} (h : Dg l) (k : Nat) {v : Int} (hv : 0 ≤ v ∧ v < 4294967296) : Dg (l.set k v) := fun x hx => by
  rcases List.mem_or_eq_of_mem_set hx with hx | rfl
  · exact h x hx
  · exact hv
theorem getD_set (l : List Int) (k i : Nat) (v : Int) (h : k < l.length) : (l.set k v).getD i 0 = if i = k then v else l.getD i 0 := by
  rw [List.getD_eq_getElem?_getD, List.getElem?_set, List.getD_eq_getElem?_getD]
  by_cases e : k = i
  · subst e; simp [h]
  · rw [if_neg e, if_neg (fun h => e h.symm)]

theorem take_snoc {l : List Int} {k : Nat} (h : k < l.length) : l.take (k + 1) = l.take k ++ [l.getD k 0] := by
  rw [List.take_succ_eq_append_getElem h]; simp [List.getD_eq_getElem?_getD, h]
/-- The first limbs, and one more (or 0, behind the last one). -/
theorem val_take_succ (l : List Int) (k : Nat) : val (l.take (k + 1)) = val (l.take k) + pw k * l.getD k 0 := by
  by_cases h : k < l.length
  · rw [take_snoc h, val_append]
    simp [val, Nat.min_eq_left (Nat.le_of_lt h)]
  · rw [List.take_of_length_le (by omega), List.take_of_length_le (by omega), List.getD_eq_getElem?_getD, List.getElem?_eq_none (by omega)]; simp
theorem val_snoc (l : List Int) (z : Int) : val (l ++ [z]) = val l + pw l.length * z := by rw [val_append]; simp [val]
theorem getD_out {l : List Int} {k : Nat} (h : l.length ≤ k) : l.getD k 0 = 0 := by rw [List.getD_eq_getElem?_getD, List.getElem?_eq_none (by omega)]; rfl
theorem getD_replicate (n k : Nat) : (List.replicate n (0 : Int)).getD k 0 = 0 := by
  rw [List.getD_eq_getElem?_getD]
  by_cases h : k < n
  · simp [h]
  · simp [h]

/-- A wide that is x: the limbs, the sign; what is answered where it may not fit. -/
def wl (x : Int) : List Int := lim x.natAbs
def wn (x : Int) : Bool := decide (x < 0)
def fits (x : Int) : Bool := decide ((wl x).length ≤ 200)
def outL (x : Int) : List Int := if fits x then wl x else []
def outN (x : Int) : Bool := fits x && wn x
/-- What a wide with this sign and limbs is. -/
def wv (ng : Bool) (zs : List Int) : Int := if ng then - val zs else val zs
theorem natAbs_wv {zs : List Int} (ng : Bool) (h : Dg zs) : (wv ng zs).natAbs = (val zs).toNat := by
  have := val_nonneg h
  unfold wv; cases ng <;> simp <;> omega
theorem wl_wv {zs : List Int} (ng : Bool) (h : Dg zs) : wl (wv ng zs) = trim zs := by
  unfold wl; rw [natAbs_wv ng h, trim_lim h]
theorem wn_wv {zs : List Int} (ng : Bool) (h : Dg zs) : wn (wv ng zs) = (ng && !decide ((trim zs).length = 0)) := by
  have h0 := val_nonneg h
  have h1 : (trim zs).length = 0 ↔ val zs = 0 := by rw [trim_lim h, lim_length_zero]; omega
  unfold wn wv
  by_cases e : val zs = 0
  · rw [decide_eq_true (h1.2 e), e]; cases ng <;> simp
  · rw [decide_eq_false (fun h => e (h1.1 h))]; cases ng
    · simp; omega
    · simp; omega
theorem wl_dg (x : Int) : Dg (wl x) := lim_dg _
theorem wl_nz (x : Int) : Nz (wl x) := lim_nz _
theorem val_wl (x : Int) : val (wl x) = x.natAbs := lim_val _
theorem wv_out (x : Int) : wv (wn x) (wl x) = x := by
  unfold wv wn; rw [val_wl]; by_cases h : x < 0 <;> simp [h] <;> omega
theorem outL_dg (x : Int) : Dg (outL x) := by
  unfold outL; split
  · exact wl_dg x
  · exact Dg.nil
theorem outL_length (x : Int) : (outL x).length ≤ 200 := by
  unfold outL; split
  · rename_i h; simpa [fits] using h
  · simp
end Nm
end Go.Proofs.YtojcaoccjapdoaaDoor
/-
  Limbs made to wides, told by the integer that the wide is; numbers of 64 bits as wides, by the program and by the specification.
-/
namespace Go.Proofs.YtojcaoccjapdoaaDoor
set_option linter.unusedVariables false
set_option linter.unusedSimpArgs false
open Go.RowKit Go.Deep

theorem fit_out (ng : Bool) {zs : List Int} (hd : Nm.Dg zs) : fitL zs = Nm.outL (Nm.wv ng zs) ∧ fitN ng zs = Nm.outN (Nm.wv ng zs) ∧ fitO zs = Nm.fits (Nm.wv ng zs) := by
  have h1 := Nm.wl_wv ng hd
  have h2 := Nm.wn_wv ng hd
  unfold fitL fitN fitO Nm.outL Nm.outN Nm.fits
  rw [h1, h2]
  by_cases h : (Nm.trim zs).length ≤ 200 <;> simp [h]
/-- Limbs made to a wide that fits, by the program. -/
theorem fitted_v (ng : Bool) (a : Option Addr) (cap : Nat) (zs : List Int) (B : Nat) (w : World) (ho : Own w B a cap zs) (hz : Nm.Dg zs) (hl : zs.length ≤ 1048576) (x : Int) (hx : x = Nm.wv ng zs) :
    Calls Tryd.prog 59 #[.bool ng, .slice a zs.length cap] w fun e w' => ∃ a' c', e = .returned (.tuple #[.agg #[.bool (Nm.outN x), .slice a' (Nm.outL x).length c'], .bool (Nm.fits x)]) ∧ Own w' B a' c' (Nm.outL x) ∧ Below w.heap.size w w' := by
  obtain ⟨e1, e2, e3⟩ := fit_out ng hz
  subst hx
  rw [← e1, ← e2, ← e3]
  exact fitted_any ng a cap zs B w ho hz hl
theorem fitted_va (ng : Bool) (a : Option Addr) (cap : Nat) (zs : List Int) (B : Nat) (w : World) (ho : Own w B a cap zs) (hz : Nm.Dg zs) (hl : zs.length ≤ 1048576) (x : Int) (hx : x = Nm.wv ng zs) :
    Calls Tryd.prog 59 #[.bool ng, .slice a zs.length cap] w fun e w' => ∃ a' c', e = .returned (.tuple #[.agg #[.bool (Nm.outN x), .slice a' (Nm.outL x).length c'], .bool (Nm.fits x)]) ∧ Own w' B a' c' (Nm.outL x) ∧ Below w.heap.size w w' ∧ (a' = none ∨ a' = a) := by
  obtain ⟨e1, e2, e3⟩ := fit_out ng hz
  subst hx
  rw [← e1, ← e2, ← e3]
  exact fitted_at ng a cap zs B w ho hz hl
/-- Limbs made to a wide, by the specification. -/
theorem made_v (ng : Bool) (a : Option Addr) (cap : Nat) (zs : List Int) (w : World) (hs : Sl .u32 w (.slice a zs.length cap) zs) (hz : Nm.Dg zs) (hl : zs.length ≤ 1048576) (x : Int) (hx : x = Nm.wv ng zs) :
    Calls Tryd.prog 121 #[.bool ng, .slice a zs.length cap] w fun e w' => ∃ a' c', e = .returned (.agg #[.bool (Nm.wn x), .slice a' (Nm.wl x).length c']) ∧ Own w' w.heap.size a' c' (Nm.wl x) ∧ Below w.heap.size w w' := by
  subst hx
  rw [Nm.wl_wv ng hz, Nm.wn_wv ng hz]
  exact made_any ng a cap zs w hs hz hl
/-- What is a number of 64 bits without sign fits. -/
theorem fits_small {x : Int} (h0 : -18446744073709551616 < x) (h1 : x < 18446744073709551616) : Nm.fits x = true := by
  unfold Nm.fits Nm.wl
  rw [decide_eq_true_iff, Nm.lim_length]
  have h2 : Nm.pw 2 ≤ Nm.pw 200 := Nm.pw_mono (by decide)
  have h3 : Nm.pw 2 = 18446744073709551616 := by decide
  omega
theorem out_fits {x : Int} (h : Nm.fits x = true) : Nm.outL x = Nm.wl x ∧ Nm.outN x = Nm.wn x := by
  unfold Nm.outL Nm.outN; rw [h]; simp
/-- Two limbs. -/
def two (m : Int) : List Int := [m % 4294967296, m / 4294967296]
theorem two_dg {m : Int} (h0 : 0 ≤ m) (h1 : m < 18446744073709551616) : Nm.Dg (two m) := by
  unfold two; exact Nm.Dg.cons (by omega) (Nm.Dg.cons (by omega) Nm.Dg.nil)
theorem two_wv {m : Int} (ng : Bool) (h0 : 0 ≤ m) : Nm.wv ng (two m) = if ng then -m else m := by
  unfold Nm.wv two; simp only [Nm.val]; cases ng <;> simp <;> omega
theorem own_two {w : World} {B g : Nat} (hB : B ≤ w.heap.size) (hg : g = w.heap.size) (x y : Int) : Own (w.alloc (.cells #[.int .u32 x, .int .u32 y] 74)) B (some ⟨g, 0, none⟩) 2 [x, y] := by
  subst hg
  exact ⟨by simp, .inr ⟨w.heap.size, 2, #[.int .u32 x, .int .u32 y], rfl, hB, heap_alloc_new w _, by simp, by decide, by simp, by simp⟩⟩

theorem w64_neg {n : Int} (h0 : -9223372036854775808 ≤ n) (h : n < 0) : IntKind.u64.wrap (-(IntKind.u64.wrap n)) = -n := by
  rw [IntKind.wrap_u64, IntKind.wrap_u64]; omega
theorem w64_pos {n : Int} (h0 : 0 ≤ n) (h : n ≤ 9223372036854775807) : IntKind.u64.wrap n = n := by
  rw [IntKind.wrap_u64]; omega
set_option maxHeartbeats 2000000 in
theorem wof_impl_true (n : Int) (w : World) (h0 : -9223372036854775808 ≤ n) (h1 : n ≤ 9223372036854775807) (hn : decide (n < 0) = true) :
    Calls Tryd.prog 19 #[.int .i64 n] w fun e w' => ∃ a' c', e = .returned (.agg #[.bool (Nm.wn n), .slice a' (Nm.wl n).length c']) ∧ Own w' w.heap.size a' c' (Nm.wl n) ∧ Below w.heap.size w w' := by
  have HO := hid (out_fits (fits_small (x := n) (by omega) (by omega)))
  have h := hn
  simp at h
  have e0 := w64_neg h0 h
  have HV : Hid (n = Nm.wv true (two (-n))) := hid (by have := two_wv (m := (-n)) true (by omega); simp at this; rw [this])
  have HD := hid (two_dg (m := (-n)) (by omega) (by omega))
  go_enter Tryd.func19, Tryd.ntmps19
  go_wp2_with fail
  refine (fitted_v true _ 2 (two (-n)) (w.heap.size + 1) _ (by refine own_two ?_ ?_ _ _ <;> simp) HD.out (by simp [two]) n HV.out).mono ?_
  rintro e w1 ⟨a', c', rfl, ho, hb⟩
  have r := (R2.new w (.bool false) (.slice none 0 0) 31).alloc (.cells #[.int .u32 ((-n) % 4294967296), .int .u32 ((-n) / 4294967296)] 74)
  obtain ⟨rc0, rc1, rf0, rf1⟩ := r.below hb
  have hz : w.heap.size < w1.heap.size := World.block_lt_of_cell? w1 _ rc0
  go_wp2
  obtain ⟨oL, oN⟩ := HO.out
  refine bodyPost_ret (v := .agg #[.bool (Nm.wn n), .slice a' (Nm.wl n).length c']) (by simp [results, Tryd.results19, go_sem, oL, oN, hz, rc0, rc1]) rfl ⟨a', c', rfl, ?_, (by repeat (first | exact Below.refl _ _ | refine Below.drew ?_ | refine bel_dn ?_ _ | refine bel_al ?_ _ | refine bel_go ?_ hb | refine Below.setCell ?_ (by first | omega | (simp; done) | (simp; omega)) _ | refine Below.alloc ?_ (by first | omega | (simp; done) | (simp; omega)) _ | refine Below.trans ?_ (Below.mono hb (by first | omega | (simp; done) | (simp; omega)))))⟩
  rw [oL] at ho
  exact Own.base (((ho.setBelow (by simp) _).setBelow (by simp) _).alloc _) (by omega)
set_option maxHeartbeats 2000000 in
theorem wof_impl_false (n : Int) (w : World) (h0 : -9223372036854775808 ≤ n) (h1 : n ≤ 9223372036854775807) (hn : decide (n < 0) = false) :
    Calls Tryd.prog 19 #[.int .i64 n] w fun e w' => ∃ a' c', e = .returned (.agg #[.bool (Nm.wn n), .slice a' (Nm.wl n).length c']) ∧ Own w' w.heap.size a' c' (Nm.wl n) ∧ Below w.heap.size w w' := by
  have HO := hid (out_fits (fits_small (x := n) (by omega) (by omega)))
  have h := hn
  simp at h
  have e0 := w64_pos (n := n) (by omega) h1
  have HV : Hid (n = Nm.wv false (two n)) := hid (by have := two_wv (m := n) false (by omega); simp at this; rw [this])
  have HD := hid (two_dg (m := n) (by omega) (by omega))
  go_enter Tryd.func19, Tryd.ntmps19
  go_wp2_with fail
  refine (fitted_v false _ 2 (two n) (w.heap.size + 1) _ (by refine own_two ?_ ?_ _ _ <;> simp) HD.out (by simp [two]) n HV.out).mono ?_
  rintro e w1 ⟨a', c', rfl, ho, hb⟩
  have r := (R2.new w (.bool false) (.slice none 0 0) 31).alloc (.cells #[.int .u32 (n % 4294967296), .int .u32 (n / 4294967296)] 74)
  obtain ⟨rc0, rc1, rf0, rf1⟩ := r.below hb
  have hz : w.heap.size < w1.heap.size := World.block_lt_of_cell? w1 _ rc0
  go_wp2
  obtain ⟨oL, oN⟩ := HO.out
  refine bodyPost_ret (v := .agg #[.bool (Nm.wn n), .slice a' (Nm.wl n).length c']) (by simp [results, Tryd.results19, go_sem, oL, oN, hz, rc0, rc1]) rfl ⟨a', c', rfl, ?_, (by repeat (first | exact Below.refl _ _ | refine Below.drew ?_ | refine bel_dn ?_ _ | refine bel_al ?_ _ | refine bel_go ?_ hb | refine Below.setCell ?_ (by first | omega | (simp; done) | (simp; omega)) _ | refine Below.alloc ?_ (by first | omega | (simp; done) | (simp; omega)) _ | refine Below.trans ?_ (Below.mono hb (by first | omega | (simp; done) | (simp; omega)))))⟩
  rw [oL] at ho
  exact Own.base (((ho.setBelow (by simp) _).setBelow (by simp) _).alloc _) (by omega)
theorem wof_impl (n : Int) (w : World) (h0 : -9223372036854775808 ≤ n) (h1 : n ≤ 9223372036854775807) :
    Calls Tryd.prog 19 #[.int .i64 n] w fun e w' => ∃ a' c', e = .returned (.agg #[.bool (Nm.wn n), .slice a' (Nm.wl n).length c']) ∧ Own w' w.heap.size a' c' (Nm.wl n) ∧ Below w.heap.size w w' := by
  cases h : decide (n < 0)
  · exact wof_impl_false n w h0 h1 h
  · exact wof_impl_true n w h0 h1 h
set_option maxHeartbeats 2000000 in
theorem wof_spec_true (n : Int) (w : World) (h0 : -9223372036854775808 ≤ n) (h1 : n ≤ 9223372036854775807) (hn : decide (n < 0) = true) :
    Calls Tryd.prog 126 #[.int .i64 n] w fun e w' => ∃ a' c', e = .returned (.agg #[.bool (Nm.wn n), .slice a' (Nm.wl n).length c']) ∧ Own w' w.heap.size a' c' (Nm.wl n) ∧ Below w.heap.size w w' := by
  have h := hn
  simp at h
  have e0 := w64_neg h0 h
  have HV : Hid (n = Nm.wv true (two (-n))) := hid (by have := two_wv (m := (-n)) true (by omega); simp at this; rw [this])
  have HD := hid (two_dg (m := (-n)) (by omega) (by omega))
  go_enter Tryd.func126, Tryd.ntmps126
  go_wp2_with fail
  refine (made_v true _ 2 (two (-n)) _ (by refine Own.sl (own_two (B := 0) ?_ ?_ _ _) <;> simp) HD.out (by simp [two]) n HV.out).mono ?_
  rintro e w1 ⟨a', c', rfl, ho, hb⟩
  have r := (R2.new w (.bool false) (.slice none 0 0) 31).alloc (.cells #[.int .u32 ((-n) % 4294967296), .int .u32 ((-n) / 4294967296)] 74)
  obtain ⟨rc0, rc1, rf0, rf1⟩ := r.below hb
  have hz : w.heap.size < w1.heap.size := World.block_lt_of_cell? w1 _ rc0
  have ho : Own w1 (w.heap.size + 1 + 1) a' c' (Nm.wl n) := by simpa using ho
  go_wp2
  refine bodyPost_ret (v := .agg #[.bool (Nm.wn n), .slice a' (Nm.wl n).length c']) (by simp [results, Tryd.results126, go_sem, hz, rc0, rc1]) rfl ⟨a', c', rfl, ?_, (by repeat (first | exact Below.refl _ _ | refine Below.drew ?_ | refine bel_dn ?_ _ | refine bel_al ?_ _ | refine bel_go ?_ hb | refine Below.setCell ?_ (by first | omega | (simp; done) | (simp; omega)) _ | refine Below.alloc ?_ (by first | omega | (simp; done) | (simp; omega)) _ | refine Below.trans ?_ (Below.mono hb (by first | omega | (simp; done) | (simp; omega)))))⟩
  exact Own.base ((ho.setBelow (by simp; omega) _).setBelow (by simp; omega) _) (by omega)
set_option maxHeartbeats 2000000 in
theorem wof_spec_false (n : Int) (w : World) (h0 : -9223372036854775808 ≤ n) (h1 : n ≤ 9223372036854775807) (hn : decide (n < 0) = false) :
    Calls Tryd.prog 126 #[.int .i64 n] w fun e w' => ∃ a' c', e = .returned (.agg #[.bool (Nm.wn n), .slice a' (Nm.wl n).length c']) ∧ Own w' w.heap.size a' c' (Nm.wl n) ∧ Below w.heap.size w w' := by
  have h := hn
  simp at h
  have e0 := w64_pos (n := n) (by omega) h1
  have HV : Hid (n = Nm.wv false (two n)) := hid (by have := two_wv (m := n) false (by omega); simp at this; rw [this])
  have HD := hid (two_dg (m := n) (by omega) (by omega))
  go_enter Tryd.func126, Tryd.ntmps126
  go_wp2_with fail
  refine (made_v false _ 2 (two n) _ (by refine Own.sl (own_two (B := 0) ?_ ?_ _ _) <;> simp) HD.out (by simp [two]) n HV.out).mono ?_
  rintro e w1 ⟨a', c', rfl, ho, hb⟩
  have r := (R2.new w (.bool false) (.slice none 0 0) 31).alloc (.cells #[.int .u32 (n % 4294967296), .int .u32 (n / 4294967296)] 74)
  obtain ⟨rc0, rc1, rf0, rf1⟩ := r.below hb
  have hz : w.heap.size < w1.heap.size := World.block_lt_of_cell? w1 _ rc0
  have ho : Own w1 (w.heap.size + 1 + 1) a' c' (Nm.wl n) := by simpa using ho
  go_wp2
  refine bodyPost_ret (v := .agg #[.bool (Nm.wn n), .slice a' (Nm.wl n).length c']) (by simp [results, Tryd.results126, go_sem, hz, rc0, rc1]) rfl ⟨a', c', rfl, ?_, (by repeat (first | exact Below.refl _ _ | refine Below.drew ?_ | refine bel_dn ?_ _ | refine bel_al ?_ _ | refine bel_go ?_ hb | refine Below.setCell ?_ (by first | omega | (simp; done) | (simp; omega)) _ | refine Below.alloc ?_ (by first | omega | (simp; done) | (simp; omega)) _ | refine Below.trans ?_ (Below.mono hb (by first | omega | (simp; done) | (simp; omega)))))⟩
  exact Own.base ((ho.setBelow (by simp; omega) _).setBelow (by simp; omega) _) (by omega)
theorem wof_spec (n : Int) (w : World) (h0 : -9223372036854775808 ≤ n) (h1 : n ≤ 9223372036854775807) :
    Calls Tryd.prog 126 #[.int .i64 n] w fun e w' => ∃ a' c', e = .returned (.agg #[.bool (Nm.wn n), .slice a' (Nm.wl n).length c']) ∧ Own w' w.heap.size a' c' (Nm.wl n) ∧ Below w.heap.size w w' := by
  cases h : decide (n < 0)
  · exact wof_spec_false n w h0 h1 h
  · exact wof_spec_true n w h0 h1 h
end Go.Proofs.YtojcaoccjapdoaaDoor
/-
  Plain mathematics, no Go: sums, differences, products and shifts of limbs, step by step.
-/
namespace Go.Proofs.YtojcaoccjapdoaaDoor
set_option linter.unusedVariables false
namespace Nm

/-- A sum: k limbs are done, c is carried. -/
def AddAt (xs ys os : List Int) (k : Nat) (c : Int) : Prop := val (os.take k) + pw k * c = val (xs.take k) + val (ys.take k)
theorem AddAt.zero (xs ys os : List Int) : AddAt xs ys os 0 0 := by simp [AddAt, val]
/-- One limb more: the sum of both limbs and what is carried is parted. -/
theorem AddAt.step {xs ys os : List Int} {k : Nat} {c d c' : Int} (h : AddAt xs ys os k c) (hk : k < os.length) (e : d + 4294967296 * c' = xs.getD k 0 + ys.getD k 0 + c) : AddAt xs ys (os.set k d) (k + 1) c' := by
  unfold AddAt at *
  rw [val_take_succ, val_take_succ, val_take_succ, List.take_set_of_le (Nat.le_refl k), getD_set _ _ _ _ hk, if_pos rfl]
  have e2 : pw k * d + pw (k + 1) * c' = pw k * (xs.getD k 0 + ys.getD k 0 + c) := by
    rw [← e, Int.mul_add, show pw (k + 1) = 4294967296 * pw k from rfl, ← Int.mul_assoc, Int.mul_comm (pw k) 4294967296]
  rw [Int.mul_add, Int.mul_add] at e2
  omega
theorem AddAt.stepSnoc {xs ys os : List Int} {c d c' : Int} (h : AddAt xs ys os os.length c) (e : d + 4294967296 * c' = xs.getD os.length 0 + ys.getD os.length 0 + c) : AddAt xs ys (os ++ [d]) (os ++ [d]).length c' := by
  have h1 : AddAt xs ys (os ++ [0]) os.length c := by unfold AddAt at *; simpa using h
  have h2 := AddAt.step h1 (by simp) e
  simpa using h2
theorem AddAt.full {xs ys os : List Int} {k : Nat} {c : Int} (h : AddAt xs ys os k c) (hx : xs.length ≤ k) (hy : ys.length ≤ k) (ho : os.length = k) : val os + pw k * c = val xs + val ys := by
  unfold AddAt at h; rwa [List.take_of_length_le (by omega), List.take_of_length_le hx, List.take_of_length_le hy] at h

/-- A difference: k limbs are done, c is borrowed. -/
def SubAt (xs ys os : List Int) (k : Nat) (c : Int) : Prop := val (os.take k) - pw k * c = val (xs.take k) - val (ys.take k)
theorem SubAt.zero (xs ys os : List Int) : SubAt xs ys os 0 0 := by simp [SubAt, val]
theorem SubAt.step {xs ys os : List Int} {k : Nat} {c d c' : Int} (h : SubAt xs ys os k c) (hk : k < os.length) (e : d - 4294967296 * c' = xs.getD k 0 - ys.getD k 0 - c) : SubAt xs ys (os.set k d) (k + 1) c' := by
  unfold SubAt at *
  rw [val_take_succ, val_take_succ, val_take_succ, List.take_set_of_le (Nat.le_refl k), getD_set _ _ _ _ hk, if_pos rfl]
  have e2 : pw k * d - pw (k + 1) * c' = pw k * (xs.getD k 0 - ys.getD k 0 - c) := by
    rw [← e, Int.mul_sub, show pw (k + 1) = 4294967296 * pw k from rfl, ← Int.mul_assoc, Int.mul_comm (pw k) 4294967296]
  rw [Int.mul_sub, Int.mul_sub] at e2
  omega
theorem SubAt.stepSnoc {xs ys os : List Int} {c d c' : Int} (h : SubAt xs ys os os.length c) (e : d - 4294967296 * c' = xs.getD os.length 0 - ys.getD os.length 0 - c) : SubAt xs ys (os ++ [d]) (os ++ [d]).length c' := by
  have h1 : SubAt xs ys (os ++ [0]) os.length c := by unfold SubAt at *; simpa using h
  have h2 := SubAt.step h1 (by simp) e
  simpa using h2
/-- Where the first is not less than the other nothing is borrowed at the end. -/
theorem SubAt.full {xs ys os : List Int} {c : Int} (h : SubAt xs ys os os.length c) (hx : xs.length = os.length) (hy : ys.length ≤ os.length) (dx : Dg xs) (dy : Dg ys) (dos : Dg os) (hc : 0 ≤ c) (hge : val ys ≤ val xs) : val os = val xs - val ys := by
  unfold SubAt at h
  rw [List.take_of_length_le (Nat.le_refl _), List.take_of_length_le (by omega), List.take_of_length_le hy] at h
  have h1 := val_lt dos
  have h2 := val_nonneg dos
  have hz : c = 0 := by
    rcases Int.lt_or_le 0 c with h3 | h3
    · exfalso
      have := pw_pos os.length
      have h4 : pw os.length * 1 ≤ pw os.length * c := Int.mul_le_mul_of_nonneg_left (by omega) (by omega)
      omega
    · omega
  subst hz
  omega

/-- A product: i limbs of the first are done, and j of the other with the next one, c is carried. -/
def MulAt (xs ys os : List Int) (i j : Nat) (c : Int) : Prop := val os + pw (i + j) * c = val (xs.take i) * val ys + pw i * (xs.getD i 0 * val (ys.take j))
theorem MulAt.zero (xs ys os : List Int) (h : val os = 0) : MulAt xs ys os 0 0 0 := by simp [MulAt, val, h]
theorem MulAt.step {xs ys os : List Int} {i j : Nat} {c d c' : Int} (h : MulAt xs ys os i j c) (hk : i + j < os.length) (e : d + 4294967296 * c' = xs.getD i 0 * ys.getD j 0 + os.getD (i + j) 0 + c) : MulAt xs ys (os.set (i + j) d) i (j + 1) c' := by
  unfold MulAt at *
  rw [val_set _ _ _ hk, val_take_succ]
  have e2 : pw (i + j) * d + pw (i + (j + 1)) * c' = pw (i + j) * (xs.getD i 0 * ys.getD j 0) + pw (i + j) * os.getD (i + j) 0 + pw (i + j) * c := by
    rw [← Int.mul_add, ← Int.mul_add, ← e, Int.mul_add, show i + (j + 1) = (i + j) + 1 by omega, show pw (i + j + 1) = 4294967296 * pw (i + j) from rfl, ← Int.mul_assoc, Int.mul_comm (pw (i + j)) 4294967296]
  have e3 : pw i * (xs.getD i 0 * (val (ys.take j) + pw j * ys.getD j 0)) = pw i * (xs.getD i 0 * val (ys.take j)) + pw (i + j) * (xs.getD i 0 * ys.getD j 0) := by
    rw [pw_add, Int.mul_add, Int.mul_add, ← Int.mul_assoc (xs.getD i 0) (pw j), Int.mul_comm (xs.getD i 0) (pw j), Int.mul_assoc, Int.mul_assoc]
  rw [e3, Int.mul_sub]
  omega
/-- All of the other is done: the next limb of the first. -/
theorem MulAt.next {xs ys os : List Int} {i j : Nat} (h : MulAt xs ys os i j 0) (hj : ys.length ≤ j) : MulAt xs ys os (i + 1) 0 0 := by
  unfold MulAt at *
  rw [List.take_of_length_le hj] at h
  rw [val_take_succ]
  simp [val]
  rw [Int.add_mul, Int.mul_assoc]
  simpa using h
theorem MulAt.full {xs ys os : List Int} {i : Nat} (h : MulAt xs ys os i 0 0) (hi : xs.length ≤ i) : val os = val xs * val ys := by
  unfold MulAt at h; rw [List.take_of_length_le hi] at h; simpa [val] using h

/-- What two limbs' product, a limb and what is carried come to. -/
theorem prod_bound {x y o c : Int} (hx : 0 ≤ x ∧ x < 4294967296) (hy : 0 ≤ y ∧ y < 4294967296) (ho : 0 ≤ o ∧ o < 4294967296) (hc : 0 ≤ c ∧ c < 4294967296) : 0 ≤ x * y ∧ x * y ≤ 18446744065119617025 ∧ x * y + o + c < 18446744073709551616 ∧ (x * y + o + c) / 4294967296 < 4294967296 ∧ 0 ≤ (x * y + o + c) / 4294967296 := by
  have h1 : x * y ≤ 4294967295 * 4294967295 := Int.mul_le_mul (by omega) (by omega) hy.1 (by omega)
  have h0 : 0 ≤ x * y := Int.mul_nonneg hx.1 hy.1
  refine ⟨h0, by omega, by omega, by omega, by omega⟩
end Nm
end Go.Proofs.YtojcaoccjapdoaaDoor
