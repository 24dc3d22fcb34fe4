/-
  What is needed of WideL, Rows2, WideQ.
-/
import Derived.Deep.AppendLies
import Derived.Test.YtnliofakkkjpoaaGreatDoorA02
import Derived.Test.YtnliofakkkjpoaaGreatDoorA04
set_option maxHeartbeats 16000000
set_option maxRecDepth 1000000
namespace Go.Proofs.YtnliofakkkjpoaaGreatDoor
set_option linter.unusedVariables false
set_option linter.unusedSimpArgs false
open Go.RowKit Go.Deep
theorem fit_out (ng : Bool) {zs : List Int} (hd : Nm.Dg zs) : fitL zs = Nm.outL (Nm.wv ng zs) ∧ fitN ng zs = Nm.outN (Nm.wv ng zs) ∧ fitO zs = Nm.fits (Nm.wv ng zs) := by
  have h1 := Nm.wl_wv ng hd
  have h2 := Nm.wn_wv ng hd
  unfold fitL fitN fitO Nm.outL Nm.outN Nm.fits
  rw [h1, h2]
  by_cases h : (Nm.trim zs).length ≤ 200 <;> simp [h]
/-- Limbs made to a wide that fits, by the program. -/
theorem fitted_v (ng : Bool) (a : Option Addr) (cap : Nat) (zs : List Int) (B : Nat) (w : World) (ho : Own w B a cap zs) (hz : Nm.Dg zs) (hl : zs.length ≤ 1048576) (x : Int) (hx : x = Nm.wv ng zs) :
    Calls Tryz.prog 179 #[.bool ng, .slice a zs.length cap] w fun e w' => ∃ a' c', e = .returned (.tuple #[.agg #[.bool (Nm.outN x), .slice a' (Nm.outL x).length c'], .bool (Nm.fits x)]) ∧ Own w' B a' c' (Nm.outL x) ∧ Below w.heap.size w w' := by
  obtain ⟨e1, e2, e3⟩ := fit_out ng hz
  subst hx
  rw [← e1, ← e2, ← e3]
  exact fitted_any ng a cap zs B w ho hz hl
/-- Limbs made to a wide, by the specification. -/
theorem made_v (ng : Bool) (a : Option Addr) (cap : Nat) (zs : List Int) (w : World) (hs : Sl .u32 w (.slice a zs.length cap) zs) (hz : Nm.Dg zs) (hl : zs.length ≤ 1048576) (x : Int) (hx : x = Nm.wv ng zs) :
    Calls Tryz.prog 124 #[.bool ng, .slice a zs.length cap] w fun e w' => ∃ a' c', e = .returned (.agg #[.bool (Nm.wn x), .slice a' (Nm.wl x).length c']) ∧ Own w' w.heap.size a' c' (Nm.wl x) ∧ Below w.heap.size w w' := by
  subst hx
  rw [Nm.wl_wv ng hz, Nm.wn_wv ng hz]
  exact made_any ng a cap zs w hs hz hl
/-- What is a number of 64 bits without sign fits. -/
theorem fits_small {x : Int} (h0 : -18446744073709551616 < x) (h1 : x < 18446744073709551616) : Nm.fits x = true := by
  unfold Nm.fits Nm.wl
  rw [decide_eq_true_iff, Nm.lim_length]
  have h2 : Nm.pw 2 ≤ Nm.pw 200 := Nm.pw_mono (by decide)
  have h3 : Nm.pw 2 = 18446744073709551616 := by decide
  omega
theorem out_fits {x : Int} (h : Nm.fits x = true) : Nm.outL x = Nm.wl x ∧ Nm.outN x = Nm.wn x := by
  unfold Nm.outL Nm.outN; rw [h]; simp
/-- Two limbs. -/
def two (m : Int) : List Int := [m % 4294967296, m / 4294967296]
theorem two_dg {m : Int} (h0 : 0 ≤ m) (h1 : m < 18446744073709551616) : Nm.Dg (two m) := by
  unfold two; exact Nm.Dg.cons (by omega) (Nm.Dg.cons (by omega) Nm.Dg.nil)
theorem two_wv {m : Int} (ng : Bool) (h0 : 0 ≤ m) : Nm.wv ng (two m) = if ng then -m else m := by
  unfold Nm.wv two; simp only [Nm.val]; cases ng <;> simp <;> omega
theorem own_two {w : World} {B g : Nat} (hB : B ≤ w.heap.size) (hg : g = w.heap.size) (x y : Int) : Own (w.alloc (.cells #[.int .u32 x, .int .u32 y] 147)) B (some ⟨g, 0, none⟩) 2 [x, y] := by
  subst hg
  exact ⟨by simp, .inr ⟨w.heap.size, 2, #[.int .u32 x, .int .u32 y], rfl, hB, heap_alloc_new w _, by simp, by decide, by simp, by simp⟩⟩

theorem w64_neg {n : Int} (h0 : -9223372036854775808 ≤ n) (h : n < 0) : IntKind.u64.wrap (-(IntKind.u64.wrap n)) = -n := by
  rw [IntKind.wrap_u64, IntKind.wrap_u64]; omega
theorem w64_pos {n : Int} (h0 : 0 ≤ n) (h : n ≤ 9223372036854775807) : IntKind.u64.wrap n = n := by
  rw [IntKind.wrap_u64]; omega
theorem wof_impl_true (n : Int) (w : World) (h0 : -9223372036854775808 ≤ n) (h1 : n ≤ 9223372036854775807) (hn : decide (n < 0) = true) :
    Calls Tryz.prog 196 #[.int .i64 n] w fun e w' => ∃ a' c', e = .returned (.agg #[.bool (Nm.wn n), .slice a' (Nm.wl n).length c']) ∧ Own w' w.heap.size a' c' (Nm.wl n) ∧ Below w.heap.size w w' := by
  have HO := hid (out_fits (fits_small (x := n) (by omega) (by omega)))
  have h := hn
  simp at h
  have e0 := w64_neg h0 h
  have HV : Hid (n = Nm.wv true (two (-n))) := hid (by have := two_wv (m := (-n)) true (by omega); simp at this; rw [this])
  have HD := hid (two_dg (m := (-n)) (by omega) (by omega))
  go_enter Tryz.func196, Tryz.ntmps196
  go_wp2_with fail
  refine (fitted_v true _ 2 (two (-n)) (w.heap.size + 1) _ (by refine own_two ?_ ?_ _ _ <;> simp) HD.out (by simp [two]) n HV.out).mono ?_
  rintro e w1 ⟨a', c', rfl, ho, hb⟩
  have r := (R2.new w (.bool false) (.slice none 0 0) 29).alloc (.cells #[.int .u32 ((-n) % 4294967296), .int .u32 ((-n) / 4294967296)] 147)
  obtain ⟨rc0, rc1, rf0, rf1⟩ := r.below hb
  have hz : w.heap.size < w1.heap.size := World.block_lt_of_cell? w1 _ rc0
  go_wp2
  obtain ⟨oL, oN⟩ := HO.out
  refine bodyPost_ret (v := .agg #[.bool (Nm.wn n), .slice a' (Nm.wl n).length c']) (by simp [results, Tryz.results196, go_sem, oL, oN, hz, rc0, rc1]) rfl ⟨a', c', rfl, ?_, (by repeat (first | exact bz0 _ _ | refine bz1 ?_ | refine bz2 ?_ _ | refine bz3 ?_ _ | refine bz4 ?_ hb | refine bz5 ?_ _ | refine bz6 ?_ _ | refine bz7 ?_ hb))⟩
  rw [oL] at ho
  exact Own.base (((ho.setBelow (by simp) _).setBelow (by simp) _).alloc _) (by omega)
theorem wof_impl_false (n : Int) (w : World) (h0 : -9223372036854775808 ≤ n) (h1 : n ≤ 9223372036854775807) (hn : decide (n < 0) = false) :
    Calls Tryz.prog 196 #[.int .i64 n] w fun e w' => ∃ a' c', e = .returned (.agg #[.bool (Nm.wn n), .slice a' (Nm.wl n).length c']) ∧ Own w' w.heap.size a' c' (Nm.wl n) ∧ Below w.heap.size w w' := by
  have HO := hid (out_fits (fits_small (x := n) (by omega) (by omega)))
  have h := hn
  simp at h
  have e0 := w64_pos (n := n) (by omega) h1
  have HV : Hid (n = Nm.wv false (two n)) := hid (by have := two_wv (m := n) false (by omega); simp at this; rw [this])
  have HD := hid (two_dg (m := n) (by omega) (by omega))
  go_enter Tryz.func196, Tryz.ntmps196
  go_wp2_with fail
  refine (fitted_v false _ 2 (two n) (w.heap.size + 1) _ (by refine own_two ?_ ?_ _ _ <;> simp) HD.out (by simp [two]) n HV.out).mono ?_
  rintro e w1 ⟨a', c', rfl, ho, hb⟩
  have r := (R2.new w (.bool false) (.slice none 0 0) 29).alloc (.cells #[.int .u32 (n % 4294967296), .int .u32 (n / 4294967296)] 147)
  obtain ⟨rc0, rc1, rf0, rf1⟩ := r.below hb
  have hz : w.heap.size < w1.heap.size := World.block_lt_of_cell? w1 _ rc0
  go_wp2
  obtain ⟨oL, oN⟩ := HO.out
  refine bodyPost_ret (v := .agg #[.bool (Nm.wn n), .slice a' (Nm.wl n).length c']) (by simp [results, Tryz.results196, go_sem, oL, oN, hz, rc0, rc1]) rfl ⟨a', c', rfl, ?_, (by repeat (first | exact bz0 _ _ | refine bz1 ?_ | refine bz2 ?_ _ | refine bz3 ?_ _ | refine bz4 ?_ hb | refine bz5 ?_ _ | refine bz6 ?_ _ | refine bz7 ?_ hb))⟩
  rw [oL] at ho
  exact Own.base (((ho.setBelow (by simp) _).setBelow (by simp) _).alloc _) (by omega)
theorem wof_impl (n : Int) (w : World) (h0 : -9223372036854775808 ≤ n) (h1 : n ≤ 9223372036854775807) :
    Calls Tryz.prog 196 #[.int .i64 n] w fun e w' => ∃ a' c', e = .returned (.agg #[.bool (Nm.wn n), .slice a' (Nm.wl n).length c']) ∧ Own w' w.heap.size a' c' (Nm.wl n) ∧ Below w.heap.size w w' := by
  cases h : decide (n < 0)
  · exact wof_impl_false n w h0 h1 h
  · exact wof_impl_true n w h0 h1 h
theorem wof_spec_true (n : Int) (w : World) (h0 : -9223372036854775808 ≤ n) (h1 : n ≤ 9223372036854775807) (hn : decide (n < 0) = true) :
    Calls Tryz.prog 113 #[.int .i64 n] w fun e w' => ∃ a' c', e = .returned (.agg #[.bool (Nm.wn n), .slice a' (Nm.wl n).length c']) ∧ Own w' w.heap.size a' c' (Nm.wl n) ∧ Below w.heap.size w w' := by
  have h := hn
  simp at h
  have e0 := w64_neg h0 h
  have HV : Hid (n = Nm.wv true (two (-n))) := hid (by have := two_wv (m := (-n)) true (by omega); simp at this; rw [this])
  have HD := hid (two_dg (m := (-n)) (by omega) (by omega))
  go_enter Tryz.func113, Tryz.ntmps113
  go_wp2_with fail
  refine (made_v true _ 2 (two (-n)) _ (by refine Own.sl (own_two (B := 0) ?_ ?_ _ _) <;> simp) HD.out (by simp [two]) n HV.out).mono ?_
  rintro e w1 ⟨a', c', rfl, ho, hb⟩
  have r := (R2.new w (.bool false) (.slice none 0 0) 29).alloc (.cells #[.int .u32 ((-n) % 4294967296), .int .u32 ((-n) / 4294967296)] 147)
  obtain ⟨rc0, rc1, rf0, rf1⟩ := r.below hb
  have hz : w.heap.size < w1.heap.size := World.block_lt_of_cell? w1 _ rc0
  have ho : Own w1 (w.heap.size + 1 + 1) a' c' (Nm.wl n) := by simpa using ho
  go_wp2
  refine bodyPost_ret (v := .agg #[.bool (Nm.wn n), .slice a' (Nm.wl n).length c']) (by simp [results, Tryz.results113, go_sem, hz, rc0, rc1]) rfl ⟨a', c', rfl, ?_, (by repeat (first | exact bz0 _ _ | refine bz1 ?_ | refine bz2 ?_ _ | refine bz3 ?_ _ | refine bz4 ?_ hb | refine bz5 ?_ _ | refine bz6 ?_ _ | refine bz7 ?_ hb))⟩
  exact Own.base ((ho.setBelow (by simp; omega) _).setBelow (by simp; omega) _) (by omega)
theorem wof_spec_false (n : Int) (w : World) (h0 : -9223372036854775808 ≤ n) (h1 : n ≤ 9223372036854775807) (hn : decide (n < 0) = false) :
    Calls Tryz.prog 113 #[.int .i64 n] w fun e w' => ∃ a' c', e = .returned (.agg #[.bool (Nm.wn n), .slice a' (Nm.wl n).length c']) ∧ Own w' w.heap.size a' c' (Nm.wl n) ∧ Below w.heap.size w w' := by
  have h := hn
  simp at h
  have e0 := w64_pos (n := n) (by omega) h1
  have HV : Hid (n = Nm.wv false (two n)) := hid (by have := two_wv (m := n) false (by omega); simp at this; rw [this])
  have HD := hid (two_dg (m := n) (by omega) (by omega))
  go_enter Tryz.func113, Tryz.ntmps113
  go_wp2_with fail
  refine (made_v false _ 2 (two n) _ (by refine Own.sl (own_two (B := 0) ?_ ?_ _ _) <;> simp) HD.out (by simp [two]) n HV.out).mono ?_
  rintro e w1 ⟨a', c', rfl, ho, hb⟩
  have r := (R2.new w (.bool false) (.slice none 0 0) 29).alloc (.cells #[.int .u32 (n % 4294967296), .int .u32 (n / 4294967296)] 147)
  obtain ⟨rc0, rc1, rf0, rf1⟩ := r.below hb
  have hz : w.heap.size < w1.heap.size := World.block_lt_of_cell? w1 _ rc0
  have ho : Own w1 (w.heap.size + 1 + 1) a' c' (Nm.wl n) := by simpa using ho
  go_wp2
  refine bodyPost_ret (v := .agg #[.bool (Nm.wn n), .slice a' (Nm.wl n).length c']) (by simp [results, Tryz.results113, go_sem, hz, rc0, rc1]) rfl ⟨a', c', rfl, ?_, (by repeat (first | exact bz0 _ _ | refine bz1 ?_ | refine bz2 ?_ _ | refine bz3 ?_ _ | refine bz4 ?_ hb | refine bz5 ?_ _ | refine bz6 ?_ _ | refine bz7 ?_ hb))⟩
  exact Own.base ((ho.setBelow (by simp; omega) _).setBelow (by simp; omega) _) (by omega)
theorem wof_spec (n : Int) (w : World) (h0 : -9223372036854775808 ≤ n) (h1 : n ≤ 9223372036854775807) :
    Calls Tryz.prog 113 #[.int .i64 n] w fun e w' => ∃ a' c', e = .returned (.agg #[.bool (Nm.wn n), .slice a' (Nm.wl n).length c']) ∧ Own w' w.heap.size a' c' (Nm.wl n) ∧ Below w.heap.size w w' := by
  cases h : decide (n < 0)
  · exact wof_spec_false n w h0 h1 h
  · exact wof_spec_true n w h0 h1 h
/-- The block b holds the limbs os, whole, and may be written. -/
def Rw (w : World) (b : Nat) (os : List Int) : Prop := w.rowIs b 147 os.length (fun i => .int .u32 (os.getD i 0))
theorem Rw.set {w : World} {b : Nat} {os : List Int} (h : Rw w b os) {k : Nat} (hk : k < os.length) (v : Int) : Rw (w.setCell ⟨b, k, none⟩ (.int .u32 v)) b (os.set k v) := by
  unfold Rw at *
  rw [List.length_set]
  refine (World.rowIs.set h k _).congr fun i _ => ?_
  rw [Nm.getD_set _ _ _ _ hk]
  by_cases e : i = k <;> simp [e]
theorem Rw.own {w : World} {b base : Nat} {os : List Int} (h : Rw w b os) (hb : base ≤ b) (hm : os.length ≤ maxLen) : Own w base (some ⟨b, 0, none⟩) os.length os := Own.of_row h (fun _ _ => rfl) hb hm
theorem Rw.cell {w : World} {b : Nat} {os : List Int} (h : Rw w b os) {k : Nat} (hk : k < os.length) : w.cell? ⟨b, k, none⟩ = some (.int .u32 (os.getD k 0)) := World.rowIs.cell h hk
theorem Rw.frozen {w : World} {b : Nat} {os : List Int} (h : Rw w b os) (k : Nat) : w.frozen? ⟨b, k, none⟩ = false := World.rowIs.frozen h k
theorem Rw.made (w : World) (n : Nat) : Rw (w.alloc (.cells (madeCells #[.int .u32 0] n) 147)) w.heap.size (List.replicate n 0) := by
  unfold Rw
  rw [List.length_replicate]
  refine (World.rowIs_made w (.int .u32 0) n 147).congr fun i _ => ?_
  rw [Nm.getD_replicate]
theorem Rw.below {w w' : World} {b : Nat} {os : List Int} (h : Rw w b os) (hb : Below w.heap.size w w') (hlt : b < w.heap.size) : Rw w' b os := by
  obtain ⟨c, h1, h2, h3⟩ := h
  exact ⟨c, by rw [hb.block b hlt]; exact h1, h2, h3⟩

theorem limbAt_any (a : Option Addr) (cap : Nat) (zs : List Int) (i : Nat) (w : World) (hs : Sl .u32 w (.slice a zs.length cap) zs) (hl : zs.length ≤ 140737488355328) (hi : i ≤ 140737488355328) :
    Calls Tryz.prog 207 #[.slice a zs.length cap, .int .i64 i] w fun e w' => e = .returned (.int .u32 (zs.getD i 0)) ∧ w' = w := by
  obtain ⟨-, hx1, hx2, hx3⟩ := hs.cells
  by_cases hlt : i < zs.length
  · obtain ⟨b, off, rfl, hcx⟩ := hx3 (by omega)
    have hc := hcx i hlt
    clear hcx hx3
    obtain ⟨x, hx⟩ : ∃ x, x = zs.getD i 0 := ⟨_, rfl⟩
    rw [← hx] at hc ⊢
    clear hx
    go_enter Tryz.func207, Tryz.ntmps207
    go_wp2
    go_ret
    exact ⟨rfl, rfl⟩
  · have HR : Hid (zs.getD i 0 = 0) := hid (Nm.getD_out (by omega))
    clear hx3
    go_enter Tryz.func207, Tryz.ntmps207
    go_wp2
    go_ret
    exact ⟨ret_int HR.out.symm, rfl⟩
theorem limb_any (a : Option Addr) (cap : Nat) (zs : List Int) (i : Nat) (w : World) (hs : Sl .u32 w (.slice a zs.length cap) zs) (hz : Nm.Dg zs) (hl : zs.length ≤ 140737488355328) (hi : i ≤ 140737488355328) :
    Calls Tryz.prog 129 #[.slice a zs.length cap, .int .i64 i] w fun e w' => e = .returned (.int .u64 (zs.getD i 0)) ∧ w' = w := by
  obtain ⟨-, hx1, hx2, hx3⟩ := hs.cells
  by_cases hlt : i < zs.length
  · obtain ⟨b, off, rfl, hcx⟩ := hx3 (by omega)
    have hc := hcx i hlt
    have hd := hz.getD i
    clear hcx hx3
    obtain ⟨x, hx⟩ : ∃ x, x = zs.getD i 0 := ⟨_, rfl⟩
    rw [← hx] at hc hd ⊢
    clear hx
    obtain ⟨hd0, hd1⟩ := hd
    go_enter Tryz.func129, Tryz.ntmps129
    go_wp2
    go_ret
    exact ⟨rfl, rfl⟩
  · have HR : Hid (zs.getD i 0 = 0) := hid (Nm.getD_out (by omega))
    clear hx3
    go_enter Tryz.func129, Tryz.ntmps129
    go_wp2
    go_ret
    exact ⟨ret_int HR.out.symm, rfl⟩
theorem news_one (w : World) (d : Int) : ∀ j u, ([Value.int .u32 d] : List Value)[j]? = some u → (w.alloc (.cells #[.int .u32 d] 147)).cell? ((⟨w.heap.size, 0, none⟩ : Addr).add j) = some u := by
  intro j u hj
  cases j with
  | zero => simp at hj; subst hj; simp [Addr.add]
  | succ j => simp at hj
theorem one_one (d : Int) : ∀ u ∈ ([Value.int .u32 d] : List Value), u.oneCell' = true := by
  intro u hu; simp at hu; subst hu; rfl
/-- One limb more, behind those of the call's own. -/
theorem own_more {w : World} {B g cap : Nat} {os : List Int} {d : Int} (h : w.ownsRow B 147 1 (.slice (some ⟨g, 0, none⟩) (os.length + 1) cap) (os.length + 1) (os.map (Value.int .u32) ++ [.int .u32 d])) : Own w B (some ⟨g, 0, none⟩) cap (os ++ [d]) := by
  unfold Own; simpa using h
theorem own_buf {w : World} : Own (w.alloc (.cells #[] 147)) w.heap.size (some ⟨w.heap.size, 0, none⟩) 0 [] := by
  have := World.ownsRow_made (base := w.heap.size) (e := 147) (size := 1) w #[] 0 (by simp) (by decide) rfl
  simpa [Own] using this
theorem own_ge {w : World} {B g cap : Nat} {os : List Int} (h : Own w B (some ⟨g, 0, none⟩) cap os) : B ≤ g ∧ g < w.heap.size := by
  rcases h.block with ⟨e, _⟩ | ⟨g', e, h1, h2⟩
  · cases e
  · cases e; exact ⟨h1, h2⟩
theorem bel_app {w W w' : World} {g : Nat} {n cap : Nat} (h : Below w.heap.size w W) (hg : W.grownBy w' (Value.slice (some ⟨g, 0, none⟩) n cap).ownBlock) (hge : w.heap.size ≤ g) : Below w.heap.size w w' :=
  h.grown hg h.size (fun k hk => by have h' : g = k := Option.some.inj hk; omega)
theorem plus_any (a a' : Option Addr) (cap cap' : Nat) (xs ys : List Int) (w : World) (hx : Sl .u32 w (.slice a xs.length cap) xs) (hy : Sl .u32 w (.slice a' ys.length cap') ys) (dx : Nm.Dg xs) (dy : Nm.Dg ys) (hl : xs.length ≤ 500000) (hl' : ys.length ≤ 500000) :
    Calls Tryz.prog 127 #[.slice a xs.length cap, .slice a' ys.length cap'] w fun e w' => ∃ a1 c1 os, e = .returned (.slice a1 os.length c1) ∧ Own w' w.heap.size a1 c1 os ∧ Nm.Dg os ∧ Nm.val os = Nm.val xs + Nm.val ys ∧ os.length ≤ 1048576 ∧ Below w.heap.size w w' := by
  obtain ⟨i0, hi, hz0, hz1, hz2⟩ := info_parts info32
  have HI := hid (And.intro hi (And.intro hz0 (And.intro hz1 hz2)))
  clear hi hz0 hz1 hz2
  go_enter Tryz.func127, Tryz.ntmps127
  go_wp2_with fail
  go_loopw [5, 6, 7] (fun sl cy i wr => ∃ os : List Int, ∃ c : Int, ∃ g cp : Nat, os.length ≤ xs.length + ys.length + 1 ∧ i = .int .i64 os.length ∧ cy = .int .u64 c ∧ sl = .slice (some ⟨g, 0, none⟩) os.length cp ∧ 0 ≤ c ∧ c ≤ 1 ∧ (xs.length ≤ os.length → ys.length ≤ os.length → 0 < c → os.length ≤ xs.length + ys.length) ∧ Own wr w.heap.size (some ⟨g, 0, none⟩) cp os ∧ Nm.Dg os ∧ Nm.AddAt xs ys os os.length c ∧ Below w.heap.size w wr) (fun _ _ i _ => xs.length + ys.length + 1 - (intOf i).toNat)
  case atStart => exact ⟨[], 0, w.heap.size, 0, by simp, rfl, rfl, rfl, by omega, by omega, by simp, own_buf, Nm.Dg.nil, Nm.AddAt.zero _ _ _, (by repeat (first | exact bz0 _ _ | refine bz1 ?_ | refine bz2 ?_ _ | refine bz3 ?_ _ | refine bz5 ?_ _ | refine bz6 ?_ _))⟩
  case round =>
    obtain ⟨os, c, g, cp, hk, rfl, rfl, rfl, hc0, hc1, hlast, hown, hdo, hadd, hb⟩ := hrel
    have HADD := hid hadd
    have HDO := hid hdo
    have HLAST := hid hlast
    have hbs : w.heap.size ≤ wr.heap.size := hb.size
    have sx := hx.below hb
    have sy := hy.below hb
    by_cases hgo : os.length < xs.length ∨ os.length < ys.length ∨ 0 < c
    · have hroom : os.length ≤ xs.length + ys.length := by
        rcases hgo with h | h | h
        · omega
        · omega
        · by_cases h1 : xs.length ≤ os.length
          · by_cases h2 : ys.length ≤ os.length
            · exact hlast h1 h2 h
            · omega
          · omega
      have hc1' := limb_any a cap xs os.length wr sx dx (by omega) (by omega)
      have hc2' := limb_any a' cap' ys os.length wr sy dy (by omega) (by omega)
      have hst := fun d c' => Nm.AddAt.stepSnoc (d := d) (c' := c') HADD.out
      have hzx : xs.length ≤ os.length → xs.getD os.length 0 = 0 := fun h => Nm.getD_out h
      have hzy : ys.length ≤ os.length → ys.getD os.length 0 = 0 := fun h => Nm.getD_out h
      obtain ⟨ex0, ex1⟩ := dx.getD os.length
      obtain ⟨ey0, ey1⟩ := dy.getD os.length
      obtain ⟨x, hxk⟩ : ∃ x, x = xs.getD os.length 0 := ⟨_, rfl⟩
      obtain ⟨y, hyk⟩ : ∃ y, y = ys.getD os.length 0 := ⟨_, rfl⟩
      rw [← hxk] at hc1' ex0 ex1 hzx
      rw [← hyk] at hc2' ey0 ey1 hzy
      rw [← hxk, ← hyk] at hst
      have C1 := hid hc1'
      have C2 := hid hc2'
      have HST := hid hst
      have HZ := hid (And.intro hzx hzy)
      clear hc1' hc2' hst hxk hyk hzx hzy hlast hadd hdo
      have hmore : Hid (xs.length ≤ (os ++ [(c + x + y) % 4294967296]).length → ys.length ≤ (os ++ [(c + x + y) % 4294967296]).length → 0 < (c + x + y) / 4294967296 → (os ++ [(c + x + y) % 4294967296]).length ≤ xs.length + ys.length) := hid (by
        intro h1 h2 h3
        simp at h1 h2 ⊢
        by_cases g1 : xs.length ≤ os.length
        · by_cases g2 : ys.length ≤ os.length
          · have := HZ.out.1 g1; have := HZ.out.2 g2; omega
          · omega
        · omega)
      rcases (show (os.length < xs.length ∨ (¬ os.length < xs.length ∧ os.length < ys.length) ∨ (¬ os.length < xs.length ∧ ¬ os.length < ys.length ∧ 0 < c)) by omega) with h | ⟨h, h'⟩ | ⟨h, h', h''⟩
      all_goals
        clear hgo
        go_wp2_with fail
        refine C1.out.mono ?_
        rintro e w1 ⟨rfl, rfl⟩
        go_wp2_with fail
        refine C2.out.mono ?_
        rintro e w1 ⟨rfl, rfl⟩
        go_wp2_with (at_builtin; refine wpList_append_lies _ rfl _ _ 22 rfl w.heap.size 147 i0 (.int .u32 0) 1 4 Tryz.underlying22 HI.out.1 HI.out.2.1 HI.out.2.2.1 HI.out.2.2.2 rfl (by decide) (.slice (some ⟨g, 0, none⟩) os.length cp) os.length (os.map (Value.int .u32)) rfl (hown.alloc _) ⟨w1.heap.size, 0, none⟩ 1 1 [.int .u32 ((c + x + y) % 4294967296)] rfl rfl (news_one w1 _) (one_one _) (by decide) (by unfold maxLen; omega) (by omega) (by simp; omega) (w1.heap.size + 1) (by simp) ?_; intro g1 cp1 w2 hown2 hgrow hat hlt2)
        have ho2 := own_more hown2
        have hg0 := (own_ge hown).1
        have hb2 : Below w.heap.size w w2 := bel_app (bel_al hb _) hgrow hg0
        clear hown2 hat
        go_roundw
        case rel => exact ⟨os ++ [(c + x + y) % 4294967296], (c + x + y) / 4294967296, g1, cp1, by simp; omega, by simp, rfl, by simp, by omega, by omega, hmore.out, ho2, HDO.out.append (Nm.Dg.cons (by omega) Nm.Dg.nil), HST.out _ _ (by omega), hb2⟩
        case measure => simp [intOf]; omega
    · have h : ¬ os.length < xs.length := by omega
      have h' : ¬ os.length < ys.length := by omega
      have h'' : ¬ 0 < c := by omega
      obtain rfl : c = 0 := by omega
      clear hgo hlast hadd hdo
      go_wp2
      go_ret
      refine ⟨some ⟨g, 0, none⟩, cp, os, rfl, hown, HDO.out, ?_, by omega, hb⟩
      have := HADD.out.full (by omega) (by omega) rfl
      simpa using this
theorem less_any (a a' : Option Addr) (cap cap' : Nat) (xs ys : List Int) (w : World) (hx : Sl .u32 w (.slice a xs.length cap) xs) (hy : Sl .u32 w (.slice a' ys.length cap') ys) (dx : Nm.Dg xs) (dy : Nm.Dg ys) (hl : xs.length ≤ 500000) (hl' : ys.length ≤ xs.length) (hge : Nm.val ys ≤ Nm.val xs) :
    Calls Tryz.prog 128 #[.slice a xs.length cap, .slice a' ys.length cap'] w fun e w' => ∃ a1 c1 os, e = .returned (.slice a1 os.length c1) ∧ Own w' w.heap.size a1 c1 os ∧ Nm.Dg os ∧ Nm.val os = Nm.val xs - Nm.val ys ∧ os.length ≤ 1048576 ∧ Below w.heap.size w w' := by
  obtain ⟨i0, hi, hz0, hz1, hz2⟩ := info_parts info32
  have HI := hid (And.intro hi (And.intro hz0 (And.intro hz1 hz2)))
  clear hi hz0 hz1 hz2
  obtain ⟨-, hx1, hx2, hx3⟩ := hx.cells
  have HX3 := hid hx3
  have HGE := hid hge
  clear hx3 hge
  go_enter Tryz.func128, Tryz.ntmps128
  go_wp2_with fail
  go_loopw [5, 6, 7] (fun sl cy i wr => ∃ os : List Int, ∃ c : Int, ∃ g cp : Nat, os.length ≤ xs.length ∧ i = .int .i64 os.length ∧ cy = .int .i64 c ∧ sl = .slice (some ⟨g, 0, none⟩) os.length cp ∧ -1 ≤ c ∧ c ≤ 0 ∧ Own wr w.heap.size (some ⟨g, 0, none⟩) cp os ∧ Nm.Dg os ∧ Nm.SubAt xs ys os os.length (-c) ∧ Below w.heap.size w wr) (fun _ _ i _ => xs.length - (intOf i).toNat)
  case atStart => exact ⟨[], 0, w.heap.size, 0, by simp, rfl, rfl, rfl, by omega, by omega, own_buf, Nm.Dg.nil, Nm.SubAt.zero _ _ _, (by repeat (first | exact bz0 _ _ | refine bz1 ?_ | refine bz2 ?_ _ | refine bz3 ?_ _ | refine bz5 ?_ _ | refine bz6 ?_ _))⟩
  case round =>
    obtain ⟨os, c, g, cp, hk, rfl, rfl, rfl, hc0, hc1, hown, hdo, hadd, hb⟩ := hrel
    have HADD := hid hadd
    have HDO := hid hdo
    have hbs : w.heap.size ≤ wr.heap.size := hb.size
    have sy := hy.below hb
    by_cases hgo : os.length < xs.length
    · obtain ⟨b, off, rfl, hcx⟩ := HX3.out (by omega)
      have hcell := hcx os.length hgo
      have hcell : wr.cell? ⟨b, off + os.length, none⟩ = some (.int .u32 (xs.getD os.length 0)) := (hb.cell (p := ⟨b, off + os.length, none⟩) (World.block_lt_of_cell? w _ hcell)).trans hcell
      have hc2' := fun w' (h : Sl .u32 w' (.slice a' ys.length cap') ys) => limb_any a' cap' ys os.length w' h dy (by omega) (by omega)
      have hst := fun d c' => Nm.SubAt.stepSnoc (d := d) (c' := c') HADD.out
      obtain ⟨ex0, ex1⟩ := dx.getD os.length
      obtain ⟨ey0, ey1⟩ := dy.getD os.length
      obtain ⟨x, hxk⟩ : ∃ x, x = xs.getD os.length 0 := ⟨_, rfl⟩
      obtain ⟨y, hyk⟩ : ∃ y, y = ys.getD os.length 0 := ⟨_, rfl⟩
      rw [← hxk] at hcell ex0 ex1
      simp only [← hyk] at hc2'
      rw [← hyk] at ey0 ey1
      rw [← hxk, ← hyk] at hst
      have C2 := hid hc2'
      have HST := hid hst
      clear hcx hc2' hst hxk hyk hadd hdo
      have k0 : (0 : Int) ≤ (os.length : Int) := by omega
      have k1 : (os.length : Int) < (xs.length : Int) := by omega
      go_wp2_with fail
      go_region_held3 (fun w' => w'.cell? ⟨b, off + os.length, none⟩ = some (.int .u32 x)) (first | assumption | go_keep)
        (first | (go_at_call 129; refine (C2.out _ (by exact Sl.drew sy)).mono ?_; rintro e w' ⟨rfl, rfl⟩))
      go_wp2_with (at_builtin; refine wpList_append_lies _ rfl _ _ 22 rfl w.heap.size 147 i0 (.int .u32 0) 1 4 Tryz.underlying22 HI.out.1 HI.out.2.1 HI.out.2.2.1 HI.out.2.2.2 rfl (by decide) (.slice (some ⟨g, 0, none⟩) os.length cp) os.length (os.map (Value.int .u32)) rfl (by exact hown.drew.alloc _) ⟨wr.heap.size, 0, none⟩ 1 1 [.int .u32 ((c + x - y) % 4294967296)] rfl rfl (by exact news_one wr.drew _) (one_one _) (by decide) (by unfold maxLen; omega) (by omega) (by simp; omega) (wr.heap.size + 1) (by simp) ?_; intro g1 cp1 w2 hown2 hgrow hat hlt2)
      have ho2 := own_more hown2
      have hg0 := (own_ge hown).1
      have hb2 : Below w.heap.size w w2 := bel_app (bel_al (Below.drew hb) _) hgrow hg0
      clear hown2 hat
      go_roundw
      case rel => exact ⟨os ++ [(c + x - y) % 4294967296], (c + x - y) / 4294967296, g1, cp1, by simp; omega, by simp, rfl, by simp, by omega, by omega, ho2, HDO.out.append (Nm.Dg.cons (by omega) Nm.Dg.nil), HST.out _ _ (by omega), hb2⟩
      case measure => simp [intOf]; omega
    · have hlen : os.length = xs.length := by omega
      have HL := hid hlen
      clear hlen hadd hdo
      go_wp2
      go_ret
      exact ⟨some ⟨g, 0, none⟩, cp, os, rfl, hown, HDO.out, HADD.out.full HL.out.symm (by have := HL.out; omega) dx dy HDO.out (by omega) HGE.out, by omega, hb⟩
end Go.Proofs.YtnliofakkkjpoaaGreatDoor
