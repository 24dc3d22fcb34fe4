/-
  What is needed of WideL, Rows2.
-/
import Derived.Test.YtkfjmcdniohljaaGreatDoorE01
import Derived.Test.YtkfjmcdniohljaaGreatDoorE02
set_option maxHeartbeats 16000000
set_option maxRecDepth 1000000
namespace Go.Proofs.YtkfjmcdniohljaaGreatDoor
set_option linter.unusedVariables false
set_option linter.unusedSimpArgs false
open Go.RowKit Go.Deep
theorem fit_out (ng : Bool) {zs : List Int} (hd : Nm.Dg zs) : fitL zs = Nm.outL (Nm.wv ng zs) ∧ fitN ng zs = Nm.outN (Nm.wv ng zs) ∧ fitO zs = Nm.fits (Nm.wv ng zs) := by
  have h1 := Nm.wl_wv ng hd
  have h2 := Nm.wn_wv ng hd
  unfold fitL fitN fitO Nm.outL Nm.outN Nm.fits
  rw [h1, h2]
  by_cases h : (Nm.trim zs).length ≤ 200 <;> simp [h]
/-- Limbs made to a wide that fits, by the program. -/
theorem fitted_v (ng : Bool) (a : Option Addr) (cap : Nat) (zs : List Int) (B : Nat) (w : World) (ho : Own w B a cap zs) (hz : Nm.Dg zs) (hl : zs.length ≤ 1048576) (x : Int) (hx : x = Nm.wv ng zs) :
    Calls Tryz.prog 105 #[.bool ng, .slice a zs.length cap] w fun e w' => ∃ a' c', e = .returned (.tuple #[.agg #[.bool (Nm.outN x), .slice a' (Nm.outL x).length c'], .bool (Nm.fits x)]) ∧ Own w' B a' c' (Nm.outL x) ∧ Below w.heap.size w w' := by
  obtain ⟨e1, e2, e3⟩ := fit_out ng hz
  subst hx
  rw [← e1, ← e2, ← e3]
  exact fitted_any ng a cap zs B w ho hz hl
/-- Limbs made to a wide, by the specification. -/
theorem made_v (ng : Bool) (a : Option Addr) (cap : Nat) (zs : List Int) (w : World) (hs : Sl .u32 w (.slice a zs.length cap) zs) (hz : Nm.Dg zs) (hl : zs.length ≤ 1048576) (x : Int) (hx : x = Nm.wv ng zs) :
    Calls Tryz.prog 175 #[.bool ng, .slice a zs.length cap] w fun e w' => ∃ a' c', e = .returned (.agg #[.bool (Nm.wn x), .slice a' (Nm.wl x).length c']) ∧ Own w' w.heap.size a' c' (Nm.wl x) ∧ Below w.heap.size w w' := by
  subst hx
  rw [Nm.wl_wv ng hz, Nm.wn_wv ng hz]
  exact made_any ng a cap zs w hs hz hl
/-- What is a number of 64 bits without sign fits. -/
theorem fits_small {x : Int} (h0 : -18446744073709551616 < x) (h1 : x < 18446744073709551616) : Nm.fits x = true := by
  unfold Nm.fits Nm.wl
  rw [decide_eq_true_iff, Nm.lim_length]
  have h2 : Nm.pw 2 ≤ Nm.pw 200 := Nm.pw_mono (by decide)
  have h3 : Nm.pw 2 = 18446744073709551616 := by decide
  omega
theorem out_fits {x : Int} (h : Nm.fits x = true) : Nm.outL x = Nm.wl x ∧ Nm.outN x = Nm.wn x := by
  unfold Nm.outL Nm.outN; rw [h]; simp
/-- Two limbs. -/
def two (m : Int) : List Int := [m % 4294967296, m / 4294967296]
theorem two_dg {m : Int} (h0 : 0 ≤ m) (h1 : m < 18446744073709551616) : Nm.Dg (two m) := by
  unfold two; exact Nm.Dg.cons (by omega) (Nm.Dg.cons (by omega) Nm.Dg.nil)
theorem two_wv {m : Int} (ng : Bool) (h0 : 0 ≤ m) : Nm.wv ng (two m) = if ng then -m else m := by
  unfold Nm.wv two; simp only [Nm.val]; cases ng <;> simp <;> omega
theorem own_two {w : World} {B g : Nat} (hB : B ≤ w.heap.size) (hg : g = w.heap.size) (x y : Int) : Own (w.alloc (.cells #[.int .u32 x, .int .u32 y] 128)) B (some ⟨g, 0, none⟩) 2 [x, y] := by
  subst hg
  exact ⟨by simp, .inr ⟨w.heap.size, 2, #[.int .u32 x, .int .u32 y], rfl, hB, heap_alloc_new w _, by simp, by decide, by simp, by simp⟩⟩

theorem w64_neg {n : Int} (h0 : -9223372036854775808 ≤ n) (h : n < 0) : IntKind.u64.wrap (-(IntKind.u64.wrap n)) = -n := by
  rw [IntKind.wrap_u64, IntKind.wrap_u64]; omega
theorem w64_pos {n : Int} (h0 : 0 ≤ n) (h : n ≤ 9223372036854775807) : IntKind.u64.wrap n = n := by
  rw [IntKind.wrap_u64]; omega
theorem wof_impl_true (n : Int) (w : World) (h0 : -9223372036854775808 ≤ n) (h1 : n ≤ 9223372036854775807) (hn : decide (n < 0) = true) :
    Calls Tryz.prog 22 #[.int .i64 n] w fun e w' => ∃ a' c', e = .returned (.agg #[.bool (Nm.wn n), .slice a' (Nm.wl n).length c']) ∧ Own w' w.heap.size a' c' (Nm.wl n) ∧ Below w.heap.size w w' := by
  have HO := hid (out_fits (fits_small (x := n) (by omega) (by omega)))
  have h := hn
  simp at h
  have e0 := w64_neg h0 h
  have HV : Hid (n = Nm.wv true (two (-n))) := hid (by have := two_wv (m := (-n)) true (by omega); simp at this; rw [this])
  have HD := hid (two_dg (m := (-n)) (by omega) (by omega))
  go_enter Tryz.func22, Tryz.ntmps22
  go_wp2_with fail
  refine (fitted_v true _ 2 (two (-n)) (w.heap.size + 1) _ (by refine own_two ?_ ?_ _ _ <;> simp) HD.out (by simp [two]) n HV.out).mono ?_
  rintro e w1 ⟨a', c', rfl, ho, hb⟩
  have r := (R2.new w (.bool false) (.slice none 0 0) 32).alloc (.cells #[.int .u32 ((-n) % 4294967296), .int .u32 ((-n) / 4294967296)] 128)
  obtain ⟨rc0, rc1, rf0, rf1⟩ := r.below hb
  have hz : w.heap.size < w1.heap.size := World.block_lt_of_cell? w1 _ rc0
  go_wp2
  obtain ⟨oL, oN⟩ := HO.out
  refine bodyPost_ret (v := .agg #[.bool (Nm.wn n), .slice a' (Nm.wl n).length c']) (by simp [results, Tryz.results22, go_sem, oL, oN, hz, rc0, rc1]) rfl ⟨a', c', rfl, ?_, (by repeat (first | exact bz0 _ _ | refine bz1 ?_ | refine bz2 ?_ _ | refine bz3 ?_ _ | refine bz4 ?_ hb | refine bz5 ?_ _ | refine bz6 ?_ _ | refine bz7 ?_ hb))⟩
  rw [oL] at ho
  exact Own.base (((ho.setBelow (by simp) _).setBelow (by simp) _).alloc _) (by omega)
theorem wof_impl_false (n : Int) (w : World) (h0 : -9223372036854775808 ≤ n) (h1 : n ≤ 9223372036854775807) (hn : decide (n < 0) = false) :
    Calls Tryz.prog 22 #[.int .i64 n] w fun e w' => ∃ a' c', e = .returned (.agg #[.bool (Nm.wn n), .slice a' (Nm.wl n).length c']) ∧ Own w' w.heap.size a' c' (Nm.wl n) ∧ Below w.heap.size w w' := by
  have HO := hid (out_fits (fits_small (x := n) (by omega) (by omega)))
  have h := hn
  simp at h
  have e0 := w64_pos (n := n) (by omega) h1
  have HV : Hid (n = Nm.wv false (two n)) := hid (by have := two_wv (m := n) false (by omega); simp at this; rw [this])
  have HD := hid (two_dg (m := n) (by omega) (by omega))
  go_enter Tryz.func22, Tryz.ntmps22
  go_wp2_with fail
  refine (fitted_v false _ 2 (two n) (w.heap.size + 1) _ (by refine own_two ?_ ?_ _ _ <;> simp) HD.out (by simp [two]) n HV.out).mono ?_
  rintro e w1 ⟨a', c', rfl, ho, hb⟩
  have r := (R2.new w (.bool false) (.slice none 0 0) 32).alloc (.cells #[.int .u32 (n % 4294967296), .int .u32 (n / 4294967296)] 128)
  obtain ⟨rc0, rc1, rf0, rf1⟩ := r.below hb
  have hz : w.heap.size < w1.heap.size := World.block_lt_of_cell? w1 _ rc0
  go_wp2
  obtain ⟨oL, oN⟩ := HO.out
  refine bodyPost_ret (v := .agg #[.bool (Nm.wn n), .slice a' (Nm.wl n).length c']) (by simp [results, Tryz.results22, go_sem, oL, oN, hz, rc0, rc1]) rfl ⟨a', c', rfl, ?_, (by repeat (first | exact bz0 _ _ | refine bz1 ?_ | refine bz2 ?_ _ | refine bz3 ?_ _ | refine bz4 ?_ hb | refine bz5 ?_ _ | refine bz6 ?_ _ | refine bz7 ?_ hb))⟩
  rw [oL] at ho
  exact Own.base (((ho.setBelow (by simp) _).setBelow (by simp) _).alloc _) (by omega)
theorem wof_impl (n : Int) (w : World) (h0 : -9223372036854775808 ≤ n) (h1 : n ≤ 9223372036854775807) :
    Calls Tryz.prog 22 #[.int .i64 n] w fun e w' => ∃ a' c', e = .returned (.agg #[.bool (Nm.wn n), .slice a' (Nm.wl n).length c']) ∧ Own w' w.heap.size a' c' (Nm.wl n) ∧ Below w.heap.size w w' := by
  cases h : decide (n < 0)
  · exact wof_impl_false n w h0 h1 h
  · exact wof_impl_true n w h0 h1 h
theorem wof_spec_true (n : Int) (w : World) (h0 : -9223372036854775808 ≤ n) (h1 : n ≤ 9223372036854775807) (hn : decide (n < 0) = true) :
    Calls Tryz.prog 86 #[.int .i64 n] w fun e w' => ∃ a' c', e = .returned (.agg #[.bool (Nm.wn n), .slice a' (Nm.wl n).length c']) ∧ Own w' w.heap.size a' c' (Nm.wl n) ∧ Below w.heap.size w w' := by
  have h := hn
  simp at h
  have e0 := w64_neg h0 h
  have HV : Hid (n = Nm.wv true (two (-n))) := hid (by have := two_wv (m := (-n)) true (by omega); simp at this; rw [this])
  have HD := hid (two_dg (m := (-n)) (by omega) (by omega))
  go_enter Tryz.func86, Tryz.ntmps86
  go_wp2_with fail
  refine (made_v true _ 2 (two (-n)) _ (by refine Own.sl (own_two (B := 0) ?_ ?_ _ _) <;> simp) HD.out (by simp [two]) n HV.out).mono ?_
  rintro e w1 ⟨a', c', rfl, ho, hb⟩
  have r := (R2.new w (.bool false) (.slice none 0 0) 32).alloc (.cells #[.int .u32 ((-n) % 4294967296), .int .u32 ((-n) / 4294967296)] 128)
  obtain ⟨rc0, rc1, rf0, rf1⟩ := r.below hb
  have hz : w.heap.size < w1.heap.size := World.block_lt_of_cell? w1 _ rc0
  have ho : Own w1 (w.heap.size + 1 + 1) a' c' (Nm.wl n) := by simpa using ho
  go_wp2
  refine bodyPost_ret (v := .agg #[.bool (Nm.wn n), .slice a' (Nm.wl n).length c']) (by simp [results, Tryz.results86, go_sem, hz, rc0, rc1]) rfl ⟨a', c', rfl, ?_, (by repeat (first | exact bz0 _ _ | refine bz1 ?_ | refine bz2 ?_ _ | refine bz3 ?_ _ | refine bz4 ?_ hb | refine bz5 ?_ _ | refine bz6 ?_ _ | refine bz7 ?_ hb))⟩
  exact Own.base ((ho.setBelow (by simp; omega) _).setBelow (by simp; omega) _) (by omega)
theorem wof_spec_false (n : Int) (w : World) (h0 : -9223372036854775808 ≤ n) (h1 : n ≤ 9223372036854775807) (hn : decide (n < 0) = false) :
    Calls Tryz.prog 86 #[.int .i64 n] w fun e w' => ∃ a' c', e = .returned (.agg #[.bool (Nm.wn n), .slice a' (Nm.wl n).length c']) ∧ Own w' w.heap.size a' c' (Nm.wl n) ∧ Below w.heap.size w w' := by
  have h := hn
  simp at h
  have e0 := w64_pos (n := n) (by omega) h1
  have HV : Hid (n = Nm.wv false (two n)) := hid (by have := two_wv (m := n) false (by omega); simp at this; rw [this])
  have HD := hid (two_dg (m := n) (by omega) (by omega))
  go_enter Tryz.func86, Tryz.ntmps86
  go_wp2_with fail
  refine (made_v false _ 2 (two n) _ (by refine Own.sl (own_two (B := 0) ?_ ?_ _ _) <;> simp) HD.out (by simp [two]) n HV.out).mono ?_
  rintro e w1 ⟨a', c', rfl, ho, hb⟩
  have r := (R2.new w (.bool false) (.slice none 0 0) 32).alloc (.cells #[.int .u32 (n % 4294967296), .int .u32 (n / 4294967296)] 128)
  obtain ⟨rc0, rc1, rf0, rf1⟩ := r.below hb
  have hz : w.heap.size < w1.heap.size := World.block_lt_of_cell? w1 _ rc0
  have ho : Own w1 (w.heap.size + 1 + 1) a' c' (Nm.wl n) := by simpa using ho
  go_wp2
  refine bodyPost_ret (v := .agg #[.bool (Nm.wn n), .slice a' (Nm.wl n).length c']) (by simp [results, Tryz.results86, go_sem, hz, rc0, rc1]) rfl ⟨a', c', rfl, ?_, (by repeat (first | exact bz0 _ _ | refine bz1 ?_ | refine bz2 ?_ _ | refine bz3 ?_ _ | refine bz4 ?_ hb | refine bz5 ?_ _ | refine bz6 ?_ _ | refine bz7 ?_ hb))⟩
  exact Own.base ((ho.setBelow (by simp; omega) _).setBelow (by simp; omega) _) (by omega)
theorem wof_spec (n : Int) (w : World) (h0 : -9223372036854775808 ≤ n) (h1 : n ≤ 9223372036854775807) :
    Calls Tryz.prog 86 #[.int .i64 n] w fun e w' => ∃ a' c', e = .returned (.agg #[.bool (Nm.wn n), .slice a' (Nm.wl n).length c']) ∧ Own w' w.heap.size a' c' (Nm.wl n) ∧ Below w.heap.size w w' := by
  cases h : decide (n < 0)
  · exact wof_spec_false n w h0 h1 h
  · exact wof_spec_true n w h0 h1 h
/-- The block b holds the limbs os, whole, and may be written. -/
def Rw (w : World) (b : Nat) (os : List Int) : Prop := w.rowIs b 128 os.length (fun i => .int .u32 (os.getD i 0))
theorem Rw.set {w : World} {b : Nat} {os : List Int} (h : Rw w b os) {k : Nat} (hk : k < os.length) (v : Int) : Rw (w.setCell ⟨b, k, none⟩ (.int .u32 v)) b (os.set k v) := by
  unfold Rw at *
  rw [List.length_set]
  refine (World.rowIs.set h k _).congr fun i _ => ?_
  rw [Nm.getD_set _ _ _ _ hk]
  by_cases e : i = k <;> simp [e]
theorem Rw.own {w : World} {b base : Nat} {os : List Int} (h : Rw w b os) (hb : base ≤ b) (hm : os.length ≤ maxLen) : Own w base (some ⟨b, 0, none⟩) os.length os := Own.of_row h (fun _ _ => rfl) hb hm
theorem Rw.cell {w : World} {b : Nat} {os : List Int} (h : Rw w b os) {k : Nat} (hk : k < os.length) : w.cell? ⟨b, k, none⟩ = some (.int .u32 (os.getD k 0)) := World.rowIs.cell h hk
theorem Rw.frozen {w : World} {b : Nat} {os : List Int} (h : Rw w b os) (k : Nat) : w.frozen? ⟨b, k, none⟩ = false := World.rowIs.frozen h k
theorem Rw.made (w : World) (n : Nat) : Rw (w.alloc (.cells (madeCells #[.int .u32 0] n) 128)) w.heap.size (List.replicate n 0) := by
  unfold Rw
  rw [List.length_replicate]
  refine (World.rowIs_made w (.int .u32 0) n 128).congr fun i _ => ?_
  rw [Nm.getD_replicate]
theorem Rw.below {w w' : World} {b : Nat} {os : List Int} (h : Rw w b os) (hb : Below w.heap.size w w') (hlt : b < w.heap.size) : Rw w' b os := by
  obtain ⟨c, h1, h2, h3⟩ := h
  exact ⟨c, by rw [hb.block b hlt]; exact h1, h2, h3⟩

theorem limbAt_any (a : Option Addr) (cap : Nat) (zs : List Int) (i : Nat) (w : World) (hs : Sl .u32 w (.slice a zs.length cap) zs) (hl : zs.length ≤ 140737488355328) (hi : i ≤ 140737488355328) :
    Calls Tryz.prog 194 #[.slice a zs.length cap, .int .i64 i] w fun e w' => e = .returned (.int .u32 (zs.getD i 0)) ∧ w' = w := by
  obtain ⟨-, hx1, hx2, hx3⟩ := hs.cells
  by_cases hlt : i < zs.length
  · obtain ⟨b, off, rfl, hcx⟩ := hx3 (by omega)
    have hc := hcx i hlt
    clear hcx hx3
    obtain ⟨x, hx⟩ : ∃ x, x = zs.getD i 0 := ⟨_, rfl⟩
    rw [← hx] at hc ⊢
    clear hx
    go_enter Tryz.func194, Tryz.ntmps194
    go_wp2
    go_ret
    exact ⟨rfl, rfl⟩
  · have HR : Hid (zs.getD i 0 = 0) := hid (Nm.getD_out (by omega))
    clear hx3
    go_enter Tryz.func194, Tryz.ntmps194
    go_wp2
    go_ret
    exact ⟨ret_int HR.out.symm, rfl⟩
theorem limb_any (a : Option Addr) (cap : Nat) (zs : List Int) (i : Nat) (w : World) (hs : Sl .u32 w (.slice a zs.length cap) zs) (hz : Nm.Dg zs) (hl : zs.length ≤ 140737488355328) (hi : i ≤ 140737488355328) :
    Calls Tryz.prog 176 #[.slice a zs.length cap, .int .i64 i] w fun e w' => e = .returned (.int .u64 (zs.getD i 0)) ∧ w' = w := by
  obtain ⟨-, hx1, hx2, hx3⟩ := hs.cells
  by_cases hlt : i < zs.length
  · obtain ⟨b, off, rfl, hcx⟩ := hx3 (by omega)
    have hc := hcx i hlt
    have hd := hz.getD i
    clear hcx hx3
    obtain ⟨x, hx⟩ : ∃ x, x = zs.getD i 0 := ⟨_, rfl⟩
    rw [← hx] at hc hd ⊢
    clear hx
    obtain ⟨hd0, hd1⟩ := hd
    go_enter Tryz.func176, Tryz.ntmps176
    go_wp2
    go_ret
    exact ⟨rfl, rfl⟩
  · have HR : Hid (zs.getD i 0 = 0) := hid (Nm.getD_out (by omega))
    clear hx3
    go_enter Tryz.func176, Tryz.ntmps176
    go_wp2
    go_ret
    exact ⟨ret_int HR.out.symm, rfl⟩
end Go.Proofs.YtkfjmcdniohljaaGreatDoor
