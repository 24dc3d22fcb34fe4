/-
  What is needed of WideX, VecA, VO, NA, EF, NB, NC.
-/
import Derived.LoopN
import Derived.Test.YtkfjmcdniohljaaGreatDoorE19
import Derived.Test.YtkfjmcdniohljaaGreatDoorE25
set_option maxHeartbeats 16000000
set_option maxRecDepth 1000000
namespace Go.Proofs.YtkfjmcdniohljaaGreatDoor
set_option linter.unusedVariables false
set_option linter.unusedSimpArgs false
open Go.RowKit Go.Deep
theorem mk2 (N M : Nat) (h : N ≤ 400000) (h' : M ≤ 400000) : ∀ w : World, (Instr.makeSlice 30 (.int .i64 ((N : Int) + (M : Int) + 1)) (.int .i64 ((N : Int) + (M : Int) + 1))).run Tryz.prog w = .ok (.slice (some ⟨w.heap.size, 0, none⟩) (N + M + 1) (N + M + 1)) (w.alloc (.cells (madeCells #[.int .u32 0] (N + M + 1)) 128)) :=
  run_make_row' (P := Tryz.prog) 30 128 (.int .u32 0) 4 Tryz.underlying30 info32 rfl .i64 .i64 (N + M + 1) (by omega) (by omega)
theorem i64_in (n : Int) (h0 : -9223372036854775808 ≤ n) (h1 : n ≤ 9223372036854775807) : IntKind.i64.wrap n = n := by rw [IntKind.wrap_i64]; omega
theorem l1mul_any (na nb : Bool) (a b : Option Addr) (cap cap' : Nat) (xs ys : List Int) (w : World) (hx : Sl .u32 w (.slice a xs.length cap) xs) (hy : Sl .u32 w (.slice b ys.length cap') ys) (dx : Nm.Dg xs) (dy : Nm.Dg ys) (nx : Nm.Nz xs) (ny : Nm.Nz ys) (hl : xs.length ≤ 400000) (hl' : ys.length ≤ 400000) (x : Int) (hx0 : x = Nm.wv na xs * Nm.wv nb ys) :
    Calls Tryz.prog 208 #[.agg #[.bool na, .slice a xs.length cap], .agg #[.bool nb, .slice b ys.length cap']] w fun e w' => ∃ a' c', e = .returned (.agg #[.bool (Nm.wn x), .slice a' (Nm.wl x).length c']) ∧ Own w' w.heap.size a' c' (Nm.wl x) ∧ Below w.heap.size w w' := by
  have HX : Hid (∀ os, Nm.val os = Nm.val xs * Nm.val ys → x = Nm.wv (na != nb) os) := hid (fun os h => by rw [hx0]; exact Nm.wv_mul h)
  clear hx0
  obtain ⟨v, hv⟩ : ∃ v, v = x := ⟨_, rfl⟩
  rw [← hv] at HX ⊢
  clear hv x
  have hmk := mk2 xs.length ys.length hl hl'
  obtain ⟨-, hx1, hx2, hx3⟩ := hx.cells
  have HX3 := hid hx3
  clear hx3
  go_enter Tryz.func208, Tryz.ntmps208
  have Bx := ((Box.new w (.bool na) (.slice a xs.length cap) 32).alloc (.cells #[.bool nb, .slice b ys.length cap'] 32)).alloc (.cells #[.bool false, .slice none 0 0] 32)
  have By := (Box.new2 w (.cells #[.bool na, .slice a xs.length cap] 32) (.bool nb) (.slice b ys.length cap') 32).alloc (.cells #[.bool false, .slice none 0 0] 32)
  have Rz : R2 (((w.alloc (.cells #[.bool na, .slice a xs.length cap] 32)).alloc (.cells #[.bool nb, .slice b ys.length cap'] 32)).alloc (.cells #[.bool false, .slice none 0 0] 32)) (w.heap.size + 1 + 1) (.bool false) (.slice none 0 0) := by simpa using R2.new2 (w.alloc (.cells #[.bool na, .slice a xs.length cap] 32)) (.cells #[.bool nb, .slice b ys.length cap'] 32) (.bool false) (.slice none 0 0) 32
  have hbW : Below w.heap.size w (((w.alloc (.cells #[.bool na, .slice a xs.length cap] 32)).alloc (.cells #[.bool nb, .slice b ys.length cap'] 32)).alloc (.cells #[.bool false, .slice none 0 0] 32)) := (by repeat (first | exact bz0 _ _ | refine bz1 ?_ | refine bz2 ?_ _ | refine bz3 ?_ _ | refine bz5 ?_ _ | refine bz6 ?_ _))
  have hsW : (((w.alloc (.cells #[.bool na, .slice a xs.length cap] 32)).alloc (.cells #[.bool nb, .slice b ys.length cap'] 32)).alloc (.cells #[.bool false, .slice none 0 0] 32)).heap.size = w.heap.size + 1 + 1 + 1 := by simp
  go_wp2_with fail
  clear hmk
  generalize hW : ((w.alloc (.cells #[.bool na, .slice a xs.length cap] 32)).alloc (.cells #[.bool nb, .slice b ys.length cap'] 32)).alloc (.cells #[.bool false, .slice none 0 0] 32) = W at Bx By Rz hbW hsW ⊢
  clear hW
  have HSW := hid hsW
  clear hsW
  go_loopw [6] (fun iv wr => ∃ i : Nat, ∃ os : List Int, i ≤ xs.length ∧ iv = .int .i64 i ∧ os.length = xs.length + ys.length + 1 ∧ Rw wr (w.heap.size + 1 + 1 + 1) os ∧ Nm.Dg os ∧ Nm.MulAt xs ys os i 0 0 ∧ (∀ m, i + ys.length ≤ m → os.getD m 0 = 0) ∧ Below W.heap.size W wr) (fun iv _ => xs.length - (intOf iv).toNat)
  case atStart => exact ⟨0, List.replicate (xs.length + ys.length + 1) 0, Nat.zero_le _, rfl, by simp, by have := Rw.made W (xs.length + ys.length + 1); rwa [HSW.out] at this, Nm.Dg.replicate _, Nm.MulAt.zero _ _ _ (Nm.val_replicate _), fun m _ => Nm.getD_replicate _ m, (by repeat (first | exact bz0 _ _ | refine bz1 ?_ | refine bz2 ?_ _ | refine bz3 ?_ _ | refine bz5 ?_ _ | refine bz6 ?_ _))⟩
  case round =>
    obtain ⟨i, os, hi, rfl, hol, hrw, hdo, hmul, hzero, hb⟩ := hrel
    have H0 := hid (And.intro hol (And.intro hdo (And.intro hmul hzero)))
    clear hol hdo hmul hzero
    obtain ⟨c00, c01⟩ := Bx.below hb
    obtain ⟨c10, c11⟩ := By.below hb
    by_cases hlt : i < xs.length
    · obtain ⟨ba, off, rfl, hcx⟩ := HX3.out (by omega)
      have hca0 := hcx i hlt
      have hbl := World.block_lt_of_cell? w _ hca0
      simp at hbl
      have hcW : W.cell? ⟨ba, off + i, none⟩ = some (.int .u32 (xs.getD i 0)) := (hbW.cell (p := ⟨ba, off + i, none⟩) hbl).trans hca0
      obtain ⟨ex0, ex1⟩ := dx.getD i
      obtain ⟨x, hxk⟩ : ∃ x, x = xs.getD i 0 := ⟨_, rfl⟩
      rw [← hxk] at hcW ex0 ex1
      have HXK := hid hxk
      have HCW := hid hcW
      have hwW : w.heap.size ≤ W.heap.size := hbW.size
      clear hxk hca0 hcx hcW
      go_wp2_with fail
      clear c00 c01 c10 c11
      go_loopw [7, 8] (fun cy jv wr => ∃ j : Nat, ∃ os : List Int, ∃ c : Int, j ≤ ys.length + 1 ∧ jv = .int .i64 j ∧ cy = .int .u64 c ∧ 0 ≤ c ∧ c < 4294967296 ∧ os.length = xs.length + ys.length + 1 ∧ Rw wr (w.heap.size + 1 + 1 + 1) os ∧ Nm.Dg os ∧ Nm.MulAt xs ys os i j c ∧ (∀ m, i + ys.length + 1 ≤ m → os.getD m 0 = 0) ∧ (j ≤ ys.length → os.getD (i + ys.length) 0 = 0) ∧ (ys.length < j → c = 0) ∧ Below W.heap.size W wr) (fun _ jv _ => ys.length + 1 - (intOf jv).toNat)
      case atStart => exact ⟨0, os, 0, Nat.zero_le _, rfl, rfl, by omega, by omega, H0.out.1, hrw, H0.out.2.1, H0.out.2.2.1, fun m hm => H0.out.2.2.2 m (by omega), fun _ => H0.out.2.2.2 _ (Nat.le_refl _), fun h => by omega, hb⟩
      case round =>
        clear hrw hb H0
        obtain ⟨j, os, c, hj, rfl, rfl, hc0, hc1, hol, hrw, hdo, hmul, hzero, hmid, hlast, hb⟩ := hrel
        have H0 := hid (And.intro hol (And.intro hdo (And.intro hmul hzero)))
        have H1 := hid (And.intro hmid hlast)
        have hol1 : xs.length + ys.length + 1 ≤ os.length := by omega
        clear hol hdo hmul hzero hmid hlast
        obtain ⟨c00, c01⟩ := Bx.below hb
        obtain ⟨c10, c11⟩ := By.below hb
        by_cases hlj : j ≤ ys.length
        · have hca : wr.cell? ⟨ba, off + i, none⟩ = some (.int .u32 x) := (hb.cell (p := ⟨ba, off + i, none⟩) (World.block_lt_of_cell? W _ HCW.out)).trans HCW.out
          have sy := (hy.below hbW).below hb
          have hcell := hrw.cell (k := i + j) (by omega)
          have hfr := hrw.frozen (i + j)
          have c2 := fun w' (h : Sl .u32 w' (.slice b ys.length cap') ys) => limb_any b cap' ys j w' h dy (by omega) (by omega)
          obtain ⟨ey0, ey1⟩ := dy.getD j
          obtain ⟨eo0, eo1⟩ := H0.out.2.1.getD (i + j)
          have hst := fun d c' => Nm.MulAt.step (d := d) (c' := c') H0.out.2.2.1 (show i + j < os.length by omega)
          have hyz : ys.length ≤ j → ys.getD j 0 = 0 := fun h => Nm.getD_out h
          have hoz : ys.length ≤ j → os.getD (i + j) 0 = 0 := fun h => by
            have e : j = ys.length := by omega
            subst e; exact H1.out.1 (Nat.le_refl _)
          obtain ⟨y, hyk⟩ : ∃ y, y = ys.getD j 0 := ⟨_, rfl⟩
          obtain ⟨o, hok⟩ : ∃ o, o = os.getD (i + j) 0 := ⟨_, rfl⟩
          simp only [← hyk] at c2
          rw [← hyk] at ey0 ey1 hyz
          rw [← hok] at hcell eo0 eo1 hoz
          rw [← HXK.out, ← hyk, ← hok] at hst
          have HST := hid hst
          have C2 := hid c2
          have HYZ := hid (And.intro hyz hoz)
          obtain ⟨q0, q1, q2, q3, q4⟩ := Nm.prod_bound (x := x) (y := y) (o := o) (c := c) ⟨ex0, ex1⟩ ⟨ey0, ey1⟩ ⟨eo0, eo1⟩ ⟨hc0, hc1⟩
          have hco : c + o + x * y = x * y + o + c := by omega
          have HCO := hid hco
          have q2' : c + o + x * y < 18446744073709551616 := by omega
          clear hst hyk hok c2 hyz hoz hco q2 
          have k0 : (0 : Int) ≤ (i : Int) := by omega
          have k1 : (i : Int) < (xs.length : Int) := by omega
          have k2 : (0 : Int) ≤ (i : Int) + (j : Int) := by omega
          have k3 : (i : Int) + (j : Int) ≤ (xs.length : Int) + (ys.length : Int) := by omega
          have k3a : (i : Int) + (j : Int) < (xs.length : Int) + (ys.length : Int) + 1 := by omega
          have k3b : ¬ ((i : Int) + (j : Int) < 0) := by omega
          have k3c : ¬ ((xs.length : Int) + (ys.length : Int) + 1 ≤ (i : Int) + (j : Int)) := by omega
          have k3d : ((i : Int) + (j : Int)).toNat = i + j := by omega
          have k3e : i + j < xs.length + ys.length + 1 := by omega
          have k3f : i + j ≤ xs.length + ys.length := by omega
          have k4 : IntKind.i64.wrap ((i : Int) + (j : Int)) = (i : Int) + (j : Int) := i64_in _ (by omega) (by omega)
          have k5 : IntKind.u64.wrap (c + o) = c + o := by rw [IntKind.wrap_u64]; omega
          have k6 : IntKind.u64.wrap (x * y) = x * y := by rw [IntKind.wrap_u64]; omega
          have k7 : IntKind.u64.wrap (c + o + x * y) = c + o + x * y := by rw [IntKind.wrap_u64]; omega
          go_wp2_with fail
          go_region_held3 (fun w' => w'.cell? ⟨w.heap.size + 1 + 1 + 1, i + j, none⟩ = some (.int .u32 o) ∧ w'.cell? ⟨w.heap.size, 1, none⟩ = some (.slice (some ⟨ba, off, none⟩) xs.length cap) ∧ w'.cell? ⟨ba, off + i, none⟩ = some (.int .u32 x) ∧ w'.cell? ⟨w.heap.size + 1, 1, none⟩ = some (.slice b ys.length cap')) (first | assumption | exact ⟨hcell, c01, hca, c11⟩)
            (first | (go_at_call 176; refine (C2.out _ (by exact Sl.drew sy)).mono ?_; rintro e w' ⟨rfl, rfl⟩))
          go_wp2_with fail
          go_roundw
          case rel =>
            refine ⟨j + 1, os.set (i + j) ((c + o + x * y) % 4294967296), (c + o + x * y) / 4294967296, by omega, by go_num, rfl, by rw [HCO.out]; exact q4, by rw [HCO.out]; exact q3, by rw [List.length_set]; exact H0.out.1, hrw.set (by omega) _, H0.out.2.1.set _ (by omega), HST.out _ _ (by have := HCO.out; omega), fun m hm => by rw [Nm.getD_set _ _ _ _ (by omega), if_neg (by omega)]; exact H0.out.2.2.2 m hm, fun hm => by rw [Nm.getD_set _ _ _ _ (by omega), if_neg (by omega)]; exact H1.out.1 (by omega), fun hm => ?_, (hb.drew).setCell (by have := HSW.out; simp; omega) _⟩
            have h1 := HYZ.out.1 (by omega)
            have h2 := HYZ.out.2 (by omega)
            rw [h1, h2]; simp; omega
          case measure => simp [intOf]; omega
        · have hzc := H1.out.2 (by omega)
          have hnx := (hzc ▸ H0.out.2.2.1).next (j := j) (by omega)
          have HN := hid hnx
          clear hnx hzc
          go_wp2_with fail
          go_roundw
          case rel => exact ⟨i + 1, os, by omega, by go_num, H0.out.1, hrw, H0.out.2.1, HN.out, fun m hm => H0.out.2.2.2 m (by omega), hb⟩
          case measure => simp [intOf]; omega
    · obtain rfl : i = xs.length := by omega
      have hlen := H0.out.1
      have hown := hrw.own (base := w.heap.size) (by omega) (by unfold maxLen; omega)
      rw [hlen] at hown
      have hfull := H0.out.2.2.1.full (Nat.le_refl _)
      have cm := made_v (na != nb) (some ⟨w.heap.size + 1 + 1 + 1, 0, none⟩) (xs.length + ys.length + 1) os wr (by have := hown.sl; exact this) H0.out.2.1 (by omega) v (HX.out os hfull)
      rw [hlen] at cm
      have CM := hid cm
      clear hown hfull hlen cm
      go_wp2_with fail
      refine CM.out.mono ?_
      rintro e w2 ⟨a2, c2, rfl, ho2, hb2⟩
      obtain ⟨z0, z1, zf0, zf1⟩ := (Rz.below hb).below hb2
      have l2 : w.heap.size + 1 + 1 < wr.heap.size := by have := hb.size; have := HSW.out; omega
      go_wp2
      refine bodyPost_ret (v := .agg #[.bool (Nm.wn v), .slice a2 (Nm.wl v).length c2]) (by simp [results, Tryz.results208, go_sem, z0, z1]) rfl ⟨a2, c2, rfl, ?_, ?_⟩
      · exact Own.base ((ho2.setBelow (by simp; omega) _).setBelow (by simp; omega) _) (by omega)
      · exact ((bel_go (bel_go hbW hb) hb2).setCell (by simp; omega) _).setCell (by simp; omega) _
/-- Numbers of 64 bits. -/
def D64 (xs : List Int) : Prop := ∀ x ∈ xs, 0 ≤ x ∧ x < 18446744073709551616
theorem D64.getD {xs : List Int} (h : D64 xs) (k : Nat) : 0 ≤ xs.getD k 0 ∧ xs.getD k 0 < 18446744073709551616 := by
  rw [List.getD_eq_getElem?_getD]
  by_cases hk : k < xs.length
  · rw [List.getElem?_eq_getElem hk]; exact h _ (List.getElem_mem hk)
  · rw [List.getElem?_eq_none (by omega)]; decide
theorem info64 : (Tryz.prog.info? 22).map (fun i => (i.zero, i.size, i.bytes)) = some (some (.int .u64 0), 1, 8) := by kernel_rfl
def O8 (w : World) (B : Nat) (a : Option Addr) (cap : Nat) (zs : List Int) : Prop := w.ownsRow B 22 1 (.slice a zs.length cap) zs.length (zs.map (Value.int .u64))
theorem O8.sl {w : World} {B : Nat} {a : Option Addr} {cap : Nat} {zs : List Int} (h : O8 w B a cap zs) : Sl .u64 w (.slice a zs.length cap) zs := Sl.of_own h
theorem O8.block {w : World} {B : Nat} {a : Option Addr} {cap : Nat} {zs : List Int} (h : O8 w B a cap zs) : (a = none ∧ cap = 0 ∧ zs = []) ∨ ∃ g, a = some ⟨g, 0, none⟩ ∧ B ≤ g ∧ g < w.heap.size := by
  rcases h.2 with ⟨h1, h2⟩ | ⟨g, cap', cur, h1, h2, h3, _⟩
  · simp at h1; exact .inl ⟨h1.1, h1.2.2, h1.2.1⟩
  · simp at h1; exact .inr ⟨g, h1.1, h2, (Array.getElem?_eq_some_iff.1 h3).1⟩
theorem O8.below {w w' : World} {B : Nat} {a : Option Addr} {cap : Nat} {zs : List Int} (h : O8 w B a cap zs) (hb : Below w.heap.size w w') : O8 w' B a cap zs := by
  refine ⟨h.1, ?_⟩
  rcases h.2 with h2 | ⟨g, cap', cur, h1, h2, h3, h4⟩
  · exact .inl h2
  · exact .inr ⟨g, cap', cur, h1, h2, by rw [hb.block g (Array.getElem?_eq_some_iff.1 h3).1]; exact h3, h4⟩
theorem O8.kept {w w' : World} {B : Nat} {a : Option Addr} {cap : Nat} {zs : List Int} {row : Option Nat} (h : O8 w B a cap zs) (hg : w.grownBy w' row) (hne : ∀ g, a = some ⟨g, 0, none⟩ → row ≠ some g) : O8 w' B a cap zs := by
  refine World.ownsRow.kept h hg ?_
  rcases h.block with ⟨rfl, _⟩ | ⟨g, rfl, _⟩
  · exact .inl rfl
  · exact .inr (fun e => hne g rfl (by rw [← e]; rfl))

theorem O8.base {w : World} {B B' : Nat} {a : Option Addr} {cap : Nat} {zs : List Int} (h : O8 w B a cap zs) (hB : B' ≤ B) : O8 w B' a cap zs := own_base h hB
theorem O8.alloc {w : World} {B : Nat} {a : Option Addr} {cap : Nat} {zs : List Int} (h : O8 w B a cap zs) (o : Obj) : O8 (w.alloc o) B a cap zs := World.ownsRow.alloc h o
theorem O8.drew {w : World} {B : Nat} {a : Option Addr} {cap : Nat} {zs : List Int} (h : O8 w B a cap zs) : O8 w.drew B a cap zs := h
theorem O8.setBelow {w : World} {B : Nat} {a : Option Addr} {cap : Nat} {zs : List Int} (h : O8 w B a cap zs) {p : Addr} (hp : p.block < B) (u : Value) : O8 (w.setCell p u) B a cap zs := ownsRow_setCell_below h hp u
theorem O8.setOther {w : World} {B : Nat} {a : Option Addr} {cap : Nat} {zs : List Int} (h : O8 w B a cap zs) {p : Addr} (hp : ∀ g, a = some ⟨g, 0, none⟩ → g ≠ p.block) (u : Value) : O8 (w.setCell p u) B a cap zs := by
  refine ⟨h.1, ?_⟩
  rcases h.2 with h2 | ⟨g, cap', cur, h1, h2, h3, h4⟩
  · exact .inl h2
  · refine .inr ⟨g, cap', cur, h1, h2, ?_, h4⟩
    rw [Below.heap_setCell w p u g (hp g (by simpa using (Value.slice.inj h1).1))]; exact h3
theorem O8.of_row {w : World} {base b : Nat} {zs : List Int} {f : Nat → Value} (h : w.rowIs b 22 zs.length f) (hf : ∀ i, i < zs.length → f i = .int .u64 (zs.getD i 0)) (hb : base ≤ b) (hm : zs.length ≤ maxLen) :
    O8 w base (some ⟨b, 0, none⟩) zs.length zs := by
  obtain ⟨c, h1, h2, h3⟩ := h
  refine ⟨by simp, .inr ⟨b, zs.length, c, rfl, hb, h1, Nat.le_refl _, hm, by simpa using h2, ?_⟩⟩
  apply List.ext_getElem?
  intro i
  by_cases hi : i < zs.length
  · have := h3 i hi
    rw [hf i hi] at this
    simp [hi, this, List.getD_eq_getElem?_getD]
  · simp [hi]; omega

/-- A box of five cells that may be written. -/
structure Q5 (w : World) (b : Nat) (v0 v1 v2 v3 v4 : Value) : Prop where
  c0 : w.cell? ⟨b, 0, none⟩ = some v0
  c1 : w.cell? ⟨b, 1, none⟩ = some v1
  c2 : w.cell? ⟨b, 2, none⟩ = some v2
  c3 : w.cell? ⟨b, 3, none⟩ = some v3
  c4 : w.cell? ⟨b, 4, none⟩ = some v4
  f0 : w.frozen? ⟨b, 0, none⟩ = false
  f1 : w.frozen? ⟨b, 1, none⟩ = false
  f2 : w.frozen? ⟨b, 2, none⟩ = false
  f3 : w.frozen? ⟨b, 3, none⟩ = false
  f4 : w.frozen? ⟨b, 4, none⟩ = false
theorem Q5.lt {w : World} {b : Nat} {v0 v1 v2 v3 v4 : Value} (h : Q5 w b v0 v1 v2 v3 v4) : b < w.heap.size := World.block_lt_of_cell? w _ h.c0
theorem Q5.of_block {w w' : World} {b : Nat} {v0 v1 v2 v3 v4 : Value} (h : Q5 w b v0 v1 v2 v3 v4) (e : w'.heap[b]? = w.heap[b]?) : Q5 w' b v0 v1 v2 v3 v4 :=
  ⟨(World.cell?_of_block (a := ⟨b, 0, none⟩) e).trans h.c0, (World.cell?_of_block (a := ⟨b, 1, none⟩) e).trans h.c1, (World.cell?_of_block (a := ⟨b, 2, none⟩) e).trans h.c2, (World.cell?_of_block (a := ⟨b, 3, none⟩) e).trans h.c3, (World.cell?_of_block (a := ⟨b, 4, none⟩) e).trans h.c4, (World.frozen?_of_block (a := ⟨b, 0, none⟩) e).trans h.f0, (World.frozen?_of_block (a := ⟨b, 1, none⟩) e).trans h.f1, (World.frozen?_of_block (a := ⟨b, 2, none⟩) e).trans h.f2, (World.frozen?_of_block (a := ⟨b, 3, none⟩) e).trans h.f3, (World.frozen?_of_block (a := ⟨b, 4, none⟩) e).trans h.f4⟩
theorem Q5.below {w w' : World} {b : Nat} {v0 v1 v2 v3 v4 : Value} (h : Q5 w b v0 v1 v2 v3 v4) (hb : Below w.heap.size w w') : Q5 w' b v0 v1 v2 v3 v4 := h.of_block (hb.block b h.lt)
theorem Q5.new (w : World) (v0 v1 v2 v3 v4 : Value) (t : TypeId) : Q5 (w.alloc (.cells #[v0, v1, v2, v3, v4] t)) w.heap.size v0 v1 v2 v3 v4 := ⟨by simp, by simp, by simp, by simp, by simp, by simp, by simp, by simp, by simp, by simp⟩
theorem Q5.alloc {w : World} {b : Nat} {v0 v1 v2 v3 v4 : Value} (h : Q5 w b v0 v1 v2 v3 v4) (o : Obj) : Q5 (w.alloc o) b v0 v1 v2 v3 v4 := h.below ((Below.refl _ _).alloc (Nat.le_refl _) _)
theorem Q5.drew {w : World} {b : Nat} {v0 v1 v2 v3 v4 : Value} (h : Q5 w b v0 v1 v2 v3 v4) : Q5 w.drew b v0 v1 v2 v3 v4 := ⟨h.c0, h.c1, h.c2, h.c3, h.c4, h.f0, h.f1, h.f2, h.f3, h.f4⟩
theorem Q5.cs {w : World} {b : Nat} {v0 v1 v2 v3 v4 : Value} (h : Q5 w b v0 v1 v2 v3 v4) : w.cell? ⟨b, 0, none⟩ = some v0 ∧ w.cell? ⟨b, 1, none⟩ = some v1 ∧ w.cell? ⟨b, 2, none⟩ = some v2 ∧ w.cell? ⟨b, 3, none⟩ = some v3 ∧ w.cell? ⟨b, 4, none⟩ = some v4 := ⟨h.c0, h.c1, h.c2, h.c3, h.c4⟩
/-- The program's error for a quiet NaN lies in its cell. -/
abbrev ErrQ (w : World) (u : Value) : Prop := w.cell? ⟨0, 0, none⟩ = some (.iface 246 u)
/-- What the program's variables hold. -/
structure EE (u : Value) (w : World) : Prop where
  t : Tab w
  g : EA.ErrT w
  q : ErrQ w u
def EX (w : World) : Prop := ∃ u, EE u w
theorem EE.below {u : Value} {w w' : World} (h : EE u w) (hb : Below w.heap.size w w') : EE u w' := ⟨h.t.below hb, EA.five h.g hb, (hb.cell (p := ⟨0, 0, none⟩) (World.block_lt_of_cell? w _ h.q)).trans h.q⟩
theorem EX.below {w w' : World} (h : EX w) (hb : Below w.heap.size w w') : EX w' := by obtain ⟨u, h⟩ := h; exact ⟨u, h.below hb⟩
theorem cls_sixE {fm x : Int} (h : okF fm x = true) : finB fm x = true ∨ cls fm x = 3 ∨ cls fm x = 4 ∨ cls fm x = 5 := by
  have h1 := cls_rng fm x
  by_cases hf : 0 ≤ cls fm x ∧ cls fm x ≤ 2
  · exact .inl (by unfold finB; exact decide_eq_true hf)
  · have : cls fm x ≠ -1 := by
      intro e
      cases hn : nanB fm x
      · have := cls_num h hn; omega
      · have := cls_nan h hn; omega
    omega
theorem nan_ofE {fm x : Int} (h : okF fm x = true) : nanB fm x = (decide (cls fm x = 4) || decide (cls fm x = 5)) := by
  cases hn : nanB fm x
  · have := cls_num h hn
    rw [decide_eq_false (by omega), decide_eq_false (by omega)]; rfl
  · rcases cls_nan h hn with e | e
    · rw [decide_eq_true e]; rfl
    · rw [decide_eq_true e]; simp
/-- A float as a number: its sign; whether it is infinity; M with its sign; E. -/
def nS (fm x : Int) : Bool := !nanB fm x && sigB fm x
def nI (fm x : Int) : Bool := cls fm x == 3
def nZ (fm x : Int) : Int := if finB fm x then (if pS fm x then -pM fm x else pM fm x) else 0
def nE (fm x : Int) : Int := if finB fm x then pE fm x else 0
def nB (fm x : Int) : Bool := cls fm x == 5
theorem fin_facts {fm x : Int} (hx : okF fm x = true) (hf : finB fm x = true) : nS fm x = pS fm x ∧ nI fm x = false ∧ nZ fm x = (if pS fm x then -pM fm x else pM fm x) ∧ nE fm x = pE fm x ∧ nanB fm x = false ∧ nB fm x = false := by
  have hc : 0 ≤ cls fm x ∧ cls fm x ≤ 2 := by simpa [finB] using hf
  have hps : pS fm x = sigB fm x := by unfold pS; rw [hf]; rfl
  have hn : nanB fm x = false := by rw [nan_ofE hx, decide_eq_false (by omega), decide_eq_false (by omega)]; rfl
  refine ⟨by unfold nS; rw [hn, hps]; rfl, ?_, by unfold nZ; rw [hf, if_pos rfl], by unfold nE; rw [hf, if_pos rfl], hn, ?_⟩
  · unfold nI; rw [beq_eq_false_iff_ne]; omega
  · unfold nB; rw [beq_eq_false_iff_ne]; omega
/-- A box of 6 cells that may be written. -/
structure Q6 (w : World) (b : Nat) (v0 v1 v2 v3 v4 v5 : Value) : Prop where
  c0 : w.cell? ⟨b, 0, none⟩ = some v0
  c1 : w.cell? ⟨b, 1, none⟩ = some v1
  c2 : w.cell? ⟨b, 2, none⟩ = some v2
  c3 : w.cell? ⟨b, 3, none⟩ = some v3
  c4 : w.cell? ⟨b, 4, none⟩ = some v4
  c5 : w.cell? ⟨b, 5, none⟩ = some v5
  f0 : w.frozen? ⟨b, 0, none⟩ = false
  f1 : w.frozen? ⟨b, 1, none⟩ = false
  f2 : w.frozen? ⟨b, 2, none⟩ = false
  f3 : w.frozen? ⟨b, 3, none⟩ = false
  f4 : w.frozen? ⟨b, 4, none⟩ = false
  f5 : w.frozen? ⟨b, 5, none⟩ = false
theorem Q6.lt {w : World} {b : Nat} {v0 v1 v2 v3 v4 v5 : Value} (h : Q6 w b v0 v1 v2 v3 v4 v5) : b < w.heap.size := World.block_lt_of_cell? w _ h.c0
theorem Q6.of_block {w w' : World} {b : Nat} {v0 v1 v2 v3 v4 v5 : Value} (h : Q6 w b v0 v1 v2 v3 v4 v5) (e : w'.heap[b]? = w.heap[b]?) : Q6 w' b v0 v1 v2 v3 v4 v5 :=
  ⟨(World.cell?_of_block (a := ⟨b, 0, none⟩) e).trans h.c0, (World.cell?_of_block (a := ⟨b, 1, none⟩) e).trans h.c1, (World.cell?_of_block (a := ⟨b, 2, none⟩) e).trans h.c2, (World.cell?_of_block (a := ⟨b, 3, none⟩) e).trans h.c3, (World.cell?_of_block (a := ⟨b, 4, none⟩) e).trans h.c4, (World.cell?_of_block (a := ⟨b, 5, none⟩) e).trans h.c5, (World.frozen?_of_block (a := ⟨b, 0, none⟩) e).trans h.f0, (World.frozen?_of_block (a := ⟨b, 1, none⟩) e).trans h.f1, (World.frozen?_of_block (a := ⟨b, 2, none⟩) e).trans h.f2, (World.frozen?_of_block (a := ⟨b, 3, none⟩) e).trans h.f3, (World.frozen?_of_block (a := ⟨b, 4, none⟩) e).trans h.f4, (World.frozen?_of_block (a := ⟨b, 5, none⟩) e).trans h.f5⟩
theorem Q6.below {w w' : World} {b : Nat} {v0 v1 v2 v3 v4 v5 : Value} (h : Q6 w b v0 v1 v2 v3 v4 v5) (hb : Below w.heap.size w w') : Q6 w' b v0 v1 v2 v3 v4 v5 := h.of_block (hb.block b h.lt)
theorem Q6.new (w : World) (v0 v1 v2 v3 v4 v5 : Value) (t : TypeId) : Q6 (w.alloc (.cells #[v0, v1, v2, v3, v4, v5] t)) w.heap.size v0 v1 v2 v3 v4 v5 := ⟨by simp, by simp, by simp, by simp, by simp, by simp, by simp, by simp, by simp, by simp, by simp, by simp⟩
theorem Q6.alloc {w : World} {b : Nat} {v0 v1 v2 v3 v4 v5 : Value} (h : Q6 w b v0 v1 v2 v3 v4 v5) (o : Obj) : Q6 (w.alloc o) b v0 v1 v2 v3 v4 v5 := h.below ((Below.refl _ _).alloc (Nat.le_refl _) _)
theorem Q6.drew {w : World} {b : Nat} {v0 v1 v2 v3 v4 v5 : Value} (h : Q6 w b v0 v1 v2 v3 v4 v5) : Q6 w.drew b v0 v1 v2 v3 v4 v5 := ⟨h.c0, h.c1, h.c2, h.c3, h.c4, h.c5, h.f0, h.f1, h.f2, h.f3, h.f4, h.f5⟩
theorem Q6.cs {w : World} {b : Nat} {v0 v1 v2 v3 v4 v5 : Value} (h : Q6 w b v0 v1 v2 v3 v4 v5) : w.cell? ⟨b, 0, none⟩ = some v0 ∧ w.cell? ⟨b, 1, none⟩ = some v1 ∧ w.cell? ⟨b, 2, none⟩ = some v2 ∧ w.cell? ⟨b, 3, none⟩ = some v3 ∧ w.cell? ⟨b, 4, none⟩ = some v4 ∧ w.cell? ⟨b, 5, none⟩ = some v5 := ⟨h.c0, h.c1, h.c2, h.c3, h.c4, h.c5⟩
theorem heap9n (w : World) (B b : Nat) (h : b ≠ B) (u0 u1 u2 u3 u4 u5 u6 u7 u8 : Value) : (((((((((w.setCell ⟨B, 0, none⟩ u0).setCell ⟨B, 1, none⟩ u1).setCell ⟨B, 2, none⟩ u2).setCell ⟨B, 3, none⟩ u3).setCell ⟨B, 4, none⟩ u4).setCell ⟨B, 5, none⟩ u5).setCell ⟨B, 6, none⟩ u6).setCell ⟨B, 7, none⟩ u7).setCell ⟨B, 8, none⟩ u8).heap[b]? = w.heap[b]? := by
  rw [Below.heap_setCell _ _ _ _ h, Below.heap_setCell _ _ _ _ h, Below.heap_setCell _ _ _ _ h, Below.heap_setCell _ _ _ _ h, Below.heap_setCell _ _ _ _ h, Below.heap_setCell _ _ _ _ h, Below.heap_setCell _ _ _ _ h, Below.heap_setCell _ _ _ _ h, Below.heap_setCell _ _ _ _ h]
end Go.Proofs.YtkfjmcdniohljaaGreatDoor
