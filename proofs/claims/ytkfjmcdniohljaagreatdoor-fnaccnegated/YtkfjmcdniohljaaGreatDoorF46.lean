/-
  What is needed of MG, DAb.
-/
import Derived.Test.YtkfjmcdniohljaaGreatDoorF44
import Derived.Test.YtkfjmcdniohljaaGreatDoorF45
set_option maxHeartbeats 16000000
set_option maxRecDepth 1000000
namespace Go.Proofs.YtkfjmcdniohljaaGreatDoor
set_option linter.unusedVariables false
set_option linter.unusedSimpArgs false
open Go.RowKit Go.Deep
theorem tmM_odd {fm x y : Int} (hx : okF fm x = true) (hy : okF fm y = true) (h : (finB fm x && finB fm y) = false) : tmM fm x y = ⟨0, nanB fm x || nanB fm y || oddX fm x y, nB fm x || nB fm y || oddX fm x y, !(nanB fm x || nanB fm y || oddX fm x y) && !(sigB fm x != sigB fm y), !(nanB fm x || nanB fm y || oddX fm x y) && (sigB fm x != sigB fm y), false⟩ := by
 unfold tmM
 cases hn : (nanB fm x || nanB fm y || oddX fm x y)
 ·have hb : (nB fm x || nB fm y || oddX fm x y) = false := by
   cases hb : (nB fm x || nB fm y || oddX fm x y)
   ·rfl
   ·rw [odd_nan hx hy hb] at hn; cases hn
  obtain ⟨⟨nx, ny⟩, -⟩ : (nanB fm x = false ∧ nanB fm y = false) ∧ oddX fm x y = false := by simpa [Bool.or_eq_false_iff] using hn
  have hi : (nI fm x || nI fm y) = true := by
   rcases nan_cases hx nx with fx | ix
   ·rcases nan_cases hy ny with fy | iy
    ·rw [fx, fy] at h; cases h
    ·rw [iy]; simp
   ·rw [ix]; rfl
  rw [hb, hi]; rfl
 ·rfl
theorem tmM_fin {fm x y : Int} (hx : okF fm x = true) (hy : okF fm y = true) (fx : finB fm x = true) (fy : finB fm y = true) : tmM fm x y = ⟨tpV fm x y, false, false, false, false, decide (nZ fm x * nZ fm y = 0) && (sigB fm x != sigB fm y)⟩ := by
 obtain ⟨-, ix, -, -, nx, -⟩ := fin_facts hx fx
 obtain ⟨-, iy, -, -, ny, -⟩ := fin_facts hy fy
 unfold tmM oddX; rw [nx, ny, ix, iy]; rfl
theorem accMS (fm : Int) (s : St) (x y : Int) (p : Option Addr) (cap : Nat) (w : World) (hR : Rt fm s) (hx : okF fm x = true) (x0 : 0 ≤ x) (x1 : x < 18446744073709551616) (hy : okF fm y = true) (y0 : 0 ≤ y) (y1 : y < 18446744073709551616) (hT : s.T ≠ 1000000) (hs : Sl .u32 w (.slice p (Nm.wl s.z).length cap) (Nm.wl s.z)) (s' : St) (hs' : s' = s.add (tmM fm x y)) :
  Calls Tryz.prog 53 #[.agg #[.int .i64 fm, .bool (Nm.wn s.z), .slice p (Nm.wl s.z).length cap, .int .i64 s.T, .bool s.nn, .bool s.bd, .bool s.pl, .bool s.mi, .bool s.am], .int .u64 x, .int .u64 y] w fun r w' => ∃ a' c', r = .returned (.tuple #[.agg #[.int .i64 fm, .bool (Nm.wn s'.z), .slice a' (Nm.wl s'.z).length c', .int .i64 s'.T, .bool s'.nn, .bool s'.bd, .bool s'.pl, .bool s'.mi, .bool s'.am], .int .i64 0]) ∧ Own w' w.heap.size a' c' (Nm.wl s'.z) ∧ Below w.heap.size w w' := by
 subst hs'
 have hwv := Nm.wv_out s.z
 cases hf : (finB fm x && finB fm y)
 ·rw [tmM_odd hx hy hf]
  have h := mulS_odd fm (Nm.wn s.z) s.T s.nn s.bd s.pl s.mi s.am p cap (Nm.wl s.z) x y w hs (Nm.wl_dg _) hR hx hy x0 x1 y0 y1 hT hf _ _ _ _ rfl rfl rfl rfl
  simpa [St.add] using h
 ·obtain ⟨fx, fy⟩ : finB fm x = true ∧ finB fm y = true := by simpa using hf
  rw [tmM_fin hx hy fx fy]
  obtain ⟨-, -, hb⟩ := tp_eq hx hy fx fy
  have hfe : farE fm ≤ 4196 := by unfold farE; split <;> omega
  have hl := wl_len (V := tpV fm x y) (by omega)
  have h := mulS_fin fm (Nm.wn s.z) s.T s.nn s.bd s.pl s.mi s.am p cap (Nm.wl s.z) x y w hs (Nm.wl_dg _) hR hx hy x0 x1 y0 y1 hT fx fy (tpV fm x y) rfl hl (s.z + tpV fm x y) (by rw [hwv])
  simpa [St.add] using h
namespace Fd
theorem own9 {w : World} {B : Nat} {a : Option Addr} {c : Nat} {zs : List Int} (h : Own w B a c zs) {b : Nat} (hn : ∀ g, a = some ⟨g, 0, none⟩ → g ≠ b) (u0 u1 u2 u3 u4 u5 u6 u7 u8 : Value) : Own (((((((((w.setCell ⟨b, 0, none⟩ u0).setCell ⟨b, 1, none⟩ u1).setCell ⟨b, 2, none⟩ u2).setCell ⟨b, 3, none⟩ u3).setCell ⟨b, 4, none⟩ u4).setCell ⟨b, 5, none⟩ u5).setCell ⟨b, 6, none⟩ u6).setCell ⟨b, 7, none⟩ u7).setCell ⟨b, 8, none⟩ u8) B a c zs := (Own.setOther (Own.setOther (Own.setOther (Own.setOther (Own.setOther (Own.setOther (Own.setOther (Own.setOther (Own.setOther h (p := ⟨b, 0, none⟩) hn u0) (p := ⟨b, 1, none⟩) hn u1) (p := ⟨b, 2, none⟩) hn u2) (p := ⟨b, 3, none⟩) hn u3) (p := ⟨b, 4, none⟩) hn u4) (p := ⟨b, 5, none⟩) hn u5) (p := ⟨b, 6, none⟩) hn u6) (p := ⟨b, 7, none⟩) hn u7) (p := ⟨b, 8, none⟩) hn u8)
theorem ownb9 {w : World} {B : Nat} {a : Option Addr} {c : Nat} {zs : List Int} (h : Own w B a c zs) {b : Nat} (hb : b < B) (u0 u1 u2 u3 u4 u5 u6 u7 u8 : Value) : Own (((((((((w.setCell ⟨b, 0, none⟩ u0).setCell ⟨b, 1, none⟩ u1).setCell ⟨b, 2, none⟩ u2).setCell ⟨b, 3, none⟩ u3).setCell ⟨b, 4, none⟩ u4).setCell ⟨b, 5, none⟩ u5).setCell ⟨b, 6, none⟩ u6).setCell ⟨b, 7, none⟩ u7).setCell ⟨b, 8, none⟩ u8) B a c zs := (Own.setBelow (Own.setBelow (Own.setBelow (Own.setBelow (Own.setBelow (Own.setBelow (Own.setBelow (Own.setBelow (Own.setBelow h (p := ⟨b, 0, none⟩) hb u0) (p := ⟨b, 1, none⟩) hb u1) (p := ⟨b, 2, none⟩) hb u2) (p := ⟨b, 3, none⟩) hb u3) (p := ⟨b, 4, none⟩) hb u4) (p := ⟨b, 5, none⟩) hb u5) (p := ⟨b, 6, none⟩) hb u6) (p := ⟨b, 7, none⟩) hb u7) (p := ⟨b, 8, none⟩) hb u8)
theorem o8b9 {w : World} {B : Nat} {a : Option Addr} {c : Nat} {zs : List Int} (h : O8 w B a c zs) {b : Nat} (hb : b < B) (u0 u1 u2 u3 u4 u5 u6 u7 u8 : Value) : O8 (((((((((w.setCell ⟨b, 0, none⟩ u0).setCell ⟨b, 1, none⟩ u1).setCell ⟨b, 2, none⟩ u2).setCell ⟨b, 3, none⟩ u3).setCell ⟨b, 4, none⟩ u4).setCell ⟨b, 5, none⟩ u5).setCell ⟨b, 6, none⟩ u6).setCell ⟨b, 7, none⟩ u7).setCell ⟨b, 8, none⟩ u8) B a c zs := (O8.setBelow (O8.setBelow (O8.setBelow (O8.setBelow (O8.setBelow (O8.setBelow (O8.setBelow (O8.setBelow (O8.setBelow h (p := ⟨b, 0, none⟩) hb u0) (p := ⟨b, 1, none⟩) hb u1) (p := ⟨b, 2, none⟩) hb u2) (p := ⟨b, 3, none⟩) hb u3) (p := ⟨b, 4, none⟩) hb u4) (p := ⟨b, 5, none⟩) hb u5) (p := ⟨b, 6, none⟩) hb u6) (p := ⟨b, 7, none⟩) hb u7) (p := ⟨b, 8, none⟩) hb u8)
theorem rd9 {w : World} {rb : Nat} {ca : Option Addr} {cc : Nat} {cs : List Int} (h : RD w rb ca cc cs) {b : Nat} (hb : rb < b) (u0 u1 u2 u3 u4 u5 u6 u7 u8 : Value) : RD (((((((((w.setCell ⟨b, 0, none⟩ u0).setCell ⟨b, 1, none⟩ u1).setCell ⟨b, 2, none⟩ u2).setCell ⟨b, 3, none⟩ u3).setCell ⟨b, 4, none⟩ u4).setCell ⟨b, 5, none⟩ u5).setCell ⟨b, 6, none⟩ u6).setCell ⟨b, 7, none⟩ u7).setCell ⟨b, 8, none⟩ u8) rb ca cc cs := (RD.other (RD.other (RD.other (RD.other (RD.other (RD.other (RD.other (RD.other (RD.other h (p := ⟨b, 0, none⟩) hb u0) (p := ⟨b, 1, none⟩) hb u1) (p := ⟨b, 2, none⟩) hb u2) (p := ⟨b, 3, none⟩) hb u3) (p := ⟨b, 4, none⟩) hb u4) (p := ⟨b, 5, none⟩) hb u5) (p := ⟨b, 6, none⟩) hb u6) (p := ⟨b, 7, none⟩) hb u7) (p := ⟨b, 8, none⟩) hb u8)
theorem grown9 {v w : World} {rb b : Nat} (h : v.grownBy w (some rb)) (hb : v.heap.size ≤ b) (u0 u1 u2 u3 u4 u5 u6 u7 u8 : Value) : v.grownBy (((((((((w.setCell ⟨b, 0, none⟩ u0).setCell ⟨b, 1, none⟩ u1).setCell ⟨b, 2, none⟩ u2).setCell ⟨b, 3, none⟩ u3).setCell ⟨b, 4, none⟩ u4).setCell ⟨b, 5, none⟩ u5).setCell ⟨b, 6, none⟩ u6).setCell ⟨b, 7, none⟩ u7).setCell ⟨b, 8, none⟩ u8) (some rb) := (grown_two (grown_two (grown_two (grown_two (grown_two (grown_two (grown_two (grown_two (grown_two h (set_grown _ ⟨b, 0, none⟩ u0) hb) (set_grown _ ⟨b, 1, none⟩ u1) hb) (set_grown _ ⟨b, 2, none⟩ u2) hb) (set_grown _ ⟨b, 3, none⟩ u3) hb) (set_grown _ ⟨b, 4, none⟩ u4) hb) (set_grown _ ⟨b, 5, none⟩ u5) hb) (set_grown _ ⟨b, 6, none⟩ u6) hb) (set_grown _ ⟨b, 7, none⟩ u7) hb) (set_grown _ ⟨b, 8, none⟩ u8) hb)
theorem bel9 {v w : World} {b : Nat} (h : Below v.heap.size v w) (hb : v.heap.size ≤ b) (u0 u1 u2 u3 u4 u5 u6 u7 u8 : Value) : Below v.heap.size v (((((((((w.setCell ⟨b, 0, none⟩ u0).setCell ⟨b, 1, none⟩ u1).setCell ⟨b, 2, none⟩ u2).setCell ⟨b, 3, none⟩ u3).setCell ⟨b, 4, none⟩ u4).setCell ⟨b, 5, none⟩ u5).setCell ⟨b, 6, none⟩ u6).setCell ⟨b, 7, none⟩ u7).setCell ⟨b, 8, none⟩ u8) := (Below.setCell (Below.setCell (Below.setCell (Below.setCell (Below.setCell (Below.setCell (Below.setCell (Below.setCell (Below.setCell h (p := ⟨b, 0, none⟩) hb u0) (p := ⟨b, 1, none⟩) hb u1) (p := ⟨b, 2, none⟩) hb u2) (p := ⟨b, 3, none⟩) hb u3) (p := ⟨b, 4, none⟩) hb u4) (p := ⟨b, 5, none⟩) hb u5) (p := ⟨b, 6, none⟩) hb u6) (p := ⟨b, 7, none⟩) hb u7) (p := ⟨b, 8, none⟩) hb u8)
theorem o8_pair (w : World) (x y : Int) : O8 (w.alloc (.cells #[.int .u64 x, .int .u64 y] 22)) w.heap.size (some ⟨w.heap.size, 0, none⟩) 2 [x, y] :=
 O8.of_row (zs := [x, y]) (f := fun i => .int .u64 (([x, y] : List Int).getD i 0)) ⟨_, blk_alloc_new _ _, rfl, fun i hi => by
  have : i < 2 := hi
  rcases (show i = 0 ∨ i = 1 by omega) with rfl | rfl <;> rfl⟩ (fun i _ => rfl) (Nat.le_refl _) (by show 2 ≤ maxLen; decide)
def JA (fm F : Int) (s : St) (k : Int) : Prop := (F = fm ∧ Rt fm s ∧ s.T ≤ k) ∨ (F = 0 ∧ s = St0)
theorem JA.bd {fm F : Int} {s : St} {k : Int} (h : JA fm F s k) (hk : k ≤ 1000000) : 0 ≤ s.T ∧ s.T ≤ 1000000 ∧ (Nm.wl s.z).length ≤ 200 := by
 rcases h with ⟨-, h, -⟩ | ⟨-, rfl⟩
 ·exact ⟨h.le.2.1, h.le.2.2, h.len⟩
 ·exact ⟨by decide, by decide, by show (Nm.wl 0).length ≤ 200; rw [show Nm.wl 0 = [] from Nm.lim_zero]; exact Nat.zero_le _⟩
theorem a0_val : A0 = .agg #[.int .i64 0, .bool (Nm.wn St0.z), .slice none (Nm.wl St0.z).length 0, .int .i64 St0.T, .bool St0.nn, .bool St0.bd, .bool St0.pl, .bool St0.mi, .bool St0.am] := by
 have h0 : Nm.wl St0.z = [] := Nm.lim_zero
 have h1 : Nm.wn St0.z = false := by decide
 rw [h0, h1]; rfl
theorem addS_any {fm F : Int} {s : St} {k : Int} (hJ : JA fm F s k) (hk : k < 1000000) (x : Int) (x0 : 0 ≤ x) (x1 : x < 18446744073709551616) (p : Option Addr) (cap : Nat) (w : World) (hs : Sl .u32 w (.slice p (Nm.wl s.z).length cap) (Nm.wl s.z)) :
  Calls Tryz.prog 34 #[.agg #[.int .i64 F, .bool (Nm.wn s.z), .slice p (Nm.wl s.z).length cap, .int .i64 s.T, .bool s.nn, .bool s.bd, .bool s.pl, .bool s.mi, .bool s.am], .int .u64 x] w fun r w' => ∃ (F' : Int) (s' : St) (c : Int) (a' : Option Addr) (c' : Nat), r = .returned (.tuple #[.agg #[.int .i64 F', .bool (Nm.wn s'.z), .slice a' (Nm.wl s'.z).length c', .int .i64 s'.T, .bool s'.nn, .bool s'.bd, .bool s'.pl, .bool s'.mi, .bool s'.am], .int .i64 c]) ∧ JA fm F' s' (k + 1) ∧ Own w' w.heap.size a' c' (Nm.wl s'.z) ∧ Below w.heap.size w w' := by
 have hbd := hJ.bd (by omega)
 have zero : ∀ {c : Int} {r : Ending} {w' : World}, r = .returned (.tuple #[A0, .int .i64 c]) ∧ Below w.heap.size w w' → ∃ (F' : Int) (s' : St) (c : Int) (a' : Option Addr) (c' : Nat), r = .returned (.tuple #[.agg #[.int .i64 F', .bool (Nm.wn s'.z), .slice a' (Nm.wl s'.z).length c', .int .i64 s'.T, .bool s'.nn, .bool s'.bd, .bool s'.pl, .bool s'.mi, .bool s'.am], .int .i64 c]) ∧ JA fm F' s' (k + 1) ∧ Own w' w.heap.size a' c' (Nm.wl s'.z) ∧ Below w.heap.size w w' := fun {c r w'} h =>
  ⟨0, St0, c, none, 0, by rw [h.1, a0_val], .inr ⟨rfl, rfl⟩, by rw [show Nm.wl St0.z = [] from Nm.lim_zero]; exact Own.nil _ _, h.2⟩
 rcases hJ with ⟨rfl, hR, hT⟩ | ⟨rfl, rfl⟩
 ·cases hx : (okF F x)
  ·refine (adds_no F (Nm.wn s.z) s.T s.nn s.bd s.pl s.mi s.am p cap (Nm.wl s.z) x w hs (by omega) 2 (by rw [show accB F (Nm.wn s.z) (Nm.wl s.z) s.T s.nn s.bd s.pl s.mi s.am = true from hR, hx]; rfl) (by decide)).mono fun r w' h => zero h
  ·refine (accS F s x p cap w hR hx x0 x1 (by omega) hs _ rfl).mono fun r w' ⟨a', c', h1, h2, h3⟩ => ⟨F, _, 0, a', c', h1, .inl ⟨rfl, hR.add (tm_ok hx) (by omega), by show s.T + 1 ≤ k + 1; omega⟩, h2, h3⟩
 ·refine (adds_no 0 (Nm.wn St0.z) St0.T St0.nn St0.bd St0.pl St0.mi St0.am p cap (Nm.wl St0.z) x w hs (by omega) 1 (by rw [acc_nf (by decide)]; rfl) (by decide)).mono fun r w' h => zero h
theorem mulS_any {fm F : Int} {s : St} {k : Int} (hJ : JA fm F s k) (hk : k < 1000000) (x y : Int) (x0 : 0 ≤ x) (x1 : x < 18446744073709551616) (y0 : 0 ≤ y) (y1 : y < 18446744073709551616) (p : Option Addr) (cap : Nat) (w : World) (hs : Sl .u32 w (.slice p (Nm.wl s.z).length cap) (Nm.wl s.z)) :
  Calls Tryz.prog 53 #[.agg #[.int .i64 F, .bool (Nm.wn s.z), .slice p (Nm.wl s.z).length cap, .int .i64 s.T, .bool s.nn, .bool s.bd, .bool s.pl, .bool s.mi, .bool s.am], .int .u64 x, .int .u64 y] w fun r w' => ∃ (F' : Int) (s' : St) (c : Int) (a' : Option Addr) (c' : Nat), r = .returned (.tuple #[.agg #[.int .i64 F', .bool (Nm.wn s'.z), .slice a' (Nm.wl s'.z).length c', .int .i64 s'.T, .bool s'.nn, .bool s'.bd, .bool s'.pl, .bool s'.mi, .bool s'.am], .int .i64 c]) ∧ JA fm F' s' (k + 1) ∧ Own w' w.heap.size a' c' (Nm.wl s'.z) ∧ Below w.heap.size w w' := by
 have hbd := hJ.bd (by omega)
 have zero : ∀ {c : Int} {r : Ending} {w' : World}, r = .returned (.tuple #[A0, .int .i64 c]) ∧ Below w.heap.size w w' → ∃ (F' : Int) (s' : St) (c : Int) (a' : Option Addr) (c' : Nat), r = .returned (.tuple #[.agg #[.int .i64 F', .bool (Nm.wn s'.z), .slice a' (Nm.wl s'.z).length c', .int .i64 s'.T, .bool s'.nn, .bool s'.bd, .bool s'.pl, .bool s'.mi, .bool s'.am], .int .i64 c]) ∧ JA fm F' s' (k + 1) ∧ Own w' w.heap.size a' c' (Nm.wl s'.z) ∧ Below w.heap.size w w' := fun {c r w'} h =>
  ⟨0, St0, c, none, 0, by rw [h.1, a0_val], .inr ⟨rfl, rfl⟩, by rw [show Nm.wl St0.z = [] from Nm.lim_zero]; exact Own.nil _ _, h.2⟩
 rcases hJ with ⟨rfl, hR, hT⟩ | ⟨rfl, rfl⟩
 ·cases hx : (okF F x && okF F y)
  ·refine (mulS_no F (Nm.wn s.z) s.T s.nn s.bd s.pl s.mi s.am p cap (Nm.wl s.z) x y w hs (by omega) 2 (by rw [show accB F (Nm.wn s.z) (Nm.wl s.z) s.T s.nn s.bd s.pl s.mi s.am = true from hR, hx]; rfl) (by decide)).mono fun r w' h => zero h
  ·obtain ⟨hx1, hx2⟩ := (Bool.and_eq_true _ _).mp hx
   refine (accMS F s x y p cap w hR hx1 x0 x1 hx2 y0 y1 (by omega) hs _ rfl).mono fun r w' ⟨a', c', h1, h2, h3⟩ => ⟨F, _, 0, a', c', h1, .inl ⟨rfl, hR.add (tmM_ok hx1 hx2) (by omega), by show s.T + 1 ≤ k + 1; omega⟩, h2, h3⟩
 ·refine (mulS_no 0 (Nm.wn St0.z) St0.T St0.nn St0.bd St0.pl St0.mi St0.am p cap (Nm.wl St0.z) x y w hs (by omega) 1 (by rw [acc_nf (by decide)]; rfl) (by decide)).mono fun r w' h => zero h
theorem acc_any (fm : Int) (hf : fmtB fm = true) (rb : Nat) (ca : Option Addr) (cc : Nat) (cs : List Int) (w : World) (hr : RD w rb ca cc cs) :
  Calls Tryz.prog 119 #[.pointer (some ⟨rb, 0, none⟩), .int .i64 fm] w fun e w' => ∃ (F : Int) (s : St) (a : Option Addr) (c : Nat), e = .returned (.agg #[.int .i64 F, .bool (Nm.wn s.z), .slice a (Nm.wl s.z).length c, .int .i64 s.T, .bool s.nn, .bool s.bd, .bool s.pl, .bool s.mi, .bool s.am]) ∧ 0 ≤ s.T ∧ s.T ≤ 1000000 ∧ (Nm.wl s.z).length ≤ 200 ∧ Own w' w.heap.size a c (Nm.wl s.z) ∧ RD w' rb ca cc cs ∧ w.grownBy w' (some rb) := by
 have hrw := hr.lt
 have CN := hid (fun w' => new_spec fm w' fm (nw_fm hf))
 have CX := hid (fun w' h => floats_any fm hf 5 (by decide) (by decide) rb ca cc cs w' h)
 have CF := hid (fun w' h => finite_any fm hf rb ca cc cs w' h)
 have CS := hid (fun w' => sign_a fm w' hf)
 have hsg : 0 ≤ sgOf fm ∧ sgOf fm < 18446744073709551616 := by unfold sgOf; split <;> omega
 have J0 : JA fm fm St0 0 := .inl ⟨rfl, Rt0 hf, by decide⟩
 obtain ⟨sg, h_sg⟩ : ∃ q, q = sgOf fm := ⟨_, rfl⟩
 rw [← h_sg] at CS hsg
 clear hf h_sg
 have hw0 : Nm.wl St0.z = [] := Nm.lim_zero
 have hn0 : Nm.wn St0.z = false := by decide
 have R4 := Q9.new w (.int .i64 0) (.bool false) (.slice none 0 0) (.int .i64 0) (.bool false) (.bool false) (.bool false) (.bool false) (.bool false) 50
 have g4 := grown_alloc (grown_refl w (some rb)) (.cells #[.int .i64 0, .bool false, .slice none 0 0, .int .i64 0, .bool false, .bool false, .bool false, .bool false, .bool false] 50)
 have r4 := hr.alloc (.cells #[.int .i64 0, .bool false, .slice none 0 0, .int .i64 0, .bool false, .bool false, .bool false, .bool false, .bool false] 50)
 go_enter Tryz.func119, Tryz.ntmps119
 go_wp2_with fail
 refine (CN.out _).mono ?_
 rintro e w1 ⟨rfl, hb⟩
 have R4 := (R4.below hb).alloc (.cells #[.int .i64 fm, .bool false, .slice none 0 0, .int .i64 0, .bool false, .bool false, .bool false, .bool false, .bool false] 50)
 have g4 := grown_alloc (grown_trans g4 (grown_below hb _)) (.cells #[.int .i64 fm, .bool false, .slice none 0 0, .int .i64 0, .bool false, .bool false, .bool false, .bool false, .bool false] 50)
 have r4 := (r4.below hb).alloc (.cells #[.int .i64 fm, .bool false, .slice none 0 0, .int .i64 0, .bool false, .bool false, .bool false, .bool false, .bool false] 50)
 have hBlt : w.heap.size < w1.heap.size := by have := hb.size; simp at this; omega
 have A4 := Q9.new w1 (.int .i64 fm) (.bool false) (.slice none 0 0) (.int .i64 0) (.bool false) (.bool false) (.bool false) (.bool false) (.bool false) 50
 have hsz : (w1.alloc (.cells #[.int .i64 fm, .bool false, .slice none 0 0, .int .i64 0, .bool false, .bool false, .bool false, .bool false, .bool false] 50)).heap.size = w1.heap.size + 1 := by simp
 clear hb
 go_wp2_with fail
 generalize w1.alloc (.cells #[.int .i64 fm, .bool false, .slice none 0 0, .int .i64 0, .bool false, .bool false, .bool false, .bool false, .bool false] 50) = w4 at A4 R4 r4 g4 hsz ⊢
 obtain ⟨B, hB⟩ : ∃ B, B = w1.heap.size := ⟨_, rfl⟩
 rw [← hB] at A4 hsz hBlt ⊢
 clear hB
 refine (CX.out _ r4).mono ?_
 rintro e w4 ⟨lb, lc, xs, rfl, lx, dx, L4, r4', g4'⟩
 have A4 := A4.grown g4' (fun g e => by cases e; omega)
 have R4 := R4.grown g4' (fun g e => by cases e; omega)
 have g4 := grown_trans g4 g4'
 have r4 := r4'
 clear r4' g4'
 have L4 := O8.base L4 (B' := B + 1) (by omega)
 clear hsz
 go_wp2_with fail
 refine (once_any rb ca cc cs 8 _ r4 (by decide) (by decide)).mono ?_
 rintro e w4 ⟨b8, rfl, r4', g4'⟩
 have A4 := A4.grown g4' (fun g e => by cases e; omega)
 have R4 := R4.grown g4' (fun g e => by cases e; omega)
 have L4 := O8.rd L4 g4' (by omega)
 have g4 := grown_trans g4 g4'
 have r4 := r4'
 clear r4' g4'
 cases b8
 case' false =>
  go_wp2_with fail
 case' true =>
  clear lx dx
  go_wp2_with fail
  refine (CS.out _).mono ?_
  rintro e w4 ⟨rfl, hb⟩
  have A4 := A4.below hb
  have R4 := R4.below hb
  have L4 := L4.below hb
  have g4 := grown_trans g4 (grown_below hb _)
  have r4 := r4.below hb
  clear hb
  go_wp2_with fail
  refine (CS.out _).mono ?_
  rintro e w4 ⟨rfl, hb⟩
  have A4 := A4.below hb
  have R4 := R4.below hb
  have L4 := L4.below hb
  have g4 := grown_trans g4 (grown_below hb _)
  have r4 := r4.below hb
  clear hb
  have lw4 := A4.lt
  have A4 := A4.alloc (.cells #[.int .u64 sg, .int .u64 sg] 22)
  have R4 := R4.alloc (.cells #[.int .u64 sg, .int .u64 sg] 22)
  have r4 := r4.alloc (.cells #[.int .u64 sg, .int .u64 sg] 22)
  have g4 := grown_alloc g4 (.cells #[.int .u64 sg, .int .u64 sg] 22)
  have L4 := O8.base (o8_pair w4 sg sg) (B' := B + 1) (by omega)
  have dx : D64 [sg, sg] := fun y hy => by
   have : y = sg := by simpa using hy
   rw [this]; exact hsg
  have lx : ([sg, sg] : List Int).length ≤ 20 := (show 2 ≤ 20 by decide)
  go_wp2_with fail
  generalize w4.alloc (.cells #[.int .u64 sg, .int .u64 sg] 22) = w5 at A4 R4 r4 g4 L4 ⊢
  have hxl : (2 : Nat) = ([sg, sg] : List Int).length := rfl
  obtain ⟨lb, hlb⟩ : ∃ lb, lb = w4.heap.size := ⟨_, rfl⟩
  rw [← hlb] at L4 ⊢
  clear hlb
  obtain ⟨xs, hxs⟩ : ∃ xs, xs = ([sg, sg] : List Int) := ⟨_, rfl⟩
  rw [← hxs] at L4 dx lx hxl
  obtain ⟨lc, hlc⟩ : ∃ lc : Nat, lc = 2 := ⟨_, rfl⟩
  rw [← hlc] at L4
  have hsl : Value.slice (some ⟨lb, 0, none⟩) 2 2 = Value.slice (some ⟨lb, 0, none⟩) xs.length lc := by rw [hlc, hxs]; rfl
  rw [hsl]
  clear hsl hlc hxl hxs
 all_goals
  have DX := hid dx
  clear dx
  go_loopw [7] (fun iv wr => ∃ (i : Nat) (F : Int) (s : St) (p : Option Addr) (c : Nat), iv = .int .i64 i ∧ i ≤ xs.length ∧ JA fm F s i ∧ Q9 wr B (.int .i64 F) (.bool (Nm.wn s.z)) (.slice p (Nm.wl s.z).length c) (.int .i64 s.T) (.bool s.nn) (.bool s.bd) (.bool s.pl) (.bool s.mi) (.bool s.am) ∧ Q9 wr w.heap.size (.int .i64 0) (.bool false) (.slice none 0 0) (.int .i64 0) (.bool false) (.bool false) (.bool false) (.bool false) (.bool false) ∧ Own wr (B + 1) p c (Nm.wl s.z) ∧ O8 wr (B + 1) (some ⟨lb, 0, none⟩) lc xs ∧ RD wr rb ca cc cs ∧ w.grownBy wr (some rb)) (fun iv _ => xs.length - (intOf iv).toNat)
  case atStart =>
   refine ⟨0, fm, St0, none, 0, rfl, Nat.zero_le _, J0, ?_, R4, ?_, L4, r4, g4⟩
   ·rw [hw0, hn0]; exact A4
   ·rw [hw0]; exact Own.nil _ _
  case round =>
   clear A4 R4 L4 r4 g4 J0 hw0 hn0
   obtain ⟨i, F, s, p, c, rfl, hi, J4, A4, R4, O4, L4, r4, g4⟩ := hrel
   have JI := hid J4
   have hbd := J4.bd (by omega)
   clear J4
   have dlx := lx
   have lge := O8.ge L4
   by_cases hlt : i < xs.length
   ·have di : decide ((i : Int) < (xs.length : Int)) = true := decide_eq_true (by omega)
    have hi1 : (i : Int) < 1000000 := by omega
    obtain ⟨x0, x1⟩ := DX.out.getD i
    obtain ⟨x, hx⟩ : ∃ q, q = xs.getD i 0 := ⟨_, rfl⟩
    rw [← hx] at x0 x1
    have HX := hid hx
    clear hx
    go_wp2_with fail
    refine (once_any rb ca cc cs 3 wr r4 (by decide) (by decide)).mono ?_
    rintro e w4 ⟨b3, rfl, r4', g4'⟩
    have A4 := A4.grown g4' (fun g e => by cases e; omega)
    have R4 := R4.grown g4' (fun g e => by cases e; omega)
    have O4 := Own.rd O4 g4' (by omega)
    have L4 := O8.rd L4 g4' (by omega)
    have g4 := grown_trans g4 g4'
    have r4 := r4'
    clear r4' g4'
    cases b3
    ·go_wp2_with fail
     go_upto_region 10 with fail
     refine wp_region_held_drew (S := fun w' => w'.cell? ⟨lb, i, none⟩ = some (.int .u64 x)) (by kernel_rfl) ?_ (fun hHeld => ?_)
     ·exact (by have := O8.cell L4 i hlt; rwa [← HX.out] at this)
     have A4 := A4.drew
     have R4 := R4.drew
     have O4 := O4.drew
     have L4 := L4.drew
     have r4 := r4.drew
     have g4 : w.grownBy w4.drew (some rb) := grown_trans g4 (grown_below (Below.drew (Below.refl _ _)) _)
     generalize w4.drew = w4 at A4 R4 O4 L4 r4 g4 hHeld ⊢
     refine tk 1 ?_ rfl (Or.inl ⟨by rfl, ?_⟩) ?_
     rotate_left
     ·(intro w hSw; go_simp; try (with_reducible rfl))
     try simp only [Act.put, Ls]
     refine tk 2 ?_ rfl (Or.inl ⟨by rfl, ?_⟩) ?_
     rotate_left
     ·(intro w hSw; go_simp; try (with_reducible rfl))
     try simp only [Act.put, Ls]
     refine tk 3 ?_ rfl (Or.inl ⟨by rfl, ?_⟩) ?_
     rotate_left
     ·(intro w hSw; go_simp; try (with_reducible rfl))
     try simp only [Act.put, Ls]
     refine tk 4 ?_ rfl (Or.inl ⟨by rfl, ?_⟩) ?_
     rotate_left
     ·(intro w hSw; (try dsimp only at hSw); obtain hS0 := hSw; go_simp; try (with_reducible rfl))
     try simp only [Act.put, Ls]
     refine rdy 0 rfl (fun K hK => ?_)
     obtain ⟨c0, c1, c2, c3, c4, c5, c6, c7, c8⟩ := A4.cs
     go_simp
     refine hK.out _ _ ?_ (fun hHeld => ?_)
     ·exact (by have := O8.cell L4 i hlt; rwa [← HX.out] at this)
     clear hK K
     try simp only [Act.put, Ls]
     clear c0 c1 c2 c3 c4 c5 c6 c7 c8
     refine rdy 5 rfl (fun K hK => ?_)
     go_simp
     go_at_call 34
     refine (addS_any JI.out hi1 x x0 x1 _ _ _ O4.sl).mono ?_
     rintro e w4 ⟨F', s', c', p', q', rfl, J', O', hb⟩
     have lw4 := A4.lt
     have A4 := A4.below hb
     have R4 := R4.below hb
     have L4 := L4.below hb
     have g4 := grown_trans g4 (grown_below hb _)
     have r4 := r4.below hb
     have O4 := Own.base O' (B' := B + 1) (by omega)
     clear hb O'
     refine hK.out _ _ ?_ (fun hHeld => ?_)
     ·exact (by have := O8.cell L4 i hlt; rwa [← HX.out] at this)
     clear hK K
     try simp only [Act.put, Ls]
     refine tk 6 ?_ rfl (Or.inl ⟨by rfl, ?_⟩) ?_
     rotate_left
     ·(intro w hSw; go_simp; try (with_reducible rfl))
     try simp only [Act.put, Ls]
     refine tk 7 ?_ rfl (Or.inl ⟨by rfl, ?_⟩) ?_
     rotate_left
     ·(intro w hSw; go_simp; try (with_reducible rfl))
     try simp only [Act.put, Ls]
     refine tk 8 ?_ rfl (Or.inl ⟨by rfl, ?_⟩) ?_
     rotate_left
     ·(intro w hSw; go_simp; try (with_reducible rfl))
     try simp only [Act.put, Ls]
     refine rdy 9 rfl (fun K hK => ?_)
     have A4' := A4
     obtain ⟨c0, c1, c2, c3, c4, c5, c6, c7, c8, f0, f1, f2, f3, f4, f5, f6, f7, f8⟩ := A4'
     go_simp
     refine hK.out _ _ ?_ (fun hHeld => ?_)
     ·exact ((World.cell?_of_block (a := ⟨lb, i, none⟩) (heap9n w4 B lb (by omega) _ _ _ _ _ _ _ _ _)).trans (by have := O8.cell L4 i hlt; rwa [← HX.out] at this))
     clear hK K
     try simp only [Act.put, Ls]
     refine wpAnyH_done (by kernel_rfl) ?_ _
     clear c0 c1 c2 c3 c4 c5 c6 c7 c8 f0 f1 f2 f3 f4 f5 f6 f7 f8
     go_wp2
     go_roundw
     case rel =>
      refine ⟨i + 1, F', s', p', q', by go_num, by omega, (by have := J'; rwa [show ((i : Int) + 1) = ((i + 1 : Nat) : Int) by omega] at this), ?_, ?_, ?_, ?_, ?_, ?_⟩
      ·exact Q9.set9 A4 _ _ _ _ _ _ _ _ _
      ·exact R4.of_block (heap9n _ _ _ (by omega) _ _ _ _ _ _ _ _ _)
      ·exact ownb9 O4 (Nat.lt_succ_self _) _ _ _ _ _ _ _ _ _
      ·exact o8b9 L4 (Nat.lt_succ_self _) _ _ _ _ _ _ _ _ _
      ·exact rd9 r4 (Nat.lt_trans hrw hBlt) _ _ _ _ _ _ _ _ _
      ·exact grown9 g4 (Nat.le_of_lt hBlt) _ _ _ _ _ _ _ _ _
     case measure => simp [intOf]; omega
    ·go_wp2_with fail
     go_upto_region 13 with fail
     refine wp_region_held_drew (S := fun w' => w'.cell? ⟨lb, i, none⟩ = some (.int .u64 x)) (by kernel_rfl) ?_ (fun hHeld => ?_)
     ·exact (by have := O8.cell L4 i hlt; rwa [← HX.out] at this)
     have A4 := A4.drew
     have R4 := R4.drew
     have O4 := O4.drew
     have L4 := L4.drew
     have r4 := r4.drew
     have g4 : w.grownBy w4.drew (some rb) := grown_trans g4 (grown_below (Below.drew (Below.refl _ _)) _)
     generalize w4.drew = w4 at A4 R4 O4 L4 r4 g4 hHeld ⊢
     refine tk 1 ?_ rfl (Or.inl ⟨by rfl, ?_⟩) ?_
     rotate_left
     ·(intro w hSw; go_simp; try (with_reducible rfl))
     try simp only [Act.put, Ls]
     refine tk 2 ?_ rfl (Or.inl ⟨by rfl, ?_⟩) ?_
     rotate_left
     ·(intro w hSw; go_simp; try (with_reducible rfl))
     try simp only [Act.put, Ls]
     refine tk 3 ?_ rfl (Or.inl ⟨by rfl, ?_⟩) ?_
     rotate_left
     ·(intro w hSw; go_simp; try (with_reducible rfl))
     try simp only [Act.put, Ls]
     refine tk 4 ?_ rfl (Or.inl ⟨by rfl, ?_⟩) ?_
     rotate_left
     ·(intro w hSw; (try dsimp only at hSw); obtain hS0 := hSw; go_simp; try (with_reducible rfl))
     try simp only [Act.put, Ls]
     refine tk 5 ?_ rfl (Or.inl ⟨by rfl, ?_⟩) ?_
     rotate_left
     ·(intro w hSw; go_simp; try (with_reducible rfl))
     try simp only [Act.put, Ls]
     refine tk 6 ?_ rfl (Or.inl ⟨by rfl, ?_⟩) ?_
     rotate_left
     ·(intro w hSw; go_simp; try (with_reducible rfl))
     try simp only [Act.put, Ls]
     refine wpAnyH_ready (rs := [0, 7]) (by kernel_rfl) (by simp) ?_
     refine AllReadyH.cons (o := _) rfl (fun K hK => ?_) (AllReadyH.cons (o := _) rfl (fun K hK => ?_) AllReadyH.nil)
     ·obtain ⟨c0, c1, c2, c3, c4, c5, c6, c7, c8⟩ := A4.cs
      go_simp
      refine hK.out _ _ ?_ (fun hHeld => ?_)
      ·exact (by have := O8.cell L4 i hlt; rwa [← HX.out] at this)
      clear hK K
      try simp only [Act.put, Ls]
      clear c0 c1 c2 c3 c4 c5 c6 c7 c8
      refine rdy 7 rfl (fun K hK => ?_)
      go_simp
      go_at_call 201
      refine (CF.out _ r4).mono ?_
      rintro e w4 ⟨y, rfl, y0, y1, r4', g4'⟩
      have A4 := A4.grown g4' (fun g e => by cases e; omega)
      have R4 := R4.grown g4' (fun g e => by cases e; omega)
      have O4 := Own.rd O4 g4' (by omega)
      have L4 := O8.rd L4 g4' (by omega)
      have g4 := grown_trans g4 g4'
      have r4 := r4'
      clear r4' g4'
      refine hK.out _ _ ?_ (fun hHeld => ?_)
      ·exact (by have := O8.cell L4 i hlt; rwa [← HX.out] at this)
      clear hK K
      try simp only [Act.put, Ls]
      refine rdy 8 rfl (fun K hK => ?_)
      go_simp
      go_at_call 53
      refine (mulS_any JI.out hi1 x y x0 x1 y0 y1 _ _ _ O4.sl).mono ?_
      rintro e w4 ⟨F', s', c', p', q', rfl, J', O', hb⟩
      have lw4 := A4.lt
      have A4 := A4.below hb
      have R4 := R4.below hb
      have L4 := L4.below hb
      have g4 := grown_trans g4 (grown_below hb _)
      have r4 := r4.below hb
      have O4 := Own.base O' (B' := B + 1) (by omega)
      clear hb O'
      refine hK.out _ _ ?_ (fun hHeld => ?_)
      ·exact (by have := O8.cell L4 i hlt; rwa [← HX.out] at this)
      clear hK K
      try simp only [Act.put, Ls]
      refine tk 9 ?_ rfl (Or.inl ⟨by rfl, ?_⟩) ?_
      rotate_left
      ·(intro w hSw; go_simp; try (with_reducible rfl))
      try simp only [Act.put, Ls]
      refine tk 10 ?_ rfl (Or.inl ⟨by rfl, ?_⟩) ?_
      rotate_left
      ·(intro w hSw; go_simp; try (with_reducible rfl))
      try simp only [Act.put, Ls]
      refine tk 11 ?_ rfl (Or.inl ⟨by rfl, ?_⟩) ?_
      rotate_left
      ·(intro w hSw; go_simp; try (with_reducible rfl))
      try simp only [Act.put, Ls]
      refine rdy 12 rfl (fun K hK => ?_)
      have A4' := A4
      obtain ⟨c0, c1, c2, c3, c4, c5, c6, c7, c8, f0, f1, f2, f3, f4, f5, f6, f7, f8⟩ := A4'
      go_simp
      refine hK.out _ _ ?_ (fun hHeld => ?_)
      ·exact ((World.cell?_of_block (a := ⟨lb, i, none⟩) (heap9n w4 B lb (by omega) _ _ _ _ _ _ _ _ _)).trans (by have := O8.cell L4 i hlt; rwa [← HX.out] at this))
      clear hK K
      try simp only [Act.put, Ls]
      refine wpAnyH_done (by kernel_rfl) ?_ _
      clear c0 c1 c2 c3 c4 c5 c6 c7 c8 f0 f1 f2 f3 f4 f5 f6 f7 f8
      go_wp2
      go_roundw
      case rel =>
       refine ⟨i + 1, F', s', p', q', by go_num, by omega, (by have := J'; rwa [show ((i : Int) + 1) = ((i + 1 : Nat) : Int) by omega] at this), ?_, ?_, ?_, ?_, ?_, ?_⟩
       ·exact Q9.set9 A4 _ _ _ _ _ _ _ _ _
       ·exact R4.of_block (heap9n _ _ _ (by omega) _ _ _ _ _ _ _ _ _)
       ·exact ownb9 O4 (Nat.lt_succ_self _) _ _ _ _ _ _ _ _ _
       ·exact o8b9 L4 (Nat.lt_succ_self _) _ _ _ _ _ _ _ _ _
       ·exact rd9 r4 (Nat.lt_trans hrw hBlt) _ _ _ _ _ _ _ _ _
       ·exact grown9 g4 (Nat.le_of_lt hBlt) _ _ _ _ _ _ _ _ _
      case measure => simp [intOf]; omega
     ·go_simp
      go_at_call 201
      refine (CF.out _ r4).mono ?_
      rintro e w4 ⟨y, rfl, y0, y1, r4', g4'⟩
      have A4 := A4.grown g4' (fun g e => by cases e; omega)
      have R4 := R4.grown g4' (fun g e => by cases e; omega)
      have O4 := Own.rd O4 g4' (by omega)
      have L4 := O8.rd L4 g4' (by omega)
      have g4 := grown_trans g4 g4'
      have r4 := r4'
      clear r4' g4'
      refine hK.out _ _ ?_ (fun hHeld => ?_)
      ·exact (by have := O8.cell L4 i hlt; rwa [← HX.out] at this)
      clear hK K
      try simp only [Act.put, Ls]
      refine rdy 0 rfl (fun K hK => ?_)
      obtain ⟨c0, c1, c2, c3, c4, c5, c6, c7, c8⟩ := A4.cs
      go_simp
      refine hK.out _ _ ?_ (fun hHeld => ?_)
      ·exact (by have := O8.cell L4 i hlt; rwa [← HX.out] at this)
      clear hK K
      try simp only [Act.put, Ls]
      clear c0 c1 c2 c3 c4 c5 c6 c7 c8
      refine rdy 8 rfl (fun K hK => ?_)
      go_simp
      go_at_call 53
      refine (mulS_any JI.out hi1 x y x0 x1 y0 y1 _ _ _ O4.sl).mono ?_
      rintro e w4 ⟨F', s', c', p', q', rfl, J', O', hb⟩
      have lw4 := A4.lt
      have A4 := A4.below hb
      have R4 := R4.below hb
      have L4 := L4.below hb
      have g4 := grown_trans g4 (grown_below hb _)
      have r4 := r4.below hb
      have O4 := Own.base O' (B' := B + 1) (by omega)
      clear hb O'
      refine hK.out _ _ ?_ (fun hHeld => ?_)
      ·exact (by have := O8.cell L4 i hlt; rwa [← HX.out] at this)
      clear hK K
      try simp only [Act.put, Ls]
      refine tk 9 ?_ rfl (Or.inl ⟨by rfl, ?_⟩) ?_
      rotate_left
      ·(intro w hSw; go_simp; try (with_reducible rfl))
      try simp only [Act.put, Ls]
      refine tk 10 ?_ rfl (Or.inl ⟨by rfl, ?_⟩) ?_
      rotate_left
      ·(intro w hSw; go_simp; try (with_reducible rfl))
      try simp only [Act.put, Ls]
      refine tk 11 ?_ rfl (Or.inl ⟨by rfl, ?_⟩) ?_
      rotate_left
      ·(intro w hSw; go_simp; try (with_reducible rfl))
      try simp only [Act.put, Ls]
      refine rdy 12 rfl (fun K hK => ?_)
      have A4' := A4
      obtain ⟨c0, c1, c2, c3, c4, c5, c6, c7, c8, f0, f1, f2, f3, f4, f5, f6, f7, f8⟩ := A4'
      go_simp
      refine hK.out _ _ ?_ (fun hHeld => ?_)
      ·exact ((World.cell?_of_block (a := ⟨lb, i, none⟩) (heap9n w4 B lb (by omega) _ _ _ _ _ _ _ _ _)).trans (by have := O8.cell L4 i hlt; rwa [← HX.out] at this))
      clear hK K
      try simp only [Act.put, Ls]
      refine wpAnyH_done (by kernel_rfl) ?_ _
      clear c0 c1 c2 c3 c4 c5 c6 c7 c8 f0 f1 f2 f3 f4 f5 f6 f7 f8
      go_wp2
      go_roundw
      case rel =>
       refine ⟨i + 1, F', s', p', q', by go_num, by omega, (by have := J'; rwa [show ((i : Int) + 1) = ((i + 1 : Nat) : Int) by omega] at this), ?_, ?_, ?_, ?_, ?_, ?_⟩
       ·exact Q9.set9 A4 _ _ _ _ _ _ _ _ _
       ·exact R4.of_block (heap9n _ _ _ (by omega) _ _ _ _ _ _ _ _ _)
       ·exact ownb9 O4 (Nat.lt_succ_self _) _ _ _ _ _ _ _ _ _
       ·exact o8b9 L4 (Nat.lt_succ_self _) _ _ _ _ _ _ _ _ _
       ·exact rd9 r4 (Nat.lt_trans hrw hBlt) _ _ _ _ _ _ _ _ _
       ·exact grown9 g4 (Nat.le_of_lt hBlt) _ _ _ _ _ _ _ _ _
      case measure => simp [intOf]; omega
   ·have di : decide ((i : Int) < (xs.length : Int)) = false := decide_eq_false (by omega)
    go_wp2_with fail
    refine (once_any rb ca cc cs 20 wr r4 (by decide) (by decide)).mono ?_
    rintro e w4 ⟨b3, rfl, r4', g4'⟩
    have A4 := A4.grown g4' (fun g e => by cases e; omega)
    have R4 := R4.grown g4' (fun g e => by cases e; omega)
    have O4 := Own.rd O4 g4' (by omega)
    have L4 := O8.rd L4 g4' (by omega)
    have g4 := grown_trans g4 g4'
    have r4 := r4'
    clear r4' g4'
    cases b3
    ·obtain ⟨c0, c1, c2, c3, c4, c5, c6, c7, c8, -, -, -, -, -, -, -, -, -⟩ := A4
     obtain ⟨y0, y1, y2, y3, y4, y5, y6, y7, y8, z0, z1, z2, z3, z4, z5, z6, z7, z8⟩ := R4
     go_wp2
     refine bodyPost_ret (v := .agg #[.int .i64 F, .bool (Nm.wn s.z), .slice p (Nm.wl s.z).length c, .int .i64 s.T, .bool s.nn, .bool s.bd, .bool s.pl, .bool s.mi, .bool s.am]) (by simp [results, Tryz.results119, go_sem, y0, y1, y2, y3, y4, y5, y6, y7, y8, z0, z1, z2, z3, z4, z5, z6, z7, z8]) rfl ⟨F, s, p, c, rfl, ?_, ?_, hbd.2.2, Own.base (ownb9 O4 (Nat.lt_succ_of_lt hBlt) _ _ _ _ _ _ _ _ _) (by omega), (rd9 r4 hrw _ _ _ _ _ _ _ _ _), (grown9 g4 (Nat.le_refl _) _ _ _ _ _ _ _ _ _)⟩
     ·exact hbd.1
     ·exact hbd.2.1
    ·go_wp2_with fail
     refine (below_any rb ca cc cs 3 _ r4 (by decide) (by decide)).mono ?_
     rintro e w4 ⟨v, rfl, v0, v1, r4', g4'⟩
     have A4 := A4.grown g4' (fun g e => by cases e; omega)
     have R4 := R4.grown g4' (fun g e => by cases e; omega)
     have O4 := Own.rd O4 g4' (by omega)
     have L4 := O8.rd L4 g4' (by omega)
     have g4 := grown_trans g4 g4'
     have r4 := r4'
     clear r4' g4'
     obtain ⟨c0, c1, c2, c3, c4, c5, c6, c7, c8, f0, f1, f2, f3, f4, f5, f6, f7, f8⟩ := A4
     obtain ⟨y0, y1, y2, y3, y4, y5, y6, y7, y8, z0, z1, z2, z3, z4, z5, z6, z7, z8⟩ := R4
     have hwv : IntKind.i64.wrap (1000000 - v) = 1000000 - v := by rw [IntKind.wrap_i64]; omega
     go_wp2
     refine bodyPost_ret (v := .agg #[.int .i64 F, .bool (Nm.wn s.z), .slice p (Nm.wl s.z).length c, .int .i64 (1000000 - v), .bool s.nn, .bool s.bd, .bool s.pl, .bool s.mi, .bool false]) (by simp [results, Tryz.results119, go_sem, y0, y1, y2, y3, y4, y5, y6, y7, y8, z0, z1, z2, z3, z4, z5, z6, z7, z8]) rfl ⟨F, ⟨s.z, 1000000 - v, s.nn, s.bd, s.pl, s.mi, false⟩, p, c, rfl, ?_, ?_, hbd.2.2, Own.base (ownb9 (Own.setBelow (Own.setBelow O4 (p := ⟨B, 3, none⟩) (Nat.lt_succ_self _) (.int .i64 (1000000 - v))) (p := ⟨B, 8, none⟩) (Nat.lt_succ_self _) (.bool false)) (Nat.lt_succ_of_lt hBlt) _ _ _ _ _ _ _ _ _) (by omega), (rd9 (RD.other (RD.other r4 (p := ⟨B, 3, none⟩) (Nat.lt_trans hrw hBlt) (.int .i64 (1000000 - v))) (p := ⟨B, 8, none⟩) (Nat.lt_trans hrw hBlt) (.bool false)) hrw _ _ _ _ _ _ _ _ _), (grown9 (grown_two (grown_two g4 (set_grown _ ⟨B, 3, none⟩ (.int .i64 (1000000 - v))) (Nat.le_of_lt hBlt)) (set_grown _ ⟨B, 8, none⟩ (.bool false)) (Nat.le_of_lt hBlt)) (Nat.le_refl _) _ _ _ _ _ _ _ _ _)⟩
     ·show 0 ≤ 1000000 - v; omega
     ·show 1000000 - v ≤ 1000000; omega
end Fd
end Go.Proofs.YtkfjmcdniohljaaGreatDoor
