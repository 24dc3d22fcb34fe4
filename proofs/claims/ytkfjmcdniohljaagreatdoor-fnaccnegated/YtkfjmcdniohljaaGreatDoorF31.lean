/-
  What is needed of TCd, NZ, DrawB, VecA.
-/
import Derived.LoopN
import Derived.Test.YtkfjmcdniohljaaGreatDoorF16
import Derived.Test.YtkfjmcdniohljaaGreatDoorF27
set_option maxHeartbeats 16000000
set_option maxRecDepth 1000000
namespace Go.Proofs.YtkfjmcdniohljaaGreatDoor
set_option linter.unusedVariables false
set_option linter.unusedSimpArgs false
open Go.RowKit Go.Deep
namespace TCn
theorem four_cell {x y : Int} (w : World) {w' : World} {rb : Nat} {t : TypeId} (hg : (w.alloc (.cells #[.int .i64 x, .int .i64 y, .int .i64 (-9223372036854775808), .int .i64 9223372036854775807] t)).grownBy w' (some rb)) (hne : rb < w.heap.size) (k : Nat) (hk : k < 4) :
  ∃ d : Int, w'.cell? ⟨w.heap.size, k, none⟩ = some (.int .i64 d) := by
 have e := hg.block w.heap.size (by simp) (by simp; omega)
 have h : ∀ j, w'.cell? ⟨w.heap.size, j, none⟩ = (#[.int .i64 x, .int .i64 y, .int .i64 (-9223372036854775808), .int .i64 9223372036854775807] : Array Value)[j]? := fun j => by
  rw [World.cell?_of_block (a := ⟨w.heap.size, j, none⟩) e]
  exact World.cell?_alloc_new w _ _ j
 rw [h k]
 rcases (show k = 0 ∨ k = 1 ∨ k = 2 ∨ k = 3 by omega) with rfl | rfl | rfl | rfl
 ·exact ⟨x, rfl⟩
 ·exact ⟨y, rfl⟩
 ·exact ⟨_, rfl⟩
 ·exact ⟨_, rfl⟩
end TCn
namespace Fd
theorem near_z (rb : Nat) (ca : Option Addr) (cc : Nat) (cs : List Int) (lo hi : Int) (w : World) (hr : RD w rb ca cc cs) (h0 : -1000000 ≤ lo) (h1 : lo ≤ hi) (h2 : hi ≤ 1000000) :
  Calls Tryz.prog 192 #[.pointer (some ⟨rb, 0, none⟩), .int .i64 lo, .int .i64 hi] w fun e w' => ∃ v : Int, e = .returned (.int .i64 v) ∧ RD w' rb ca cc cs ∧ w.grownBy w' (some rb) := by
 go_enter Tryz.func192, Tryz.ntmps192
 go_wp2_with fail
 refine (below_any rb ca cc cs 8 _ hr (by decide) (by decide)).mono ?_
 rintro e w1 ⟨v, rfl, v0, v1, hr1, hg1⟩
 rcases (show v = 0 ∨ v = 1 ∨ 1 < v by omega) with rfl | rfl | hv
 ·go_wp2
  go_ret
  exact ⟨_, rfl, hr1, hg1⟩
 ·go_wp2
  go_ret
  exact ⟨_, rfl, hr1, hg1⟩
 ·have e0 : (v == 0) = false := by simp; omega
  have e1 : (v == 1) = false := by simp; omega
  have e2 : decide (hi < lo) = false := by simp; omega
  have W1 : IntKind.u64.wrap (hi - lo + 1) = hi - lo + 1 := by rw [IntKind.wrap_u64]; omega
  have W2 : (hi - lo + 1 == 0) = false := by simp; omega
  have CW := hid (word_any rb ca cc cs _ hr1)
  go_wp2_with fail
  refine CW.out.mono ?_
  rintro e w2 ⟨u, rfl, u0, u1, hr2, hg2⟩
  go_wp2
  go_ret
  exact ⟨_, rfl, hr2, grown_trans hg1 hg2⟩
theorem off_z (rb : Nat) (ca : Option Addr) (cc : Nat) (cs : List Int) (lo hi : Int) (w : World) (hr : RD w rb ca cc cs) (h0 : -1000000 ≤ lo) (h1 : lo ≤ hi) (h2 : hi ≤ 1000000) :
  Calls Tryz.prog 100 #[.pointer (some ⟨rb, 0, none⟩), .int .i64 lo, .int .i64 hi] w fun e w' => ∃ v : Int, e = .returned (.int .i64 v) ∧ RD w' rb ca cc cs ∧ w.grownBy w' (some rb) := by
 go_enter Tryz.func100, Tryz.ntmps100
 go_wp2_with fail
 refine (once_any rb ca cc cs 24 _ hr (by decide) (by decide)).mono ?_
 rintro e w1 ⟨v, rfl, hr1, hg1⟩
 cases v
 ·go_wp2_with fail
  refine (near_z rb ca cc cs lo hi _ hr1 h0 h1 h2).mono ?_
  rintro e w2 ⟨u, rfl, hr2, hg2⟩
  go_wp2
  go_ret
  exact ⟨_, rfl, hr2, grown_trans hg1 hg2⟩
 ·have l1 := hr1.lt
  go_wp2_with fail
  refine (below_any rb ca cc cs 4 _ (hr1.alloc _) (by decide) (by decide)).mono ?_
  rintro e w3 ⟨kz, rfl, k0, k1, hr3, hg3⟩
  obtain ⟨k, rfl⟩ := Int.eq_ofNat_of_zero_le k0
  obtain ⟨d, hd⟩ := TCn.four_cell w1 hg3 l1 k (by omega)
  go_wp2
  go_ret
  exact ⟨d, rfl, hr3, grown_trans (grown_alloc hg1 _) hg3⟩
end Fd
theorem six_cell {x y : Int} (w : World) {w' : World} {rb : Nat} (hg : (w.alloc (.cells #[.int .u32 0, .int .u32 1, .int .u32 4294967295, .int .u32 x, .int .u32 y, .int .u32 2147483648] 128)).grownBy w' (some rb)) (hne : w.heap.size ≠ rb) (hx : 0 ≤ x ∧ x < 4294967296) (hy : 0 ≤ y ∧ y < 4294967296) (k : Nat) (hk : k < 6) :
  ∃ d : Int, w'.cell? ⟨w.heap.size, k, none⟩ = some (.int .u32 d) ∧ 0 ≤ d ∧ d < 4294967296 := by
 have e := hg.block w.heap.size (by simp) (by simpa using hne)
 have h : ∀ j, w'.cell? ⟨w.heap.size, j, none⟩ = (#[.int .u32 0, .int .u32 1, .int .u32 4294967295, .int .u32 x, .int .u32 y, .int .u32 2147483648] : Array Value)[j]? := fun j => by
  rw [World.cell?_of_block (a := ⟨w.heap.size, j, none⟩) e]
  exact World.cell?_alloc_new w _ _ j
 rw [h k]
 rcases (show k = 0 ∨ k = 1 ∨ k = 2 ∨ k = 3 ∨ k = 4 ∨ k = 5 by omega) with rfl | rfl | rfl | rfl | rfl | rfl
 ·exact ⟨0, rfl, by omega, by omega⟩
 ·exact ⟨1, rfl, by omega, by omega⟩
 ·exact ⟨4294967295, rfl, by omega, by omega⟩
 ·exact ⟨x, rfl, hx.1, hx.2⟩
 ·exact ⟨y, rfl, hy.1, hy.2⟩
 ·exact ⟨2147483648, rfl, by omega, by omega⟩
theorem Own.rd {w w' : World} {B rb : Nat} {a : Option Addr} {cap : Nat} {zs : List Int} (h : Own w B a cap zs) (hg : w.grownBy w' (some rb)) (hlt : rb < B) : Own w' B a cap zs :=
 h.kept hg (fun g hg' hr => by
  have e : rb = g := Option.some.inj hr
  rcases h.block with ⟨e', _⟩ | ⟨g', e', h1, _⟩
  ·rw [e'] at hg'; cases hg'
  ·rw [e'] at hg'; cases hg'; omega)
theorem R2.rd {w w' : World} {b rb : Nat} {v0 v1 : Value} (h : R2 w b v0 v1) (hg : w.grownBy w' (some rb)) (hne : b ≠ rb) : R2 w' b v0 v1 := h.grown hg hne
theorem Box.rd {w w' : World} {b rb : Nat} {v0 v1 : Value} (h : Box w b v0 v1) (hg : w.grownBy w' (some rb)) (hne : b ≠ rb) : Box w' b v0 v1 := h.grown hg (fun g e => by cases e; exact hne)
theorem grown_two {w W w' : World} {rb g : Nat} (h : w.grownBy W (some rb)) (hg : W.grownBy w' (some g)) (hge : w.heap.size ≤ g) : w.grownBy w' (some rb) :=
 ⟨hg.os.trans h.os, hg.tape.trans h.tape, hg.output.trans h.output, Nat.le_trans h.size hg.size, fun i hi hne => (hg.block i (Nat.lt_of_lt_of_le hi h.size) (by intro e; have : i = g := Option.some.inj e; omega)).trans (h.block i hi hne)⟩
theorem wide_any (rb : Nat) (ca : Option Addr) (cc : Nat) (cs : List Int) (w : World) (hr : RD w rb ca cc cs) :
  Calls Tryz.prog 199 #[.pointer (some ⟨rb, 0, none⟩)] w fun e w' => ∃ x : Int, ∃ a c, e = .returned (.agg #[.bool (Nm.wn x), .slice a (Nm.wl x).length c]) ∧ (Nm.wl x).length ≤ 200 ∧ Own w' w.heap.size a c (Nm.wl x) ∧ RD w' rb ca cc cs ∧ w.grownBy w' (some rb) := by
 obtain ⟨i0, hi, hz0, hz1, hz2⟩ := info_parts info32
 have HI := hid (And.intro hi (And.intro hz0 (And.intro hz1 hz2)))
 clear hi hz0 hz1 hz2
 have hrw := hr.lt
 have hr0 := hr.alloc (.cells #[.bool false, .slice none 0 0] 32)
 have Rz := R2.new w (.bool false) (.slice none 0 0) 32
 have hsV : (w.alloc (.cells #[.bool false, .slice none 0 0] 32)).heap.size = w.heap.size + 1 := by simp
 have hbV : Below w.heap.size w (w.alloc (.cells #[.bool false, .slice none 0 0] 32)) := (by repeat (first | exact bz0 _ _ | refine bz1 ?_ | refine bz2 ?_ _ | refine bz3 ?_ _ | refine bz5 ?_ _ | refine bz6 ?_ _))
 go_enter Tryz.func199, Tryz.ntmps199
 go_wp2_with fail
 generalize w.alloc (.cells #[.bool false, .slice none 0 0] 32) = V at hr0 Rz hsV hbV ⊢
 have HSV := hid hsV
 clear hsV
 refine (below_any rb ca cc cs 5 _ hr0 (by decide) (by decide)).mono ?_
 rintro e w1 ⟨n, rfl, n0, n1, hr1, hg1⟩
 go_wp2_with fail
 refine (once_any rb ca cc cs 12 _ hr1 (by decide) (by decide)).mono ?_
 rintro e w2 ⟨bb, rfl, hr2, hg2⟩
 have hgv2 := grown_trans hg1 hg2
 cases bb
 case' false =>
  have hn : n ≤ 200 := by omega
  go_wp2_with fail
 case' true =>
  go_wp2_with fail
  refine (below_any rb ca cc cs 201 _ hr2 (by decide) (by decide)).mono ?_
  rintro e w2 ⟨n, rfl, n0, n1, hr2, hgx⟩
  have hgv2 := grown_trans hgv2 hgx
  have hn : n ≤ 200 := by omega
  go_wp2_with fail
 all_goals
  have l2 : w.heap.size + 1 ≤ w2.heap.size := by have := hgv2.size; have := HSV.out; omega
  go_loopw [4, 5] (fun sl iv wr => ∃ i : Nat, ∃ os : List Int, ∃ g cp : Nat, (i : Int) ≤ n ∧ iv = .int .i64 i ∧ sl = .slice (some ⟨g, 0, none⟩) os.length cp ∧ os.length = i ∧ Nm.Dg os ∧ Own wr (w.heap.size + 1) (some ⟨g, 0, none⟩) cp os ∧ RD wr rb ca cc cs ∧ V.grownBy wr (some rb)) (fun _ iv _ => n.toNat - (intOf iv).toNat)
  case atStart => exact ⟨0, [], w2.heap.size, 0, by omega, rfl, rfl, rfl, Nm.Dg.nil, own_buf.base l2, hr2.alloc _, grown_alloc hgv2 _⟩
  case round =>
   obtain ⟨i, os, g, cp, hi, rfl, rfl, hol, hdo, hown, hrr, hgw⟩ := hrel
   have hl3 : w.heap.size + 1 ≤ wr.heap.size := by have := hgw.size; have := HSV.out; omega
   have HOL := hid hol
   have hol1 : os.length ≤ 200 := by omega
   have HDO := hid hdo
   clear hol hdo
   by_cases hlt : (i : Int) < n
   ·go_wp2_with fail
    refine (word_any rb ca cc cs _ hrr).mono ?_
    rintro e w3 ⟨u, rfl, u0, u1, hr3, hg3⟩
    go_wp2_with fail
    refine (word_any rb ca cc cs _ hr3).mono ?_
    rintro e w4 ⟨t, rfl, t0, t1, hr4, hg4⟩
    have l4 : wr.heap.size ≤ w4.heap.size := by have := hg3.size; have := hg4.size; omega
    go_wp2_with fail
    refine (below_any rb ca cc cs 6 _ (hr4.alloc _) (by decide) (by decide)).mono ?_
    rintro e w5 ⟨kz, rfl, k0, k1, hr5, hg5⟩
    obtain ⟨k, rfl⟩ := Int.eq_ofNat_of_zero_le k0
    obtain ⟨d, hd, d0, d1⟩ := six_cell w4 hg5 (by omega) (by omega) (by omega) k (by omega)
    have hown5 := ((hown.rd (grown_trans hg3 hg4) (by omega)).alloc _).rd hg5 (by omega)
    have hgw5 := grown_trans (grown_alloc (grown_trans (grown_trans hgw hg3) hg4) _) hg5
    have l5 : w4.heap.size < w5.heap.size := by have := hg5.size; simp at this; omega
    go_wp2_with (at_builtin; refine wpList_append_lies _ rfl _ _ 30 rfl (w.heap.size + 1) 128 i0 (.int .u32 0) 1 4 Tryz.underlying30 HI.out.1 HI.out.2.1 HI.out.2.2.1 HI.out.2.2.2 rfl (by decide) (.slice (some ⟨g, 0, none⟩) os.length cp) os.length (os.map (Value.int .u32)) rfl (by exact hown5.alloc _) ⟨w5.heap.size, 0, none⟩ 1 1 [.int .u32 d] rfl rfl (by exact news_one w5 _) (one_one _) (by decide) (by unfold maxLen; omega) (by omega) (by simp; omega) (w5.heap.size + 1) (by simp) ?_; intro g1 cp1 w6 hown6 hgrow hat hlt6)
    have ho6 := own_more hown6
    have hg0 := (own_ge hown5).1
    have hgrow' : (w5.alloc (.cells #[.int .u32 d] 128)).grownBy w6 (some g) := hgrow
    have hgw6 := grown_two (grown_alloc hgw5 _) hgrow' (by have := HSV.out; omega)
    have hr6 := (hr5.alloc (.cells #[.int .u32 d] 128)).grown hgrow' (by omega)
    clear hown6 hat hgrow
    go_roundw
    case rel => exact ⟨i + 1, os ++ [d], g1, cp1, by omega, by go_num, by simp, by simp; exact HOL.out, HDO.out.append (Nm.Dg.cons ⟨d0, d1⟩ Nm.Dg.nil), ho6, hr6, hgw6⟩
    case measure => simp [intOf]; omega
   ·go_wp2_with fail
    refine (once_any rb ca cc cs 2 _ hrr (by decide) (by decide)).mono ?_
    rintro e w3 ⟨sg, rfl, hr3, hg3⟩
    have hown3 := hown.rd hg3 (by omega)
    go_wp2_with fail
    refine (made_v sg (some ⟨g, 0, none⟩) cp os _ hown3.sl HDO.out (by omega) _ rfl).mono ?_
    rintro e w4 ⟨a4, c4, rfl, ho4, hb4⟩
    have hgw3 := grown_trans hgw hg3
    obtain ⟨z0, z1, zf0, zf1⟩ := (Rz.rd hgw3 (by omega)).below hb4
    have hlen : (Nm.wl (Nm.wv sg os)).length ≤ 200 := by
     rw [Nm.wl_wv sg HDO.out]; have := Nm.trim_length os; omega
    have HLEN := hid hlen
    have l3 : w.heap.size + 1 ≤ w3.heap.size := by have := hg3.size; omega
    have hr4 := hr3.below hb4
    have hgw4 := grown_trans hgw3 (grown_below hb4 _)
    clear hlen
    go_wp2
    have hset : ∀ (p q : Value), w4.grownBy ((w4.setCell ⟨w.heap.size, 0, none⟩ p).setCell ⟨w.heap.size, 1, none⟩ q) (some w.heap.size) := fun p q =>
     ⟨by simp [World.setCell], by simp [World.setCell], by simp [World.setCell], by simp [World.setCell], fun k hk hne => by
      have hne' : k ≠ w.heap.size := by intro e; exact hne (by rw [e])
      rw [Below.heap_setCell _ ⟨w.heap.size, 1, none⟩ q k hne', Below.heap_setCell _ ⟨w.heap.size, 0, none⟩ p k hne']⟩
    have hgV : w.grownBy w4 (some rb) := grown_trans (grown_below hbV _) hgw4
    refine bodyPost_ret (v := .agg #[.bool (Nm.wn (Nm.wv sg os)), .slice a4 (Nm.wl (Nm.wv sg os)).length c4]) (by simp [results, Tryz.results199, go_sem, z0, z1]) rfl ⟨Nm.wv sg os, a4, c4, rfl, HLEN.out, ?_, ?_, ?_⟩
    ·exact Own.base ((ho4.setBelow (by simp; omega) _).setBelow (by simp; omega) _) (by omega)
    ·exact hr4.grown (hset _ _) hrw
    ·exact grown_two hgV (hset _ _) (Nat.le_refl _)
def D64 (xs : List Int) : Prop := ∀ x ∈ xs, 0 ≤ x ∧ x < 18446744073709551616
theorem D64.getD {xs : List Int} (h : D64 xs) (k : Nat) : 0 ≤ xs.getD k 0 ∧ xs.getD k 0 < 18446744073709551616 := by
 rw [List.getD_eq_getElem?_getD]
 by_cases hk : k < xs.length
 ·rw [List.getElem?_eq_getElem hk]; exact h _ (List.getElem_mem hk)
 ·rw [List.getElem?_eq_none (by omega)]; decide
theorem info64 : (Tryz.prog.info? 22).map (fun i => (i.zero, i.size, i.bytes)) = some (some (.int .u64 0), 1, 8) := by kernel_rfl
end Go.Proofs.YtkfjmcdniohljaaGreatDoor
