/-
  What is needed of Nums, FloatC, DrawB, FloatM, DrawC, LaidB, DR.
-/
import Derived.Test.YtbhfbaogmkgmiaaGreatDoorC45
import Derived.Test.YtbhfbaogmkgmiaaGreatDoorC51
set_option maxHeartbeats 16000000
set_option maxRecDepth 1000000
namespace Go.Proofs.YtbhfbaogmkgmiaaGreatDoor
namespace Nm
theorem trim_length (l : List Int) : (trim l).length ≤ l.length := by
  induction l with
  | nil => simp [trim]
  | cons z r ih => simp only [trim]; split <;> simp <;> omega

end Nm
set_option linter.unusedVariables false
set_option linter.unusedSimpArgs false
open Go.RowKit
theorem spec_Greatest32 (ng : Bool) (w : World) :
    Calls Tryz.prog 73 #[.int .i64 32, .bool ng] w fun e w' => e = .returned (.int .u64 (sgn 2147483648 2139095039 ng)) ∧ Below w.heap.size w w' := by
  have e := Bt.or31 2139095039 (by decide) (by decide)
  cases ng
  · go_enter Tryz.func73, Tryz.ntmps73
    go_wp2
    go_ret
    exact ⟨rfl, (by repeat (first | exact bz0 _ _ | refine bz1 ?_ | refine bz2 ?_ _ | refine bz3 ?_ _ | refine bz5 ?_ _ | refine bz6 ?_ _))⟩
  · go_enter Tryz.func73, Tryz.ntmps73
    go_wp2
    go_ret
    exact ⟨rfl, (by repeat (first | exact bz0 _ _ | refine bz1 ?_ | refine bz2 ?_ _ | refine bz3 ?_ _ | refine bz5 ?_ _ | refine bz6 ?_ _))⟩
theorem spec_Greatest64 (ng : Bool) (w : World) :
    Calls Tryz.prog 73 #[.int .i64 64, .bool ng] w fun e w' => e = .returned (.int .u64 (sgn 9223372036854775808 9218868437227405311 ng)) ∧ Below w.heap.size w w' := by
  have e := Bt.or63 9218868437227405311 (by decide) (by decide)
  cases ng
  · go_enter Tryz.func73, Tryz.ntmps73
    go_wp2
    go_ret
    exact ⟨rfl, (by repeat (first | exact bz0 _ _ | refine bz1 ?_ | refine bz2 ?_ _ | refine bz3 ?_ _ | refine bz5 ?_ _ | refine bz6 ?_ _))⟩
  · go_enter Tryz.func73, Tryz.ntmps73
    go_wp2
    go_ret
    exact ⟨rfl, (by repeat (first | exact bz0 _ _ | refine bz1 ?_ | refine bz2 ?_ _ | refine bz3 ?_ _ | refine bz5 ?_ _ | refine bz6 ?_ _))⟩
end Go.Proofs.YtbhfbaogmkgmiaaGreatDoor
namespace Go.Proofs.YtbhfbaogmkgmiaaGreatDoor
set_option linter.unusedVariables false
set_option linter.unusedSimpArgs false
open Go.RowKit Go.Deep
theorem six_cell {x y : Int} (w : World) {w' : World} {rb : Nat} (hg : (w.alloc (.cells #[.int .u32 0, .int .u32 1, .int .u32 4294967295, .int .u32 x, .int .u32 y, .int .u32 2147483648] 83)).grownBy w' (some rb)) (hne : w.heap.size ≠ rb) (hx : 0 ≤ x ∧ x < 4294967296) (hy : 0 ≤ y ∧ y < 4294967296) (k : Nat) (hk : k < 6) :
    ∃ d : Int, w'.cell? ⟨w.heap.size, k, none⟩ = some (.int .u32 d) ∧ 0 ≤ d ∧ d < 4294967296 := by
  have e := hg.block w.heap.size (by simp) (by simpa using hne)
  have h : ∀ j, w'.cell? ⟨w.heap.size, j, none⟩ = (#[.int .u32 0, .int .u32 1, .int .u32 4294967295, .int .u32 x, .int .u32 y, .int .u32 2147483648] : Array Value)[j]? := fun j => by
    rw [World.cell?_of_block (a := ⟨w.heap.size, j, none⟩) e]
    exact World.cell?_alloc_new w _ _ j
  rw [h k]
  rcases (show k = 0 ∨ k = 1 ∨ k = 2 ∨ k = 3 ∨ k = 4 ∨ k = 5 by omega) with rfl | rfl | rfl | rfl | rfl | rfl
  · exact ⟨0, rfl, by omega, by omega⟩
  · exact ⟨1, rfl, by omega, by omega⟩
  · exact ⟨4294967295, rfl, by omega, by omega⟩
  · exact ⟨x, rfl, hx.1, hx.2⟩
  · exact ⟨y, rfl, hy.1, hy.2⟩
  · exact ⟨2147483648, rfl, by omega, by omega⟩
theorem grown_two {w W w' : World} {rb g : Nat} (h : w.grownBy W (some rb)) (hg : W.grownBy w' (some g)) (hge : w.heap.size ≤ g) : w.grownBy w' (some rb) :=
  ⟨hg.os.trans h.os, hg.tape.trans h.tape, hg.output.trans h.output, Nat.le_trans h.size hg.size, fun i hi hne => (hg.block i (Nat.lt_of_lt_of_le hi h.size) (by intro e; have : i = g := Option.some.inj e; omega)).trans (h.block i hi hne)⟩
theorem wide_any (rb : Nat) (ca : Option Addr) (cc : Nat) (cs : List Int) (w : World) (hr : RD w rb ca cc cs) :
    Calls Tryz.prog 67 #[.pointer (some ⟨rb, 0, none⟩)] w fun e w' => ∃ x : Int, ∃ a c, e = .returned (.agg #[.bool (Nm.wn x), .slice a (Nm.wl x).length c]) ∧ (Nm.wl x).length ≤ 200 ∧ Own w' w.heap.size a c (Nm.wl x) ∧ RD w' rb ca cc cs ∧ w.grownBy w' (some rb) := by
  obtain ⟨i0, hi, hz0, hz1, hz2⟩ := info_parts info32
  have HI := hid (And.intro hi (And.intro hz0 (And.intro hz1 hz2)))
  clear hi hz0 hz1 hz2
  have hrw := hr.lt
  have hr0 := hr.alloc (.cells #[.bool false, .slice none 0 0] 26)
  have Rz := R2.new w (.bool false) (.slice none 0 0) 26
  have hsV : (w.alloc (.cells #[.bool false, .slice none 0 0] 26)).heap.size = w.heap.size + 1 := by simp
  have hbV : Below w.heap.size w (w.alloc (.cells #[.bool false, .slice none 0 0] 26)) := (by repeat (first | exact bz0 _ _ | refine bz1 ?_ | refine bz2 ?_ _ | refine bz3 ?_ _ | refine bz5 ?_ _ | refine bz6 ?_ _))
  go_enter Tryz.func67, Tryz.ntmps67
  go_wp2_with fail
  generalize w.alloc (.cells #[.bool false, .slice none 0 0] 26) = V at hr0 Rz hsV hbV ⊢
  have HSV := hid hsV
  clear hsV
  refine (below_any rb ca cc cs 5 _ hr0 (by decide) (by decide)).mono ?_
  rintro e w1 ⟨n, rfl, n0, n1, hr1, hg1⟩
  go_wp2_with fail
  refine (once_any rb ca cc cs 12 _ hr1 (by decide) (by decide)).mono ?_
  rintro e w2 ⟨bb, rfl, hr2, hg2⟩
  have hgv2 := grown_trans hg1 hg2
  cases bb
  case' false =>
    have hn : n ≤ 200 := by omega
    go_wp2_with fail
  case' true =>
    go_wp2_with fail
    refine (below_any rb ca cc cs 201 _ hr2 (by decide) (by decide)).mono ?_
    rintro e w2 ⟨n, rfl, n0, n1, hr2, hgx⟩
    have hgv2 := grown_trans hgv2 hgx
    have hn : n ≤ 200 := by omega
    go_wp2_with fail
  all_goals
    have l2 : w.heap.size + 1 ≤ w2.heap.size := by have := hgv2.size; have := HSV.out; omega
    go_loopw [4, 5] (fun sl iv wr => ∃ i : Nat, ∃ os : List Int, ∃ g cp : Nat, (i : Int) ≤ n ∧ iv = .int .i64 i ∧ sl = .slice (some ⟨g, 0, none⟩) os.length cp ∧ os.length = i ∧ Nm.Dg os ∧ Own wr (w.heap.size + 1) (some ⟨g, 0, none⟩) cp os ∧ RD wr rb ca cc cs ∧ V.grownBy wr (some rb)) (fun _ iv _ => n.toNat - (intOf iv).toNat)
    case atStart => exact ⟨0, [], w2.heap.size, 0, by omega, rfl, rfl, rfl, Nm.Dg.nil, own_buf.base l2, hr2.alloc _, grown_alloc hgv2 _⟩
    case round =>
      obtain ⟨i, os, g, cp, hi, rfl, rfl, hol, hdo, hown, hrr, hgw⟩ := hrel
      have hl3 : w.heap.size + 1 ≤ wr.heap.size := by have := hgw.size; have := HSV.out; omega
      have HOL := hid hol
      have hol1 : os.length ≤ 200 := by omega
      have HDO := hid hdo
      clear hol hdo
      by_cases hlt : (i : Int) < n
      · go_wp2_with fail
        refine (word_any rb ca cc cs _ hrr).mono ?_
        rintro e w3 ⟨u, rfl, u0, u1, hr3, hg3⟩
        go_wp2_with fail
        refine (word_any rb ca cc cs _ hr3).mono ?_
        rintro e w4 ⟨t, rfl, t0, t1, hr4, hg4⟩
        have l4 : wr.heap.size ≤ w4.heap.size := by have := hg3.size; have := hg4.size; omega
        go_wp2_with fail
        refine (below_any rb ca cc cs 6 _ (hr4.alloc _) (by decide) (by decide)).mono ?_
        rintro e w5 ⟨kz, rfl, k0, k1, hr5, hg5⟩
        obtain ⟨k, rfl⟩ := Int.eq_ofNat_of_zero_le k0
        obtain ⟨d, hd, d0, d1⟩ := six_cell w4 hg5 (by omega) (by omega) (by omega) k (by omega)
        have hown5 := ((hown.rd (grown_trans hg3 hg4) (by omega)).alloc _).rd hg5 (by omega)
        have hgw5 := grown_trans (grown_alloc (grown_trans (grown_trans hgw hg3) hg4) _) hg5
        have l5 : w4.heap.size < w5.heap.size := by have := hg5.size; simp at this; omega
        go_wp2_with (at_builtin; refine wpList_append_lies _ rfl _ _ 24 rfl (w.heap.size + 1) 83 i0 (.int .u32 0) 1 4 Tryz.underlying24 HI.out.1 HI.out.2.1 HI.out.2.2.1 HI.out.2.2.2 rfl (by decide) (.slice (some ⟨g, 0, none⟩) os.length cp) os.length (os.map (Value.int .u32)) rfl (by exact hown5.alloc _) ⟨w5.heap.size, 0, none⟩ 1 1 [.int .u32 d] rfl rfl (by exact news_one w5 _) (one_one _) (by decide) (by unfold maxLen; omega) (by omega) (by simp; omega) (w5.heap.size + 1) (by simp) ?_; intro g1 cp1 w6 hown6 hgrow hat hlt6)
        have ho6 := own_more hown6
        have hg0 := (own_ge hown5).1
        have hgrow' : (w5.alloc (.cells #[.int .u32 d] 83)).grownBy w6 (some g) := hgrow
        have hgw6 := grown_two (grown_alloc hgw5 _) hgrow' (by have := HSV.out; omega)
        have hr6 := (hr5.alloc (.cells #[.int .u32 d] 83)).grown hgrow' (by omega)
        clear hown6 hat hgrow
        go_roundw
        case rel => exact ⟨i + 1, os ++ [d], g1, cp1, by omega, by go_num, by simp, by simp; exact HOL.out, HDO.out.append (Nm.Dg.cons ⟨d0, d1⟩ Nm.Dg.nil), ho6, hr6, hgw6⟩
        case measure => simp [intOf]; omega
      · go_wp2_with fail
        refine (once_any rb ca cc cs 2 _ hrr (by decide) (by decide)).mono ?_
        rintro e w3 ⟨sg, rfl, hr3, hg3⟩
        have hown3 := hown.rd hg3 (by omega)
        go_wp2_with fail
        refine (made_v sg (some ⟨g, 0, none⟩) cp os _ hown3.sl HDO.out (by omega) _ rfl).mono ?_
        rintro e w4 ⟨a4, c4, rfl, ho4, hb4⟩
        have hgw3 := grown_trans hgw hg3
        obtain ⟨z0, z1, zf0, zf1⟩ := (Rz.rd hgw3 (by omega)).below hb4
        have hlen : (Nm.wl (Nm.wv sg os)).length ≤ 200 := by
          rw [Nm.wl_wv sg HDO.out]; have := Nm.trim_length os; omega
        have HLEN := hid hlen
        have l3 : w.heap.size + 1 ≤ w3.heap.size := by have := hg3.size; omega
        have hr4 := hr3.below hb4
        have hgw4 := grown_trans hgw3 (grown_below hb4 _)
        clear hlen
        go_wp2
        have hset : ∀ (p q : Value), w4.grownBy ((w4.setCell ⟨w.heap.size, 0, none⟩ p).setCell ⟨w.heap.size, 1, none⟩ q) (some w.heap.size) := fun p q =>
          ⟨by simp [World.setCell], by simp [World.setCell], by simp [World.setCell], by simp [World.setCell], fun k hk hne => by
            have hne' : k ≠ w.heap.size := by intro e; exact hne (by rw [e])
            rw [Below.heap_setCell _ ⟨w.heap.size, 1, none⟩ q k hne', Below.heap_setCell _ ⟨w.heap.size, 0, none⟩ p k hne']⟩
        have hgV : w.grownBy w4 (some rb) := grown_trans (grown_below hbV _) hgw4
        refine bodyPost_ret (v := .agg #[.bool (Nm.wn (Nm.wv sg os)), .slice a4 (Nm.wl (Nm.wv sg os)).length c4]) (by simp [results, Tryz.results67, go_sem, z0, z1]) rfl ⟨Nm.wv sg os, a4, c4, rfl, HLEN.out, ?_, ?_, ?_⟩
        · exact Own.base ((ho4.setBelow (by simp; omega) _).setBelow (by simp; omega) _) (by omega)
        · exact hr4.grown (hset _ _) hrw
        · exact grown_two hgV (hset _ _) (Nat.le_refl _)
end Go.Proofs.YtbhfbaogmkgmiaaGreatDoor
namespace Go.Proofs.YtbhfbaogmkgmiaaGreatDoor
set_option linter.unusedVariables false
set_option linter.unusedSimpArgs false
open Go.RowKit
theorem up_ok {fm x : Int} (h : okF fm x = true) (h0 : 0 ≤ x) (h1 : x < 18446744073709551616) : okF fm (upF fm x) = true ∧ 0 ≤ upF fm x ∧ upF fm x < 18446744073709551616 := by
  cases hn : nanB fm x
  rotate_left
  · rw [up_nan h hn]; rcases okF_cases h with ⟨rfl, hx⟩ | rfl <;> exact ⟨by decide, by decide, by decide⟩
  cases hz : (absF fm x == 0)
  rotate_left
  · rw [up_zero h hn hz]; rcases okF_cases h with ⟨rfl, hx⟩ | rfl <;> exact ⟨by decide, by decide, by decide⟩
  cases hs : sigB fm x
  · have bd := up_bd h h0 hn hs
    cases hi : (x == infOf fm)
    · rw [up_pos h hn hz hs hi]
      rcases okF_cases h with ⟨rfl, hx⟩ | rfl
      · unfold nanB infOf at hn; unfold sigB at hs; rw [abs32 hx] at hn hs; simp at hn hs
        exact ⟨okF32 (by omega), by omega, by omega⟩
      · exact ⟨okF64, by omega, by omega⟩
    · rw [up_inf h hn hz hs hi]; exact ⟨h, h0, h1⟩
  · have bd := up_bd' (fm := fm) h0 hs
    rw [up_neg h hn hz hs]
    rcases okF_cases h with ⟨rfl, hx⟩ | rfl
    · exact ⟨okF32 (by omega), by omega, by omega⟩
    · exact ⟨okF64, by omega, by omega⟩
end Go.Proofs.YtbhfbaogmkgmiaaGreatDoor
namespace Go.Proofs.YtbhfbaogmkgmiaaGreatDoor
set_option linter.unusedVariables false
set_option linter.unusedSimpArgs false
open Go.RowKit Go.Deep
theorem Gr2.r2 {w w' : World} {rb b : Nat} {a : Option Addr} {v0 v1 : Value} (h : R2 w b v0 v1) (hg : Gr2 w w' rb a) (h1 : b ≠ rb) (h2 : ∀ g, a = some ⟨g, 0, none⟩ → b ≠ g) : R2 w' b v0 v1 := by
  have e := hg.block b (World.block_lt_of_cell? w _ h.c0) h1 h2
  exact ⟨(World.cell?_of_block (a := ⟨b, 0, none⟩) e).trans h.c0, (World.cell?_of_block (a := ⟨b, 1, none⟩) e).trans h.c1, (World.frozen?_of_block (a := ⟨b, 0, none⟩) e).trans h.f0, (World.frozen?_of_block (a := ⟨b, 1, none⟩) e).trans h.f1⟩
theorem own_snoc {w : World} {B g cap : Nat} {os : List Int} {d : Int} (h : w.ownsRow B 83 1 (.slice (some ⟨g, 0, none⟩) (os.length + 1) cap) (os.length + 1) (os.map (Value.int .u32) ++ [.int .u32 d])) : Own w B (some ⟨g, 0, none⟩) cap (os ++ [d]) := own_more h
theorem hurt_any (rb : Nat) (ca : Option Addr) (cc : Nat) (cs : List Int) (ng : Bool) (a : Option Addr) (c : Nat) (L : List Int) (B : Nat) (w : World) (hr : RD w rb ca cc cs) (ho : Own w B a c L) (hB : rb < B) (hd : Nm.Dg L) (hl : L.length ≤ 1000) (hBw : B ≤ w.heap.size) :
    Calls Tryz.prog 66 #[.pointer (some ⟨rb, 0, none⟩), .agg #[.bool ng, .slice a L.length c]] w fun e w' => ∃ ng' L' a' c', e = .returned (.agg #[.bool ng', .slice a' L'.length c']) ∧ L'.length ≤ 2000 ∧ Nm.Dg L' ∧ Own w' B a' c' L' ∧ RD w' rb ca cc cs ∧ Gr2 w w' rb a ∧ (∀ g, a' = some ⟨g, 0, none⟩ → a = some ⟨g, 0, none⟩ ∨ w.heap.size ≤ g) := by
  obtain ⟨i0, hi, hz0, hz1, hz2⟩ := info_parts info32
  have HI := hid (And.intro hi (And.intro hz0 (And.intro hz1 hz2)))
  clear hi hz0 hz1 hz2
  have Rx := (R2.new w (.bool ng) (.slice a L.length c) 26).alloc (.cells #[.bool false, .slice none 0 0] 26)
  have Rz := R2.new2 w (.cells #[.bool ng, .slice a L.length c] 26) (.bool false) (.slice none 0 0) 26
  have hrV := (hr.alloc (.cells #[.bool ng, .slice a L.length c] 26)).alloc (.cells #[.bool false, .slice none 0 0] 26)
  have hoV := (ho.alloc (.cells #[.bool ng, .slice a L.length c] 26)).alloc (.cells #[.bool false, .slice none 0 0] 26)
  have hsV : ((w.alloc (.cells #[.bool ng, .slice a L.length c] 26)).alloc (.cells #[.bool false, .slice none 0 0] 26)).heap.size = w.heap.size + 1 + 1 := by simp
  have hbV : Below w.heap.size w ((w.alloc (.cells #[.bool ng, .slice a L.length c] 26)).alloc (.cells #[.bool false, .slice none 0 0] 26)) := (by repeat (first | exact bz0 _ _ | refine bz1 ?_ | refine bz2 ?_ _ | refine bz3 ?_ _ | refine bz5 ?_ _ | refine bz6 ?_ _))
  have hat := own_at ho
  have hrlt := hr.lt
  go_enter Tryz.func66, Tryz.ntmps66
  go_wp2_with fail
  generalize (w.alloc (.cells #[.bool ng, .slice a L.length c] 26)).alloc (.cells #[.bool false, .slice none 0 0] 26) = V at Rx Rz hrV hoV hsV hbV ⊢
  have HSV := hid hsV
  clear hsV
  refine (below_any rb ca cc cs 30 _ hrV (by decide) (by decide)).mono ?_
  rintro e w1 ⟨v, rfl, v0, v1, hr1, hg1⟩
  have hG1 : Gr2 w w1 rb a := (Gr2.of (grown_below hbV _)).trans (Gr2.of hg1)
  replace Rx := Rx.rd hg1 (by omega)
  replace Rz := Rz.rd hg1 (by omega)
  have ho1 := hoV.rd hg1 hB
  have l1 : w.heap.size + 1 + 1 ≤ w1.heap.size := by have := hg1.size; have := HSV.out; omega
  rcases (show v = 0 ∨ v = 1 ∨ v = 2 ∨ 2 < v by omega) with rfl | rfl | rfl | hv
  · obtain ⟨x0, x1, xf0, xf1⟩ := Rx
    have HZ := hid Rz
    clear Rz
    go_wp2_with (at_builtin; refine wpList_append_lies _ rfl _ _ 24 rfl B 83 i0 (.int .u32 0) 1 4 Tryz.underlying24 HI.out.1 HI.out.2.1 HI.out.2.2.1 HI.out.2.2.2 rfl (by decide) (.slice a L.length c) L.length (L.map (Value.int .u32)) rfl (by exact ho1.alloc _) ⟨w1.heap.size, 0, none⟩ 1 1 [.int .u32 0] rfl rfl (by exact news_one w1 _) (one_one _) (by decide) (by unfold maxLen; omega) (by omega) (by simp; omega) (w1.heap.size + 1) (by simp) ?_; intro g1 cp1 w2 hown2 hgrow hat2 hlt2; obtain ⟨q0, q1, q2, q3⟩ := R2.row (R2.alloc ⟨x0, x1, xf0, xf1⟩ _) (ho1.alloc _) hgrow (fun g hg => by have := hat g hg; omega); obtain ⟨z0, z1, z2, z3⟩ := R2.row (HZ.out.alloc _) (ho1.alloc _) hgrow (fun g hg => by have := hat g hg; omega))
    have ho2 := own_snoc hown2
    have hr2 := RD.row (hr1.alloc (.cells #[.int .u32 0] 83)) (ho1.alloc _) hB hgrow
    have hG2 := Gr2.row (hG1.below ((Below.refl _ _).alloc (Nat.le_refl _) (.cells #[.int .u32 0] 83))) hgrow (fun g hg => .inl hg) (own_form ho1)
    have hg1n : g1 ≠ w.heap.size ∧ g1 ≠ w.heap.size + 1 := by
      rcases hat2 with h | h
      · have : g1 < w.heap.size := by
          cases a with
          | none => cases h
          | some x =>
            obtain ⟨g, rfl⟩ := own_form ho x rfl
            have e : g = g1 := Option.some.inj h
            have := hat g rfl
            omega
        omega
      · omega
    have hwh : ∀ g, (some ⟨g1, 0, none⟩ : Option Addr) = some ⟨g, 0, none⟩ → a = some ⟨g, 0, none⟩ ∨ w.heap.size ≤ g := fun g hg => by
      cases hg
      rcases hat2 with h | h
      · cases a with
        | none => cases h
        | some x =>
          obtain ⟨g, rfl⟩ := own_form ho x rfl
          have e : g = g1 := Option.some.inj h
          subst e
          exact .inl rfl
      · right; omega
    have hgs : ∀ b, b ≠ g1 → ∀ g, (some ⟨g1, 0, none⟩ : Option Addr) = some ⟨g, 0, none⟩ → g ≠ b := fun b hb g hg => by cases hg; exact fun e => hb e.symm
    refine bodyPost_ret (v := .agg #[.bool ng, .slice (some ⟨g1, 0, none⟩) (L.length + 1) cp1]) (by simp [results, Tryz.results66, go_sem, z0, z1]) rfl ⟨ng, L ++ [0], some ⟨g1, 0, none⟩, cp1, by simp, by simp; omega, hd.append (Nm.Dg.cons (by decide) Nm.Dg.nil), ?_, ?_, ?_, hwh⟩
    · exact ((ho2.setOther (hgs _ (by simp; omega)) _).setOther (hgs _ (by simp; omega)) _).setOther (hgs _ (by simp; omega)) _
    · exact ((hr2.other (by simp; omega) _).other (by simp; omega) _).other (by simp; omega) _
    · exact ((hG2.set (by simp) _).set (by simp) _).set (by simp) _
  · obtain ⟨x0, x1, xf0, xf1⟩ := Rx
    obtain ⟨z0, z1, z2, z3⟩ := Rz
    go_wp2
    refine bodyPost_ret (v := .agg #[.bool true, .slice none 0 0]) (by simp [results, Tryz.results66, go_sem, z0, z1]) rfl ⟨true, [], none, 0, rfl, by simp, Nm.Dg.nil, Own.nil _ _, ?_, ?_, fun g hg => by cases hg⟩
    · exact (hr1.other (by simp; omega) _).other (by simp; omega) _
    · exact (hG1.set (by simp) _).set (by simp) _
  · have HX := hid Rx
    have HZ := hid Rz
    clear Rx Rz
    go_wp2_with fail
    go_loopw [5] (fun iv wr => ∃ i : Nat, ∃ L' : List Int, ∃ a' c', i ≤ 202 ∧ iv = .int .i64 i ∧ L'.length ≤ L.length + i ∧ Nm.Dg L' ∧ R2 wr w.heap.size (.bool ng) (.slice a' L'.length c') ∧ R2 wr (w.heap.size + 1) (.bool false) (.slice none 0 0) ∧ Own wr B a' c' L' ∧ RD wr rb ca cc cs ∧ Gr2 w wr rb a ∧ (∀ g, a' = some ⟨g, 0, none⟩ → a = some ⟨g, 0, none⟩ ∨ w.heap.size + 2 ≤ g) ∧ w.heap.size + 2 ≤ wr.heap.size) (fun iv _ => 202 - (intOf iv).toNat)
    case atStart => exact ⟨0, L, a, c, by omega, rfl, by omega, hd, HX.out, HZ.out, ho1, hr1, hG1, fun g hg => .inl hg, l1⟩
    case round =>
      obtain ⟨i, L', a', c', hi, rfl, hlen, hdd, Rx, Rz, hoo, hrr, hGG, haa, lr⟩ := hrel
      obtain ⟨p, hp, rp⟩ := hrr.p
      have y0 := rp.c0
      have hcl := hrr.len
      obtain ⟨x0, x1, xf0, xf1⟩ := Rx
      have HRP := hid rp
      have HAA := hid haa
      have HDD := hid hdd
      have HZ2 := hid Rz
      clear rp haa Rz hdd
      by_cases hlt : i < 202
      · have gd : decide ((i : Int) < 202) = true := by simp; omega
        obtain ⟨t, ht⟩ : ∃ t, t = ((cs.length : Int)).tmod 3 := ⟨_, rfl⟩
        have ht' : ((cs.length : Int)).tmod 3 = t := ht.symm
        have ht2 : 0 ≤ t ∧ t < 3 := by rw [ht, Int.tmod_eq_emod_of_nonneg (by omega)]; omega
        clear ht
        have kw : IntKind.i64.wrap (199 + t) = 199 + t := by rw [IntKind.wrap_i64]; omega
        by_cases hle : (L'.length : Int) < 199 + t
        · have gl : decide ((L'.length : Int) < 199 + t) = true := by simpa using hle
          go_wp2_with fail
          go_region_held3 (fun w' => w'.cell? ⟨w.heap.size, 1, none⟩ = some (.slice a' L'.length c') ∧ w'.cell? ⟨rb, 0, none⟩ = some (.slice ca cs.length cc)) (first | assumption | exact ⟨x1, y0⟩) (fail)
          go_wp2_with (at_builtin; refine wpList_append_lies _ rfl _ _ 24 rfl B 83 i0 (.int .u32 0) 1 4 Tryz.underlying24 HI.out.1 HI.out.2.1 HI.out.2.2.1 HI.out.2.2.2 rfl (by decide) (.slice a' L'.length c') L'.length (L'.map (Value.int .u32)) rfl (by exact hoo.drew.alloc _) ⟨wr.heap.size, 0, none⟩ 1 1 [.int .u32 4294967295] rfl rfl (by exact news_one wr.drew _) (one_one _) (by decide) (by unfold maxLen; omega) (by omega) (by simp; omega) (wr.heap.size + 1) (by simp) ?_; intro g1 cp1 w2 hown2 hgrow hat2 hlt2; obtain ⟨q0, q1, q2, q3⟩ := R2.row (R2.alloc (R2.drew ⟨x0, x1, xf0, xf1⟩) _) (hoo.drew.alloc _) hgrow (fun g hg => by rcases HAA.out g hg with h | h; (have := hat g h; omega); omega))
          have z2 := R2.row (R2.alloc (R2.drew HZ2.out) (.cells #[.int .u32 4294967295] 83)) (hoo.drew.alloc _) hgrow (fun g hg => by
            rcases HAA.out g hg with h | h
            · have := hat g h; omega
            · have := (own_at hoo g hg).2; omega)
          have ho2 := own_snoc hown2
          have hr2 := RD.row ((hrr.drew).alloc (.cells #[.int .u32 4294967295] 83)) (hoo.drew.alloc _) hB hgrow
          have hG2 := Gr2.row (hGG.below (by exact (Below.drew (Below.refl _ _)).alloc (by simp) (.cells #[.int .u32 4294967295] 83))) hgrow (fun g hg => by
            rcases HAA.out g hg with h | h
            · exact .inl h
            · exact .inr (by omega)) (own_form hoo)
          have hg1n : a = some ⟨g1, 0, none⟩ ∨ w.heap.size + 2 ≤ g1 := by
            rcases hat2 with h | h
            · cases a' with
              | none => cases h
              | some x =>
                obtain ⟨g, rfl⟩ := own_form hoo x rfl
                have e : g = g1 := Option.some.inj h
                subst e
                exact HAA.out g rfl
            · right; omega
          have hg1m : g1 ≠ w.heap.size ∧ g1 ≠ w.heap.size + 1 := by
            rcases hg1n with h | h
            · have := hat g1 h; omega
            · omega
          have hgs : ∀ g, (some ⟨g1, 0, none⟩ : Option Addr) = some ⟨g, 0, none⟩ → g ≠ w.heap.size := fun g hg => by cases hg; exact hg1m.1
          have rs : R2 (w2.setCell ⟨w.heap.size, 1, none⟩ (.slice (some ⟨g1, 0, none⟩) (L'.length + 1) cp1)) w.heap.size (.bool ng) (.slice (some ⟨g1, 0, none⟩) (L'.length + 1) cp1) := ⟨by simp [go_sem, q0, q1], by simp [go_sem, q0, q1], by simp [go_sem, q2, q3], by simp [go_sem, q2, q3]⟩
          have lw2 : wr.heap.size ≤ w2.heap.size := by have := hgrow.size; simp at this; omega
          clear hown2 hat2
          go_roundw
          case rel => exact ⟨i + 1, L' ++ [4294967295], some ⟨g1, 0, none⟩, cp1, by omega, by go_num, by simp; omega, HDD.out.append (Nm.Dg.cons (by decide) Nm.Dg.nil), by rw [List.length_append]; exact rs, z2.other (by simp) _, ho2.setOther hgs _, hr2.other (by simp; omega) _, hG2.set (by simp) _, fun g hg => by cases hg; exact hg1n, by simp; omega⟩
          case measure => simp [intOf]; omega
        · have gl : decide ((L'.length : Int) < 199 + t) = false := by simpa using hle
          go_wp2_with fail
          go_region_held3 (fun w' => w'.cell? ⟨w.heap.size, 1, none⟩ = some (.slice a' L'.length c') ∧ w'.cell? ⟨rb, 0, none⟩ = some (.slice ca cs.length cc)) (first | assumption | exact ⟨x1, y0⟩) (fail)
          have hgs : ∀ b, b = w.heap.size ∨ b = w.heap.size + 1 → ∀ g, a' = some ⟨g, 0, none⟩ → g ≠ b := fun b hb g hg => by
            rcases HAA.out g hg with h | h
            · have := hat g h; omega
            · omega
          obtain ⟨z0, z1, z2, z3⟩ := HZ2.out
          go_wp2
          refine bodyPost_ret (v := .agg #[.bool ng, .slice a' L'.length c']) (by simp [results, Tryz.results66, go_sem, z0, z1]) rfl ⟨ng, L', a', c', rfl, by omega, HDD.out, ?_, ?_, ?_, fun g hg => (HAA.out g hg).imp id (fun h => by omega)⟩
          · exact ((hoo.drew).setOther (hgs _ (.inr rfl)) _).setOther (hgs _ (.inr rfl)) _
          · exact ((hrr.drew).other (by simp; omega) _).other (by simp; omega) _
          · exact ((hGG.below (Below.drew (Below.refl _ _))).set (by simp) _).set (by simp) _
      · have gd : decide ((i : Int) < 202) = false := by simp; omega
        go_wp2_with fail
        go_region
        all_goals
          have hgs : ∀ b, b = w.heap.size ∨ b = w.heap.size + 1 → ∀ g, a' = some ⟨g, 0, none⟩ → g ≠ b := fun b hb g hg => by
            rcases HAA.out g hg with h | h
            · have := hat g h; omega
            · omega
          obtain ⟨z0, z1, z2, z3⟩ := HZ2.out
          go_wp2
          refine bodyPost_ret (v := .agg #[.bool ng, .slice a' L'.length c']) (by simp [results, Tryz.results66, go_sem, z0, z1]) rfl ⟨ng, L', a', c', rfl, by omega, HDD.out, ?_, ?_, ?_, fun g hg => (HAA.out g hg).imp id (fun h => by omega)⟩
          · exact ((hoo.drew).setOther (hgs _ (.inr rfl)) _).setOther (hgs _ (.inr rfl)) _
          · exact ((hrr.drew).other (by simp; omega) _).other (by simp; omega) _
          · exact ((hGG.below (Below.drew (Below.refl _ _))).set (by simp) _).set (by simp) _
  · obtain ⟨x0, x1, xf0, xf1⟩ := Rx
    obtain ⟨z0, z1, z2, z3⟩ := Rz
    have e0 : (v == 0) = false := by simp; omega
    have e1 : (v == 1) = false := by simp; omega
    have e2 : (v == 2) = false := by simp; omega
    go_wp2
    have hgs : ∀ b, w.heap.size ≤ b → ∀ g, a = some ⟨g, 0, none⟩ → g ≠ b := fun b hb g hg => by have := hat g hg; omega
    refine bodyPost_ret (v := .agg #[.bool ng, .slice a L.length c]) (by simp [results, Tryz.results66, go_sem, z0, z1]) rfl ⟨ng, L, a, c, rfl, by omega, hd, ?_, ?_, ?_, fun g hg => .inl hg⟩
    · exact (ho1.setOther (hgs _ (by simp)) _).setOther (hgs _ (by simp)) _
    · exact (hr1.other (by simp; omega) _).other (by simp; omega) _
    · exact (hG1.set (by simp) _).set (by simp) _
end Go.Proofs.YtbhfbaogmkgmiaaGreatDoor
namespace Go.Proofs.YtbhfbaogmkgmiaaGreatDoor
set_option linter.unusedVariables false
set_option linter.unusedSimpArgs false
namespace Ld
open Go.RowKit Go.Deep
theorem three_tabs {W : World} (h : laidMetH Tryz.prog [("math/bits.deBruijn32tab", Rows.laid_math_bits_deBruijn32tab), ("math/bits.deBruijn64tab", Rows.laid_math_bits_deBruijn64tab), ("loop.example/g00672/impl.formSizes", Rows.laid_loop_example_g00672_impl_formSizes)] W) : T3 W := by
  have h : laidMet Tryz.prog _ W := (laidMetH_iff.1 h).1
  have h1 := h.filter (fun x => x.1 == "loop.example/g00672/impl.formSizes")
  have h2 := h.filter (fun x => x.1 == "math/bits.deBruijn64tab")
  have h3 := h.filter (fun x => x.1 == "math/bits.deBruijn32tab")
  exact ⟨⟨table h1, tb64 h2⟩, tb32 h3⟩
end Ld
open Go.RowKit Go.Deep
namespace Fd
theorem bl_shift {x n : Int} {k : Nat} (hx : bitLen x.natAbs ≤ k) : bitLen (Nm.shV (Nm.wn x) (Nm.val (Nm.wl x)) n).natAbs ≤ k + n.toNat := by
  have h1 := (Nm.bl_le_iff _ k).1 hx
  rw [Nm.val_wl, shV_sg]
  have e : (if Nm.wn x = true then -((Nm.sh x.natAbs n : Nat) : Int) else ((Nm.sh x.natAbs n : Nat) : Int)).natAbs = Nm.sh x.natAbs n := by split <;> omega
  rw [e]
  refine (Nm.bl_le_iff _ _).2 ?_
  unfold Nm.sh
  split
  · have := Nat.div_le_self x.natAbs (2 ^ (-n).toNat)
    have h3 : 2 ^ k ≤ 2 ^ (k + n.toNat) := Nat.pow_le_pow_right (by decide) (by omega)
    omega
  · rw [Nat.pow_add]
    exact Nat.mul_lt_mul_of_pos_right h1 (Nat.two_pow_pos _)
theorem wl_k {x : Int} {k : Nat} (hx : bitLen x.natAbs ≤ 32 * k) : (Nm.wl x).length ≤ k := by unfold Nm.wl; exact lim_len hx
theorem bl_small {x : Int} (h0 : -1000000 ≤ x) (h1 : x ≤ 1000000) : bitLen x.natAbs ≤ 20 := (Nm.bl_le_iff _ _).2 (Nat.lt_of_le_of_lt (show x.natAbs ≤ 1000000 by omega) (by decide))
theorem shift_x (x : Int) (a : Option Addr) (cap : Nat) (n : Int) (w : World) (hx : Sl .u32 w (.slice a (Nm.wl x).length cap) (Nm.wl x)) (k : Nat) (hk : bitLen x.natAbs ≤ k) (hk2 : k ≤ 60000) (h0 : -100000 ≤ n) (h1 : n ≤ 100000) :
    Calls Tryz.prog 69 #[.agg #[.bool (Nm.wn x), .slice a (Nm.wl x).length cap], .int .i64 n] w fun e w' => ∃ y : Int, ∃ a' c', e = .returned (.agg #[.bool (Nm.wn y), .slice a' (Nm.wl y).length c']) ∧ bitLen y.natAbs ≤ k + n.toNat ∧ Own w' w.heap.size a' c' (Nm.wl y) ∧ Below w.heap.size w w' := by
  refine (l1shift_any (Nm.wn x) a cap (Nm.wl x) n w hx (Nm.wl_dg x) (by have := wl_k (x := x) (k := 2000) (by omega); omega) (by omega) (by omega) _ rfl).mono ?_
  rintro e w' ⟨a', c', h1, h2, h3⟩
  exact ⟨_, a', c', h1, bl_shift hk, h2, h3⟩
theorem add_x (x y : Int) (a b : Option Addr) (cap cap' : Nat) (w : World) (hx : Sl .u32 w (.slice a (Nm.wl x).length cap) (Nm.wl x)) (hy : Sl .u32 w (.slice b (Nm.wl y).length cap') (Nm.wl y)) (k : Nat) (hk : bitLen x.natAbs ≤ k) (hk' : bitLen y.natAbs ≤ k) (hk2 : k ≤ 60000) :
    Calls Tryz.prog 68 #[.agg #[.bool (Nm.wn x), .slice a (Nm.wl x).length cap], .agg #[.bool (Nm.wn y), .slice b (Nm.wl y).length cap']] w fun e w' => ∃ z : Int, ∃ a' c', e = .returned (.agg #[.bool (Nm.wn z), .slice a' (Nm.wl z).length c']) ∧ bitLen z.natAbs ≤ k + 1 ∧ Own w' w.heap.size a' c' (Nm.wl z) ∧ Below w.heap.size w w' := by
  refine (l1add_any (Nm.wn x) (Nm.wn y) a b cap cap' (Nm.wl x) (Nm.wl y) w hx hy (Nm.wl_dg x) (Nm.wl_dg y) (Nm.wl_nz x) (Nm.wl_nz y) (by have := wl_k (x := x) (k := 2000) (by omega); omega) (by have := wl_k (x := y) (k := 2000) (by omega); omega) (x + y) (by rw [Nm.wv_out, Nm.wv_out])).mono ?_
  rintro e w' ⟨a', c', h1, h2, h3⟩
  exact ⟨_, a', c', h1, bl_add hk hk', h2, h3⟩
theorem of_x (n : Int) (w : World) (h0 : -1000000 ≤ n) (h1 : n ≤ 1000000) :
    Calls Tryz.prog 70 #[.int .i64 n] w fun e w' => ∃ z : Int, ∃ a' c', e = .returned (.agg #[.bool (Nm.wn z), .slice a' (Nm.wl z).length c']) ∧ bitLen z.natAbs ≤ 20 ∧ Own w' w.heap.size a' c' (Nm.wl z) ∧ Below w.heap.size w w' := by
  refine (wof_spec n w (by omega) (by omega)).mono ?_
  rintro e w' ⟨a', c', h2, h3, h4⟩
  exact ⟨n, a', c', h2, bl_small h0 h1, h3, h4⟩
theorem unit_x (fm x : Int) (w : World) (hf : finB fm x = true) (x0 : 0 ≤ x) (x1 : x < 18446744073709551616) :
    Calls Tryz.prog 72 #[.int .i64 fm, .int .u64 x] w fun e w' => ∃ z : Int, ∃ a' c', e = .returned (.agg #[.bool (Nm.wn z), .slice a' (Nm.wl z).length c']) ∧ bitLen z.natAbs ≤ 2200 ∧ Own w' w.heap.size a' c' (Nm.wl z) ∧ Below w.heap.size w w' := by
  refine (l2units_any fm x w hf x0 x1).mono ?_
  rintro e w' ⟨a', c', h2, h3, h4⟩
  exact ⟨unI fm x, a', c', h2, un_bl fm x, h3, h4⟩
theorem finite_x (fm : Int) (hf : fmtB fm = true) (rb : Nat) (ca : Option Addr) (cc : Nat) (cs : List Int) (w : World) (hr : RD w rb ca cc cs) :
    Calls Tryz.prog 149 #[.pointer (some ⟨rb, 0, none⟩), .int .i64 fm] w fun e w' => ∃ x : Int, e = .returned (.int .u64 x) ∧ 0 ≤ x ∧ x < 18446744073709551616 ∧ finB fm x = true ∧ RD w' rb ca cc cs ∧ w.grownBy w' (some rb) := by
  rcases fmt_cases hf with rfl | rfl
  · exact (finiteF32 rb ca cc cs w hr).mono fun _ _ ⟨x, h1, h2, h3, h4⟩ => ⟨x, h1, h2.1, by have := h2.2.1; omega, h2.2.2, h3, h4⟩
  · exact (finiteF64 rb ca cc cs w hr).mono fun _ _ ⟨x, h1, h2, h3, h4⟩ => ⟨x, h1, h2.1, h2.2.1, h2.2.2, h3, h4⟩
theorem inf_x (fm : Int) (hf : fmtB fm = true) (w : World) :
    Calls Tryz.prog 124 #[.int .i64 fm] w fun e w' => e = .returned (.int .u64 (infOf fm)) ∧ Below w.heap.size w w' := by
  rcases fmt_cases hf with rfl | rfl
  · exact spec_inf32 w
  · exact spec_inf64 w
theorem p_x (fm : Int) (hf : fmtB fm = true) (w : World) :
    Calls Tryz.prog 76 #[.int .i64 fm] w fun e w' => ∃ p : Int, e = .returned (.int .i64 p) ∧ 24 ≤ p ∧ p ≤ 53 ∧ Below w.heap.size w w' := by
  rcases fmt_cases hf with rfl | rfl
  · exact (spec_P32 w).mono fun _ _ ⟨h1, h2⟩ => ⟨_, h1, by decide, by decide, h2⟩
  · exact (spec_P64 w).mono fun _ _ ⟨h1, h2⟩ => ⟨_, h1, by decide, by decide, h2⟩
theorem fin_mod {fm u : Int} (hf : fmtB fm = true) (h0 : 0 ≤ u) : 0 ≤ u.tmod (infOf fm) ∧ u.tmod (infOf fm) < 18446744073709551616 ∧ finB fm (u.tmod (infOf fm)) = true := by
  rcases fmt_cases hf with rfl | rfl
  · have h := sgn_fin32 (u.tmod 2139095040) false (tmX32 h0)
    have e : sgn 2147483648 (u.tmod 2139095040) false = u.tmod 2139095040 := rfl
    rw [e] at h
    exact ⟨h.1, by have := h.2.1; show u.tmod 2139095040 < _; omega, h.2.2⟩
  · have h := sgn_fin64 (u.tmod 9218868437227405312) false (tmX64 h0)
    have e : sgn 9223372036854775808 (u.tmod 9218868437227405312) false = u.tmod 9218868437227405312 := rfl
    rw [e] at h
    exact ⟨h.1, h.2.1, h.2.2⟩
theorem up_bounds {fm x : Int} (x0 : 0 ≤ x) (x1 : x < 18446744073709551616) : 0 ≤ upF fm x ∧ upF fm x < 18446744073709551616 := by
  cases hok : okF fm x
  · rw [up_no hok]; omega
  · exact (up_ok hok x0 x1).2
theorem great_x (fm : Int) (hf : fmtB fm = true) (ng : Bool) (w : World) :
    Calls Tryz.prog 73 #[.int .i64 fm, .bool ng] w fun e w' => ∃ x : Int, e = .returned (.int .u64 x) ∧ 0 ≤ x ∧ x < 18446744073709551616 ∧ finB fm x = true ∧ Below w.heap.size w w' := by
  rcases fmt_cases hf with rfl | rfl
  · refine (spec_Greatest32 ng w).mono fun _ _ ⟨h1, h2⟩ => ⟨_, h1, ?_, ?_, ?_, h2⟩ <;> cases ng <;> decide +kernel
  · refine (spec_Greatest64 ng w).mono fun _ _ ⟨h1, h2⟩ => ⟨_, h1, ?_, ?_, ?_, h2⟩ <;> cases ng <;> decide +kernel
theorem bits_x (x : Int) (a : Option Addr) (cap : Nat) (w : World) (hx : Sl .u32 w (.slice a (Nm.wl x).length cap) (Nm.wl x)) (k : Nat) (hk : bitLen x.natAbs ≤ k) (hk2 : k ≤ 60000) :
    Calls Tryz.prog 75 #[.agg #[.bool (Nm.wn x), .slice a (Nm.wl x).length cap]] w fun e w' => ∃ n : Int, e = .returned (.int .i64 n) ∧ 0 ≤ n ∧ n ≤ k ∧ Below w.heap.size w w' := by
  refine (l1Bits_any (Nm.wn x) a cap (Nm.wl x) w hx (Nm.wl_dg x) (by have := wl_k (x := x) (k := 2000) (by omega); omega)).mono ?_
  rintro e w' ⟨h1, h2⟩
  have e1 : blL (Nm.wl x) = (bitLen x.natAbs : Int) := by unfold Nm.wl; exact blL_lim _
  rw [e1] at h1
  exact ⟨_, h1, by omega, by omega, h2⟩
end Fd
end Go.Proofs.YtbhfbaogmkgmiaaGreatDoor
