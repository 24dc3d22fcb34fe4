/-
  Formats that are drawn.
-/
import Derived.Test.YtojcaoccjapdoaaDoorDrawA
import Derived.Test.YtojcaoccjapdoaaDoorG25
import Derived.Test.YtojcaoccjapdoaaDoorG23
import Derived.Test.YtojcaoccjapdoaaDoorG17
import Derived.Deep.RegionHeld3
import Derived.Deep.DrawnRows
namespace Go.Proofs.YtojcaoccjapdoaaDoor
set_option linter.unusedVariables false
set_option linter.unusedSimpArgs false
open Go.RowKit Go.Deep
namespace Fd
set_option maxHeartbeats 400000 in
theorem big_any (ca : Option Addr) (n cc : Nat) (w : World) (hn : n ≤ 9223372036854775807) (b : Bool) (hb : b = decide (1048576 < n)) :
    Calls Tryd.prog 10 #[.slice ca n cc] w fun e w' => e = .returned (.bool b) ∧ w' = w := by
  by_cases h : 1048576 < n
  · have HB : Hid (b = true) := hid (by rw [hb]; simpa using h)
    clear hb
    go_enter Tryd.func10, Tryd.ntmps10
    go_wp2
    go_ret
    refine ⟨ret_bool ?_, rfl⟩
    rw [HB.out]
    first | rfl | (simp; omega)
  · have HB : Hid (b = false) := hid (by rw [hb]; simpa using h)
    clear hb
    go_enter Tryd.func10, Tryd.ntmps10
    go_wp2
    go_ret
    refine ⟨ret_bool ?_, rfl⟩
    rw [HB.out]
    first | rfl | (simp; omega)
set_option maxRecDepth 10000 in
set_option maxHeartbeats 1600000 in
theorem same_yes (n : Bool) (a b : Option Addr) (cap cap' : Nat) (xs : List Int) (w : World) (hx : Sl .u32 w (.slice a xs.length cap) xs) (hy : Sl .u32 w (.slice b xs.length cap') xs) (hl : xs.length ≤ 1048576) :
    Calls Tryd.prog 18 #[.agg #[.bool n, .slice a xs.length cap], .agg #[.bool n, .slice b xs.length cap']] w fun e w' => e = .returned (.bool true) ∧ Below w.heap.size w w' := by
  have hbe : (n == n) = true := by simp
  have hle : ((xs.length : Int) != (xs.length : Int)) = false := by simp
  have Bx := (Box.new w (.bool n) (.slice a xs.length cap) 31).alloc (.cells #[.bool n, .slice b xs.length cap'] 31)
  have By := Box.new2 w (.cells #[.bool n, .slice a xs.length cap] 31) (.bool n) (.slice b xs.length cap') 31
  have sx := (hx.alloc (.cells #[.bool n, .slice a xs.length cap] 31)).alloc (.cells #[.bool n, .slice b xs.length cap'] 31)
  have sy := (hy.alloc (.cells #[.bool n, .slice a xs.length cap] 31)).alloc (.cells #[.bool n, .slice b xs.length cap'] 31)
  have hbV : Below w.heap.size w ((w.alloc (.cells #[.bool n, .slice a xs.length cap] 31)).alloc (.cells #[.bool n, .slice b xs.length cap'] 31)) := (by repeat (first | exact Below.refl _ _ | refine Below.drew ?_ | refine bel_dn ?_ _ | refine bel_al ?_ _ | refine Below.setCell ?_ (by first | omega | (simp; done) | (simp; omega)) _ | refine Below.alloc ?_ (by first | omega | (simp; done) | (simp; omega)) _))
  go_enter Tryd.func18, Tryd.ntmps18
  go_wp2_with fail
  generalize (w.alloc (.cells #[.bool n, .slice a xs.length cap] 31)).alloc (.cells #[.bool n, .slice b xs.length cap'] 31) = V at Bx By sx sy hbV ⊢
  go_loopw [5] (fun iv wr => ∃ i : Nat, i ≤ xs.length ∧ iv = .int .i64 i ∧ Below V.heap.size V wr) (fun iv _ => xs.length - (intOf iv).toNat)
  case atStart => exact ⟨0, Nat.zero_le _, rfl, Below.refl _ _⟩
  case round =>
    obtain ⟨i, hi, rfl, hb⟩ := hrel
    obtain ⟨x0, x1⟩ := Bx.below hb
    obtain ⟨y0, y1⟩ := By.below hb
    by_cases hlt : i < xs.length
    · obtain ⟨-, _, _, h3⟩ := (sx.below hb).cells
      obtain ⟨-, _, _, h4⟩ := (sy.below hb).cells
      obtain ⟨ba, oa, rfl, ha⟩ := h3 (by omega)
      obtain ⟨bb, ob, rfl, hbb⟩ := h4 (by omega)
      have ca := ha i hlt
      have cb := hbb i hlt
      obtain ⟨z, hz⟩ : ∃ z, z = xs.getD i 0 := ⟨_, rfl⟩
      rw [← hz] at ca cb
      clear h3 h4 ha hbb hz
      have hzz : (z != z) = false := by simp
      have k0 : (0 : Int) ≤ (i : Int) := by omega
      have k1 : (i : Int) < (xs.length : Int) := by omega
      have kd : wr.drew.cell? ⟨w.heap.size, 1, none⟩ = some (.slice (some ⟨ba, oa, none⟩) xs.length cap) ∧ wr.drew.cell? ⟨ba, oa + i, none⟩ = some (.int .u32 z) ∧ wr.drew.cell? ⟨w.heap.size + 1, 1, none⟩ = some (.slice (some ⟨bb, ob, none⟩) xs.length cap') ∧ wr.drew.cell? ⟨bb, ob + i, none⟩ = some (.int .u32 z) := ⟨x1, ca, y1, cb⟩
      go_wp2_with fail
      go_region_held3 (fun w' => w'.cell? ⟨w.heap.size, 1, none⟩ = some (.slice (some ⟨ba, oa, none⟩) xs.length cap) ∧ w'.cell? ⟨ba, oa + i, none⟩ = some (.int .u32 z) ∧ w'.cell? ⟨w.heap.size + 1, 1, none⟩ = some (.slice (some ⟨bb, ob, none⟩) xs.length cap') ∧ w'.cell? ⟨bb, ob + i, none⟩ = some (.int .u32 z)) (with_reducible assumption) (fail)
      go_wp2
      go_roundw
      case rel => exact ⟨i + 1, by omega, by go_num, hb.drew⟩
      case measure => simp [intOf]; omega
    · obtain rfl : i = xs.length := by omega
      go_wp2
      go_ret
      exact ⟨rfl, bel_go hbV hb⟩
theorem bel_rd {w W w' : World} {rb : Nat} (h : Below w.heap.size w W) (hg : W.grownBy w' (some rb)) (hr : w.heap.size ≤ rb) : Below w.heap.size w w' := h.grown hg h.size (fun k hk => by cases hk; exact hr)
theorem format_any (rb : Nat) (ca : Option Addr) (cc : Nat) (cs : List Int) (w : World) (hr : RD w rb ca cc cs) :
    Calls Tryd.prog 87 #[.pointer (some ⟨rb, 0, none⟩)] w fun e w' => ∃ fm : Int, e = .returned (.int .i64 fm) ∧ fmtB fm = true ∧ RD w' rb ca cc cs ∧ w.grownBy w' (some rb) := by
  go_enter Tryd.func87, Tryd.ntmps87
  go_wp2_with fail
  refine (once_any rb ca cc cs 2 _ hr (by decide) (by decide)).mono ?_
  rintro e w1 ⟨v, rfl, hr1, hg1⟩
  cases v
  · go_wp2
    go_ret
    exact ⟨64, rfl, by decide, hr1, hg1⟩
  · go_wp2
    go_ret
    exact ⟨32, rfl, by decide, hr1, hg1⟩
theorem drawNan_any (ca : Option Addr) (cc : Nat) (cs : List Int) (w : World) (hs : Sl .u8 w (.slice ca cs.length cc) cs) (hby : ∀ i, 0 ≤ cs.getD i 0 ∧ cs.getD i 0 ≤ 255) (hl : cs.length ≤ 1048576) :
    Calls Tryd.prog 53 #[.slice ca cs.length cc] w fun e w' => ∃ fm : Int, e = .returned (.int .i64 fm) ∧ Below w.heap.size w w' := by
  go_enter Tryd.func53, Tryd.ntmps53
  go_wp2_with fail
  refine (open_any ca cc cs _ hs hby hl).mono ?_
  rintro e w1 ⟨rfl, hr1, hb1⟩
  go_wp2_with fail
  refine (once_any w.heap.size ca cc cs 4 _ hr1 (by decide) (by decide)).mono ?_
  rintro e w2 ⟨v, rfl, hr2, hg2⟩
  have hb2 := bel_rd hb1 hg2 (Nat.le_refl _)
  cases v
  · go_wp2_with fail
    refine (format_any w.heap.size ca cc cs _ hr2).mono ?_
    rintro e w3 ⟨fm, rfl, hf, hr3, hg3⟩
    go_wp2
    go_ret
    exact ⟨_, rfl, bel_rd hb2 hg3 (Nat.le_refl _)⟩
  · go_wp2_with fail
    refine (below_any w.heap.size ca cc cs 100 _ hr2 (by decide) (by decide)).mono ?_
    rintro e w3 ⟨u, rfl, u0, u1, hr3, hg3⟩
    go_wp2
    go_ret
    exact ⟨_, rfl, bel_rd hb2 hg3 (Nat.le_refl _)⟩
theorem drawInf_any (ca : Option Addr) (cc : Nat) (cs : List Int) (w : World) (hs : Sl .u8 w (.slice ca cs.length cc) cs) (hby : ∀ i, 0 ≤ cs.getD i 0 ∧ cs.getD i 0 ≤ 255) (hl : cs.length ≤ 1048576) :
    Calls Tryd.prog 11 #[.slice ca cs.length cc] w fun e w' => ∃ (fm : Int) (ng : Bool), e = .returned (.tuple #[.int .i64 fm, .bool ng]) ∧ Below w.heap.size w w' := by
  go_enter Tryd.func11, Tryd.ntmps11
  go_wp2_with fail
  refine (drawNan_any ca cc cs _ hs hby hl).mono ?_
  rintro e w1 ⟨fm, rfl, hb1⟩
  go_wp2
  go_ret2
  exact ⟨_, _, rfl, hb1⟩
end Fd
end Go.Proofs.YtojcaoccjapdoaaDoor
