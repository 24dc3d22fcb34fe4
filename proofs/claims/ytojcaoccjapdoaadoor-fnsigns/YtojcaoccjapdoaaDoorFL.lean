/-
  Floats that are drawn, with their formats.
-/
import Derived.Test.YtojcaoccjapdoaaDoorFH
namespace Go.Proofs.YtojcaoccjapdoaaDoor
set_option linter.unusedVariables false
set_option linter.unusedSimpArgs false
open Go.RowKit Go.Deep
namespace Fd
theorem float_any (fm : Int) (hf : fmtB fm = true) (rb : Nat) (ca : Option Addr) (cc : Nat) (cs : List Int) (w : World) (hr : RD w rb ca cc cs) :
    Calls Tryd.prog 78 #[.pointer (some ⟨rb, 0, none⟩), .int .i64 fm] w fun e w' => ∃ x : Int, e = .returned (.int .u64 x) ∧ 0 ≤ x ∧ x < 18446744073709551616 ∧ RD w' rb ca cc cs ∧ w.grownBy w' (some rb) := by
  rcases fmt_cases hf with rfl | rfl
  · exact float32 rb ca cc cs w hr
  · exact float64 rb ca cc cs w hr
set_option maxHeartbeats 4000000 in
set_option maxRecDepth 100000 in
theorem some_any (rb : Nat) (ca : Option Addr) (cc : Nat) (cs : List Int) (w : World) (hr : RD w rb ca cc cs) :
    Calls Tryd.prog 75 #[.pointer (some ⟨rb, 0, none⟩)] w fun e w' => ∃ fm x : Int, e = .returned (.tuple #[.int .i64 fm, .int .u64 x]) ∧ 0 ≤ x ∧ x < 18446744073709551616 ∧ RD w' rb ca cc cs ∧ w.grownBy w' (some rb) := by
  go_enter Tryd.func75, Tryd.ntmps75
  go_wp2_with fail
  refine (format_any rb ca cc cs _ hr).mono ?_
  rintro e w1 ⟨fm, rfl, hf, hr1, hg1⟩
  have CF := hid (fun w' h => float_any fm hf rb ca cc cs w' h)
  clear hf
  go_wp2_with fail
  refine (CF.out _ hr1).mono ?_
  rintro e w2 ⟨x, rfl, x0, x1, hr2, hg2⟩
  go_wp2_with fail
  refine (below_any rb ca cc cs 40 _ hr2 (by decide) (by decide)).mono ?_
  rintro e w3 ⟨v, rfl, v0, v1, hr3, hg3⟩
  have hg := grown_trans (grown_trans hg1 hg2) hg3
  rcases (show v = 0 ∨ v = 1 ∨ 1 < v by omega) with rfl | rfl | hv
  · go_wp2_with fail
    refine (below_any rb ca cc cs 100 _ hr3 (by decide) (by decide)).mono ?_
    rintro e w4 ⟨u, rfl, u0, u1, hr4, hg4⟩
    go_wp2
    go_ret2
    exact ⟨_, _, rfl, x0, x1, hr4, grown_trans hg hg4⟩
  · have lo := bits_lo_u64 .or x 4294967296
    have hi := bits_hi_u64 .or x 4294967296
    go_wp2
    go_ret2
    exact ⟨_, _, rfl, by omega, by omega, hr3, hg⟩
  · have e0 : (v == 0) = false := by simp; omega
    have e1 : (v == 1) = false := by simp; omega
    go_wp2
    go_ret2
    exact ⟨_, _, rfl, x0, x1, hr3, hg⟩
theorem drawOk_any (ca : Option Addr) (cc : Nat) (cs : List Int) (w : World) (hs : Sl .u8 w (.slice ca cs.length cc) cs) (hby : ∀ i, 0 ≤ cs.getD i 0 ∧ cs.getD i 0 ≤ 255) (hl : cs.length ≤ 1048576) :
    Calls Tryd.prog 64 #[.slice ca cs.length cc] w fun e w' => ∃ fm x : Int, e = .returned (.tuple #[.int .i64 fm, .int .u64 x]) ∧ 0 ≤ x ∧ x < 18446744073709551616 ∧ Below w.heap.size w w' := by
  go_enter Tryd.func64, Tryd.ntmps64
  go_wp2_with fail
  refine (open_any ca cc cs _ hs hby hl).mono ?_
  rintro e w1 ⟨rfl, hr1, hb1⟩
  go_wp2_with fail
  refine (some_any w.heap.size ca cc cs _ hr1).mono ?_
  rintro e w2 ⟨fm, x, rfl, x0, x1, hr2, hg2⟩
  go_wp2
  go_ret2
  exact ⟨_, _, rfl, x0, x1, bel_rd hb1 hg2 (Nat.le_refl _)⟩
theorem drawNegated_any (ca : Option Addr) (cc : Nat) (cs : List Int) (w : World) (hs : Sl .u8 w (.slice ca cs.length cc) cs) (hby : ∀ i, 0 ≤ cs.getD i 0 ∧ cs.getD i 0 ≤ 255) (hl : cs.length ≤ 1048576) :
    Calls Tryd.prog 24 #[.slice ca cs.length cc] w fun e w' => ∃ fm x : Int, e = .returned (.tuple #[.int .i64 fm, .int .u64 x]) ∧ 0 ≤ x ∧ x < 18446744073709551616 ∧ Below w.heap.size w w' := by
  go_enter Tryd.func24, Tryd.ntmps24
  go_wp2_with fail
  refine (drawOk_any ca cc cs _ hs hby hl).mono ?_
  rintro e w1 ⟨fm, x, rfl, x0, x1, hb1⟩
  go_wp2
  go_ret2
  exact ⟨_, _, rfl, x0, x1, hb1⟩
theorem drawNextUp_any (ca : Option Addr) (cc : Nat) (cs : List Int) (w : World) (hs : Sl .u8 w (.slice ca cs.length cc) cs) (hby : ∀ i, 0 ≤ cs.getD i 0 ∧ cs.getD i 0 ≤ 255) (hl : cs.length ≤ 1048576) :
    Calls Tryd.prog 32 #[.slice ca cs.length cc] w fun e w' => ∃ fm x : Int, e = .returned (.tuple #[.int .i64 fm, .int .u64 x]) ∧ 0 ≤ x ∧ x < 18446744073709551616 ∧ Below w.heap.size w w' := by
  go_enter Tryd.func32, Tryd.ntmps32
  go_wp2_with fail
  refine (drawOk_any ca cc cs _ hs hby hl).mono ?_
  rintro e w1 ⟨fm, x, rfl, x0, x1, hb1⟩
  go_wp2
  go_ret2
  exact ⟨_, _, rfl, x0, x1, hb1⟩
theorem drawPartsOf_any (ca : Option Addr) (cc : Nat) (cs : List Int) (w : World) (hs : Sl .u8 w (.slice ca cs.length cc) cs) (hby : ∀ i, 0 ≤ cs.getD i 0 ∧ cs.getD i 0 ≤ 255) (hl : cs.length ≤ 1048576) :
    Calls Tryd.prog 40 #[.slice ca cs.length cc] w fun e w' => ∃ fm x : Int, e = .returned (.tuple #[.int .i64 fm, .int .u64 x]) ∧ 0 ≤ x ∧ x < 18446744073709551616 ∧ Below w.heap.size w w' := by
  go_enter Tryd.func40, Tryd.ntmps40
  go_wp2_with fail
  refine (drawOk_any ca cc cs _ hs hby hl).mono ?_
  rintro e w1 ⟨fm, x, rfl, x0, x1, hb1⟩
  go_wp2
  go_ret2
  exact ⟨_, _, rfl, x0, x1, hb1⟩
end Fd
end Go.Proofs.YtojcaoccjapdoaaDoor
