/-
  Drawn pairs for products; wides that are the same; codes that are too long.
-/
import Derived.Test.YtlifpkdmcpjhpaaDrawD
namespace Go.Proofs.Ytlifpkdmcpjhpaa
set_option linter.unusedVariables false
set_option linter.unusedSimpArgs false
open Go.RowKit Go.Deep
set_option maxHeartbeats 800000 in
theorem drawMul_any (ca : Option Addr) (cc : Nat) (cs : List Int) (w : World) (hs : Sl .u8 w (.slice ca cs.length cc) cs) (hby : ∀ i, 0 ≤ cs.getD i 0 ∧ cs.getD i 0 ≤ 255) (hl : cs.length ≤ 1048576) :
    Calls Try.prog 27 #[.slice ca cs.length cc] w fun e w' => ∃ (na nb : Bool) (xs ys : List Int) (a b : Option Addr) (c d : Nat), e = .returned (.tuple #[.agg #[.bool na, .slice a xs.length c], .agg #[.bool nb, .slice b ys.length d]]) ∧ xs.length ≤ 2000 ∧ ys.length ≤ 2000 ∧ Nm.Dg xs ∧ Nm.Dg ys ∧ Own w' w.heap.size a c xs ∧ Own w' w.heap.size b d ys ∧ Below w.heap.size w w' := by
  have Z1 := (R2.new w (.bool false) (.slice none 0 0) 26).alloc (.cells #[.bool false, .slice none 0 0] 26)
  have Z2 := R2.new2 w (.cells #[.bool false, .slice none 0 0] 26) (.bool false) (.slice none 0 0) 26
  have hsV := (hs.alloc (.cells #[.bool false, .slice none 0 0] 26)).alloc (.cells #[.bool false, .slice none 0 0] 26)
  go_enter Try.func27, Try.ntmps27
  go_wp2_with fail
  refine (drawAdd_any ca cc cs _ hsV hby hl).mono ?_
  rintro e w1 ⟨na, nb, xs, ys, a, b, c, d, rfl, l1, l2, d1, d2, o1, o2, hb⟩
  obtain ⟨p0, p1, p2, p3⟩ := Z1.below hb
  obtain ⟨q0, q1, q2, q3⟩ := Z2.below hb
  have o1 : Own w1 (w.heap.size + 1 + 1) a c xs := by simpa using o1
  have o2 : Own w1 (w.heap.size + 1 + 1) b d ys := by simpa using o2
  go_wp2
  refine bodyPost_ret (v := .tuple #[.agg #[.bool na, .slice a xs.length c], .agg #[.bool nb, .slice b ys.length d]]) (by simp [results, Try.results27, go_sem, p0, p1, q0, q1]) rfl ⟨na, nb, xs, ys, a, b, c, d, rfl, l1, l2, d1, d2, ?_, ?_, (by repeat (first | exact Below.refl _ _ | refine Below.drew ?_ | refine bel_dn ?_ _ | refine bel_al ?_ _ | refine bel_go ?_ hb | refine Below.setCell ?_ (by first | omega | (simp; done) | (simp; omega)) _ | refine Below.alloc ?_ (by first | omega | (simp; done) | (simp; omega)) _ | refine Below.trans ?_ (Below.mono hb (by first | omega | (simp; done) | (simp; omega)))))⟩
  · exact ((((o1.setBelow (by simp <;> omega) _).setBelow (by simp <;> omega) _).setBelow (by simp <;> omega) _).setBelow (by simp <;> omega) _).base (by omega)
  · exact ((((o2.setBelow (by simp <;> omega) _).setBelow (by simp <;> omega) _).setBelow (by simp <;> omega) _).setBelow (by simp <;> omega) _).base (by omega)
set_option maxHeartbeats 400000 in
theorem big_any (ca : Option Addr) (n cc : Nat) (w : World) (hn : n ≤ 9223372036854775807) (b : Bool) (hb : b = decide (1048576 < n)) :
    Calls Try.prog 20 #[.slice ca n cc] w fun e w' => e = .returned (.bool b) ∧ w' = w := by
  by_cases h : 1048576 < n
  · have HB : Hid (b = true) := hid (by rw [hb]; simpa using h)
    clear hb
    go_enter Try.func20, Try.ntmps20
    go_wp2
    go_ret
    refine ⟨ret_bool ?_, rfl⟩
    rw [HB.out]
    first | rfl | (simp; omega)
  · have HB : Hid (b = false) := hid (by rw [hb]; simpa using h)
    clear hb
    go_enter Try.func20, Try.ntmps20
    go_wp2
    go_ret
    refine ⟨ret_bool ?_, rfl⟩
    rw [HB.out]
    first | rfl | (simp; omega)
set_option maxRecDepth 10000 in
set_option maxHeartbeats 1600000 in
theorem same_yes (n : Bool) (a b : Option Addr) (cap cap' : Nat) (xs : List Int) (w : World) (hx : Sl .u32 w (.slice a xs.length cap) xs) (hy : Sl .u32 w (.slice b xs.length cap') xs) (hl : xs.length ≤ 1048576) :
    Calls Try.prog 24 #[.agg #[.bool n, .slice a xs.length cap], .agg #[.bool n, .slice b xs.length cap']] w fun e w' => e = .returned (.bool true) ∧ Below w.heap.size w w' := by
  have hbe : (n == n) = true := by simp
  have hle : ((xs.length : Int) != (xs.length : Int)) = false := by simp
  have Bx := (Box.new w (.bool n) (.slice a xs.length cap) 26).alloc (.cells #[.bool n, .slice b xs.length cap'] 26)
  have By := Box.new2 w (.cells #[.bool n, .slice a xs.length cap] 26) (.bool n) (.slice b xs.length cap') 26
  have sx := (hx.alloc (.cells #[.bool n, .slice a xs.length cap] 26)).alloc (.cells #[.bool n, .slice b xs.length cap'] 26)
  have sy := (hy.alloc (.cells #[.bool n, .slice a xs.length cap] 26)).alloc (.cells #[.bool n, .slice b xs.length cap'] 26)
  have hbV : Below w.heap.size w ((w.alloc (.cells #[.bool n, .slice a xs.length cap] 26)).alloc (.cells #[.bool n, .slice b xs.length cap'] 26)) := (by repeat (first | exact Below.refl _ _ | refine Below.drew ?_ | refine bel_dn ?_ _ | refine bel_al ?_ _ | refine Below.setCell ?_ (by first | omega | (simp; done) | (simp; omega)) _ | refine Below.alloc ?_ (by first | omega | (simp; done) | (simp; omega)) _))
  go_enter Try.func24, Try.ntmps24
  go_wp2_with fail
  generalize (w.alloc (.cells #[.bool n, .slice a xs.length cap] 26)).alloc (.cells #[.bool n, .slice b xs.length cap'] 26) = V at Bx By sx sy hbV ⊢
  go_loopw [5] (fun iv wr => ∃ i : Nat, i ≤ xs.length ∧ iv = .int .i64 i ∧ Below V.heap.size V wr) (fun iv _ => xs.length - (intOf iv).toNat)
  case atStart => exact ⟨0, Nat.zero_le _, rfl, Below.refl _ _⟩
  case round =>
    obtain ⟨i, hi, rfl, hb⟩ := hrel
    obtain ⟨x0, x1⟩ := Bx.below hb
    obtain ⟨y0, y1⟩ := By.below hb
    by_cases hlt : i < xs.length
    · obtain ⟨-, _, _, h3⟩ := (sx.below hb).cells
      obtain ⟨-, _, _, h4⟩ := (sy.below hb).cells
      obtain ⟨ba, oa, rfl, ha⟩ := h3 (by omega)
      obtain ⟨bb, ob, rfl, hbb⟩ := h4 (by omega)
      have ca := ha i hlt
      have cb := hbb i hlt
      obtain ⟨z, hz⟩ : ∃ z, z = xs.getD i 0 := ⟨_, rfl⟩
      rw [← hz] at ca cb
      clear h3 h4 ha hbb hz
      have hzz : (z != z) = false := by simp
      have k0 : (0 : Int) ≤ (i : Int) := by omega
      have k1 : (i : Int) < (xs.length : Int) := by omega
      have kd : wr.drew.cell? ⟨w.heap.size, 1, none⟩ = some (.slice (some ⟨ba, oa, none⟩) xs.length cap) ∧ wr.drew.cell? ⟨ba, oa + i, none⟩ = some (.int .u32 z) ∧ wr.drew.cell? ⟨w.heap.size + 1, 1, none⟩ = some (.slice (some ⟨bb, ob, none⟩) xs.length cap') ∧ wr.drew.cell? ⟨bb, ob + i, none⟩ = some (.int .u32 z) := ⟨x1, ca, y1, cb⟩
      go_wp2_with fail
      go_region_held3 (fun w' => w'.cell? ⟨w.heap.size, 1, none⟩ = some (.slice (some ⟨ba, oa, none⟩) xs.length cap) ∧ w'.cell? ⟨ba, oa + i, none⟩ = some (.int .u32 z) ∧ w'.cell? ⟨w.heap.size + 1, 1, none⟩ = some (.slice (some ⟨bb, ob, none⟩) xs.length cap') ∧ w'.cell? ⟨bb, ob + i, none⟩ = some (.int .u32 z)) (with_reducible assumption) (fail)
      go_wp2
      go_roundw
      case rel => exact ⟨i + 1, by omega, by go_num, hb.drew⟩
      case measure => simp [intOf]; omega
    · obtain rfl : i = xs.length := by omega
      go_wp2
      go_ret
      exact ⟨rfl, bel_go hbV hb⟩
end Go.Proofs.Ytlifpkdmcpjhpaa
