/-
  Drawn numbers, and drawn wides that are near the ends of 64 bits.
-/
import Derived.Test.YtlifpkdmcpjhpaaDrawE
namespace Go.Proofs.Ytlifpkdmcpjhpaa
set_option linter.unusedVariables false
set_option linter.unusedSimpArgs false
open Go.RowKit Go.Deep
theorem eight_cell {t : TypeId} (w : World) {w' : World} {rb : Nat} (hg : (w.alloc (.cells #[.int .i64 0, .int .i64 1, .int .i64 (-1), .int .i64 (-9223372036854775808), .int .i64 9223372036854775807, .int .i64 4294967296, .int .i64 (-4294967296), .int .i64 4294967295] t)).grownBy w' (some rb)) (hne : w.heap.size ≠ rb) (k : Nat) (hk : k < 8) :
    ∃ d : Int, w'.cell? ⟨w.heap.size, k, none⟩ = some (.int .i64 d) ∧ -9223372036854775808 ≤ d ∧ d ≤ 9223372036854775807 := by
  have e := hg.block w.heap.size (by simp) (by simpa using hne)
  have h : ∀ j, w'.cell? ⟨w.heap.size, j, none⟩ = (#[.int .i64 0, .int .i64 1, .int .i64 (-1), .int .i64 (-9223372036854775808), .int .i64 9223372036854775807, .int .i64 4294967296, .int .i64 (-4294967296), .int .i64 4294967295] : Array Value)[j]? := fun j => by
    rw [World.cell?_of_block (a := ⟨w.heap.size, j, none⟩) e]
    exact World.cell?_alloc_new w _ _ j
  rw [h k]
  rcases (show k = 0 ∨ k = 1 ∨ k = 2 ∨ k = 3 ∨ k = 4 ∨ k = 5 ∨ k = 6 ∨ k = 7 by omega) with rfl | rfl | rfl | rfl | rfl | rfl | rfl | rfl
  · exact ⟨0, rfl, by omega, by omega⟩
  · exact ⟨1, rfl, by omega, by omega⟩
  · exact ⟨-1, rfl, by omega, by omega⟩
  · exact ⟨-9223372036854775808, rfl, by omega, by omega⟩
  · exact ⟨9223372036854775807, rfl, by omega, by omega⟩
  · exact ⟨4294967296, rfl, by omega, by omega⟩
  · exact ⟨-4294967296, rfl, by omega, by omega⟩
  · exact ⟨4294967295, rfl, by omega, by omega⟩
theorem bel_rd {w W w' : World} {rb : Nat} (h : Below w.heap.size w W) (hg : W.grownBy w' (some rb)) (hr : w.heap.size ≤ rb) : Below w.heap.size w w' := h.grown hg h.size (fun k hk => by cases hk; exact hr)
theorem i64_rng (t : Int) : -9223372036854775808 ≤ IntKind.i64.wrap t ∧ IntKind.i64.wrap t ≤ 9223372036854775807 := by rw [IntKind.wrap_i64]; omega
theorem w64_rng (t : Int) : -9223372036854775808 ≤ wrap64 t ∧ wrap64 t ≤ 9223372036854775807 := by unfold wrap64; omega
set_option maxHeartbeats 1000000 in
theorem drawOf_any (ca : Option Addr) (cc : Nat) (cs : List Int) (w : World) (hs : Sl .u8 w (.slice ca cs.length cc) cs) (hby : ∀ i, 0 ≤ cs.getD i 0 ∧ cs.getD i 0 ≤ 255) (hl : cs.length ≤ 1048576) :
    Calls Try.prog 46 #[.slice ca cs.length cc] w fun e w' => ∃ n : Int, e = .returned (.int .i64 n) ∧ -9223372036854775808 ≤ n ∧ n ≤ 9223372036854775807 ∧ Below w.heap.size w w' := by
  go_enter Try.func46, Try.ntmps46
  go_wp2_with fail
  refine (open_any ca cc cs _ hs hby hl).mono ?_
  rintro e w1 ⟨rfl, hr1, hb1⟩
  have l1 := hr1.lt
  go_wp2_with fail
  refine (below_any w.heap.size ca cc cs 4 _ hr1 (by decide) (by decide)).mono ?_
  rintro e w2 ⟨v, rfl, v0, v1, hr2, hg2⟩
  have hb2 := bel_rd hb1 hg2 (Nat.le_refl _)
  have l2 : w1.heap.size ≤ w2.heap.size := hg2.size
  rcases (show v = 0 ∨ v = 1 ∨ 1 < v by omega) with rfl | rfl | hv
  · go_wp2_with fail
    refine (below_any w.heap.size ca cc cs 8 _ (hr2.alloc _) (by decide) (by decide)).mono ?_
    rintro e w3 ⟨kz, rfl, k0, k1, hr3, hg3⟩
    obtain ⟨k, rfl⟩ := Int.eq_ofNat_of_zero_le k0
    obtain ⟨d, hd, d0, d1⟩ := eight_cell w2 hg3 (by omega) k (by omega)
    have hb3 := bel_rd (bel_al hb2 _) hg3 (Nat.le_refl _)
    go_wp2
    go_ret
    exact ⟨d, rfl, d0, d1, hb3⟩
  · go_wp2_with fail
    refine (word_any w.heap.size ca cc cs _ hr2).mono ?_
    rintro e w3 ⟨u, rfl, u0, u1, hr3, hg3⟩
    have hb3 := bel_rd hb2 hg3 (Nat.le_refl _)
    go_wp2
    go_ret
    first
      | exact ⟨_, rfl, (i64_rng u).1, (i64_rng u).2, hb3⟩
      | exact ⟨_, rfl, (w64_rng u).1, (w64_rng u).2, hb3⟩
  · have e0 : (v == 0) = false := by simp; omega
    have e1 : (v == 1) = false := by simp; omega
    go_wp2_with fail
    refine (below_any w.heap.size ca cc cs 2000 _ hr2 (by decide) (by decide)).mono ?_
    rintro e w3 ⟨u, rfl, u0, u1, hr3, hg3⟩
    have hb3 := bel_rd hb2 hg3 (Nat.le_refl _)
    go_wp2
    go_ret
    exact ⟨u - 1000, rfl, by omega, by omega, hb3⟩
set_option maxHeartbeats 1000000 in
theorem l1uint_any (m : Int) (ng : Bool) (w : World) (h0 : 0 ≤ m) (h1 : m < 18446744073709551616) (x : Int) (hx : x = if ng then -m else m) :
    Calls Try.prog 87 #[.int .u64 m, .bool ng] w fun e w' => ∃ a' c', e = .returned (.agg #[.bool (Nm.wn x), .slice a' (Nm.wl x).length c']) ∧ Own w' w.heap.size a' c' (Nm.wl x) ∧ Below w.heap.size w w' := by
  have HV : Hid (x = Nm.wv ng (two m)) := hid (by rw [two_wv ng h0]; exact hx)
  have HD := hid (two_dg h0 h1)
  clear hx
  go_enter Try.func87, Try.ntmps87
  go_wp2_with fail
  refine (made_v ng _ 2 (two m) _ (by refine Own.sl (own_two (B := 0) ?_ ?_ _ _) <;> simp) HD.out (by simp [two]) x HV.out).mono ?_
  rintro e w1 ⟨a', c', rfl, ho, hb⟩
  have r := (R2.new w (.bool false) (.slice none 0 0) 26).alloc (.cells #[.int .u32 (m % 4294967296), .int .u32 (m / 4294967296)] 68)
  obtain ⟨rc0, rc1, rf0, rf1⟩ := r.below hb
  have ho : Own w1 (w.heap.size + 1 + 1) a' c' (Nm.wl x) := by simpa using ho
  go_wp2
  refine bodyPost_ret (v := .agg #[.bool (Nm.wn x), .slice a' (Nm.wl x).length c']) (by simp [results, Try.results87, go_sem, rc0, rc1]) rfl ⟨a', c', rfl, ?_, (by repeat (first | exact Below.refl _ _ | refine Below.drew ?_ | refine bel_dn ?_ _ | refine bel_al ?_ _ | refine bel_go ?_ hb | refine Below.setCell ?_ (by first | omega | (simp; done) | (simp; omega)) _ | refine Below.alloc ?_ (by first | omega | (simp; done) | (simp; omega)) _ | refine Below.trans ?_ (Below.mono hb (by first | omega | (simp; done) | (simp; omega)))))⟩
  exact Own.base ((ho.setBelow (by simp; omega) _).setBelow (by simp; omega) _) (by omega)
end Go.Proofs.Ytlifpkdmcpjhpaa
