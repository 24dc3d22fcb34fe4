/-
  Drawn wides that are near the ends of 64 bits.
-/
import Derived.Test.YtlifpkdmcpjhpaaDrawF
namespace Go.Proofs.Ytlifpkdmcpjhpaa
set_option linter.unusedVariables false
set_option linter.unusedSimpArgs false
open Go.RowKit Go.Deep
theorem wl_72 {n : Int} (h0 : -9223372036854775820 ≤ n) (h1 : n ≤ 9223372036854775820) : (Nm.wl n).length ≤ 200 := by
  have := fits_small (x := n) (by omega) (by omega)
  simpa [Nm.fits] using this
set_option maxRecDepth 10000 in
set_option maxHeartbeats 800000 in
theorem drawSmall_any (ca : Option Addr) (cc : Nat) (cs : List Int) (w : World) (hs : Sl .u8 w (.slice ca cs.length cc) cs) (hby : ∀ i, 0 ≤ cs.getD i 0 ∧ cs.getD i 0 ≤ 255) (hl : cs.length ≤ 1048576) :
    Calls Try.prog 47 #[.slice ca cs.length cc] w fun e w' => ∃ (na : Bool) (xs : List Int) (a : Option Addr) (c : Nat), e = .returned (.agg #[.bool na, .slice a xs.length c]) ∧ xs.length ≤ 2000 ∧ Nm.Dg xs ∧ Own w' w.heap.size a c xs ∧ Below w.heap.size w w' := by
  have Z1 := R2.new w (.bool false) (.slice none 0 0) 26
  have hsV := hs.alloc (.cells #[.bool false, .slice none 0 0] 26)
  have hzV : (w.alloc (.cells #[.bool false, .slice none 0 0] 26)).heap.size = w.heap.size + 1 := by simp
  have hbV : Below w.heap.size w (w.alloc (.cells #[.bool false, .slice none 0 0] 26)) := (by repeat (first | exact Below.refl _ _ | refine Below.drew ?_ | refine bel_dn ?_ _ | refine bel_al ?_ _ | refine Below.setCell ?_ (by first | omega | (simp; done) | (simp; omega)) _ | refine Below.alloc ?_ (by first | omega | (simp; done) | (simp; omega)) _))
  go_enter Try.func47, Try.ntmps47
  go_wp2_with fail
  generalize (w.alloc (.cells #[.bool false, .slice none 0 0] 26)) = V at Z1 hsV hzV hbV ⊢
  refine (open_any ca cc cs _ hsV hby hl).mono ?_
  rintro e w1 ⟨rfl, hr1, hb1⟩
  obtain ⟨rb, hrb⟩ : ∃ rb, rb = V.heap.size := ⟨_, rfl⟩
  rw [← hrb] at hr1
  have hr1l := hr1.lt
  replace Z1 := Z1.below hb1
  have hbw1 := bel_go hbV hb1
  have hz0 : w.heap.size < rb := by omega
  simp only [← hrb]
  clear hrb hzV hb1
  go_wp2_with fail
  refine (once_any rb ca cc cs 3 _ hr1 (by decide) (by decide)).mono ?_
  rintro e w2 ⟨bb, rfl, hr2, hg2⟩
  replace Z1 := Z1.rd hg2 (by omega)
  have l2 : w1.heap.size ≤ w2.heap.size := hg2.size
  have hbw2 : Below w.heap.size w w2 := hbw1.grown hg2 (by omega) (fun k hk => by cases hk; omega)
  cases bb
  · go_wp2_with fail
    refine (wide_any rb ca cc cs _ hr2).mono ?_
    rintro e w3 ⟨x, a3, c3, rfl, lx, ho3, hr3, hg3⟩
    replace Z1 := Z1.rd hg3 (by omega)
    have l3 : w2.heap.size ≤ w3.heap.size := hg3.size
    have hbw3 : Below w.heap.size w w3 := hbw2.grown hg3 (by omega) (fun k hk => by cases hk; omega)
    have hat3 := own_at ho3
    go_wp2_with fail
    refine (hurt_any rb ca cc cs (Nm.wn x) a3 c3 (Nm.wl x) w2.heap.size _ hr3 ho3 (by omega) (Nm.wl_dg x) (by omega) (by omega)).mono ?_
    rintro e w5 ⟨n5, L5, a5, c5, rfl, len5, dg5, ho5, hr5, hG5, hw5⟩
    obtain ⟨p0, p1, p2, p3⟩ := Gr2.r2 Z1 hG5 (by omega) (fun g hg => by have := hat3 g hg; omega)
    have hbw5 := bel_gr2 hbw3 hG5 (by omega) (fun g hg => by have := hat3 g hg; omega)
    go_wp2
    refine bodyPost_ret (v := .agg #[.bool n5, .slice a5 L5.length c5]) (by simp [results, Try.results47, go_sem, p0, p1]) rfl ⟨n5, L5, a5, c5, rfl, len5, dg5, ?_, ?_⟩
    · exact ((ho5.setBelow (by simp; omega) _).setBelow (by simp; omega) _).base (by omega)
    · exact (hbw5.setCell (by simp) _).setCell (by simp) _
  · go_wp2_with fail
    refine (once_any rb ca cc cs 2 _ hr2 (by decide) (by decide)).mono ?_
    rintro e w3 ⟨ng, rfl, hr3, hg3⟩
    replace Z1 := Z1.rd hg3 (by omega)
    have l3 : w2.heap.size ≤ w3.heap.size := hg3.size
    have hbw3 : Below w.heap.size w w3 := hbw2.grown hg3 (by omega) (fun k hk => by cases hk; omega)
    obtain ⟨x, hx⟩ : ∃ x : Int, x = if ng then -9223372036854775808 else 9223372036854775808 := ⟨_, rfl⟩
    have hx0 : -9223372036854775808 ≤ x ∧ x ≤ 9223372036854775808 := by subst hx; cases ng <;> simp
    go_wp2_with fail
    refine (l1uint_any 9223372036854775808 ng _ (by decide) (by decide) x hx).mono ?_
    rintro e w5 ⟨a5, c5, rfl, ho5, hb5⟩
    clear hx
    replace Z1 := Z1.below hb5
    replace hr3 := hr3.below hb5
    have hbw5 := bel_go hbw3 hb5
    have l5 : w3.heap.size ≤ w5.heap.size := hb5.size
    go_wp2_with fail
    refine (below_any rb ca cc cs 3 _ hr3 (by decide) (by decide)).mono ?_
    rintro e w6 ⟨v, rfl, v0, v1, hr6, hg6⟩
    replace Z1 := Z1.rd hg6 (by omega)
    replace ho5 := ho5.rd hg6 (by omega)
    have hbw6 : Below w.heap.size w w6 := hbw5.grown hg6 (by omega) (fun k hk => by cases hk; omega)
    have l6 : w5.heap.size ≤ w6.heap.size := hg6.size
    go_wp2_with fail
    refine (wof_spec (v - 1) _ (by omega) (by omega)).mono ?_
    rintro e w7 ⟨a7, c7, rfl, ho7, hb7⟩
    replace Z1 := Z1.below hb7
    replace ho5 := ho5.below hb7
    have hbw7 := bel_go hbw6 hb7
    have l7 : w6.heap.size ≤ w7.heap.size := hb7.size
    have ln5 := wl_72 (n := x) (by omega) (by omega)
    have ln7 := wl_64 (n := v - 1) (by omega) (by omega)
    go_wp2_with fail
    refine (l1add_any _ _ a5 a7 c5 c7 _ _ _ ho5.sl ho7.sl (Nm.wl_dg _) (Nm.wl_dg _) (Nm.wl_nz _) (Nm.wl_nz _) (by omega) (by omega) (x + (v - 1)) (wv_sum _ _)).mono ?_
    rintro e w8 ⟨a3, c3, rfl, ho3, hb8⟩
    obtain ⟨p0, p1, p2, p3⟩ := Z1.below hb8
    have hbw8 := bel_go hbw7 hb8
    have l8 : w7.heap.size ≤ w8.heap.size := hb8.size
    have ly' := wl_72 (n := x + (v - 1)) (by omega) (by omega)
    go_wp2
    refine bodyPost_ret (v := .agg #[.bool (Nm.wn (x + (v - 1))), .slice a3 (Nm.wl (x + (v - 1))).length c3]) (by simp [results, Try.results47, go_sem, p0, p1]) rfl ⟨_, _, a3, c3, rfl, by omega, Nm.wl_dg _, ?_, ?_⟩
    · exact ((ho3.setBelow (by simp; omega) _).setBelow (by simp; omega) _).base (by omega)
    · exact (hbw8.setCell (by simp) _).setCell (by simp) _
end Go.Proofs.Ytlifpkdmcpjhpaa
