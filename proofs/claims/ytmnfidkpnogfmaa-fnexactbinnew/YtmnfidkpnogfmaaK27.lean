/-
  What is needed of DH.
-/
import Derived.Test.YtmnfidkpnogfmaaK10
import Derived.Test.YtmnfidkpnogfmaaK23
import Derived.Test.YtmnfidkpnogfmaaK24
set_option maxHeartbeats 16000000
set_option maxRecDepth 1000000
namespace Go.Proofs.Ytmnfidkpnogfmaa
set_option linter.unusedVariables false
set_option linter.unusedSimpArgs false
open Go.RowKit Go.Deep
namespace Fw
open Go.Proofs.Ytmnfidkpnogfmaa.Fd (off_z)
theorem more_short {x : Int} (h : (Nm.wl x).length ≤ 200) (k : Int) (h0 : -2 ≤ k) (h1 : k ≤ 2) : (Nm.wl (x + k)).length ≤ 201 := by
  unfold Nm.wl at *
  rw [Nm.lim_length] at *
  have h3 : Nm.pw 201 = 4294967296 * Nm.pw 200 := rfl
  have := Nm.pw_pos 200
  omega
theorem drawCmp_any (ca : Option Addr) (cc : Nat) (cs : List Int) (w : World) (hs : Sl .u8 w (.slice ca cs.length cc) cs) (hby : ∀ i, 0 ≤ cs.getD i 0 ∧ cs.getD i 0 ≤ 255) (hl : cs.length ≤ 1048576) :
    Calls Try.prog 61 #[.slice ca cs.length cc] w fun e w' => ∃ (na nb : Bool) (xs ys : List Int) (a b : Option Addr) (c d : Nat), e = .returned (.tuple #[.agg #[.bool na, .slice a xs.length c], .agg #[.bool nb, .slice b ys.length d]]) ∧ xs.length ≤ 2000 ∧ ys.length ≤ 2000 ∧ Nm.Dg xs ∧ Nm.Dg ys ∧ Own w' w.heap.size a c xs ∧ Own w' w.heap.size b d ys ∧ Below w.heap.size w w' := by
  have Z1 := (R2.new w (.bool false) (.slice none 0 0) 65).alloc (.cells #[.bool false, .slice none 0 0] 65)
  have Z2 := R2.new2 w (.cells #[.bool false, .slice none 0 0] 65) (.bool false) (.slice none 0 0) 65
  have hsV := (hs.alloc (.cells #[.bool false, .slice none 0 0] 65)).alloc (.cells #[.bool false, .slice none 0 0] 65)
  have hzV : ((w.alloc (.cells #[.bool false, .slice none 0 0] 65)).alloc (.cells #[.bool false, .slice none 0 0] 65)).heap.size = w.heap.size + 1 + 1 := by simp
  have hbV : Below w.heap.size w ((w.alloc (.cells #[.bool false, .slice none 0 0] 65)).alloc (.cells #[.bool false, .slice none 0 0] 65)) := (by repeat (first | exact bz0 _ _ | refine bz1 ?_ | refine bz2 ?_ _ | refine bz3 ?_ _ | refine bz5 ?_ _ | refine bz6 ?_ _))
  go_enter Try.func61, Try.ntmps61
  go_wp2_with fail
  generalize (w.alloc (.cells #[.bool false, .slice none 0 0] 65)).alloc (.cells #[.bool false, .slice none 0 0] 65) = V at Z1 Z2 hsV hzV hbV ⊢
  refine (open_any ca cc cs _ hsV hby hl).mono ?_
  rintro e w1 ⟨rfl, hr1, hb1⟩
  obtain ⟨rb, hrb⟩ : ∃ rb, rb = V.heap.size := ⟨_, rfl⟩
  rw [← hrb] at hr1
  have hr1l := hr1.lt
  replace Z1 := Z1.below hb1
  replace Z2 := Z2.below hb1
  have hbw1 := bel_go hbV hb1
  have hz0 : w.heap.size + 1 < rb := by omega
  simp only [← hrb]
  clear hrb hzV hb1 hbV hsV hs
  go_wp2_with fail
  refine (wide_any rb ca cc cs _ hr1).mono ?_
  rintro e w2 ⟨x, a2, c2, rfl, lx, ho2, hr2, hg2⟩
  have OX : ∃ o, o = Obj.cells #[.bool (Nm.wn x), .slice a2 (Nm.wl x).length c2] 65 := ⟨_, rfl⟩
  replace Z1 := (Z1.rd hg2 (by omega)).alloc (.cells #[.bool (Nm.wn x), .slice a2 (Nm.wl x).length c2] 65)
  replace Z2 := (Z2.rd hg2 (by omega)).alloc (.cells #[.bool (Nm.wn x), .slice a2 (Nm.wl x).length c2] 65)
  have X := R2.new w2 (.bool (Nm.wn x)) (.slice a2 (Nm.wl x).length c2) 65
  have hat2 := own_at ho2
  have l2 : w1.heap.size ≤ w2.heap.size := hg2.size
  have hbw2 : Below w.heap.size w w2 := hbw1.grown hg2 (by omega) (fun k hk => by cases hk; omega)
  replace ho2 := ho2.alloc (.cells #[.bool (Nm.wn x), .slice a2 (Nm.wl x).length c2] 65)
  go_wp2_with fail
  refine (once_any rb ca cc cs 2 _ (hr2.alloc _) (by decide) (by decide)).mono ?_
  rintro e w4 ⟨bb, rfl, hr4, hg4⟩
  replace Z1 := Z1.rd hg4 (by omega)
  replace Z2 := Z2.rd hg4 (by omega)
  replace X := X.rd hg4 (by omega)
  replace ho2 := ho2.rd hg4 hr1l
  have l4 : w2.heap.size < w4.heap.size := by have := hg4.size; simp at this; omega
  have hbw4 : Below w.heap.size w w4 := (bel_al hbw2 _).grown hg4 (by simp; omega) (fun k hk => by cases hk; omega)
  obtain ⟨xb, hxb⟩ : ∃ xb, xb = w2.heap.size := ⟨_, rfl⟩
  rw [← hxb] at X l4
  have hx1 : w1.heap.size ≤ xb := by omega
  simp only [← hxb]
  replace hat2 : ∀ g, a2 = some ⟨g, 0, none⟩ → w1.heap.size ≤ g ∧ g < xb := fun g h => by have := hat2 g h; omega
  clear hxb hg2 hg4 hr2 hbw1 hbw2 l2 hr1 OX
  cases bb
  · obtain ⟨x0, x1, xf0, xf1⟩ := X
    go_wp2_with fail
    refine (hurt_any rb ca cc cs (Nm.wn x) a2 c2 (Nm.wl x) w1.heap.size _ hr4 ho2 hr1l (Nm.wl_dg x) (by omega) (by omega)).mono ?_
    rintro e w5 ⟨n5, L5, a5, c5, rfl, len5, dg5, ho5, hr5, hG5, hw5⟩
    replace Z1 := Gr2.r2 Z1 hG5 (by omega) (fun g hg => by have := hat2 g hg; omega)
    replace Z2 := Gr2.r2 Z2 hG5 (by omega) (fun g hg => by have := hat2 g hg; omega)
    have hbw5 := bel_gr2 hbw4 hG5 (by omega) (fun g hg => by have := hat2 g hg; omega)
    have l5 : w4.heap.size ≤ w5.heap.size := hG5.size
    clear x0 x1 xf0 xf1
    go_wp2_with fail
    refine (wide_any rb ca cc cs _ hr5).mono ?_
    rintro e w6 ⟨y, a6, c6, rfl, ly, ho6, hr6, hg6⟩
    obtain ⟨p0, p1, p2, p3⟩ := Z1.rd hg6 (by omega)
    obtain ⟨q0, q1, q2, q3⟩ := Z2.rd hg6 (by omega)
    replace ho5 := ho5.rd hg6 hr1l
    have hbw6 : Below w.heap.size w w6 := hbw5.grown hg6 (by omega) (fun k hk => by cases hk; omega)
    go_wp2
    refine bodyPost_ret (v := .tuple #[.agg #[.bool n5, .slice a5 L5.length c5], .agg #[.bool (Nm.wn y), .slice a6 (Nm.wl y).length c6]]) (by simp [results, Try.results61, go_sem, p0, p1, q0, q1]) rfl ⟨n5, Nm.wn y, L5, Nm.wl y, a5, a6, c5, c6, rfl, len5, by omega, dg5, Nm.wl_dg y, ?_, ?_, ?_⟩
    · exact ((((ho5.setBelow (by simp; omega) _).setBelow (by simp; omega) _).setBelow (by simp; omega) _).setBelow (by simp; omega) _).base (by omega)
    · exact ((((ho6.setBelow (by simp; omega) _).setBelow (by simp; omega) _).setBelow (by simp; omega) _).setBelow (by simp; omega) _).base (by omega)
    · exact (((hbw6.setCell (by simp) _).setCell (by simp) _).setCell (by simp) _).setCell (by simp) _
  · replace X := X.drew
    replace Z1 := Z1.drew
    replace Z2 := Z2.drew
    replace ho2 := ho2.drew
    replace hr4 := hr4.drew
    replace hbw4 := Below.drew hbw4
    go_upto_region 11 with fail
    refine wp_region_held_drew (S := fun w' => w'.cell? ⟨xb, 0, none⟩ = some (.bool (Nm.wn x)) ∧ w'.cell? ⟨xb, 1, none⟩ = some (.slice a2 (Nm.wl x).length c2)) (by kernel_rfl) ?_ (fun hHeld => ?_)
    · exact ⟨X.c0, X.c1⟩
    generalize hv4 : w4.drew = v4 at *
    have lv4 : xb < v4.heap.size := by rw [← hv4]; exact l4
    clear hv4
    refine tk 0 ?_ rfl (Or.inl ⟨by rfl, ?_⟩) ?_
    rotate_left
    · (intro w hSw; (try dsimp only at hSw); obtain ⟨hS0, hS1⟩ := hSw; go_simp; try (with_reducible rfl))
    try simp only [Act.put, Ls]
    refine tk 1 ?_ rfl (Or.inl ⟨by rfl, ?_⟩) ?_
    rotate_left
    · (intro w hSw; go_simp; try (with_reducible rfl))
    try simp only [Act.put, Ls]
    refine tk 2 ?_ rfl (Or.inl ⟨by rfl, ?_⟩) ?_
    rotate_left
    · (intro w hSw; (try dsimp only at hSw); obtain ⟨hS0, hS1⟩ := hSw; go_simp; try (with_reducible rfl))
    try simp only [Act.put, Ls]
    refine tk 3 ?_ rfl (Or.inl ⟨by rfl, ?_⟩) ?_
    rotate_left
    · (intro w hSw; go_simp; try (with_reducible rfl))
    try simp only [Act.put, Ls]
    refine rdy 4 rfl (fun K hK => ?_)
    go_simp
    go_at_call 108
    refine (below_any rb ca cc cs 3 _ hr4 (by decide) (by decide)).mono ?_
    rintro e v6 ⟨v, rfl, u0, u1, hr6, hg6⟩
    replace X := X.rd hg6 (by omega)
    replace Z1 := Z1.rd hg6 (by omega)
    replace Z2 := Z2.rd hg6 (by omega)
    replace ho2 := ho2.rd hg6 hr1l
    have l6 : v4.heap.size ≤ v6.heap.size := hg6.size
    have hbw6 : Below w.heap.size w v6 := hbw4.grown hg6 (by omega) (fun k hk => by cases hk; omega)
    refine hK.out _ _ ?_ (fun hHeld => ?_)
    · exact ⟨X.c0, X.c1⟩
    clear hK K
    try simp only [Act.put, Ls]
    have hw5 : IntKind.i64.wrap (v - 1) = v - 1 := by rw [IntKind.wrap_i64]; omega
    refine tk 5 ?_ rfl (Or.inl ⟨by rfl, ?_⟩) ?_
    rotate_left
    · (intro w hSw; go_simp; try (with_reducible rfl))
    try simp only [Act.put, Ls]
    try rw [hw5]
    refine rdy 6 rfl (fun K hK => ?_)
    go_simp
    go_at_call 118
    refine (wof_spec (v - 1) _ (by omega) (by omega)).mono ?_
    rintro e v7 ⟨a7, c7, rfl, ho7, hb7⟩
    replace X := X.below hb7
    replace Z1 := Z1.below hb7
    replace Z2 := Z2.below hb7
    replace ho2 := ho2.below hb7
    replace hr6 := hr6.below hb7
    have hbw7 := bel_go hbw6 hb7
    have l7 : v6.heap.size ≤ v7.heap.size := hb7.size
    have ln7 := wl_64 (n := v - 1) (by omega) (by omega)
    refine hK.out _ _ ?_ (fun hHeld => ?_)
    · exact ⟨X.c0, X.c1⟩
    clear hK K
    try simp only [Act.put, Ls]
    refine rdy 7 rfl (fun K hK => ?_)
    go_simp
    go_at_call 117
    refine (l1add_any _ _ a2 a7 c2 c7 _ _ _ ho2.sl ho7.sl (Nm.wl_dg _) (Nm.wl_dg _) (Nm.wl_nz _) (Nm.wl_nz _) (by omega) (by omega) (x + (v - 1)) (wv_sum _ _)).mono ?_
    rintro e v8 ⟨a8, c8, rfl, ho8, hb8⟩
    replace X := X.below hb8
    replace Z1 := Z1.below hb8
    replace Z2 := Z2.below hb8
    replace ho2 := ho2.below hb8
    replace hr6 := hr6.below hb8
    have hbw8 := bel_go hbw7 hb8
    have l8 : v7.heap.size ≤ v8.heap.size := hb8.size
    have ln8 := more_short lx (v - 1) (by omega) (by omega)
    have hat8 := own_at ho8
    refine hK.out _ _ ?_ (fun hHeld => ?_)
    · exact ⟨X.c0, X.c1⟩
    clear hK K
    try simp only [Act.put, Ls]
    refine rdy 8 rfl (fun K hK => ?_)
    go_simp
    go_at_call 109
    refine (hurt_any rb ca cc cs (Nm.wn (x + (v - 1))) a8 c8 (Nm.wl (x + (v - 1))) v7.heap.size _ hr6 ho8 (by omega) (Nm.wl_dg _) (by omega) (by omega)).mono ?_
    rintro e v9 ⟨n9, L9, a9, c9, rfl, len9, dg9, ho9, hr9, hG9, hw9⟩
    replace X := Gr2.r2 X hG9 (by omega) (fun g hg => by have := hat8 g hg; omega)
    replace Z1 := Gr2.r2 Z1 hG9 (by omega) (fun g hg => by have := hat8 g hg; omega)
    replace Z2 := Gr2.r2 Z2 hG9 (by omega) (fun g hg => by have := hat8 g hg; omega)
    replace ho2 := Gr2.own ho2 hG9 (fun g hg => ⟨by have := hat2 g hg; omega, fun g' hg' => by have := hat2 g hg; have := hat8 g' hg'; omega⟩)
    have hbw9 := bel_gr2 hbw8 hG9 (by omega) (fun g hg => by have := hat8 g hg; omega)
    refine hK.out _ _ ?_ (fun hHeld => ?_)
    · exact ⟨X.c0, X.c1⟩
    clear hK K
    try simp only [Act.put, Ls]
    have X9 := ((X.other (p := ⟨w.heap.size, 0, none⟩) (by simp; try omega) (.bool (Nm.wn x))).other (p := ⟨w.heap.size, 1, none⟩) (by simp; try omega) (.slice a2 (Nm.wl x).length c2))
    have Z19 := R2.set Z1 (.bool (Nm.wn x)) (.slice a2 (Nm.wl x).length c2)
    have Z29 := ((Z2.other (p := ⟨w.heap.size, 0, none⟩) (by simp; try omega) (.bool (Nm.wn x))).other (p := ⟨w.heap.size, 1, none⟩) (by simp; try omega) (.slice a2 (Nm.wl x).length c2))
    refine rdy 9 rfl (fun K hK => ?_)
    have ⟨q0, q1, q2, q3⟩ := Z1
    go_simp
    refine hK.out _ _ ?_ (fun hHeld => ?_)
    · exact ⟨X9.c0, X9.c1⟩
    clear hK K
    try simp only [Act.put, Ls]
    have X10 := ((X9.other (p := ⟨(w.heap.size + 1), 0, none⟩) (by simp; try omega) (.bool n9)).other (p := ⟨(w.heap.size + 1), 1, none⟩) (by simp; try omega) (.slice a9 L9.length c9))
    have Z110 := ((Z19.other (p := ⟨(w.heap.size + 1), 0, none⟩) (by simp; try omega) (.bool n9)).other (p := ⟨(w.heap.size + 1), 1, none⟩) (by simp; try omega) (.slice a9 L9.length c9))
    have Z210 := R2.set Z29 (.bool n9) (.slice a9 L9.length c9)
    refine rdy 10 rfl (fun K hK => ?_)
    have ⟨r0, r1, r2, r3⟩ := Z29
    go_simp
    refine hK.out _ _ ?_ (fun hHeld => ?_)
    · exact ⟨X10.c0, X10.c1⟩
    clear hK K
    try simp only [Act.put, Ls]
    refine wpAnyH_done (by kernel_rfl) ?_ _
    obtain ⟨p0, p1, p2, p3⟩ := Z110
    obtain ⟨q0, q1, q2, q3⟩ := Z210
    go_wp2
    refine bodyPost_ret (v := .tuple #[.agg #[.bool (Nm.wn x), .slice a2 (Nm.wl x).length c2], .agg #[.bool n9, .slice a9 L9.length c9]]) (by simp [results, Try.results61, go_sem, p0, p1, q0, q1]) rfl ⟨Nm.wn x, n9, Nm.wl x, L9, a2, a9, c2, c9, rfl, by omega, len9, Nm.wl_dg x, dg9, ?_, ?_, ?_⟩
    · exact ((((ho2.setBelow (by simp; omega) _).setBelow (by simp; omega) _).setBelow (by simp; omega) _).setBelow (by simp; omega) _).base (by omega)
    · exact ((((ho9.setBelow (by simp; omega) _).setBelow (by simp; omega) _).setBelow (by simp; omega) _).setBelow (by simp; omega) _).base (by omega)
    · exact (((hbw9.setCell (by simp) _).setCell (by simp) _).setCell (by simp) _).setCell (by simp) _
theorem drawSh_any (ca : Option Addr) (cc : Nat) (cs : List Int) (w : World) (hs : Sl .u8 w (.slice ca cs.length cc) cs) (hby : ∀ i, 0 ≤ cs.getD i 0 ∧ cs.getD i 0 ≤ 255) (hl : cs.length ≤ 1048576) :
    Calls Try.prog 53 #[.slice ca cs.length cc] w fun e w' => ∃ (na : Bool) (xs : List Int) (a : Option Addr) (c : Nat) (n : Int), e = .returned (.tuple #[.agg #[.bool na, .slice a xs.length c], .int .i64 n]) ∧ xs.length ≤ 2000 ∧ Nm.Dg xs ∧ Own w' w.heap.size a c xs ∧ Below w.heap.size w w' := by
  have Z1 := R2.new w (.bool false) (.slice none 0 0) 65
  have hsV := hs.alloc (.cells #[.bool false, .slice none 0 0] 65)
  have hzV : (w.alloc (.cells #[.bool false, .slice none 0 0] 65)).heap.size = w.heap.size + 1 := by simp
  have hbV : Below w.heap.size w (w.alloc (.cells #[.bool false, .slice none 0 0] 65)) := (by repeat (first | exact bz0 _ _ | refine bz1 ?_ | refine bz2 ?_ _ | refine bz3 ?_ _ | refine bz5 ?_ _ | refine bz6 ?_ _))
  go_enter Try.func53, Try.ntmps53
  go_wp2_with fail
  generalize (w.alloc (.cells #[.bool false, .slice none 0 0] 65)) = V at Z1 hsV hzV hbV ⊢
  refine (open_any ca cc cs _ hsV hby hl).mono ?_
  rintro e w1 ⟨rfl, hr1, hb1⟩
  obtain ⟨rb, hrb⟩ : ∃ rb, rb = V.heap.size := ⟨_, rfl⟩
  rw [← hrb] at hr1
  have hr1l := hr1.lt
  replace Z1 := Z1.below hb1
  have hbw1 := bel_go hbV hb1
  have hz0 : w.heap.size < rb := by omega
  simp only [← hrb]
  clear hrb hzV hb1 hbV hsV hs
  go_wp2_with fail
  refine (wide_any rb ca cc cs _ hr1).mono ?_
  rintro e w3 ⟨x, a3, c3, rfl, lx, ho3, hr3, hg3⟩
  replace Z1 := Z1.rd hg3 (by omega)
  have l3 : w1.heap.size ≤ w3.heap.size := hg3.size
  have hbw3 : Below w.heap.size w w3 := hbw1.grown hg3 (by omega) (fun k hk => by cases hk; omega)
  have hat3 := own_at ho3
  go_wp2_with fail
  refine (hurt_any rb ca cc cs (Nm.wn x) a3 c3 (Nm.wl x) w1.heap.size _ hr3 ho3 hr1l (Nm.wl_dg x) (by omega) (by omega)).mono ?_
  rintro e w5 ⟨n5, L5, a5, c5, rfl, len5, dg5, ho5, hr5, hG5, hw5⟩
  have OB : ∃ o, o = Obj.cells #[.bool n5, .slice a5 L5.length c5] 65 := ⟨_, rfl⟩
  replace Z1 := (Gr2.r2 Z1 hG5 (by omega) (fun g hg => by have := hat3 g hg; omega)).alloc (.cells #[.bool n5, .slice a5 L5.length c5] 65)
  have X := R2.new w5 (.bool n5) (.slice a5 L5.length c5) 65
  have l5 : w3.heap.size ≤ w5.heap.size := hG5.size
  have hbw5 := bel_al (bel_gr2 hbw3 hG5 (by omega) (fun g hg => by have := hat3 g hg; omega)) (.cells #[.bool n5, .slice a5 L5.length c5] 65)
  replace hr5 := hr5.alloc (.cells #[.bool n5, .slice a5 L5.length c5] 65)
  replace ho5 := ho5.alloc (.cells #[.bool n5, .slice a5 L5.length c5] 65)
  obtain ⟨xb, hxb⟩ : ∃ xb, xb = w5.heap.size := ⟨_, rfl⟩
  have hx0 : rb < xb := by omega
  have hr1b : rb < w1.heap.size := hr1l
  clear OB hat3 hG5 hw5 hg3 hr3 ho3
  go_wp2_with fail
  rw [← hxb] at X
  simp only [← hxb]
  generalize w5.alloc (.cells #[.bool n5, .slice a5 L5.length c5] 65) = w6 at *
  clear hxb l5
  refine (below_any rb ca cc cs 6 _ hr5 (by decide) (by decide)).mono ?_
  rintro e w7 ⟨v, rfl, v0, v1, hr7, hg7⟩
  replace X := X.rd hg7 (by omega)
  replace Z1 := Z1.rd hg7 (by omega)
  replace ho5 := ho5.rd hg7 hr1b
  have hbw7 : Below w.heap.size w w7 := hbw5.grown hg7 hbw5.size (fun k hk => by cases hk; omega)
  have FIN : ∀ w9, R2 w9 w.heap.size (.bool false) (.slice none 0 0) → Own w9 w1.heap.size a5 c5 L5 → Below w.heap.size w w9 → True := fun _ _ _ _ => trivial
  clear FIN hg7 hr5 hbw5
  rcases (show v = 0 ∨ v = 1 ∨ 1 < v by omega) with rfl | rfl | hv
  · go_upto_region 5 with fail
    refine wp_region_held_drew (S := fun w' => w'.cell? ⟨xb, 0, none⟩ = some (.bool n5) ∧ w'.cell? ⟨xb, 1, none⟩ = some (.slice a5 L5.length c5)) (by kernel_rfl) ?_ (fun hHeld => ?_)
    · exact ⟨X.drew.c0, X.drew.c1⟩
    replace X := X.drew
    replace Z1 := Z1.drew
    replace ho5 := ho5.drew
    replace hr7 := hr7.drew
    replace hbw7 := Below.drew hbw7
    generalize hv7 : w7.drew = v7 at *
    clear hv7
    refine tk 0 ?_ rfl (Or.inl ⟨by rfl, ?_⟩) ?_
    rotate_left
    · (intro w hSw; (try dsimp only at hSw); obtain ⟨hS0, hS1⟩ := hSw; go_simp; try (with_reducible rfl))
    try simp only [Act.put, Ls]
    refine tk 1 ?_ rfl (Or.inl ⟨by rfl, ?_⟩) ?_
    rotate_left
    · (intro w hSw; go_simp; try (with_reducible rfl))
    try simp only [Act.put, Ls]
    refine rdy 2 rfl (fun K hK => ?_)
    go_simp
    go_at_call 110
    refine (off_z rb ca cc cs (-10000) 10000 _ hr7 (by decide) (by decide) (by decide)).mono ?_
    rintro e v8 ⟨u, rfl, hr8, hg8⟩
    replace X := X.rd hg8 (by omega)
    replace Z1 := Z1.rd hg8 (by omega)
    replace ho5 := ho5.rd hg8 hr1b
    have hbw8 : Below w.heap.size w v8 := hbw7.grown hg8 hbw7.size (fun k hk => by cases hk; omega)
    refine hK.out _ _ ?_ (fun hHeld => ?_)
    · exact ⟨X.c0, X.c1⟩
    clear hK K
    try simp only [Act.put, Ls]
    have X9 := ((X.other (p := ⟨w.heap.size, 0, none⟩) (by simp; try omega) (.bool n5)).other (p := ⟨w.heap.size, 1, none⟩) (by simp; try omega) (.slice a5 L5.length c5))
    have Z19 := R2.set Z1 (.bool n5) (.slice a5 L5.length c5)
    refine rdy 3 rfl (fun K hK => ?_)
    have ⟨q0, q1, q2, q3⟩ := Z1
    go_simp
    refine hK.out _ _ ?_ (fun hHeld => ?_)
    · exact ⟨X9.c0, X9.c1⟩
    clear hK K
    try simp only [Act.put, Ls]
    refine rdy 4 rfl (fun K hK => ?_)
    go_simp
    refine hK.out _ _ ?_ (fun hHeld => ?_)
    · exact ⟨X9.c0, X9.c1⟩
    clear hK K
    try simp only [Act.put, Ls]
    refine wpAnyH_done (by kernel_rfl) ?_ _
    obtain ⟨p0, p1, p2, p3⟩ := Z19
    go_wp2
    refine bodyPost_ret (v := .tuple #[.agg #[.bool n5, .slice a5 L5.length c5], .int .i64 _]) (by simp [results, Try.results53, go_sem, p0, p1]; rfl) rfl ⟨n5, L5, a5, c5, _, rfl, len5, dg5, ?_, ?_⟩
    · exact ((ho5.setBelow (by simp; omega) _).setBelow (by simp; omega) _).base (by omega)
    · exact (hbw8.setCell (by simp) _).setCell (by simp) _
  · go_upto_region 7 with fail
    refine wp_region_held_drew (S := fun w' => w'.cell? ⟨xb, 0, none⟩ = some (.bool n5) ∧ w'.cell? ⟨xb, 1, none⟩ = some (.slice a5 L5.length c5)) (by kernel_rfl) ?_ (fun hHeld => ?_)
    · exact ⟨X.drew.c0, X.drew.c1⟩
    replace X := X.drew
    replace Z1 := Z1.drew
    replace ho5 := ho5.drew
    replace hr7 := hr7.drew
    replace hbw7 := Below.drew hbw7
    generalize hv7 : w7.drew = v7 at *
    clear hv7
    refine tk 0 ?_ rfl (Or.inl ⟨by rfl, ?_⟩) ?_
    rotate_left
    · (intro w hSw; (try dsimp only at hSw); obtain ⟨hS0, hS1⟩ := hSw; go_simp; try (with_reducible rfl))
    try simp only [Act.put, Ls]
    refine tk 1 ?_ rfl (Or.inl ⟨by rfl, ?_⟩) ?_
    rotate_left
    · (intro w hSw; go_simp; try (with_reducible rfl))
    try simp only [Act.put, Ls]
    refine rdy 2 rfl (fun K hK => ?_)
    go_simp
    go_at_call 108
    refine (below_any rb ca cc cs 13000 _ hr7 (by decide) (by decide)).mono ?_
    rintro e v8 ⟨u, rfl, u0, u1, hr8, hg8⟩
    replace X := X.rd hg8 (by omega)
    replace Z1 := Z1.rd hg8 (by omega)
    replace ho5 := ho5.rd hg8 hr1b
    have hbw8 : Below w.heap.size w v8 := hbw7.grown hg8 hbw7.size (fun k hk => by cases hk; omega)
    refine hK.out _ _ ?_ (fun hHeld => ?_)
    · exact ⟨X.c0, X.c1⟩
    clear hK K
    try simp only [Act.put, Ls]
    refine tk 3 ?_ rfl (Or.inl ⟨by rfl, ?_⟩) ?_
    rotate_left
    · (intro w hSw; go_simp; try (with_reducible rfl))
    try simp only [Act.put, Ls]
    have X9 := ((X.other (p := ⟨w.heap.size, 0, none⟩) (by simp; try omega) (.bool n5)).other (p := ⟨w.heap.size, 1, none⟩) (by simp; try omega) (.slice a5 L5.length c5))
    have Z19 := R2.set Z1 (.bool n5) (.slice a5 L5.length c5)
    refine rdy 4 rfl (fun K hK => ?_)
    have ⟨q0, q1, q2, q3⟩ := Z1
    go_simp
    refine hK.out _ _ ?_ (fun hHeld => ?_)
    · exact ⟨X9.c0, X9.c1⟩
    clear hK K
    try simp only [Act.put, Ls]
    refine rdy 5 rfl (fun K hK => ?_)
    go_simp
    refine hK.out _ _ ?_ (fun hHeld => ?_)
    · exact ⟨X9.c0, X9.c1⟩
    clear hK K
    try simp only [Act.put, Ls]
    refine wpAnyH_done (by kernel_rfl) ?_ _
    obtain ⟨p0, p1, p2, p3⟩ := Z19
    go_wp2
    refine bodyPost_ret (v := .tuple #[.agg #[.bool n5, .slice a5 L5.length c5], .int .i64 _]) (by simp [results, Try.results53, go_sem, p0, p1]; rfl) rfl ⟨n5, L5, a5, c5, _, rfl, len5, dg5, ?_, ?_⟩
    · exact ((ho5.setBelow (by simp; omega) _).setBelow (by simp; omega) _).base (by omega)
    · exact (hbw8.setCell (by simp) _).setCell (by simp) _
  · have e0 : (v == 0) = false := by simp; omega
    have e1 : (v == 1) = false := by simp; omega
    go_upto_region 8 with fail
    refine wp_region_held_drew (S := fun w' => w'.cell? ⟨xb, 0, none⟩ = some (.bool n5) ∧ w'.cell? ⟨xb, 1, none⟩ = some (.slice a5 L5.length c5)) (by kernel_rfl) ?_ (fun hHeld => ?_)
    · exact ⟨X.drew.c0, X.drew.c1⟩
    replace X := X.drew
    replace Z1 := Z1.drew
    replace ho5 := ho5.drew
    replace hr7 := hr7.drew
    replace hbw7 := Below.drew hbw7
    generalize hv7 : w7.drew = v7 at *
    clear hv7
    refine tk 0 ?_ rfl (Or.inl ⟨by rfl, ?_⟩) ?_
    rotate_left
    · (intro w hSw; (try dsimp only at hSw); obtain ⟨hS0, hS1⟩ := hSw; go_simp; try (with_reducible rfl))
    try simp only [Act.put, Ls]
    refine tk 1 ?_ rfl (Or.inl ⟨by rfl, ?_⟩) ?_
    rotate_left
    · (intro w hSw; go_simp; try (with_reducible rfl))
    try simp only [Act.put, Ls]
    refine rdy 2 rfl (fun K hK => ?_)
    go_simp
    go_at_call 108
    refine (below_any rb ca cc cs 200 _ hr7 (by decide) (by decide)).mono ?_
    rintro e v8 ⟨u, rfl, u0, u1, hr8, hg8⟩
    replace X := X.rd hg8 (by omega)
    replace Z1 := Z1.rd hg8 (by omega)
    replace ho5 := ho5.rd hg8 hr1b
    have hbw8 : Below w.heap.size w v8 := hbw7.grown hg8 hbw7.size (fun k hk => by cases hk; omega)
    refine hK.out _ _ ?_ (fun hHeld => ?_)
    · exact ⟨X.c0, X.c1⟩
    clear hK K
    try simp only [Act.put, Ls]
    refine tk 3 ?_ rfl (Or.inl ⟨by rfl, ?_⟩) ?_
    rotate_left
    · (intro w hSw; go_simp; try (with_reducible rfl))
    try simp only [Act.put, Ls]
    have X9 := ((X.other (p := ⟨w.heap.size, 0, none⟩) (by simp; try omega) (.bool n5)).other (p := ⟨w.heap.size, 1, none⟩) (by simp; try omega) (.slice a5 L5.length c5))
    have Z19 := R2.set Z1 (.bool n5) (.slice a5 L5.length c5)
    refine rdy 4 rfl (fun K hK => ?_)
    have ⟨q0, q1, q2, q3⟩ := Z1
    go_simp
    refine hK.out _ _ ?_ (fun hHeld => ?_)
    · exact ⟨X9.c0, X9.c1⟩
    clear hK K
    try simp only [Act.put, Ls]
    refine rdy 5 rfl (fun K hK => ?_)
    go_simp
    refine hK.out _ _ ?_ (fun hHeld => ?_)
    · exact ⟨X9.c0, X9.c1⟩
    clear hK K
    try simp only [Act.put, Ls]
    refine wpAnyH_done (by kernel_rfl) ?_ _
    obtain ⟨p0, p1, p2, p3⟩ := Z19
    go_wp2
    refine bodyPost_ret (v := .tuple #[.agg #[.bool n5, .slice a5 L5.length c5], .int .i64 _]) (by simp [results, Try.results53, go_sem, p0, p1]; rfl) rfl ⟨n5, L5, a5, c5, _, rfl, len5, dg5, ?_, ?_⟩
    · exact ((ho5.setBelow (by simp; omega) _).setBelow (by simp; omega) _).base (by omega)
    · exact (hbw8.setCell (by simp) _).setCell (by simp) _
end Fw
end Go.Proofs.Ytmnfidkpnogfmaa
