/-
  What is needed of LA0, DAe.
-/
import Derived.Test.YtkfjmcdniohljaaGreatDoorE54
set_option maxHeartbeats 16000000
set_option maxRecDepth 1000000
namespace Go.Proofs.YtkfjmcdniohljaaGreatDoor
set_option linter.unusedVariables false
set_option linter.unusedSimpArgs false
open Go.RowKit Go.Deep
theorem mgS (F : Int) (s t : St) (p q : Option Addr) (c d : Nat) (w : World) (hR : Rt F s) (hQ : Rt F t) (hn : s.T + t.T ≤ 1000000) (hs : Sl .u32 w (.slice p (Nm.wl s.z).length c) (Nm.wl s.z)) (ht : Sl .u32 w (.slice q (Nm.wl t.z).length d) (Nm.wl t.z)) (s' : St) (hs' : s' = s.mg t) :
    Calls Tryz.prog 44 #[.agg #[.int .i64 F, .bool (Nm.wn s.z), .slice p (Nm.wl s.z).length c, .int .i64 s.T, .bool s.nn, .bool s.bd, .bool s.pl, .bool s.mi, .bool s.am], .agg #[.int .i64 F, .bool (Nm.wn t.z), .slice q (Nm.wl t.z).length d, .int .i64 t.T, .bool t.nn, .bool t.bd, .bool t.pl, .bool t.mi, .bool t.am]] w fun r w' => ∃ a' c', r = .returned (.tuple #[.agg #[.int .i64 F, .bool (Nm.wn s'.z), .slice a' (Nm.wl s'.z).length c', .int .i64 s'.T, .bool s'.nn, .bool s'.bd, .bool s'.pl, .bool s'.mi, .bool s'.am], .int .i64 0]) ∧ Own w' w.heap.size a' c' (Nm.wl s'.z) ∧ Below w.heap.size w w' := by
  subst hs'
  exact merge_spec_yes F (Nm.wn s.z) s.T s.nn s.bd s.pl s.mi s.am F (Nm.wn t.z) t.T t.nn t.bd t.pl t.mi t.am p q c d (Nm.wl s.z) (Nm.wl t.z) w hs ht (Nm.wl_dg _) (Nm.wl_dg _) hR hQ rfl hn (s.z + t.z) (by rw [Nm.wv_out, Nm.wv_out])
namespace Fd
/-- Two accumulators that were drawn. -/
def DrAB (w w' : World) (e : Ending) : Prop := ∃ (F : Int) (ng : Bool) (zs : List Int) (T : Int) (nn bd pl mi am : Bool) (a : Option Addr) (c : Nat) (F2 : Int) (ng2 : Bool) (zs2 : List Int) (T2 : Int) (nn2 bd2 pl2 mi2 am2 : Bool) (a2 : Option Addr) (c2 : Nat), e = .returned (.tuple #[.agg #[.int .i64 F, .bool ng, .slice a zs.length c, .int .i64 T, .bool nn, .bool bd, .bool pl, .bool mi, .bool am], .agg #[.int .i64 F2, .bool ng2, .slice a2 zs2.length c2, .int .i64 T2, .bool nn2, .bool bd2, .bool pl2, .bool mi2, .bool am2]]) ∧ zs.length ≤ 2000 ∧ Nm.Dg zs ∧ Own w' w.heap.size a c zs ∧ zs2.length ≤ 2000 ∧ Nm.Dg zs2 ∧ Own w' w.heap.size a2 c2 zs2 ∧ Below w.heap.size w w'
theorem drawAccMerge_x (ca : Option Addr) (cc : Nat) (cs : List Int) (w : World) (hs : Sl .u8 w (.slice ca cs.length cc) cs) (hby : ∀ i, 0 ≤ cs.getD i 0 ∧ cs.getD i 0 ≤ 255) (hl : cs.length ≤ 1048576) :
    Calls Tryz.prog 43 #[.slice ca cs.length cc] w fun e w' => DrAB w w' e := by
  have hs1 := hs
  have bel := Below.refl w.heap.size w
  have R4 := Q9.new w (.int .i64 0) (.bool false) (.slice none 0 0) (.int .i64 0) (.bool false) (.bool false) (.bool false) (.bool false) (.bool false) 50
  have hs1 := hs1.alloc (.cells #[.int .i64 0, .bool false, .slice none 0 0, .int .i64 0, .bool false, .bool false, .bool false, .bool false, .bool false] 50)
  have bel := bel_al bel (.cells #[.int .i64 0, .bool false, .slice none 0 0, .int .i64 0, .bool false, .bool false, .bool false, .bool false, .bool false] 50)
  have R5 := Q9.new (w.alloc (.cells #[.int .i64 0, .bool false, .slice none 0 0, .int .i64 0, .bool false, .bool false, .bool false, .bool false, .bool false] 50)) (.int .i64 0) (.bool false) (.slice none 0 0) (.int .i64 0) (.bool false) (.bool false) (.bool false) (.bool false) (.bool false) 50
  have hsz : (w.alloc (.cells #[.int .i64 0, .bool false, .slice none 0 0, .int .i64 0, .bool false, .bool false, .bool false, .bool false, .bool false] 50)).heap.size = w.heap.size + 1 := by simp
  rw [hsz] at R5
  clear hsz
  have R4 := R4.alloc (.cells #[.int .i64 0, .bool false, .slice none 0 0, .int .i64 0, .bool false, .bool false, .bool false, .bool false, .bool false] 50)
  have hs1 := hs1.alloc (.cells #[.int .i64 0, .bool false, .slice none 0 0, .int .i64 0, .bool false, .bool false, .bool false, .bool false, .bool false] 50)
  have bel := bel_al bel (.cells #[.int .i64 0, .bool false, .slice none 0 0, .int .i64 0, .bool false, .bool false, .bool false, .bool false, .bool false] 50)
  go_enter Tryz.func43, Tryz.ntmps43
  go_wp2_with fail
  refine (open_any ca cc cs _ hs1 hby hl).mono ?_
  rintro e w4 ⟨rfl, r4, hb⟩
  have hlt : w.heap.size + 2 ≤ ((w.alloc (.cells #[.int .i64 0, .bool false, .slice none 0 0, .int .i64 0, .bool false, .bool false, .bool false, .bool false, .bool false] 50)).alloc (.cells #[.int .i64 0, .bool false, .slice none 0 0, .int .i64 0, .bool false, .bool false, .bool false, .bool false, .bool false] 50)).heap.size := by simp
  generalize ((w.alloc (.cells #[.int .i64 0, .bool false, .slice none 0 0, .int .i64 0, .bool false, .bool false, .bool false, .bool false, .bool false] 50)).alloc (.cells #[.int .i64 0, .bool false, .slice none 0 0, .int .i64 0, .bool false, .bool false, .bool false, .bool false, .bool false] 50)).heap.size = rb at r4 hlt ⊢
  have R4 := R4.below hb
  have R5 := R5.below hb
  have bel := bel_go bel hb
  clear hb hs1
  go_wp2_with fail
  refine (format_any rb ca cc cs _ r4).mono ?_
  rintro e w4 ⟨fm, rfl, hf, r4', g4'⟩
  have R4 := R4.grown g4' (fun g e => by cases e; omega)
  have R5 := R5.grown g4' (fun g e => by cases e; omega)
  have bel := bel_rd bel g4' (by omega)
  have r4 := r4'
  clear r4' g4'
  have CA := hid (fun w' h => acc_any fm hf rb ca cc cs w' h)
  have hf2 : fmtB (96 - fm) = true := by rcases fmt_cases hf with rfl | rfl <;> decide
  have hw : IntKind.i64.wrap (96 - fm) = 96 - fm := by rcases fmt_cases hf with rfl | rfl <;> decide
  have hw2 : wrap64 (96 - fm) = 96 - fm := by rcases fmt_cases hf with rfl | rfl <;> (unfold wrap64; omega)
  have CB := hid (fun w' h => acc_any (96 - fm) hf2 rb ca cc cs w' h)
  clear hf hf2
  go_wp2_with fail
  refine (CA.out _ r4).mono ?_
  rintro e w4 ⟨F, s, a, c, rfl, T0, T1, l1, o4, r4', g4'⟩
  have hB := r4.lt
  have hBw := g4'.size
  have R4 := R4.grown g4' (fun g e => by cases e; omega)
  have R5 := R5.grown g4' (fun g e => by cases e; omega)
  have bel := bel_rd bel g4' (by omega)
  have r4 := r4'
  clear r4' g4'
  obtain ⟨B4, o4, hB4, hBw4⟩ : ∃ B4, Own w4 B4 a c (Nm.wl s.z) ∧ rb < B4 ∧ B4 ≤ w4.heap.size := ⟨_, o4, hB, hBw⟩
  clear hB hBw
  have A4 := Q9.new w4 (.int .i64 F) (.bool (Nm.wn s.z)) (.slice a (Nm.wl s.z).length c) (.int .i64 s.T) (.bool s.nn) (.bool s.bd) (.bool s.pl) (.bool s.mi) (.bool s.am) 50
  have hA4 := r4.lt
  have R4 := R4.alloc (.cells #[.int .i64 F, .bool (Nm.wn s.z), .slice a (Nm.wl s.z).length c, .int .i64 s.T, .bool s.nn, .bool s.bd, .bool s.pl, .bool s.mi, .bool s.am] 50)
  have R5 := R5.alloc (.cells #[.int .i64 F, .bool (Nm.wn s.z), .slice a (Nm.wl s.z).length c, .int .i64 s.T, .bool s.nn, .bool s.bd, .bool s.pl, .bool s.mi, .bool s.am] 50)
  have o4 := o4.alloc (.cells #[.int .i64 F, .bool (Nm.wn s.z), .slice a (Nm.wl s.z).length c, .int .i64 s.T, .bool s.nn, .bool s.bd, .bool s.pl, .bool s.mi, .bool s.am] 50)
  have r4 := r4.alloc (.cells #[.int .i64 F, .bool (Nm.wn s.z), .slice a (Nm.wl s.z).length c, .int .i64 s.T, .bool s.nn, .bool s.bd, .bool s.pl, .bool s.mi, .bool s.am] 50)
  have bel := bel_al bel (.cells #[.int .i64 F, .bool (Nm.wn s.z), .slice a (Nm.wl s.z).length c, .int .i64 s.T, .bool s.nn, .bool s.bd, .bool s.pl, .bool s.mi, .bool s.am] 50)
  have hBw4 : B4 ≤ (w4.alloc (.cells #[.int .i64 F, .bool (Nm.wn s.z), .slice a (Nm.wl s.z).length c, .int .i64 s.T, .bool s.nn, .bool s.bd, .bool s.pl, .bool s.mi, .bool s.am] 50)).heap.size := by simp; omega
  go_wp2_with fail
  refine (once_any rb ca cc cs 16 _ r4 (by decide) (by decide)).mono ?_
  rintro e w4 ⟨b16, rfl, r4', g4'⟩
  have R4 := R4.grown g4' (fun g e => by cases e; omega)
  have R5 := R5.grown g4' (fun g e => by cases e; omega)
  have A4 := A4.grown g4' (fun g e => by cases e; exact Nat.ne_of_gt hA4)
  have o4 := Own.rd o4 g4' hB4
  have hBw4 := Nat.le_trans hBw4 g4'.size
  have bel := bel_rd bel g4' (by omega)
  have r4 := r4'
  clear r4' g4'
  cases b16
  · clear hw hw2
    obtain ⟨k0, k1, k2, k3, k4, k5, k6, k7, k8, -, -, -, -, -, -, -, -, -⟩ := A4
    go_wp2_with fail
    refine (hurtAcc_any F (Nm.wn s.z) (Nm.wl s.z) s.T s.nn s.bd s.pl s.mi s.am a c B4 rb ca cc cs _ r4 o4 hB4 hBw4 (Nm.wl_dg _) l1 T0 T1).mono ?_
    rintro e w4 ⟨F', ng', zs', T', nn', bd', pl', mi', am', a', c', rfl, l', d', o', r4', g4'⟩
    have R4 := R4.grown g4' (fun g e => by cases e; omega)
    have R5 := R5.grown g4' (fun g e => by cases e; omega)
    have hBw4 := Nat.le_trans hBw4 g4'.size
    have bel := bel_rd bel g4' (by omega)
    have r4 := r4'
    clear r4' g4'
    clear o4 T0 T1 l1 hA4 k0 k1 k2 k3 k4 k5 k6 k7 k8
    have ho' := hB4
    go_wp2_with fail
    refine (CA.out _ r4).mono ?_
    rintro e w4 ⟨F5, s5, a5, c5, rfl, T0, T1, l1, o5, r4', g4'⟩
    have hB := r4.lt
    have hBw := g4'.size
    have R4 := R4.grown g4' (fun g e => by cases e; omega)
    have R5 := R5.grown g4' (fun g e => by cases e; omega)
    have o' := Own.rd o' g4' ho'
    have bel := bel_rd bel g4' (by omega)
    have r4 := r4'
    clear r4' g4'
    obtain ⟨B5, o5, hB5, hBw5⟩ : ∃ B5, Own w4 B5 a5 c5 (Nm.wl s5.z) ∧ rb < B5 ∧ B5 ≤ w4.heap.size := ⟨_, o5, hB, hBw⟩
    clear hB hBw
    go_wp2_with fail
    refine (hurtAcc_any F5 (Nm.wn s5.z) (Nm.wl s5.z) s5.T s5.nn s5.bd s5.pl s5.mi s5.am a5 c5 B5 rb ca cc cs _ r4 o5 hB5 hBw5 (Nm.wl_dg _) l1 T0 T1).mono ?_
    rintro e w4 ⟨F3, ng3, zs3, T3', nn3, bd3, pl3, mi3, am3, a3, c3, rfl, l3, d3, o3, r4', g4'⟩
    have R4 := R4.grown g4' (fun g e => by cases e; omega)
    have R5 := R5.grown g4' (fun g e => by cases e; omega)
    have o' := Own.rd o' g4' ho'
    have bel := bel_rd bel g4' (by omega)
    have r4 := r4'
    clear r4' g4'
    clear o5 T0 T1 l1
    have hwb : w.heap.size + 1 < B4 := by omega
    have hwc : w.heap.size + 1 < B5 := by omega
    obtain ⟨y0, y1, y2, y3, y4, y5, y6, y7, y8, z0, z1, z2, z3, z4, z5, z6, z7, z8⟩ := R4
    obtain ⟨p0, p1, p2, p3, p4, p5, p6, p7, p8, q0, q1, q2, q3, q4, q5, q6, q7, q8⟩ := R5
    go_wp2
    exact bodyPost_ret (v := .tuple #[.agg #[.int .i64 F', .bool ng', .slice a' zs'.length c', .int .i64 T', .bool nn', .bool bd', .bool pl', .bool mi', .bool am'], .agg #[.int .i64 F3, .bool ng3, .slice a3 zs3.length c3, .int .i64 T3', .bool nn3, .bool bd3, .bool pl3, .bool mi3, .bool am3]]) (by simp [results, Tryz.results43, go_sem, y0, y1, y2, y3, y4, y5, y6, y7, y8, z0, z1, z2, z3, z4, z5, z6, z7, z8, p0, p1, p2, p3, p4, p5, p6, p7, p8, q0, q1, q2, q3, q4, q5, q6, q7, q8]) rfl ⟨F', ng', zs', T', nn', bd', pl', mi', am', a', c', F3, ng3, zs3, T3', nn3, bd3, pl3, mi3, am3, a3, c3, rfl, l', d', Own.base (Own.setBelow (Own.setBelow (Own.setBelow (Own.setBelow (Own.setBelow (Own.setBelow (Own.setBelow (Own.setBelow (Own.setBelow (Own.setBelow (Own.setBelow (Own.setBelow (Own.setBelow (Own.setBelow (Own.setBelow (Own.setBelow (Own.setBelow (Own.setBelow o' (p := ⟨w.heap.size, 0, none⟩) (Nat.lt_of_succ_lt hwb) (.int .i64 F')) (p := ⟨w.heap.size, 1, none⟩) (Nat.lt_of_succ_lt hwb) (.bool ng')) (p := ⟨w.heap.size, 2, none⟩) (Nat.lt_of_succ_lt hwb) (.slice a' zs'.length c')) (p := ⟨w.heap.size, 3, none⟩) (Nat.lt_of_succ_lt hwb) (.int .i64 T')) (p := ⟨w.heap.size, 4, none⟩) (Nat.lt_of_succ_lt hwb) (.bool nn')) (p := ⟨w.heap.size, 5, none⟩) (Nat.lt_of_succ_lt hwb) (.bool bd')) (p := ⟨w.heap.size, 6, none⟩) (Nat.lt_of_succ_lt hwb) (.bool pl')) (p := ⟨w.heap.size, 7, none⟩) (Nat.lt_of_succ_lt hwb) (.bool mi')) (p := ⟨w.heap.size, 8, none⟩) (Nat.lt_of_succ_lt hwb) (.bool am')) (p := ⟨w.heap.size + 1, 0, none⟩) hwb (.int .i64 F3)) (p := ⟨w.heap.size + 1, 1, none⟩) hwb (.bool ng3)) (p := ⟨w.heap.size + 1, 2, none⟩) hwb (.slice a3 zs3.length c3)) (p := ⟨w.heap.size + 1, 3, none⟩) hwb (.int .i64 T3')) (p := ⟨w.heap.size + 1, 4, none⟩) hwb (.bool nn3)) (p := ⟨w.heap.size + 1, 5, none⟩) hwb (.bool bd3)) (p := ⟨w.heap.size + 1, 6, none⟩) hwb (.bool pl3)) (p := ⟨w.heap.size + 1, 7, none⟩) hwb (.bool mi3)) (p := ⟨w.heap.size + 1, 8, none⟩) hwb (.bool am3)) (by omega), l3, d3, Own.base (Own.setBelow (Own.setBelow (Own.setBelow (Own.setBelow (Own.setBelow (Own.setBelow (Own.setBelow (Own.setBelow (Own.setBelow (Own.setBelow (Own.setBelow (Own.setBelow (Own.setBelow (Own.setBelow (Own.setBelow (Own.setBelow (Own.setBelow (Own.setBelow o3 (p := ⟨w.heap.size, 0, none⟩) (Nat.lt_of_succ_lt hwc) (.int .i64 F')) (p := ⟨w.heap.size, 1, none⟩) (Nat.lt_of_succ_lt hwc) (.bool ng')) (p := ⟨w.heap.size, 2, none⟩) (Nat.lt_of_succ_lt hwc) (.slice a' zs'.length c')) (p := ⟨w.heap.size, 3, none⟩) (Nat.lt_of_succ_lt hwc) (.int .i64 T')) (p := ⟨w.heap.size, 4, none⟩) (Nat.lt_of_succ_lt hwc) (.bool nn')) (p := ⟨w.heap.size, 5, none⟩) (Nat.lt_of_succ_lt hwc) (.bool bd')) (p := ⟨w.heap.size, 6, none⟩) (Nat.lt_of_succ_lt hwc) (.bool pl')) (p := ⟨w.heap.size, 7, none⟩) (Nat.lt_of_succ_lt hwc) (.bool mi')) (p := ⟨w.heap.size, 8, none⟩) (Nat.lt_of_succ_lt hwc) (.bool am')) (p := ⟨w.heap.size + 1, 0, none⟩) hwc (.int .i64 F3)) (p := ⟨w.heap.size + 1, 1, none⟩) hwc (.bool ng3)) (p := ⟨w.heap.size + 1, 2, none⟩) hwc (.slice a3 zs3.length c3)) (p := ⟨w.heap.size + 1, 3, none⟩) hwc (.int .i64 T3')) (p := ⟨w.heap.size + 1, 4, none⟩) hwc (.bool nn3)) (p := ⟨w.heap.size + 1, 5, none⟩) hwc (.bool bd3)) (p := ⟨w.heap.size + 1, 6, none⟩) hwc (.bool pl3)) (p := ⟨w.heap.size + 1, 7, none⟩) hwc (.bool mi3)) (p := ⟨w.heap.size + 1, 8, none⟩) hwc (.bool am3)) (by omega), (Below.setCell (Below.setCell (Below.setCell (Below.setCell (Below.setCell (Below.setCell (Below.setCell (Below.setCell (Below.setCell (Below.setCell (Below.setCell (Below.setCell (Below.setCell (Below.setCell (Below.setCell (Below.setCell (Below.setCell (Below.setCell bel (p := ⟨w.heap.size, 0, none⟩) (Nat.le_refl _) (.int .i64 F')) (p := ⟨w.heap.size, 1, none⟩) (Nat.le_refl _) (.bool ng')) (p := ⟨w.heap.size, 2, none⟩) (Nat.le_refl _) (.slice a' zs'.length c')) (p := ⟨w.heap.size, 3, none⟩) (Nat.le_refl _) (.int .i64 T')) (p := ⟨w.heap.size, 4, none⟩) (Nat.le_refl _) (.bool nn')) (p := ⟨w.heap.size, 5, none⟩) (Nat.le_refl _) (.bool bd')) (p := ⟨w.heap.size, 6, none⟩) (Nat.le_refl _) (.bool pl')) (p := ⟨w.heap.size, 7, none⟩) (Nat.le_refl _) (.bool mi')) (p := ⟨w.heap.size, 8, none⟩) (Nat.le_refl _) (.bool am')) (p := ⟨w.heap.size + 1, 0, none⟩) (Nat.le_succ _) (.int .i64 F3)) (p := ⟨w.heap.size + 1, 1, none⟩) (Nat.le_succ _) (.bool ng3)) (p := ⟨w.heap.size + 1, 2, none⟩) (Nat.le_succ _) (.slice a3 zs3.length c3)) (p := ⟨w.heap.size + 1, 3, none⟩) (Nat.le_succ _) (.int .i64 T3')) (p := ⟨w.heap.size + 1, 4, none⟩) (Nat.le_succ _) (.bool nn3)) (p := ⟨w.heap.size + 1, 5, none⟩) (Nat.le_succ _) (.bool bd3)) (p := ⟨w.heap.size + 1, 6, none⟩) (Nat.le_succ _) (.bool pl3)) (p := ⟨w.heap.size + 1, 7, none⟩) (Nat.le_succ _) (.bool mi3)) (p := ⟨w.heap.size + 1, 8, none⟩) (Nat.le_succ _) (.bool am3))⟩
  · obtain ⟨k0, k1, k2, k3, k4, k5, k6, k7, k8, -, -, -, -, -, -, -, -, -⟩ := A4
    go_wp2_with fail
    refine (hurtAcc_any F (Nm.wn s.z) (Nm.wl s.z) s.T s.nn s.bd s.pl s.mi s.am a c B4 rb ca cc cs _ r4 o4 hB4 hBw4 (Nm.wl_dg _) l1 T0 T1).mono ?_
    rintro e w4 ⟨F', ng', zs', T', nn', bd', pl', mi', am', a', c', rfl, l', d', o', r4', g4'⟩
    have R4 := R4.grown g4' (fun g e => by cases e; omega)
    have R5 := R5.grown g4' (fun g e => by cases e; omega)
    have hBw4 := Nat.le_trans hBw4 g4'.size
    have bel := bel_rd bel g4' (by omega)
    have r4 := r4'
    clear r4' g4'
    clear o4 T0 T1 l1 hA4 k0 k1 k2 k3 k4 k5 k6 k7 k8
    have ho' := hB4
    go_wp2_with fail
    refine (CB.out _ r4).mono ?_
    rintro e w4 ⟨F5, s5, a5, c5, rfl, T0, T1, l1, o5, r4', g4'⟩
    have hB := r4.lt
    have hBw := g4'.size
    have R4 := R4.grown g4' (fun g e => by cases e; omega)
    have R5 := R5.grown g4' (fun g e => by cases e; omega)
    have o' := Own.rd o' g4' ho'
    have bel := bel_rd bel g4' (by omega)
    have r4 := r4'
    clear r4' g4'
    obtain ⟨B5, o5, hB5, hBw5⟩ : ∃ B5, Own w4 B5 a5 c5 (Nm.wl s5.z) ∧ rb < B5 ∧ B5 ≤ w4.heap.size := ⟨_, o5, hB, hBw⟩
    clear hB hBw
    go_wp2_with fail
    refine (hurtAcc_any F5 (Nm.wn s5.z) (Nm.wl s5.z) s5.T s5.nn s5.bd s5.pl s5.mi s5.am a5 c5 B5 rb ca cc cs _ r4 o5 hB5 hBw5 (Nm.wl_dg _) l1 T0 T1).mono ?_
    rintro e w4 ⟨F3, ng3, zs3, T3', nn3, bd3, pl3, mi3, am3, a3, c3, rfl, l3, d3, o3, r4', g4'⟩
    have R4 := R4.grown g4' (fun g e => by cases e; omega)
    have R5 := R5.grown g4' (fun g e => by cases e; omega)
    have o' := Own.rd o' g4' ho'
    have bel := bel_rd bel g4' (by omega)
    have r4 := r4'
    clear r4' g4'
    clear o5 T0 T1 l1
    have hwb : w.heap.size + 1 < B4 := by omega
    have hwc : w.heap.size + 1 < B5 := by omega
    obtain ⟨y0, y1, y2, y3, y4, y5, y6, y7, y8, z0, z1, z2, z3, z4, z5, z6, z7, z8⟩ := R4
    obtain ⟨p0, p1, p2, p3, p4, p5, p6, p7, p8, q0, q1, q2, q3, q4, q5, q6, q7, q8⟩ := R5
    go_wp2
    exact bodyPost_ret (v := .tuple #[.agg #[.int .i64 F', .bool ng', .slice a' zs'.length c', .int .i64 T', .bool nn', .bool bd', .bool pl', .bool mi', .bool am'], .agg #[.int .i64 F3, .bool ng3, .slice a3 zs3.length c3, .int .i64 T3', .bool nn3, .bool bd3, .bool pl3, .bool mi3, .bool am3]]) (by simp [results, Tryz.results43, go_sem, y0, y1, y2, y3, y4, y5, y6, y7, y8, z0, z1, z2, z3, z4, z5, z6, z7, z8, p0, p1, p2, p3, p4, p5, p6, p7, p8, q0, q1, q2, q3, q4, q5, q6, q7, q8]) rfl ⟨F', ng', zs', T', nn', bd', pl', mi', am', a', c', F3, ng3, zs3, T3', nn3, bd3, pl3, mi3, am3, a3, c3, rfl, l', d', Own.base (Own.setBelow (Own.setBelow (Own.setBelow (Own.setBelow (Own.setBelow (Own.setBelow (Own.setBelow (Own.setBelow (Own.setBelow (Own.setBelow (Own.setBelow (Own.setBelow (Own.setBelow (Own.setBelow (Own.setBelow (Own.setBelow (Own.setBelow (Own.setBelow o' (p := ⟨w.heap.size, 0, none⟩) (Nat.lt_of_succ_lt hwb) (.int .i64 F')) (p := ⟨w.heap.size, 1, none⟩) (Nat.lt_of_succ_lt hwb) (.bool ng')) (p := ⟨w.heap.size, 2, none⟩) (Nat.lt_of_succ_lt hwb) (.slice a' zs'.length c')) (p := ⟨w.heap.size, 3, none⟩) (Nat.lt_of_succ_lt hwb) (.int .i64 T')) (p := ⟨w.heap.size, 4, none⟩) (Nat.lt_of_succ_lt hwb) (.bool nn')) (p := ⟨w.heap.size, 5, none⟩) (Nat.lt_of_succ_lt hwb) (.bool bd')) (p := ⟨w.heap.size, 6, none⟩) (Nat.lt_of_succ_lt hwb) (.bool pl')) (p := ⟨w.heap.size, 7, none⟩) (Nat.lt_of_succ_lt hwb) (.bool mi')) (p := ⟨w.heap.size, 8, none⟩) (Nat.lt_of_succ_lt hwb) (.bool am')) (p := ⟨w.heap.size + 1, 0, none⟩) hwb (.int .i64 F3)) (p := ⟨w.heap.size + 1, 1, none⟩) hwb (.bool ng3)) (p := ⟨w.heap.size + 1, 2, none⟩) hwb (.slice a3 zs3.length c3)) (p := ⟨w.heap.size + 1, 3, none⟩) hwb (.int .i64 T3')) (p := ⟨w.heap.size + 1, 4, none⟩) hwb (.bool nn3)) (p := ⟨w.heap.size + 1, 5, none⟩) hwb (.bool bd3)) (p := ⟨w.heap.size + 1, 6, none⟩) hwb (.bool pl3)) (p := ⟨w.heap.size + 1, 7, none⟩) hwb (.bool mi3)) (p := ⟨w.heap.size + 1, 8, none⟩) hwb (.bool am3)) (by omega), l3, d3, Own.base (Own.setBelow (Own.setBelow (Own.setBelow (Own.setBelow (Own.setBelow (Own.setBelow (Own.setBelow (Own.setBelow (Own.setBelow (Own.setBelow (Own.setBelow (Own.setBelow (Own.setBelow (Own.setBelow (Own.setBelow (Own.setBelow (Own.setBelow (Own.setBelow o3 (p := ⟨w.heap.size, 0, none⟩) (Nat.lt_of_succ_lt hwc) (.int .i64 F')) (p := ⟨w.heap.size, 1, none⟩) (Nat.lt_of_succ_lt hwc) (.bool ng')) (p := ⟨w.heap.size, 2, none⟩) (Nat.lt_of_succ_lt hwc) (.slice a' zs'.length c')) (p := ⟨w.heap.size, 3, none⟩) (Nat.lt_of_succ_lt hwc) (.int .i64 T')) (p := ⟨w.heap.size, 4, none⟩) (Nat.lt_of_succ_lt hwc) (.bool nn')) (p := ⟨w.heap.size, 5, none⟩) (Nat.lt_of_succ_lt hwc) (.bool bd')) (p := ⟨w.heap.size, 6, none⟩) (Nat.lt_of_succ_lt hwc) (.bool pl')) (p := ⟨w.heap.size, 7, none⟩) (Nat.lt_of_succ_lt hwc) (.bool mi')) (p := ⟨w.heap.size, 8, none⟩) (Nat.lt_of_succ_lt hwc) (.bool am')) (p := ⟨w.heap.size + 1, 0, none⟩) hwc (.int .i64 F3)) (p := ⟨w.heap.size + 1, 1, none⟩) hwc (.bool ng3)) (p := ⟨w.heap.size + 1, 2, none⟩) hwc (.slice a3 zs3.length c3)) (p := ⟨w.heap.size + 1, 3, none⟩) hwc (.int .i64 T3')) (p := ⟨w.heap.size + 1, 4, none⟩) hwc (.bool nn3)) (p := ⟨w.heap.size + 1, 5, none⟩) hwc (.bool bd3)) (p := ⟨w.heap.size + 1, 6, none⟩) hwc (.bool pl3)) (p := ⟨w.heap.size + 1, 7, none⟩) hwc (.bool mi3)) (p := ⟨w.heap.size + 1, 8, none⟩) hwc (.bool am3)) (by omega), (Below.setCell (Below.setCell (Below.setCell (Below.setCell (Below.setCell (Below.setCell (Below.setCell (Below.setCell (Below.setCell (Below.setCell (Below.setCell (Below.setCell (Below.setCell (Below.setCell (Below.setCell (Below.setCell (Below.setCell (Below.setCell bel (p := ⟨w.heap.size, 0, none⟩) (Nat.le_refl _) (.int .i64 F')) (p := ⟨w.heap.size, 1, none⟩) (Nat.le_refl _) (.bool ng')) (p := ⟨w.heap.size, 2, none⟩) (Nat.le_refl _) (.slice a' zs'.length c')) (p := ⟨w.heap.size, 3, none⟩) (Nat.le_refl _) (.int .i64 T')) (p := ⟨w.heap.size, 4, none⟩) (Nat.le_refl _) (.bool nn')) (p := ⟨w.heap.size, 5, none⟩) (Nat.le_refl _) (.bool bd')) (p := ⟨w.heap.size, 6, none⟩) (Nat.le_refl _) (.bool pl')) (p := ⟨w.heap.size, 7, none⟩) (Nat.le_refl _) (.bool mi')) (p := ⟨w.heap.size, 8, none⟩) (Nat.le_refl _) (.bool am')) (p := ⟨w.heap.size + 1, 0, none⟩) (Nat.le_succ _) (.int .i64 F3)) (p := ⟨w.heap.size + 1, 1, none⟩) (Nat.le_succ _) (.bool ng3)) (p := ⟨w.heap.size + 1, 2, none⟩) (Nat.le_succ _) (.slice a3 zs3.length c3)) (p := ⟨w.heap.size + 1, 3, none⟩) (Nat.le_succ _) (.int .i64 T3')) (p := ⟨w.heap.size + 1, 4, none⟩) (Nat.le_succ _) (.bool nn3)) (p := ⟨w.heap.size + 1, 5, none⟩) (Nat.le_succ _) (.bool bd3)) (p := ⟨w.heap.size + 1, 6, none⟩) (Nat.le_succ _) (.bool pl3)) (p := ⟨w.heap.size + 1, 7, none⟩) (Nat.le_succ _) (.bool mi3)) (p := ⟨w.heap.size + 1, 8, none⟩) (Nat.le_succ _) (.bool am3))⟩
end Fd
end Go.Proofs.YtkfjmcdniohljaaGreatDoor
