/-
  What is needed of ND.
-/
import Derived.Test.YtkfjmcdniohljaaGreatDoorE50
import Derived.Test.YtkfjmcdniohljaaGreatDoorE52
set_option maxHeartbeats 16000000
set_option maxRecDepth 1000000
namespace Go.Proofs.YtkfjmcdniohljaaGreatDoor
set_option linter.unusedVariables false
set_option linter.unusedSimpArgs false
open Go.RowKit Go.Deep
theorem tcode (fm : Int) (ng : Bool) (T : Int) (nn bd pl mi am : Bool) (p : Option Addr) (cap : Nat) (zs : List Int) (q : Option Addr) (qc : Nat) (xs : List Int) (w : World) (hT : Tab w) (hs : Sl .u32 w (.slice p zs.length cap) zs) (hl : zs.length ≤ 1048576) (hx : Sl .u64 w (.slice q xs.length qc) xs) (dx : D64 xs) (hlx : xs.length ≤ 1048576) (c : Int) (hc : c = tcC (accB fm ng zs T nn bd pl mi am) (allB fm xs) T) :
    Calls Tryz.prog 121 #[.agg #[.int .i64 fm, .bool ng, .slice p zs.length cap, .int .i64 T, .bool nn, .bool bd, .bool pl, .bool mi, .bool am], .slice q xs.length qc] w fun e w' => e = .returned (.int .i64 c) ∧ Below w.heap.size w w' := by
  have C1 := hid (fun w' h h' => accok_impl fm ng T nn bd pl mi am p cap zs w' h h' hl)
  have C2 := hid (fun w' h h' => allf_impl fm q qc xs w' h h' dx hlx)
  have Q := Q9.new w (.int .i64 fm) (.bool ng) (.slice p zs.length cap) (.int .i64 T) (.bool nn) (.bool bd) (.bool pl) (.bool mi) (.bool am) 50
  have bel0 : Below w.heap.size w (w.alloc (.cells #[.int .i64 fm, .bool ng, .slice p zs.length cap, .int .i64 T, .bool nn, .bool bd, .bool pl, .bool mi, .bool am] 50)) := (by repeat (first | exact bz0 _ _ | refine bz1 ?_ | refine bz2 ?_ _ | refine bz3 ?_ _ | refine bz5 ?_ _ | refine bz6 ?_ _))
  unfold tcC at hc
  cases h1 : accB fm ng zs T nn bd pl mi am
  · rw [h1] at C1 hc
    have hc' : c = 1 := hc
    subst hc'
    clear hc h1 dx
    go_enter Tryz.func121, Tryz.ntmps121
    go_wp2_with fail
    refine (C1.out _ (hT.below bel0) (hs.below bel0)).mono ?_
    rintro e w1 ⟨rfl, hb1⟩
    go_wp2
    go_ret
    exact ⟨rfl, bel_go bel0 hb1⟩
  rw [h1] at C1 hc
  cases h2 : allB fm xs
  · rw [h2] at C2 hc
    have hc' : c = 2 := hc
    subst hc'
    clear hc h1 h2 dx
    go_enter Tryz.func121, Tryz.ntmps121
    go_wp2_with fail
    refine (C1.out _ (hT.below bel0) (hs.below bel0)).mono ?_
    rintro e w1 ⟨rfl, hb1⟩
    have bel1 := bel_go bel0 hb1
    have c0 := (Q.below hb1).c0
    go_wp2_with fail
    refine (C2.out _ (hT.below bel1) (hx.below bel1)).mono ?_
    rintro e w2 ⟨rfl, hb2⟩
    go_wp2
    go_ret
    exact ⟨rfl, bel_go bel1 hb2⟩
  rw [h2] at C2 hc
  by_cases h3 : T = 1000000
  · have hc' : c = 3 := by rw [hc, if_pos rfl, if_pos rfl, if_pos h3]
    subst hc' h3
    clear hc h1 h2 dx
    go_enter Tryz.func121, Tryz.ntmps121
    go_wp2_with fail
    refine (C1.out _ (hT.below bel0) (hs.below bel0)).mono ?_
    rintro e w1 ⟨rfl, hb1⟩
    have bel1 := bel_go bel0 hb1
    have c0 := (Q.below hb1).c0
    go_wp2_with fail
    refine (C2.out _ (hT.below bel1) (hx.below bel1)).mono ?_
    rintro e w2 ⟨rfl, hb2⟩
    have c3 := ((Q.below hb1).below hb2).c3
    go_wp2
    go_ret
    exact ⟨rfl, bel_go bel1 hb2⟩
  · have hc' : c = 0 := by rw [hc, if_pos rfl, if_pos rfl, if_neg h3]
    subst hc'
    have h3' : (T == 1000000) = false := by simpa using h3
    clear hc h1 h2 h3 dx
    go_enter Tryz.func121, Tryz.ntmps121
    go_wp2_with fail
    refine (C1.out _ (hT.below bel0) (hs.below bel0)).mono ?_
    rintro e w1 ⟨rfl, hb1⟩
    have bel1 := bel_go bel0 hb1
    have c0 := (Q.below hb1).c0
    go_wp2_with fail
    refine (C2.out _ (hT.below bel1) (hx.below bel1)).mono ?_
    rintro e w2 ⟨rfl, hb2⟩
    have c3 := ((Q.below hb1).below hb2).c3
    go_wp2
    go_ret
    exact ⟨rfl, bel_go bel1 hb2⟩
theorem cell_top (W : World) (v : Value) (t : TypeId) (n : Nat) (hn : n = W.heap.size) : (W.alloc (.cells #[v] t)).cell? ⟨n, 0, none⟩ = some v := by subst hn; simp
theorem keep95 {w : World} {B b b' : Nat} {v0 v1 v2 v3 v4 v5 v6 v7 v8 y0 y1 y2 y3 y4 : Value} (h : Q9 w b v0 v1 v2 v3 v4 v5 v6 v7 v8) (h' : Q5 w b' y0 y1 y2 y3 y4) (n : b ≠ B) (n' : b' ≠ B) (u0 u1 u2 u3 u4 u5 u6 u7 u8 : Value) (W : World) (hW : W = (((((((((w.setCell ⟨B, 0, none⟩ u0).setCell ⟨B, 1, none⟩ u1).setCell ⟨B, 2, none⟩ u2).setCell ⟨B, 3, none⟩ u3).setCell ⟨B, 4, none⟩ u4).setCell ⟨B, 5, none⟩ u5).setCell ⟨B, 6, none⟩ u6).setCell ⟨B, 7, none⟩ u7).setCell ⟨B, 8, none⟩ u8)) :
    (W.cell? ⟨b, 0, none⟩ = some v0 ∧ W.cell? ⟨b, 1, none⟩ = some v1 ∧ W.cell? ⟨b, 2, none⟩ = some v2 ∧ W.cell? ⟨b, 3, none⟩ = some v3 ∧ W.cell? ⟨b, 4, none⟩ = some v4 ∧ W.cell? ⟨b, 5, none⟩ = some v5 ∧ W.cell? ⟨b, 6, none⟩ = some v6 ∧ W.cell? ⟨b, 7, none⟩ = some v7 ∧ W.cell? ⟨b, 8, none⟩ = some v8) ∧ (W.cell? ⟨b', 0, none⟩ = some y0 ∧ W.cell? ⟨b', 1, none⟩ = some y1 ∧ W.cell? ⟨b', 2, none⟩ = some y2 ∧ W.cell? ⟨b', 3, none⟩ = some y3 ∧ W.cell? ⟨b', 4, none⟩ = some y4) := by
  subst hW
  exact ⟨(h.of_block (heap9n w B b n u0 u1 u2 u3 u4 u5 u6 u7 u8)).cs, (h'.of_block (heap9n w B b' n' u0 u1 u2 u3 u4 u5 u6 u7 u8)).cs⟩
/-- What an accumulator with one term more is, by the program: out of what the float is as a number, and as a tally. -/
theorem add_core (fm : Int) (ng : Bool) (T : Int) (nn bd pl mi am : Bool) (p : Option Addr) (cap : Nat) (zs : List Int) (x : Int) (u : Value) (w : World) (hT : Tab w) (hg : EA.ErrT w) (hq : ErrQ w u) (hs : Sl .u32 w (.slice p zs.length cap) zs) (hz : Nm.Dg zs) (hk : accB fm ng zs T nn bd pl mi am = true) (hx : okF fm x = true) (x0 : 0 ≤ x) (x1 : x < 18446744073709551616) (hTm : T ≠ 1000000)
    (neg inf G : Bool) (L : List Int) (e : Int) (ev : Value) (m1 m2 m3 m4 m5 G2 : Bool) (L2 : List Int) (d2 : Nm.Dg L2) (ho2 : okB G2 L2 = true) (y : Int) (hy : y = Nm.wv ng zs + Nm.wv G2 L2) (hf : Nm.fits y = true)
    (hn : ∀ w' : World, Tab w' → ErrQ w' u → Calls Tryz.prog 90 #[.int .i64 fm, .int .u64 x] w' fun r w'' => ∃ a' c', r = .returned (.tuple #[.agg #[.bool neg, .bool inf, .bool G, .slice a' L.length c', .int .i64 e], ev]) ∧ Sl .u32 w'' (.slice a' L.length c') L ∧ Below w'.heap.size w' w'')
    (ht : ∀ (a' : Option Addr) (c' : Nat) (w' : World), Tab w' → EA.ErrT w' → Sl .u32 w' (.slice a' L.length c') L → Calls Tryz.prog 124 #[.int .i64 fm, .agg #[.bool neg, .bool inf, .bool G, .slice a' L.length c', .int .i64 e], ev] w' fun r w'' => ∃ a'' c'', r = .returned (.agg #[.int .i64 1, .bool m1, .bool m2, .bool m3, .bool m4, .bool m5, .int .i64 fm, .bool G2, .slice a'' L2.length c'']) ∧ Own w'' w'.heap.size a'' c'' L2 ∧ Below w'.heap.size w' w'') :
    Calls Tryz.prog 33 #[.agg #[.int .i64 fm, .bool ng, .slice p zs.length cap, .int .i64 T, .bool nn, .bool bd, .bool pl, .bool mi, .bool am], .int .u64 x] w fun r w' => ∃ a' c', r = .returned (.tuple #[.agg #[.int .i64 fm, .bool (Nm.wn y), .slice a' (Nm.wl y).length c', .int .i64 (T + 1), .bool (nn || m1), .bool (bd || m2), .bool (pl || m3), .bool (mi || m4), .bool (amW T am 1 m5)], .int .i64 0]) ∧ Own w' w.heap.size a' c' (Nm.wl y) ∧ Below w.heap.size w w' := by
  obtain ⟨-, hk1, ho1, -⟩ := acc_parts hk
  have hl := (okB_nz ho1).2
  have dx : D64 [x] := fun z hz => by rw [List.mem_singleton.1 hz]; exact ⟨x0, x1⟩
  have hall : allB fm [x] = true := by unfold allB; rw [List.all_cons, hx]; rfl
  have CC := hid (fun q qc w' h h' h'' => tcode fm ng T nn bd pl mi am p cap zs q qc [x] w' h h' (by omega) h'' dx (by simp) 0 (by unfold tcC; rw [hk, hall, if_pos rfl, if_pos rfl, if_neg hTm]))
  have CN := hid hn
  have CO := hid ht
  have CW := hid (fun a' c' w' h h' => twith fm ng T nn bd pl mi am fm G2 1 m1 m2 m3 m4 m5 p a' cap c' zs L2 w' h h' hz d2 hk1 (by decide) (by decide) ho1 ho2 y hy hf)
  have CT := hid (fun w' => tally_any fm ng T nn bd pl mi am p zs.length cap w')
  obtain ⟨T2, hT2⟩ : ∃ T2, T2 = T + 1 := ⟨_, rfl⟩
  obtain ⟨n2, hn2⟩ : ∃ n2, n2 = (nn || m1) := ⟨_, rfl⟩
  obtain ⟨b2, hb2'⟩ : ∃ b2, b2 = (bd || m2) := ⟨_, rfl⟩
  obtain ⟨p2, hp2⟩ : ∃ p2, p2 = (pl || m3) := ⟨_, rfl⟩
  obtain ⟨i2, hm2⟩ : ∃ i2, i2 = (mi || m4) := ⟨_, rfl⟩
  obtain ⟨a2, ha2⟩ : ∃ a2, a2 = amW T am 1 m5 := ⟨_, rfl⟩
  obtain ⟨GG, hG⟩ : ∃ GG, GG = Nm.wn y := ⟨_, rfl⟩
  obtain ⟨LL, hL⟩ : ∃ LL, LL = Nm.wl y := ⟨_, rfl⟩
  rw [← hT2, ← hn2, ← hb2', ← hp2, ← hm2, ← ha2, ← hG, ← hL] at CW
  rw [← hT2, ← hn2, ← hb2', ← hp2, ← hm2, ← ha2, ← hG, ← hL]
  have CA := hid (fun a c w' => tacc fm GG T2 n2 b2 p2 i2 a2 (.slice a LL.length c) w' ⟨_, _, _, rfl⟩)
  clear hT2 hn2 hb2' hp2 hm2 ha2 hG hL hk1 ho1 hy hf hz hk hn ht hx hall dx hTm
  have Q := (Q9.new w (.int .i64 fm) (.bool ng) (.slice p zs.length cap) (.int .i64 T) (.bool nn) (.bool bd) (.bool pl) (.bool mi) (.bool am) 50).alloc (.cells #[.int .i64 0, .bool false, .slice none 0 0, .int .i64 0, .bool false, .bool false, .bool false, .bool false, .bool false] 50)
  have R := Q9.nwn w (.cells #[.int .i64 fm, .bool ng, .slice p zs.length cap, .int .i64 T, .bool nn, .bool bd, .bool pl, .bool mi, .bool am] 50) (.int .i64 0) (.bool false) (.slice none 0 0) (.int .i64 0) (.bool false) (.bool false) (.bool false) (.bool false) (.bool false) 50
  have bel0 : Below w.heap.size w ((w.alloc (.cells #[.int .i64 fm, .bool ng, .slice p zs.length cap, .int .i64 T, .bool nn, .bool bd, .bool pl, .bool mi, .bool am] 50)).alloc (.cells #[.int .i64 0, .bool false, .slice none 0 0, .int .i64 0, .bool false, .bool false, .bool false, .bool false, .bool false] 50)) := (by repeat (first | exact bz0 _ _ | refine bz1 ?_ | refine bz2 ?_ _ | refine bz3 ?_ _ | refine bz5 ?_ _ | refine bz6 ?_ _))
  obtain ⟨c0, c1, c2, c3, c4, c5, c6, c7, c8⟩ := Q.cs
  go_enter Tryz.func33, Tryz.ntmps33
  go_wp2_with fail
  have hA : Below w.heap.size w (((w.alloc (.cells #[.int .i64 fm, .bool ng, .slice p zs.length cap, .int .i64 T, .bool nn, .bool bd, .bool pl, .bool mi, .bool am] 50)).alloc (.cells #[.int .i64 0, .bool false, .slice none 0 0, .int .i64 0, .bool false, .bool false, .bool false, .bool false, .bool false] 50)).alloc (.cells #[.int .u64 x] 22)) := bel_al bel0 _
  have hxx : Sl .u64 (((w.alloc (.cells #[.int .i64 fm, .bool ng, .slice p zs.length cap, .int .i64 T, .bool nn, .bool bd, .bool pl, .bool mi, .bool am] 50)).alloc (.cells #[.int .i64 0, .bool false, .slice none 0 0, .int .i64 0, .bool false, .bool false, .bool false, .bool false, .bool false] 50)).alloc (.cells #[.int .u64 x] 22)) (.slice (some ⟨w.heap.size + 1 + 1, 0, none⟩) [x].length 1) [x] := ⟨some ⟨w.heap.size + 1 + 1, 0, none⟩, 1, rfl, Nat.le_refl _, by unfold maxLen; omega, .inr ⟨w.heap.size + 1 + 1, 0, rfl, fun i hi => by
    have : i = 0 := by simpa using hi
    subst this; exact cell_top _ _ _ _ (by simp)⟩⟩
  refine (CC.out (some ⟨w.heap.size + 1 + 1, 0, none⟩) 1 _ (hT.below hA) (hs.below hA) hxx).mono ?_
  rintro r w1 ⟨rfl, hb1⟩
  clear c0 c1 c2 c3 c4 c5 c6 c7 c8 hxx
  replace Q := (Q.alloc (.cells #[.int .u64 x] 22)).below hb1
  replace R := (R.alloc (.cells #[.int .u64 x] 22)).below hb1
  have bel1 := bel_go hA hb1
  have hq1 : ErrQ w1 u := (bel1.cell (p := ⟨0, 0, none⟩) (World.block_lt_of_cell? w _ hq)).trans hq
  have lr := R.lt
  clear hA hb1 bel0
  have c0 := Q.c0
  go_wp2_with fail
  refine (CN.out _ (hT.below bel1) hq1).mono ?_
  rintro r w2 ⟨a3, k3, rfl, s3, hb2⟩
  clear c0
  have lw2 := hb2.size
  replace Q := (Q.below hb2).alloc (.cells #[.bool neg, .bool inf, .bool G, .slice a3 L.length k3, .int .i64 e] 98)
  replace R := (R.below hb2).alloc (.cells #[.bool neg, .bool inf, .bool G, .slice a3 L.length k3, .int .i64 e] 98)
  have X := Q5.new w2 (.bool neg) (.bool inf) (.bool G) (.slice a3 L.length k3) (.int .i64 e) 98
  have bel2 := bel_go bel1 hb2
  have s4 := s3.alloc (.cells #[.bool neg, .bool inf, .bool G, .slice a3 L.length k3, .int .i64 e] 98)
  have bel3 : Below w.heap.size w (w2.alloc (.cells #[.bool neg, .bool inf, .bool G, .slice a3 L.length k3, .int .i64 e] 98)).drew := Below.drew (bel_al bel2 _)
  have sz := hs.below bel3
  have s5 := s4.drew
  have ctd := Q.drew.cs
  have cod := X.drew.cs
  have Tab3 := hT.below bel3
  have Err3 : EA.ErrT (w2.alloc (.cells #[.bool neg, .bool inf, .bool G, .slice a3 L.length k3, .int .i64 e] 98)).drew := EA.five hg bel3
  clear bel1 hb2 hq1 s3 s4
  go_wp2_with fail
  go_region_held3 (fun w' => (w'.cell? ⟨w.heap.size, 0, none⟩ = some (.int .i64 fm) ∧ w'.cell? ⟨w.heap.size, 1, none⟩ = some (.bool ng) ∧ w'.cell? ⟨w.heap.size, 2, none⟩ = some (.slice p zs.length cap) ∧ w'.cell? ⟨w.heap.size, 3, none⟩ = some (.int .i64 T) ∧ w'.cell? ⟨w.heap.size, 4, none⟩ = some (.bool nn) ∧ w'.cell? ⟨w.heap.size, 5, none⟩ = some (.bool bd) ∧ w'.cell? ⟨w.heap.size, 6, none⟩ = some (.bool pl) ∧ w'.cell? ⟨w.heap.size, 7, none⟩ = some (.bool mi) ∧ w'.cell? ⟨w.heap.size, 8, none⟩ = some (.bool am)) ∧ (w'.cell? ⟨w2.heap.size, 0, none⟩ = some (.bool neg) ∧ w'.cell? ⟨w2.heap.size, 1, none⟩ = some (.bool inf) ∧ w'.cell? ⟨w2.heap.size, 2, none⟩ = some (.bool G) ∧ w'.cell? ⟨w2.heap.size, 3, none⟩ = some (.slice a3 L.length k3) ∧ w'.cell? ⟨w2.heap.size, 4, none⟩ = some (.int .i64 e)))
    (first | with_reducible assumption | with_reducible exact ⟨ctd, cod⟩ | with_reducible exact keep95 Q4 X4 (by omega) (by omega) _ _ _ _ _ _ _ _ _ _ rfl | fail)
    (first
      | (go_at_call 122; refine (CT.out _).mono ?_; rintro r q1 ⟨rfl, hq1⟩; have Q1 := Q.drew.below hq1; have X1 := X.drew.below hq1; have R1 := R.drew.below hq1; have u1 := And.intro Q1.cs X1.cs; have s6 := s5.below hq1; have sz1 := sz.below hq1; have T4 := Tab3.below hq1; have E4 := EA.five Err3 hq1)
      | (go_at_call 124; refine (CO.out a3 k3 _ T4 E4 s6).mono ?_; rintro r q2 ⟨a5, k5, rfl, hp2, hq2⟩; have Q2 := Q1.below hq2; have X2 := X1.below hq2; have R2' := R1.below hq2; have u2 := And.intro Q2.cs X2.cs; have sz2 := sz1.below hq2)
      | (go_at_call 123; refine (CW.out a5 k5 _ sz2 hp2.sl).mono ?_; rintro r q3 ⟨a6, k6, rfl, hp3, hq3⟩; have Q3 := Q2.below hq3; have X3 := X2.below hq3; have R3' := R2'.below hq3; have u3 := And.intro Q3.cs X3.cs)
      | (go_at_call 125; refine (CA.out a6 k6 _).mono ?_; rintro r q4 ⟨rfl, hq4⟩; have Q4 := Q3.below hq4; have X4 := X3.below hq4; have u4 := And.intro Q4.cs X4.cs; have hp4 := hp3.below hq4; obtain ⟨r0, r1, r2, r3, r4, r5, r6, r7, r8, g0, g1, g2, g3, g4, g5, g6, g7, g8⟩ := R3'.below hq4))
  have z1 := hq1.size
  have z2 := hq2.size
  have z3 : w2.heap.size + 1 ≤ q1.heap.size := by simpa using z1
  have bel4 : Below w.heap.size w q2 := bel_go (bel_go bel3 hq1) hq2
  go_wp2
  refine bodyPost_ret (v := .tuple #[.agg #[.int .i64 fm, .bool GG, .slice a6 LL.length k6, .int .i64 T2, .bool n2, .bool b2, .bool p2, .bool i2, .bool a2], .int .i64 0]) (by simp [results, Tryz.results33, go_sem, r0, r1, r2, r3, r4, r5, r6, r7, r8]) rfl ⟨a6, k6, rfl, ?_, ?_⟩
  · refine Own.base (B := q2.heap.size) ?_ (by have := bel4.size; omega)
    repeat (first | with_reducible exact hp4 | (with_reducible refine Own.setBelow ?_ ?_ _; rotate_left; (simp; try omega)))
  · exact (by (repeat with_reducible first | refine Below.setCell ?_ ?_ _ | exact bz0 _ _ | refine bz1 ?_ | refine bz2 ?_ _ | refine bz3 ?_ _ | refine bz4 ?_ hq4 | refine bz4 ?_ hq3 | refine bz4 ?_ bel4 | refine Below.alloc ?_ ?_ _ | refine Below.trans ?_ (Below.mono hq4 ?_) | refine Below.trans ?_ (Below.mono hq3 ?_) | refine Below.trans ?_ (Below.mono bel4 ?_)) <;> first | omega | (simp; done) | (simp; omega))
end Go.Proofs.YtkfjmcdniohljaaGreatDoor
