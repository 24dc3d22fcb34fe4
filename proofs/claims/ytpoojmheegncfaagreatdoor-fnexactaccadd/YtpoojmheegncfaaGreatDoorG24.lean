/-
  Several texts in one: ND, AE, AF, LAccAdd, AG, LaidE.
-/
import Derived.Test.YtpoojmheegncfaaGreatDoorG23
import Derived.Test.YtpoojmheegncfaaGreatDoorG19
import Derived.Test.YtpoojmheegncfaaGreatDoorG20
import Derived.Test.YtpoojmheegncfaaGreatDoorG01
import Derived.Test.YtpoojmheegncfaaGreatDoorG18
import Derived.Test.YtpoojmheegncfaaGreatDoorG21
import Derived.Test.YtpoojmheegncfaaGreatDoorG14
import Derived.Test.YtpoojmheegncfaaGreatDoorG05
import Derived.Deep.RegionHeld3
import Derived.LaidSub
import Derived.LaidHandle
import Derived.MakeChecks
import Derived.OpenShut
import Derived.Look8
import Derived.Lib.SmallJoins
/-
  One term more, a float: why none is taken; the float's number; by the program.
-/
namespace Go.Proofs.YtpoojmheegncfaaGreatDoor
set_option linter.unusedVariables false
set_option linter.unusedSimpArgs false
open Go.RowKit Go.Deep
/-- Why an accumulator takes no term of these floats: all: whether they are floats of its format. -/
def tcC (ok all : Bool) (T : Int) : Int := if ok then (if all then (if T = 1000000 then 3 else 0) else 2) else 1
set_option maxHeartbeats 4000000 in
set_option maxRecDepth 100000 in
theorem tcode (fm : Int) (ng : Bool) (T : Int) (nn bd pl mi am : Bool) (p : Option Addr) (cap : Nat) (zs : List Int) (q : Option Addr) (qc : Nat) (xs : List Int) (w : World) (hT : Tab w) (hs : Sl .u32 w (.slice p zs.length cap) zs) (hl : zs.length ≤ 1048576) (hx : Sl .u64 w (.slice q xs.length qc) xs) (dx : D64 xs) (hlx : xs.length ≤ 1048576) (c : Int) (hc : c = tcC (accB fm ng zs T nn bd pl mi am) (allB fm xs) T) :
    Calls Tryz.prog 57 #[.agg #[.int .i64 fm, .bool ng, .slice p zs.length cap, .int .i64 T, .bool nn, .bool bd, .bool pl, .bool mi, .bool am], .slice q xs.length qc] w fun e w' => e = .returned (.int .i64 c) ∧ Below w.heap.size w w' := by
  have C1 := hid (fun w' h h' => accok_impl fm ng T nn bd pl mi am p cap zs w' h h' hl)
  have C2 := hid (fun w' h h' => allf_impl fm q qc xs w' h h' dx hlx)
  have Q := Q9.new w (.int .i64 fm) (.bool ng) (.slice p zs.length cap) (.int .i64 T) (.bool nn) (.bool bd) (.bool pl) (.bool mi) (.bool am) 37
  have bel0 : Below w.heap.size w (w.alloc (.cells #[.int .i64 fm, .bool ng, .slice p zs.length cap, .int .i64 T, .bool nn, .bool bd, .bool pl, .bool mi, .bool am] 37)) := (by repeat (first | exact Below.refl _ _ | refine Below.drew ?_ | refine bel_dn ?_ _ | refine bel_al ?_ _ | refine Below.setCell ?_ (by first | omega | (simp; done) | (simp; omega)) _ | refine Below.alloc ?_ (by first | omega | (simp; done) | (simp; omega)) _))
  unfold tcC at hc
  cases h1 : accB fm ng zs T nn bd pl mi am
  · rw [h1] at C1 hc
    have hc' : c = 1 := hc
    subst hc'
    clear hc h1 dx
    go_enter Tryz.func57, Tryz.ntmps57
    go_wp2_with fail
    refine (C1.out _ (hT.below bel0) (hs.below bel0)).mono ?_
    rintro e w1 ⟨rfl, hb1⟩
    go_wp2
    go_ret
    exact ⟨rfl, bel_go bel0 hb1⟩
  rw [h1] at C1 hc
  cases h2 : allB fm xs
  · rw [h2] at C2 hc
    have hc' : c = 2 := hc
    subst hc'
    clear hc h1 h2 dx
    go_enter Tryz.func57, Tryz.ntmps57
    go_wp2_with fail
    refine (C1.out _ (hT.below bel0) (hs.below bel0)).mono ?_
    rintro e w1 ⟨rfl, hb1⟩
    have bel1 := bel_go bel0 hb1
    have c0 := (Q.below hb1).c0
    go_wp2_with fail
    refine (C2.out _ (hT.below bel1) (hx.below bel1)).mono ?_
    rintro e w2 ⟨rfl, hb2⟩
    go_wp2
    go_ret
    exact ⟨rfl, bel_go bel1 hb2⟩
  rw [h2] at C2 hc
  by_cases h3 : T = 1000000
  · have hc' : c = 3 := by rw [hc, if_pos rfl, if_pos rfl, if_pos h3]
    subst hc' h3
    clear hc h1 h2 dx
    go_enter Tryz.func57, Tryz.ntmps57
    go_wp2_with fail
    refine (C1.out _ (hT.below bel0) (hs.below bel0)).mono ?_
    rintro e w1 ⟨rfl, hb1⟩
    have bel1 := bel_go bel0 hb1
    have c0 := (Q.below hb1).c0
    go_wp2_with fail
    refine (C2.out _ (hT.below bel1) (hx.below bel1)).mono ?_
    rintro e w2 ⟨rfl, hb2⟩
    have c3 := ((Q.below hb1).below hb2).c3
    go_wp2
    go_ret
    exact ⟨rfl, bel_go bel1 hb2⟩
  · have hc' : c = 0 := by rw [hc, if_pos rfl, if_pos rfl, if_neg h3]
    subst hc'
    have h3' : (T == 1000000) = false := by simpa using h3
    clear hc h1 h2 h3 dx
    go_enter Tryz.func57, Tryz.ntmps57
    go_wp2_with fail
    refine (C1.out _ (hT.below bel0) (hs.below bel0)).mono ?_
    rintro e w1 ⟨rfl, hb1⟩
    have bel1 := bel_go bel0 hb1
    have c0 := (Q.below hb1).c0
    go_wp2_with fail
    refine (C2.out _ (hT.below bel1) (hx.below bel1)).mono ?_
    rintro e w2 ⟨rfl, hb2⟩
    have c3 := ((Q.below hb1).below hb2).c3
    go_wp2
    go_ret
    exact ⟨rfl, bel_go bel1 hb2⟩
theorem cell_top (W : World) (v : Value) (t : TypeId) (n : Nat) (hn : n = W.heap.size) : (W.alloc (.cells #[v] t)).cell? ⟨n, 0, none⟩ = some v := by subst hn; simp
theorem keep95 {w : World} {B b b' : Nat} {v0 v1 v2 v3 v4 v5 v6 v7 v8 y0 y1 y2 y3 y4 : Value} (h : Q9 w b v0 v1 v2 v3 v4 v5 v6 v7 v8) (h' : Q5 w b' y0 y1 y2 y3 y4) (n : b ≠ B) (n' : b' ≠ B) (u0 u1 u2 u3 u4 u5 u6 u7 u8 : Value) (W : World) (hW : W = (((((((((w.setCell ⟨B, 0, none⟩ u0).setCell ⟨B, 1, none⟩ u1).setCell ⟨B, 2, none⟩ u2).setCell ⟨B, 3, none⟩ u3).setCell ⟨B, 4, none⟩ u4).setCell ⟨B, 5, none⟩ u5).setCell ⟨B, 6, none⟩ u6).setCell ⟨B, 7, none⟩ u7).setCell ⟨B, 8, none⟩ u8)) :
    (W.cell? ⟨b, 0, none⟩ = some v0 ∧ W.cell? ⟨b, 1, none⟩ = some v1 ∧ W.cell? ⟨b, 2, none⟩ = some v2 ∧ W.cell? ⟨b, 3, none⟩ = some v3 ∧ W.cell? ⟨b, 4, none⟩ = some v4 ∧ W.cell? ⟨b, 5, none⟩ = some v5 ∧ W.cell? ⟨b, 6, none⟩ = some v6 ∧ W.cell? ⟨b, 7, none⟩ = some v7 ∧ W.cell? ⟨b, 8, none⟩ = some v8) ∧ (W.cell? ⟨b', 0, none⟩ = some y0 ∧ W.cell? ⟨b', 1, none⟩ = some y1 ∧ W.cell? ⟨b', 2, none⟩ = some y2 ∧ W.cell? ⟨b', 3, none⟩ = some y3 ∧ W.cell? ⟨b', 4, none⟩ = some y4) := by
  subst hW
  exact ⟨(h.of_block (heap9n w B b n u0 u1 u2 u3 u4 u5 u6 u7 u8)).cs, (h'.of_block (heap9n w B b' n' u0 u1 u2 u3 u4 u5 u6 u7 u8)).cs⟩
set_option maxHeartbeats 8000000 in
set_option maxRecDepth 100000 in
/-- What an accumulator with one term more is, by the program: out of what the float is as a number, and as a tally. -/
theorem add_core (fm : Int) (ng : Bool) (T : Int) (nn bd pl mi am : Bool) (p : Option Addr) (cap : Nat) (zs : List Int) (x : Int) (u : Value) (w : World) (hT : Tab w) (hg : EA.ErrT w) (hq : ErrQ w u) (hs : Sl .u32 w (.slice p zs.length cap) zs) (hz : Nm.Dg zs) (hk : accB fm ng zs T nn bd pl mi am = true) (hx : okF fm x = true) (x0 : 0 ≤ x) (x1 : x < 18446744073709551616) (hTm : T ≠ 1000000)
    (neg inf G : Bool) (L : List Int) (e : Int) (ev : Value) (m1 m2 m3 m4 m5 G2 : Bool) (L2 : List Int) (d2 : Nm.Dg L2) (ho2 : okB G2 L2 = true) (y : Int) (hy : y = Nm.wv ng zs + Nm.wv G2 L2) (hf : Nm.fits y = true)
    (hn : ∀ w' : World, Tab w' → ErrQ w' u → Calls Tryz.prog 58 #[.int .i64 fm, .int .u64 x] w' fun r w'' => ∃ a' c', r = .returned (.tuple #[.agg #[.bool neg, .bool inf, .bool G, .slice a' L.length c', .int .i64 e], ev]) ∧ Sl .u32 w'' (.slice a' L.length c') L ∧ Below w'.heap.size w' w'')
    (ht : ∀ (a' : Option Addr) (c' : Nat) (w' : World), Tab w' → EA.ErrT w' → Sl .u32 w' (.slice a' L.length c') L → Calls Tryz.prog 61 #[.int .i64 fm, .agg #[.bool neg, .bool inf, .bool G, .slice a' L.length c', .int .i64 e], ev] w' fun r w'' => ∃ a'' c'', r = .returned (.agg #[.int .i64 1, .bool m1, .bool m2, .bool m3, .bool m4, .bool m5, .int .i64 fm, .bool G2, .slice a'' L2.length c'']) ∧ Own w'' w'.heap.size a'' c'' L2 ∧ Below w'.heap.size w' w'') :
    Calls Tryz.prog 19 #[.agg #[.int .i64 fm, .bool ng, .slice p zs.length cap, .int .i64 T, .bool nn, .bool bd, .bool pl, .bool mi, .bool am], .int .u64 x] w fun r w' => ∃ a' c', r = .returned (.tuple #[.agg #[.int .i64 fm, .bool (Nm.wn y), .slice a' (Nm.wl y).length c', .int .i64 (T + 1), .bool (nn || m1), .bool (bd || m2), .bool (pl || m3), .bool (mi || m4), .bool (amW T am 1 m5)], .int .i64 0]) ∧ Own w' w.heap.size a' c' (Nm.wl y) ∧ Below w.heap.size w w' := by
  obtain ⟨-, hk1, ho1, -⟩ := acc_parts hk
  have hl := (okB_nz ho1).2
  have dx : D64 [x] := fun z hz => by rw [List.mem_singleton.1 hz]; exact ⟨x0, x1⟩
  have hall : allB fm [x] = true := by unfold allB; rw [List.all_cons, hx]; rfl
  have CC := hid (fun q qc w' h h' h'' => tcode fm ng T nn bd pl mi am p cap zs q qc [x] w' h h' (by omega) h'' dx (by simp) 0 (by unfold tcC; rw [hk, hall, if_pos rfl, if_pos rfl, if_neg hTm]))
  have CN := hid hn
  have CO := hid ht
  have CW := hid (fun a' c' w' h h' => twith fm ng T nn bd pl mi am fm G2 1 m1 m2 m3 m4 m5 p a' cap c' zs L2 w' h h' hz d2 hk1 (by decide) (by decide) ho1 ho2 y hy hf)
  have CT := hid (fun w' => tally_any fm ng T nn bd pl mi am p zs.length cap w')
  obtain ⟨T2, hT2⟩ : ∃ T2, T2 = T + 1 := ⟨_, rfl⟩
  obtain ⟨n2, hn2⟩ : ∃ n2, n2 = (nn || m1) := ⟨_, rfl⟩
  obtain ⟨b2, hb2'⟩ : ∃ b2, b2 = (bd || m2) := ⟨_, rfl⟩
  obtain ⟨p2, hp2⟩ : ∃ p2, p2 = (pl || m3) := ⟨_, rfl⟩
  obtain ⟨i2, hm2⟩ : ∃ i2, i2 = (mi || m4) := ⟨_, rfl⟩
  obtain ⟨a2, ha2⟩ : ∃ a2, a2 = amW T am 1 m5 := ⟨_, rfl⟩
  obtain ⟨GG, hG⟩ : ∃ GG, GG = Nm.wn y := ⟨_, rfl⟩
  obtain ⟨LL, hL⟩ : ∃ LL, LL = Nm.wl y := ⟨_, rfl⟩
  rw [← hT2, ← hn2, ← hb2', ← hp2, ← hm2, ← ha2, ← hG, ← hL] at CW
  rw [← hT2, ← hn2, ← hb2', ← hp2, ← hm2, ← ha2, ← hG, ← hL]
  have CA := hid (fun a c w' => tacc fm GG T2 n2 b2 p2 i2 a2 (.slice a LL.length c) w' ⟨_, _, _, rfl⟩)
  clear hT2 hn2 hb2' hp2 hm2 ha2 hG hL hk1 ho1 hy hf hz hk hn ht hx hall dx hTm
  have Q := (Q9.new w (.int .i64 fm) (.bool ng) (.slice p zs.length cap) (.int .i64 T) (.bool nn) (.bool bd) (.bool pl) (.bool mi) (.bool am) 37).alloc (.cells #[.int .i64 0, .bool false, .slice none 0 0, .int .i64 0, .bool false, .bool false, .bool false, .bool false, .bool false] 37)
  have R := Q9.nwn w (.cells #[.int .i64 fm, .bool ng, .slice p zs.length cap, .int .i64 T, .bool nn, .bool bd, .bool pl, .bool mi, .bool am] 37) (.int .i64 0) (.bool false) (.slice none 0 0) (.int .i64 0) (.bool false) (.bool false) (.bool false) (.bool false) (.bool false) 37
  have bel0 : Below w.heap.size w ((w.alloc (.cells #[.int .i64 fm, .bool ng, .slice p zs.length cap, .int .i64 T, .bool nn, .bool bd, .bool pl, .bool mi, .bool am] 37)).alloc (.cells #[.int .i64 0, .bool false, .slice none 0 0, .int .i64 0, .bool false, .bool false, .bool false, .bool false, .bool false] 37)) := (by repeat (first | exact Below.refl _ _ | refine Below.drew ?_ | refine bel_dn ?_ _ | refine bel_al ?_ _ | refine Below.setCell ?_ (by first | omega | (simp; done) | (simp; omega)) _ | refine Below.alloc ?_ (by first | omega | (simp; done) | (simp; omega)) _))
  obtain ⟨c0, c1, c2, c3, c4, c5, c6, c7, c8⟩ := Q.cs
  go_enter Tryz.func19, Tryz.ntmps19
  go_wp2_with fail
  have hA : Below w.heap.size w (((w.alloc (.cells #[.int .i64 fm, .bool ng, .slice p zs.length cap, .int .i64 T, .bool nn, .bool bd, .bool pl, .bool mi, .bool am] 37)).alloc (.cells #[.int .i64 0, .bool false, .slice none 0 0, .int .i64 0, .bool false, .bool false, .bool false, .bool false, .bool false] 37)).alloc (.cells #[.int .u64 x] 22)) := bel_al bel0 _
  have hxx : Sl .u64 (((w.alloc (.cells #[.int .i64 fm, .bool ng, .slice p zs.length cap, .int .i64 T, .bool nn, .bool bd, .bool pl, .bool mi, .bool am] 37)).alloc (.cells #[.int .i64 0, .bool false, .slice none 0 0, .int .i64 0, .bool false, .bool false, .bool false, .bool false, .bool false] 37)).alloc (.cells #[.int .u64 x] 22)) (.slice (some ⟨w.heap.size + 1 + 1, 0, none⟩) [x].length 1) [x] := ⟨some ⟨w.heap.size + 1 + 1, 0, none⟩, 1, rfl, Nat.le_refl _, by unfold maxLen; omega, .inr ⟨w.heap.size + 1 + 1, 0, rfl, fun i hi => by
    have : i = 0 := by simpa using hi
    subst this; exact cell_top _ _ _ _ (by simp)⟩⟩
  refine (CC.out (some ⟨w.heap.size + 1 + 1, 0, none⟩) 1 _ (hT.below hA) (hs.below hA) hxx).mono ?_
  rintro r w1 ⟨rfl, hb1⟩
  clear c0 c1 c2 c3 c4 c5 c6 c7 c8 hxx
  replace Q := (Q.alloc (.cells #[.int .u64 x] 22)).below hb1
  replace R := (R.alloc (.cells #[.int .u64 x] 22)).below hb1
  have bel1 := bel_go hA hb1
  have hq1 : ErrQ w1 u := (bel1.cell (p := ⟨0, 0, none⟩) (World.block_lt_of_cell? w _ hq)).trans hq
  have lr := R.lt
  clear hA hb1 bel0
  have c0 := Q.c0
  go_wp2_with fail
  refine (CN.out _ (hT.below bel1) hq1).mono ?_
  rintro r w2 ⟨a3, k3, rfl, s3, hb2⟩
  clear c0
  have lw2 := hb2.size
  replace Q := (Q.below hb2).alloc (.cells #[.bool neg, .bool inf, .bool G, .slice a3 L.length k3, .int .i64 e] 63)
  replace R := (R.below hb2).alloc (.cells #[.bool neg, .bool inf, .bool G, .slice a3 L.length k3, .int .i64 e] 63)
  have X := Q5.new w2 (.bool neg) (.bool inf) (.bool G) (.slice a3 L.length k3) (.int .i64 e) 63
  have bel2 := bel_go bel1 hb2
  have s4 := s3.alloc (.cells #[.bool neg, .bool inf, .bool G, .slice a3 L.length k3, .int .i64 e] 63)
  have bel3 : Below w.heap.size w (w2.alloc (.cells #[.bool neg, .bool inf, .bool G, .slice a3 L.length k3, .int .i64 e] 63)).drew := Below.drew (bel_al bel2 _)
  have sz := hs.below bel3
  have s5 := s4.drew
  have ctd := Q.drew.cs
  have cod := X.drew.cs
  have Tab3 := hT.below bel3
  have Err3 : EA.ErrT (w2.alloc (.cells #[.bool neg, .bool inf, .bool G, .slice a3 L.length k3, .int .i64 e] 63)).drew := EA.five hg bel3
  clear bel1 hb2 hq1 s3 s4
  go_wp2_with fail
  go_region_held3 (fun w' => (w'.cell? ⟨w.heap.size, 0, none⟩ = some (.int .i64 fm) ∧ w'.cell? ⟨w.heap.size, 1, none⟩ = some (.bool ng) ∧ w'.cell? ⟨w.heap.size, 2, none⟩ = some (.slice p zs.length cap) ∧ w'.cell? ⟨w.heap.size, 3, none⟩ = some (.int .i64 T) ∧ w'.cell? ⟨w.heap.size, 4, none⟩ = some (.bool nn) ∧ w'.cell? ⟨w.heap.size, 5, none⟩ = some (.bool bd) ∧ w'.cell? ⟨w.heap.size, 6, none⟩ = some (.bool pl) ∧ w'.cell? ⟨w.heap.size, 7, none⟩ = some (.bool mi) ∧ w'.cell? ⟨w.heap.size, 8, none⟩ = some (.bool am)) ∧ (w'.cell? ⟨w2.heap.size, 0, none⟩ = some (.bool neg) ∧ w'.cell? ⟨w2.heap.size, 1, none⟩ = some (.bool inf) ∧ w'.cell? ⟨w2.heap.size, 2, none⟩ = some (.bool G) ∧ w'.cell? ⟨w2.heap.size, 3, none⟩ = some (.slice a3 L.length k3) ∧ w'.cell? ⟨w2.heap.size, 4, none⟩ = some (.int .i64 e)))
    (first | with_reducible assumption | with_reducible exact ⟨ctd, cod⟩ | with_reducible exact keep95 Q4 X4 (by omega) (by omega) _ _ _ _ _ _ _ _ _ _ rfl | fail)
    (first
      | (go_at_call 59; refine (CT.out _).mono ?_; rintro r q1 ⟨rfl, hq1⟩; have Q1 := Q.drew.below hq1; have X1 := X.drew.below hq1; have R1 := R.drew.below hq1; have u1 := And.intro Q1.cs X1.cs; have s6 := s5.below hq1; have sz1 := sz.below hq1; have T4 := Tab3.below hq1; have E4 := EA.five Err3 hq1)
      | (go_at_call 61; refine (CO.out a3 k3 _ T4 E4 s6).mono ?_; rintro r q2 ⟨a5, k5, rfl, hp2, hq2⟩; have Q2 := Q1.below hq2; have X2 := X1.below hq2; have R2' := R1.below hq2; have u2 := And.intro Q2.cs X2.cs; have sz2 := sz1.below hq2)
      | (go_at_call 60; refine (CW.out a5 k5 _ sz2 hp2.sl).mono ?_; rintro r q3 ⟨a6, k6, rfl, hp3, hq3⟩; have Q3 := Q2.below hq3; have X3 := X2.below hq3; have R3' := R2'.below hq3; have u3 := And.intro Q3.cs X3.cs)
      | (go_at_call 62; refine (CA.out a6 k6 _).mono ?_; rintro r q4 ⟨rfl, hq4⟩; have Q4 := Q3.below hq4; have X4 := X3.below hq4; have u4 := And.intro Q4.cs X4.cs; have hp4 := hp3.below hq4; obtain ⟨r0, r1, r2, r3, r4, r5, r6, r7, r8, g0, g1, g2, g3, g4, g5, g6, g7, g8⟩ := R3'.below hq4))
  have z1 := hq1.size
  have z2 := hq2.size
  have z3 : w2.heap.size + 1 ≤ q1.heap.size := by simpa using z1
  have bel4 : Below w.heap.size w q2 := bel_go (bel_go bel3 hq1) hq2
  go_wp2
  refine bodyPost_ret (v := .tuple #[.agg #[.int .i64 fm, .bool GG, .slice a6 LL.length k6, .int .i64 T2, .bool n2, .bool b2, .bool p2, .bool i2, .bool a2], .int .i64 0]) (by simp [results, Tryz.results19, go_sem, r0, r1, r2, r3, r4, r5, r6, r7, r8]) rfl ⟨a6, k6, rfl, ?_, ?_⟩
  · refine Own.base (B := q2.heap.size) ?_ (by have := bel4.size; omega)
    repeat (first | with_reducible exact hp4 | (with_reducible refine Own.setBelow ?_ ?_ _; rotate_left; (simp; try omega)))
  · exact (by repeat (first | (with_reducible refine Below.setCell ?_ ?_ _; rotate_left; focus (first | omega | (simp; done) | (simp; omega))) | (with_reducible exact Below.refl _ _) | (with_reducible refine Below.drew ?_) | (with_reducible refine bel_dn ?_ _) | (with_reducible refine bel_al ?_ _) | (with_reducible refine bel_go ?_ hq4) | (with_reducible refine bel_go ?_ hq3) | (with_reducible refine bel_go ?_ bel4) | (with_reducible refine Below.alloc ?_ ?_ _; rotate_left; focus (first | omega | (simp; done) | (simp; omega))) | (with_reducible refine Below.trans ?_ (Below.mono hq4 ?_); rotate_left; focus (first | omega | (simp; done) | (simp; omega))) | (with_reducible refine Below.trans ?_ (Below.mono hq3 ?_); rotate_left; focus (first | omega | (simp; done) | (simp; omega))) | (with_reducible refine Below.trans ?_ (Below.mono bel4 ?_); rotate_left; focus (first | omega | (simp; done) | (simp; omega)))))
end Go.Proofs.YtpoojmheegncfaaGreatDoor
/-
  One term more, a float: by the specification.
-/
namespace Go.Proofs.YtpoojmheegncfaaGreatDoor
set_option linter.unusedVariables false
set_option linter.unusedSimpArgs false
open Go.RowKit Go.Deep
theorem acc_parts' {fm : Int} {ng : Bool} {zs : List Int} {T : Int} {nn bd pl mi am : Bool} (h : accB fm ng zs T nn bd pl mi am = true) : fmtB fm = true ∧ mkB T nn bd pl mi am = true ∧ okB ng zs = true ∧ cmpL zs (Nm.lim (far fm T)) ≤ 0 := by
  unfold accB at h
  simp only [Bool.and_eq_true, decide_eq_true_eq] at h
  exact ⟨h.1.1.1.1, h.1.1.1.2, h.1.1.2, h.1.2⟩
theorem Q9.set1 {w : World} {b : Nat} {v0 v1 v2 v3 v4 v5 v6 v7 v8 : Value} (h : Q9 w b v0 v1 v2 v3 v4 v5 v6 v7 v8) (u : Value) : Q9 (w.setCell ⟨b, 1, none⟩ u) b v0 u v2 v3 v4 v5 v6 v7 v8 := by
  obtain ⟨c0, c1, c2, c3, c4, c5, c6, c7, c8, f0, f1, f2, f3, f4, f5, f6, f7, f8⟩ := h
  exact ⟨by simp [go_sem, c0, c1], by simp [go_sem, c1, c1], by simp [go_sem, c2, c1], by simp [go_sem, c3, c1], by simp [go_sem, c4, c1], by simp [go_sem, c5, c1], by simp [go_sem, c6, c1], by simp [go_sem, c7, c1], by simp [go_sem, c8, c1], by simp [go_sem, f0], by simp [go_sem, f1], by simp [go_sem, f2], by simp [go_sem, f3], by simp [go_sem, f4], by simp [go_sem, f5], by simp [go_sem, f6], by simp [go_sem, f7], by simp [go_sem, f8]⟩
theorem Q9.set2 {w : World} {b : Nat} {v0 v1 v2 v3 v4 v5 v6 v7 v8 : Value} (h : Q9 w b v0 v1 v2 v3 v4 v5 v6 v7 v8) (u : Value) : Q9 (w.setCell ⟨b, 2, none⟩ u) b v0 v1 u v3 v4 v5 v6 v7 v8 := by
  obtain ⟨c0, c1, c2, c3, c4, c5, c6, c7, c8, f0, f1, f2, f3, f4, f5, f6, f7, f8⟩ := h
  exact ⟨by simp [go_sem, c0, c2], by simp [go_sem, c1, c2], by simp [go_sem, c2, c2], by simp [go_sem, c3, c2], by simp [go_sem, c4, c2], by simp [go_sem, c5, c2], by simp [go_sem, c6, c2], by simp [go_sem, c7, c2], by simp [go_sem, c8, c2], by simp [go_sem, f0], by simp [go_sem, f1], by simp [go_sem, f2], by simp [go_sem, f3], by simp [go_sem, f4], by simp [go_sem, f5], by simp [go_sem, f6], by simp [go_sem, f7], by simp [go_sem, f8]⟩
theorem heap9e (w : World) (B b : Nat) (h : b ≠ B) (u0 u1 u2 u3 u4 u5 u6 u7 u8 : Value) : (((((((((w.setCell ⟨B, 0, none⟩ u0).setCell ⟨B, 1, none⟩ u1).setCell ⟨B, 2, none⟩ u2).setCell ⟨B, 3, none⟩ u3).setCell ⟨B, 4, none⟩ u4).setCell ⟨B, 5, none⟩ u5).setCell ⟨B, 6, none⟩ u6).setCell ⟨B, 7, none⟩ u7).setCell ⟨B, 8, none⟩ u8).heap[b]? = w.heap[b]? := by
  rw [Below.heap_setCell _ _ _ _ h, Below.heap_setCell _ _ _ _ h, Below.heap_setCell _ _ _ _ h, Below.heap_setCell _ _ _ _ h, Below.heap_setCell _ _ _ _ h, Below.heap_setCell _ _ _ _ h, Below.heap_setCell _ _ _ _ h, Below.heap_setCell _ _ _ _ h, Below.heap_setCell _ _ _ _ h]
theorem keep91 {w : World} {B b b' : Nat} {v0 v1 v2 v3 v4 v5 v6 v7 v8 y0 y1 y2 y3 y4 y5 y6 y7 y8 : Value} (h : Q9 w b v0 v1 v2 v3 v4 v5 v6 v7 v8) (h' : Q9 w b' y0 y1 y2 y3 y4 y5 y6 y7 y8) (n : b ≠ B) (n' : b' ≠ B) (u0 u1 u2 u3 u4 u5 u6 u7 u8 : Value) (W : World) (hW : W = (((((((((w.setCell ⟨B, 0, none⟩ u0).setCell ⟨B, 1, none⟩ u1).setCell ⟨B, 2, none⟩ u2).setCell ⟨B, 3, none⟩ u3).setCell ⟨B, 4, none⟩ u4).setCell ⟨B, 5, none⟩ u5).setCell ⟨B, 6, none⟩ u6).setCell ⟨B, 7, none⟩ u7).setCell ⟨B, 8, none⟩ u8)) :
    (W.cell? ⟨b, 0, none⟩ = some v0 ∧ W.cell? ⟨b, 1, none⟩ = some v1 ∧ W.cell? ⟨b, 2, none⟩ = some v2 ∧ W.cell? ⟨b, 3, none⟩ = some v3 ∧ W.cell? ⟨b, 4, none⟩ = some v4 ∧ W.cell? ⟨b, 5, none⟩ = some v5 ∧ W.cell? ⟨b, 6, none⟩ = some v6 ∧ W.cell? ⟨b, 7, none⟩ = some v7 ∧ W.cell? ⟨b, 8, none⟩ = some v8) ∧ W.cell? ⟨b', 0, none⟩ = some y0 := by
  subst hW
  exact ⟨(h.of_block (heap9e w B b n u0 u1 u2 u3 u4 u5 u6 u7 u8)).cs, (h'.of_block (heap9e w B b' n' u0 u1 u2 u3 u4 u5 u6 u7 u8)).c0⟩
theorem zero4 (fm x : Int) (w : World) (h : okF fm x = true) (h0 : 0 ≤ x) (h1 : x < 18446744073709551616) :
    Calls Tryz.prog 55 #[.int .i64 fm, .int .u64 x] w fun e w' => e = .returned (.bool (absF fm x == 0)) ∧ Below w.heap.size w w' := by
  have C := hid (fun w' => spec_l2abs fm x w' h h0 h1)
  obtain ⟨a, ha⟩ : ∃ a, a = absF fm x := ⟨_, rfl⟩
  rw [← ha] at C ⊢
  clear ha
  go_enter Tryz.func55, Tryz.ntmps55
  go_wp2_with fail
  refine (C.out _).mono ?_
  rintro r w1 ⟨rfl, hb1⟩
  go_wp2
  go_ret
  exact ⟨rfl, (by repeat (first | exact Below.refl _ _ | refine Below.drew ?_ | refine bel_dn ?_ _ | refine bel_al ?_ _ | refine bel_go ?_ hb1 | refine Below.setCell ?_ (by first | omega | (simp; done) | (simp; omega)) _ | refine Below.alloc ?_ (by first | omega | (simp; done) | (simp; omega)) _ | refine Below.trans ?_ (Below.mono hb1 (by first | omega | (simp; done) | (simp; omega)))))⟩
theorem sQb (fm : Int) (w : World) (h : fmtB fm = true) : Calls Tryz.prog 35 #[.int .i64 fm] w fun e w' => e = .returned (.int .i64 (unQ fm)) ∧ Below w.heap.size w w' :=
  (sQ_any fm w h).mono fun e w' ⟨a, b⟩ => ⟨a, b ▸ Below.refl _ _⟩
set_option maxHeartbeats 16000000 in
set_option maxRecDepth 100000 in
theorem add_spec_fin (fm : Int) (ng : Bool) (T : Int) (nn bd pl mi am : Bool) (p : Option Addr) (cap : Nat) (zs : List Int) (x : Int) (w : World) (hs : Sl .u32 w (.slice p zs.length cap) zs) (hz : Nm.Dg zs) (hk : accB fm ng zs T nn bd pl mi am = true) (hx : okF fm x = true) (x0 : 0 ≤ x) (x1 : x < 18446744073709551616) (hTm : T ≠ 1000000) (hfin : finB fm x = true) (V : Int) (hV : V = Nm.shV (Nm.wn (unI fm x)) (Nm.val (Nm.wl (unI fm x))) (-unQ fm)) (hVl : (Nm.wl V).length ≤ 200) (y : Int) (hy : y = Nm.wv ng zs + V) :
    Calls Tryz.prog 17 #[.agg #[.int .i64 fm, .bool ng, .slice p zs.length cap, .int .i64 T, .bool nn, .bool bd, .bool pl, .bool mi, .bool am], .int .u64 x] w fun r w' => ∃ a' c', r = .returned (.tuple #[.agg #[.int .i64 fm, .bool (Nm.wn y), .slice a' (Nm.wl y).length c', .int .i64 (T + 1), .bool nn, .bool bd, .bool pl, .bool mi, .bool ((absF fm x == 0) && sigB fm x && (am || decide (T = 0)))], .int .i64 0]) ∧ Own w' w.heap.size a' c' (Nm.wl y) ∧ Below w.heap.size w w' := by
  obtain ⟨-, hk1, ho1, -⟩ := acc_parts' hk
  obtain ⟨nz, hl⟩ := okB_nz ho1
  obtain ⟨t0, t1⟩ := mkB_T hk1
  have C1 := hid (fun w' h => accok_spec fm ng T nn bd pl mi am p cap zs w' h (by omega))
  have C2 := hid (fun w' => spec_ok fm x w')
  have C3 := hid (fun w' => spec_l2neg fm x w' hx x0 x1)
  have C4 := hid (fun w' => spec_fin fm x w' x0 x1)
  have CC := hid (fun w' h => copy_any fm ng T nn bd pl mi am p cap zs w' h hz (by omega) ho1)
  rw [hk] at C1
  rw [hx] at C2
  rw [hfin] at C4
  have hT' : (T == 1000000) = false := by simpa using hTm
  obtain ⟨sg, hsg⟩ : ∃ sg, sg = sigB fm x := ⟨_, rfl⟩
  rw [← hsg] at C3
  have hfm := fin_fmt hfin
  have hq : -1074 ≤ unQ fm ∧ unQ fm ≤ -149 := by unfold unQ; split <;> omega
  have CU := hid (fun w' => l2units_any fm x w' hfin x0 x1)
  have CQ := hid (fun w' => sQb fm w' hfm)
  have CZ := hid (fun w' => zero4 fm x w' hx x0 x1)
  have hUl : (Nm.wl (unI fm x)).length ≤ 200 := by obtain ⟨G, L, z, E, Q, _, _, _, _, _, _, _, _, _, _, _, _, _, _, _, _, _, hl200⟩ := un_parts hfin; exact hl200
  have hwv : Nm.wv (Nm.wn V) (Nm.wl V) = V := Nm.wv_out V
  have CS := hid (fun a c w' h => l1shift_any (Nm.wn (unI fm x)) a c (Nm.wl (unI fm x)) (-unQ fm) w' h (Nm.wl_dg _) (by omega) (by omega) (by omega) V hV)
  have CA := hid (fun a0 k0 a c w' h h' => l1add_any ng (Nm.wn V) a0 a k0 c zs (Nm.wl V) w' h h' hz (Nm.wl_dg _) nz (Nm.wl_nz _) (by omega) (by omega) y (by rw [hwv]; exact hy))
  obtain ⟨zr, hzr⟩ : ∃ zr, zr = (absF fm x == 0) := ⟨_, rfl⟩
  obtain ⟨a2, ha2⟩ : ∃ a2, a2 = (zr && sg && (am || decide (T = 0))) := ⟨_, rfl⟩
  obtain ⟨T2, hT2⟩ : ∃ T2, T2 = T + 1 := ⟨_, rfl⟩
  obtain ⟨GU, hGU⟩ : ∃ G, G = Nm.wn (unI fm x) := ⟨_, rfl⟩
  obtain ⟨LU, hLU⟩ : ∃ L, L = Nm.wl (unI fm x) := ⟨_, rfl⟩
  obtain ⟨GV, hGV⟩ : ∃ G, G = Nm.wn V := ⟨_, rfl⟩
  obtain ⟨LV, hLV⟩ : ∃ L, L = Nm.wl V := ⟨_, rfl⟩
  obtain ⟨GG, hGG⟩ : ∃ G, G = Nm.wn y := ⟨_, rfl⟩
  obtain ⟨LL, hLL⟩ : ∃ L, L = Nm.wl y := ⟨_, rfl⟩
  obtain ⟨Qn, hQn⟩ : ∃ Qn, Qn = unQ fm := ⟨_, rfl⟩
  rw [← hQn] at CQ hq
  simp only [← hQn] at CS
  rw [← hGU, ← hLU] at CU
  simp only [← hGU, ← hLU, ← hGV, ← hLV] at CS
  simp only [← hGV, ← hLV, ← hGG, ← hLL] at CA
  rw [← hzr] at CZ
  rw [← hzr, ← hsg, ← ha2, ← hT2, ← hGG, ← hLL]
  have C7 := hid (fun p' c' w' => zero7 fm GG T nn bd pl mi am p' LL.length c' zr sg w' t0 t1 T2 hT2 a2 ha2)
  have hwq : IntKind.i64.wrap (-Qn) = -Qn := by rw [IntKind.wrap_i64]; omega
  clear hsg hzr ha2 hT2 hGU hLU hGV hLV hGG hLL hQn hV hVl hy hwv hUl hk hx hfin hz nz ho1 hk1 hfm hTm
  have A := (Q9.new w (.int .i64 fm) (.bool ng) (.slice p zs.length cap) (.int .i64 T) (.bool nn) (.bool bd) (.bool pl) (.bool mi) (.bool am) 37).alloc (.cells #[.int .i64 0, .bool false, .slice none 0 0, .int .i64 0, .bool false, .bool false, .bool false, .bool false, .bool false] 37)
  have R := Q9.nw2b w (.cells #[.int .i64 fm, .bool ng, .slice p zs.length cap, .int .i64 T, .bool nn, .bool bd, .bool pl, .bool mi, .bool am] 37) (.int .i64 0) (.bool false) (.slice none 0 0) (.int .i64 0) (.bool false) (.bool false) (.bool false) (.bool false) (.bool false) 37
  have bel0 : Below w.heap.size w ((w.alloc (.cells #[.int .i64 fm, .bool ng, .slice p zs.length cap, .int .i64 T, .bool nn, .bool bd, .bool pl, .bool mi, .bool am] 37)).alloc (.cells #[.int .i64 0, .bool false, .slice none 0 0, .int .i64 0, .bool false, .bool false, .bool false, .bool false, .bool false] 37)) := (by repeat (first | exact Below.refl _ _ | refine Below.drew ?_ | refine bel_dn ?_ _ | refine bel_al ?_ _ | refine Below.setCell ?_ (by first | omega | (simp; done) | (simp; omega)) _ | refine Below.alloc ?_ (by first | omega | (simp; done) | (simp; omega)) _))
  go_enter Tryz.func17, Tryz.ntmps17
  go_wp2_with fail
  refine (C1.out _ (hs.below bel0)).mono ?_
  rintro r w1 ⟨rfl, hb1⟩
  replace A := A.below hb1
  replace R := R.below hb1
  have bel1 := bel_go bel0 hb1
  clear bel0 hb1
  have c0 := A.c0
  go_wp2_with fail
  refine (C2.out _).mono ?_
  rintro r w2 ⟨rfl, hb2⟩
  clear c0
  replace A := A.below hb2
  replace R := R.below hb2
  have bel2 := bel_go bel1 hb2
  clear bel1 hb2
  obtain ⟨c0, c1, c2, c3, c4, c5, c6, c7, c8⟩ := A.cs
  go_wp2_with fail
  refine (CC.out _ (hs.below bel2)).mono ?_
  rintro r w3 ⟨a0, k0, rfl, hp0, hb3⟩
  clear c0 c1 c2 c3 c4 c5 c6 c7 c8
  have lr := R.lt
  have z3 := hb3.size
  have z2 := bel2.size
  have hp0' := hp0.alloc (.cells #[.int .i64 fm, .bool ng, .slice a0 zs.length k0, .int .i64 T, .bool nn, .bool bd, .bool pl, .bool mi, .bool am] 37)
  replace A := (A.below hb3).alloc (.cells #[.int .i64 fm, .bool ng, .slice a0 zs.length k0, .int .i64 T, .bool nn, .bool bd, .bool pl, .bool mi, .bool am] 37)
  replace R := (R.below hb3).alloc (.cells #[.int .i64 fm, .bool ng, .slice a0 zs.length k0, .int .i64 T, .bool nn, .bool bd, .bool pl, .bool mi, .bool am] 37)
  have O := Q9.new w3 (.int .i64 fm) (.bool ng) (.slice a0 zs.length k0) (.int .i64 T) (.bool nn) (.bool bd) (.bool pl) (.bool mi) (.bool am) 37
  have bel3 := bel_al (bel_go bel2 hb3) (.cells #[.int .i64 fm, .bool ng, .slice a0 zs.length k0, .int .i64 T, .bool nn, .bool bd, .bool pl, .bool mi, .bool am] 37)
  clear hp0 hb3 bel2
  have c0 := A.c0
  go_wp2_with fail
  refine (C3.out _).mono ?_
  rintro r w4 ⟨rfl, hb4⟩
  clear c0
  replace A := A.below hb4
  replace R := R.below hb4
  replace O := O.below hb4
  replace hp0' := hp0'.below hb4
  have bel4 := bel_go bel3 hb4
  clear hb4 bel3
  have c0 := A.c0
  go_wp2_with fail
  refine (C4.out _).mono ?_
  rintro r W ⟨rfl, hb5⟩
  clear c0
  replace A := A.below hb5
  replace R := R.below hb5
  replace O := O.below hb5
  replace hp0' := hp0'.below hb5
  have bel5 := bel_go bel4 hb5
  have lO := O.lt
  clear hb5 bel4
  have sO := hp0'.sl
  have hbk := hp0'.block
  go_upto_region 11 with fail
  go_cut [] (fun wx => ∃ (a4 : Option Addr) (k4 : Nat), Q9 wx w3.heap.size (.int .i64 fm) (.bool GG) (.slice a4 LL.length k4) (.int .i64 T) (.bool nn) (.bool bd) (.bool pl) (.bool mi) (.bool am) ∧ Q9 wx w.heap.size (.int .i64 fm) (.bool ng) (.slice p zs.length cap) (.int .i64 T) (.bool nn) (.bool bd) (.bool pl) (.bool mi) (.bool am) ∧ Q9 wx (w.heap.size + 1) (.int .i64 0) (.bool false) (.slice none 0 0) (.int .i64 0) (.bool false) (.bool false) (.bool false) (.bool false) (.bool false) ∧ Own wx W.heap.size a4 k4 LL ∧ Below w.heap.size w wx)
  case first =>
    have CA := hid (fun a c w' h h' => CA.out a0 k0 a c w' h h')
    refine wp_region_held_drew (S := fun w' => w'.cell? ⟨w.heap.size, 0, none⟩ = some (.int .i64 fm)) (by kernel_rfl) ?_ (fun hHeld => ?_)
    · exact A.drew.c0
    refine wpAnyH_take (i := 0) (oi := _) (v := ?_) rfl (by kernel_rfl) (by kernel_rfl) (by kernel_rfl) (fun _ _ _ h => h) (Or.inl ⟨by rfl, ?_⟩) (by assumption) ?_
    rotate_left
    · (intro w hSw; (try dsimp only at hSw); go_simp; try (with_reducible rfl))
    try simp only [Act.put, List.setIfInBounds_toArray, List.set_cons_zero, List.set_cons_succ]
    refine wpAnyH_take (i := 2) (oi := _) (v := ?_) rfl (by kernel_rfl) (by kernel_rfl) (by kernel_rfl) (fun _ _ _ h => h) (Or.inl ⟨by rfl, ?_⟩) (by assumption) ?_
    rotate_left
    · (intro w hSw; (try dsimp only at hSw); go_simp; try (with_reducible rfl))
    try simp only [Act.put, List.setIfInBounds_toArray, List.set_cons_zero, List.set_cons_succ]
    refine wpAnyH_take (i := 3) (oi := _) (v := ?_) rfl (by kernel_rfl) (by kernel_rfl) (by kernel_rfl) (fun _ _ _ h => h) (Or.inl ⟨by rfl, ?_⟩) (by assumption) ?_
    rotate_left
    · (intro w hSw; (try dsimp only at hSw); go_simp; try (with_reducible rfl))
    try simp only [Act.put, List.setIfInBounds_toArray, List.set_cons_zero, List.set_cons_succ]
    refine wpAnyH_take (i := 4) (oi := _) (v := ?_) rfl (by kernel_rfl) (by kernel_rfl) (by kernel_rfl) (fun _ _ _ h => h) (Or.inl ⟨by rfl, ?_⟩) (by assumption) ?_
    rotate_left
    · (intro w hSw; (try dsimp only at hSw); go_simp; try (with_reducible rfl))
    try simp only [Act.put, List.setIfInBounds_toArray, List.set_cons_zero, List.set_cons_succ]
    refine wpAnyH_take (i := 6) (oi := _) (v := ?_) rfl (by kernel_rfl) (by kernel_rfl) (by kernel_rfl) (fun _ _ _ h => h) (Or.inl ⟨by rfl, ?_⟩) (by assumption) ?_
    rotate_left
    · (intro w hSw; (try dsimp only at hSw); go_simp; try (with_reducible rfl))
    try simp only [Act.put, List.setIfInBounds_toArray, List.set_cons_zero, List.set_cons_succ]
    refine wpAnyH_take (i := 7) (oi := _) (v := ?_) rfl (by kernel_rfl) (by kernel_rfl) (by kernel_rfl) (fun _ _ _ h => h) (Or.inl ⟨by rfl, ?_⟩) (by assumption) ?_
    rotate_left
    · (intro w hSw; (try dsimp only at hSw); go_simp; try (with_reducible rfl))
    try simp only [Act.put, List.setIfInBounds_toArray, List.set_cons_zero, List.set_cons_succ]
    refine wpAnyH_ready (rs := [1, 5]) (by kernel_rfl) (by simp) ?_
    refine AllReadyH.cons (o := _) rfl (fun K hK => ?_) (AllReadyH.cons (o := _) rfl (fun K hK => ?_) AllReadyH.nil)
    · have l1 := O.drew.c1
      have l2 := O.drew.c2
      go_simp
      refine hK.out _ _ ?_ (fun hHeld => ?_)
      · exact A.drew.c0
      clear hK K
      try simp only [Act.put, List.setIfInBounds_toArray, List.set_cons_zero, List.set_cons_succ]
      clear l1 l2
      refine wpAnyH_ready (rs := [5]) (by kernel_rfl) (by simp) ?_
      refine AllReadyH.cons (o := _) rfl (fun K hK => ?_) AllReadyH.nil
      go_simp
      go_at_call 33; refine (CU.out _).mono ?_; rintro r q1 ⟨a1, k1, rfl, hp1, hq1⟩
      have O1 := O.drew.below hq1
      have A1 := A.drew.below hq1
      have s1 := sO.drew.below hq1
      refine hK.out _ _ ?_ (fun hHeld => ?_)
      · exact A1.c0
      clear hK K
      try simp only [Act.put, List.setIfInBounds_toArray, List.set_cons_zero, List.set_cons_succ]
      refine wpAnyH_ready (rs := [8]) (by kernel_rfl) (by simp) ?_
      refine AllReadyH.cons (o := _) rfl (fun K hK => ?_) AllReadyH.nil
      go_simp
      go_at_call 35; refine (CQ.out _).mono ?_; rintro r q2 ⟨rfl, hq2⟩
      have O2 := O1.below hq2
      have A2 := A1.below hq2
      have s2 := s1.below hq2
      have hp2 := hp1.below hq2
      refine hK.out _ _ ?_ (fun hHeld => ?_)
      · exact A2.c0
      clear hK K
      try simp only [Act.put, List.setIfInBounds_toArray, List.set_cons_zero, List.set_cons_succ]
      refine wpAnyH_take (i := 9) (oi := _) (v := ?_) rfl (by kernel_rfl) (by kernel_rfl) (by kernel_rfl) (fun _ _ _ h => h) (Or.inl ⟨by rfl, ?_⟩) (by assumption) ?_
      rotate_left
      · (intro w hSw; (try dsimp only at hSw); go_simp; try (with_reducible rfl))
      try simp only [Act.put, List.setIfInBounds_toArray, List.set_cons_zero, List.set_cons_succ]
      refine wpAnyH_ready (rs := [10]) (by kernel_rfl) (by simp) ?_
      refine AllReadyH.cons (o := _) rfl (fun K hK => ?_) AllReadyH.nil
      go_simp
      go_at_call 53; refine (CS.out a1 k1 _ hp2.sl).mono ?_; rintro r q3 ⟨a3, k3, rfl, hp3, hq3⟩
      have O3 := O2.below hq3
      have A3 := A2.below hq3
      have s3 := s2.below hq3
      refine hK.out _ _ ?_ (fun hHeld => ?_)
      · exact A3.c0
      clear hK K
      try simp only [Act.put, List.setIfInBounds_toArray, List.set_cons_zero, List.set_cons_succ]
      refine wpAnyH_ready (rs := [11]) (by kernel_rfl) (by simp) ?_
      refine AllReadyH.cons (o := _) rfl (fun K hK => ?_) AllReadyH.nil
      go_simp
      go_at_call 32; refine (CA.out a3 k3 _ s3 hp3.sl).mono ?_; rintro r q4 ⟨a4, k4, rfl, hp4, hq4⟩
      have O4 := O3.below hq4
      have A4 := A3.below hq4
      have o1 := O4.c1
      have o2 := O4.c2
      have g1 := O4.f1
      have g2 := O4.f2
      refine hK.out _ _ ?_ (fun hHeld => ?_)
      · exact A4.c0
      clear hK K
      try simp only [Act.put, List.setIfInBounds_toArray, List.set_cons_zero, List.set_cons_succ]
      refine wpAnyH_take (i := 12) (oi := _) (v := ?_) rfl (by kernel_rfl) (by kernel_rfl) (by kernel_rfl) (fun _ _ _ h => h) (Or.inl ⟨by rfl, ?_⟩) (by assumption) ?_
      rotate_left
      · (intro w hSw; (try dsimp only at hSw); go_simp; try (with_reducible rfl))
      try simp only [Act.put, List.setIfInBounds_toArray, List.set_cons_zero, List.set_cons_succ]
      refine wpAnyH_ready (rs := [13]) (by kernel_rfl) (by simp) ?_
      refine AllReadyH.cons (o := _) rfl (fun K hK => ?_) AllReadyH.nil
      go_simp
      refine hK.out _ _ ?_ (fun hHeld => ?_)
      · exact (A4.other (by simp; omega) _).other (by simp; omega) _ |>.c0
      clear hK K
      try simp only [Act.put, List.setIfInBounds_toArray, List.set_cons_zero, List.set_cons_succ]
      refine wpAnyH_done (by kernel_rfl) ?_ _
      go_wp2_with fail
      go_meet
      exact ⟨a4, k4, ((O4.set1 _).set2 _), (A4.other (by simp; omega) _).other (by simp; omega) _, (((R.drew.below hq1).below hq2).below hq3).below hq4 |>.other (by simp; omega) _ |>.other (by simp; omega) _, (by refine Own.base (B := q3.heap.size) ?_ (by have := hq1.size; have := hq2.size; have := hq3.size; have e : W.drew.heap.size = W.heap.size := rfl; omega); exact (hp4.setBelow (by have := hq1.size; have := hq2.size; have := hq3.size; have e : W.drew.heap.size = W.heap.size := rfl; simp; omega) _).setBelow (by have := hq1.size; have := hq2.size; have := hq3.size; have e : W.drew.heap.size = W.heap.size := rfl; simp; omega) _), (by have b4 := bel_go (bel_go (bel_go (bel_go (Below.drew bel5) hq1) hq2) hq3) hq4; exact (b4.setCell (by simp; omega) _).setCell (by simp; omega) _)⟩
    · go_simp
      go_at_call 33; refine (CU.out _).mono ?_; rintro r q1 ⟨a1, k1, rfl, hp1, hq1⟩
      have O1 := O.drew.below hq1
      have A1 := A.drew.below hq1
      have s1 := sO.drew.below hq1
      refine hK.out _ _ ?_ (fun hHeld => ?_)
      · exact A1.c0
      clear hK K
      try simp only [Act.put, List.setIfInBounds_toArray, List.set_cons_zero, List.set_cons_succ]
      refine wpAnyH_ready (rs := [1, 8]) (by kernel_rfl) (by simp) ?_
      refine AllReadyH.cons (o := _) rfl (fun K hK => ?_) (AllReadyH.cons (o := _) rfl (fun K hK => ?_) AllReadyH.nil)
      · have l1 := O1.c1
        have l2 := O1.c2
        go_simp
        refine hK.out _ _ ?_ (fun hHeld => ?_)
        · exact A1.c0
        clear hK K
        try simp only [Act.put, List.setIfInBounds_toArray, List.set_cons_zero, List.set_cons_succ]
        clear l1 l2
        refine wpAnyH_ready (rs := [8]) (by kernel_rfl) (by simp) ?_
        refine AllReadyH.cons (o := _) rfl (fun K hK => ?_) AllReadyH.nil
        go_simp
        go_at_call 35; refine (CQ.out _).mono ?_; rintro r q2 ⟨rfl, hq2⟩
        have O2 := O1.below hq2
        have A2 := A1.below hq2
        have s2 := s1.below hq2
        have hp2 := hp1.below hq2
        refine hK.out _ _ ?_ (fun hHeld => ?_)
        · exact A2.c0
        clear hK K
        try simp only [Act.put, List.setIfInBounds_toArray, List.set_cons_zero, List.set_cons_succ]
        refine wpAnyH_take (i := 9) (oi := _) (v := ?_) rfl (by kernel_rfl) (by kernel_rfl) (by kernel_rfl) (fun _ _ _ h => h) (Or.inl ⟨by rfl, ?_⟩) (by assumption) ?_
        rotate_left
        · (intro w hSw; (try dsimp only at hSw); go_simp; try (with_reducible rfl))
        try simp only [Act.put, List.setIfInBounds_toArray, List.set_cons_zero, List.set_cons_succ]
        refine wpAnyH_ready (rs := [10]) (by kernel_rfl) (by simp) ?_
        refine AllReadyH.cons (o := _) rfl (fun K hK => ?_) AllReadyH.nil
        go_simp
        go_at_call 53; refine (CS.out a1 k1 _ hp2.sl).mono ?_; rintro r q3 ⟨a3, k3, rfl, hp3, hq3⟩
        have O3 := O2.below hq3
        have A3 := A2.below hq3
        have s3 := s2.below hq3
        refine hK.out _ _ ?_ (fun hHeld => ?_)
        · exact A3.c0
        clear hK K
        try simp only [Act.put, List.setIfInBounds_toArray, List.set_cons_zero, List.set_cons_succ]
        refine wpAnyH_ready (rs := [11]) (by kernel_rfl) (by simp) ?_
        refine AllReadyH.cons (o := _) rfl (fun K hK => ?_) AllReadyH.nil
        go_simp
        go_at_call 32; refine (CA.out a3 k3 _ s3 hp3.sl).mono ?_; rintro r q4 ⟨a4, k4, rfl, hp4, hq4⟩
        have O4 := O3.below hq4
        have A4 := A3.below hq4
        have o1 := O4.c1
        have o2 := O4.c2
        have g1 := O4.f1
        have g2 := O4.f2
        refine hK.out _ _ ?_ (fun hHeld => ?_)
        · exact A4.c0
        clear hK K
        try simp only [Act.put, List.setIfInBounds_toArray, List.set_cons_zero, List.set_cons_succ]
        refine wpAnyH_take (i := 12) (oi := _) (v := ?_) rfl (by kernel_rfl) (by kernel_rfl) (by kernel_rfl) (fun _ _ _ h => h) (Or.inl ⟨by rfl, ?_⟩) (by assumption) ?_
        rotate_left
        · (intro w hSw; (try dsimp only at hSw); go_simp; try (with_reducible rfl))
        try simp only [Act.put, List.setIfInBounds_toArray, List.set_cons_zero, List.set_cons_succ]
        refine wpAnyH_ready (rs := [13]) (by kernel_rfl) (by simp) ?_
        refine AllReadyH.cons (o := _) rfl (fun K hK => ?_) AllReadyH.nil
        go_simp
        refine hK.out _ _ ?_ (fun hHeld => ?_)
        · exact (A4.other (by simp; omega) _).other (by simp; omega) _ |>.c0
        clear hK K
        try simp only [Act.put, List.setIfInBounds_toArray, List.set_cons_zero, List.set_cons_succ]
        refine wpAnyH_done (by kernel_rfl) ?_ _
        go_wp2_with fail
        go_meet
        exact ⟨a4, k4, ((O4.set1 _).set2 _), (A4.other (by simp; omega) _).other (by simp; omega) _, (((R.drew.below hq1).below hq2).below hq3).below hq4 |>.other (by simp; omega) _ |>.other (by simp; omega) _, (by refine Own.base (B := q3.heap.size) ?_ (by have := hq1.size; have := hq2.size; have := hq3.size; have e : W.drew.heap.size = W.heap.size := rfl; omega); exact (hp4.setBelow (by have := hq1.size; have := hq2.size; have := hq3.size; have e : W.drew.heap.size = W.heap.size := rfl; simp; omega) _).setBelow (by have := hq1.size; have := hq2.size; have := hq3.size; have e : W.drew.heap.size = W.heap.size := rfl; simp; omega) _), (by have b4 := bel_go (bel_go (bel_go (bel_go (Below.drew bel5) hq1) hq2) hq3) hq4; exact (b4.setCell (by simp; omega) _).setCell (by simp; omega) _)⟩
      · go_simp
        go_at_call 35; refine (CQ.out _).mono ?_; rintro r q2 ⟨rfl, hq2⟩
        have O2 := O1.below hq2
        have A2 := A1.below hq2
        have s2 := s1.below hq2
        have hp2 := hp1.below hq2
        refine hK.out _ _ ?_ (fun hHeld => ?_)
        · exact A2.c0
        clear hK K
        try simp only [Act.put, List.setIfInBounds_toArray, List.set_cons_zero, List.set_cons_succ]
        refine wpAnyH_take (i := 9) (oi := _) (v := ?_) rfl (by kernel_rfl) (by kernel_rfl) (by kernel_rfl) (fun _ _ _ h => h) (Or.inl ⟨by rfl, ?_⟩) (by assumption) ?_
        rotate_left
        · (intro w hSw; (try dsimp only at hSw); go_simp; try (with_reducible rfl))
        try simp only [Act.put, List.setIfInBounds_toArray, List.set_cons_zero, List.set_cons_succ]
        refine wpAnyH_ready (rs := [1, 10]) (by kernel_rfl) (by simp) ?_
        refine AllReadyH.cons (o := _) rfl (fun K hK => ?_) (AllReadyH.cons (o := _) rfl (fun K hK => ?_) AllReadyH.nil)
        · have l1 := O2.c1
          have l2 := O2.c2
          go_simp
          refine hK.out _ _ ?_ (fun hHeld => ?_)
          · exact A2.c0
          clear hK K
          try simp only [Act.put, List.setIfInBounds_toArray, List.set_cons_zero, List.set_cons_succ]
          clear l1 l2
          refine wpAnyH_ready (rs := [10]) (by kernel_rfl) (by simp) ?_
          refine AllReadyH.cons (o := _) rfl (fun K hK => ?_) AllReadyH.nil
          go_simp
          go_at_call 53; refine (CS.out a1 k1 _ hp2.sl).mono ?_; rintro r q3 ⟨a3, k3, rfl, hp3, hq3⟩
          have O3 := O2.below hq3
          have A3 := A2.below hq3
          have s3 := s2.below hq3
          refine hK.out _ _ ?_ (fun hHeld => ?_)
          · exact A3.c0
          clear hK K
          try simp only [Act.put, List.setIfInBounds_toArray, List.set_cons_zero, List.set_cons_succ]
          refine wpAnyH_ready (rs := [11]) (by kernel_rfl) (by simp) ?_
          refine AllReadyH.cons (o := _) rfl (fun K hK => ?_) AllReadyH.nil
          go_simp
          go_at_call 32; refine (CA.out a3 k3 _ s3 hp3.sl).mono ?_; rintro r q4 ⟨a4, k4, rfl, hp4, hq4⟩
          have O4 := O3.below hq4
          have A4 := A3.below hq4
          have o1 := O4.c1
          have o2 := O4.c2
          have g1 := O4.f1
          have g2 := O4.f2
          refine hK.out _ _ ?_ (fun hHeld => ?_)
          · exact A4.c0
          clear hK K
          try simp only [Act.put, List.setIfInBounds_toArray, List.set_cons_zero, List.set_cons_succ]
          refine wpAnyH_take (i := 12) (oi := _) (v := ?_) rfl (by kernel_rfl) (by kernel_rfl) (by kernel_rfl) (fun _ _ _ h => h) (Or.inl ⟨by rfl, ?_⟩) (by assumption) ?_
          rotate_left
          · (intro w hSw; (try dsimp only at hSw); go_simp; try (with_reducible rfl))
          try simp only [Act.put, List.setIfInBounds_toArray, List.set_cons_zero, List.set_cons_succ]
          refine wpAnyH_ready (rs := [13]) (by kernel_rfl) (by simp) ?_
          refine AllReadyH.cons (o := _) rfl (fun K hK => ?_) AllReadyH.nil
          go_simp
          refine hK.out _ _ ?_ (fun hHeld => ?_)
          · exact (A4.other (by simp; omega) _).other (by simp; omega) _ |>.c0
          clear hK K
          try simp only [Act.put, List.setIfInBounds_toArray, List.set_cons_zero, List.set_cons_succ]
          refine wpAnyH_done (by kernel_rfl) ?_ _
          go_wp2_with fail
          go_meet
          exact ⟨a4, k4, ((O4.set1 _).set2 _), (A4.other (by simp; omega) _).other (by simp; omega) _, (((R.drew.below hq1).below hq2).below hq3).below hq4 |>.other (by simp; omega) _ |>.other (by simp; omega) _, (by refine Own.base (B := q3.heap.size) ?_ (by have := hq1.size; have := hq2.size; have := hq3.size; have e : W.drew.heap.size = W.heap.size := rfl; omega); exact (hp4.setBelow (by have := hq1.size; have := hq2.size; have := hq3.size; have e : W.drew.heap.size = W.heap.size := rfl; simp; omega) _).setBelow (by have := hq1.size; have := hq2.size; have := hq3.size; have e : W.drew.heap.size = W.heap.size := rfl; simp; omega) _), (by have b4 := bel_go (bel_go (bel_go (bel_go (Below.drew bel5) hq1) hq2) hq3) hq4; exact (b4.setCell (by simp; omega) _).setCell (by simp; omega) _)⟩
        · go_simp
          go_at_call 53; refine (CS.out a1 k1 _ hp2.sl).mono ?_; rintro r q3 ⟨a3, k3, rfl, hp3, hq3⟩
          have O3 := O2.below hq3
          have A3 := A2.below hq3
          have s3 := s2.below hq3
          refine hK.out _ _ ?_ (fun hHeld => ?_)
          · exact A3.c0
          clear hK K
          try simp only [Act.put, List.setIfInBounds_toArray, List.set_cons_zero, List.set_cons_succ]
          refine wpAnyH_ready (rs := [1]) (by kernel_rfl) (by simp) ?_
          refine AllReadyH.cons (o := _) rfl (fun K hK => ?_) AllReadyH.nil
          have l1 := O3.c1
          have l2 := O3.c2
          go_simp
          refine hK.out _ _ ?_ (fun hHeld => ?_)
          · exact A3.c0
          clear hK K
          try simp only [Act.put, List.setIfInBounds_toArray, List.set_cons_zero, List.set_cons_succ]
          clear l1 l2
          refine wpAnyH_ready (rs := [11]) (by kernel_rfl) (by simp) ?_
          refine AllReadyH.cons (o := _) rfl (fun K hK => ?_) AllReadyH.nil
          go_simp
          go_at_call 32; refine (CA.out a3 k3 _ s3 hp3.sl).mono ?_; rintro r q4 ⟨a4, k4, rfl, hp4, hq4⟩
          have O4 := O3.below hq4
          have A4 := A3.below hq4
          have o1 := O4.c1
          have o2 := O4.c2
          have g1 := O4.f1
          have g2 := O4.f2
          refine hK.out _ _ ?_ (fun hHeld => ?_)
          · exact A4.c0
          clear hK K
          try simp only [Act.put, List.setIfInBounds_toArray, List.set_cons_zero, List.set_cons_succ]
          refine wpAnyH_take (i := 12) (oi := _) (v := ?_) rfl (by kernel_rfl) (by kernel_rfl) (by kernel_rfl) (fun _ _ _ h => h) (Or.inl ⟨by rfl, ?_⟩) (by assumption) ?_
          rotate_left
          · (intro w hSw; (try dsimp only at hSw); go_simp; try (with_reducible rfl))
          try simp only [Act.put, List.setIfInBounds_toArray, List.set_cons_zero, List.set_cons_succ]
          refine wpAnyH_ready (rs := [13]) (by kernel_rfl) (by simp) ?_
          refine AllReadyH.cons (o := _) rfl (fun K hK => ?_) AllReadyH.nil
          go_simp
          refine hK.out _ _ ?_ (fun hHeld => ?_)
          · exact (A4.other (by simp; omega) _).other (by simp; omega) _ |>.c0
          clear hK K
          try simp only [Act.put, List.setIfInBounds_toArray, List.set_cons_zero, List.set_cons_succ]
          refine wpAnyH_done (by kernel_rfl) ?_ _
          go_wp2_with fail
          go_meet
          exact ⟨a4, k4, ((O4.set1 _).set2 _), (A4.other (by simp; omega) _).other (by simp; omega) _, (((R.drew.below hq1).below hq2).below hq3).below hq4 |>.other (by simp; omega) _ |>.other (by simp; omega) _, (by refine Own.base (B := q3.heap.size) ?_ (by have := hq1.size; have := hq2.size; have := hq3.size; have e : W.drew.heap.size = W.heap.size := rfl; omega); exact (hp4.setBelow (by have := hq1.size; have := hq2.size; have := hq3.size; have e : W.drew.heap.size = W.heap.size := rfl; simp; omega) _).setBelow (by have := hq1.size; have := hq2.size; have := hq3.size; have e : W.drew.heap.size = W.heap.size := rfl; simp; omega) _), (by have b4 := bel_go (bel_go (bel_go (bel_go (Below.drew bel5) hq1) hq2) hq3) hq4; exact (b4.setCell (by simp; omega) _).setCell (by simp; omega) _)⟩
  case rest =>
  clear O A R
  rename World => wx11
  obtain ⟨a4, k4, O, A, R, own4, bel6⟩ := hcut
  have lO3 : w.heap.size + 1 < w3.heap.size := by omega
  have lW := own4
  have ctd := O.drew.cs
  have cod := A.drew.c0
  go_wp2_with fail
  go_region_held3 (fun w' => (w'.cell? ⟨w3.heap.size, 0, none⟩ = some (.int .i64 fm) ∧ w'.cell? ⟨w3.heap.size, 1, none⟩ = some (.bool GG) ∧ w'.cell? ⟨w3.heap.size, 2, none⟩ = some (.slice a4 LL.length k4) ∧ w'.cell? ⟨w3.heap.size, 3, none⟩ = some (.int .i64 T) ∧ w'.cell? ⟨w3.heap.size, 4, none⟩ = some (.bool nn) ∧ w'.cell? ⟨w3.heap.size, 5, none⟩ = some (.bool bd) ∧ w'.cell? ⟨w3.heap.size, 6, none⟩ = some (.bool pl) ∧ w'.cell? ⟨w3.heap.size, 7, none⟩ = some (.bool mi) ∧ w'.cell? ⟨w3.heap.size, 8, none⟩ = some (.bool am)) ∧ w'.cell? ⟨w.heap.size, 0, none⟩ = some (.int .i64 fm))
    (first | with_reducible assumption | with_reducible exact ⟨ctd, cod⟩ | with_reducible exact keep91 O2 A2 (by omega) (by omega) _ _ _ _ _ _ _ _ _ _ rfl | fail)
    (first
      | (go_at_call 55; refine (CZ.out _).mono ?_; rintro r q1 ⟨rfl, hq1⟩; have O1 := O.drew.below hq1; have A1 := A.drew.below hq1; have R1 := R.drew.below hq1; have u1 := And.intro O1.cs A1.c0; have own5 := own4.drew.below hq1)
      | (go_at_call 54; refine (C7.out a4 k4 _).mono ?_; rintro r q2 ⟨rfl, hq2⟩; have O2 := O1.below hq2; have A2 := A1.below hq2; have u2 := And.intro O2.cs A2.c0; have own6 := own5.below hq2; obtain ⟨r0, r1, r2, r3, r4, r5, r6, r7, r8, g0, g1, g2, g3, g4, g5, g6, g7, g8⟩ := R1.below hq2))
  have bel7 : Below w.heap.size w q2 := bel_go (bel_go (Below.drew bel6) hq1) hq2
  have lW2 : w.heap.size + 1 < W.heap.size := by omega
  go_wp2
  refine bodyPost_ret (v := .tuple #[.agg #[.int .i64 fm, .bool GG, .slice a4 LL.length k4, .int .i64 T2, .bool nn, .bool bd, .bool pl, .bool mi, .bool a2], .int .i64 0]) (by simp [results, Tryz.results17, go_sem, r0, r1, r2, r3, r4, r5, r6, r7, r8]) rfl ⟨a4, k4, rfl, ?_, ?_⟩
  · refine Own.base (B := W.heap.size) ?_ (by omega)
    repeat (first | with_reducible exact own6 | (with_reducible refine Own.setBelow ?_ ?_ _; rotate_left; (simp; try omega)))
  · exact (by repeat (first | (with_reducible refine Below.setCell ?_ ?_ _; rotate_left; focus (first | omega | (simp; done) | (simp; omega))) | (with_reducible exact Below.refl _ _) | (with_reducible refine Below.drew ?_) | (with_reducible refine bel_dn ?_ _) | (with_reducible refine bel_al ?_ _) | (with_reducible refine bel_go ?_ bel7) | (with_reducible refine Below.alloc ?_ ?_ _; rotate_left; focus (first | omega | (simp; done) | (simp; omega))) | (with_reducible refine Below.trans ?_ (Below.mono bel7 ?_); rotate_left; focus (first | omega | (simp; done) | (simp; omega)))))
set_option maxHeartbeats 16000000 in
set_option maxRecDepth 100000 in
theorem add_spec_odd (fm : Int) (ng : Bool) (T : Int) (nn bd pl mi am : Bool) (p : Option Addr) (cap : Nat) (zs : List Int) (x : Int) (w : World) (hs : Sl .u32 w (.slice p zs.length cap) zs) (hz : Nm.Dg zs) (hk : accB fm ng zs T nn bd pl mi am = true) (hx : okF fm x = true) (x0 : 0 ≤ x) (x1 : x < 18446744073709551616) (hTm : T ≠ 1000000) (hfin : finB fm x = false) (n2 b2 p2 m2 : Bool) (hn2 : n2 = (nn || nanB fm x)) (hb2 : b2 = (bd || (cls fm x == 5))) (hp2 : p2 = (pl || (!nanB fm x && !sigB fm x))) (hm2 : m2 = (mi || (!nanB fm x && sigB fm x))) :
    Calls Tryz.prog 17 #[.agg #[.int .i64 fm, .bool ng, .slice p zs.length cap, .int .i64 T, .bool nn, .bool bd, .bool pl, .bool mi, .bool am], .int .u64 x] w fun r w' => ∃ a' c', r = .returned (.tuple #[.agg #[.int .i64 fm, .bool ng, .slice a' zs.length c', .int .i64 (T + 1), .bool n2, .bool b2, .bool p2, .bool m2, .bool false], .int .i64 0]) ∧ Own w' w.heap.size a' c' zs ∧ Below w.heap.size w w' := by
  obtain ⟨-, hk1, ho1, -⟩ := acc_parts' hk
  obtain ⟨nz, hl⟩ := okB_nz ho1
  obtain ⟨t0, t1⟩ := mkB_T hk1
  have C1 := hid (fun w' h => accok_spec fm ng T nn bd pl mi am p cap zs w' h (by omega))
  have C2 := hid (fun w' => spec_ok fm x w')
  have C3 := hid (fun w' => spec_l2neg fm x w' hx x0 x1)
  have C4 := hid (fun w' => spec_fin fm x w' x0 x1)
  have CC := hid (fun w' h => copy_any fm ng T nn bd pl mi am p cap zs w' h hz (by omega) ho1)
  rw [hk] at C1
  rw [hx] at C2
  rw [hfin] at C4
  have hT' : (T == 1000000) = false := by simpa using hTm
  obtain ⟨sg, hsg⟩ : ∃ sg, sg = sigB fm x := ⟨_, rfl⟩
  rw [← hsg] at C3
  have CN := hid (fun w' => spec_nan fm x w' hx x0 x1)
  have CK := hid (fun w' => spec_cls fm x w' x0 x1)
  obtain ⟨na, hna⟩ : ∃ na, na = nanB fm x := ⟨_, rfl⟩
  obtain ⟨cc, hcc⟩ : ∃ cc, cc = cls fm x := ⟨_, rfl⟩
  obtain ⟨T2, hT2⟩ : ∃ T2, T2 = T + 1 := ⟨_, rfl⟩
  obtain ⟨sl, hsl⟩ : ∃ sl, sl = (cc == 5) := ⟨_, rfl⟩
  rw [← hna] at CN hn2 hp2 hm2
  rw [← hcc] at CK hb2
  rw [← hsg] at hp2 hm2
  rw [← hsl] at hb2
  rw [← hT2]
  have C7 := hid (fun p' c' w' => special7 fm ng T nn bd pl mi am p' zs.length c' na sl sg w' t0 t1 T2 hT2 n2 b2 p2 m2 hn2 hb2 hp2 hm2)
  have hsl' := hsl.symm
  clear hsl hsg hna hcc hT2 hn2 hb2 hp2 hm2 hk hx hfin hz nz ho1 hk1 hTm
  have A := (Q9.new w (.int .i64 fm) (.bool ng) (.slice p zs.length cap) (.int .i64 T) (.bool nn) (.bool bd) (.bool pl) (.bool mi) (.bool am) 37).alloc (.cells #[.int .i64 0, .bool false, .slice none 0 0, .int .i64 0, .bool false, .bool false, .bool false, .bool false, .bool false] 37)
  have R := Q9.nw2b w (.cells #[.int .i64 fm, .bool ng, .slice p zs.length cap, .int .i64 T, .bool nn, .bool bd, .bool pl, .bool mi, .bool am] 37) (.int .i64 0) (.bool false) (.slice none 0 0) (.int .i64 0) (.bool false) (.bool false) (.bool false) (.bool false) (.bool false) 37
  have bel0 : Below w.heap.size w ((w.alloc (.cells #[.int .i64 fm, .bool ng, .slice p zs.length cap, .int .i64 T, .bool nn, .bool bd, .bool pl, .bool mi, .bool am] 37)).alloc (.cells #[.int .i64 0, .bool false, .slice none 0 0, .int .i64 0, .bool false, .bool false, .bool false, .bool false, .bool false] 37)) := (by repeat (first | exact Below.refl _ _ | refine Below.drew ?_ | refine bel_dn ?_ _ | refine bel_al ?_ _ | refine Below.setCell ?_ (by first | omega | (simp; done) | (simp; omega)) _ | refine Below.alloc ?_ (by first | omega | (simp; done) | (simp; omega)) _))
  go_enter Tryz.func17, Tryz.ntmps17
  go_wp2_with fail
  refine (C1.out _ (hs.below bel0)).mono ?_
  rintro r w1 ⟨rfl, hb1⟩
  replace A := A.below hb1
  replace R := R.below hb1
  have bel1 := bel_go bel0 hb1
  clear bel0 hb1
  have c0 := A.c0
  go_wp2_with fail
  refine (C2.out _).mono ?_
  rintro r w2 ⟨rfl, hb2⟩
  clear c0
  replace A := A.below hb2
  replace R := R.below hb2
  have bel2 := bel_go bel1 hb2
  clear bel1 hb2
  obtain ⟨c0, c1, c2, c3, c4, c5, c6, c7, c8⟩ := A.cs
  go_wp2_with fail
  refine (CC.out _ (hs.below bel2)).mono ?_
  rintro r w3 ⟨a0, k0, rfl, hp0, hb3⟩
  clear c0 c1 c2 c3 c4 c5 c6 c7 c8
  have lr := R.lt
  have z3 := hb3.size
  have z2 := bel2.size
  have hp0' := hp0.alloc (.cells #[.int .i64 fm, .bool ng, .slice a0 zs.length k0, .int .i64 T, .bool nn, .bool bd, .bool pl, .bool mi, .bool am] 37)
  replace A := (A.below hb3).alloc (.cells #[.int .i64 fm, .bool ng, .slice a0 zs.length k0, .int .i64 T, .bool nn, .bool bd, .bool pl, .bool mi, .bool am] 37)
  replace R := (R.below hb3).alloc (.cells #[.int .i64 fm, .bool ng, .slice a0 zs.length k0, .int .i64 T, .bool nn, .bool bd, .bool pl, .bool mi, .bool am] 37)
  have O := Q9.new w3 (.int .i64 fm) (.bool ng) (.slice a0 zs.length k0) (.int .i64 T) (.bool nn) (.bool bd) (.bool pl) (.bool mi) (.bool am) 37
  have bel3 := bel_al (bel_go bel2 hb3) (.cells #[.int .i64 fm, .bool ng, .slice a0 zs.length k0, .int .i64 T, .bool nn, .bool bd, .bool pl, .bool mi, .bool am] 37)
  clear hp0 hb3 bel2
  have c0 := A.c0
  go_wp2_with fail
  refine (C3.out _).mono ?_
  rintro r w4 ⟨rfl, hb4⟩
  clear c0
  replace A := A.below hb4
  replace R := R.below hb4
  replace O := O.below hb4
  replace hp0' := hp0'.below hb4
  have bel4 := bel_go bel3 hb4
  clear hb4 bel3
  have c0 := A.c0
  go_wp2_with fail
  refine (C4.out _).mono ?_
  rintro r W ⟨rfl, hb5⟩
  clear c0
  replace A := A.below hb5
  replace R := R.below hb5
  replace O := O.below hb5
  replace hp0' := hp0'.below hb5
  have bel5 := bel_go bel4 hb5
  have lO := O.lt
  clear hb5 bel4
  have ctd := O.drew.cs
  have cod := A.drew.c0
  have lO3 : w.heap.size + 1 < w3.heap.size := by omega
  go_wp2_with fail
  go_region_held3 (fun w' => (w'.cell? ⟨w3.heap.size, 0, none⟩ = some (.int .i64 fm) ∧ w'.cell? ⟨w3.heap.size, 1, none⟩ = some (.bool ng) ∧ w'.cell? ⟨w3.heap.size, 2, none⟩ = some (.slice a0 zs.length k0) ∧ w'.cell? ⟨w3.heap.size, 3, none⟩ = some (.int .i64 T) ∧ w'.cell? ⟨w3.heap.size, 4, none⟩ = some (.bool nn) ∧ w'.cell? ⟨w3.heap.size, 5, none⟩ = some (.bool bd) ∧ w'.cell? ⟨w3.heap.size, 6, none⟩ = some (.bool pl) ∧ w'.cell? ⟨w3.heap.size, 7, none⟩ = some (.bool mi) ∧ w'.cell? ⟨w3.heap.size, 8, none⟩ = some (.bool am)) ∧ w'.cell? ⟨w.heap.size, 0, none⟩ = some (.int .i64 fm))
    (first | with_reducible assumption | with_reducible exact ⟨ctd, cod⟩ | with_reducible exact keep91 O3 A3 (by omega) (by omega) _ _ _ _ _ _ _ _ _ _ rfl | fail)
    (first
      | (go_at_call 51; refine (CN.out _).mono ?_; rintro r q1 ⟨rfl, hq1⟩; have O1 := O.drew.below hq1; have A1 := A.drew.below hq1; have R1 := R.drew.below hq1; have u1 := And.intro O1.cs A1.c0; have own5 := hp0'.drew.below hq1)
      | (go_at_call 52; refine (CK.out _).mono ?_; rintro r q2 ⟨rfl, hq2⟩; have O2 := O1.below hq2; have A2 := A1.below hq2; have R2' := R1.below hq2; have u2 := And.intro O2.cs A2.c0; have own6 := own5.below hq2)
      | (go_at_call 50; refine (C7.out a0 k0 _).mono ?_; rintro r q3 ⟨rfl, hq3⟩; have O3 := O2.below hq3; have A3 := A2.below hq3; have u3 := And.intro O3.cs A3.c0; have own7 := own6.below hq3; obtain ⟨r0, r1, r2, r3, r4, r5, r6, r7, r8, g0, g1, g2, g3, g4, g5, g6, g7, g8⟩ := R2'.below hq3))
  have bel7 : Below w.heap.size w q3 := bel_go (bel_go (bel_go (Below.drew bel5) hq1) hq2) hq3
  go_wp2
  refine bodyPost_ret (v := .tuple #[.agg #[.int .i64 fm, .bool ng, .slice a0 zs.length k0, .int .i64 T2, .bool n2, .bool b2, .bool p2, .bool m2, .bool false], .int .i64 0]) (by simp [results, Tryz.results17, go_sem, r0, r1, r2, r3, r4, r5, r6, r7, r8]) rfl ⟨a0, k0, rfl, ?_, ?_⟩
  · refine Own.base (B := w2.heap.size) ?_ (by omega)
    repeat (first | with_reducible exact own7 | (with_reducible refine Own.setBelow ?_ ?_ _; rotate_left; (simp; try omega)))
  · exact (by repeat (first | (with_reducible refine Below.setCell ?_ ?_ _; rotate_left; focus (first | omega | (simp; done) | (simp; omega))) | (with_reducible exact Below.refl _ _) | (with_reducible refine Below.drew ?_) | (with_reducible refine bel_dn ?_ _) | (with_reducible refine bel_al ?_ _) | (with_reducible refine bel_go ?_ bel7) | (with_reducible refine Below.alloc ?_ ?_ _; rotate_left; focus (first | omega | (simp; done) | (simp; omega))) | (with_reducible refine Below.trans ?_ (Below.mono bel7 ?_); rotate_left; focus (first | omega | (simp; done) | (simp; omega)))))
end Go.Proofs.YtpoojmheegncfaaGreatDoor
/-
  One term more, a float, at every argument: by both.
-/
namespace Go.Proofs.YtpoojmheegncfaaGreatDoor
set_option linter.unusedVariables false
set_option linter.unusedSimpArgs false
open Go.RowKit Go.Deep
/-- What the program's variables hold. -/
structure EE (u : Value) (w : World) : Prop where
  t : Tab w
  g : EA.ErrT w
  q : ErrQ w u
def EX (w : World) : Prop := ∃ u, EE u w
theorem EE.below {u : Value} {w w' : World} (h : EE u w) (hb : Below w.heap.size w w') : EE u w' := ⟨h.t.below hb, EA.five h.g hb, (hb.cell (p := ⟨0, 0, none⟩) (World.block_lt_of_cell? w _ h.q)).trans h.q⟩
theorem EX.below {w w' : World} (h : EX w) (hb : Below w.heap.size w w') : EX w' := by obtain ⟨u, h⟩ := h; exact ⟨u, h.below hb⟩
theorem sh_sh (m : Nat) {a b : Int} (ha : 0 ≤ a) (hb : 0 ≤ b) : Nm.sh (Nm.sh m a) b = Nm.sh m (a + b) := by
  unfold Nm.sh
  rw [if_neg (by omega), if_neg (by omega), if_neg (by omega), Nat.mul_assoc, ← Nat.pow_add]
  congr 2; omega
/-- The term that a finite float is, in 2 to the 2 Q. -/
def tmV (fm x : Int) : Int := Nm.shV (Nm.wn (unI fm x)) (Nm.val (Nm.wl (unI fm x))) (-unQ fm)
theorem tm_eq {fm x : Int} (hf : finB fm x = true) : tmV fm x = Nm.shV (Nm.wn (if pS fm x then -pM fm x else pM fm x)) (Nm.val (Nm.wl (if pS fm x then -pM fm x else pM fm x))) (pE fm x - 2 * unQ fm) ∧ bitLen (tmV fm x).natAbs ≤ 4216 := by
  have h1 := pM_bd fm x
  have h3 := pE_q hf
  have hb := un_bits hf
  have hq : -1074 ≤ unQ fm ∧ unQ fm ≤ -149 := by unfold unQ; split <;> omega
  obtain ⟨m, hm⟩ : ∃ m : Nat, pM fm x = m := ⟨(pM fm x).toNat, by omega⟩
  have hu : unI fm x = if pS fm x then -((Nm.sh m (pE fm x - unQ fm) : Nat) : Int) else ((Nm.sh m (pE fm x - unQ fm) : Nat) : Int) := by
    unfold unI; rw [hf, if_pos rfl, hm, Int.toNat_natCast]
  rw [hm, Int.toNat_natCast] at hb
  unfold tmV
  rw [hu, sg_shift, hm, sg_shift, sh_sh m h3.1 (by omega)]
  refine ⟨by rw [show pE fm x - unQ fm + -unQ fm = pE fm x - 2 * unQ fm by omega], ?_⟩
  have e : (if pS fm x then -((Nm.sh m (pE fm x - unQ fm + -unQ fm) : Nat) : Int) else ((Nm.sh m (pE fm x - unQ fm + -unQ fm) : Nat) : Int)).natAbs = Nm.sh m (pE fm x - unQ fm + -unQ fm) := by cases pS fm x <;> simp
  rw [e, ← sh_sh m h3.1 (by omega)]
  obtain ⟨k, hk⟩ : ∃ k, k = Nm.sh m (pE fm x - unQ fm) := ⟨_, rfl⟩
  rw [← hk] at hb ⊢
  unfold Nm.sh
  rw [if_neg (by omega)]
  by_cases h0 : k = 0
  · subst h0; rw [Nat.zero_mul]; decide
  · rw [Nm.bl_mul h0]; omega
theorem wl_len {V : Int} (h : bitLen V.natAbs ≤ 6400) : (Nm.wl V).length ≤ 200 := by unfold Nm.wl; exact lim_len (k := 200) (by omega)
theorem add_fits {fm : Int} {ng : Bool} {zs : List Int} {T : Int} {nn bd pl mi am : Bool} (dz : Nm.Dg zs) (h : accB fm ng zs T nn bd pl mi am = true) {V : Int} (hV : bitLen V.natAbs ≤ 4216) : Nm.fits (Nm.wv ng zs + V) = true := by
  refine fits_bl ?_
  have h1 := acc_val dz h
  have e1 := wv_abs ng dz
  have t1 := (mkB_T (acc_parts h).2.1).2
  have b := sum_bl (far_bl fm t1) hV
  have hm := Nm.bl_mono (show (Nm.wv ng zs + V).natAbs ≤ far fm T + V.natAbs by omega)
  omega
theorem wsh_at (G : Bool) (p : Option Addr) (c : Nat) (L : List Int) (n : Int) (w : World) (hs : Sl .u32 w (.slice p L.length c) L) (d : Nm.Dg L) (ho : okB G L = true) (h0 : -10000 ≤ n) (h1 : n ≤ 10000) (V : Int) (hV : V = Nm.shV G (Nm.val L) n) (hf : (Nm.wl V).length ≤ 200) :
    Calls Tryz.prog 114 #[.agg #[.bool G, .slice p L.length c], .int .i64 n] w fun r w' => ∃ a' c', r = .returned (.tuple #[.agg #[.bool (Nm.wn V), .slice a' (Nm.wl V).length c'], .bool true]) ∧ Own w' w.heap.size a' c' (Nm.wl V) ∧ Below w.heap.size w w' := by
  have h := wsh_impl G p c L n w hs d (by have := (okB_nz ho).2; omega)
  have e1 : (okB G L && inZ n (-10000) 10000) = true := by rw [ho]; unfold inZ; rw [decide_eq_true h0, decide_eq_true h1]; rfl
  have e3 : Nm.fits V = true := by unfold Nm.fits; exact decide_eq_true hf
  have e4 := out_fits e3
  rw [e1, ← hV, (op_yes _).1, (op_yes _).2.1, (op_yes _).2.2, e3, e4.1, e4.2] at h
  exact h
theorem wsh_nil (n : Int) (w : World) (h0 : -10000 ≤ n) (h1 : n ≤ 10000) (p : Option Addr) (c : Nat) (hs : Sl .u32 w (.slice p ([] : List Int).length c) []) :
    Calls Tryz.prog 114 #[.agg #[.bool false, .slice p ([] : List Int).length c], .int .i64 n] w fun r w' => ∃ a' c', r = .returned (.tuple #[.agg #[.bool false, .slice a' ([] : List Int).length c'], .bool true]) ∧ Own w' w.heap.size a' c' [] ∧ Below w.heap.size w w' := by
  have e : Nm.shV false (Nm.val []) n = 0 := by
    have : Nm.val [] = ((0 : Nat) : Int) := rfl
    rw [this, Nm.shV_sh]; unfold Nm.sh; split <;> simp
  have hw : Nm.wl 0 = [] := Nm.lim_zero
  have hn : Nm.wn 0 = false := by decide
  have h := wsh_at false p c [] n w hs Nm.Dg.nil rfl h0 h1 0 e.symm (by rw [hw]; simp)
  rw [hw, hn] at h
  exact h
theorem one_odd_32 (neg inf : Bool) (ev : Value) (m1 m2 m3 m4 m5 : Bool) (w : World) (hT : Tab w) (hg : EA.ErrT w) (p : Option Addr) (c : Nat) (hs : Sl .u32 w (.slice p ([] : List Int).length c) [])
    (hm : ∀ w' : World, EA.ErrT w' → Calls Tryz.prog 115 #[.agg #[.bool neg, .bool inf, .bool false, .slice p ([] : List Int).length c, .int .i64 0], ev] w' fun r w'' => r = .returned (.agg #[.int .i64 1, .bool m1, .bool m2, .bool m3, .bool m4, .bool m5]) ∧ Below w'.heap.size w' w'') :
    Calls Tryz.prog 61 #[.int .i64 32, .agg #[.bool neg, .bool inf, .bool false, .slice p ([] : List Int).length c, .int .i64 0], ev] w fun r w' => ∃ a' c', r = .returned (.agg #[.int .i64 1, .bool m1, .bool m2, .bool m3, .bool m4, .bool m5, .int .i64 32, .bool false, .slice a' ([] : List Int).length c']) ∧ Own w' w.heap.size a' c' [] ∧ Below w.heap.size w w' :=
  one_32 neg inf false p c [] 0 ev m1 m2 m3 m4 m5 false [] w hT hg hs (by decide) (by decide) hm (fun w' h => wsh_nil (0 + 298) w' (by decide) (by decide) p c h)
theorem one_odd_64 (neg inf : Bool) (ev : Value) (m1 m2 m3 m4 m5 : Bool) (w : World) (hT : Tab w) (hg : EA.ErrT w) (p : Option Addr) (c : Nat) (hs : Sl .u32 w (.slice p ([] : List Int).length c) [])
    (hm : ∀ w' : World, EA.ErrT w' → Calls Tryz.prog 115 #[.agg #[.bool neg, .bool inf, .bool false, .slice p ([] : List Int).length c, .int .i64 0], ev] w' fun r w'' => r = .returned (.agg #[.int .i64 1, .bool m1, .bool m2, .bool m3, .bool m4, .bool m5]) ∧ Below w'.heap.size w' w'') :
    Calls Tryz.prog 61 #[.int .i64 64, .agg #[.bool neg, .bool inf, .bool false, .slice p ([] : List Int).length c, .int .i64 0], ev] w fun r w' => ∃ a' c', r = .returned (.agg #[.int .i64 1, .bool m1, .bool m2, .bool m3, .bool m4, .bool m5, .int .i64 64, .bool false, .slice a' ([] : List Int).length c']) ∧ Own w' w.heap.size a' c' [] ∧ Below w.heap.size w w' :=
  one_64 neg inf false p c [] 0 ev m1 m2 m3 m4 m5 false [] w hT hg hs (by decide) (by decide) hm (fun w' h => wsh_nil (0 + 2148) w' (by decide) (by decide) p c h)
theorem one_odd (fm : Int) (hfm : fmtB fm = true) (neg inf : Bool) (ev : Value) (m1 m2 m3 m4 m5 : Bool) (w : World) (hT : Tab w) (hg : EA.ErrT w) (p : Option Addr) (c : Nat) (hs : Sl .u32 w (.slice p ([] : List Int).length c) [])
    (hm : ∀ w' : World, EA.ErrT w' → Calls Tryz.prog 115 #[.agg #[.bool neg, .bool inf, .bool false, .slice p ([] : List Int).length c, .int .i64 0], ev] w' fun r w'' => r = .returned (.agg #[.int .i64 1, .bool m1, .bool m2, .bool m3, .bool m4, .bool m5]) ∧ Below w'.heap.size w' w'') :
    Calls Tryz.prog 61 #[.int .i64 fm, .agg #[.bool neg, .bool inf, .bool false, .slice p ([] : List Int).length c, .int .i64 0], ev] w fun r w' => ∃ a' c', r = .returned (.agg #[.int .i64 1, .bool m1, .bool m2, .bool m3, .bool m4, .bool m5, .int .i64 fm, .bool false, .slice a' ([] : List Int).length c']) ∧ Own w' w.heap.size a' c' [] ∧ Below w.heap.size w w' := by
  rcases fmt_cases hfm with rfl | rfl
  · exact one_odd_32 neg inf ev m1 m2 m3 m4 m5 w hT hg p c hs hm
  · exact one_odd_64 neg inf ev m1 m2 m3 m4 m5 w hT hg p c hs hm
end Go.Proofs.YtpoojmheegncfaaGreatDoor
/-
  The walk of laws.FnExactAccAdd, out of contracts.
-/
namespace Go.Proofs.YtpoojmheegncfaaGreatDoor
set_option linter.unusedVariables false
set_option linter.unusedSimpArgs false
open Go.RowKit Go.Deep
namespace LAccAdd
attribute [local go_sem ↓] Go.wp_at_zero Go.wp_at_succ
set_option maxHeartbeats 8000000 in
set_option maxRecDepth 100000 in
theorem law (fm : Int) (ng : Bool) (T : Int) (nn bd pl mi am : Bool) (a : Option Addr) (cap : Nat) (zs : List Int) (x : Int) (w : World) (hT : EX w) (hs : Sl .u32 w (.slice a zs.length cap) zs) (fmr : Int) (ngr : Bool) (Tr : Int) (nnr bdr plr mir amr : Bool) (L : List Int) (O : Int) (hl200 : L.length ≤ 200) (hdg : Nm.Dg L)
    (hsp : zs.length ≤ 1048576 → ∀ (w : World) (a : Option Addr) (cap : Nat), Sl .u32 w (.slice a zs.length cap) zs → Calls Tryz.prog 17 #[.agg #[.int .i64 fm, .bool ng, .slice a zs.length cap, .int .i64 T, .bool nn, .bool bd, .bool pl, .bool mi, .bool am], .int .u64 x] w fun e w' => ∃ a' c', e = .returned (.tuple #[.agg #[.int .i64 fmr, .bool ngr, .slice a' L.length c', .int .i64 Tr, .bool nnr, .bool bdr, .bool plr, .bool mir, .bool amr], .int .i64 O]) ∧ Own w' w.heap.size a' c' L ∧ Below w.heap.size w w')
    (him : zs.length ≤ 1048576 → ∀ (w : World) (a : Option Addr) (cap : Nat), EX w → Sl .u32 w (.slice a zs.length cap) zs → Calls Tryz.prog 19 #[.agg #[.int .i64 fm, .bool ng, .slice a zs.length cap, .int .i64 T, .bool nn, .bool bd, .bool pl, .bool mi, .bool am], .int .u64 x] w fun e w' => ∃ a' c', e = .returned (.tuple #[.agg #[.int .i64 fmr, .bool ngr, .slice a' L.length c', .int .i64 Tr, .bool nnr, .bool bdr, .bool plr, .bool mir, .bool amr], .int .i64 O]) ∧ Own w' w.heap.size a' c' L ∧ Below w.heap.size w w') :
    Calls Tryz.prog 6 #[.agg #[.int .i64 fm, .bool ng, .slice a zs.length cap, .int .i64 T, .bool nn, .bool bd, .bool pl, .bool mi, .bool am], .int .u64 x] w fun e w' => e = .returned (.bool true) ∧ Below w.heap.size w w' := by
  have hlm : zs.length ≤ 9223372036854775807 := by obtain ⟨_, h1, h2, _⟩ := hs.cells; unfold maxLen at h2; omega
  by_cases hn : zs.length ≤ 1048576
  rotate_left
  · have hr' : szR 1048576 zs.length < 0 := by unfold szR; rw [if_pos (by omega)]; decide
    clear hsp him
    go_enter Tryz.func6, Tryz.ntmps6
    go_wp2_with fail
    refine (szA_any fm ng T nn bd pl mi am a zs.length cap 1048576 _ hlm (by decide) (by decide)).mono ?_
    rintro e w1 ⟨rfl, hb1⟩
    go_wp2
    go_ret
    exact ⟨rfl, (by repeat (first | exact Below.refl _ _ | refine Below.drew ?_ | refine bel_dn ?_ _ | refine bel_al ?_ _ | refine bel_go ?_ hb1 | refine Below.setCell ?_ (by first | omega | (simp; done) | (simp; omega)) _ | refine Below.alloc ?_ (by first | omega | (simp; done) | (simp; omega)) _ | refine Below.trans ?_ (Below.mono hb1 (by first | omega | (simp; done) | (simp; omega)))))⟩
  have hl : zs.length ≤ 140737488355328 := by omega
  have hr' : ¬ szR 1048576 zs.length < 0 := by unfold szR; rw [if_neg (by omega)]; omega
  have hoo : (O != O) = false := by simp
  have HSP := hid (hsp hn)
  have HIM := hid (him hn)
  have HDG := hid hdg
  have HR := hid (heldR_iot L.length : heldR 1 (iot 1 L.length) = 1 + L.length)
  clear hsp him hdg
  go_enter Tryz.func6, Tryz.ntmps6
  go_wp2_with fail
  refine (szA_any fm ng T nn bd pl mi am a zs.length cap 1048576 _ hlm (by decide) (by decide)).mono ?_
  rintro e w1 ⟨rfl, hb1⟩
  have P := (Q9.new w (.int .i64 fm) (.bool ng) (.slice a zs.length cap) (.int .i64 T) (.bool nn) (.bool bd) (.bool pl) (.bool mi) (.bool am) 33).below hb1
  have hs1 := (hs.alloc _).below hb1
  have bel1 : Below w.heap.size w w1 := (by repeat (first | exact Below.refl _ _ | refine Below.drew ?_ | refine bel_dn ?_ _ | refine bel_al ?_ _ | refine bel_go ?_ hb1 | refine Below.setCell ?_ (by first | omega | (simp; done) | (simp; omega)) _ | refine Below.alloc ?_ (by first | omega | (simp; done) | (simp; omega)) _ | refine Below.trans ?_ (Below.mono hb1 (by first | omega | (simp; done) | (simp; omega)))))
  have lw1 : w.heap.size < w1.heap.size := P.lt
  clear hb1
  obtain ⟨c0, c1, c2, c3, c4, c5, c6, c7, c8⟩ := P.cs
  go_wp2_with fail
  refine (toA_any fm ng T nn bd pl mi am _ zs _ hs1 hn).mono ?_
  rintro e w2 ⟨a2, k2, rfl, ho2, hb2⟩
  clear c0 c1 c2 c3 c4 c5 c6 c7 c8
  replace P := P.below hb2
  have hs2 := hs1.below hb2
  have bel2 := bel_go bel1 hb2
  have lw2 := hb2.size
  clear hs1 hb2
  go_wp2_with fail
  refine (HSP.out _ a2 k2 ho2.sl).mono ?_
  rintro e w3 ⟨a3, k3, rfl, ho3, hb3⟩
  replace P := (P.below hb3).alloc (.cells #[.int .i64 fmr, .bool ngr, .slice a3 L.length k3, .int .i64 Tr, .bool nnr, .bool bdr, .bool plr, .bool mir, .bool amr] 37)
  have S := Q9.new w3 (.int .i64 fmr) (.bool ngr) (.slice a3 L.length k3) (.int .i64 Tr) (.bool nnr) (.bool bdr) (.bool plr) (.bool mir) (.bool amr) 37
  have hs3 := (hs2.below hb3).alloc (.cells #[.int .i64 fmr, .bool ngr, .slice a3 L.length k3, .int .i64 Tr, .bool nnr, .bool bdr, .bool plr, .bool mir, .bool amr] 37)
  have ho3' := ho3.alloc (.cells #[.int .i64 fmr, .bool ngr, .slice a3 L.length k3, .int .i64 Tr, .bool nnr, .bool bdr, .bool plr, .bool mir, .bool amr] 37)
  have bel3 := bel_al (bel_go bel2 hb3) (.cells #[.int .i64 fmr, .bool ngr, .slice a3 L.length k3, .int .i64 Tr, .bool nnr, .bool bdr, .bool plr, .bool mir, .bool amr] 37)
  have lw3 := hb3.size
  have ho3b := ho3.block
  clear hs2 hb3 ho2 ho3 HSP bel1 bel2
  obtain ⟨c0, c1, c2, c3, c4, c5, c6, c7, c8⟩ := P.cs
  go_wp2_with fail
  refine (toA_any fm ng T nn bd pl mi am _ zs _ hs3 hn).mono ?_
  rintro e w4 ⟨a4, k4, rfl, ho4, hb4⟩
  clear c0 c1 c2 c3 c4 c5 c6 c7 c8
  replace P := (P.below hb4).alloc (.cells #[.int .i64 fm, .bool ng, .slice a4 zs.length k4, .int .i64 T, .bool nn, .bool bd, .bool pl, .bool mi, .bool am] 37)
  replace S := (S.below hb4).alloc (.cells #[.int .i64 fm, .bool ng, .slice a4 zs.length k4, .int .i64 T, .bool nn, .bool bd, .bool pl, .bool mi, .bool am] 37)
  have X := Q9.new w4 (.int .i64 fm) (.bool ng) (.slice a4 zs.length k4) (.int .i64 T) (.bool nn) (.bool bd) (.bool pl) (.bool mi) (.bool am) 37
  have hs4 := (hs3.below hb4).alloc (.cells #[.int .i64 fm, .bool ng, .slice a4 zs.length k4, .int .i64 T, .bool nn, .bool bd, .bool pl, .bool mi, .bool am] 37)
  have ho34 := (ho3'.below hb4).alloc (.cells #[.int .i64 fm, .bool ng, .slice a4 zs.length k4, .int .i64 T, .bool nn, .bool bd, .bool pl, .bool mi, .bool am] 37)
  have ho44 := ho4.alloc (.cells #[.int .i64 fm, .bool ng, .slice a4 zs.length k4, .int .i64 T, .bool nn, .bool bd, .bool pl, .bool mi, .bool am] 37)
  have bel4 := bel_al (bel_go bel3 hb4) (.cells #[.int .i64 fm, .bool ng, .slice a4 zs.length k4, .int .i64 T, .bool nn, .bool bd, .bool pl, .bool mi, .bool am] 37)
  have lw4 : w3.heap.size < w4.heap.size := by have := hb4.size; simp at this; omega
  have la : ∀ g, (Value.slice a4 zs.length k4).ownBlock = some g → w3.heap.size < g ∧ g < w4.heap.size := fun g hg => by
    have h1 := (ho4.at zs.length k4 g hg)
    simp at h1; omega
  clear hs3 hb4 ho4 ho3' bel3
  obtain ⟨c0, c1, c2, c3, c4, c5, c6, c7, c8⟩ := X.cs
  go_wp2_with fail
  refine (HIM.out _ a4 k4 (hT.below bel4) ho44.sl).mono ?_
  rintro e w5 ⟨a5, k5, rfl, ho5, hb5⟩
  clear c0 c1 c2 c3 c4 c5 c6 c7 c8
  replace P := (P.below hb5).alloc (.cells #[.int .i64 fmr, .bool ngr, .slice a5 L.length k5, .int .i64 Tr, .bool nnr, .bool bdr, .bool plr, .bool mir, .bool amr] 37)
  replace S := (S.below hb5).alloc (.cells #[.int .i64 fmr, .bool ngr, .slice a5 L.length k5, .int .i64 Tr, .bool nnr, .bool bdr, .bool plr, .bool mir, .bool amr] 37)
  replace X := (X.below hb5).alloc (.cells #[.int .i64 fmr, .bool ngr, .slice a5 L.length k5, .int .i64 Tr, .bool nnr, .bool bdr, .bool plr, .bool mir, .bool amr] 37)
  have G := Q9.new w5 (.int .i64 fmr) (.bool ngr) (.slice a5 L.length k5) (.int .i64 Tr) (.bool nnr) (.bool bdr) (.bool plr) (.bool mir) (.bool amr) 37
  have hs5 := (hs4.below hb5).alloc (.cells #[.int .i64 fmr, .bool ngr, .slice a5 L.length k5, .int .i64 Tr, .bool nnr, .bool bdr, .bool plr, .bool mir, .bool amr] 37)
  have ho35 := (ho34.below hb5).alloc (.cells #[.int .i64 fmr, .bool ngr, .slice a5 L.length k5, .int .i64 Tr, .bool nnr, .bool bdr, .bool plr, .bool mir, .bool amr] 37)
  have ho45 := (ho44.below hb5).alloc (.cells #[.int .i64 fmr, .bool ngr, .slice a5 L.length k5, .int .i64 Tr, .bool nnr, .bool bdr, .bool plr, .bool mir, .bool amr] 37)
  have ho55 := ho5.alloc (.cells #[.int .i64 fmr, .bool ngr, .slice a5 L.length k5, .int .i64 Tr, .bool nnr, .bool bdr, .bool plr, .bool mir, .bool amr] 37)
  have bel5 := bel_al (bel_go bel4 hb5) (.cells #[.int .i64 fmr, .bool ngr, .slice a5 L.length k5, .int .i64 Tr, .bool nnr, .bool bdr, .bool plr, .bool mir, .bool amr] 37)
  have lw5 : w4.heap.size < w5.heap.size := by have := hb5.size; simp at this; omega
  have lb : ∀ g, (Value.slice a5 L.length k5).ownBlock = some g → w4.heap.size < g ∧ g < w5.heap.size := fun g hg => by
    have h1 := (ho5.at L.length k5 g hg)
    simp at h1; omega
  have ho5b := ho5.block
  clear hs4 hb5 ho5 ho34 ho44 bel4
  obtain ⟨c0, c1, c2, c3, c4, c5, c6, c7, c8⟩ := G.cs
  obtain ⟨d0, d1, d2, d3, d4, d5, d6, d7, d8⟩ := S.cs
  go_wp2_with fail
  refine (eqA_same fmr ngr Tr nnr bdr plr mir amr a5 a3 k5 k3 L _ ho55.sl ho35.sl (by omega)).mono ?_
  rintro e w6 ⟨rfl, hb6⟩
  clear c0 c1 c2 c3 c4 c5 c6 c7 c8 d0 d1 d2 d3 d4 d5 d6 d7 d8
  replace P := P.below hb6; replace S := S.below hb6; replace X := X.below hb6; replace G := G.below hb6
  have hs6 := hs5.below hb6; have ho36 := ho35.below hb6; have ho46 := ho45.below hb6; have ho56 := ho55.below hb6
  have bel6 := bel_go bel5 hb6
  have lw6 := G.lt
  clear hs5 ho35 ho45 ho55 hb6 bel5
  have cx := P.cs
  have cy := X.cs
  go_wp2_with fail
  go_region_held3 (fun w' => (w'.cell? ⟨w.heap.size, 0, none⟩ = some (.int .i64 fm) ∧ w'.cell? ⟨w.heap.size, 1, none⟩ = some (.bool ng) ∧ w'.cell? ⟨w.heap.size, 2, none⟩ = some (.slice a zs.length cap) ∧ w'.cell? ⟨w.heap.size, 3, none⟩ = some (.int .i64 T) ∧ w'.cell? ⟨w.heap.size, 4, none⟩ = some (.bool nn) ∧ w'.cell? ⟨w.heap.size, 5, none⟩ = some (.bool bd) ∧ w'.cell? ⟨w.heap.size, 6, none⟩ = some (.bool pl) ∧ w'.cell? ⟨w.heap.size, 7, none⟩ = some (.bool mi) ∧ w'.cell? ⟨w.heap.size, 8, none⟩ = some (.bool am)) ∧ (w'.cell? ⟨w4.heap.size, 0, none⟩ = some (.int .i64 fm) ∧ w'.cell? ⟨w4.heap.size, 1, none⟩ = some (.bool ng) ∧ w'.cell? ⟨w4.heap.size, 2, none⟩ = some (.slice a4 zs.length k4) ∧ w'.cell? ⟨w4.heap.size, 3, none⟩ = some (.int .i64 T) ∧ w'.cell? ⟨w4.heap.size, 4, none⟩ = some (.bool nn) ∧ w'.cell? ⟨w4.heap.size, 5, none⟩ = some (.bool bd) ∧ w'.cell? ⟨w4.heap.size, 6, none⟩ = some (.bool pl) ∧ w'.cell? ⟨w4.heap.size, 7, none⟩ = some (.bool mi) ∧ w'.cell? ⟨w4.heap.size, 8, none⟩ = some (.bool am))) (first | assumption | exact ⟨cx, cy⟩)
    (first
      | (go_at_call 18; refine (toA_any fm ng T nn bd pl mi am (.slice a zs.length cap) zs _ hs6.drew hn).mono ?_; rintro e w7 ⟨a7, k7, rfl, ho7, hb7⟩; have four := And.intro (P.drew.below hb7).cs (X.drew.below hb7).cs; have ho47 := ho46.drew.below hb7)
      | (go_at_call 20; refine (eqA_same fm ng T nn bd pl mi am a4 a7 k4 k7 zs _ ho47.sl ho7.sl hl).mono ?_; rintro e w8 ⟨rfl, hb8⟩; have f8 := And.intro ((P.drew.below hb7).below hb8).cs ((X.drew.below hb7).below hb8).cs))
  replace P := (P.drew.below hb7).below hb8; replace S := (S.drew.below hb7).below hb8; replace X := (X.drew.below hb7).below hb8; replace G := (G.drew.below hb7).below hb8
  have hs8 := (hs6.drew.below hb7).below hb8; have ho38 := (ho36.drew.below hb7).below hb8; have ho48 := ho47.below hb8; have ho58 := (ho56.drew.below hb7).below hb8
  have bel8 : Below w.heap.size w w8 := (by repeat (first | exact Below.refl _ _ | refine Below.drew ?_ | refine bel_dn ?_ _ | refine bel_al ?_ _ | refine bel_go ?_ hb8 | refine bel_go ?_ hb7 | refine bel_go ?_ bel6 | refine Below.setCell ?_ (by first | omega | (simp; done) | (simp; omega)) _ | refine Below.alloc ?_ (by first | omega | (simp; done) | (simp; omega)) _ | refine Below.trans ?_ (Below.mono hb8 (by first | omega | (simp; done) | (simp; omega))) | refine Below.trans ?_ (Below.mono hb7 (by first | omega | (simp; done) | (simp; omega))) | refine Below.trans ?_ (Below.mono bel6 (by first | omega | (simp; done) | (simp; omega)))))
  clear four f8 cx cy hs6 ho36 ho46 ho56 ho7 ho47 hb7 hb8 bel6
  obtain ⟨c0, c1, c2, c3, c4, c5, c6, c7, c8⟩ := X.cs
  go_wp2_with fail
  refine (markA_any fm ng T nn bd pl mi am a4 k4 zs 1 _ _ ho48 hn (by decide) (by decide)).mono ?_
  rintro e w9 ⟨rfl, hm9, hg9⟩
  clear c0 c1 c2 c3 c4 c5 c6 c7 c8 X
  replace P := P.grown hg9 (fun g hg => by have := la g hg; omega)
  replace S := S.grown hg9 (fun g hg => by have := la g hg; omega)
  replace G := G.grown hg9 (fun g hg => by have := la g hg; omega)
  have ho39 : Own w9 _ a3 k3 L := ho38.kept hg9 (fun g hg hr => by
    have h2 := la g hr
    rcases ho3b with ⟨e, _⟩ | ⟨g', e, _, h3⟩
    · rw [e] at hg; cases hg
    · rw [e] at hg; cases hg; omega)
  have ho59 : Own w9 _ a5 k5 L := ho58.kept hg9 (fun g hg hr => by
    have h2 := la g hr
    rcases ho5b with ⟨e, _⟩ | ⟨g', e, h3, _⟩
    · rw [e] at hg; cases hg
    · rw [e] at hg; cases hg; simp at h3; omega)
  have bel9 : Below w.heap.size w w9 := bel_mark (W := w8) bel8 hg9 (fun g hg => by have := la g hg; omega)
  have hs9 := hs.below bel9
  clear hm9 ho48 ho38 ho58 hs8 hg9 bel8 la
  have hk0 : ¬ ((1 : Int) + zs.length < 0) := by omega
  obtain ⟨c0, c1, c2, c3, c4, c5, c6, c7, c8⟩ := G.cs
  obtain ⟨d0, d1, d2, d3, d4, d5, d6, d7, d8⟩ := S.cs
  go_wp2_with fail
  refine (eqA_same fmr ngr Tr nnr bdr plr mir amr a5 a3 k5 k3 L _ ho59.sl ho39.sl (by omega)).mono ?_
  rintro e wa ⟨rfl, hba⟩
  clear c0 c1 c2 c3 c4 c5 c6 c7 c8 d0 d1 d2 d3 d4 d5 d6 d7 d8
  replace P := P.below hba; replace S := S.below hba; replace G := G.below hba
  have hsa := hs9.below hba; have ho3a := ho39.below hba; have ho5a := ho59.below hba
  have bela := bel_go bel9 hba
  clear hs9 ho39 ho59 hba bel9
  obtain ⟨c0, c1, c2, c3, c4, c5, c6, c7, c8⟩ := G.cs
  go_wp2_with fail
  refine (markA_any fmr ngr Tr nnr bdr plr mir amr a5 k5 L 1 _ _ ho5a (by omega) (by decide) (by decide)).mono ?_
  rintro e wb ⟨rfl, hmb, hgb⟩
  clear c0 c1 c2 c3 c4 c5 c6 c7 c8
  replace P := P.grown hgb (fun g hg => by have := lb g hg; omega)
  replace S := S.grown hgb (fun g hg => by have := lb g hg; omega)
  replace G := G.grown hgb (fun g hg => by have := lb g hg; omega)
  have ho3w : Own wb _ a3 k3 L := ho3a.kept hgb (fun g hg hr => by
    have h2 := lb g hr
    rcases ho3b with ⟨e, _⟩ | ⟨g', e, _, h3⟩
    · rw [e] at hg; cases hg
    · rw [e] at hg; cases hg; omega)
  have belb : Below w.heap.size w wb := bel_mark (W := wa) bela hgb (fun g hg => by have := lb g hg; omega)
  have hsb := hs.below belb
  have HEI := hid (iot_length 1 L.length)
  have hdI := iot_dg L.length (by omega)
  clear ho3a ho5a hsa hgb bela lb
  obtain ⟨c0, c1, c2, c3, c4, c5, c6, c7, c8⟩ := G.cs
  go_wp2_with fail
  have cc := heldA_any fmr ngr Tr nnr bdr plr mir amr a5 k5 (iot 1 L.length) 1 wb hmb.sl hdI (by rw [HEI.out]; omega) (by decide) (by decide)
  rw [HEI.out, HR.out] at cc
  refine cc.mono ?_
  clear cc
  rintro e wc ⟨rfl, hbc⟩
  clear c0 c1 c2 c3 c4 c5 c6 c7 c8
  replace P := P.below hbc; replace S := S.below hbc; replace G := G.below hbc
  have hsc := hsb.below hbc; have ho3c := ho3w.below hbc; have hmc := hmb.below hbc
  have belc := bel_go belb hbc
  clear hsb ho3w hmb hbc belb
  have hne : ((1 : Int) + L.length != 1 + L.length) = false := by simp
  have hq0 : ¬ ((1 : Int) + L.length < 0) := by omega
  obtain ⟨c0, c1, c2, c3, c4, c5, c6, c7, c8⟩ := P.cs
  go_wp2_with fail
  refine (toA_any fm ng T nn bd pl mi am _ zs _ hsc hn).mono ?_
  rintro e wd ⟨ad, kd, rfl, hod, hbd⟩
  clear c0 c1 c2 c3 c4 c5 c6 c7 c8 P
  replace S := S.below hbd; replace G := G.below hbd
  have ho3d := ho3c.below hbd; have hmd := hmc.below hbd
  have beld := bel_go belc hbd
  clear ho3c hmc hbd belc hsc
  go_wp2_with fail
  refine (HIM.out _ ad kd (hT.below beld) hod.sl).mono ?_
  rintro e we ⟨ae, ke, rfl, hoe, hbe⟩
  replace S := (S.below hbe).alloc (.cells #[.int .i64 fmr, .bool ngr, .slice ae L.length ke, .int .i64 Tr, .bool nnr, .bool bdr, .bool plr, .bool mir, .bool amr] 37)
  replace G := (G.below hbe).alloc (.cells #[.int .i64 fmr, .bool ngr, .slice ae L.length ke, .int .i64 Tr, .bool nnr, .bool bdr, .bool plr, .bool mir, .bool amr] 37)
  have H := Q9.new we (.int .i64 fmr) (.bool ngr) (.slice ae L.length ke) (.int .i64 Tr) (.bool nnr) (.bool bdr) (.bool plr) (.bool mir) (.bool amr) 37
  have ho3e := (ho3d.below hbe).alloc (.cells #[.int .i64 fmr, .bool ngr, .slice ae L.length ke, .int .i64 Tr, .bool nnr, .bool bdr, .bool plr, .bool mir, .bool amr] 37)
  have hme := (hmd.below hbe).alloc (.cells #[.int .i64 fmr, .bool ngr, .slice ae L.length ke, .int .i64 Tr, .bool nnr, .bool bdr, .bool plr, .bool mir, .bool amr] 37)
  have hoe' := hoe.alloc (.cells #[.int .i64 fmr, .bool ngr, .slice ae L.length ke, .int .i64 Tr, .bool nnr, .bool bdr, .bool plr, .bool mir, .bool amr] 37)
  have bele := bel_al (bel_go beld hbe) (.cells #[.int .i64 fmr, .bool ngr, .slice ae L.length ke, .int .i64 Tr, .bool nnr, .bool bdr, .bool plr, .bool mir, .bool amr] 37)
  clear ho3d hmd hoe hbe beld hod
  obtain ⟨c0, c1, c2, c3, c4, c5, c6, c7, c8⟩ := H.cs
  obtain ⟨d0, d1, d2, d3, d4, d5, d6, d7, d8⟩ := S.cs
  go_wp2_with fail
  refine (eqA_same fmr ngr Tr nnr bdr plr mir amr ae a3 ke k3 L _ hoe'.sl ho3e.sl (by omega)).mono ?_
  rintro e wf ⟨rfl, hbf⟩
  clear c0 c1 c2 c3 c4 c5 c6 c7 c8 d0 d1 d2 d3 d4 d5 d6 d7 d8 S H
  replace G := G.below hbf
  have hmf := hme.below hbf
  have belf := bel_go bele hbf
  clear hme hbf bele ho3e hoe'
  obtain ⟨c0, c1, c2, c3, c4, c5, c6, c7, c8⟩ := G.cs
  go_wp2_with fail
  have cf := heldA_any fmr ngr Tr nnr bdr plr mir amr a5 k5 (iot 1 L.length) 1 wf hmf.sl hdI (by rw [HEI.out]; omega) (by decide) (by decide)
  rw [HEI.out, HR.out] at cf
  refine cf.mono ?_
  clear cf
  rintro e wg ⟨rfl, hbg⟩
  go_wp2
  go_ret
  exact ⟨rfl, (by repeat (first | exact Below.refl _ _ | refine Below.drew ?_ | refine bel_dn ?_ _ | refine bel_al ?_ _ | refine bel_go ?_ hbg | refine bel_go ?_ belf | refine Below.setCell ?_ (by first | omega | (simp; done) | (simp; omega)) _ | refine Below.alloc ?_ (by first | omega | (simp; done) | (simp; omega)) _ | refine Below.trans ?_ (Below.mono hbg (by first | omega | (simp; done) | (simp; omega))) | refine Below.trans ?_ (Below.mono belf (by first | omega | (simp; done) | (simp; omega)))))⟩
end LAccAdd
end Go.Proofs.YtpoojmheegncfaaGreatDoor
/-
  One term more, a float: refusals; all put together; the law.
-/
namespace Go.Proofs.YtpoojmheegncfaaGreatDoor
set_option linter.unusedVariables false
set_option linter.unusedSimpArgs false
open Go.RowKit Go.Deep
set_option maxHeartbeats 4000000 in
set_option maxRecDepth 100000 in
theorem addi_no (fm : Int) (ng : Bool) (T : Int) (nn bd pl mi am : Bool) (p : Option Addr) (cap : Nat) (zs : List Int) (x : Int) (w : World) (hT : Tab w) (hs : Sl .u32 w (.slice p zs.length cap) zs) (hl : zs.length ≤ 1048576) (x0 : 0 ≤ x) (x1 : x < 18446744073709551616) (c : Int) (hc : c = tcC (accB fm ng zs T nn bd pl mi am) (okF fm x) T) (hc0 : c ≠ 0) :
    Calls Tryz.prog 19 #[.agg #[.int .i64 fm, .bool ng, .slice p zs.length cap, .int .i64 T, .bool nn, .bool bd, .bool pl, .bool mi, .bool am], .int .u64 x] w fun r w' => r = .returned (.tuple #[A0, .int .i64 c]) ∧ Below w.heap.size w w' := by
  have dx : D64 [x] := fun z hz => by rw [List.mem_singleton.1 hz]; exact ⟨x0, x1⟩
  have hall : allB fm [x] = okF fm x := by unfold allB; rw [List.all_cons]; simp
  have CC := hid (fun q qc w' h h' h'' => tcode fm ng T nn bd pl mi am p cap zs q qc [x] w' h h' hl h'' dx (by simp) c (by rw [hall]; exact hc))
  have hne : (c != 0) = true := by simpa using hc0
  clear hc hc0 hall dx
  have Q := (Q9.new w (.int .i64 fm) (.bool ng) (.slice p zs.length cap) (.int .i64 T) (.bool nn) (.bool bd) (.bool pl) (.bool mi) (.bool am) 37).alloc (.cells #[.int .i64 0, .bool false, .slice none 0 0, .int .i64 0, .bool false, .bool false, .bool false, .bool false, .bool false] 37)
  have R := Q9.nwn w (.cells #[.int .i64 fm, .bool ng, .slice p zs.length cap, .int .i64 T, .bool nn, .bool bd, .bool pl, .bool mi, .bool am] 37) (.int .i64 0) (.bool false) (.slice none 0 0) (.int .i64 0) (.bool false) (.bool false) (.bool false) (.bool false) (.bool false) 37
  have bel0 : Below w.heap.size w ((w.alloc (.cells #[.int .i64 fm, .bool ng, .slice p zs.length cap, .int .i64 T, .bool nn, .bool bd, .bool pl, .bool mi, .bool am] 37)).alloc (.cells #[.int .i64 0, .bool false, .slice none 0 0, .int .i64 0, .bool false, .bool false, .bool false, .bool false, .bool false] 37)) := (by repeat (first | exact Below.refl _ _ | refine Below.drew ?_ | refine bel_dn ?_ _ | refine bel_al ?_ _ | refine Below.setCell ?_ (by first | omega | (simp; done) | (simp; omega)) _ | refine Below.alloc ?_ (by first | omega | (simp; done) | (simp; omega)) _))
  obtain ⟨c0, c1, c2, c3, c4, c5, c6, c7, c8⟩ := Q.cs
  go_enter Tryz.func19, Tryz.ntmps19
  go_wp2_with fail
  have hA : Below w.heap.size w (((w.alloc (.cells #[.int .i64 fm, .bool ng, .slice p zs.length cap, .int .i64 T, .bool nn, .bool bd, .bool pl, .bool mi, .bool am] 37)).alloc (.cells #[.int .i64 0, .bool false, .slice none 0 0, .int .i64 0, .bool false, .bool false, .bool false, .bool false, .bool false] 37)).alloc (.cells #[.int .u64 x] 22)) := bel_al bel0 _
  have hxx : Sl .u64 (((w.alloc (.cells #[.int .i64 fm, .bool ng, .slice p zs.length cap, .int .i64 T, .bool nn, .bool bd, .bool pl, .bool mi, .bool am] 37)).alloc (.cells #[.int .i64 0, .bool false, .slice none 0 0, .int .i64 0, .bool false, .bool false, .bool false, .bool false, .bool false] 37)).alloc (.cells #[.int .u64 x] 22)) (.slice (some ⟨w.heap.size + 1 + 1, 0, none⟩) [x].length 1) [x] := ⟨some ⟨w.heap.size + 1 + 1, 0, none⟩, 1, rfl, Nat.le_refl _, by unfold maxLen; omega, .inr ⟨w.heap.size + 1 + 1, 0, rfl, fun i hi => by
    have : i = 0 := by simpa using hi
    subst this; exact cell_top _ _ _ _ (by simp)⟩⟩
  refine (CC.out (some ⟨w.heap.size + 1 + 1, 0, none⟩) 1 _ (hT.below hA) (hs.below hA) hxx).mono ?_
  rintro r w1 ⟨rfl, hb1⟩
  clear c0 c1 c2 c3 c4 c5 c6 c7 c8 hxx
  obtain ⟨r0, r1, r2, r3, r4, r5, r6, r7, r8, g0, g1, g2, g3, g4, g5, g6, g7, g8⟩ := (R.alloc (.cells #[.int .u64 x] 22)).below hb1
  have bel1 := bel_go hA hb1
  go_wp2
  refine bodyPost_ret (v := .tuple #[A0, .int .i64 c]) (by simp [results, Tryz.results19, go_sem, r0, r1, r2, r3, r4, r5, r6, r7, r8, A0]) rfl ⟨rfl, ?_⟩
  exact (by repeat (first | (with_reducible refine Below.setCell ?_ ?_ _; rotate_left; focus (first | omega | (simp; done) | (simp; omega))) | (with_reducible exact Below.refl _ _) | (with_reducible refine Below.drew ?_) | (with_reducible refine bel_dn ?_ _) | (with_reducible refine bel_al ?_ _) | (with_reducible refine bel_go ?_ bel1) | (with_reducible refine Below.alloc ?_ ?_ _; rotate_left; focus (first | omega | (simp; done) | (simp; omega))) | (with_reducible refine Below.trans ?_ (Below.mono bel1 ?_); rotate_left; focus (first | omega | (simp; done) | (simp; omega)))))
set_option maxHeartbeats 4000000 in
set_option maxRecDepth 100000 in
theorem adds_no (fm : Int) (ng : Bool) (T : Int) (nn bd pl mi am : Bool) (p : Option Addr) (cap : Nat) (zs : List Int) (x : Int) (w : World) (hs : Sl .u32 w (.slice p zs.length cap) zs) (hl : zs.length ≤ 1048576) (c : Int) (hc : c = tcC (accB fm ng zs T nn bd pl mi am) (okF fm x) T) (hc0 : c ≠ 0) :
    Calls Tryz.prog 17 #[.agg #[.int .i64 fm, .bool ng, .slice p zs.length cap, .int .i64 T, .bool nn, .bool bd, .bool pl, .bool mi, .bool am], .int .u64 x] w fun r w' => r = .returned (.tuple #[A0, .int .i64 c]) ∧ Below w.heap.size w w' := by
  have C1 := hid (fun w' h => accok_spec fm ng T nn bd pl mi am p cap zs w' h hl)
  have C2 := hid (fun w' => spec_ok fm x w')
  have A := (Q9.new w (.int .i64 fm) (.bool ng) (.slice p zs.length cap) (.int .i64 T) (.bool nn) (.bool bd) (.bool pl) (.bool mi) (.bool am) 37).alloc (.cells #[.int .i64 0, .bool false, .slice none 0 0, .int .i64 0, .bool false, .bool false, .bool false, .bool false, .bool false] 37)
  have R := Q9.nw2b w (.cells #[.int .i64 fm, .bool ng, .slice p zs.length cap, .int .i64 T, .bool nn, .bool bd, .bool pl, .bool mi, .bool am] 37) (.int .i64 0) (.bool false) (.slice none 0 0) (.int .i64 0) (.bool false) (.bool false) (.bool false) (.bool false) (.bool false) 37
  have bel0 : Below w.heap.size w ((w.alloc (.cells #[.int .i64 fm, .bool ng, .slice p zs.length cap, .int .i64 T, .bool nn, .bool bd, .bool pl, .bool mi, .bool am] 37)).alloc (.cells #[.int .i64 0, .bool false, .slice none 0 0, .int .i64 0, .bool false, .bool false, .bool false, .bool false, .bool false] 37)) := (by repeat (first | exact Below.refl _ _ | refine Below.drew ?_ | refine bel_dn ?_ _ | refine bel_al ?_ _ | refine Below.setCell ?_ (by first | omega | (simp; done) | (simp; omega)) _ | refine Below.alloc ?_ (by first | omega | (simp; done) | (simp; omega)) _))
  unfold tcC at hc
  cases h1 : accB fm ng zs T nn bd pl mi am
  · rw [h1] at C1 hc
    have hc' : c = 1 := hc
    subst hc'
    clear hc h1 hc0
    go_enter Tryz.func17, Tryz.ntmps17
    go_wp2_with fail
    refine (C1.out _ (hs.below bel0)).mono ?_
    rintro r w1 ⟨rfl, hb1⟩
    obtain ⟨r0, r1, r2, r3, r4, r5, r6, r7, r8, g0, g1, g2, g3, g4, g5, g6, g7, g8⟩ := R.below hb1
    have bel1 := bel_go bel0 hb1
    go_wp2
    refine bodyPost_ret (v := .tuple #[A0, .int .i64 1]) (by simp [results, Tryz.results17, go_sem, r0, r1, r2, r3, r4, r5, r6, r7, r8, A0]) rfl ⟨rfl, ?_⟩
    exact (by repeat (first | (with_reducible refine Below.setCell ?_ ?_ _; rotate_left; focus (first | omega | (simp; done) | (simp; omega))) | (with_reducible exact Below.refl _ _) | (with_reducible refine Below.drew ?_) | (with_reducible refine bel_dn ?_ _) | (with_reducible refine bel_al ?_ _) | (with_reducible refine bel_go ?_ bel1) | (with_reducible refine Below.alloc ?_ ?_ _; rotate_left; focus (first | omega | (simp; done) | (simp; omega))) | (with_reducible refine Below.trans ?_ (Below.mono bel1 ?_); rotate_left; focus (first | omega | (simp; done) | (simp; omega)))))
  rw [h1] at C1 hc
  cases h2 : okF fm x
  · rw [h2] at C2 hc
    have hc' : c = 2 := hc
    subst hc'
    clear hc h1 h2 hc0
    go_enter Tryz.func17, Tryz.ntmps17
    go_wp2_with fail
    refine (C1.out _ (hs.below bel0)).mono ?_
    rintro r w1 ⟨rfl, hb1⟩
    have c0 := (A.below hb1).c0
    go_wp2_with fail
    refine (C2.out _).mono ?_
    rintro r w2 ⟨rfl, hb2⟩
    obtain ⟨r0, r1, r2, r3, r4, r5, r6, r7, r8, g0, g1, g2, g3, g4, g5, g6, g7, g8⟩ := (R.below hb1).below hb2
    have bel1 := bel_go (bel_go bel0 hb1) hb2
    go_wp2
    refine bodyPost_ret (v := .tuple #[A0, .int .i64 2]) (by simp [results, Tryz.results17, go_sem, r0, r1, r2, r3, r4, r5, r6, r7, r8, A0]) rfl ⟨rfl, ?_⟩
    exact (by repeat (first | (with_reducible refine Below.setCell ?_ ?_ _; rotate_left; focus (first | omega | (simp; done) | (simp; omega))) | (with_reducible exact Below.refl _ _) | (with_reducible refine Below.drew ?_) | (with_reducible refine bel_dn ?_ _) | (with_reducible refine bel_al ?_ _) | (with_reducible refine bel_go ?_ bel1) | (with_reducible refine Below.alloc ?_ ?_ _; rotate_left; focus (first | omega | (simp; done) | (simp; omega))) | (with_reducible refine Below.trans ?_ (Below.mono bel1 ?_); rotate_left; focus (first | omega | (simp; done) | (simp; omega)))))
  rw [h2] at C2 hc
  by_cases h3 : T = 1000000
  · have hc' : c = 3 := by rw [hc, if_pos rfl, if_pos rfl, if_pos h3]
    subst hc' h3
    clear hc h1 h2 hc0
    go_enter Tryz.func17, Tryz.ntmps17
    go_wp2_with fail
    refine (C1.out _ (hs.below bel0)).mono ?_
    rintro r w1 ⟨rfl, hb1⟩
    have c0 := (A.below hb1).c0
    go_wp2_with fail
    refine (C2.out _).mono ?_
    rintro r w2 ⟨rfl, hb2⟩
    have c3 := ((A.below hb1).below hb2).c3
    obtain ⟨r0, r1, r2, r3, r4, r5, r6, r7, r8, g0, g1, g2, g3, g4, g5, g6, g7, g8⟩ := (R.below hb1).below hb2
    have bel1 := bel_go (bel_go bel0 hb1) hb2
    go_wp2
    refine bodyPost_ret (v := .tuple #[A0, .int .i64 3]) (by simp [results, Tryz.results17, go_sem, r0, r1, r2, r3, r4, r5, r6, r7, r8, A0]) rfl ⟨rfl, ?_⟩
    exact (by repeat (first | (with_reducible refine Below.setCell ?_ ?_ _; rotate_left; focus (first | omega | (simp; done) | (simp; omega))) | (with_reducible exact Below.refl _ _) | (with_reducible refine Below.drew ?_) | (with_reducible refine bel_dn ?_ _) | (with_reducible refine bel_al ?_ _) | (with_reducible refine bel_go ?_ bel1) | (with_reducible refine Below.alloc ?_ ?_ _; rotate_left; focus (first | omega | (simp; done) | (simp; omega))) | (with_reducible refine Below.trans ?_ (Below.mono bel1 ?_); rotate_left; focus (first | omega | (simp; done) | (simp; omega)))))
  · exact absurd (by rw [hc, if_pos rfl, if_pos rfl, if_neg h3]) hc0
/-- What the program says of a signalling NaN. -/
def sgS : ByteArray := ⟨#[111, 110, 101, 32, 105, 115, 32, 97, 32, 115, 105, 103, 110, 97, 108, 108, 105, 110, 103, 32, 78, 97, 78]⟩
set_option maxHeartbeats 4000000 in
set_option maxRecDepth 100000 in
theorem num_sig2 (fm x : Int) (w : World) (hT : Tab w) (h0 : 0 ≤ x) (h1 : x < 18446744073709551616) (hc : cls fm x = 5) :
    Calls Tryz.prog 58 #[.int .i64 fm, .int .u64 x] w fun e w' => e = .returned (.tuple #[.agg #[.bool false, .bool false, .bool false, .slice none 0 0, .int .i64 0], .iface 135 (.agg #[.iface 137 (.agg #[.string sgS])])]) ∧ Below w.heap.size w w' := by
  have C := hid (fun w' h => impl_cls fm x w' h h0 h1)
  rw [hc] at C
  clear hc
  have Q := Q5.new w (.bool false) (.bool false) (.bool false) (.slice none 0 0) (.int .i64 0) 63
  go_enter Tryz.func58, Tryz.ntmps58
  go_wp2_with fail
  refine (C.out _ (hT.below ((Below.refl _ _).alloc (Nat.le_refl _) _))).mono ?_
  rintro e w1 ⟨rfl, hb1⟩
  obtain ⟨r0, r1, r2, r3, r4, f0, f1, f2, f3, f4⟩ := Q.below hb1
  clear Q
  go_wp2
  refine bodyPost_ret (by simp [results, Tryz.results58, go_sem, r0, r1, r2, r3, r4]; rfl) rfl ⟨rfl, ?_⟩
  exact (by repeat (first | (with_reducible refine Below.setCell ?_ ?_ _; rotate_left; focus (first | omega | (simp; done) | (simp; omega))) | (with_reducible exact Below.refl _ _) | (with_reducible refine Below.drew ?_) | (with_reducible refine bel_dn ?_ _) | (with_reducible refine bel_al ?_ _) | (with_reducible refine bel_go ?_ hb1) | (with_reducible refine Below.alloc ?_ ?_ _; rotate_left; focus (first | omega | (simp; done) | (simp; omega))) | (with_reducible refine Below.trans ?_ (Below.mono hb1 ?_); rotate_left; focus (first | omega | (simp; done) | (simp; omega)))))
theorem cls_six {fm x : Int} (h : okF fm x = true) : finB fm x = true ∨ cls fm x = 3 ∨ cls fm x = 4 ∨ cls fm x = 5 := by
  have h1 := cls_rng fm x
  by_cases hf : 0 ≤ cls fm x ∧ cls fm x ≤ 2
  · exact .inl (by unfold finB; exact decide_eq_true hf)
  · have : cls fm x ≠ -1 := by
      intro e
      cases hn : nanB fm x
      · have := cls_num h hn; omega
      · have := cls_nan h hn; omega
    omega
theorem nan_of {fm x : Int} (h : okF fm x = true) : nanB fm x = (decide (cls fm x = 4) || decide (cls fm x = 5)) := by
  cases hn : nanB fm x
  · have := cls_num h hn
    rw [decide_eq_false (by omega), decide_eq_false (by omega)]; rfl
  · rcases cls_nan h hn with e | e
    · rw [decide_eq_true e]; rfl
    · rw [decide_eq_true e]; simp
theorem amW_no (T : Int) (am : Bool) : amW T am 1 false = false := by unfold amW; simp
/-- What is not finite: out of the error that it makes. -/
theorem law_odd (fm : Int) (ng : Bool) (T : Int) (nn bd pl mi am : Bool) (a : Option Addr) (cap : Nat) (zs : List Int) (x : Int) (w : World) (hE : EX w) (hs : Sl .u32 w (.slice a zs.length cap) zs) (hz : Nm.Dg zs) (hk : accB fm ng zs T nn bd pl mi am = true) (hx : okF fm x = true) (x0 : 0 ≤ x) (x1 : x < 18446744073709551616) (hTm : T ≠ 1000000) (hfin : finB fm x = false)
    (neg inf : Bool) (m1 m2 m3 m4 : Bool) (h1 : m1 = nanB fm x) (h2 : m2 = (cls fm x == 5)) (h3 : m3 = (!nanB fm x && !sigB fm x)) (h4 : m4 = (!nanB fm x && sigB fm x)) (ev : Value → Value)
    (hn : ∀ (u : Value) (w' : World), Tab w' → ErrQ w' u → Calls Tryz.prog 58 #[.int .i64 fm, .int .u64 x] w' fun r w'' => r = .returned (.tuple #[.agg #[.bool neg, .bool inf, .bool false, .slice none 0 0, .int .i64 0], ev u]) ∧ Below w'.heap.size w' w'')
    (hm : ∀ (u : Value) (p : Option Addr) (c : Nat) (q : World), EA.ErrT q → Calls Tryz.prog 115 #[.agg #[.bool neg, .bool inf, .bool false, .slice p 0 c, .int .i64 0], ev u] q fun r q' => r = .returned (.agg #[.int .i64 1, .bool m1, .bool m2, .bool m3, .bool m4, .bool false]) ∧ Below q.heap.size q q') :
    Calls Tryz.prog 6 #[.agg #[.int .i64 fm, .bool ng, .slice a zs.length cap, .int .i64 T, .bool nn, .bool bd, .bool pl, .bool mi, .bool am], .int .u64 x] w fun e w' => e = .returned (.bool true) ∧ Below w.heap.size w w' := by
  obtain ⟨hfm, hk1, ho, -⟩ := acc_parts hk
  obtain ⟨e1, e2⟩ := okis hz ho
  have hf : Nm.fits (Nm.wv ng zs) = true := ok_fits hz ho ng
  refine LAccAdd.law fm ng T nn bd pl mi am a cap zs x w hE hs fm ng (T + 1) (nn || m1) (bd || m2) (pl || m3) (mi || m4) false zs 0 (okB_nz ho).2 hz ?_ ?_
  · intro hl w a cap h
    exact add_spec_odd fm ng T nn bd pl mi am a cap zs x w h hz hk hx x0 x1 hTm hfin _ _ _ _ (by rw [h1]) (by rw [h2]) (by rw [h3]) (by rw [h4])
  · intro hl w a cap hE h
    obtain ⟨u, hE⟩ := hE
    have := add_core fm ng T nn bd pl mi am a cap zs x u w hE.t hE.g hE.q h hz hk hx x0 x1 hTm neg inf false [] 0 (ev u) m1 m2 m3 m4 false false [] Nm.Dg.nil rfl (Nm.wv ng zs) (by unfold Nm.wv Nm.val; simp) hf
      (fun w' t q => (hn u w' t q).mono fun r w'' ⟨hr, hb⟩ => ⟨none, 0, hr, Sl.nil _ _, hb⟩)
      (fun a' c' w' t g h => one_odd fm hfm neg inf (ev u) m1 m2 m3 m4 false w' t g a' c' h (fun q hq => hm u a' c' q hq))
    rw [e1, e2, amW_no] at this
    exact this
theorem one_fin_32 (x : Int) (hf : finB 32 x = true) (G : Bool) (L : List Int) (hG : G = Nm.wn (if pS 32 x then -pM 32 x else pM 32 x)) (hL : L = Nm.wl (if pS 32 x then -pM 32 x else pM 32 x)) (m5 : Bool) (hm5 : m5 = (decide (L.length = 0) && pS 32 x)) (p : Option Addr) (c : Nat) (w : World) (hT : Tab w) (hg : EA.ErrT w) (hs : Sl .u32 w (.slice p L.length c) L) :
    Calls Tryz.prog 61 #[.int .i64 32, .agg #[.bool (pS 32 x), .bool false, .bool G, .slice p L.length c, .int .i64 (pE 32 x)], .nilIface] w fun r w' => ∃ a' c', r = .returned (.agg #[.int .i64 1, .bool false, .bool false, .bool false, .bool false, .bool m5, .int .i64 32, .bool (Nm.wn (tmV 32 x)), .slice a' (Nm.wl (tmV 32 x)).length c']) ∧ Own w' w.heap.size a' c' (Nm.wl (tmV 32 x)) ∧ Below w.heap.size w w' := by
  obtain ⟨e1, e2⟩ := tm_eq hf
  have hE := pE_bd 32 x
  have hM := pM_bd 32 x
  have hl2 : L.length ≤ 200 := by rw [hL]; unfold Nm.wl; have := lim_two (x := (if pS 32 x then -pM 32 x else pM 32 x).natAbs) (by cases pS 32 x <;> simp <;> omega); omega
  have hd : Nm.Dg L := by rw [hL]; exact Nm.wl_dg _
  have ho : okB G L = true := by rw [hG, hL]; exact okB_wl (by rw [← hL]; exact hl2)
  have hV : tmV 32 x = Nm.shV G (Nm.val L) (pE 32 x + 298) := by
    rw [e1, hG, hL]; congr 1
  refine one_32 (pS 32 x) false G p c L (pE 32 x) .nilIface false false false false m5 (Nm.wn (tmV 32 x)) (Nm.wl (tmV 32 x)) w hT hg hs (by omega) (by omega) (fun w' hg' => ?_) (fun w' h => wsh_at G p c L (pE 32 x + 298) w' h hd ho (by omega) (by omega) (tmV 32 x) hV (wl_len (by omega)))
  by_cases h0 : L.length = 0
  · rw [hm5, decide_eq_true h0, Bool.true_and]
    exact mk_zero (pS 32 x) G p L.length c (pE 32 x) w' hg' (by omega) h0
  · rw [hm5, decide_eq_false h0, Bool.false_and]
    exact mk_fin (pS 32 x) G p L.length c (pE 32 x) w' hg' (by omega) h0
theorem one_fin_64 (x : Int) (hf : finB 64 x = true) (G : Bool) (L : List Int) (hG : G = Nm.wn (if pS 64 x then -pM 64 x else pM 64 x)) (hL : L = Nm.wl (if pS 64 x then -pM 64 x else pM 64 x)) (m5 : Bool) (hm5 : m5 = (decide (L.length = 0) && pS 64 x)) (p : Option Addr) (c : Nat) (w : World) (hT : Tab w) (hg : EA.ErrT w) (hs : Sl .u32 w (.slice p L.length c) L) :
    Calls Tryz.prog 61 #[.int .i64 64, .agg #[.bool (pS 64 x), .bool false, .bool G, .slice p L.length c, .int .i64 (pE 64 x)], .nilIface] w fun r w' => ∃ a' c', r = .returned (.agg #[.int .i64 1, .bool false, .bool false, .bool false, .bool false, .bool m5, .int .i64 64, .bool (Nm.wn (tmV 64 x)), .slice a' (Nm.wl (tmV 64 x)).length c']) ∧ Own w' w.heap.size a' c' (Nm.wl (tmV 64 x)) ∧ Below w.heap.size w w' := by
  obtain ⟨e1, e2⟩ := tm_eq hf
  have hE := pE_bd 64 x
  have hM := pM_bd 64 x
  have hl2 : L.length ≤ 200 := by rw [hL]; unfold Nm.wl; have := lim_two (x := (if pS 64 x then -pM 64 x else pM 64 x).natAbs) (by cases pS 64 x <;> simp <;> omega); omega
  have hd : Nm.Dg L := by rw [hL]; exact Nm.wl_dg _
  have ho : okB G L = true := by rw [hG, hL]; exact okB_wl (by rw [← hL]; exact hl2)
  have hV : tmV 64 x = Nm.shV G (Nm.val L) (pE 64 x + 2148) := by
    rw [e1, hG, hL]; congr 1
  refine one_64 (pS 64 x) false G p c L (pE 64 x) .nilIface false false false false m5 (Nm.wn (tmV 64 x)) (Nm.wl (tmV 64 x)) w hT hg hs (by omega) (by omega) (fun w' hg' => ?_) (fun w' h => wsh_at G p c L (pE 64 x + 2148) w' h hd ho (by omega) (by omega) (tmV 64 x) hV (wl_len (by omega)))
  by_cases h0 : L.length = 0
  · rw [hm5, decide_eq_true h0, Bool.true_and]
    exact mk_zero (pS 64 x) G p L.length c (pE 64 x) w' hg' (by omega) h0
  · rw [hm5, decide_eq_false h0, Bool.false_and]
    exact mk_fin (pS 64 x) G p L.length c (pE 64 x) w' hg' (by omega) h0
theorem len_zero {fm x : Int} (hx : okF fm x = true) (hf : finB fm x = true) : (absF fm x == 0) = decide ((Nm.wl (if pS fm x then -pM fm x else pM fm x)).length = 0) := by
  have hM := pM_bd fm x
  have e : ((Nm.wl (if pS fm x then -pM fm x else pM fm x)).length = 0) ↔ pM fm x = 0 := by
    unfold Nm.wl
    rw [Nm.lim_length_zero]
    cases pS fm x <;> simp <;> omega
  rw [← cls_zero hx, Bool.eq_iff_iff, beq_iff_eq, decide_eq_true_eq, e]
  constructor
  · intro h
    have ha : (absF fm x == 0) = true := by rw [← cls_zero hx, h]; rfl
    have ha' : absF fm x = 0 := by simpa using ha
    unfold pM; rw [hf, if_pos rfl]
    rcases okF_cases hx with ⟨rfl, hx'⟩ | rfl
    · rw [abs32 hx'] at ha'
      rw [if_pos rfl, ha']; rfl
    · rw [abs64] at ha'
      rw [if_neg (by decide), ha']; rfl
  · intro h
    have hc : 0 ≤ cls fm x ∧ cls fm x ≤ 2 := by simpa [finB] using hf
    by_cases h12 : cls fm x = 1 ∨ cls fm x = 2
    · have := (pM_pos h12).2; omega
    · omega
theorem law_fin (fm : Int) (ng : Bool) (T : Int) (nn bd pl mi am : Bool) (a : Option Addr) (cap : Nat) (zs : List Int) (x : Int) (w : World) (hE : EX w) (hs : Sl .u32 w (.slice a zs.length cap) zs) (hz : Nm.Dg zs) (hk : accB fm ng zs T nn bd pl mi am = true) (hx : okF fm x = true) (x0 : 0 ≤ x) (x1 : x < 18446744073709551616) (hTm : T ≠ 1000000) (hf : finB fm x = true) :
    Calls Tryz.prog 6 #[.agg #[.int .i64 fm, .bool ng, .slice a zs.length cap, .int .i64 T, .bool nn, .bool bd, .bool pl, .bool mi, .bool am], .int .u64 x] w fun e w' => e = .returned (.bool true) ∧ Below w.heap.size w w' := by
  obtain ⟨hfm, hk1, ho, -⟩ := acc_parts hk
  obtain ⟨-, hb⟩ := tm_eq hf
  have hl := wl_len (V := tmV fm x) (by omega)
  have hft := add_fits hz hk hb
  have hps : pS fm x = sigB fm x := by unfold pS; rw [hf]; rfl
  obtain ⟨L, hL⟩ : ∃ L, L = Nm.wl (if pS fm x then -pM fm x else pM fm x) := ⟨_, rfl⟩
  have hlz : (absF fm x == 0) = decide (L.length = 0) := by rw [hL]; exact len_zero hx hf
  refine LAccAdd.law fm ng T nn bd pl mi am a cap zs x w hE hs fm (Nm.wn (Nm.wv ng zs + tmV fm x)) (T + 1) nn bd pl mi ((absF fm x == 0) && sigB fm x && (am || decide (T = 0))) (Nm.wl (Nm.wv ng zs + tmV fm x)) 0 (by simpa [Nm.fits] using hft) (Nm.wl_dg _) ?_ ?_
  · intro hl' w a cap h
    exact add_spec_fin fm ng T nn bd pl mi am a cap zs x w h hz hk hx x0 x1 hTm hf (tmV fm x) rfl hl _ rfl
  · intro hl' w a cap hE h
    obtain ⟨u, hE⟩ := hE
    have := add_core fm ng T nn bd pl mi am a cap zs x u w hE.t hE.g hE.q h hz hk hx x0 x1 hTm (pS fm x) false _ L (pE fm x) .nilIface false false false false (decide (L.length = 0) && pS fm x) (Nm.wn (tmV fm x)) (Nm.wl (tmV fm x)) (Nm.wl_dg _) (okB_wl hl) (Nm.wv ng zs + tmV fm x) (by rw [Nm.wv_out]) hft
      (fun w' t q => (num_fin fm x w' t x0 x1 hf _ L (pE fm x) rfl hL rfl).mono fun r w'' ⟨a', c', hr, ho, hb⟩ => ⟨a', c', hr, ho.sl, hb⟩)
      (fun a' c' w' t g h => by
        rcases fmt_cases hfm with rfl | rfl
        · exact one_fin_32 x hf _ L rfl hL _ rfl a' c' w' t g h
        · exact one_fin_64 x hf _ L rfl hL _ rfl a' c' w' t g h)
    have e5 : amW T am 1 (decide (L.length = 0) && pS fm x) = ((absF fm x == 0) && sigB fm x && (am || decide (T = 0))) := by
      rw [hlz, hps]; unfold amW
      rw [show decide ((1 : Int) = 0) = false from rfl]
      cases decide (L.length = 0) <;> cases sigB fm x <;> cases am <;> cases decide (T = 0) <;> rfl
    rw [e5] at this
    simpa using this
theorem law_AccAdd (fm : Int) (ng : Bool) (T : Int) (nn bd pl mi am : Bool) (a : Option Addr) (cap : Nat) (zs : List Int) (x : Int) (w : World) (hE : EX w) (hs : Sl .u32 w (.slice a zs.length cap) zs) (hz : Nm.Dg zs) (x0 : 0 ≤ x) (x1 : x < 18446744073709551616) :
    Calls Tryz.prog 6 #[.agg #[.int .i64 fm, .bool ng, .slice a zs.length cap, .int .i64 T, .bool nn, .bool bd, .bool pl, .bool mi, .bool am], .int .u64 x] w fun e w' => e = .returned (.bool true) ∧ Below w.heap.size w w' := by
  obtain ⟨c, hc⟩ : ∃ c, c = tcC (accB fm ng zs T nn bd pl mi am) (okF fm x) T := ⟨_, rfl⟩
  by_cases hc0 : c ≠ 0
  · exact LAccAdd.law fm ng T nn bd pl mi am a cap zs x w hE hs 0 false 0 false false false false false [] c (by simp) Nm.Dg.nil
      (fun hl w a cap h => (adds_no fm ng T nn bd pl mi am a cap zs x w h hl c hc hc0).mono fun e w' ⟨he, hb⟩ => ⟨none, 0, he, Own.nil _ _, hb⟩)
      (fun hl w a cap hE h => by
        obtain ⟨u, hE⟩ := hE
        exact (addi_no fm ng T nn bd pl mi am a cap zs x w hE.t h hl x0 x1 c hc hc0).mono fun e w' ⟨he, hb⟩ => ⟨none, 0, he, Own.nil _ _, hb⟩)
  have hc1 : c = 0 := by omega
  rw [hc1] at hc
  unfold tcC at hc
  cases hk : accB fm ng zs T nn bd pl mi am
  · rw [hk] at hc; simp at hc
  rw [hk] at hc
  cases hx : okF fm x
  · rw [hx] at hc; simp at hc
  rw [hx] at hc
  have hTm : T ≠ 1000000 := by intro e; rw [if_pos rfl, if_pos rfl, if_pos e] at hc; cases hc
  have hnan := nan_of hx
  rcases cls_six hx with hf | h3 | h4 | h5
  · exact law_fin fm ng T nn bd pl mi am a cap zs x w hE hs hz hk hx x0 x1 hTm hf
  · have hfin : finB fm x = false := by unfold finB; rw [h3]; decide
    have hnb : nanB fm x = false := by rw [hnan, h3]; decide
    exact law_odd fm ng T nn bd pl mi am a cap zs x w hE hs hz hk hx x0 x1 hTm hfin (sigB fm x) true false false (!sigB fm x) (sigB fm x) hnb.symm (by rw [h3]; decide) (by rw [hnb]; simp) (by rw [hnb]; simp) (fun _ => .nilIface)
      (fun u w' t q => num_inf fm x w' t x0 x1 h3)
      (fun u p c q hq => mk_inf (sigB fm x) false p 0 c 0 q hq (by decide))
  · have hfin : finB fm x = false := by unfold finB; rw [h4]; decide
    have hnb : nanB fm x = true := by rw [hnan, h4]; decide
    exact law_odd fm ng T nn bd pl mi am a cap zs x w hE hs hz hk hx x0 x1 hTm hfin false false true false false false hnb.symm (by rw [h4]; decide) (by rw [hnb]; simp) (by rw [hnb]; simp) (fun u => .iface 135 (.agg #[.iface 225 u]))
      (fun u w' t q => num_quiet fm x u w' t q x0 x1 h4)
      (fun u p c q hq => mk_quiet u false p 0 c 0 q hq (by decide) rfl)
  · have hfin : finB fm x = false := by unfold finB; rw [h5]; decide
    have hnb : nanB fm x = true := by rw [hnan, h5]; decide
    exact law_odd fm ng T nn bd pl mi am a cap zs x w hE hs hz hk hx x0 x1 hTm hfin false false true true false false hnb.symm (by rw [h5]; decide) (by rw [hnb]; simp) (by rw [hnb]; simp) (fun u => .iface 135 (.agg #[.iface 137 (.agg #[.string sgS])]))
      (fun u w' t q => num_sig2 fm x w' t x0 x1 h5)
      (fun u p c q hq => mk_bad sgS false p 0 c 0 q hq (by decide) rfl)
end Go.Proofs.YtpoojmheegncfaaGreatDoor
/-
  The package's variables, as the row's list tells them: the formats' sizes, the error for a quiet NaN, package errors' handle of the type error.
-/
namespace Go.Proofs.YtpoojmheegncfaaGreatDoor
set_option linter.unusedVariables false
set_option linter.unusedSimpArgs false
namespace Ld
open Go.RowKit Go.Deep Go.ChangeShapes Go.WideShapes Go.ChangeAt Go.Joins
theorem array9 {α : Type} {cs : Array α} (h : cs.size = 9) : ∃ c0 c1 c2 c3 c4 c5 c6 c7 c8, cs = #[c0, c1, c2, c3, c4, c5, c6, c7, c8] := by
  obtain ⟨l⟩ := cs
  match l, h with
  | [c0, c1, c2, c3, c4, c5, c6, c7, c8], _ => exact ⟨c0, c1, c2, c3, c4, c5, c6, c7, c8, rfl⟩
theorem cellsA : Tryz.prog.cellsOf 33 = 9 := by kernel_rfl
theorem cellsWA : Tryz.prog.cellsOf 31 = 2 := by kernel_rfl
theorem cellsBo : Tryz.prog.cellsOf 4 = 1 := by kernel_rfl
theorem cellsSl : Tryz.prog.cellsOf 29 = 1 := by kernel_rfl
set_option maxRecDepth 100000 in
theorem open_acc {H : Type} {enc : TypeId × Value → H} {W : World} {r : Reach} {b0 : Nat} {v : Value} {d : DataW H} {p : List MemPlace}
    (hv : Value.okWide Tryz.prog W r b0 33 v) (h : DataW.Trod enc Tryz.prog W 0 (fun _ => true) true 33 v d p) :
    ∃ (fm : Int) (ng : Bool) (a : Option Addr) (cap : Nat) (zs : List Int) (T : Int) (nn bd pl mi am : Bool), v = .agg #[.int .i64 fm, .bool ng, .slice a zs.length cap, .int .i64 T, .bool nn, .bool bd, .bool pl, .bool mi, .bool am] ∧ Sl .u32 W (.slice a zs.length cap) zs ∧ Nm.Dg zs ∧ (Lit.int .i64 fm).wf = true ∧ (Lit.int .i64 T).wf = true := by
  obtain ⟨cs, rfl, hsz⟩ := okWide_struct Tryz.underlying33 hv
  obtain ⟨c0, c1, c2, c3, c4, c5, c6, c7, c8, rfl⟩ := array9 (hsz.trans cellsA)
  obtain ⟨fuel, hf⟩ := h
  obtain ⟨xs, n, _, hx, hl, hlen, hg⟩ := DataW.trod_struct Tryz.underlying33 hf
  match xs, hlen with
  | [y0, y1, y2, y3, y4, y5, y6, y7], _ =>
    have h0 := hg 0 _ rfl
    have h1 := hg 1 _ rfl
    have h2 := hg 2 _ rfl
    have h3 := hg 3 _ rfl
    have h4 := hg 4 _ rfl
    have h5 := hg 5 _ rfl
    have h6 := hg 6 _ rfl
    have h7 := hg 7 _ rfl
    clear hg
    simp [Value.cells, cellsI, cellsWA, cellsBo] at h0 h1 h2 h3 h4 h5 h6 h7
    obtain ⟨fm, e0, -, wf0⟩ := DataW.trod_int Tryz.underlying2 h0
    obtain ⟨T, e2, -, wf2⟩ := DataW.trod_int Tryz.underlying2 h2
    obtain ⟨nn, e3, -⟩ := DataW.trod_bool Tryz.underlying4 h3
    obtain ⟨bd, e4, -⟩ := DataW.trod_bool Tryz.underlying4 h4
    obtain ⟨pl, e5, -⟩ := DataW.trod_bool Tryz.underlying4 h5
    obtain ⟨mi, e6, -⟩ := DataW.trod_bool Tryz.underlying4 h6
    obtain ⟨am, e7, -⟩ := DataW.trod_bool Tryz.underlying4 h7
    obtain ⟨u0, u1, m, hu, _, k0, k1⟩ := trod_struct2 Tryz.underlying31 h1
    simp [cellsBo, cellsSl] at k0 k1
    obtain ⟨ng, e1, -⟩ := DataW.trod_bool Tryz.underlying4 k0
    simp at e0 e1 e2 e3 e4 e5 e6 e7
    subst e0; subst e1; subst e2; subst e3; subst e4; subst e5; subst e6; subst e7
    obtain ⟨o, l, k, z, e, s, g⟩ : ∃ a len cap zs, c2 = .slice a len cap ∧ Sl .u32 W (.slice a len cap) zs ∧ Nm.Dg zs := by
      rcases open_ints Tryz.underlying29 Tryz.underlying132 (by kernel_rfl) k1 with ⟨hcs, _⟩ | ⟨x, l, c, zs, hcs, _, hl, hm, hz, _, hcell, hwz⟩
      · simp at hcs; exact ⟨_, _, _, [], hcs, Sl.nil _ _, Nm.Dg.nil⟩
      · simp at hcs; exact ⟨_, _, _, _, hcs, Sl.of_cells hl hm (by simpa using hz) hcell, fun z hz => by have := bounds_u32 (hwz z (List.mem_of_mem_take hz)); omega⟩
    subst e
    obtain ⟨rfl, -, -, -⟩ := s.cells
    exact ⟨fm, ng, o, k, z, T, nn, bd, pl, mi, am, rfl, s, g, wf0, wf2⟩
theorem gEt : Tryz.prog.globalNamed "errors.errorType" = some 2 := by kernel_rfl
theorem gEq : Tryz.prog.globalNamed "loop.example/g00672/impl.errQuiet" = some 0 := by kernel_rfl
theorem gEqType : (Tryz.prog.globals[0]?).map (·.type) = some 65 := by kernel_rfl
theorem rtT : (Tryz.prog.cutTypes.find? (·.1 == "internal/reflectlite.rtype")).map (·.2) = some 209 := by kernel_rfl
theorem sizeT : Tryz.prog.types.size = 258 := by kernel_rfl
theorem oneRow : ((List.range 258).filter fun t => Tryz.prog.rowNamed t [101, 114, 114, 111, 114]) = [65] := by kernel_rfl
theorem handle {W : World} {l : List (String × DataW Unit)} (h : handlesMet Tryz.prog l W) (hm : ("errors.errorType", Rows.laid_errors_errorType) ∈ l) : EA.ErrT W := by
  obtain ⟨name, u, ty, e1, e2, e3, e4, e5⟩ := h _ hm
  have en : name = [101, 114, 114, 111, 114] := (Option.some.inj e1).symm
  subst en
  obtain rfl := Option.some.inj (rtT.symm.trans e2)
  have hm : ty ∈ (List.range 258).filter fun t => Tryz.prog.rowNamed t [101, 114, 114, 111, 114] := List.mem_filter.2 ⟨List.mem_range.2 (by rw [← sizeT]; exact e3), e4⟩
  rw [oneRow] at hm
  obtain rfl := List.mem_singleton.1 hm
  have hh : typeHandle Tryz.prog 65 = .pointer (some ⟨5, 65, none⟩) := by kernel_rfl
  rw [hh] at e5
  simpa using World.var?_cell gEt e5 0
/-- The text of the error for a quiet NaN. -/
def qS : ByteArray := ⟨#[111, 110, 101, 32, 105, 115, 32, 97, 32, 113, 117, 105, 101, 116, 32, 78, 97, 78]⟩
noncomputable def low : Nat := (World.holding Tryz.prog default ⟨#[], #[], []⟩).heap.size
theorem tok_any {H : Type} {enc : TypeId × Value → H} {sp : Nat → Bool} {x : Value} (hx : IsIface x) (w : World) : DataW.trod enc Tryz.prog w 0 sp true 1 65 (#[x] : Array Value).toList = some (tok enc x, []) := by
  cases x <;> simp only [IsIface] at hx <;> (unfold DataW.trod; rw [Tryz.underlying65]; rfl)
theorem star : "*" ++ "errors.errorString" = "*errors.errorString" := by decide
theorem rowE (u : TypeId) (h : Tryz.prog.typeName? 3 u = some "*errors.errorString") : u = 225 :=
  typeName_ptr_named (nm := "errors.errorString") (by rw [star]; kernel_rfl) (by kernel_rfl) (by decide) u (by rw [star]; exact h)
set_option maxRecDepth 100000 in
theorem quiet {W : World} (h : laidMet Tryz.prog [("loop.example/g00672/impl.errQuiet", Rows.laid_loop_example_g00672_impl_errQuiet)] W) : ∃ u, ErrQ W u := by
  obtain ⟨ps, ⟨g', t', cs, fuel, p, q, hg', ht', hvar, hd, _, _⟩, _⟩ := h
  obtain rfl := Option.some.inj (gEq.symm.trans hg')
  obtain rfl := Option.some.inj (gEqType.symm.trans ht')
  cases fuel with
  | zero => simp [DataW.trod] at hd
  | succ n =>
    have hcell := World.var?_cell gEq hvar 0
    unfold DataW.trod at hd
    rw [Tryz.underlying65] at hd
    obtain ⟨l⟩ := cs
    match l, hd with
    | [.nilIface], hd => simp [Rows.laid_loop_example_g00672_impl_errQuiet] at hd
    | [.iface u v], hd =>
      simp only at hd
      cases hn : Tryz.prog.typeName? 3 u with
      | none => rw [hn] at hd; simp at hd
      | some name =>
        rw [hn] at hd
        simp only [Option.map_eq_some_iff, Prod.mk.injEq, Rows.laid_loop_example_g00672_impl_errQuiet, DataW.iface.injEq] at hd
        obtain ⟨y, _, ⟨e1, _⟩, _⟩ := hd
        subst e1
        obtain rfl := rowE u hn
        exact ⟨v, by simpa using hcell⟩
set_option maxRecDepth 100000 in
theorem all {W : World} (h : laidMetH Tryz.prog [("errors.errorType", Rows.laid_errors_errorType), ("loop.example/g00672/impl.formSizes", Rows.laid_loop_example_g00672_impl_formSizes), ("loop.example/g00672/impl.errQuiet", Rows.laid_loop_example_g00672_impl_errQuiet)] W) : EX W := by
  have h' : laidMet Tryz.prog [("loop.example/g00672/impl.formSizes", Rows.laid_loop_example_g00672_impl_formSizes), ("loop.example/g00672/impl.errQuiet", Rows.laid_loop_example_g00672_impl_errQuiet)] W ∧ handlesMet Tryz.prog [("errors.errorType", Rows.laid_errors_errorType)] W := h
  have h1 := h'.1.filter (fun x => x.1 == "loop.example/g00672/impl.formSizes")
  have h2 := h'.1.filter (fun x => x.1 == "loop.example/g00672/impl.errQuiet")
  obtain ⟨u, hu⟩ := quiet h2
  exact ⟨u, ⟨table h1, handle h'.2 (List.mem_singleton.2 rfl), hu⟩⟩
end Ld
end Go.Proofs.YtpoojmheegncfaaGreatDoor
