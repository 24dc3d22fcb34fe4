/-
  What is needed of DAc, DAd.
-/
import Derived.Test.YtkfjmcdniohljaaGreatDoorF46
set_option maxHeartbeats 16000000
set_option maxRecDepth 1000000
namespace Go.Proofs.YtkfjmcdniohljaaGreatDoor
set_option linter.unusedVariables false
set_option linter.unusedSimpArgs false
open Go.RowKit Go.Deep
namespace Fd
theorem most_any (F : Int) (w : World) (M : Int) (hM : M = if F = 32 then 554 else 4196) :
  Calls Tryz.prog 143 #[.int .i64 F] w fun e w' => e = .returned (.int .i64 M) ∧ Below w.heap.size w w' := by
 by_cases h : F = 32
 ·subst h
  have hM' : M = 554 := by rw [hM]; rfl
  subst hM'
  clear hM
  go_enter Tryz.func143, Tryz.ntmps143
  go_wp2
  go_ret
  exact ⟨rfl, Below.refl _ _⟩
 ·have hM' : M = 4196 := by rw [hM, if_neg h]
  have e1 : (F == 32) = false := by simpa using h
  subst hM'
  clear hM h
  go_enter Tryz.func143, Tryz.ntmps143
  go_wp2
  go_ret
  exact ⟨rfl, Below.refl _ _⟩
theorem bl_add2 {x y k : Nat} (hx : bitLen x ≤ k) (hy : bitLen y ≤ k) : bitLen (x + y) ≤ k + 1 := by
 rw [Nm.bl_le_iff] at hx hy ⊢
 rw [Nat.pow_succ]
 omega
theorem Q9.gr2 {w w' : World} {b rb : Nat} {a : Option Addr} {v0 v1 v2 v3 v4 v5 v6 v7 v8 : Value} (h : Q9 w b v0 v1 v2 v3 v4 v5 v6 v7 v8) (hg : Gr2 w w' rb a) (h1 : b ≠ rb) (h2 : ∀ g, a = some ⟨g, 0, none⟩ → b ≠ g) : Q9 w' b v0 v1 v2 v3 v4 v5 v6 v7 v8 := h.of_block (hg.block b h.lt h1 h2)
theorem gr2_grown {w w1 w2 : World} {rb B : Nat} {a : Option Addr} {c : Nat} {zs : List Int} (h : w.grownBy w1 (some rb)) (hg : Gr2 w1 w2 rb a) (ho : Own w1 B a c zs) (hB : w.heap.size ≤ B) : w.grownBy w2 (some rb) :=
 ⟨hg.os.trans h.os, hg.tape.trans h.tape, hg.output.trans h.output, Nat.le_trans h.size hg.size, fun i hi hne => (hg.block i (Nat.lt_of_lt_of_le hi h.size) (by intro e; exact hne (by rw [e])) (fun g e k => by have := (own_at ho g e).1; omega)).trans (h.block i hi hne)⟩
theorem hurtAcc_any (F : Int) (ng : Bool) (zs : List Int) (T : Int) (nn bd pl mi am : Bool) (p : Option Addr) (c B : Nat) (rb : Nat) (ca : Option Addr) (cc : Nat) (cs : List Int) (w : World) (hr : RD w rb ca cc cs) (ho : Own w B p c zs) (hB : rb < B) (hBw : B ≤ w.heap.size) (hd : Nm.Dg zs) (hl : zs.length ≤ 200) (T0 : 0 ≤ T) (T1 : T ≤ 1000000) :
  Calls Tryz.prog 118 #[.pointer (some ⟨rb, 0, none⟩), .agg #[.int .i64 F, .bool ng, .slice p zs.length c, .int .i64 T, .bool nn, .bool bd, .bool pl, .bool mi, .bool am]] w fun e w' => ∃ F' ng' zs' T' nn' bd' pl' mi' am' p' c', e = .returned (.agg #[.int .i64 F', .bool ng', .slice p' zs'.length c', .int .i64 T', .bool nn', .bool bd', .bool pl', .bool mi', .bool am']) ∧ zs'.length ≤ 2000 ∧ Nm.Dg zs' ∧ Own w' B p' c' zs' ∧ RD w' rb ca cc cs ∧ w.grownBy w' (some rb) := by
 have hrw := hr.lt
 have hat := own_at ho
 have A4 := (Q9.new w (.int .i64 F) (.bool ng) (.slice p zs.length c) (.int .i64 T) (.bool nn) (.bool bd) (.bool pl) (.bool mi) (.bool am) 50).alloc (.cells #[.int .i64 0, .bool false, .slice none 0 0, .int .i64 0, .bool false, .bool false, .bool false, .bool false, .bool false] 50)
 have R4 := Q9.nw2b w (.cells #[.int .i64 F, .bool ng, .slice p zs.length c, .int .i64 T, .bool nn, .bool bd, .bool pl, .bool mi, .bool am] 50) (.int .i64 0) (.bool false) (.slice none 0 0) (.int .i64 0) (.bool false) (.bool false) (.bool false) (.bool false) (.bool false) 50
 have g4 := grown_alloc (grown_alloc (grown_refl w (some rb)) (.cells #[.int .i64 F, .bool ng, .slice p zs.length c, .int .i64 T, .bool nn, .bool bd, .bool pl, .bool mi, .bool am] 50)) (.cells #[.int .i64 0, .bool false, .slice none 0 0, .int .i64 0, .bool false, .bool false, .bool false, .bool false, .bool false] 50)
 have r4 := (hr.alloc (.cells #[.int .i64 F, .bool ng, .slice p zs.length c, .int .i64 T, .bool nn, .bool bd, .bool pl, .bool mi, .bool am] 50)).alloc (.cells #[.int .i64 0, .bool false, .slice none 0 0, .int .i64 0, .bool false, .bool false, .bool false, .bool false, .bool false] 50)
 have O4 := (ho.alloc (.cells #[.int .i64 F, .bool ng, .slice p zs.length c, .int .i64 T, .bool nn, .bool bd, .bool pl, .bool mi, .bool am] 50)).alloc (.cells #[.int .i64 0, .bool false, .slice none 0 0, .int .i64 0, .bool false, .bool false, .bool false, .bool false, .bool false] 50)
 have hsz : ((w.alloc (.cells #[.int .i64 F, .bool ng, .slice p zs.length c, .int .i64 T, .bool nn, .bool bd, .bool pl, .bool mi, .bool am] 50)).alloc (.cells #[.int .i64 0, .bool false, .slice none 0 0, .int .i64 0, .bool false, .bool false, .bool false, .bool false, .bool false] 50)).heap.size = w.heap.size + 2 := by simp
 have h00 : (0 : Int) ≤ 0 := by decide
 go_enter Tryz.func118, Tryz.ntmps118
 go_wp2_with fail
 generalize (w.alloc (.cells #[.int .i64 F, .bool ng, .slice p zs.length c, .int .i64 T, .bool nn, .bool bd, .bool pl, .bool mi, .bool am] 50)).alloc (.cells #[.int .i64 0, .bool false, .slice none 0 0, .int .i64 0, .bool false, .bool false, .bool false, .bool false, .bool false] 50) = w4 at A4 R4 r4 g4 O4 hsz ⊢
 have hlw : w.heap.size + 2 ≤ w4.heap.size := by omega
 clear hsz
 refine (below_any rb ca cc cs 24 _ r4 (by decide) (by decide)).mono ?_
 rintro e w4 ⟨v, rfl, v0, v1, r4', g4'⟩
 have A4 := A4.grown g4' (fun g e => by cases e; omega)
 have R4 := R4.grown g4' (fun g e => by cases e; omega)
 have O4 := Own.rd O4 g4' (by omega)
 have hlw : w.heap.size + 2 ≤ w4.heap.size := by have := g4'.size; omega
 have g4 := grown_trans g4 g4'
 have r4 := r4'
 clear r4' g4'
 rcases (show v = 0 ∨ v = 1 ∨ v = 2 ∨ v = 3 ∨ v = 4 ∨ v = 5 ∨ 5 < v by omega) with rfl | rfl | rfl | rfl | rfl | rfl | hv
 ·go_wp2_with fail
  refine (below_any rb ca cc cs 70 _ r4 (by decide) (by decide)).mono ?_
  rintro e w4 ⟨u, rfl, u0, u1, r4', g4'⟩
  have A4 := A4.grown g4' (fun g e => by cases e; omega)
  have R4 := R4.grown g4' (fun g e => by cases e; omega)
  have O4 := Own.rd O4 g4' (by omega)
  have hlw : w.heap.size + 2 ≤ w4.heap.size := by have := g4'.size; omega
  have g4 := grown_trans g4 g4'
  have r4 := r4'
  clear r4' g4'
  have hn0 : ∀ g, p = some ⟨g, 0, none⟩ → g ≠ w.heap.size := fun g e => by have := hat g e; omega
  have hn1 : ∀ g, p = some ⟨g, 0, none⟩ → g ≠ w.heap.size + 1 := fun g e => by have := hat g e; omega
  obtain ⟨c0, c1, c2, c3, c4, c5, c6, c7, c8, f0, f1, f2, f3, f4, f5, f6, f7, f8⟩ := A4
  obtain ⟨y0, y1, y2, y3, y4, y5, y6, y7, y8, z0, z1, z2, z3, z4, z5, z6, z7, z8⟩ := R4
  go_wp2
  exact bodyPost_ret (v := .agg #[.int .i64 u, .bool ng, .slice p zs.length c, .int .i64 T, .bool nn, .bool bd, .bool pl, .bool mi, .bool am]) (by simp [results, Tryz.results118, go_sem, y0, y1, y2, y3, y4, y5, y6, y7, y8, z0, z1, z2, z3, z4, z5, z6, z7, z8]) rfl ⟨u, ng, zs, T, nn, bd, pl, mi, am, p, c, rfl, by omega, hd, own9 (Own.setOther O4 (p := ⟨w.heap.size, 0, none⟩) hn0 (.int .i64 u)) hn1 _ _ _ _ _ _ _ _ _, rd9 (RD.other r4 (p := ⟨w.heap.size, 0, none⟩) hrw (.int .i64 u)) (Nat.lt_succ_of_lt hrw) _ _ _ _ _ _ _ _ _, grown9 (grown_two g4 (set_grown _ ⟨w.heap.size, 0, none⟩ (.int .i64 u)) (Nat.le_refl _)) (Nat.le_succ _) _ _ _ _ _ _ _ _ _⟩
 ·go_wp2_with fail
  refine (wide_any rb ca cc cs _ r4).mono ?_
  rintro e w5 ⟨x, a5, k5, rfl, l5, o5, r5, g5⟩
  have A4 := A4.grown g5 (fun g e => by cases e; omega)
  have R4 := R4.grown g5 (fun g e => by cases e; omega)
  have g4 := grown_trans g4 g5
  have hz5 := g5.size
  clear r4 g5 O4
  go_wp2_with fail
  refine (hurt_any rb ca cc cs (Nm.wn x) a5 k5 (Nm.wl x) _ _ r5 o5 (by omega) (Nm.wl_dg x) (by omega) hz5).mono ?_
  rintro e w6 ⟨ng6, L6, a6, k6, rfl, l6, d6, o6, r4, G6, ha6⟩
  have at5 := own_at o5
  have A4 := Q9.gr2 A4 G6 (by omega) (fun g e => by have := (at5 g e).1; omega)
  have R4 := Q9.gr2 R4 G6 (by omega) (fun g e => by have := (at5 g e).1; omega)
  have g4 := gr2_grown g4 G6 o5 (by omega)
  have at6 := own_at o6
  clear G6 ha6
  have hn0 : ∀ g, a6 = some ⟨g, 0, none⟩ → g ≠ w.heap.size := fun g e => by have := (at6 g e).1; omega
  have hn1 : ∀ g, a6 = some ⟨g, 0, none⟩ → g ≠ w.heap.size + 1 := fun g e => by have := (at6 g e).1; omega
  obtain ⟨c0, c1, c2, c3, c4, c5, c6, c7, c8, f0, f1, f2, f3, f4, f5, f6, f7, f8⟩ := A4
  obtain ⟨y0, y1, y2, y3, y4, y5, y6, y7, y8, z0, z1, z2, z3, z4, z5, z6, z7, z8⟩ := R4
  go_wp2
  exact bodyPost_ret (v := .agg #[.int .i64 F, .bool ng6, .slice a6 L6.length k6, .int .i64 T, .bool nn, .bool bd, .bool pl, .bool mi, .bool am]) (by simp [results, Tryz.results118, go_sem, y0, y1, y2, y3, y4, y5, y6, y7, y8, z0, z1, z2, z3, z4, z5, z6, z7, z8]) rfl ⟨F, ng6, L6, T, nn, bd, pl, mi, am, a6, k6, rfl, l6, d6, own9 (Own.setOther (Own.setOther (Own.base o6 (B' := B) (by omega)) (p := ⟨w.heap.size, 1, none⟩) hn0 (.bool ng6)) (p := ⟨w.heap.size, 2, none⟩) hn0 (.slice a6 L6.length k6)) hn1 _ _ _ _ _ _ _ _ _, rd9 (RD.other (RD.other r4 (p := ⟨w.heap.size, 1, none⟩) hrw (.bool ng6)) (p := ⟨w.heap.size, 2, none⟩) hrw (.slice a6 L6.length k6)) (Nat.lt_succ_of_lt hrw) _ _ _ _ _ _ _ _ _, grown9 (grown_two (grown_two g4 (set_grown _ ⟨w.heap.size, 1, none⟩ (.bool ng6)) (Nat.le_refl _)) (set_grown _ ⟨w.heap.size, 2, none⟩ (.slice a6 L6.length k6)) (Nat.le_refl _)) (Nat.le_succ _) _ _ _ _ _ _ _ _ _⟩
 ·go_wp2_with fail
  refine (off_z rb ca cc cs 0 1000000 _ r4 (by decide) (by decide) (by decide)).mono ?_
  rintro e w4 ⟨u, rfl, r4', g4'⟩
  have A4 := A4.grown g4' (fun g e => by cases e; omega)
  have R4 := R4.grown g4' (fun g e => by cases e; omega)
  have O4 := Own.rd O4 g4' (by omega)
  have hlw : w.heap.size + 2 ≤ w4.heap.size := by have := g4'.size; omega
  have g4 := grown_trans g4 g4'
  have r4 := r4'
  clear r4' g4'
  have hn0 : ∀ g, p = some ⟨g, 0, none⟩ → g ≠ w.heap.size := fun g e => by have := hat g e; omega
  have hn1 : ∀ g, p = some ⟨g, 0, none⟩ → g ≠ w.heap.size + 1 := fun g e => by have := hat g e; omega
  obtain ⟨c0, c1, c2, c3, c4, c5, c6, c7, c8, f0, f1, f2, f3, f4, f5, f6, f7, f8⟩ := A4
  obtain ⟨y0, y1, y2, y3, y4, y5, y6, y7, y8, z0, z1, z2, z3, z4, z5, z6, z7, z8⟩ := R4
  go_wp2
  exact bodyPost_ret (v := .agg #[.int .i64 F, .bool ng, .slice p zs.length c, .int .i64 u, .bool nn, .bool bd, .bool pl, .bool mi, .bool am]) (by simp [results, Tryz.results118, go_sem, y0, y1, y2, y3, y4, y5, y6, y7, y8, z0, z1, z2, z3, z4, z5, z6, z7, z8]) rfl ⟨F, ng, zs, u, nn, bd, pl, mi, am, p, c, rfl, by omega, hd, own9 (Own.setOther O4 (p := ⟨w.heap.size, 3, none⟩) hn0 (.int .i64 u)) hn1 _ _ _ _ _ _ _ _ _, rd9 (RD.other r4 (p := ⟨w.heap.size, 3, none⟩) hrw (.int .i64 u)) (Nat.lt_succ_of_lt hrw) _ _ _ _ _ _ _ _ _, grown9 (grown_two g4 (set_grown _ ⟨w.heap.size, 3, none⟩ (.int .i64 u)) (Nat.le_refl _)) (Nat.le_succ _) _ _ _ _ _ _ _ _ _⟩
 ·have hn0 : ∀ g, p = some ⟨g, 0, none⟩ → g ≠ w.heap.size := fun g e => by have := hat g e; omega
  have hn1 : ∀ g, p = some ⟨g, 0, none⟩ → g ≠ w.heap.size + 1 := fun g e => by have := hat g e; omega
  obtain ⟨c0, c1, c2, c3, c4, c5, c6, c7, c8, f0, f1, f2, f3, f4, f5, f6, f7, f8⟩ := A4
  obtain ⟨y0, y1, y2, y3, y4, y5, y6, y7, y8, z0, z1, z2, z3, z4, z5, z6, z7, z8⟩ := R4
  go_wp2
  exact bodyPost_ret (v := .agg #[.int .i64 F, .bool ng, .slice p zs.length c, .int .i64 T, .bool nn, .bool (!bd), .bool pl, .bool mi, .bool am]) (by simp [results, Tryz.results118, go_sem, y0, y1, y2, y3, y4, y5, y6, y7, y8, z0, z1, z2, z3, z4, z5, z6, z7, z8]) rfl ⟨F, ng, zs, T, nn, !bd, pl, mi, am, p, c, rfl, by omega, hd, own9 (Own.setOther O4 (p := ⟨w.heap.size, 5, none⟩) hn0 (.bool (!bd))) hn1 _ _ _ _ _ _ _ _ _, rd9 (RD.other r4 (p := ⟨w.heap.size, 5, none⟩) hrw (.bool (!bd))) (Nat.lt_succ_of_lt hrw) _ _ _ _ _ _ _ _ _, grown9 (grown_two g4 (set_grown _ ⟨w.heap.size, 5, none⟩ (.bool (!bd))) (Nat.le_refl _)) (Nat.le_succ _) _ _ _ _ _ _ _ _ _⟩
 ·have hn0 : ∀ g, p = some ⟨g, 0, none⟩ → g ≠ w.heap.size := fun g e => by have := hat g e; omega
  have hn1 : ∀ g, p = some ⟨g, 0, none⟩ → g ≠ w.heap.size + 1 := fun g e => by have := hat g e; omega
  obtain ⟨c0, c1, c2, c3, c4, c5, c6, c7, c8, f0, f1, f2, f3, f4, f5, f6, f7, f8⟩ := A4
  obtain ⟨y0, y1, y2, y3, y4, y5, y6, y7, y8, z0, z1, z2, z3, z4, z5, z6, z7, z8⟩ := R4
  go_wp2
  exact bodyPost_ret (v := .agg #[.int .i64 F, .bool ng, .slice p zs.length c, .int .i64 T, .bool nn, .bool bd, .bool pl, .bool mi, .bool (!am)]) (by simp [results, Tryz.results118, go_sem, y0, y1, y2, y3, y4, y5, y6, y7, y8, z0, z1, z2, z3, z4, z5, z6, z7, z8]) rfl ⟨F, ng, zs, T, nn, bd, pl, mi, !am, p, c, rfl, by omega, hd, own9 (Own.setOther O4 (p := ⟨w.heap.size, 8, none⟩) hn0 (.bool (!am))) hn1 _ _ _ _ _ _ _ _ _, rd9 (RD.other r4 (p := ⟨w.heap.size, 8, none⟩) hrw (.bool (!am))) (Nat.lt_succ_of_lt hrw) _ _ _ _ _ _ _ _ _, grown9 (grown_two g4 (set_grown _ ⟨w.heap.size, 8, none⟩ (.bool (!am))) (Nat.le_refl _)) (Nat.le_succ _) _ _ _ _ _ _ _ _ _⟩
 ·obtain ⟨M, hM⟩ : ∃ M : Int, M = if F = 32 then 554 else 4196 := ⟨_, rfl⟩
  have hMb : 0 ≤ M ∧ M ≤ 4196 := by rw [hM]; split <;> omega
  have CM := hid (fun w' => most_any F w' M hM)
  have CT := hid (fun w' => wof_Ts T w' T0 T1)
  have CSh := hid (fun p' c' w' h => sh_far T F M p' c' w' h T1 hM)
  have hbl := far_bl F T1
  obtain ⟨N, hN⟩ : ∃ N, N = far F T := ⟨_, rfl⟩
  rw [← hN] at CSh hbl
  have HBL := hid hbl
  clear hM hN hbl
  clear O4
  go_upto_region 13 with fail
  refine wp_region_held_drew (S := fun w' => w'.cell? ⟨w.heap.size, 0, none⟩ = some (.int .i64 F) ∧ w'.cell? ⟨w.heap.size, 3, none⟩ = some (.int .i64 T)) (by kernel_rfl) ?_ (fun hHeld => ?_)
  ·exact ⟨A4.c0, A4.c3⟩
  have A4 := A4.drew
  have R4 := R4.drew
  have r4 := r4.drew
  have hlw : w.heap.size + 2 ≤ w4.drew.heap.size := hlw
  have g4 : w.grownBy w4.drew (some rb) := grown_trans g4 (grown_below (Below.drew (Below.refl _ _)) _)
  generalize w4.drew = w4 at A4 R4 r4 g4 hlw hHeld ⊢
  refine tk 0 ?_ rfl (Or.inl ⟨by rfl, ?_⟩) ?_
  rotate_left
  ·(intro w hSw; go_simp; try (with_reducible rfl))
  try simp only [Act.put, Ls]
  refine tk 1 ?_ rfl (Or.inl ⟨by rfl, ?_⟩) ?_
  rotate_left
  ·(intro w hSw; (try dsimp only at hSw); obtain ⟨hS0, hS1⟩ := hSw; go_simp; try (with_reducible rfl))
  try simp only [Act.put, Ls]
  refine tk 3 ?_ rfl (Or.inl ⟨by rfl, ?_⟩) ?_
  rotate_left
  ·(intro w hSw; go_simp; try (with_reducible rfl))
  try simp only [Act.put, Ls]
  refine tk 4 ?_ rfl (Or.inl ⟨by rfl, ?_⟩) ?_
  rotate_left
  ·(intro w hSw; (try dsimp only at hSw); obtain ⟨hS0, hS1⟩ := hSw; go_simp; try (with_reducible rfl))
  try simp only [Act.put, Ls]
  refine tk 7 ?_ rfl (Or.inl ⟨by rfl, ?_⟩) ?_
  rotate_left
  ·(intro w hSw; go_simp; try (with_reducible rfl))
  try simp only [Act.put, Ls]
  refine rdy 2 rfl (fun K hK => ?_)
  go_simp
  go_at_call 86
  have lo1 := hlw
  refine (CT.out _).mono ?_
  rintro e w4 ⟨a1, k1, rfl, o1, hb⟩
  have hlw : w.heap.size + 2 ≤ w4.heap.size := by have := hb.size; omega
  have A4 := A4.below hb
  have R4 := R4.below hb
  have r4 := r4.below hb
  have g4 := grown_trans g4 (grown_below hb _)
  have o1 := Own.base o1 (B' := w.heap.size + 2) lo1
  clear hb
  refine hK.out _ _ ?_ (fun hHeld => ?_)
  ·exact ⟨A4.c0, A4.c3⟩
  clear hK K
  try simp only [Act.put, Ls]
  refine rdy 5 rfl (fun K hK => ?_)
  go_simp
  go_at_call 143
  refine (CM.out _).mono ?_
  rintro e w4 ⟨rfl, hb⟩
  have hlw : w.heap.size + 2 ≤ w4.heap.size := by have := hb.size; omega
  have A4 := A4.below hb
  have R4 := R4.below hb
  have r4 := r4.below hb
  have g4 := grown_trans g4 (grown_below hb _)
  have o1 := o1.below hb
  clear hb
  refine hK.out _ _ ?_ (fun hHeld => ?_)
  ·exact ⟨A4.c0, A4.c3⟩
  clear hK K
  try simp only [Act.put, Ls]
  refine rdy 6 rfl (fun K hK => ?_)
  go_simp
  go_at_call 80
  have lo1 := hlw
  refine (CSh.out a1 k1 _ o1.sl).mono ?_
  rintro e w4 ⟨a2, k2, rfl, o2, hb⟩
  have hlw : w.heap.size + 2 ≤ w4.heap.size := by have := hb.size; omega
  have A4 := A4.below hb
  have R4 := R4.below hb
  have r4 := r4.below hb
  have g4 := grown_trans g4 (grown_below hb _)
  have o2 := Own.base o2 (B' := w.heap.size + 2) lo1
  clear o1
  clear hb
  refine hK.out _ _ ?_ (fun hHeld => ?_)
  ·exact ⟨A4.c0, A4.c3⟩
  clear hK K
  try simp only [Act.put, Ls]
  refine rdy 8 rfl (fun K hK => ?_)
  go_simp
  go_at_call 99
  refine (below_any rb ca cc cs 2 _ r4 (by decide) (by decide)).mono ?_
  rintro e w4 ⟨u, rfl, u0, u1, r4, g5⟩
  have A4 := A4.grown g5 (fun g e => by cases e; omega)
  have R4 := R4.grown g5 (fun g e => by cases e; omega)
  have o2 := Own.rd o2 g5 (by omega)
  have hlw : w.heap.size + 2 ≤ w4.heap.size := by have := g5.size; omega
  have g4 := grown_trans g4 g5
  clear g5
  refine hK.out _ _ ?_ (fun hHeld => ?_)
  ·exact ⟨A4.c0, A4.c3⟩
  clear hK K
  try simp only [Act.put, Ls]
  refine rdy 9 rfl (fun K hK => ?_)
  go_simp
  go_at_call 86
  refine (wof_Ts u _ u0 (by omega)).mono ?_
  rintro e w4 ⟨a3, k3, rfl, o3, hb⟩
  have hlw : w.heap.size + 2 ≤ w4.heap.size := by have := hb.size; omega
  have A4 := A4.below hb
  have R4 := R4.below hb
  have r4 := r4.below hb
  have g4 := grown_trans g4 (grown_below hb _)
  have o2 := o2.below hb
  clear hb
  refine hK.out _ _ ?_ (fun hHeld => ?_)
  ·exact ⟨A4.c0, A4.c3⟩
  clear hK K
  try simp only [Act.put, Ls]
  refine rdy 10 rfl (fun K hK => ?_)
  go_simp
  go_at_call 81
  have lo1 := hlw
  refine (plus_n N u.toNat a2 a3 k2 k3 _ o2.sl o3.sl (by have := HBL.out; omega) (by have := (Nm.bl_le_iff u.toNat 2).2 (by have : (2:Nat) ^ 2 = 4 := (by decide); omega); omega)).mono ?_
  rintro e w4 ⟨a6, k6, rfl, o6, hb⟩
  have hlw : w.heap.size + 2 ≤ w4.heap.size := by have := hb.size; omega
  have A4 := A4.below hb
  have R4 := R4.below hb
  have r4 := r4.below hb
  have g4 := grown_trans g4 (grown_below hb _)
  have o6 := Own.base o6 (B' := w.heap.size + 2) lo1
  clear o2 o3
  clear hb
  refine hK.out _ _ ?_ (fun hHeld => ?_)
  ·exact ⟨A4.c0, A4.c3⟩
  clear hK K
  try simp only [Act.put, Ls]
  refine tk 11 ?_ rfl (Or.inl ⟨by rfl, ?_⟩) ?_
  rotate_left
  ·(intro w hSw; go_simp; try (with_reducible rfl))
  try simp only [Act.put, Ls]
  refine rdy 12 rfl (fun K hK => ?_)
  have A4' := A4
  obtain ⟨c0, c1, c2, c3, c4, c5, c6, c7, c8, f0, f1, f2, f3, f4, f5, f6, f7, f8⟩ := A4'
  go_simp
  refine hK.out _ _ ?_ (fun hHeld => ?_)
  ·exact ⟨by simp [go_sem, c0], by simp [go_sem, c3]⟩
  clear hK K
  try simp only [Act.put, Ls]
  refine wpAnyH_done (by kernel_rfl) ?_ _
  clear c0 c1 c2 c3 c4 c5 c6 c7 c8 f0 f1 f2 f3 f4 f5 f6 f7 f8
  have at6 := own_at o6
  have l6 : (Nm.lim (N + u.toNat)).length ≤ 2000 := by
   have h1 := HBL.out
   have h2 : bitLen u.toNat ≤ 2 := (Nm.bl_le_iff u.toNat 2).2 (by have : (2:Nat) ^ 2 = 4 := (by decide); omega)
   have h3 := bl_add2 (x := N) (y := u.toNat) (k := 4216) (by omega) (by omega)
   have := lim_len (x := N + u.toNat) (k := 1000) (by omega)
   omega
  have d6 := Nm.lim_dg (N + u.toNat)
  obtain ⟨L6, hL6⟩ : ∃ L6, L6 = Nm.lim (N + u.toNat) := ⟨_, rfl⟩
  rw [← hL6] at o6 l6 d6 ⊢
  clear hL6
  have hn0 : ∀ g, a6 = some ⟨g, 0, none⟩ → g ≠ w.heap.size := fun g e => by have := (at6 g e).1; omega
  have hn1 : ∀ g, a6 = some ⟨g, 0, none⟩ → g ≠ w.heap.size + 1 := fun g e => by have := (at6 g e).1; omega
  obtain ⟨c0, c1, c2, c3, c4, c5, c6, c7, c8, f0, f1, f2, f3, f4, f5, f6, f7, f8⟩ := A4
  obtain ⟨y0, y1, y2, y3, y4, y5, y6, y7, y8, z0, z1, z2, z3, z4, z5, z6, z7, z8⟩ := R4
  go_wp2
  exact bodyPost_ret (v := .agg #[.int .i64 F, .bool false, .slice a6 L6.length k6, .int .i64 T, .bool nn, .bool bd, .bool pl, .bool mi, .bool am]) (by simp [results, Tryz.results118, go_sem, y0, y1, y2, y3, y4, y5, y6, y7, y8, z0, z1, z2, z3, z4, z5, z6, z7, z8]) rfl ⟨F, false, L6, T, nn, bd, pl, mi, am, a6, k6, rfl, l6, d6, own9 (Own.setOther (Own.setOther (Own.base o6 (B' := B) (by omega)) (p := ⟨w.heap.size, 1, none⟩) hn0 (.bool false)) (p := ⟨w.heap.size, 2, none⟩) hn0 (.slice a6 L6.length k6)) hn1 _ _ _ _ _ _ _ _ _, rd9 (RD.other (RD.other r4 (p := ⟨w.heap.size, 1, none⟩) hrw (.bool false)) (p := ⟨w.heap.size, 2, none⟩) hrw (.slice a6 L6.length k6)) (Nat.lt_succ_of_lt hrw) _ _ _ _ _ _ _ _ _, grown9 (grown_two (grown_two g4 (set_grown _ ⟨w.heap.size, 1, none⟩ (.bool false)) (Nat.le_refl _)) (set_grown _ ⟨w.heap.size, 2, none⟩ (.slice a6 L6.length k6)) (Nat.le_refl _)) (Nat.le_succ _) _ _ _ _ _ _ _ _ _⟩
 ·have e0 : (v == 0) = false := by simp; omega
  have e1 : (v == 1) = false := by simp; omega
  have e2 : (v == 2) = false := by simp; omega
  have e3 : (v == 3) = false := by simp; omega
  have e4 : (v == 4) = false := by simp; omega
  have e5 : (v == 5) = false := by simp; omega
  have hn0 : ∀ g, p = some ⟨g, 0, none⟩ → g ≠ w.heap.size := fun g e => by have := hat g e; omega
  have hn1 : ∀ g, p = some ⟨g, 0, none⟩ → g ≠ w.heap.size + 1 := fun g e => by have := hat g e; omega
  obtain ⟨c0, c1, c2, c3, c4, c5, c6, c7, c8, f0, f1, f2, f3, f4, f5, f6, f7, f8⟩ := A4
  obtain ⟨y0, y1, y2, y3, y4, y5, y6, y7, y8, z0, z1, z2, z3, z4, z5, z6, z7, z8⟩ := R4
  go_wp2
  exact bodyPost_ret (v := .agg #[.int .i64 F, .bool ng, .slice p zs.length c, .int .i64 T, .bool nn, .bool bd, .bool pl, .bool mi, .bool am]) (by simp [results, Tryz.results118, go_sem, y0, y1, y2, y3, y4, y5, y6, y7, y8, z0, z1, z2, z3, z4, z5, z6, z7, z8]) rfl ⟨F, ng, zs, T, nn, bd, pl, mi, am, p, c, rfl, by omega, hd, own9 O4 hn1 _ _ _ _ _ _ _ _ _, rd9 r4 (Nat.lt_succ_of_lt hrw) _ _ _ _ _ _ _ _ _, grown9 g4 (Nat.le_succ _) _ _ _ _ _ _ _ _ _⟩
def DrA (w w' : World) (e : Ending) : Prop := ∃ (F : Int) (ng : Bool) (zs : List Int) (T : Int) (nn bd pl mi am : Bool) (a : Option Addr) (c : Nat), e = .returned (.agg #[.int .i64 F, .bool ng, .slice a zs.length c, .int .i64 T, .bool nn, .bool bd, .bool pl, .bool mi, .bool am]) ∧ zs.length ≤ 2000 ∧ Nm.Dg zs ∧ Own w' w.heap.size a c zs ∧ Below w.heap.size w w'
theorem drawAccOk_x (ca : Option Addr) (cc : Nat) (cs : List Int) (w : World) (hs : Sl .u8 w (.slice ca cs.length cc) cs) (hby : ∀ i, 0 ≤ cs.getD i 0 ∧ cs.getD i 0 ≤ 255) (hl : cs.length ≤ 1048576) :
  Calls Tryz.prog 140 #[.slice ca cs.length cc] w fun e w' => DrA w w' e := by
 have hs1 := hs
 have bel := Below.refl w.heap.size w
 have R4 := Q9.new w (.int .i64 0) (.bool false) (.slice none 0 0) (.int .i64 0) (.bool false) (.bool false) (.bool false) (.bool false) (.bool false) 50
 have hs1 := hs1.alloc (.cells #[.int .i64 0, .bool false, .slice none 0 0, .int .i64 0, .bool false, .bool false, .bool false, .bool false, .bool false] 50)
 have bel := bel_al bel (.cells #[.int .i64 0, .bool false, .slice none 0 0, .int .i64 0, .bool false, .bool false, .bool false, .bool false, .bool false] 50)
 go_enter Tryz.func140, Tryz.ntmps140
 go_wp2_with fail
 refine (open_any ca cc cs _ hs1 hby hl).mono ?_
 rintro e w4 ⟨rfl, r4, hb⟩
 have hlt : w.heap.size + 1 ≤ (w.alloc (.cells #[.int .i64 0, .bool false, .slice none 0 0, .int .i64 0, .bool false, .bool false, .bool false, .bool false, .bool false] 50)).heap.size := by simp
 generalize (w.alloc (.cells #[.int .i64 0, .bool false, .slice none 0 0, .int .i64 0, .bool false, .bool false, .bool false, .bool false, .bool false] 50)).heap.size = rb at r4 hlt ⊢
 have R4 := R4.below hb
 have bel := bel_go bel hb
 clear hb hs1
 go_wp2_with fail
 refine (format_any rb ca cc cs _ r4).mono ?_
 rintro e w4 ⟨fm, rfl, hf, r4', g4'⟩
 have R4 := R4.grown g4' (fun g e => by cases e; omega)
 have bel := bel_rd bel g4' (by omega)
 have r4 := r4'
 clear r4' g4'
 have CA := hid (fun w' h => acc_any fm hf rb ca cc cs w' h)
 go_wp2_with fail
 refine (CA.out _ r4).mono ?_
 rintro e w4 ⟨F, s, a, c, rfl, T0, T1, l1, o4, r4', g4'⟩
 have hB := r4.lt
 have hBw := g4'.size
 have R4 := R4.grown g4' (fun g e => by cases e; omega)
 have bel := bel_rd bel g4' (by omega)
 have r4 := r4'
 clear r4' g4'
 go_wp2_with fail
 refine (hurtAcc_any F (Nm.wn s.z) (Nm.wl s.z) s.T s.nn s.bd s.pl s.mi s.am a c _ rb ca cc cs _ r4 o4 hB hBw (Nm.wl_dg _) l1 T0 T1).mono ?_
 rintro e w4 ⟨F', ng', zs', T', nn', bd', pl', mi', am', a', c', rfl, l', d', o', r4', g4'⟩
 have R4 := R4.grown g4' (fun g e => by cases e; omega)
 have bel := bel_rd bel g4' (by omega)
 have r4 := r4'
 clear r4' g4'
 clear o4 T0 T1 l1 hBw
 have ho' := hB
 clear hB
 have hwb := Nat.lt_trans (Nat.lt_of_succ_le hlt) ho'
 obtain ⟨y0, y1, y2, y3, y4, y5, y6, y7, y8, z0, z1, z2, z3, z4, z5, z6, z7, z8⟩ := R4
 go_wp2
 exact bodyPost_ret (v := .agg #[.int .i64 F', .bool ng', .slice a' zs'.length c', .int .i64 T', .bool nn', .bool bd', .bool pl', .bool mi', .bool am']) (by simp [results, Tryz.results140, go_sem, y0, y1, y2, y3, y4, y5, y6, y7, y8, z0, z1, z2, z3, z4, z5, z6, z7, z8]) rfl ⟨F', ng', zs', T', nn', bd', pl', mi', am', a', c', rfl, l', d', Own.base (ownb9 o' hwb _ _ _ _ _ _ _ _ _) (Nat.le_of_lt hwb), (bel9 bel (Nat.le_refl _) _ _ _ _ _ _ _ _ _)⟩
theorem drawAccNeg_x (ca : Option Addr) (cc : Nat) (cs : List Int) (w : World) (hs : Sl .u8 w (.slice ca cs.length cc) cs) (hby : ∀ i, 0 ≤ cs.getD i 0 ∧ cs.getD i 0 ≤ 255) (hl : cs.length ≤ 1048576) :
  Calls Tryz.prog 45 #[.slice ca cs.length cc] w fun e w' => DrA w w' e := by
 have R4 := Q9.new w (.int .i64 0) (.bool false) (.slice none 0 0) (.int .i64 0) (.bool false) (.bool false) (.bool false) (.bool false) (.bool false) 50
 have bel := bel_al (Below.refl w.heap.size w) (.cells #[.int .i64 0, .bool false, .slice none 0 0, .int .i64 0, .bool false, .bool false, .bool false, .bool false, .bool false] 50)
 go_enter Tryz.func45, Tryz.ntmps45
 go_wp2_with fail
 refine (drawAccOk_x ca cc cs _ (hs.alloc _) hby hl).mono ?_
 rintro e w4 ⟨F, ng, zs, T, nn, bd, pl, mi, am, a, c, rfl, l', d', s', hb⟩
 have hwb : w.heap.size < (w.alloc (.cells #[.int .i64 0, .bool false, .slice none 0 0, .int .i64 0, .bool false, .bool false, .bool false, .bool false, .bool false] 50)).heap.size := by simp
 have R4 := R4.below hb
 have bel := bel_go bel hb
 clear hb
 obtain ⟨y0, y1, y2, y3, y4, y5, y6, y7, y8, z0, z1, z2, z3, z4, z5, z6, z7, z8⟩ := R4
 go_wp2
 exact bodyPost_ret (v := .agg #[.int .i64 F, .bool ng, .slice a zs.length c, .int .i64 T, .bool nn, .bool bd, .bool pl, .bool mi, .bool am]) (by simp [results, Tryz.results45, go_sem, y0, y1, y2, y3, y4, y5, y6, y7, y8, z0, z1, z2, z3, z4, z5, z6, z7, z8]) rfl ⟨F, ng, zs, T, nn, bd, pl, mi, am, a, c, rfl, l', d', Own.base (ownb9 s' hwb _ _ _ _ _ _ _ _ _) (Nat.le_of_lt hwb), (bel9 bel (Nat.le_refl _) _ _ _ _ _ _ _ _ _)⟩
end Fd
end Go.Proofs.YtkfjmcdniohljaaGreatDoor
