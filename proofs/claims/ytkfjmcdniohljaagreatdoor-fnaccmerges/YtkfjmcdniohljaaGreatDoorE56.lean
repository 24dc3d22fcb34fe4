/-
  What is needed of LAm.
-/
import Derived.Test.YtkfjmcdniohljaaGreatDoorE55
set_option maxHeartbeats 16000000
set_option maxRecDepth 1000000
namespace Go.Proofs.YtkfjmcdniohljaaGreatDoor
set_option linter.unusedVariables false
set_option linter.unusedSimpArgs false
open Go.RowKit Go.Deep
namespace Fd
/-- What is told of two accumulators that do not go together. -/
def mgC (F F2 : Int) (x y : Bool) (T T2 : Int) : Int := if x && y then (if F = F2 then (if T + T2 ≤ 1000000 then 0 else 3) else 2) else 1
theorem mgC_no {F F2 : Int} {x y : Bool} {T T2 : Int} (h : mgC F F2 x y T T2 ≠ 0) : mgNo F x y F2 T T2 (mgC F F2 x y T T2) := by
  unfold mgC at h ⊢
  unfold mgNo
  cases x <;> cases y
  · exact .inl ⟨rfl, rfl⟩
  · exact .inl ⟨rfl, rfl⟩
  · exact .inr (.inl ⟨rfl, rfl, rfl⟩)
  · by_cases e : F = F2
    · by_cases k : T + T2 ≤ 1000000
      · exact absurd (by simp [e, k]) h
      · exact .inr (.inr (.inr ⟨rfl, rfl, e, by omega, by simp [e, k]⟩))
    · exact .inr (.inr (.inl ⟨rfl, rfl, e, by simp [e]⟩))
theorem mgC_yes {F F2 : Int} {x y : Bool} {T T2 : Int} (h : mgC F F2 x y T T2 = 0) : x = true ∧ y = true ∧ F = F2 ∧ T + T2 ≤ 1000000 := by
  unfold mgC at h
  cases x <;> cases y <;> simp at h
  by_cases e : F = F2
  · rw [if_pos e] at h
    by_cases k : T + T2 ≤ 1000000
    · exact ⟨rfl, rfl, e, k⟩
    · rw [if_neg k] at h; omega
  · rw [if_neg e] at h; omega
theorem mg_assoc {F : Int} {s t u : St} (hs : Rt F s) (ht : Rt F t) (hu : Rt F u) : (s.mg t).mg u = s.mg (t.mg u) := by
  have a := hs.le.2.1
  have b := ht.le.2.1
  have c := hu.le.2.1
  have z1 : s.am = true → s.T ≠ 0 := fun e h => by have m := hs.mk'; unfold mkB at m; rw [e, h] at m; simp at m
  have z2 : t.am = true → t.T ≠ 0 := fun e h => by have m := ht.mk'; unfold mkB at m; rw [e, h] at m; simp at m
  have z3 : u.am = true → u.T ≠ 0 := fun e h => by have m := hu.mk'; unfold mkB at m; rw [e, h] at m; simp at m
  unfold St.mg
  have e1 : s.z + t.z + u.z = s.z + (t.z + u.z) := by omega
  have e2 : s.T + t.T + u.T = s.T + (t.T + u.T) := by omega
  have ea : amW (s.T + t.T) (amW s.T s.am t.T t.am) u.T u.am = amW s.T s.am (t.T + u.T) (amW t.T t.am u.T u.am) := by
    unfold amW
    have d1 : decide (s.T + t.T = 0) = (decide (s.T = 0) && decide (t.T = 0)) := by
      by_cases h1 : s.T = 0 <;> by_cases h2 : t.T = 0 <;> simp [h1, h2] <;> omega
    have d2 : decide (t.T + u.T = 0) = (decide (t.T = 0) && decide (u.T = 0)) := by
      by_cases h1 : t.T = 0 <;> by_cases h2 : u.T = 0 <;> simp [h1, h2] <;> omega
    rw [d1, d2]
    cases h1 : s.am <;> cases h2 : t.am <;> cases h3 : u.am <;> by_cases k1 : s.T = 0 <;> by_cases k2 : t.T = 0 <;> by_cases k3 : u.T = 0 <;> simp_all
  simp only [e1, e2, ea, Bool.or_assoc]
theorem mnI (F : Int) (ng : Bool) (T : Int) (nn bd pl mi am : Bool) (F2 : Int) (ng2 : Bool) (T2 : Int) (nn2 bd2 pl2 mi2 am2 : Bool) (p q : Option Addr) (c d : Nat) (zs ys : List Int) (w : World) (hT : Tab w) (hs : Sl .u32 w (.slice p zs.length c) zs) (hy : Sl .u32 w (.slice q ys.length d) ys) (hl : zs.length ≤ 1048576) (hl' : ys.length ≤ 1048576) (k : Int) (hk : k = mgC F F2 (accB F ng zs T nn bd pl mi am) (accB F2 ng2 ys T2 nn2 bd2 pl2 mi2 am2) T T2) (h0 : k ≠ 0) :
    Calls Tryz.prog 42 #[.agg #[.int .i64 F, .bool ng, .slice p zs.length c, .int .i64 T, .bool nn, .bool bd, .bool pl, .bool mi, .bool am], .agg #[.int .i64 F2, .bool ng2, .slice q ys.length d, .int .i64 T2, .bool nn2, .bool bd2, .bool pl2, .bool mi2, .bool am2]] w fun r w' => r = .returned (.tuple #[.agg #[.int .i64 0, .bool false, .slice none 0 0, .int .i64 0, .bool false, .bool false, .bool false, .bool false, .bool false], .int .i64 k]) ∧ Below w.heap.size w w' := merge_impl_no F ng T nn bd pl mi am F2 ng2 T2 nn2 bd2 pl2 mi2 am2 p q c d zs ys w hT hs hy hl hl' k (by rw [hk]; exact mgC_no (by rw [← hk]; exact h0))
theorem mnS (F : Int) (ng : Bool) (T : Int) (nn bd pl mi am : Bool) (F2 : Int) (ng2 : Bool) (T2 : Int) (nn2 bd2 pl2 mi2 am2 : Bool) (p q : Option Addr) (c d : Nat) (zs ys : List Int) (w : World) (hs : Sl .u32 w (.slice p zs.length c) zs) (hy : Sl .u32 w (.slice q ys.length d) ys) (hl : zs.length ≤ 1048576) (hl' : ys.length ≤ 1048576) (k : Int) (hk : k = mgC F F2 (accB F ng zs T nn bd pl mi am) (accB F2 ng2 ys T2 nn2 bd2 pl2 mi2 am2) T T2) (h0 : k ≠ 0) :
    Calls Tryz.prog 44 #[.agg #[.int .i64 F, .bool ng, .slice p zs.length c, .int .i64 T, .bool nn, .bool bd, .bool pl, .bool mi, .bool am], .agg #[.int .i64 F2, .bool ng2, .slice q ys.length d, .int .i64 T2, .bool nn2, .bool bd2, .bool pl2, .bool mi2, .bool am2]] w fun r w' => r = .returned (.tuple #[.agg #[.int .i64 0, .bool false, .slice none 0 0, .int .i64 0, .bool false, .bool false, .bool false, .bool false, .bool false], .int .i64 k]) ∧ Below w.heap.size w w' := merge_spec_no F ng T nn bd pl mi am F2 ng2 T2 nn2 bd2 pl2 mi2 am2 p q c d zs ys w hs hy hl hl' k (by rw [hk]; exact mgC_no (by rw [← hk]; exact h0))
theorem amlaw (ca da : Option Addr) (cc dc : Nat) (cs ds : List Int) (w : World) (hT : Tab w) (hs : Sl .u8 w (.slice ca cs.length cc) cs) (hby : ∀ i, 0 ≤ cs.getD i 0 ∧ cs.getD i 0 ≤ 255) (hl : cs.length ≤ 1048576) (ks : Sl .u8 w (.slice da ds.length dc) ds) (kby : ∀ i, 0 ≤ ds.getD i 0 ∧ ds.getD i 0 ≤ 255) (kl : ds.length ≤ 1048576) :
    Calls Tryz.prog 8 #[.slice ca cs.length cc, .slice da ds.length dc] w fun e w' => e = .returned (.bool true) ∧ Below w.heap.size w w' := by
  go_enter Tryz.func8, Tryz.ntmps8
  go_wp2_with fail
  refine (big_any ca cs.length cc _ (by omega) false (by simp; omega)).mono ?_
  rintro r w0 ⟨rfl, rfl⟩
  go_wp2_with fail
  refine (big_any da ds.length dc _ (by omega) false (by simp; omega)).mono ?_
  rintro r w0 ⟨rfl, rfl⟩
  go_wp2_with fail
  refine (drawAccMerge_x ca cc cs _ hs hby hl).mono ?_
  rintro r w1 ⟨F, ng, zs, T, nn, bd, pl, mi, am, a, c, F2, ng2, zs2, T2, nn2, bd2, pl2, mi2, am2, a2, c2, rfl, l1, d1, o1, l2, d2, o2, bel⟩
  replace hT := hT.below bel
  replace ks := ks.below bel
  have s1 := o1.sl
  have s2 := o2.sl
  clear o1 o2
  have Ba := (Q9.new w1 (.int .i64 F) (.bool ng) (.slice a zs.length c) (.int .i64 T) (.bool nn) (.bool bd) (.bool pl) (.bool mi) (.bool am) 50).alloc (.cells #[.int .i64 F2, .bool ng2, .slice a2 zs2.length c2, .int .i64 T2, .bool nn2, .bool bd2, .bool pl2, .bool mi2, .bool am2] 50)
  have Bb := Q9.nw2b w1 (.cells #[.int .i64 F, .bool ng, .slice a zs.length c, .int .i64 T, .bool nn, .bool bd, .bool pl, .bool mi, .bool am] 50) (.int .i64 F2) (.bool ng2) (.slice a2 zs2.length c2) (.int .i64 T2) (.bool nn2) (.bool bd2) (.bool pl2) (.bool mi2) (.bool am2) 50
  replace hT := hT.below (al_b _ (.cells #[.int .i64 F, .bool ng, .slice a zs.length c, .int .i64 T, .bool nn, .bool bd, .bool pl, .bool mi, .bool am] 50))
  replace ks := ks.below (al_b _ (.cells #[.int .i64 F, .bool ng, .slice a zs.length c, .int .i64 T, .bool nn, .bool bd, .bool pl, .bool mi, .bool am] 50))
  replace s1 := s1.below (al_b _ (.cells #[.int .i64 F, .bool ng, .slice a zs.length c, .int .i64 T, .bool nn, .bool bd, .bool pl, .bool mi, .bool am] 50))
  replace s2 := s2.below (al_b _ (.cells #[.int .i64 F, .bool ng, .slice a zs.length c, .int .i64 T, .bool nn, .bool bd, .bool pl, .bool mi, .bool am] 50))
  replace bel := bel_al bel (.cells #[.int .i64 F, .bool ng, .slice a zs.length c, .int .i64 T, .bool nn, .bool bd, .bool pl, .bool mi, .bool am] 50)
  replace hT := hT.below (al_b _ (.cells #[.int .i64 F2, .bool ng2, .slice a2 zs2.length c2, .int .i64 T2, .bool nn2, .bool bd2, .bool pl2, .bool mi2, .bool am2] 50))
  replace ks := ks.below (al_b _ (.cells #[.int .i64 F2, .bool ng2, .slice a2 zs2.length c2, .int .i64 T2, .bool nn2, .bool bd2, .bool pl2, .bool mi2, .bool am2] 50))
  replace s1 := s1.below (al_b _ (.cells #[.int .i64 F2, .bool ng2, .slice a2 zs2.length c2, .int .i64 T2, .bool nn2, .bool bd2, .bool pl2, .bool mi2, .bool am2] 50))
  replace s2 := s2.below (al_b _ (.cells #[.int .i64 F2, .bool ng2, .slice a2 zs2.length c2, .int .i64 T2, .bool nn2, .bool bd2, .bool pl2, .bool mi2, .bool am2] 50))
  replace bel := bel_al bel (.cells #[.int .i64 F2, .bool ng2, .slice a2 zs2.length c2, .int .i64 T2, .bool nn2, .bool bd2, .bool pl2, .bool mi2, .bool am2] 50)
  go_wp2_with fail
  refine (drawAccMerge_x da dc ds _ ks kby kl).mono ?_
  rintro r w2 ⟨F3, ng3, zs3, T3, nn3, bd3, pl3, mi3, am3, a3, c3, F4, ng4, zs4, T4, nn4, bd4, pl4, mi4, am4, a4, c4, rfl, l3, d3, o3, l4, d4, o4, hb⟩
  replace hT := hT.below hb
  replace s1 := s1.below hb
  replace s2 := s2.below hb
  replace Ba := Ba.below hb
  replace Bb := Bb.below hb
  replace bel := bel_go bel hb
  have s3 := o3.sl
  clear hs hby hl ks kby kl hb o3 o4 d4 l4
  obtain ⟨k, hk⟩ : ∃ k, k = mgC F F2 (accB F ng zs T nn bd pl mi am) (accB F2 ng2 zs2 T2 nn2 bd2 pl2 mi2 am2) T T2 := ⟨_, rfl⟩
  obtain ⟨j, hj⟩ : ∃ j, j = mgC F2 F3 (accB F2 ng2 zs2 T2 nn2 bd2 pl2 mi2 am2) (accB F3 ng3 zs3 T3 nn3 bd3 pl3 mi3 am3) T2 T3 := ⟨_, rfl⟩
  by_cases hk0 : k = 0
  rotate_left
  · by_cases hj0 : j = 0
    · have CI := hid (fun w' h h1 h2 => mnI F ng T nn bd pl mi am F2 ng2 T2 nn2 bd2 pl2 mi2 am2 a a2 c c2 zs zs2 w' h h1 h2 (by omega) (by omega) k hk hk0)
      have CS := hid (fun w' h1 h2 => mnS F ng T nn bd pl mi am F2 ng2 T2 nn2 bd2 pl2 mi2 am2 a a2 c c2 zs zs2 w' h1 h2 (by omega) (by omega) k hk hk0)
      have ne_k : (k != k) = false := by simp
      have eq_k : (k == k) = true := by simp
      have nz_k : (k != 0) = true := by simpa using hk0
      obtain ⟨q1, q2, rfl, q4⟩ := mgC_yes (hj.symm.trans hj0)
      obtain ⟨t, hQ, rfl, rfl, rfl, rfl, rfl, rfl, rfl, rfl⟩ := to_st d2 q1
      obtain ⟨v, hV, rfl, rfl, rfl, rfl, rfl, rfl, rfl, rfl⟩ := to_st d3 q2
      have CJ := hid (fun w' h k1 k2 => mgI F2 t v a2 a3 c2 c3 w' h hQ hV q4 k1 k2 _ rfl)
      clear hk hj hk0 hj0 hQ hV q1 q2 q4 d1 d2 d3 l1 l2 l3
      obtain ⟨y, h_y⟩ : ∃ q, q = t.mg v := ⟨_, rfl⟩
      rw [← h_y] at CJ
      clear h_y
      replace hT := hT.below (al_b _ (.cells #[.int .i64 F2, .bool (Nm.wn v.z), .slice a3 (Nm.wl v.z).length c3, .int .i64 v.T, .bool v.nn, .bool v.bd, .bool v.pl, .bool v.mi, .bool v.am] 50))
      replace s1 := s1.below (al_b _ (.cells #[.int .i64 F2, .bool (Nm.wn v.z), .slice a3 (Nm.wl v.z).length c3, .int .i64 v.T, .bool v.nn, .bool v.bd, .bool v.pl, .bool v.mi, .bool v.am] 50))
      replace s2 := s2.below (al_b _ (.cells #[.int .i64 F2, .bool (Nm.wn v.z), .slice a3 (Nm.wl v.z).length c3, .int .i64 v.T, .bool v.nn, .bool v.bd, .bool v.pl, .bool v.mi, .bool v.am] 50))
      replace s3 := s3.below (al_b _ (.cells #[.int .i64 F2, .bool (Nm.wn v.z), .slice a3 (Nm.wl v.z).length c3, .int .i64 v.T, .bool v.nn, .bool v.bd, .bool v.pl, .bool v.mi, .bool v.am] 50))
      replace Ba := Ba.below (al_b _ (.cells #[.int .i64 F2, .bool (Nm.wn v.z), .slice a3 (Nm.wl v.z).length c3, .int .i64 v.T, .bool v.nn, .bool v.bd, .bool v.pl, .bool v.mi, .bool v.am] 50))
      replace Bb := Bb.below (al_b _ (.cells #[.int .i64 F2, .bool (Nm.wn v.z), .slice a3 (Nm.wl v.z).length c3, .int .i64 v.T, .bool v.nn, .bool v.bd, .bool v.pl, .bool v.mi, .bool v.am] 50))
      replace bel := bel_al bel (.cells #[.int .i64 F2, .bool (Nm.wn v.z), .slice a3 (Nm.wl v.z).length c3, .int .i64 v.T, .bool v.nn, .bool v.bd, .bool v.pl, .bool v.mi, .bool v.am] 50)
      have Bc := Q9.new w2 (.int .i64 F2) (.bool (Nm.wn v.z)) (.slice a3 (Nm.wl v.z).length c3) (.int .i64 v.T) (.bool v.nn) (.bool v.bd) (.bool v.pl) (.bool v.mi) (.bool v.am) 50
      replace hT := hT.below (al_b _ (.cells #[.int .i64 F4, .bool ng4, .slice a4 zs4.length c4, .int .i64 T4, .bool nn4, .bool bd4, .bool pl4, .bool mi4, .bool am4] 50))
      replace s1 := s1.below (al_b _ (.cells #[.int .i64 F4, .bool ng4, .slice a4 zs4.length c4, .int .i64 T4, .bool nn4, .bool bd4, .bool pl4, .bool mi4, .bool am4] 50))
      replace s2 := s2.below (al_b _ (.cells #[.int .i64 F4, .bool ng4, .slice a4 zs4.length c4, .int .i64 T4, .bool nn4, .bool bd4, .bool pl4, .bool mi4, .bool am4] 50))
      replace s3 := s3.below (al_b _ (.cells #[.int .i64 F4, .bool ng4, .slice a4 zs4.length c4, .int .i64 T4, .bool nn4, .bool bd4, .bool pl4, .bool mi4, .bool am4] 50))
      replace Ba := Ba.below (al_b _ (.cells #[.int .i64 F4, .bool ng4, .slice a4 zs4.length c4, .int .i64 T4, .bool nn4, .bool bd4, .bool pl4, .bool mi4, .bool am4] 50))
      replace Bb := Bb.below (al_b _ (.cells #[.int .i64 F4, .bool ng4, .slice a4 zs4.length c4, .int .i64 T4, .bool nn4, .bool bd4, .bool pl4, .bool mi4, .bool am4] 50))
      replace Bc := Bc.below (al_b _ (.cells #[.int .i64 F4, .bool ng4, .slice a4 zs4.length c4, .int .i64 T4, .bool nn4, .bool bd4, .bool pl4, .bool mi4, .bool am4] 50))
      replace bel := bel_al bel (.cells #[.int .i64 F4, .bool ng4, .slice a4 zs4.length c4, .int .i64 T4, .bool nn4, .bool bd4, .bool pl4, .bool mi4, .bool am4] 50)
      have Be := Q9.new (w2.alloc (.cells #[.int .i64 F2, .bool (Nm.wn v.z), .slice a3 (Nm.wl v.z).length c3, .int .i64 v.T, .bool v.nn, .bool v.bd, .bool v.pl, .bool v.mi, .bool v.am] 50)) (.int .i64 F4) (.bool ng4) (.slice a4 zs4.length c4) (.int .i64 T4) (.bool nn4) (.bool bd4) (.bool pl4) (.bool mi4) (.bool am4) 50
      clear Be
      obtain ⟨ka0, ka1, ka2, ka3, ka4, ka5, ka6, ka7, ka8, -, -, -, -, -, -, -, -, -⟩ := id Ba
      obtain ⟨kb0, kb1, kb2, kb3, kb4, kb5, kb6, kb7, kb8, -, -, -, -, -, -, -, -, -⟩ := id Bb
      obtain ⟨kc0, kc1, kc2, kc3, kc4, kc5, kc6, kc7, kc8, -, -, -, -, -, -, -, -, -⟩ := id Bc
      go_wp2_with fail
      refine (CI.out _ hT s1 s2).mono ?_
      rintro r w3 ⟨rfl, hb⟩
      clear ka0 ka1 ka2 ka3 ka4 ka5 ka6 ka7 ka8 kb0 kb1 kb2 kb3 kb4 kb5 kb6 kb7 kb8 kc0 kc1 kc2 kc3 kc4 kc5 kc6 kc7 kc8
      replace bel := bel_go bel hb
      replace hT := hT.below hb
      replace s1 := s1.below hb
      replace s2 := s2.below hb
      replace s3 := s3.below hb
      replace Ba := Ba.below hb
      replace Bb := Bb.below hb
      replace Bc := Bc.below hb
      clear hb
      replace hT := hT.below (al_b _ (.cells #[.int .i64 0, .bool false, .slice none 0 0, .int .i64 0, .bool false, .bool false, .bool false, .bool false, .bool false] 50))
      replace s1 := s1.below (al_b _ (.cells #[.int .i64 0, .bool false, .slice none 0 0, .int .i64 0, .bool false, .bool false, .bool false, .bool false, .bool false] 50))
      replace s2 := s2.below (al_b _ (.cells #[.int .i64 0, .bool false, .slice none 0 0, .int .i64 0, .bool false, .bool false, .bool false, .bool false, .bool false] 50))
      replace s3 := s3.below (al_b _ (.cells #[.int .i64 0, .bool false, .slice none 0 0, .int .i64 0, .bool false, .bool false, .bool false, .bool false, .bool false] 50))
      replace Ba := Ba.below (al_b _ (.cells #[.int .i64 0, .bool false, .slice none 0 0, .int .i64 0, .bool false, .bool false, .bool false, .bool false, .bool false] 50))
      replace Bb := Bb.below (al_b _ (.cells #[.int .i64 0, .bool false, .slice none 0 0, .int .i64 0, .bool false, .bool false, .bool false, .bool false, .bool false] 50))
      replace Bc := Bc.below (al_b _ (.cells #[.int .i64 0, .bool false, .slice none 0 0, .int .i64 0, .bool false, .bool false, .bool false, .bool false, .bool false] 50))
      replace bel := bel_al bel (.cells #[.int .i64 0, .bool false, .slice none 0 0, .int .i64 0, .bool false, .bool false, .bool false, .bool false, .bool false] 50)
      have Bx := Q9.new w3 (.int .i64 0) (.bool false) (.slice none 0 0) (.int .i64 0) (.bool false) (.bool false) (.bool false) (.bool false) (.bool false) 50
      obtain ⟨ka0, ka1, ka2, ka3, ka4, ka5, ka6, ka7, ka8, -, -, -, -, -, -, -, -, -⟩ := id Ba
      obtain ⟨kb0, kb1, kb2, kb3, kb4, kb5, kb6, kb7, kb8, -, -, -, -, -, -, -, -, -⟩ := id Bb
      obtain ⟨kc0, kc1, kc2, kc3, kc4, kc5, kc6, kc7, kc8, -, -, -, -, -, -, -, -, -⟩ := id Bc
      obtain ⟨kx0, kx1, kx2, kx3, kx4, kx5, kx6, kx7, kx8, -, -, -, -, -, -, -, -, -⟩ := id Bx
      go_wp2_with fail
      refine (CS.out _ s1 s2).mono ?_
      rintro r w4 ⟨rfl, hb⟩
      clear ka0 ka1 ka2 ka3 ka4 ka5 ka6 ka7 ka8 kb0 kb1 kb2 kb3 kb4 kb5 kb6 kb7 kb8 kc0 kc1 kc2 kc3 kc4 kc5 kc6 kc7 kc8 kx0 kx1 kx2 kx3 kx4 kx5 kx6 kx7 kx8
      replace bel := bel_go bel hb
      replace hT := hT.below hb
      replace s1 := s1.below hb
      replace s2 := s2.below hb
      replace s3 := s3.below hb
      replace Ba := Ba.below hb
      replace Bb := Bb.below hb
      replace Bc := Bc.below hb
      replace Bx := Bx.below hb
      clear hb
      replace hT := hT.below (al_b _ (.cells #[.int .i64 0, .bool false, .slice none 0 0, .int .i64 0, .bool false, .bool false, .bool false, .bool false, .bool false] 50))
      replace s1 := s1.below (al_b _ (.cells #[.int .i64 0, .bool false, .slice none 0 0, .int .i64 0, .bool false, .bool false, .bool false, .bool false, .bool false] 50))
      replace s2 := s2.below (al_b _ (.cells #[.int .i64 0, .bool false, .slice none 0 0, .int .i64 0, .bool false, .bool false, .bool false, .bool false, .bool false] 50))
      replace s3 := s3.below (al_b _ (.cells #[.int .i64 0, .bool false, .slice none 0 0, .int .i64 0, .bool false, .bool false, .bool false, .bool false, .bool false] 50))
      replace Ba := Ba.below (al_b _ (.cells #[.int .i64 0, .bool false, .slice none 0 0, .int .i64 0, .bool false, .bool false, .bool false, .bool false, .bool false] 50))
      replace Bb := Bb.below (al_b _ (.cells #[.int .i64 0, .bool false, .slice none 0 0, .int .i64 0, .bool false, .bool false, .bool false, .bool false, .bool false] 50))
      replace Bc := Bc.below (al_b _ (.cells #[.int .i64 0, .bool false, .slice none 0 0, .int .i64 0, .bool false, .bool false, .bool false, .bool false, .bool false] 50))
      replace Bx := Bx.below (al_b _ (.cells #[.int .i64 0, .bool false, .slice none 0 0, .int .i64 0, .bool false, .bool false, .bool false, .bool false, .bool false] 50))
      replace bel := bel_al bel (.cells #[.int .i64 0, .bool false, .slice none 0 0, .int .i64 0, .bool false, .bool false, .bool false, .bool false, .bool false] 50)
      have Bw := Q9.new w4 (.int .i64 0) (.bool false) (.slice none 0 0) (.int .i64 0) (.bool false) (.bool false) (.bool false) (.bool false) (.bool false) 50
      obtain ⟨ka0, ka1, ka2, ka3, ka4, ka5, ka6, ka7, ka8, -, -, -, -, -, -, -, -, -⟩ := id Ba
      obtain ⟨kb0, kb1, kb2, kb3, kb4, kb5, kb6, kb7, kb8, -, -, -, -, -, -, -, -, -⟩ := id Bb
      obtain ⟨kc0, kc1, kc2, kc3, kc4, kc5, kc6, kc7, kc8, -, -, -, -, -, -, -, -, -⟩ := id Bc
      obtain ⟨kx0, kx1, kx2, kx3, kx4, kx5, kx6, kx7, kx8, -, -, -, -, -, -, -, -, -⟩ := id Bx
      obtain ⟨kw0, kw1, kw2, kw3, kw4, kw5, kw6, kw7, kw8, -, -, -, -, -, -, -, -, -⟩ := id Bw
      go_wp2_with fail
      refine (CJ.out _ hT s2 s3).mono ?_
      rintro r w5 ⟨ay, cy, rfl, oy, hb⟩
      clear ka0 ka1 ka2 ka3 ka4 ka5 ka6 ka7 ka8 kb0 kb1 kb2 kb3 kb4 kb5 kb6 kb7 kb8 kc0 kc1 kc2 kc3 kc4 kc5 kc6 kc7 kc8 kx0 kx1 kx2 kx3 kx4 kx5 kx6 kx7 kx8 kw0 kw1 kw2 kw3 kw4 kw5 kw6 kw7 kw8
      replace bel := bel_go bel hb
      replace hT := hT.below hb
      replace s1 := s1.below hb
      replace s2 := s2.below hb
      replace s3 := s3.below hb
      replace Ba := Ba.below hb
      replace Bb := Bb.below hb
      replace Bc := Bc.below hb
      replace Bx := Bx.below hb
      replace Bw := Bw.below hb
      clear hb
      have sy := oy.sl
      clear oy
      replace hT := hT.below (al_b _ (.cells #[.int .i64 F2, .bool (Nm.wn y.z), .slice ay (Nm.wl y.z).length cy, .int .i64 y.T, .bool y.nn, .bool y.bd, .bool y.pl, .bool y.mi, .bool y.am] 50))
      replace s1 := s1.below (al_b _ (.cells #[.int .i64 F2, .bool (Nm.wn y.z), .slice ay (Nm.wl y.z).length cy, .int .i64 y.T, .bool y.nn, .bool y.bd, .bool y.pl, .bool y.mi, .bool y.am] 50))
      replace s2 := s2.below (al_b _ (.cells #[.int .i64 F2, .bool (Nm.wn y.z), .slice ay (Nm.wl y.z).length cy, .int .i64 y.T, .bool y.nn, .bool y.bd, .bool y.pl, .bool y.mi, .bool y.am] 50))
      replace s3 := s3.below (al_b _ (.cells #[.int .i64 F2, .bool (Nm.wn y.z), .slice ay (Nm.wl y.z).length cy, .int .i64 y.T, .bool y.nn, .bool y.bd, .bool y.pl, .bool y.mi, .bool y.am] 50))
      replace Ba := Ba.below (al_b _ (.cells #[.int .i64 F2, .bool (Nm.wn y.z), .slice ay (Nm.wl y.z).length cy, .int .i64 y.T, .bool y.nn, .bool y.bd, .bool y.pl, .bool y.mi, .bool y.am] 50))
      replace Bb := Bb.below (al_b _ (.cells #[.int .i64 F2, .bool (Nm.wn y.z), .slice ay (Nm.wl y.z).length cy, .int .i64 y.T, .bool y.nn, .bool y.bd, .bool y.pl, .bool y.mi, .bool y.am] 50))
      replace Bc := Bc.below (al_b _ (.cells #[.int .i64 F2, .bool (Nm.wn y.z), .slice ay (Nm.wl y.z).length cy, .int .i64 y.T, .bool y.nn, .bool y.bd, .bool y.pl, .bool y.mi, .bool y.am] 50))
      replace Bx := Bx.below (al_b _ (.cells #[.int .i64 F2, .bool (Nm.wn y.z), .slice ay (Nm.wl y.z).length cy, .int .i64 y.T, .bool y.nn, .bool y.bd, .bool y.pl, .bool y.mi, .bool y.am] 50))
      replace Bw := Bw.below (al_b _ (.cells #[.int .i64 F2, .bool (Nm.wn y.z), .slice ay (Nm.wl y.z).length cy, .int .i64 y.T, .bool y.nn, .bool y.bd, .bool y.pl, .bool y.mi, .bool y.am] 50))
      replace sy := sy.below (al_b _ (.cells #[.int .i64 F2, .bool (Nm.wn y.z), .slice ay (Nm.wl y.z).length cy, .int .i64 y.T, .bool y.nn, .bool y.bd, .bool y.pl, .bool y.mi, .bool y.am] 50))
      replace bel := bel_al bel (.cells #[.int .i64 F2, .bool (Nm.wn y.z), .slice ay (Nm.wl y.z).length cy, .int .i64 y.T, .bool y.nn, .bool y.bd, .bool y.pl, .bool y.mi, .bool y.am] 50)
      have By := Q9.new w5 (.int .i64 F2) (.bool (Nm.wn y.z)) (.slice ay (Nm.wl y.z).length cy) (.int .i64 y.T) (.bool y.nn) (.bool y.bd) (.bool y.pl) (.bool y.mi) (.bool y.am) 50
      obtain ⟨ka0, ka1, ka2, ka3, ka4, ka5, ka6, ka7, ka8, -, -, -, -, -, -, -, -, -⟩ := id Ba
      obtain ⟨kb0, kb1, kb2, kb3, kb4, kb5, kb6, kb7, kb8, -, -, -, -, -, -, -, -, -⟩ := id Bb
      obtain ⟨kc0, kc1, kc2, kc3, kc4, kc5, kc6, kc7, kc8, -, -, -, -, -, -, -, -, -⟩ := id Bc
      obtain ⟨kx0, kx1, kx2, kx3, kx4, kx5, kx6, kx7, kx8, -, -, -, -, -, -, -, -, -⟩ := id Bx
      obtain ⟨kw0, kw1, kw2, kw3, kw4, kw5, kw6, kw7, kw8, -, -, -, -, -, -, -, -, -⟩ := id Bw
      obtain ⟨ky0, ky1, ky2, ky3, ky4, ky5, ky6, ky7, ky8, -, -, -, -, -, -, -, -, -⟩ := id By
      go_wp2_with fail
      refine (sameZ _).mono ?_
      rintro r w6 ⟨rfl, hb⟩
      clear ka0 ka1 ka2 ka3 ka4 ka5 ka6 ka7 ka8 kb0 kb1 kb2 kb3 kb4 kb5 kb6 kb7 kb8 kc0 kc1 kc2 kc3 kc4 kc5 kc6 kc7 kc8 kx0 kx1 kx2 kx3 kx4 kx5 kx6 kx7 kx8 kw0 kw1 kw2 kw3 kw4 kw5 kw6 kw7 kw8 ky0 ky1 ky2 ky3 ky4 ky5 ky6 ky7 ky8
      replace bel := bel_go bel hb
      replace hT := hT.below hb
      replace s1 := s1.below hb
      replace s2 := s2.below hb
      replace s3 := s3.below hb
      replace Ba := Ba.below hb
      replace Bb := Bb.below hb
      replace Bc := Bc.below hb
      replace Bx := Bx.below hb
      replace Bw := Bw.below hb
      replace sy := sy.below hb
      replace By := By.below hb
      clear hb
      obtain ⟨ka0, ka1, ka2, ka3, ka4, ka5, ka6, ka7, ka8, -, -, -, -, -, -, -, -, -⟩ := id Ba
      obtain ⟨kb0, kb1, kb2, kb3, kb4, kb5, kb6, kb7, kb8, -, -, -, -, -, -, -, -, -⟩ := id Bb
      obtain ⟨kc0, kc1, kc2, kc3, kc4, kc5, kc6, kc7, kc8, -, -, -, -, -, -, -, -, -⟩ := id Bc
      obtain ⟨kx0, kx1, kx2, kx3, kx4, kx5, kx6, kx7, kx8, -, -, -, -, -, -, -, -, -⟩ := id Bx
      obtain ⟨kw0, kw1, kw2, kw3, kw4, kw5, kw6, kw7, kw8, -, -, -, -, -, -, -, -, -⟩ := id Bw
      obtain ⟨ky0, ky1, ky2, ky3, ky4, ky5, ky6, ky7, ky8, -, -, -, -, -, -, -, -, -⟩ := id By
      go_wp2_with fail
      refine (sameZ _).mono ?_
      rintro r w7 ⟨rfl, hb⟩
      clear ka0 ka1 ka2 ka3 ka4 ka5 ka6 ka7 ka8 kb0 kb1 kb2 kb3 kb4 kb5 kb6 kb7 kb8 kc0 kc1 kc2 kc3 kc4 kc5 kc6 kc7 kc8 kx0 kx1 kx2 kx3 kx4 kx5 kx6 kx7 kx8 kw0 kw1 kw2 kw3 kw4 kw5 kw6 kw7 kw8 ky0 ky1 ky2 ky3 ky4 ky5 ky6 ky7 ky8
      replace bel := bel_go bel hb
      replace hT := hT.below hb
      replace s1 := s1.below hb
      replace s2 := s2.below hb
      replace s3 := s3.below hb
      replace Ba := Ba.below hb
      replace Bb := Bb.below hb
      replace Bc := Bc.below hb
      replace Bx := Bx.below hb
      replace Bw := Bw.below hb
      replace sy := sy.below hb
      replace By := By.below hb
      clear hb
      obtain ⟨ka0, ka1, ka2, ka3, ka4, ka5, ka6, ka7, ka8, -, -, -, -, -, -, -, -, -⟩ := id Ba
      obtain ⟨kb0, kb1, kb2, kb3, kb4, kb5, kb6, kb7, kb8, -, -, -, -, -, -, -, -, -⟩ := id Bb
      obtain ⟨kc0, kc1, kc2, kc3, kc4, kc5, kc6, kc7, kc8, -, -, -, -, -, -, -, -, -⟩ := id Bc
      obtain ⟨kx0, kx1, kx2, kx3, kx4, kx5, kx6, kx7, kx8, -, -, -, -, -, -, -, -, -⟩ := id Bx
      obtain ⟨kw0, kw1, kw2, kw3, kw4, kw5, kw6, kw7, kw8, -, -, -, -, -, -, -, -, -⟩ := id Bw
      obtain ⟨ky0, ky1, ky2, ky3, ky4, ky5, ky6, ky7, ky8, -, -, -, -, -, -, -, -, -⟩ := id By
      go_wp2
      all_goals go_ret
      all_goals exact ⟨rfl, bel⟩
    · have CI := hid (fun w' h h1 h2 => mnI F ng T nn bd pl mi am F2 ng2 T2 nn2 bd2 pl2 mi2 am2 a a2 c c2 zs zs2 w' h h1 h2 (by omega) (by omega) k hk hk0)
      have CS := hid (fun w' h1 h2 => mnS F ng T nn bd pl mi am F2 ng2 T2 nn2 bd2 pl2 mi2 am2 a a2 c c2 zs zs2 w' h1 h2 (by omega) (by omega) k hk hk0)
      have ne_k : (k != k) = false := by simp
      have eq_k : (k == k) = true := by simp
      have nz_k : (k != 0) = true := by simpa using hk0
      have CJ := hid (fun w' h h1 h2 => mnI F2 ng2 T2 nn2 bd2 pl2 mi2 am2 F3 ng3 T3 nn3 bd3 pl3 mi3 am3 a2 a3 c2 c3 zs2 zs3 w' h h1 h2 (by omega) (by omega) j hj hj0)
      clear hk hj hk0 hj0 d1 d2 d3 l1 l2 l3
      replace hT := hT.below (al_b _ (.cells #[.int .i64 F3, .bool ng3, .slice a3 zs3.length c3, .int .i64 T3, .bool nn3, .bool bd3, .bool pl3, .bool mi3, .bool am3] 50))
      replace s1 := s1.below (al_b _ (.cells #[.int .i64 F3, .bool ng3, .slice a3 zs3.length c3, .int .i64 T3, .bool nn3, .bool bd3, .bool pl3, .bool mi3, .bool am3] 50))
      replace s2 := s2.below (al_b _ (.cells #[.int .i64 F3, .bool ng3, .slice a3 zs3.length c3, .int .i64 T3, .bool nn3, .bool bd3, .bool pl3, .bool mi3, .bool am3] 50))
      replace s3 := s3.below (al_b _ (.cells #[.int .i64 F3, .bool ng3, .slice a3 zs3.length c3, .int .i64 T3, .bool nn3, .bool bd3, .bool pl3, .bool mi3, .bool am3] 50))
      replace Ba := Ba.below (al_b _ (.cells #[.int .i64 F3, .bool ng3, .slice a3 zs3.length c3, .int .i64 T3, .bool nn3, .bool bd3, .bool pl3, .bool mi3, .bool am3] 50))
      replace Bb := Bb.below (al_b _ (.cells #[.int .i64 F3, .bool ng3, .slice a3 zs3.length c3, .int .i64 T3, .bool nn3, .bool bd3, .bool pl3, .bool mi3, .bool am3] 50))
      replace bel := bel_al bel (.cells #[.int .i64 F3, .bool ng3, .slice a3 zs3.length c3, .int .i64 T3, .bool nn3, .bool bd3, .bool pl3, .bool mi3, .bool am3] 50)
      have Bc := Q9.new w2 (.int .i64 F3) (.bool ng3) (.slice a3 zs3.length c3) (.int .i64 T3) (.bool nn3) (.bool bd3) (.bool pl3) (.bool mi3) (.bool am3) 50
      replace hT := hT.below (al_b _ (.cells #[.int .i64 F4, .bool ng4, .slice a4 zs4.length c4, .int .i64 T4, .bool nn4, .bool bd4, .bool pl4, .bool mi4, .bool am4] 50))
      replace s1 := s1.below (al_b _ (.cells #[.int .i64 F4, .bool ng4, .slice a4 zs4.length c4, .int .i64 T4, .bool nn4, .bool bd4, .bool pl4, .bool mi4, .bool am4] 50))
      replace s2 := s2.below (al_b _ (.cells #[.int .i64 F4, .bool ng4, .slice a4 zs4.length c4, .int .i64 T4, .bool nn4, .bool bd4, .bool pl4, .bool mi4, .bool am4] 50))
      replace s3 := s3.below (al_b _ (.cells #[.int .i64 F4, .bool ng4, .slice a4 zs4.length c4, .int .i64 T4, .bool nn4, .bool bd4, .bool pl4, .bool mi4, .bool am4] 50))
      replace Ba := Ba.below (al_b _ (.cells #[.int .i64 F4, .bool ng4, .slice a4 zs4.length c4, .int .i64 T4, .bool nn4, .bool bd4, .bool pl4, .bool mi4, .bool am4] 50))
      replace Bb := Bb.below (al_b _ (.cells #[.int .i64 F4, .bool ng4, .slice a4 zs4.length c4, .int .i64 T4, .bool nn4, .bool bd4, .bool pl4, .bool mi4, .bool am4] 50))
      replace Bc := Bc.below (al_b _ (.cells #[.int .i64 F4, .bool ng4, .slice a4 zs4.length c4, .int .i64 T4, .bool nn4, .bool bd4, .bool pl4, .bool mi4, .bool am4] 50))
      replace bel := bel_al bel (.cells #[.int .i64 F4, .bool ng4, .slice a4 zs4.length c4, .int .i64 T4, .bool nn4, .bool bd4, .bool pl4, .bool mi4, .bool am4] 50)
      have Be := Q9.new (w2.alloc (.cells #[.int .i64 F3, .bool ng3, .slice a3 zs3.length c3, .int .i64 T3, .bool nn3, .bool bd3, .bool pl3, .bool mi3, .bool am3] 50)) (.int .i64 F4) (.bool ng4) (.slice a4 zs4.length c4) (.int .i64 T4) (.bool nn4) (.bool bd4) (.bool pl4) (.bool mi4) (.bool am4) 50
      clear Be
      obtain ⟨ka0, ka1, ka2, ka3, ka4, ka5, ka6, ka7, ka8, -, -, -, -, -, -, -, -, -⟩ := id Ba
      obtain ⟨kb0, kb1, kb2, kb3, kb4, kb5, kb6, kb7, kb8, -, -, -, -, -, -, -, -, -⟩ := id Bb
      obtain ⟨kc0, kc1, kc2, kc3, kc4, kc5, kc6, kc7, kc8, -, -, -, -, -, -, -, -, -⟩ := id Bc
      go_wp2_with fail
      refine (CI.out _ hT s1 s2).mono ?_
      rintro r w3 ⟨rfl, hb⟩
      clear ka0 ka1 ka2 ka3 ka4 ka5 ka6 ka7 ka8 kb0 kb1 kb2 kb3 kb4 kb5 kb6 kb7 kb8 kc0 kc1 kc2 kc3 kc4 kc5 kc6 kc7 kc8
      replace bel := bel_go bel hb
      replace hT := hT.below hb
      replace s1 := s1.below hb
      replace s2 := s2.below hb
      replace s3 := s3.below hb
      replace Ba := Ba.below hb
      replace Bb := Bb.below hb
      replace Bc := Bc.below hb
      clear hb
      replace hT := hT.below (al_b _ (.cells #[.int .i64 0, .bool false, .slice none 0 0, .int .i64 0, .bool false, .bool false, .bool false, .bool false, .bool false] 50))
      replace s1 := s1.below (al_b _ (.cells #[.int .i64 0, .bool false, .slice none 0 0, .int .i64 0, .bool false, .bool false, .bool false, .bool false, .bool false] 50))
      replace s2 := s2.below (al_b _ (.cells #[.int .i64 0, .bool false, .slice none 0 0, .int .i64 0, .bool false, .bool false, .bool false, .bool false, .bool false] 50))
      replace s3 := s3.below (al_b _ (.cells #[.int .i64 0, .bool false, .slice none 0 0, .int .i64 0, .bool false, .bool false, .bool false, .bool false, .bool false] 50))
      replace Ba := Ba.below (al_b _ (.cells #[.int .i64 0, .bool false, .slice none 0 0, .int .i64 0, .bool false, .bool false, .bool false, .bool false, .bool false] 50))
      replace Bb := Bb.below (al_b _ (.cells #[.int .i64 0, .bool false, .slice none 0 0, .int .i64 0, .bool false, .bool false, .bool false, .bool false, .bool false] 50))
      replace Bc := Bc.below (al_b _ (.cells #[.int .i64 0, .bool false, .slice none 0 0, .int .i64 0, .bool false, .bool false, .bool false, .bool false, .bool false] 50))
      replace bel := bel_al bel (.cells #[.int .i64 0, .bool false, .slice none 0 0, .int .i64 0, .bool false, .bool false, .bool false, .bool false, .bool false] 50)
      have Bx := Q9.new w3 (.int .i64 0) (.bool false) (.slice none 0 0) (.int .i64 0) (.bool false) (.bool false) (.bool false) (.bool false) (.bool false) 50
      obtain ⟨ka0, ka1, ka2, ka3, ka4, ka5, ka6, ka7, ka8, -, -, -, -, -, -, -, -, -⟩ := id Ba
      obtain ⟨kb0, kb1, kb2, kb3, kb4, kb5, kb6, kb7, kb8, -, -, -, -, -, -, -, -, -⟩ := id Bb
      obtain ⟨kc0, kc1, kc2, kc3, kc4, kc5, kc6, kc7, kc8, -, -, -, -, -, -, -, -, -⟩ := id Bc
      obtain ⟨kx0, kx1, kx2, kx3, kx4, kx5, kx6, kx7, kx8, -, -, -, -, -, -, -, -, -⟩ := id Bx
      go_wp2_with fail
      refine (CS.out _ s1 s2).mono ?_
      rintro r w4 ⟨rfl, hb⟩
      clear ka0 ka1 ka2 ka3 ka4 ka5 ka6 ka7 ka8 kb0 kb1 kb2 kb3 kb4 kb5 kb6 kb7 kb8 kc0 kc1 kc2 kc3 kc4 kc5 kc6 kc7 kc8 kx0 kx1 kx2 kx3 kx4 kx5 kx6 kx7 kx8
      replace bel := bel_go bel hb
      replace hT := hT.below hb
      replace s1 := s1.below hb
      replace s2 := s2.below hb
      replace s3 := s3.below hb
      replace Ba := Ba.below hb
      replace Bb := Bb.below hb
      replace Bc := Bc.below hb
      replace Bx := Bx.below hb
      clear hb
      replace hT := hT.below (al_b _ (.cells #[.int .i64 0, .bool false, .slice none 0 0, .int .i64 0, .bool false, .bool false, .bool false, .bool false, .bool false] 50))
      replace s1 := s1.below (al_b _ (.cells #[.int .i64 0, .bool false, .slice none 0 0, .int .i64 0, .bool false, .bool false, .bool false, .bool false, .bool false] 50))
      replace s2 := s2.below (al_b _ (.cells #[.int .i64 0, .bool false, .slice none 0 0, .int .i64 0, .bool false, .bool false, .bool false, .bool false, .bool false] 50))
      replace s3 := s3.below (al_b _ (.cells #[.int .i64 0, .bool false, .slice none 0 0, .int .i64 0, .bool false, .bool false, .bool false, .bool false, .bool false] 50))
      replace Ba := Ba.below (al_b _ (.cells #[.int .i64 0, .bool false, .slice none 0 0, .int .i64 0, .bool false, .bool false, .bool false, .bool false, .bool false] 50))
      replace Bb := Bb.below (al_b _ (.cells #[.int .i64 0, .bool false, .slice none 0 0, .int .i64 0, .bool false, .bool false, .bool false, .bool false, .bool false] 50))
      replace Bc := Bc.below (al_b _ (.cells #[.int .i64 0, .bool false, .slice none 0 0, .int .i64 0, .bool false, .bool false, .bool false, .bool false, .bool false] 50))
      replace Bx := Bx.below (al_b _ (.cells #[.int .i64 0, .bool false, .slice none 0 0, .int .i64 0, .bool false, .bool false, .bool false, .bool false, .bool false] 50))
      replace bel := bel_al bel (.cells #[.int .i64 0, .bool false, .slice none 0 0, .int .i64 0, .bool false, .bool false, .bool false, .bool false, .bool false] 50)
      have Bw := Q9.new w4 (.int .i64 0) (.bool false) (.slice none 0 0) (.int .i64 0) (.bool false) (.bool false) (.bool false) (.bool false) (.bool false) 50
      obtain ⟨ka0, ka1, ka2, ka3, ka4, ka5, ka6, ka7, ka8, -, -, -, -, -, -, -, -, -⟩ := id Ba
      obtain ⟨kb0, kb1, kb2, kb3, kb4, kb5, kb6, kb7, kb8, -, -, -, -, -, -, -, -, -⟩ := id Bb
      obtain ⟨kc0, kc1, kc2, kc3, kc4, kc5, kc6, kc7, kc8, -, -, -, -, -, -, -, -, -⟩ := id Bc
      obtain ⟨kx0, kx1, kx2, kx3, kx4, kx5, kx6, kx7, kx8, -, -, -, -, -, -, -, -, -⟩ := id Bx
      obtain ⟨kw0, kw1, kw2, kw3, kw4, kw5, kw6, kw7, kw8, -, -, -, -, -, -, -, -, -⟩ := id Bw
      go_wp2_with fail
      refine (CJ.out _ hT s2 s3).mono ?_
      rintro r w5 ⟨rfl, hb⟩
      clear ka0 ka1 ka2 ka3 ka4 ka5 ka6 ka7 ka8 kb0 kb1 kb2 kb3 kb4 kb5 kb6 kb7 kb8 kc0 kc1 kc2 kc3 kc4 kc5 kc6 kc7 kc8 kx0 kx1 kx2 kx3 kx4 kx5 kx6 kx7 kx8 kw0 kw1 kw2 kw3 kw4 kw5 kw6 kw7 kw8
      replace bel := bel_go bel hb
      replace hT := hT.below hb
      replace s1 := s1.below hb
      replace s2 := s2.below hb
      replace s3 := s3.below hb
      replace Ba := Ba.below hb
      replace Bb := Bb.below hb
      replace Bc := Bc.below hb
      replace Bx := Bx.below hb
      replace Bw := Bw.below hb
      clear hb
      replace hT := hT.below (al_b _ (.cells #[.int .i64 0, .bool false, .slice none 0 0, .int .i64 0, .bool false, .bool false, .bool false, .bool false, .bool false] 50))
      replace s1 := s1.below (al_b _ (.cells #[.int .i64 0, .bool false, .slice none 0 0, .int .i64 0, .bool false, .bool false, .bool false, .bool false, .bool false] 50))
      replace s2 := s2.below (al_b _ (.cells #[.int .i64 0, .bool false, .slice none 0 0, .int .i64 0, .bool false, .bool false, .bool false, .bool false, .bool false] 50))
      replace s3 := s3.below (al_b _ (.cells #[.int .i64 0, .bool false, .slice none 0 0, .int .i64 0, .bool false, .bool false, .bool false, .bool false, .bool false] 50))
      replace Ba := Ba.below (al_b _ (.cells #[.int .i64 0, .bool false, .slice none 0 0, .int .i64 0, .bool false, .bool false, .bool false, .bool false, .bool false] 50))
      replace Bb := Bb.below (al_b _ (.cells #[.int .i64 0, .bool false, .slice none 0 0, .int .i64 0, .bool false, .bool false, .bool false, .bool false, .bool false] 50))
      replace Bc := Bc.below (al_b _ (.cells #[.int .i64 0, .bool false, .slice none 0 0, .int .i64 0, .bool false, .bool false, .bool false, .bool false, .bool false] 50))
      replace Bx := Bx.below (al_b _ (.cells #[.int .i64 0, .bool false, .slice none 0 0, .int .i64 0, .bool false, .bool false, .bool false, .bool false, .bool false] 50))
      replace Bw := Bw.below (al_b _ (.cells #[.int .i64 0, .bool false, .slice none 0 0, .int .i64 0, .bool false, .bool false, .bool false, .bool false, .bool false] 50))
      replace bel := bel_al bel (.cells #[.int .i64 0, .bool false, .slice none 0 0, .int .i64 0, .bool false, .bool false, .bool false, .bool false, .bool false] 50)
      have By := Q9.new w5 (.int .i64 0) (.bool false) (.slice none 0 0) (.int .i64 0) (.bool false) (.bool false) (.bool false) (.bool false) (.bool false) 50
      obtain ⟨ka0, ka1, ka2, ka3, ka4, ka5, ka6, ka7, ka8, -, -, -, -, -, -, -, -, -⟩ := id Ba
      obtain ⟨kb0, kb1, kb2, kb3, kb4, kb5, kb6, kb7, kb8, -, -, -, -, -, -, -, -, -⟩ := id Bb
      obtain ⟨kc0, kc1, kc2, kc3, kc4, kc5, kc6, kc7, kc8, -, -, -, -, -, -, -, -, -⟩ := id Bc
      obtain ⟨kx0, kx1, kx2, kx3, kx4, kx5, kx6, kx7, kx8, -, -, -, -, -, -, -, -, -⟩ := id Bx
      obtain ⟨kw0, kw1, kw2, kw3, kw4, kw5, kw6, kw7, kw8, -, -, -, -, -, -, -, -, -⟩ := id Bw
      obtain ⟨ky0, ky1, ky2, ky3, ky4, ky5, ky6, ky7, ky8, -, -, -, -, -, -, -, -, -⟩ := id By
      go_wp2_with fail
      refine (sameZ _).mono ?_
      rintro r w6 ⟨rfl, hb⟩
      clear ka0 ka1 ka2 ka3 ka4 ka5 ka6 ka7 ka8 kb0 kb1 kb2 kb3 kb4 kb5 kb6 kb7 kb8 kc0 kc1 kc2 kc3 kc4 kc5 kc6 kc7 kc8 kx0 kx1 kx2 kx3 kx4 kx5 kx6 kx7 kx8 kw0 kw1 kw2 kw3 kw4 kw5 kw6 kw7 kw8 ky0 ky1 ky2 ky3 ky4 ky5 ky6 ky7 ky8
      replace bel := bel_go bel hb
      replace hT := hT.below hb
      replace s1 := s1.below hb
      replace s2 := s2.below hb
      replace s3 := s3.below hb
      replace Ba := Ba.below hb
      replace Bb := Bb.below hb
      replace Bc := Bc.below hb
      replace Bx := Bx.below hb
      replace Bw := Bw.below hb
      replace By := By.below hb
      clear hb
      obtain ⟨ka0, ka1, ka2, ka3, ka4, ka5, ka6, ka7, ka8, -, -, -, -, -, -, -, -, -⟩ := id Ba
      obtain ⟨kb0, kb1, kb2, kb3, kb4, kb5, kb6, kb7, kb8, -, -, -, -, -, -, -, -, -⟩ := id Bb
      obtain ⟨kc0, kc1, kc2, kc3, kc4, kc5, kc6, kc7, kc8, -, -, -, -, -, -, -, -, -⟩ := id Bc
      obtain ⟨kx0, kx1, kx2, kx3, kx4, kx5, kx6, kx7, kx8, -, -, -, -, -, -, -, -, -⟩ := id Bx
      obtain ⟨kw0, kw1, kw2, kw3, kw4, kw5, kw6, kw7, kw8, -, -, -, -, -, -, -, -, -⟩ := id Bw
      obtain ⟨ky0, ky1, ky2, ky3, ky4, ky5, ky6, ky7, ky8, -, -, -, -, -, -, -, -, -⟩ := id By
      go_wp2_with fail
      refine (sameZ _).mono ?_
      rintro r w7 ⟨rfl, hb⟩
      clear ka0 ka1 ka2 ka3 ka4 ka5 ka6 ka7 ka8 kb0 kb1 kb2 kb3 kb4 kb5 kb6 kb7 kb8 kc0 kc1 kc2 kc3 kc4 kc5 kc6 kc7 kc8 kx0 kx1 kx2 kx3 kx4 kx5 kx6 kx7 kx8 kw0 kw1 kw2 kw3 kw4 kw5 kw6 kw7 kw8 ky0 ky1 ky2 ky3 ky4 ky5 ky6 ky7 ky8
      replace bel := bel_go bel hb
      replace hT := hT.below hb
      replace s1 := s1.below hb
      replace s2 := s2.below hb
      replace s3 := s3.below hb
      replace Ba := Ba.below hb
      replace Bb := Bb.below hb
      replace Bc := Bc.below hb
      replace Bx := Bx.below hb
      replace Bw := Bw.below hb
      replace By := By.below hb
      clear hb
      obtain ⟨ka0, ka1, ka2, ka3, ka4, ka5, ka6, ka7, ka8, -, -, -, -, -, -, -, -, -⟩ := id Ba
      obtain ⟨kb0, kb1, kb2, kb3, kb4, kb5, kb6, kb7, kb8, -, -, -, -, -, -, -, -, -⟩ := id Bb
      obtain ⟨kc0, kc1, kc2, kc3, kc4, kc5, kc6, kc7, kc8, -, -, -, -, -, -, -, -, -⟩ := id Bc
      obtain ⟨kx0, kx1, kx2, kx3, kx4, kx5, kx6, kx7, kx8, -, -, -, -, -, -, -, -, -⟩ := id Bx
      obtain ⟨kw0, kw1, kw2, kw3, kw4, kw5, kw6, kw7, kw8, -, -, -, -, -, -, -, -, -⟩ := id Bw
      obtain ⟨ky0, ky1, ky2, ky3, ky4, ky5, ky6, ky7, ky8, -, -, -, -, -, -, -, -, -⟩ := id By
      go_wp2
      all_goals go_ret
      all_goals exact ⟨rfl, bel⟩
  · obtain ⟨p1, p2, rfl, p4⟩ := mgC_yes (hk.symm.trans hk0)
    obtain ⟨s, hR, rfl, rfl, rfl, rfl, rfl, rfl, rfl, rfl⟩ := to_st d1 p1
    obtain ⟨t, hQ, rfl, rfl, rfl, rfl, rfl, rfl, rfl, rfl⟩ := to_st d2 p2
    obtain ⟨x, h_x⟩ : ∃ q, q = s.mg t := ⟨_, rfl⟩
    have hX : Rt F x := by rw [h_x]; exact hR.mg hQ p4
    have CI := hid (fun w' h k1 k2 => mgI F s t a a2 c c2 w' h hR hQ p4 k1 k2 x h_x)
    have CS := hid (fun w' k1 k2 => mgS F s t a a2 c c2 w' hR hQ p4 k1 k2 x h_x)
    have hlx : (Nm.wl x.z).length ≤ 1048576 := by have := hX.len; omega
    by_cases hj0 : j = 0
    rotate_left
    · have CJ := hid (fun w' h h1 h2 => mnI F (Nm.wn t.z) t.T t.nn t.bd t.pl t.mi t.am F3 ng3 T3 nn3 bd3 pl3 mi3 am3 a2 a3 c2 c3 (Nm.wl t.z) zs3 w' h h1 h2 (by have := hQ.len; omega) (by omega) j hj hj0)
      have ne_j : (j != j) = false := by simp
      have eq_j : (j == j) = true := by simp
      have nz_j : (j != 0) = true := by simpa using hj0
      clear hk hj hk0 hj0 hR hQ hX h_x p1 p2 p4 d1 d2 d3 l1 l2 l3
      replace hT := hT.below (al_b _ (.cells #[.int .i64 F3, .bool ng3, .slice a3 zs3.length c3, .int .i64 T3, .bool nn3, .bool bd3, .bool pl3, .bool mi3, .bool am3] 50))
      replace s1 := s1.below (al_b _ (.cells #[.int .i64 F3, .bool ng3, .slice a3 zs3.length c3, .int .i64 T3, .bool nn3, .bool bd3, .bool pl3, .bool mi3, .bool am3] 50))
      replace s2 := s2.below (al_b _ (.cells #[.int .i64 F3, .bool ng3, .slice a3 zs3.length c3, .int .i64 T3, .bool nn3, .bool bd3, .bool pl3, .bool mi3, .bool am3] 50))
      replace s3 := s3.below (al_b _ (.cells #[.int .i64 F3, .bool ng3, .slice a3 zs3.length c3, .int .i64 T3, .bool nn3, .bool bd3, .bool pl3, .bool mi3, .bool am3] 50))
      replace Ba := Ba.below (al_b _ (.cells #[.int .i64 F3, .bool ng3, .slice a3 zs3.length c3, .int .i64 T3, .bool nn3, .bool bd3, .bool pl3, .bool mi3, .bool am3] 50))
      replace Bb := Bb.below (al_b _ (.cells #[.int .i64 F3, .bool ng3, .slice a3 zs3.length c3, .int .i64 T3, .bool nn3, .bool bd3, .bool pl3, .bool mi3, .bool am3] 50))
      replace bel := bel_al bel (.cells #[.int .i64 F3, .bool ng3, .slice a3 zs3.length c3, .int .i64 T3, .bool nn3, .bool bd3, .bool pl3, .bool mi3, .bool am3] 50)
      have Bc := Q9.new w2 (.int .i64 F3) (.bool ng3) (.slice a3 zs3.length c3) (.int .i64 T3) (.bool nn3) (.bool bd3) (.bool pl3) (.bool mi3) (.bool am3) 50
      replace hT := hT.below (al_b _ (.cells #[.int .i64 F4, .bool ng4, .slice a4 zs4.length c4, .int .i64 T4, .bool nn4, .bool bd4, .bool pl4, .bool mi4, .bool am4] 50))
      replace s1 := s1.below (al_b _ (.cells #[.int .i64 F4, .bool ng4, .slice a4 zs4.length c4, .int .i64 T4, .bool nn4, .bool bd4, .bool pl4, .bool mi4, .bool am4] 50))
      replace s2 := s2.below (al_b _ (.cells #[.int .i64 F4, .bool ng4, .slice a4 zs4.length c4, .int .i64 T4, .bool nn4, .bool bd4, .bool pl4, .bool mi4, .bool am4] 50))
      replace s3 := s3.below (al_b _ (.cells #[.int .i64 F4, .bool ng4, .slice a4 zs4.length c4, .int .i64 T4, .bool nn4, .bool bd4, .bool pl4, .bool mi4, .bool am4] 50))
      replace Ba := Ba.below (al_b _ (.cells #[.int .i64 F4, .bool ng4, .slice a4 zs4.length c4, .int .i64 T4, .bool nn4, .bool bd4, .bool pl4, .bool mi4, .bool am4] 50))
      replace Bb := Bb.below (al_b _ (.cells #[.int .i64 F4, .bool ng4, .slice a4 zs4.length c4, .int .i64 T4, .bool nn4, .bool bd4, .bool pl4, .bool mi4, .bool am4] 50))
      replace Bc := Bc.below (al_b _ (.cells #[.int .i64 F4, .bool ng4, .slice a4 zs4.length c4, .int .i64 T4, .bool nn4, .bool bd4, .bool pl4, .bool mi4, .bool am4] 50))
      replace bel := bel_al bel (.cells #[.int .i64 F4, .bool ng4, .slice a4 zs4.length c4, .int .i64 T4, .bool nn4, .bool bd4, .bool pl4, .bool mi4, .bool am4] 50)
      have Be := Q9.new (w2.alloc (.cells #[.int .i64 F3, .bool ng3, .slice a3 zs3.length c3, .int .i64 T3, .bool nn3, .bool bd3, .bool pl3, .bool mi3, .bool am3] 50)) (.int .i64 F4) (.bool ng4) (.slice a4 zs4.length c4) (.int .i64 T4) (.bool nn4) (.bool bd4) (.bool pl4) (.bool mi4) (.bool am4) 50
      clear Be
      obtain ⟨ka0, ka1, ka2, ka3, ka4, ka5, ka6, ka7, ka8, -, -, -, -, -, -, -, -, -⟩ := id Ba
      obtain ⟨kb0, kb1, kb2, kb3, kb4, kb5, kb6, kb7, kb8, -, -, -, -, -, -, -, -, -⟩ := id Bb
      obtain ⟨kc0, kc1, kc2, kc3, kc4, kc5, kc6, kc7, kc8, -, -, -, -, -, -, -, -, -⟩ := id Bc
      go_wp2_with fail
      refine (CI.out _ hT s1 s2).mono ?_
      rintro r w3 ⟨ax, cx, rfl, ox, hb⟩
      clear ka0 ka1 ka2 ka3 ka4 ka5 ka6 ka7 ka8 kb0 kb1 kb2 kb3 kb4 kb5 kb6 kb7 kb8 kc0 kc1 kc2 kc3 kc4 kc5 kc6 kc7 kc8
      replace bel := bel_go bel hb
      replace hT := hT.below hb
      replace s1 := s1.below hb
      replace s2 := s2.below hb
      replace s3 := s3.below hb
      replace Ba := Ba.below hb
      replace Bb := Bb.below hb
      replace Bc := Bc.below hb
      clear hb
      have sx := ox.sl
      clear ox
      replace hT := hT.below (al_b _ (.cells #[.int .i64 F, .bool (Nm.wn x.z), .slice ax (Nm.wl x.z).length cx, .int .i64 x.T, .bool x.nn, .bool x.bd, .bool x.pl, .bool x.mi, .bool x.am] 50))
      replace s1 := s1.below (al_b _ (.cells #[.int .i64 F, .bool (Nm.wn x.z), .slice ax (Nm.wl x.z).length cx, .int .i64 x.T, .bool x.nn, .bool x.bd, .bool x.pl, .bool x.mi, .bool x.am] 50))
      replace s2 := s2.below (al_b _ (.cells #[.int .i64 F, .bool (Nm.wn x.z), .slice ax (Nm.wl x.z).length cx, .int .i64 x.T, .bool x.nn, .bool x.bd, .bool x.pl, .bool x.mi, .bool x.am] 50))
      replace s3 := s3.below (al_b _ (.cells #[.int .i64 F, .bool (Nm.wn x.z), .slice ax (Nm.wl x.z).length cx, .int .i64 x.T, .bool x.nn, .bool x.bd, .bool x.pl, .bool x.mi, .bool x.am] 50))
      replace Ba := Ba.below (al_b _ (.cells #[.int .i64 F, .bool (Nm.wn x.z), .slice ax (Nm.wl x.z).length cx, .int .i64 x.T, .bool x.nn, .bool x.bd, .bool x.pl, .bool x.mi, .bool x.am] 50))
      replace Bb := Bb.below (al_b _ (.cells #[.int .i64 F, .bool (Nm.wn x.z), .slice ax (Nm.wl x.z).length cx, .int .i64 x.T, .bool x.nn, .bool x.bd, .bool x.pl, .bool x.mi, .bool x.am] 50))
      replace Bc := Bc.below (al_b _ (.cells #[.int .i64 F, .bool (Nm.wn x.z), .slice ax (Nm.wl x.z).length cx, .int .i64 x.T, .bool x.nn, .bool x.bd, .bool x.pl, .bool x.mi, .bool x.am] 50))
      replace sx := sx.below (al_b _ (.cells #[.int .i64 F, .bool (Nm.wn x.z), .slice ax (Nm.wl x.z).length cx, .int .i64 x.T, .bool x.nn, .bool x.bd, .bool x.pl, .bool x.mi, .bool x.am] 50))
      replace bel := bel_al bel (.cells #[.int .i64 F, .bool (Nm.wn x.z), .slice ax (Nm.wl x.z).length cx, .int .i64 x.T, .bool x.nn, .bool x.bd, .bool x.pl, .bool x.mi, .bool x.am] 50)
      have Bx := Q9.new w3 (.int .i64 F) (.bool (Nm.wn x.z)) (.slice ax (Nm.wl x.z).length cx) (.int .i64 x.T) (.bool x.nn) (.bool x.bd) (.bool x.pl) (.bool x.mi) (.bool x.am) 50
      obtain ⟨ka0, ka1, ka2, ka3, ka4, ka5, ka6, ka7, ka8, -, -, -, -, -, -, -, -, -⟩ := id Ba
      obtain ⟨kb0, kb1, kb2, kb3, kb4, kb5, kb6, kb7, kb8, -, -, -, -, -, -, -, -, -⟩ := id Bb
      obtain ⟨kc0, kc1, kc2, kc3, kc4, kc5, kc6, kc7, kc8, -, -, -, -, -, -, -, -, -⟩ := id Bc
      obtain ⟨kx0, kx1, kx2, kx3, kx4, kx5, kx6, kx7, kx8, -, -, -, -, -, -, -, -, -⟩ := id Bx
      go_wp2_with fail
      refine (CS.out _ s1 s2).mono ?_
      rintro r w4 ⟨aw, cw, rfl, ow, hb⟩
      clear ka0 ka1 ka2 ka3 ka4 ka5 ka6 ka7 ka8 kb0 kb1 kb2 kb3 kb4 kb5 kb6 kb7 kb8 kc0 kc1 kc2 kc3 kc4 kc5 kc6 kc7 kc8 kx0 kx1 kx2 kx3 kx4 kx5 kx6 kx7 kx8
      replace bel := bel_go bel hb
      replace hT := hT.below hb
      replace s1 := s1.below hb
      replace s2 := s2.below hb
      replace s3 := s3.below hb
      replace Ba := Ba.below hb
      replace Bb := Bb.below hb
      replace Bc := Bc.below hb
      replace sx := sx.below hb
      replace Bx := Bx.below hb
      clear hb
      have sw := ow.sl
      clear ow
      replace hT := hT.below (al_b _ (.cells #[.int .i64 F, .bool (Nm.wn x.z), .slice aw (Nm.wl x.z).length cw, .int .i64 x.T, .bool x.nn, .bool x.bd, .bool x.pl, .bool x.mi, .bool x.am] 50))
      replace s1 := s1.below (al_b _ (.cells #[.int .i64 F, .bool (Nm.wn x.z), .slice aw (Nm.wl x.z).length cw, .int .i64 x.T, .bool x.nn, .bool x.bd, .bool x.pl, .bool x.mi, .bool x.am] 50))
      replace s2 := s2.below (al_b _ (.cells #[.int .i64 F, .bool (Nm.wn x.z), .slice aw (Nm.wl x.z).length cw, .int .i64 x.T, .bool x.nn, .bool x.bd, .bool x.pl, .bool x.mi, .bool x.am] 50))
      replace s3 := s3.below (al_b _ (.cells #[.int .i64 F, .bool (Nm.wn x.z), .slice aw (Nm.wl x.z).length cw, .int .i64 x.T, .bool x.nn, .bool x.bd, .bool x.pl, .bool x.mi, .bool x.am] 50))
      replace Ba := Ba.below (al_b _ (.cells #[.int .i64 F, .bool (Nm.wn x.z), .slice aw (Nm.wl x.z).length cw, .int .i64 x.T, .bool x.nn, .bool x.bd, .bool x.pl, .bool x.mi, .bool x.am] 50))
      replace Bb := Bb.below (al_b _ (.cells #[.int .i64 F, .bool (Nm.wn x.z), .slice aw (Nm.wl x.z).length cw, .int .i64 x.T, .bool x.nn, .bool x.bd, .bool x.pl, .bool x.mi, .bool x.am] 50))
      replace Bc := Bc.below (al_b _ (.cells #[.int .i64 F, .bool (Nm.wn x.z), .slice aw (Nm.wl x.z).length cw, .int .i64 x.T, .bool x.nn, .bool x.bd, .bool x.pl, .bool x.mi, .bool x.am] 50))
      replace sx := sx.below (al_b _ (.cells #[.int .i64 F, .bool (Nm.wn x.z), .slice aw (Nm.wl x.z).length cw, .int .i64 x.T, .bool x.nn, .bool x.bd, .bool x.pl, .bool x.mi, .bool x.am] 50))
      replace Bx := Bx.below (al_b _ (.cells #[.int .i64 F, .bool (Nm.wn x.z), .slice aw (Nm.wl x.z).length cw, .int .i64 x.T, .bool x.nn, .bool x.bd, .bool x.pl, .bool x.mi, .bool x.am] 50))
      replace sw := sw.below (al_b _ (.cells #[.int .i64 F, .bool (Nm.wn x.z), .slice aw (Nm.wl x.z).length cw, .int .i64 x.T, .bool x.nn, .bool x.bd, .bool x.pl, .bool x.mi, .bool x.am] 50))
      replace bel := bel_al bel (.cells #[.int .i64 F, .bool (Nm.wn x.z), .slice aw (Nm.wl x.z).length cw, .int .i64 x.T, .bool x.nn, .bool x.bd, .bool x.pl, .bool x.mi, .bool x.am] 50)
      have Bw := Q9.new w4 (.int .i64 F) (.bool (Nm.wn x.z)) (.slice aw (Nm.wl x.z).length cw) (.int .i64 x.T) (.bool x.nn) (.bool x.bd) (.bool x.pl) (.bool x.mi) (.bool x.am) 50
      obtain ⟨ka0, ka1, ka2, ka3, ka4, ka5, ka6, ka7, ka8, -, -, -, -, -, -, -, -, -⟩ := id Ba
      obtain ⟨kb0, kb1, kb2, kb3, kb4, kb5, kb6, kb7, kb8, -, -, -, -, -, -, -, -, -⟩ := id Bb
      obtain ⟨kc0, kc1, kc2, kc3, kc4, kc5, kc6, kc7, kc8, -, -, -, -, -, -, -, -, -⟩ := id Bc
      obtain ⟨kx0, kx1, kx2, kx3, kx4, kx5, kx6, kx7, kx8, -, -, -, -, -, -, -, -, -⟩ := id Bx
      obtain ⟨kw0, kw1, kw2, kw3, kw4, kw5, kw6, kw7, kw8, -, -, -, -, -, -, -, -, -⟩ := id Bw
      go_wp2_with fail
      refine (CJ.out _ hT s2 s3).mono ?_
      rintro r w5 ⟨rfl, hb⟩
      clear ka0 ka1 ka2 ka3 ka4 ka5 ka6 ka7 ka8 kb0 kb1 kb2 kb3 kb4 kb5 kb6 kb7 kb8 kc0 kc1 kc2 kc3 kc4 kc5 kc6 kc7 kc8 kx0 kx1 kx2 kx3 kx4 kx5 kx6 kx7 kx8 kw0 kw1 kw2 kw3 kw4 kw5 kw6 kw7 kw8
      replace bel := bel_go bel hb
      replace hT := hT.below hb
      replace s1 := s1.below hb
      replace s2 := s2.below hb
      replace s3 := s3.below hb
      replace Ba := Ba.below hb
      replace Bb := Bb.below hb
      replace Bc := Bc.below hb
      replace sx := sx.below hb
      replace Bx := Bx.below hb
      replace sw := sw.below hb
      replace Bw := Bw.below hb
      clear hb
      replace hT := hT.below (al_b _ (.cells #[.int .i64 0, .bool false, .slice none 0 0, .int .i64 0, .bool false, .bool false, .bool false, .bool false, .bool false] 50))
      replace s1 := s1.below (al_b _ (.cells #[.int .i64 0, .bool false, .slice none 0 0, .int .i64 0, .bool false, .bool false, .bool false, .bool false, .bool false] 50))
      replace s2 := s2.below (al_b _ (.cells #[.int .i64 0, .bool false, .slice none 0 0, .int .i64 0, .bool false, .bool false, .bool false, .bool false, .bool false] 50))
      replace s3 := s3.below (al_b _ (.cells #[.int .i64 0, .bool false, .slice none 0 0, .int .i64 0, .bool false, .bool false, .bool false, .bool false, .bool false] 50))
      replace Ba := Ba.below (al_b _ (.cells #[.int .i64 0, .bool false, .slice none 0 0, .int .i64 0, .bool false, .bool false, .bool false, .bool false, .bool false] 50))
      replace Bb := Bb.below (al_b _ (.cells #[.int .i64 0, .bool false, .slice none 0 0, .int .i64 0, .bool false, .bool false, .bool false, .bool false, .bool false] 50))
      replace Bc := Bc.below (al_b _ (.cells #[.int .i64 0, .bool false, .slice none 0 0, .int .i64 0, .bool false, .bool false, .bool false, .bool false, .bool false] 50))
      replace sx := sx.below (al_b _ (.cells #[.int .i64 0, .bool false, .slice none 0 0, .int .i64 0, .bool false, .bool false, .bool false, .bool false, .bool false] 50))
      replace Bx := Bx.below (al_b _ (.cells #[.int .i64 0, .bool false, .slice none 0 0, .int .i64 0, .bool false, .bool false, .bool false, .bool false, .bool false] 50))
      replace sw := sw.below (al_b _ (.cells #[.int .i64 0, .bool false, .slice none 0 0, .int .i64 0, .bool false, .bool false, .bool false, .bool false, .bool false] 50))
      replace Bw := Bw.below (al_b _ (.cells #[.int .i64 0, .bool false, .slice none 0 0, .int .i64 0, .bool false, .bool false, .bool false, .bool false, .bool false] 50))
      replace bel := bel_al bel (.cells #[.int .i64 0, .bool false, .slice none 0 0, .int .i64 0, .bool false, .bool false, .bool false, .bool false, .bool false] 50)
      have By := Q9.new w5 (.int .i64 0) (.bool false) (.slice none 0 0) (.int .i64 0) (.bool false) (.bool false) (.bool false) (.bool false) (.bool false) 50
      obtain ⟨ka0, ka1, ka2, ka3, ka4, ka5, ka6, ka7, ka8, -, -, -, -, -, -, -, -, -⟩ := id Ba
      obtain ⟨kb0, kb1, kb2, kb3, kb4, kb5, kb6, kb7, kb8, -, -, -, -, -, -, -, -, -⟩ := id Bb
      obtain ⟨kc0, kc1, kc2, kc3, kc4, kc5, kc6, kc7, kc8, -, -, -, -, -, -, -, -, -⟩ := id Bc
      obtain ⟨kx0, kx1, kx2, kx3, kx4, kx5, kx6, kx7, kx8, -, -, -, -, -, -, -, -, -⟩ := id Bx
      obtain ⟨kw0, kw1, kw2, kw3, kw4, kw5, kw6, kw7, kw8, -, -, -, -, -, -, -, -, -⟩ := id Bw
      obtain ⟨ky0, ky1, ky2, ky3, ky4, ky5, ky6, ky7, ky8, -, -, -, -, -, -, -, -, -⟩ := id By
      go_wp2_with fail
      refine (sameA F (Nm.wn x.z) x.T x.nn x.bd x.pl x.mi x.am ax aw cx cw (Nm.wl x.z) _ sx sw hlx).mono ?_
      rintro r w6 ⟨rfl, hb⟩
      clear ka0 ka1 ka2 ka3 ka4 ka5 ka6 ka7 ka8 kb0 kb1 kb2 kb3 kb4 kb5 kb6 kb7 kb8 kc0 kc1 kc2 kc3 kc4 kc5 kc6 kc7 kc8 kx0 kx1 kx2 kx3 kx4 kx5 kx6 kx7 kx8 kw0 kw1 kw2 kw3 kw4 kw5 kw6 kw7 kw8 ky0 ky1 ky2 ky3 ky4 ky5 ky6 ky7 ky8
      replace bel := bel_go bel hb
      replace hT := hT.below hb
      replace s1 := s1.below hb
      replace s2 := s2.below hb
      replace s3 := s3.below hb
      replace Ba := Ba.below hb
      replace Bb := Bb.below hb
      replace Bc := Bc.below hb
      replace sx := sx.below hb
      replace Bx := Bx.below hb
      replace sw := sw.below hb
      replace Bw := Bw.below hb
      replace By := By.below hb
      clear hb
      obtain ⟨ka0, ka1, ka2, ka3, ka4, ka5, ka6, ka7, ka8, -, -, -, -, -, -, -, -, -⟩ := id Ba
      obtain ⟨kb0, kb1, kb2, kb3, kb4, kb5, kb6, kb7, kb8, -, -, -, -, -, -, -, -, -⟩ := id Bb
      obtain ⟨kc0, kc1, kc2, kc3, kc4, kc5, kc6, kc7, kc8, -, -, -, -, -, -, -, -, -⟩ := id Bc
      obtain ⟨kx0, kx1, kx2, kx3, kx4, kx5, kx6, kx7, kx8, -, -, -, -, -, -, -, -, -⟩ := id Bx
      obtain ⟨kw0, kw1, kw2, kw3, kw4, kw5, kw6, kw7, kw8, -, -, -, -, -, -, -, -, -⟩ := id Bw
      obtain ⟨ky0, ky1, ky2, ky3, ky4, ky5, ky6, ky7, ky8, -, -, -, -, -, -, -, -, -⟩ := id By
      go_wp2_with fail
      refine (sameA F (Nm.wn x.z) x.T x.nn x.bd x.pl x.mi x.am ax aw cx cw (Nm.wl x.z) _ sx sw hlx).mono ?_
      rintro r w7 ⟨rfl, hb⟩
      clear ka0 ka1 ka2 ka3 ka4 ka5 ka6 ka7 ka8 kb0 kb1 kb2 kb3 kb4 kb5 kb6 kb7 kb8 kc0 kc1 kc2 kc3 kc4 kc5 kc6 kc7 kc8 kx0 kx1 kx2 kx3 kx4 kx5 kx6 kx7 kx8 kw0 kw1 kw2 kw3 kw4 kw5 kw6 kw7 kw8 ky0 ky1 ky2 ky3 ky4 ky5 ky6 ky7 ky8
      replace bel := bel_go bel hb
      replace hT := hT.below hb
      replace s1 := s1.below hb
      replace s2 := s2.below hb
      replace s3 := s3.below hb
      replace Ba := Ba.below hb
      replace Bb := Bb.below hb
      replace Bc := Bc.below hb
      replace sx := sx.below hb
      replace Bx := Bx.below hb
      replace sw := sw.below hb
      replace Bw := Bw.below hb
      replace By := By.below hb
      clear hb
      obtain ⟨ka0, ka1, ka2, ka3, ka4, ka5, ka6, ka7, ka8, -, -, -, -, -, -, -, -, -⟩ := id Ba
      obtain ⟨kb0, kb1, kb2, kb3, kb4, kb5, kb6, kb7, kb8, -, -, -, -, -, -, -, -, -⟩ := id Bb
      obtain ⟨kc0, kc1, kc2, kc3, kc4, kc5, kc6, kc7, kc8, -, -, -, -, -, -, -, -, -⟩ := id Bc
      obtain ⟨kx0, kx1, kx2, kx3, kx4, kx5, kx6, kx7, kx8, -, -, -, -, -, -, -, -, -⟩ := id Bx
      obtain ⟨kw0, kw1, kw2, kw3, kw4, kw5, kw6, kw7, kw8, -, -, -, -, -, -, -, -, -⟩ := id Bw
      obtain ⟨ky0, ky1, ky2, ky3, ky4, ky5, ky6, ky7, ky8, -, -, -, -, -, -, -, -, -⟩ := id By
      go_wp2
      all_goals go_ret
      all_goals exact ⟨rfl, bel⟩
    · obtain ⟨q1, q2, rfl, q4⟩ := mgC_yes (hj.symm.trans hj0)
      obtain ⟨v, hV, rfl, rfl, rfl, rfl, rfl, rfl, rfl, rfl⟩ := to_st d3 q2
      obtain ⟨y, h_y⟩ : ∃ q, q = t.mg v := ⟨_, rfl⟩
      have hY : Rt F y := by rw [h_y]; exact hQ.mg hV q4
      have CJ := hid (fun w' h k1 k2 => mgI F t v a2 a3 c2 c3 w' h hQ hV q4 k1 k2 y h_y)
      have tx : x.T = s.T + t.T := by rw [h_x]; rfl
      have ty : y.T = t.T + v.T := by rw [h_y]; rfl
      by_cases hm : s.T + t.T + v.T ≤ 1000000
      · obtain ⟨e, h_e⟩ : ∃ q, q = x.mg v := ⟨_, rfl⟩
        have h_e2 : e = s.mg y := by rw [h_e, h_x, h_y]; exact mg_assoc hR hQ hV
        have hle : (Nm.wl e.z).length ≤ 1048576 := by have := (hX.mg hV (by omega)).len; rw [h_e]; omega
        have CP := hid (fun p q w' h k1 k2 => mgI F x v p a3 q c3 w' h hX hV (by omega) k1 k2 e h_e)
        have CQ := hid (fun p q w' h k1 k2 => mgI F s y a p c q w' h hR hY (by omega) k1 k2 e h_e2)
        clear hk hj hk0 hj0 hR hQ hX h_x p1 p2 p4 d1 d2 d3 l1 l2 l3 hV hY h_y q1 q2 q4 tx ty hm h_e h_e2
        replace hT := hT.below (al_b _ (.cells #[.int .i64 F, .bool (Nm.wn v.z), .slice a3 (Nm.wl v.z).length c3, .int .i64 v.T, .bool v.nn, .bool v.bd, .bool v.pl, .bool v.mi, .bool v.am] 50))
        replace s1 := s1.below (al_b _ (.cells #[.int .i64 F, .bool (Nm.wn v.z), .slice a3 (Nm.wl v.z).length c3, .int .i64 v.T, .bool v.nn, .bool v.bd, .bool v.pl, .bool v.mi, .bool v.am] 50))
        replace s2 := s2.below (al_b _ (.cells #[.int .i64 F, .bool (Nm.wn v.z), .slice a3 (Nm.wl v.z).length c3, .int .i64 v.T, .bool v.nn, .bool v.bd, .bool v.pl, .bool v.mi, .bool v.am] 50))
        replace s3 := s3.below (al_b _ (.cells #[.int .i64 F, .bool (Nm.wn v.z), .slice a3 (Nm.wl v.z).length c3, .int .i64 v.T, .bool v.nn, .bool v.bd, .bool v.pl, .bool v.mi, .bool v.am] 50))
        replace Ba := Ba.below (al_b _ (.cells #[.int .i64 F, .bool (Nm.wn v.z), .slice a3 (Nm.wl v.z).length c3, .int .i64 v.T, .bool v.nn, .bool v.bd, .bool v.pl, .bool v.mi, .bool v.am] 50))
        replace Bb := Bb.below (al_b _ (.cells #[.int .i64 F, .bool (Nm.wn v.z), .slice a3 (Nm.wl v.z).length c3, .int .i64 v.T, .bool v.nn, .bool v.bd, .bool v.pl, .bool v.mi, .bool v.am] 50))
        replace bel := bel_al bel (.cells #[.int .i64 F, .bool (Nm.wn v.z), .slice a3 (Nm.wl v.z).length c3, .int .i64 v.T, .bool v.nn, .bool v.bd, .bool v.pl, .bool v.mi, .bool v.am] 50)
        have Bc := Q9.new w2 (.int .i64 F) (.bool (Nm.wn v.z)) (.slice a3 (Nm.wl v.z).length c3) (.int .i64 v.T) (.bool v.nn) (.bool v.bd) (.bool v.pl) (.bool v.mi) (.bool v.am) 50
        replace hT := hT.below (al_b _ (.cells #[.int .i64 F4, .bool ng4, .slice a4 zs4.length c4, .int .i64 T4, .bool nn4, .bool bd4, .bool pl4, .bool mi4, .bool am4] 50))
        replace s1 := s1.below (al_b _ (.cells #[.int .i64 F4, .bool ng4, .slice a4 zs4.length c4, .int .i64 T4, .bool nn4, .bool bd4, .bool pl4, .bool mi4, .bool am4] 50))
        replace s2 := s2.below (al_b _ (.cells #[.int .i64 F4, .bool ng4, .slice a4 zs4.length c4, .int .i64 T4, .bool nn4, .bool bd4, .bool pl4, .bool mi4, .bool am4] 50))
        replace s3 := s3.below (al_b _ (.cells #[.int .i64 F4, .bool ng4, .slice a4 zs4.length c4, .int .i64 T4, .bool nn4, .bool bd4, .bool pl4, .bool mi4, .bool am4] 50))
        replace Ba := Ba.below (al_b _ (.cells #[.int .i64 F4, .bool ng4, .slice a4 zs4.length c4, .int .i64 T4, .bool nn4, .bool bd4, .bool pl4, .bool mi4, .bool am4] 50))
        replace Bb := Bb.below (al_b _ (.cells #[.int .i64 F4, .bool ng4, .slice a4 zs4.length c4, .int .i64 T4, .bool nn4, .bool bd4, .bool pl4, .bool mi4, .bool am4] 50))
        replace Bc := Bc.below (al_b _ (.cells #[.int .i64 F4, .bool ng4, .slice a4 zs4.length c4, .int .i64 T4, .bool nn4, .bool bd4, .bool pl4, .bool mi4, .bool am4] 50))
        replace bel := bel_al bel (.cells #[.int .i64 F4, .bool ng4, .slice a4 zs4.length c4, .int .i64 T4, .bool nn4, .bool bd4, .bool pl4, .bool mi4, .bool am4] 50)
        have Be := Q9.new (w2.alloc (.cells #[.int .i64 F, .bool (Nm.wn v.z), .slice a3 (Nm.wl v.z).length c3, .int .i64 v.T, .bool v.nn, .bool v.bd, .bool v.pl, .bool v.mi, .bool v.am] 50)) (.int .i64 F4) (.bool ng4) (.slice a4 zs4.length c4) (.int .i64 T4) (.bool nn4) (.bool bd4) (.bool pl4) (.bool mi4) (.bool am4) 50
        clear Be
        obtain ⟨ka0, ka1, ka2, ka3, ka4, ka5, ka6, ka7, ka8, -, -, -, -, -, -, -, -, -⟩ := id Ba
        obtain ⟨kb0, kb1, kb2, kb3, kb4, kb5, kb6, kb7, kb8, -, -, -, -, -, -, -, -, -⟩ := id Bb
        obtain ⟨kc0, kc1, kc2, kc3, kc4, kc5, kc6, kc7, kc8, -, -, -, -, -, -, -, -, -⟩ := id Bc
        go_wp2_with fail
        refine (CI.out _ hT s1 s2).mono ?_
        rintro r w3 ⟨ax, cx, rfl, ox, hb⟩
        clear ka0 ka1 ka2 ka3 ka4 ka5 ka6 ka7 ka8 kb0 kb1 kb2 kb3 kb4 kb5 kb6 kb7 kb8 kc0 kc1 kc2 kc3 kc4 kc5 kc6 kc7 kc8
        replace bel := bel_go bel hb
        replace hT := hT.below hb
        replace s1 := s1.below hb
        replace s2 := s2.below hb
        replace s3 := s3.below hb
        replace Ba := Ba.below hb
        replace Bb := Bb.below hb
        replace Bc := Bc.below hb
        clear hb
        have sx := ox.sl
        clear ox
        replace hT := hT.below (al_b _ (.cells #[.int .i64 F, .bool (Nm.wn x.z), .slice ax (Nm.wl x.z).length cx, .int .i64 x.T, .bool x.nn, .bool x.bd, .bool x.pl, .bool x.mi, .bool x.am] 50))
        replace s1 := s1.below (al_b _ (.cells #[.int .i64 F, .bool (Nm.wn x.z), .slice ax (Nm.wl x.z).length cx, .int .i64 x.T, .bool x.nn, .bool x.bd, .bool x.pl, .bool x.mi, .bool x.am] 50))
        replace s2 := s2.below (al_b _ (.cells #[.int .i64 F, .bool (Nm.wn x.z), .slice ax (Nm.wl x.z).length cx, .int .i64 x.T, .bool x.nn, .bool x.bd, .bool x.pl, .bool x.mi, .bool x.am] 50))
        replace s3 := s3.below (al_b _ (.cells #[.int .i64 F, .bool (Nm.wn x.z), .slice ax (Nm.wl x.z).length cx, .int .i64 x.T, .bool x.nn, .bool x.bd, .bool x.pl, .bool x.mi, .bool x.am] 50))
        replace Ba := Ba.below (al_b _ (.cells #[.int .i64 F, .bool (Nm.wn x.z), .slice ax (Nm.wl x.z).length cx, .int .i64 x.T, .bool x.nn, .bool x.bd, .bool x.pl, .bool x.mi, .bool x.am] 50))
        replace Bb := Bb.below (al_b _ (.cells #[.int .i64 F, .bool (Nm.wn x.z), .slice ax (Nm.wl x.z).length cx, .int .i64 x.T, .bool x.nn, .bool x.bd, .bool x.pl, .bool x.mi, .bool x.am] 50))
        replace Bc := Bc.below (al_b _ (.cells #[.int .i64 F, .bool (Nm.wn x.z), .slice ax (Nm.wl x.z).length cx, .int .i64 x.T, .bool x.nn, .bool x.bd, .bool x.pl, .bool x.mi, .bool x.am] 50))
        replace sx := sx.below (al_b _ (.cells #[.int .i64 F, .bool (Nm.wn x.z), .slice ax (Nm.wl x.z).length cx, .int .i64 x.T, .bool x.nn, .bool x.bd, .bool x.pl, .bool x.mi, .bool x.am] 50))
        replace bel := bel_al bel (.cells #[.int .i64 F, .bool (Nm.wn x.z), .slice ax (Nm.wl x.z).length cx, .int .i64 x.T, .bool x.nn, .bool x.bd, .bool x.pl, .bool x.mi, .bool x.am] 50)
        have Bx := Q9.new w3 (.int .i64 F) (.bool (Nm.wn x.z)) (.slice ax (Nm.wl x.z).length cx) (.int .i64 x.T) (.bool x.nn) (.bool x.bd) (.bool x.pl) (.bool x.mi) (.bool x.am) 50
        obtain ⟨ka0, ka1, ka2, ka3, ka4, ka5, ka6, ka7, ka8, -, -, -, -, -, -, -, -, -⟩ := id Ba
        obtain ⟨kb0, kb1, kb2, kb3, kb4, kb5, kb6, kb7, kb8, -, -, -, -, -, -, -, -, -⟩ := id Bb
        obtain ⟨kc0, kc1, kc2, kc3, kc4, kc5, kc6, kc7, kc8, -, -, -, -, -, -, -, -, -⟩ := id Bc
        obtain ⟨kx0, kx1, kx2, kx3, kx4, kx5, kx6, kx7, kx8, -, -, -, -, -, -, -, -, -⟩ := id Bx
        go_wp2_with fail
        refine (CS.out _ s1 s2).mono ?_
        rintro r w4 ⟨aw, cw, rfl, ow, hb⟩
        clear ka0 ka1 ka2 ka3 ka4 ka5 ka6 ka7 ka8 kb0 kb1 kb2 kb3 kb4 kb5 kb6 kb7 kb8 kc0 kc1 kc2 kc3 kc4 kc5 kc6 kc7 kc8 kx0 kx1 kx2 kx3 kx4 kx5 kx6 kx7 kx8
        replace bel := bel_go bel hb
        replace hT := hT.below hb
        replace s1 := s1.below hb
        replace s2 := s2.below hb
        replace s3 := s3.below hb
        replace Ba := Ba.below hb
        replace Bb := Bb.below hb
        replace Bc := Bc.below hb
        replace sx := sx.below hb
        replace Bx := Bx.below hb
        clear hb
        have sw := ow.sl
        clear ow
        replace hT := hT.below (al_b _ (.cells #[.int .i64 F, .bool (Nm.wn x.z), .slice aw (Nm.wl x.z).length cw, .int .i64 x.T, .bool x.nn, .bool x.bd, .bool x.pl, .bool x.mi, .bool x.am] 50))
        replace s1 := s1.below (al_b _ (.cells #[.int .i64 F, .bool (Nm.wn x.z), .slice aw (Nm.wl x.z).length cw, .int .i64 x.T, .bool x.nn, .bool x.bd, .bool x.pl, .bool x.mi, .bool x.am] 50))
        replace s2 := s2.below (al_b _ (.cells #[.int .i64 F, .bool (Nm.wn x.z), .slice aw (Nm.wl x.z).length cw, .int .i64 x.T, .bool x.nn, .bool x.bd, .bool x.pl, .bool x.mi, .bool x.am] 50))
        replace s3 := s3.below (al_b _ (.cells #[.int .i64 F, .bool (Nm.wn x.z), .slice aw (Nm.wl x.z).length cw, .int .i64 x.T, .bool x.nn, .bool x.bd, .bool x.pl, .bool x.mi, .bool x.am] 50))
        replace Ba := Ba.below (al_b _ (.cells #[.int .i64 F, .bool (Nm.wn x.z), .slice aw (Nm.wl x.z).length cw, .int .i64 x.T, .bool x.nn, .bool x.bd, .bool x.pl, .bool x.mi, .bool x.am] 50))
        replace Bb := Bb.below (al_b _ (.cells #[.int .i64 F, .bool (Nm.wn x.z), .slice aw (Nm.wl x.z).length cw, .int .i64 x.T, .bool x.nn, .bool x.bd, .bool x.pl, .bool x.mi, .bool x.am] 50))
        replace Bc := Bc.below (al_b _ (.cells #[.int .i64 F, .bool (Nm.wn x.z), .slice aw (Nm.wl x.z).length cw, .int .i64 x.T, .bool x.nn, .bool x.bd, .bool x.pl, .bool x.mi, .bool x.am] 50))
        replace sx := sx.below (al_b _ (.cells #[.int .i64 F, .bool (Nm.wn x.z), .slice aw (Nm.wl x.z).length cw, .int .i64 x.T, .bool x.nn, .bool x.bd, .bool x.pl, .bool x.mi, .bool x.am] 50))
        replace Bx := Bx.below (al_b _ (.cells #[.int .i64 F, .bool (Nm.wn x.z), .slice aw (Nm.wl x.z).length cw, .int .i64 x.T, .bool x.nn, .bool x.bd, .bool x.pl, .bool x.mi, .bool x.am] 50))
        replace sw := sw.below (al_b _ (.cells #[.int .i64 F, .bool (Nm.wn x.z), .slice aw (Nm.wl x.z).length cw, .int .i64 x.T, .bool x.nn, .bool x.bd, .bool x.pl, .bool x.mi, .bool x.am] 50))
        replace bel := bel_al bel (.cells #[.int .i64 F, .bool (Nm.wn x.z), .slice aw (Nm.wl x.z).length cw, .int .i64 x.T, .bool x.nn, .bool x.bd, .bool x.pl, .bool x.mi, .bool x.am] 50)
        have Bw := Q9.new w4 (.int .i64 F) (.bool (Nm.wn x.z)) (.slice aw (Nm.wl x.z).length cw) (.int .i64 x.T) (.bool x.nn) (.bool x.bd) (.bool x.pl) (.bool x.mi) (.bool x.am) 50
        obtain ⟨ka0, ka1, ka2, ka3, ka4, ka5, ka6, ka7, ka8, -, -, -, -, -, -, -, -, -⟩ := id Ba
        obtain ⟨kb0, kb1, kb2, kb3, kb4, kb5, kb6, kb7, kb8, -, -, -, -, -, -, -, -, -⟩ := id Bb
        obtain ⟨kc0, kc1, kc2, kc3, kc4, kc5, kc6, kc7, kc8, -, -, -, -, -, -, -, -, -⟩ := id Bc
        obtain ⟨kx0, kx1, kx2, kx3, kx4, kx5, kx6, kx7, kx8, -, -, -, -, -, -, -, -, -⟩ := id Bx
        obtain ⟨kw0, kw1, kw2, kw3, kw4, kw5, kw6, kw7, kw8, -, -, -, -, -, -, -, -, -⟩ := id Bw
        go_wp2_with fail
        refine (CJ.out _ hT s2 s3).mono ?_
        rintro r w5 ⟨ay, cy, rfl, oy, hb⟩
        clear ka0 ka1 ka2 ka3 ka4 ka5 ka6 ka7 ka8 kb0 kb1 kb2 kb3 kb4 kb5 kb6 kb7 kb8 kc0 kc1 kc2 kc3 kc4 kc5 kc6 kc7 kc8 kx0 kx1 kx2 kx3 kx4 kx5 kx6 kx7 kx8 kw0 kw1 kw2 kw3 kw4 kw5 kw6 kw7 kw8
        replace bel := bel_go bel hb
        replace hT := hT.below hb
        replace s1 := s1.below hb
        replace s2 := s2.below hb
        replace s3 := s3.below hb
        replace Ba := Ba.below hb
        replace Bb := Bb.below hb
        replace Bc := Bc.below hb
        replace sx := sx.below hb
        replace Bx := Bx.below hb
        replace sw := sw.below hb
        replace Bw := Bw.below hb
        clear hb
        have sy := oy.sl
        clear oy
        replace hT := hT.below (al_b _ (.cells #[.int .i64 F, .bool (Nm.wn y.z), .slice ay (Nm.wl y.z).length cy, .int .i64 y.T, .bool y.nn, .bool y.bd, .bool y.pl, .bool y.mi, .bool y.am] 50))
        replace s1 := s1.below (al_b _ (.cells #[.int .i64 F, .bool (Nm.wn y.z), .slice ay (Nm.wl y.z).length cy, .int .i64 y.T, .bool y.nn, .bool y.bd, .bool y.pl, .bool y.mi, .bool y.am] 50))
        replace s2 := s2.below (al_b _ (.cells #[.int .i64 F, .bool (Nm.wn y.z), .slice ay (Nm.wl y.z).length cy, .int .i64 y.T, .bool y.nn, .bool y.bd, .bool y.pl, .bool y.mi, .bool y.am] 50))
        replace s3 := s3.below (al_b _ (.cells #[.int .i64 F, .bool (Nm.wn y.z), .slice ay (Nm.wl y.z).length cy, .int .i64 y.T, .bool y.nn, .bool y.bd, .bool y.pl, .bool y.mi, .bool y.am] 50))
        replace Ba := Ba.below (al_b _ (.cells #[.int .i64 F, .bool (Nm.wn y.z), .slice ay (Nm.wl y.z).length cy, .int .i64 y.T, .bool y.nn, .bool y.bd, .bool y.pl, .bool y.mi, .bool y.am] 50))
        replace Bb := Bb.below (al_b _ (.cells #[.int .i64 F, .bool (Nm.wn y.z), .slice ay (Nm.wl y.z).length cy, .int .i64 y.T, .bool y.nn, .bool y.bd, .bool y.pl, .bool y.mi, .bool y.am] 50))
        replace Bc := Bc.below (al_b _ (.cells #[.int .i64 F, .bool (Nm.wn y.z), .slice ay (Nm.wl y.z).length cy, .int .i64 y.T, .bool y.nn, .bool y.bd, .bool y.pl, .bool y.mi, .bool y.am] 50))
        replace sx := sx.below (al_b _ (.cells #[.int .i64 F, .bool (Nm.wn y.z), .slice ay (Nm.wl y.z).length cy, .int .i64 y.T, .bool y.nn, .bool y.bd, .bool y.pl, .bool y.mi, .bool y.am] 50))
        replace Bx := Bx.below (al_b _ (.cells #[.int .i64 F, .bool (Nm.wn y.z), .slice ay (Nm.wl y.z).length cy, .int .i64 y.T, .bool y.nn, .bool y.bd, .bool y.pl, .bool y.mi, .bool y.am] 50))
        replace sw := sw.below (al_b _ (.cells #[.int .i64 F, .bool (Nm.wn y.z), .slice ay (Nm.wl y.z).length cy, .int .i64 y.T, .bool y.nn, .bool y.bd, .bool y.pl, .bool y.mi, .bool y.am] 50))
        replace Bw := Bw.below (al_b _ (.cells #[.int .i64 F, .bool (Nm.wn y.z), .slice ay (Nm.wl y.z).length cy, .int .i64 y.T, .bool y.nn, .bool y.bd, .bool y.pl, .bool y.mi, .bool y.am] 50))
        replace sy := sy.below (al_b _ (.cells #[.int .i64 F, .bool (Nm.wn y.z), .slice ay (Nm.wl y.z).length cy, .int .i64 y.T, .bool y.nn, .bool y.bd, .bool y.pl, .bool y.mi, .bool y.am] 50))
        replace bel := bel_al bel (.cells #[.int .i64 F, .bool (Nm.wn y.z), .slice ay (Nm.wl y.z).length cy, .int .i64 y.T, .bool y.nn, .bool y.bd, .bool y.pl, .bool y.mi, .bool y.am] 50)
        have By := Q9.new w5 (.int .i64 F) (.bool (Nm.wn y.z)) (.slice ay (Nm.wl y.z).length cy) (.int .i64 y.T) (.bool y.nn) (.bool y.bd) (.bool y.pl) (.bool y.mi) (.bool y.am) 50
        obtain ⟨ka0, ka1, ka2, ka3, ka4, ka5, ka6, ka7, ka8, -, -, -, -, -, -, -, -, -⟩ := id Ba
        obtain ⟨kb0, kb1, kb2, kb3, kb4, kb5, kb6, kb7, kb8, -, -, -, -, -, -, -, -, -⟩ := id Bb
        obtain ⟨kc0, kc1, kc2, kc3, kc4, kc5, kc6, kc7, kc8, -, -, -, -, -, -, -, -, -⟩ := id Bc
        obtain ⟨kx0, kx1, kx2, kx3, kx4, kx5, kx6, kx7, kx8, -, -, -, -, -, -, -, -, -⟩ := id Bx
        obtain ⟨kw0, kw1, kw2, kw3, kw4, kw5, kw6, kw7, kw8, -, -, -, -, -, -, -, -, -⟩ := id Bw
        obtain ⟨ky0, ky1, ky2, ky3, ky4, ky5, ky6, ky7, ky8, -, -, -, -, -, -, -, -, -⟩ := id By
        go_wp2_with fail
        refine (sameA F (Nm.wn x.z) x.T x.nn x.bd x.pl x.mi x.am ax aw cx cw (Nm.wl x.z) _ sx sw hlx).mono ?_
        rintro r w6 ⟨rfl, hb⟩
        clear ka0 ka1 ka2 ka3 ka4 ka5 ka6 ka7 ka8 kb0 kb1 kb2 kb3 kb4 kb5 kb6 kb7 kb8 kc0 kc1 kc2 kc3 kc4 kc5 kc6 kc7 kc8 kx0 kx1 kx2 kx3 kx4 kx5 kx6 kx7 kx8 kw0 kw1 kw2 kw3 kw4 kw5 kw6 kw7 kw8 ky0 ky1 ky2 ky3 ky4 ky5 ky6 ky7 ky8
        replace bel := bel_go bel hb
        replace hT := hT.below hb
        replace s1 := s1.below hb
        replace s2 := s2.below hb
        replace s3 := s3.below hb
        replace Ba := Ba.below hb
        replace Bb := Bb.below hb
        replace Bc := Bc.below hb
        replace sx := sx.below hb
        replace Bx := Bx.below hb
        replace sw := sw.below hb
        replace Bw := Bw.below hb
        replace sy := sy.below hb
        replace By := By.below hb
        clear hb
        obtain ⟨ka0, ka1, ka2, ka3, ka4, ka5, ka6, ka7, ka8, -, -, -, -, -, -, -, -, -⟩ := id Ba
        obtain ⟨kb0, kb1, kb2, kb3, kb4, kb5, kb6, kb7, kb8, -, -, -, -, -, -, -, -, -⟩ := id Bb
        obtain ⟨kc0, kc1, kc2, kc3, kc4, kc5, kc6, kc7, kc8, -, -, -, -, -, -, -, -, -⟩ := id Bc
        obtain ⟨kx0, kx1, kx2, kx3, kx4, kx5, kx6, kx7, kx8, -, -, -, -, -, -, -, -, -⟩ := id Bx
        obtain ⟨kw0, kw1, kw2, kw3, kw4, kw5, kw6, kw7, kw8, -, -, -, -, -, -, -, -, -⟩ := id Bw
        obtain ⟨ky0, ky1, ky2, ky3, ky4, ky5, ky6, ky7, ky8, -, -, -, -, -, -, -, -, -⟩ := id By
        go_wp2_with fail
        refine (CP.out ax cx _ hT sx s3).mono ?_
        rintro r w7 ⟨ap, cp, rfl, op, hb⟩
        clear ka0 ka1 ka2 ka3 ka4 ka5 ka6 ka7 ka8 kb0 kb1 kb2 kb3 kb4 kb5 kb6 kb7 kb8 kc0 kc1 kc2 kc3 kc4 kc5 kc6 kc7 kc8 kx0 kx1 kx2 kx3 kx4 kx5 kx6 kx7 kx8 kw0 kw1 kw2 kw3 kw4 kw5 kw6 kw7 kw8 ky0 ky1 ky2 ky3 ky4 ky5 ky6 ky7 ky8
        replace bel := bel_go bel hb
        replace hT := hT.below hb
        replace s1 := s1.below hb
        replace s2 := s2.below hb
        replace s3 := s3.below hb
        replace Ba := Ba.below hb
        replace Bb := Bb.below hb
        replace Bc := Bc.below hb
        replace sx := sx.below hb
        replace Bx := Bx.below hb
        replace sw := sw.below hb
        replace Bw := Bw.below hb
        replace sy := sy.below hb
        replace By := By.below hb
        clear hb
        have sp := op.sl
        clear op
        replace hT := hT.below (al_b _ (.cells #[.int .i64 F, .bool (Nm.wn e.z), .slice ap (Nm.wl e.z).length cp, .int .i64 e.T, .bool e.nn, .bool e.bd, .bool e.pl, .bool e.mi, .bool e.am] 50))
        replace s1 := s1.below (al_b _ (.cells #[.int .i64 F, .bool (Nm.wn e.z), .slice ap (Nm.wl e.z).length cp, .int .i64 e.T, .bool e.nn, .bool e.bd, .bool e.pl, .bool e.mi, .bool e.am] 50))
        replace s2 := s2.below (al_b _ (.cells #[.int .i64 F, .bool (Nm.wn e.z), .slice ap (Nm.wl e.z).length cp, .int .i64 e.T, .bool e.nn, .bool e.bd, .bool e.pl, .bool e.mi, .bool e.am] 50))
        replace s3 := s3.below (al_b _ (.cells #[.int .i64 F, .bool (Nm.wn e.z), .slice ap (Nm.wl e.z).length cp, .int .i64 e.T, .bool e.nn, .bool e.bd, .bool e.pl, .bool e.mi, .bool e.am] 50))
        replace Ba := Ba.below (al_b _ (.cells #[.int .i64 F, .bool (Nm.wn e.z), .slice ap (Nm.wl e.z).length cp, .int .i64 e.T, .bool e.nn, .bool e.bd, .bool e.pl, .bool e.mi, .bool e.am] 50))
        replace Bb := Bb.below (al_b _ (.cells #[.int .i64 F, .bool (Nm.wn e.z), .slice ap (Nm.wl e.z).length cp, .int .i64 e.T, .bool e.nn, .bool e.bd, .bool e.pl, .bool e.mi, .bool e.am] 50))
        replace Bc := Bc.below (al_b _ (.cells #[.int .i64 F, .bool (Nm.wn e.z), .slice ap (Nm.wl e.z).length cp, .int .i64 e.T, .bool e.nn, .bool e.bd, .bool e.pl, .bool e.mi, .bool e.am] 50))
        replace sx := sx.below (al_b _ (.cells #[.int .i64 F, .bool (Nm.wn e.z), .slice ap (Nm.wl e.z).length cp, .int .i64 e.T, .bool e.nn, .bool e.bd, .bool e.pl, .bool e.mi, .bool e.am] 50))
        replace Bx := Bx.below (al_b _ (.cells #[.int .i64 F, .bool (Nm.wn e.z), .slice ap (Nm.wl e.z).length cp, .int .i64 e.T, .bool e.nn, .bool e.bd, .bool e.pl, .bool e.mi, .bool e.am] 50))
        replace sw := sw.below (al_b _ (.cells #[.int .i64 F, .bool (Nm.wn e.z), .slice ap (Nm.wl e.z).length cp, .int .i64 e.T, .bool e.nn, .bool e.bd, .bool e.pl, .bool e.mi, .bool e.am] 50))
        replace Bw := Bw.below (al_b _ (.cells #[.int .i64 F, .bool (Nm.wn e.z), .slice ap (Nm.wl e.z).length cp, .int .i64 e.T, .bool e.nn, .bool e.bd, .bool e.pl, .bool e.mi, .bool e.am] 50))
        replace sy := sy.below (al_b _ (.cells #[.int .i64 F, .bool (Nm.wn e.z), .slice ap (Nm.wl e.z).length cp, .int .i64 e.T, .bool e.nn, .bool e.bd, .bool e.pl, .bool e.mi, .bool e.am] 50))
        replace By := By.below (al_b _ (.cells #[.int .i64 F, .bool (Nm.wn e.z), .slice ap (Nm.wl e.z).length cp, .int .i64 e.T, .bool e.nn, .bool e.bd, .bool e.pl, .bool e.mi, .bool e.am] 50))
        replace sp := sp.below (al_b _ (.cells #[.int .i64 F, .bool (Nm.wn e.z), .slice ap (Nm.wl e.z).length cp, .int .i64 e.T, .bool e.nn, .bool e.bd, .bool e.pl, .bool e.mi, .bool e.am] 50))
        replace bel := bel_al bel (.cells #[.int .i64 F, .bool (Nm.wn e.z), .slice ap (Nm.wl e.z).length cp, .int .i64 e.T, .bool e.nn, .bool e.bd, .bool e.pl, .bool e.mi, .bool e.am] 50)
        have Bp := Q9.new w7 (.int .i64 F) (.bool (Nm.wn e.z)) (.slice ap (Nm.wl e.z).length cp) (.int .i64 e.T) (.bool e.nn) (.bool e.bd) (.bool e.pl) (.bool e.mi) (.bool e.am) 50
        obtain ⟨ka0, ka1, ka2, ka3, ka4, ka5, ka6, ka7, ka8, -, -, -, -, -, -, -, -, -⟩ := id Ba
        obtain ⟨kb0, kb1, kb2, kb3, kb4, kb5, kb6, kb7, kb8, -, -, -, -, -, -, -, -, -⟩ := id Bb
        obtain ⟨kc0, kc1, kc2, kc3, kc4, kc5, kc6, kc7, kc8, -, -, -, -, -, -, -, -, -⟩ := id Bc
        obtain ⟨kx0, kx1, kx2, kx3, kx4, kx5, kx6, kx7, kx8, -, -, -, -, -, -, -, -, -⟩ := id Bx
        obtain ⟨kw0, kw1, kw2, kw3, kw4, kw5, kw6, kw7, kw8, -, -, -, -, -, -, -, -, -⟩ := id Bw
        obtain ⟨ky0, ky1, ky2, ky3, ky4, ky5, ky6, ky7, ky8, -, -, -, -, -, -, -, -, -⟩ := id By
        obtain ⟨kp0, kp1, kp2, kp3, kp4, kp5, kp6, kp7, kp8, -, -, -, -, -, -, -, -, -⟩ := id Bp
        go_wp2_with fail
        refine (CQ.out ay cy _ hT s1 sy).mono ?_
        rintro r w8 ⟨aq, cq, rfl, oq, hb⟩
        clear ka0 ka1 ka2 ka3 ka4 ka5 ka6 ka7 ka8 kb0 kb1 kb2 kb3 kb4 kb5 kb6 kb7 kb8 kc0 kc1 kc2 kc3 kc4 kc5 kc6 kc7 kc8 kx0 kx1 kx2 kx3 kx4 kx5 kx6 kx7 kx8 kw0 kw1 kw2 kw3 kw4 kw5 kw6 kw7 kw8 ky0 ky1 ky2 ky3 ky4 ky5 ky6 ky7 ky8 kp0 kp1 kp2 kp3 kp4 kp5 kp6 kp7 kp8
        replace bel := bel_go bel hb
        replace hT := hT.below hb
        replace s1 := s1.below hb
        replace s2 := s2.below hb
        replace s3 := s3.below hb
        replace Ba := Ba.below hb
        replace Bb := Bb.below hb
        replace Bc := Bc.below hb
        replace sx := sx.below hb
        replace Bx := Bx.below hb
        replace sw := sw.below hb
        replace Bw := Bw.below hb
        replace sy := sy.below hb
        replace By := By.below hb
        replace sp := sp.below hb
        replace Bp := Bp.below hb
        clear hb
        have sq := oq.sl
        clear oq
        replace hT := hT.below (al_b _ (.cells #[.int .i64 F, .bool (Nm.wn e.z), .slice aq (Nm.wl e.z).length cq, .int .i64 e.T, .bool e.nn, .bool e.bd, .bool e.pl, .bool e.mi, .bool e.am] 50))
        replace s1 := s1.below (al_b _ (.cells #[.int .i64 F, .bool (Nm.wn e.z), .slice aq (Nm.wl e.z).length cq, .int .i64 e.T, .bool e.nn, .bool e.bd, .bool e.pl, .bool e.mi, .bool e.am] 50))
        replace s2 := s2.below (al_b _ (.cells #[.int .i64 F, .bool (Nm.wn e.z), .slice aq (Nm.wl e.z).length cq, .int .i64 e.T, .bool e.nn, .bool e.bd, .bool e.pl, .bool e.mi, .bool e.am] 50))
        replace s3 := s3.below (al_b _ (.cells #[.int .i64 F, .bool (Nm.wn e.z), .slice aq (Nm.wl e.z).length cq, .int .i64 e.T, .bool e.nn, .bool e.bd, .bool e.pl, .bool e.mi, .bool e.am] 50))
        replace Ba := Ba.below (al_b _ (.cells #[.int .i64 F, .bool (Nm.wn e.z), .slice aq (Nm.wl e.z).length cq, .int .i64 e.T, .bool e.nn, .bool e.bd, .bool e.pl, .bool e.mi, .bool e.am] 50))
        replace Bb := Bb.below (al_b _ (.cells #[.int .i64 F, .bool (Nm.wn e.z), .slice aq (Nm.wl e.z).length cq, .int .i64 e.T, .bool e.nn, .bool e.bd, .bool e.pl, .bool e.mi, .bool e.am] 50))
        replace Bc := Bc.below (al_b _ (.cells #[.int .i64 F, .bool (Nm.wn e.z), .slice aq (Nm.wl e.z).length cq, .int .i64 e.T, .bool e.nn, .bool e.bd, .bool e.pl, .bool e.mi, .bool e.am] 50))
        replace sx := sx.below (al_b _ (.cells #[.int .i64 F, .bool (Nm.wn e.z), .slice aq (Nm.wl e.z).length cq, .int .i64 e.T, .bool e.nn, .bool e.bd, .bool e.pl, .bool e.mi, .bool e.am] 50))
        replace Bx := Bx.below (al_b _ (.cells #[.int .i64 F, .bool (Nm.wn e.z), .slice aq (Nm.wl e.z).length cq, .int .i64 e.T, .bool e.nn, .bool e.bd, .bool e.pl, .bool e.mi, .bool e.am] 50))
        replace sw := sw.below (al_b _ (.cells #[.int .i64 F, .bool (Nm.wn e.z), .slice aq (Nm.wl e.z).length cq, .int .i64 e.T, .bool e.nn, .bool e.bd, .bool e.pl, .bool e.mi, .bool e.am] 50))
        replace Bw := Bw.below (al_b _ (.cells #[.int .i64 F, .bool (Nm.wn e.z), .slice aq (Nm.wl e.z).length cq, .int .i64 e.T, .bool e.nn, .bool e.bd, .bool e.pl, .bool e.mi, .bool e.am] 50))
        replace sy := sy.below (al_b _ (.cells #[.int .i64 F, .bool (Nm.wn e.z), .slice aq (Nm.wl e.z).length cq, .int .i64 e.T, .bool e.nn, .bool e.bd, .bool e.pl, .bool e.mi, .bool e.am] 50))
        replace By := By.below (al_b _ (.cells #[.int .i64 F, .bool (Nm.wn e.z), .slice aq (Nm.wl e.z).length cq, .int .i64 e.T, .bool e.nn, .bool e.bd, .bool e.pl, .bool e.mi, .bool e.am] 50))
        replace sp := sp.below (al_b _ (.cells #[.int .i64 F, .bool (Nm.wn e.z), .slice aq (Nm.wl e.z).length cq, .int .i64 e.T, .bool e.nn, .bool e.bd, .bool e.pl, .bool e.mi, .bool e.am] 50))
        replace Bp := Bp.below (al_b _ (.cells #[.int .i64 F, .bool (Nm.wn e.z), .slice aq (Nm.wl e.z).length cq, .int .i64 e.T, .bool e.nn, .bool e.bd, .bool e.pl, .bool e.mi, .bool e.am] 50))
        replace sq := sq.below (al_b _ (.cells #[.int .i64 F, .bool (Nm.wn e.z), .slice aq (Nm.wl e.z).length cq, .int .i64 e.T, .bool e.nn, .bool e.bd, .bool e.pl, .bool e.mi, .bool e.am] 50))
        replace bel := bel_al bel (.cells #[.int .i64 F, .bool (Nm.wn e.z), .slice aq (Nm.wl e.z).length cq, .int .i64 e.T, .bool e.nn, .bool e.bd, .bool e.pl, .bool e.mi, .bool e.am] 50)
        have Bq := Q9.new w8 (.int .i64 F) (.bool (Nm.wn e.z)) (.slice aq (Nm.wl e.z).length cq) (.int .i64 e.T) (.bool e.nn) (.bool e.bd) (.bool e.pl) (.bool e.mi) (.bool e.am) 50
        obtain ⟨ka0, ka1, ka2, ka3, ka4, ka5, ka6, ka7, ka8, -, -, -, -, -, -, -, -, -⟩ := id Ba
        obtain ⟨kb0, kb1, kb2, kb3, kb4, kb5, kb6, kb7, kb8, -, -, -, -, -, -, -, -, -⟩ := id Bb
        obtain ⟨kc0, kc1, kc2, kc3, kc4, kc5, kc6, kc7, kc8, -, -, -, -, -, -, -, -, -⟩ := id Bc
        obtain ⟨kx0, kx1, kx2, kx3, kx4, kx5, kx6, kx7, kx8, -, -, -, -, -, -, -, -, -⟩ := id Bx
        obtain ⟨kw0, kw1, kw2, kw3, kw4, kw5, kw6, kw7, kw8, -, -, -, -, -, -, -, -, -⟩ := id Bw
        obtain ⟨ky0, ky1, ky2, ky3, ky4, ky5, ky6, ky7, ky8, -, -, -, -, -, -, -, -, -⟩ := id By
        obtain ⟨kp0, kp1, kp2, kp3, kp4, kp5, kp6, kp7, kp8, -, -, -, -, -, -, -, -, -⟩ := id Bp
        obtain ⟨kq0, kq1, kq2, kq3, kq4, kq5, kq6, kq7, kq8, -, -, -, -, -, -, -, -, -⟩ := id Bq
        go_wp2_with fail
        refine (sameA F (Nm.wn e.z) e.T e.nn e.bd e.pl e.mi e.am ap aq cp cq (Nm.wl e.z) _ sp sq hle).mono ?_
        rintro r w9 ⟨rfl, hb⟩
        clear ka0 ka1 ka2 ka3 ka4 ka5 ka6 ka7 ka8 kb0 kb1 kb2 kb3 kb4 kb5 kb6 kb7 kb8 kc0 kc1 kc2 kc3 kc4 kc5 kc6 kc7 kc8 kx0 kx1 kx2 kx3 kx4 kx5 kx6 kx7 kx8 kw0 kw1 kw2 kw3 kw4 kw5 kw6 kw7 kw8 ky0 ky1 ky2 ky3 ky4 ky5 ky6 ky7 ky8 kp0 kp1 kp2 kp3 kp4 kp5 kp6 kp7 kp8 kq0 kq1 kq2 kq3 kq4 kq5 kq6 kq7 kq8
        replace bel := bel_go bel hb
        replace hT := hT.below hb
        replace s1 := s1.below hb
        replace s2 := s2.below hb
        replace s3 := s3.below hb
        replace Ba := Ba.below hb
        replace Bb := Bb.below hb
        replace Bc := Bc.below hb
        replace sx := sx.below hb
        replace Bx := Bx.below hb
        replace sw := sw.below hb
        replace Bw := Bw.below hb
        replace sy := sy.below hb
        replace By := By.below hb
        replace sp := sp.below hb
        replace Bp := Bp.below hb
        replace sq := sq.below hb
        replace Bq := Bq.below hb
        clear hb
        obtain ⟨ka0, ka1, ka2, ka3, ka4, ka5, ka6, ka7, ka8, -, -, -, -, -, -, -, -, -⟩ := id Ba
        obtain ⟨kb0, kb1, kb2, kb3, kb4, kb5, kb6, kb7, kb8, -, -, -, -, -, -, -, -, -⟩ := id Bb
        obtain ⟨kc0, kc1, kc2, kc3, kc4, kc5, kc6, kc7, kc8, -, -, -, -, -, -, -, -, -⟩ := id Bc
        obtain ⟨kx0, kx1, kx2, kx3, kx4, kx5, kx6, kx7, kx8, -, -, -, -, -, -, -, -, -⟩ := id Bx
        obtain ⟨kw0, kw1, kw2, kw3, kw4, kw5, kw6, kw7, kw8, -, -, -, -, -, -, -, -, -⟩ := id Bw
        obtain ⟨ky0, ky1, ky2, ky3, ky4, ky5, ky6, ky7, ky8, -, -, -, -, -, -, -, -, -⟩ := id By
        obtain ⟨kp0, kp1, kp2, kp3, kp4, kp5, kp6, kp7, kp8, -, -, -, -, -, -, -, -, -⟩ := id Bp
        obtain ⟨kq0, kq1, kq2, kq3, kq4, kq5, kq6, kq7, kq8, -, -, -, -, -, -, -, -, -⟩ := id Bq
        go_wp2
        all_goals go_ret
        all_goals exact ⟨rfl, bel⟩
      · have CP := hid (fun p q w' h k1 k2 => mgI3 F x v p a3 q c3 w' h hX hV (by omega) k1 k2)
        have CQ := hid (fun p q w' h k1 k2 => mgI3 F s y a p c q w' h hR hY (by omega) k1 k2)
        clear hk hj hk0 hj0 hR hQ hX h_x p1 p2 p4 d1 d2 d3 l1 l2 l3 hV hY h_y q1 q2 q4 tx ty hm
        replace hT := hT.below (al_b _ (.cells #[.int .i64 F, .bool (Nm.wn v.z), .slice a3 (Nm.wl v.z).length c3, .int .i64 v.T, .bool v.nn, .bool v.bd, .bool v.pl, .bool v.mi, .bool v.am] 50))
        replace s1 := s1.below (al_b _ (.cells #[.int .i64 F, .bool (Nm.wn v.z), .slice a3 (Nm.wl v.z).length c3, .int .i64 v.T, .bool v.nn, .bool v.bd, .bool v.pl, .bool v.mi, .bool v.am] 50))
        replace s2 := s2.below (al_b _ (.cells #[.int .i64 F, .bool (Nm.wn v.z), .slice a3 (Nm.wl v.z).length c3, .int .i64 v.T, .bool v.nn, .bool v.bd, .bool v.pl, .bool v.mi, .bool v.am] 50))
        replace s3 := s3.below (al_b _ (.cells #[.int .i64 F, .bool (Nm.wn v.z), .slice a3 (Nm.wl v.z).length c3, .int .i64 v.T, .bool v.nn, .bool v.bd, .bool v.pl, .bool v.mi, .bool v.am] 50))
        replace Ba := Ba.below (al_b _ (.cells #[.int .i64 F, .bool (Nm.wn v.z), .slice a3 (Nm.wl v.z).length c3, .int .i64 v.T, .bool v.nn, .bool v.bd, .bool v.pl, .bool v.mi, .bool v.am] 50))
        replace Bb := Bb.below (al_b _ (.cells #[.int .i64 F, .bool (Nm.wn v.z), .slice a3 (Nm.wl v.z).length c3, .int .i64 v.T, .bool v.nn, .bool v.bd, .bool v.pl, .bool v.mi, .bool v.am] 50))
        replace bel := bel_al bel (.cells #[.int .i64 F, .bool (Nm.wn v.z), .slice a3 (Nm.wl v.z).length c3, .int .i64 v.T, .bool v.nn, .bool v.bd, .bool v.pl, .bool v.mi, .bool v.am] 50)
        have Bc := Q9.new w2 (.int .i64 F) (.bool (Nm.wn v.z)) (.slice a3 (Nm.wl v.z).length c3) (.int .i64 v.T) (.bool v.nn) (.bool v.bd) (.bool v.pl) (.bool v.mi) (.bool v.am) 50
        replace hT := hT.below (al_b _ (.cells #[.int .i64 F4, .bool ng4, .slice a4 zs4.length c4, .int .i64 T4, .bool nn4, .bool bd4, .bool pl4, .bool mi4, .bool am4] 50))
        replace s1 := s1.below (al_b _ (.cells #[.int .i64 F4, .bool ng4, .slice a4 zs4.length c4, .int .i64 T4, .bool nn4, .bool bd4, .bool pl4, .bool mi4, .bool am4] 50))
        replace s2 := s2.below (al_b _ (.cells #[.int .i64 F4, .bool ng4, .slice a4 zs4.length c4, .int .i64 T4, .bool nn4, .bool bd4, .bool pl4, .bool mi4, .bool am4] 50))
        replace s3 := s3.below (al_b _ (.cells #[.int .i64 F4, .bool ng4, .slice a4 zs4.length c4, .int .i64 T4, .bool nn4, .bool bd4, .bool pl4, .bool mi4, .bool am4] 50))
        replace Ba := Ba.below (al_b _ (.cells #[.int .i64 F4, .bool ng4, .slice a4 zs4.length c4, .int .i64 T4, .bool nn4, .bool bd4, .bool pl4, .bool mi4, .bool am4] 50))
        replace Bb := Bb.below (al_b _ (.cells #[.int .i64 F4, .bool ng4, .slice a4 zs4.length c4, .int .i64 T4, .bool nn4, .bool bd4, .bool pl4, .bool mi4, .bool am4] 50))
        replace Bc := Bc.below (al_b _ (.cells #[.int .i64 F4, .bool ng4, .slice a4 zs4.length c4, .int .i64 T4, .bool nn4, .bool bd4, .bool pl4, .bool mi4, .bool am4] 50))
        replace bel := bel_al bel (.cells #[.int .i64 F4, .bool ng4, .slice a4 zs4.length c4, .int .i64 T4, .bool nn4, .bool bd4, .bool pl4, .bool mi4, .bool am4] 50)
        have Be := Q9.new (w2.alloc (.cells #[.int .i64 F, .bool (Nm.wn v.z), .slice a3 (Nm.wl v.z).length c3, .int .i64 v.T, .bool v.nn, .bool v.bd, .bool v.pl, .bool v.mi, .bool v.am] 50)) (.int .i64 F4) (.bool ng4) (.slice a4 zs4.length c4) (.int .i64 T4) (.bool nn4) (.bool bd4) (.bool pl4) (.bool mi4) (.bool am4) 50
        clear Be
        obtain ⟨ka0, ka1, ka2, ka3, ka4, ka5, ka6, ka7, ka8, -, -, -, -, -, -, -, -, -⟩ := id Ba
        obtain ⟨kb0, kb1, kb2, kb3, kb4, kb5, kb6, kb7, kb8, -, -, -, -, -, -, -, -, -⟩ := id Bb
        obtain ⟨kc0, kc1, kc2, kc3, kc4, kc5, kc6, kc7, kc8, -, -, -, -, -, -, -, -, -⟩ := id Bc
        go_wp2_with fail
        refine (CI.out _ hT s1 s2).mono ?_
        rintro r w3 ⟨ax, cx, rfl, ox, hb⟩
        clear ka0 ka1 ka2 ka3 ka4 ka5 ka6 ka7 ka8 kb0 kb1 kb2 kb3 kb4 kb5 kb6 kb7 kb8 kc0 kc1 kc2 kc3 kc4 kc5 kc6 kc7 kc8
        replace bel := bel_go bel hb
        replace hT := hT.below hb
        replace s1 := s1.below hb
        replace s2 := s2.below hb
        replace s3 := s3.below hb
        replace Ba := Ba.below hb
        replace Bb := Bb.below hb
        replace Bc := Bc.below hb
        clear hb
        have sx := ox.sl
        clear ox
        replace hT := hT.below (al_b _ (.cells #[.int .i64 F, .bool (Nm.wn x.z), .slice ax (Nm.wl x.z).length cx, .int .i64 x.T, .bool x.nn, .bool x.bd, .bool x.pl, .bool x.mi, .bool x.am] 50))
        replace s1 := s1.below (al_b _ (.cells #[.int .i64 F, .bool (Nm.wn x.z), .slice ax (Nm.wl x.z).length cx, .int .i64 x.T, .bool x.nn, .bool x.bd, .bool x.pl, .bool x.mi, .bool x.am] 50))
        replace s2 := s2.below (al_b _ (.cells #[.int .i64 F, .bool (Nm.wn x.z), .slice ax (Nm.wl x.z).length cx, .int .i64 x.T, .bool x.nn, .bool x.bd, .bool x.pl, .bool x.mi, .bool x.am] 50))
        replace s3 := s3.below (al_b _ (.cells #[.int .i64 F, .bool (Nm.wn x.z), .slice ax (Nm.wl x.z).length cx, .int .i64 x.T, .bool x.nn, .bool x.bd, .bool x.pl, .bool x.mi, .bool x.am] 50))
        replace Ba := Ba.below (al_b _ (.cells #[.int .i64 F, .bool (Nm.wn x.z), .slice ax (Nm.wl x.z).length cx, .int .i64 x.T, .bool x.nn, .bool x.bd, .bool x.pl, .bool x.mi, .bool x.am] 50))
        replace Bb := Bb.below (al_b _ (.cells #[.int .i64 F, .bool (Nm.wn x.z), .slice ax (Nm.wl x.z).length cx, .int .i64 x.T, .bool x.nn, .bool x.bd, .bool x.pl, .bool x.mi, .bool x.am] 50))
        replace Bc := Bc.below (al_b _ (.cells #[.int .i64 F, .bool (Nm.wn x.z), .slice ax (Nm.wl x.z).length cx, .int .i64 x.T, .bool x.nn, .bool x.bd, .bool x.pl, .bool x.mi, .bool x.am] 50))
        replace sx := sx.below (al_b _ (.cells #[.int .i64 F, .bool (Nm.wn x.z), .slice ax (Nm.wl x.z).length cx, .int .i64 x.T, .bool x.nn, .bool x.bd, .bool x.pl, .bool x.mi, .bool x.am] 50))
        replace bel := bel_al bel (.cells #[.int .i64 F, .bool (Nm.wn x.z), .slice ax (Nm.wl x.z).length cx, .int .i64 x.T, .bool x.nn, .bool x.bd, .bool x.pl, .bool x.mi, .bool x.am] 50)
        have Bx := Q9.new w3 (.int .i64 F) (.bool (Nm.wn x.z)) (.slice ax (Nm.wl x.z).length cx) (.int .i64 x.T) (.bool x.nn) (.bool x.bd) (.bool x.pl) (.bool x.mi) (.bool x.am) 50
        obtain ⟨ka0, ka1, ka2, ka3, ka4, ka5, ka6, ka7, ka8, -, -, -, -, -, -, -, -, -⟩ := id Ba
        obtain ⟨kb0, kb1, kb2, kb3, kb4, kb5, kb6, kb7, kb8, -, -, -, -, -, -, -, -, -⟩ := id Bb
        obtain ⟨kc0, kc1, kc2, kc3, kc4, kc5, kc6, kc7, kc8, -, -, -, -, -, -, -, -, -⟩ := id Bc
        obtain ⟨kx0, kx1, kx2, kx3, kx4, kx5, kx6, kx7, kx8, -, -, -, -, -, -, -, -, -⟩ := id Bx
        go_wp2_with fail
        refine (CS.out _ s1 s2).mono ?_
        rintro r w4 ⟨aw, cw, rfl, ow, hb⟩
        clear ka0 ka1 ka2 ka3 ka4 ka5 ka6 ka7 ka8 kb0 kb1 kb2 kb3 kb4 kb5 kb6 kb7 kb8 kc0 kc1 kc2 kc3 kc4 kc5 kc6 kc7 kc8 kx0 kx1 kx2 kx3 kx4 kx5 kx6 kx7 kx8
        replace bel := bel_go bel hb
        replace hT := hT.below hb
        replace s1 := s1.below hb
        replace s2 := s2.below hb
        replace s3 := s3.below hb
        replace Ba := Ba.below hb
        replace Bb := Bb.below hb
        replace Bc := Bc.below hb
        replace sx := sx.below hb
        replace Bx := Bx.below hb
        clear hb
        have sw := ow.sl
        clear ow
        replace hT := hT.below (al_b _ (.cells #[.int .i64 F, .bool (Nm.wn x.z), .slice aw (Nm.wl x.z).length cw, .int .i64 x.T, .bool x.nn, .bool x.bd, .bool x.pl, .bool x.mi, .bool x.am] 50))
        replace s1 := s1.below (al_b _ (.cells #[.int .i64 F, .bool (Nm.wn x.z), .slice aw (Nm.wl x.z).length cw, .int .i64 x.T, .bool x.nn, .bool x.bd, .bool x.pl, .bool x.mi, .bool x.am] 50))
        replace s2 := s2.below (al_b _ (.cells #[.int .i64 F, .bool (Nm.wn x.z), .slice aw (Nm.wl x.z).length cw, .int .i64 x.T, .bool x.nn, .bool x.bd, .bool x.pl, .bool x.mi, .bool x.am] 50))
        replace s3 := s3.below (al_b _ (.cells #[.int .i64 F, .bool (Nm.wn x.z), .slice aw (Nm.wl x.z).length cw, .int .i64 x.T, .bool x.nn, .bool x.bd, .bool x.pl, .bool x.mi, .bool x.am] 50))
        replace Ba := Ba.below (al_b _ (.cells #[.int .i64 F, .bool (Nm.wn x.z), .slice aw (Nm.wl x.z).length cw, .int .i64 x.T, .bool x.nn, .bool x.bd, .bool x.pl, .bool x.mi, .bool x.am] 50))
        replace Bb := Bb.below (al_b _ (.cells #[.int .i64 F, .bool (Nm.wn x.z), .slice aw (Nm.wl x.z).length cw, .int .i64 x.T, .bool x.nn, .bool x.bd, .bool x.pl, .bool x.mi, .bool x.am] 50))
        replace Bc := Bc.below (al_b _ (.cells #[.int .i64 F, .bool (Nm.wn x.z), .slice aw (Nm.wl x.z).length cw, .int .i64 x.T, .bool x.nn, .bool x.bd, .bool x.pl, .bool x.mi, .bool x.am] 50))
        replace sx := sx.below (al_b _ (.cells #[.int .i64 F, .bool (Nm.wn x.z), .slice aw (Nm.wl x.z).length cw, .int .i64 x.T, .bool x.nn, .bool x.bd, .bool x.pl, .bool x.mi, .bool x.am] 50))
        replace Bx := Bx.below (al_b _ (.cells #[.int .i64 F, .bool (Nm.wn x.z), .slice aw (Nm.wl x.z).length cw, .int .i64 x.T, .bool x.nn, .bool x.bd, .bool x.pl, .bool x.mi, .bool x.am] 50))
        replace sw := sw.below (al_b _ (.cells #[.int .i64 F, .bool (Nm.wn x.z), .slice aw (Nm.wl x.z).length cw, .int .i64 x.T, .bool x.nn, .bool x.bd, .bool x.pl, .bool x.mi, .bool x.am] 50))
        replace bel := bel_al bel (.cells #[.int .i64 F, .bool (Nm.wn x.z), .slice aw (Nm.wl x.z).length cw, .int .i64 x.T, .bool x.nn, .bool x.bd, .bool x.pl, .bool x.mi, .bool x.am] 50)
        have Bw := Q9.new w4 (.int .i64 F) (.bool (Nm.wn x.z)) (.slice aw (Nm.wl x.z).length cw) (.int .i64 x.T) (.bool x.nn) (.bool x.bd) (.bool x.pl) (.bool x.mi) (.bool x.am) 50
        obtain ⟨ka0, ka1, ka2, ka3, ka4, ka5, ka6, ka7, ka8, -, -, -, -, -, -, -, -, -⟩ := id Ba
        obtain ⟨kb0, kb1, kb2, kb3, kb4, kb5, kb6, kb7, kb8, -, -, -, -, -, -, -, -, -⟩ := id Bb
        obtain ⟨kc0, kc1, kc2, kc3, kc4, kc5, kc6, kc7, kc8, -, -, -, -, -, -, -, -, -⟩ := id Bc
        obtain ⟨kx0, kx1, kx2, kx3, kx4, kx5, kx6, kx7, kx8, -, -, -, -, -, -, -, -, -⟩ := id Bx
        obtain ⟨kw0, kw1, kw2, kw3, kw4, kw5, kw6, kw7, kw8, -, -, -, -, -, -, -, -, -⟩ := id Bw
        go_wp2_with fail
        refine (CJ.out _ hT s2 s3).mono ?_
        rintro r w5 ⟨ay, cy, rfl, oy, hb⟩
        clear ka0 ka1 ka2 ka3 ka4 ka5 ka6 ka7 ka8 kb0 kb1 kb2 kb3 kb4 kb5 kb6 kb7 kb8 kc0 kc1 kc2 kc3 kc4 kc5 kc6 kc7 kc8 kx0 kx1 kx2 kx3 kx4 kx5 kx6 kx7 kx8 kw0 kw1 kw2 kw3 kw4 kw5 kw6 kw7 kw8
        replace bel := bel_go bel hb
        replace hT := hT.below hb
        replace s1 := s1.below hb
        replace s2 := s2.below hb
        replace s3 := s3.below hb
        replace Ba := Ba.below hb
        replace Bb := Bb.below hb
        replace Bc := Bc.below hb
        replace sx := sx.below hb
        replace Bx := Bx.below hb
        replace sw := sw.below hb
        replace Bw := Bw.below hb
        clear hb
        have sy := oy.sl
        clear oy
        replace hT := hT.below (al_b _ (.cells #[.int .i64 F, .bool (Nm.wn y.z), .slice ay (Nm.wl y.z).length cy, .int .i64 y.T, .bool y.nn, .bool y.bd, .bool y.pl, .bool y.mi, .bool y.am] 50))
        replace s1 := s1.below (al_b _ (.cells #[.int .i64 F, .bool (Nm.wn y.z), .slice ay (Nm.wl y.z).length cy, .int .i64 y.T, .bool y.nn, .bool y.bd, .bool y.pl, .bool y.mi, .bool y.am] 50))
        replace s2 := s2.below (al_b _ (.cells #[.int .i64 F, .bool (Nm.wn y.z), .slice ay (Nm.wl y.z).length cy, .int .i64 y.T, .bool y.nn, .bool y.bd, .bool y.pl, .bool y.mi, .bool y.am] 50))
        replace s3 := s3.below (al_b _ (.cells #[.int .i64 F, .bool (Nm.wn y.z), .slice ay (Nm.wl y.z).length cy, .int .i64 y.T, .bool y.nn, .bool y.bd, .bool y.pl, .bool y.mi, .bool y.am] 50))
        replace Ba := Ba.below (al_b _ (.cells #[.int .i64 F, .bool (Nm.wn y.z), .slice ay (Nm.wl y.z).length cy, .int .i64 y.T, .bool y.nn, .bool y.bd, .bool y.pl, .bool y.mi, .bool y.am] 50))
        replace Bb := Bb.below (al_b _ (.cells #[.int .i64 F, .bool (Nm.wn y.z), .slice ay (Nm.wl y.z).length cy, .int .i64 y.T, .bool y.nn, .bool y.bd, .bool y.pl, .bool y.mi, .bool y.am] 50))
        replace Bc := Bc.below (al_b _ (.cells #[.int .i64 F, .bool (Nm.wn y.z), .slice ay (Nm.wl y.z).length cy, .int .i64 y.T, .bool y.nn, .bool y.bd, .bool y.pl, .bool y.mi, .bool y.am] 50))
        replace sx := sx.below (al_b _ (.cells #[.int .i64 F, .bool (Nm.wn y.z), .slice ay (Nm.wl y.z).length cy, .int .i64 y.T, .bool y.nn, .bool y.bd, .bool y.pl, .bool y.mi, .bool y.am] 50))
        replace Bx := Bx.below (al_b _ (.cells #[.int .i64 F, .bool (Nm.wn y.z), .slice ay (Nm.wl y.z).length cy, .int .i64 y.T, .bool y.nn, .bool y.bd, .bool y.pl, .bool y.mi, .bool y.am] 50))
        replace sw := sw.below (al_b _ (.cells #[.int .i64 F, .bool (Nm.wn y.z), .slice ay (Nm.wl y.z).length cy, .int .i64 y.T, .bool y.nn, .bool y.bd, .bool y.pl, .bool y.mi, .bool y.am] 50))
        replace Bw := Bw.below (al_b _ (.cells #[.int .i64 F, .bool (Nm.wn y.z), .slice ay (Nm.wl y.z).length cy, .int .i64 y.T, .bool y.nn, .bool y.bd, .bool y.pl, .bool y.mi, .bool y.am] 50))
        replace sy := sy.below (al_b _ (.cells #[.int .i64 F, .bool (Nm.wn y.z), .slice ay (Nm.wl y.z).length cy, .int .i64 y.T, .bool y.nn, .bool y.bd, .bool y.pl, .bool y.mi, .bool y.am] 50))
        replace bel := bel_al bel (.cells #[.int .i64 F, .bool (Nm.wn y.z), .slice ay (Nm.wl y.z).length cy, .int .i64 y.T, .bool y.nn, .bool y.bd, .bool y.pl, .bool y.mi, .bool y.am] 50)
        have By := Q9.new w5 (.int .i64 F) (.bool (Nm.wn y.z)) (.slice ay (Nm.wl y.z).length cy) (.int .i64 y.T) (.bool y.nn) (.bool y.bd) (.bool y.pl) (.bool y.mi) (.bool y.am) 50
        obtain ⟨ka0, ka1, ka2, ka3, ka4, ka5, ka6, ka7, ka8, -, -, -, -, -, -, -, -, -⟩ := id Ba
        obtain ⟨kb0, kb1, kb2, kb3, kb4, kb5, kb6, kb7, kb8, -, -, -, -, -, -, -, -, -⟩ := id Bb
        obtain ⟨kc0, kc1, kc2, kc3, kc4, kc5, kc6, kc7, kc8, -, -, -, -, -, -, -, -, -⟩ := id Bc
        obtain ⟨kx0, kx1, kx2, kx3, kx4, kx5, kx6, kx7, kx8, -, -, -, -, -, -, -, -, -⟩ := id Bx
        obtain ⟨kw0, kw1, kw2, kw3, kw4, kw5, kw6, kw7, kw8, -, -, -, -, -, -, -, -, -⟩ := id Bw
        obtain ⟨ky0, ky1, ky2, ky3, ky4, ky5, ky6, ky7, ky8, -, -, -, -, -, -, -, -, -⟩ := id By
        go_wp2_with fail
        refine (sameA F (Nm.wn x.z) x.T x.nn x.bd x.pl x.mi x.am ax aw cx cw (Nm.wl x.z) _ sx sw hlx).mono ?_
        rintro r w6 ⟨rfl, hb⟩
        clear ka0 ka1 ka2 ka3 ka4 ka5 ka6 ka7 ka8 kb0 kb1 kb2 kb3 kb4 kb5 kb6 kb7 kb8 kc0 kc1 kc2 kc3 kc4 kc5 kc6 kc7 kc8 kx0 kx1 kx2 kx3 kx4 kx5 kx6 kx7 kx8 kw0 kw1 kw2 kw3 kw4 kw5 kw6 kw7 kw8 ky0 ky1 ky2 ky3 ky4 ky5 ky6 ky7 ky8
        replace bel := bel_go bel hb
        replace hT := hT.below hb
        replace s1 := s1.below hb
        replace s2 := s2.below hb
        replace s3 := s3.below hb
        replace Ba := Ba.below hb
        replace Bb := Bb.below hb
        replace Bc := Bc.below hb
        replace sx := sx.below hb
        replace Bx := Bx.below hb
        replace sw := sw.below hb
        replace Bw := Bw.below hb
        replace sy := sy.below hb
        replace By := By.below hb
        clear hb
        obtain ⟨ka0, ka1, ka2, ka3, ka4, ka5, ka6, ka7, ka8, -, -, -, -, -, -, -, -, -⟩ := id Ba
        obtain ⟨kb0, kb1, kb2, kb3, kb4, kb5, kb6, kb7, kb8, -, -, -, -, -, -, -, -, -⟩ := id Bb
        obtain ⟨kc0, kc1, kc2, kc3, kc4, kc5, kc6, kc7, kc8, -, -, -, -, -, -, -, -, -⟩ := id Bc
        obtain ⟨kx0, kx1, kx2, kx3, kx4, kx5, kx6, kx7, kx8, -, -, -, -, -, -, -, -, -⟩ := id Bx
        obtain ⟨kw0, kw1, kw2, kw3, kw4, kw5, kw6, kw7, kw8, -, -, -, -, -, -, -, -, -⟩ := id Bw
        obtain ⟨ky0, ky1, ky2, ky3, ky4, ky5, ky6, ky7, ky8, -, -, -, -, -, -, -, -, -⟩ := id By
        go_wp2_with fail
        refine (CP.out ax cx _ hT sx s3).mono ?_
        rintro r w7 ⟨rfl, hb⟩
        clear ka0 ka1 ka2 ka3 ka4 ka5 ka6 ka7 ka8 kb0 kb1 kb2 kb3 kb4 kb5 kb6 kb7 kb8 kc0 kc1 kc2 kc3 kc4 kc5 kc6 kc7 kc8 kx0 kx1 kx2 kx3 kx4 kx5 kx6 kx7 kx8 kw0 kw1 kw2 kw3 kw4 kw5 kw6 kw7 kw8 ky0 ky1 ky2 ky3 ky4 ky5 ky6 ky7 ky8
        replace bel := bel_go bel hb
        replace hT := hT.below hb
        replace s1 := s1.below hb
        replace s2 := s2.below hb
        replace s3 := s3.below hb
        replace Ba := Ba.below hb
        replace Bb := Bb.below hb
        replace Bc := Bc.below hb
        replace sx := sx.below hb
        replace Bx := Bx.below hb
        replace sw := sw.below hb
        replace Bw := Bw.below hb
        replace sy := sy.below hb
        replace By := By.below hb
        clear hb
        replace hT := hT.below (al_b _ (.cells #[.int .i64 0, .bool false, .slice none 0 0, .int .i64 0, .bool false, .bool false, .bool false, .bool false, .bool false] 50))
        replace s1 := s1.below (al_b _ (.cells #[.int .i64 0, .bool false, .slice none 0 0, .int .i64 0, .bool false, .bool false, .bool false, .bool false, .bool false] 50))
        replace s2 := s2.below (al_b _ (.cells #[.int .i64 0, .bool false, .slice none 0 0, .int .i64 0, .bool false, .bool false, .bool false, .bool false, .bool false] 50))
        replace s3 := s3.below (al_b _ (.cells #[.int .i64 0, .bool false, .slice none 0 0, .int .i64 0, .bool false, .bool false, .bool false, .bool false, .bool false] 50))
        replace Ba := Ba.below (al_b _ (.cells #[.int .i64 0, .bool false, .slice none 0 0, .int .i64 0, .bool false, .bool false, .bool false, .bool false, .bool false] 50))
        replace Bb := Bb.below (al_b _ (.cells #[.int .i64 0, .bool false, .slice none 0 0, .int .i64 0, .bool false, .bool false, .bool false, .bool false, .bool false] 50))
        replace Bc := Bc.below (al_b _ (.cells #[.int .i64 0, .bool false, .slice none 0 0, .int .i64 0, .bool false, .bool false, .bool false, .bool false, .bool false] 50))
        replace sx := sx.below (al_b _ (.cells #[.int .i64 0, .bool false, .slice none 0 0, .int .i64 0, .bool false, .bool false, .bool false, .bool false, .bool false] 50))
        replace Bx := Bx.below (al_b _ (.cells #[.int .i64 0, .bool false, .slice none 0 0, .int .i64 0, .bool false, .bool false, .bool false, .bool false, .bool false] 50))
        replace sw := sw.below (al_b _ (.cells #[.int .i64 0, .bool false, .slice none 0 0, .int .i64 0, .bool false, .bool false, .bool false, .bool false, .bool false] 50))
        replace Bw := Bw.below (al_b _ (.cells #[.int .i64 0, .bool false, .slice none 0 0, .int .i64 0, .bool false, .bool false, .bool false, .bool false, .bool false] 50))
        replace sy := sy.below (al_b _ (.cells #[.int .i64 0, .bool false, .slice none 0 0, .int .i64 0, .bool false, .bool false, .bool false, .bool false, .bool false] 50))
        replace By := By.below (al_b _ (.cells #[.int .i64 0, .bool false, .slice none 0 0, .int .i64 0, .bool false, .bool false, .bool false, .bool false, .bool false] 50))
        replace bel := bel_al bel (.cells #[.int .i64 0, .bool false, .slice none 0 0, .int .i64 0, .bool false, .bool false, .bool false, .bool false, .bool false] 50)
        have Bp := Q9.new w7 (.int .i64 0) (.bool false) (.slice none 0 0) (.int .i64 0) (.bool false) (.bool false) (.bool false) (.bool false) (.bool false) 50
        obtain ⟨ka0, ka1, ka2, ka3, ka4, ka5, ka6, ka7, ka8, -, -, -, -, -, -, -, -, -⟩ := id Ba
        obtain ⟨kb0, kb1, kb2, kb3, kb4, kb5, kb6, kb7, kb8, -, -, -, -, -, -, -, -, -⟩ := id Bb
        obtain ⟨kc0, kc1, kc2, kc3, kc4, kc5, kc6, kc7, kc8, -, -, -, -, -, -, -, -, -⟩ := id Bc
        obtain ⟨kx0, kx1, kx2, kx3, kx4, kx5, kx6, kx7, kx8, -, -, -, -, -, -, -, -, -⟩ := id Bx
        obtain ⟨kw0, kw1, kw2, kw3, kw4, kw5, kw6, kw7, kw8, -, -, -, -, -, -, -, -, -⟩ := id Bw
        obtain ⟨ky0, ky1, ky2, ky3, ky4, ky5, ky6, ky7, ky8, -, -, -, -, -, -, -, -, -⟩ := id By
        obtain ⟨kp0, kp1, kp2, kp3, kp4, kp5, kp6, kp7, kp8, -, -, -, -, -, -, -, -, -⟩ := id Bp
        go_wp2_with fail
        refine (CQ.out ay cy _ hT s1 sy).mono ?_
        rintro r w8 ⟨rfl, hb⟩
        clear ka0 ka1 ka2 ka3 ka4 ka5 ka6 ka7 ka8 kb0 kb1 kb2 kb3 kb4 kb5 kb6 kb7 kb8 kc0 kc1 kc2 kc3 kc4 kc5 kc6 kc7 kc8 kx0 kx1 kx2 kx3 kx4 kx5 kx6 kx7 kx8 kw0 kw1 kw2 kw3 kw4 kw5 kw6 kw7 kw8 ky0 ky1 ky2 ky3 ky4 ky5 ky6 ky7 ky8 kp0 kp1 kp2 kp3 kp4 kp5 kp6 kp7 kp8
        replace bel := bel_go bel hb
        replace hT := hT.below hb
        replace s1 := s1.below hb
        replace s2 := s2.below hb
        replace s3 := s3.below hb
        replace Ba := Ba.below hb
        replace Bb := Bb.below hb
        replace Bc := Bc.below hb
        replace sx := sx.below hb
        replace Bx := Bx.below hb
        replace sw := sw.below hb
        replace Bw := Bw.below hb
        replace sy := sy.below hb
        replace By := By.below hb
        replace Bp := Bp.below hb
        clear hb
        replace hT := hT.below (al_b _ (.cells #[.int .i64 0, .bool false, .slice none 0 0, .int .i64 0, .bool false, .bool false, .bool false, .bool false, .bool false] 50))
        replace s1 := s1.below (al_b _ (.cells #[.int .i64 0, .bool false, .slice none 0 0, .int .i64 0, .bool false, .bool false, .bool false, .bool false, .bool false] 50))
        replace s2 := s2.below (al_b _ (.cells #[.int .i64 0, .bool false, .slice none 0 0, .int .i64 0, .bool false, .bool false, .bool false, .bool false, .bool false] 50))
        replace s3 := s3.below (al_b _ (.cells #[.int .i64 0, .bool false, .slice none 0 0, .int .i64 0, .bool false, .bool false, .bool false, .bool false, .bool false] 50))
        replace Ba := Ba.below (al_b _ (.cells #[.int .i64 0, .bool false, .slice none 0 0, .int .i64 0, .bool false, .bool false, .bool false, .bool false, .bool false] 50))
        replace Bb := Bb.below (al_b _ (.cells #[.int .i64 0, .bool false, .slice none 0 0, .int .i64 0, .bool false, .bool false, .bool false, .bool false, .bool false] 50))
        replace Bc := Bc.below (al_b _ (.cells #[.int .i64 0, .bool false, .slice none 0 0, .int .i64 0, .bool false, .bool false, .bool false, .bool false, .bool false] 50))
        replace sx := sx.below (al_b _ (.cells #[.int .i64 0, .bool false, .slice none 0 0, .int .i64 0, .bool false, .bool false, .bool false, .bool false, .bool false] 50))
        replace Bx := Bx.below (al_b _ (.cells #[.int .i64 0, .bool false, .slice none 0 0, .int .i64 0, .bool false, .bool false, .bool false, .bool false, .bool false] 50))
        replace sw := sw.below (al_b _ (.cells #[.int .i64 0, .bool false, .slice none 0 0, .int .i64 0, .bool false, .bool false, .bool false, .bool false, .bool false] 50))
        replace Bw := Bw.below (al_b _ (.cells #[.int .i64 0, .bool false, .slice none 0 0, .int .i64 0, .bool false, .bool false, .bool false, .bool false, .bool false] 50))
        replace sy := sy.below (al_b _ (.cells #[.int .i64 0, .bool false, .slice none 0 0, .int .i64 0, .bool false, .bool false, .bool false, .bool false, .bool false] 50))
        replace By := By.below (al_b _ (.cells #[.int .i64 0, .bool false, .slice none 0 0, .int .i64 0, .bool false, .bool false, .bool false, .bool false, .bool false] 50))
        replace Bp := Bp.below (al_b _ (.cells #[.int .i64 0, .bool false, .slice none 0 0, .int .i64 0, .bool false, .bool false, .bool false, .bool false, .bool false] 50))
        replace bel := bel_al bel (.cells #[.int .i64 0, .bool false, .slice none 0 0, .int .i64 0, .bool false, .bool false, .bool false, .bool false, .bool false] 50)
        have Bq := Q9.new w8 (.int .i64 0) (.bool false) (.slice none 0 0) (.int .i64 0) (.bool false) (.bool false) (.bool false) (.bool false) (.bool false) 50
        obtain ⟨ka0, ka1, ka2, ka3, ka4, ka5, ka6, ka7, ka8, -, -, -, -, -, -, -, -, -⟩ := id Ba
        obtain ⟨kb0, kb1, kb2, kb3, kb4, kb5, kb6, kb7, kb8, -, -, -, -, -, -, -, -, -⟩ := id Bb
        obtain ⟨kc0, kc1, kc2, kc3, kc4, kc5, kc6, kc7, kc8, -, -, -, -, -, -, -, -, -⟩ := id Bc
        obtain ⟨kx0, kx1, kx2, kx3, kx4, kx5, kx6, kx7, kx8, -, -, -, -, -, -, -, -, -⟩ := id Bx
        obtain ⟨kw0, kw1, kw2, kw3, kw4, kw5, kw6, kw7, kw8, -, -, -, -, -, -, -, -, -⟩ := id Bw
        obtain ⟨ky0, ky1, ky2, ky3, ky4, ky5, ky6, ky7, ky8, -, -, -, -, -, -, -, -, -⟩ := id By
        obtain ⟨kp0, kp1, kp2, kp3, kp4, kp5, kp6, kp7, kp8, -, -, -, -, -, -, -, -, -⟩ := id Bp
        obtain ⟨kq0, kq1, kq2, kq3, kq4, kq5, kq6, kq7, kq8, -, -, -, -, -, -, -, -, -⟩ := id Bq
        go_wp2
        all_goals go_ret
        all_goals exact ⟨rfl, bel⟩
theorem amlaw_all (ca da : Option Addr) (cc dc : Nat) (cs ds : List Int) (w : World) (hT : Tab w) (hs : Sl .u8 w (.slice ca cs.length cc) cs) (hby : ∀ i, 0 ≤ cs.getD i 0 ∧ cs.getD i 0 ≤ 255) (ks : Sl .u8 w (.slice da ds.length dc) ds) (kby : ∀ i, 0 ≤ ds.getD i 0 ∧ ds.getD i 0 ≤ 255) :
    Calls Tryz.prog 8 #[.slice ca cs.length cc, .slice da ds.length dc] w fun e w' => e = .returned (.bool true) ∧ Below w.heap.size w w' := by
  have hlm : cs.length ≤ 9223372036854775807 := by obtain ⟨_, h1, h2, _⟩ := hs.cells; unfold maxLen at h2; omega
  have klm : ds.length ≤ 9223372036854775807 := by obtain ⟨_, h1, h2, _⟩ := ks.cells; unfold maxLen at h2; omega
  by_cases hl : cs.length ≤ 1048576
  · by_cases kl : ds.length ≤ 1048576
    · exact amlaw ca da cc dc cs ds w hT hs hby hl ks kby kl
    · have C1 := hid (big_any ca cs.length cc w hlm false (by simp; omega))
      have C2 := hid (big_any da ds.length dc w klm true (by simp; omega))
      clear hs hby ks kby hl kl hlm klm
      go_enter Tryz.func8, Tryz.ntmps8
      go_wp2_with fail
      refine C1.out.mono ?_
      rintro e w0 ⟨rfl, rfl⟩
      go_wp2_with fail
      refine C2.out.mono ?_
      rintro e w0 ⟨rfl, rfl⟩
      go_wp2
      go_ret
      exact ⟨rfl, Below.refl _ _⟩
  · have C1 := hid (big_any ca cs.length cc w hlm true (by simp; omega))
    clear hs hby ks kby hl hlm klm
    go_enter Tryz.func8, Tryz.ntmps8
    go_wp2_with fail
    refine C1.out.mono ?_
    rintro e w0 ⟨rfl, rfl⟩
    go_wp2
    go_ret
    exact ⟨rfl, Below.refl _ _⟩
end Fd
end Go.Proofs.YtkfjmcdniohljaaGreatDoor
