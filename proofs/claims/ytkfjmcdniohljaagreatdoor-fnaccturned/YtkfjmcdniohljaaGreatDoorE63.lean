/-
  What is needed of LAt.
-/
import Derived.Test.YtkfjmcdniohljaaGreatDoorE61
set_option maxHeartbeats 16000000
set_option maxRecDepth 1000000
namespace Go.Proofs.YtkfjmcdniohljaaGreatDoor
set_option linter.unusedVariables false
set_option linter.unusedSimpArgs false
open Go.RowKit Go.Deep
namespace Fd
theorem tcC_yes {ok all : Bool} {T : Int} (h : tcC ok all T = 0) : ok = true ∧ all = true ∧ T ≠ 1000000 := by
  unfold tcC at h
  cases ok <;> cases all <;> simp at h ⊢
  exact h
theorem add_turn {s : St} (t u : Tm) (h : 0 ≤ s.T) : (s.add t).add u = (s.add u).add t := by
  have e : decide (s.T + 1 = 0) = false := decide_eq_false (by omega)
  unfold St.add
  simp only [e, Bool.or_false]
  have e1 : s.z + t.v + u.v = s.z + u.v + t.v := by omega
  rw [e1, Bool.or_right_comm s.nn, Bool.or_right_comm s.bd, Bool.or_right_comm s.pl, Bool.or_right_comm s.mi]
  congr 1
  cases t.zm <;> cases u.zm <;> simp
theorem adI0 (F : Int) (ng : Bool) (T : Int) (nn bd pl mi am : Bool) (a : Option Addr) (c : Nat) (zs : List Int) (x : Int) (w : World) (hT : Tab w) (hs : Sl .u32 w (.slice a zs.length c) zs) (hl : zs.length ≤ 1048576) (x0 : 0 ≤ x) (x1 : x < 18446744073709551616) (k : Int) (hk : k = tcC (accB F ng zs T nn bd pl mi am) (okF F x) T) (h0 : k ≠ 0) :
    Calls Tryz.prog 33 #[.agg #[.int .i64 F, .bool ng, .slice a zs.length c, .int .i64 T, .bool nn, .bool bd, .bool pl, .bool mi, .bool am], .int .u64 x] w fun r w' => r = .returned (.tuple #[.agg #[.int .i64 0, .bool false, .slice none 0 0, .int .i64 0, .bool false, .bool false, .bool false, .bool false, .bool false], .int .i64 k]) ∧ Below w.heap.size w w' := addi_no F ng T nn bd pl mi am a c zs x w hT hs hl x0 x1 k hk h0
theorem adS0 (F : Int) (ng : Bool) (T : Int) (nn bd pl mi am : Bool) (a : Option Addr) (c : Nat) (zs : List Int) (x : Int) (w : World) (hs : Sl .u32 w (.slice a zs.length c) zs) (hl : zs.length ≤ 1048576) (x0 : 0 ≤ x) (x1 : x < 18446744073709551616) (k : Int) (hk : k = tcC (accB F ng zs T nn bd pl mi am) (okF F x) T) (h0 : k ≠ 0) :
    Calls Tryz.prog 34 #[.agg #[.int .i64 F, .bool ng, .slice a zs.length c, .int .i64 T, .bool nn, .bool bd, .bool pl, .bool mi, .bool am], .int .u64 x] w fun r w' => r = .returned (.tuple #[.agg #[.int .i64 0, .bool false, .slice none 0 0, .int .i64 0, .bool false, .bool false, .bool false, .bool false, .bool false], .int .i64 k]) ∧ Below w.heap.size w w' := adds_no F ng T nn bd pl mi am a c zs x w hs hl k hk h0
theorem atlaw2 (ca da : Option Addr) (cc dc : Nat) (cs ds : List Int) (w : World) (hT : EX w) (hs : Sl .u8 w (.slice ca cs.length cc) cs) (hby : ∀ i, 0 ≤ cs.getD i 0 ∧ cs.getD i 0 ≤ 255) (hl : cs.length ≤ 1048576) (ks : Sl .u8 w (.slice da ds.length dc) ds) (kby : ∀ i, 0 ≤ ds.getD i 0 ∧ ds.getD i 0 ≤ 255) (kl : ds.length ≤ 1048576) :
    Calls Tryz.prog 6 #[.slice ca cs.length cc, .slice da ds.length dc] w fun e w' => e = .returned (.bool true) ∧ Below w.heap.size w w' := by
  go_enter Tryz.func6, Tryz.ntmps6
  go_wp2_with fail
  refine (big_any ca cs.length cc _ (by omega) false (by simp; omega)).mono ?_
  rintro r w0 ⟨rfl, rfl⟩
  go_wp2_with fail
  refine (big_any da ds.length dc _ (by omega) false (by simp; omega)).mono ?_
  rintro r w0 ⟨rfl, rfl⟩
  go_wp2_with fail
  refine (drawAccAdd_x ca cc cs _ hs hby hl).mono ?_
  rintro r w1 ⟨F, ng, zs, T, nn, bd, pl, mi, am, a, c, x, rfl, x0, x1, l1, d1, o1, bel⟩
  replace hT := hT.below bel
  replace ks := ks.below bel
  have Ba := Q9.new w1 (.int .i64 F) (.bool ng) (.slice a zs.length c) (.int .i64 T) (.bool nn) (.bool bd) (.bool pl) (.bool mi) (.bool am) 50
  replace hT := hT.below (al_b _ (.cells #[.int .i64 F, .bool ng, .slice a zs.length c, .int .i64 T, .bool nn, .bool bd, .bool pl, .bool mi, .bool am] 50))
  replace ks := ks.below (al_b _ (.cells #[.int .i64 F, .bool ng, .slice a zs.length c, .int .i64 T, .bool nn, .bool bd, .bool pl, .bool mi, .bool am] 50))
  have s1 := o1.sl.below (al_b _ (.cells #[.int .i64 F, .bool ng, .slice a zs.length c, .int .i64 T, .bool nn, .bool bd, .bool pl, .bool mi, .bool am] 50))
  replace bel := bel_al bel (.cells #[.int .i64 F, .bool ng, .slice a zs.length c, .int .i64 T, .bool nn, .bool bd, .bool pl, .bool mi, .bool am] 50)
  clear o1
  go_wp2_with fail
  refine (drawAccAdd_x da dc ds _ ks kby kl).mono ?_
  rintro r w2 ⟨F2, ng2, zs2, T2, nn2, bd2, pl2, mi2, am2, a2, c2, y, rfl, y0, y1, l2, d2, o2, hb⟩
  replace bel := bel_go bel hb
  replace Ba := Ba.below hb
  replace s1 := s1.below hb
  obtain ⟨u, T'⟩ := hT.below hb
  clear hs hby hl ks kby kl hT o2 hb l2 d2
  obtain ⟨k, hk⟩ : ∃ k, k = tcC (accB F ng zs T nn bd pl mi am) (okF F x) T := ⟨_, rfl⟩
  by_cases h0 : k = 0
  rotate_left
  · have CI := hid (fun w' h h' => adI0 F ng T nn bd pl mi am a c zs x w' h h' (by omega) x0 x1 k hk h0)
    have CS := hid (fun w' h => adS0 F ng T nn bd pl mi am a c zs x w' h (by omega) x0 x1 k hk h0)
    have ne_k : (k != k) = false := by simp
    have eq_k : (k == k) = true := by simp
    have ne_0 : (k != 0) = true := by simpa using h0
    clear hk h0 d1 x0 x1 y0 y1
    replace T' := T'.below (al_b _ (.cells #[.int .i64 F2, .bool ng2, .slice a2 zs2.length c2, .int .i64 T2, .bool nn2, .bool bd2, .bool pl2, .bool mi2, .bool am2] 50))
    replace s1 := s1.below (al_b _ (.cells #[.int .i64 F2, .bool ng2, .slice a2 zs2.length c2, .int .i64 T2, .bool nn2, .bool bd2, .bool pl2, .bool mi2, .bool am2] 50))
    replace Ba := Ba.below (al_b _ (.cells #[.int .i64 F2, .bool ng2, .slice a2 zs2.length c2, .int .i64 T2, .bool nn2, .bool bd2, .bool pl2, .bool mi2, .bool am2] 50))
    replace bel := bel_al bel (.cells #[.int .i64 F2, .bool ng2, .slice a2 zs2.length c2, .int .i64 T2, .bool nn2, .bool bd2, .bool pl2, .bool mi2, .bool am2] 50)
    have Bq := Q9.new w2 (.int .i64 F2) (.bool ng2) (.slice a2 zs2.length c2) (.int .i64 T2) (.bool nn2) (.bool bd2) (.bool pl2) (.bool mi2) (.bool am2) 50
    clear Bq
    obtain ⟨ka0, ka1, ka2, ka3, ka4, ka5, ka6, ka7, ka8, -, -, -, -, -, -, -, -, -⟩ := id Ba
    go_wp2_with fail
    refine (CI.out _ T'.t s1).mono ?_
    rintro r w3 ⟨rfl, hb⟩
    clear ka0 ka1 ka2 ka3 ka4 ka5 ka6 ka7 ka8
    replace bel := bel_go bel hb
    replace T' := T'.below hb
    replace s1 := s1.below hb
    replace Ba := Ba.below hb
    clear hb
    replace T' := T'.below (al_b _ (.cells #[.int .i64 0, .bool false, .slice none 0 0, .int .i64 0, .bool false, .bool false, .bool false, .bool false, .bool false] 50))
    replace s1 := s1.below (al_b _ (.cells #[.int .i64 0, .bool false, .slice none 0 0, .int .i64 0, .bool false, .bool false, .bool false, .bool false, .bool false] 50))
    replace Ba := Ba.below (al_b _ (.cells #[.int .i64 0, .bool false, .slice none 0 0, .int .i64 0, .bool false, .bool false, .bool false, .bool false, .bool false] 50))
    replace bel := bel_al bel (.cells #[.int .i64 0, .bool false, .slice none 0 0, .int .i64 0, .bool false, .bool false, .bool false, .bool false, .bool false] 50)
    have Bb := Q9.new w3 (.int .i64 0) (.bool false) (.slice none 0 0) (.int .i64 0) (.bool false) (.bool false) (.bool false) (.bool false) (.bool false) 50
    obtain ⟨ka0, ka1, ka2, ka3, ka4, ka5, ka6, ka7, ka8, -, -, -, -, -, -, -, -, -⟩ := id Ba
    obtain ⟨kb0, kb1, kb2, kb3, kb4, kb5, kb6, kb7, kb8, -, -, -, -, -, -, -, -, -⟩ := id Bb
    go_wp2_with fail
    refine (CS.out _ s1).mono ?_
    rintro r w4 ⟨rfl, hb⟩
    clear ka0 ka1 ka2 ka3 ka4 ka5 ka6 ka7 ka8 kb0 kb1 kb2 kb3 kb4 kb5 kb6 kb7 kb8
    replace bel := bel_go bel hb
    replace T' := T'.below hb
    replace s1 := s1.below hb
    replace Ba := Ba.below hb
    replace Bb := Bb.below hb
    clear hb
    replace T' := T'.below (al_b _ (.cells #[.int .i64 0, .bool false, .slice none 0 0, .int .i64 0, .bool false, .bool false, .bool false, .bool false, .bool false] 50))
    replace s1 := s1.below (al_b _ (.cells #[.int .i64 0, .bool false, .slice none 0 0, .int .i64 0, .bool false, .bool false, .bool false, .bool false, .bool false] 50))
    replace Ba := Ba.below (al_b _ (.cells #[.int .i64 0, .bool false, .slice none 0 0, .int .i64 0, .bool false, .bool false, .bool false, .bool false, .bool false] 50))
    replace Bb := Bb.below (al_b _ (.cells #[.int .i64 0, .bool false, .slice none 0 0, .int .i64 0, .bool false, .bool false, .bool false, .bool false, .bool false] 50))
    replace bel := bel_al bel (.cells #[.int .i64 0, .bool false, .slice none 0 0, .int .i64 0, .bool false, .bool false, .bool false, .bool false, .bool false] 50)
    have Bv := Q9.new w4 (.int .i64 0) (.bool false) (.slice none 0 0) (.int .i64 0) (.bool false) (.bool false) (.bool false) (.bool false) (.bool false) 50
    obtain ⟨ka0, ka1, ka2, ka3, ka4, ka5, ka6, ka7, ka8, -, -, -, -, -, -, -, -, -⟩ := id Ba
    obtain ⟨kb0, kb1, kb2, kb3, kb4, kb5, kb6, kb7, kb8, -, -, -, -, -, -, -, -, -⟩ := id Bb
    obtain ⟨kv0, kv1, kv2, kv3, kv4, kv5, kv6, kv7, kv8, -, -, -, -, -, -, -, -, -⟩ := id Bv
    go_wp2_with fail
    refine (sameZ _).mono ?_
    rintro r w5 ⟨rfl, hb⟩
    clear ka0 ka1 ka2 ka3 ka4 ka5 ka6 ka7 ka8 kb0 kb1 kb2 kb3 kb4 kb5 kb6 kb7 kb8 kv0 kv1 kv2 kv3 kv4 kv5 kv6 kv7 kv8
    replace bel := bel_go bel hb
    replace T' := T'.below hb
    replace s1 := s1.below hb
    replace Ba := Ba.below hb
    replace Bb := Bb.below hb
    replace Bv := Bv.below hb
    clear hb
    obtain ⟨ka0, ka1, ka2, ka3, ka4, ka5, ka6, ka7, ka8, -, -, -, -, -, -, -, -, -⟩ := id Ba
    obtain ⟨kb0, kb1, kb2, kb3, kb4, kb5, kb6, kb7, kb8, -, -, -, -, -, -, -, -, -⟩ := id Bb
    obtain ⟨kv0, kv1, kv2, kv3, kv4, kv5, kv6, kv7, kv8, -, -, -, -, -, -, -, -, -⟩ := id Bv
    go_wp2_with fail
    refine (sameZ _).mono ?_
    rintro r w6 ⟨rfl, hb⟩
    clear ka0 ka1 ka2 ka3 ka4 ka5 ka6 ka7 ka8 kb0 kb1 kb2 kb3 kb4 kb5 kb6 kb7 kb8 kv0 kv1 kv2 kv3 kv4 kv5 kv6 kv7 kv8
    replace bel := bel_go bel hb
    replace T' := T'.below hb
    replace s1 := s1.below hb
    replace Ba := Ba.below hb
    replace Bb := Bb.below hb
    replace Bv := Bv.below hb
    clear hb
    obtain ⟨ka0, ka1, ka2, ka3, ka4, ka5, ka6, ka7, ka8, -, -, -, -, -, -, -, -, -⟩ := id Ba
    obtain ⟨kb0, kb1, kb2, kb3, kb4, kb5, kb6, kb7, kb8, -, -, -, -, -, -, -, -, -⟩ := id Bb
    obtain ⟨kv0, kv1, kv2, kv3, kv4, kv5, kv6, kv7, kv8, -, -, -, -, -, -, -, -, -⟩ := id Bv
    go_wp2
    all_goals go_ret
    all_goals exact ⟨rfl, bel⟩
  · subst h0
    obtain ⟨hA, hx, hTm⟩ := tcC_yes hk.symm
    clear hk
    obtain ⟨s, hR, rfl, rfl, rfl, rfl, rfl, rfl, rfl, rfl⟩ := to_st d1 hA
    have hz := hR.le
    have e0 : s.T + 1 ≤ 1000000 := by omega
    obtain ⟨s2, h2⟩ : ∃ q, q = s.add (tmF F x) := ⟨_, rfl⟩
    have hR2 : Rt F s2 := by rw [h2]; exact hR.add (tm_ok hx) hTm
    have hT2 : s2.T = s.T + 1 := by rw [h2]; rfl
    have CI := hid (fun w' h h' => accI F s x a c u w' h hR hx x0 x1 hTm h' s2 h2)
    have CS := hid (fun w' h => accS F s x a c w' hR hx x0 x1 hTm h s2 h2)
    have CO := hid (fun p q w' h k => accok_impl F (Nm.wn s2.z) s2.T s2.nn s2.bd s2.pl s2.mi s2.am p q (Nm.wl s2.z) w' h k (by have := hR2.len; omega))
    rw [show accB F (Nm.wn s2.z) (Nm.wl s2.z) s2.T s2.nn s2.bd s2.pl s2.mi s2.am = true from hR2] at CO
    have hl2 : (Nm.wl s2.z).length ≤ 1048576 := by have := hR2.len; omega
    have hl1 : (Nm.wl s.z).length ≤ 1048576 := by have := hR.len; omega
    have A2 : accB F (Nm.wn s2.z) (Nm.wl s2.z) s2.T s2.nn s2.bd s2.pl s2.mi s2.am = true := hR2
    cases hy : okF F y
    · have C3 := hid (fun p q w' h k => adI0 F (Nm.wn s2.z) s2.T s2.nn s2.bd s2.pl s2.mi s2.am p q (Nm.wl s2.z) y w' h k hl2 y0 y1 2 (by rw [A2, hy]; rfl) (by decide))
      have C4 := hid (fun w' h k => adI0 F (Nm.wn s.z) s.T s.nn s.bd s.pl s.mi s.am a c (Nm.wl s.z) y w' h k hl1 y0 y1 2 (by rw [hA, hy]; rfl) (by decide))
      have C5 := hid (fun w' h k => adI0 0 false 0 false false false false false none 0 [] x w' h k (by decide) x0 x1 1 (by rw [acc_nf (by decide)]; rfl) (by decide))
      clear hR hR2 hT2 hx hTm hA d1 e0 hz h2 A2 x0 x1 y0 y1 hy l1
      replace T' := T'.below (al_b _ (.cells #[.int .i64 F2, .bool ng2, .slice a2 zs2.length c2, .int .i64 T2, .bool nn2, .bool bd2, .bool pl2, .bool mi2, .bool am2] 50))
      replace s1 := s1.below (al_b _ (.cells #[.int .i64 F2, .bool ng2, .slice a2 zs2.length c2, .int .i64 T2, .bool nn2, .bool bd2, .bool pl2, .bool mi2, .bool am2] 50))
      replace Ba := Ba.below (al_b _ (.cells #[.int .i64 F2, .bool ng2, .slice a2 zs2.length c2, .int .i64 T2, .bool nn2, .bool bd2, .bool pl2, .bool mi2, .bool am2] 50))
      replace bel := bel_al bel (.cells #[.int .i64 F2, .bool ng2, .slice a2 zs2.length c2, .int .i64 T2, .bool nn2, .bool bd2, .bool pl2, .bool mi2, .bool am2] 50)
      have Bq := Q9.new w2 (.int .i64 F2) (.bool ng2) (.slice a2 zs2.length c2) (.int .i64 T2) (.bool nn2) (.bool bd2) (.bool pl2) (.bool mi2) (.bool am2) 50
      clear Bq
      obtain ⟨ka0, ka1, ka2, ka3, ka4, ka5, ka6, ka7, ka8, -, -, -, -, -, -, -, -, -⟩ := id Ba
      go_wp2_with fail
      refine (CI.out _ T' s1).mono ?_
      rintro r w3 ⟨ab, cb, rfl, ob, hb⟩
      clear ka0 ka1 ka2 ka3 ka4 ka5 ka6 ka7 ka8
      replace bel := bel_go bel hb
      replace T' := T'.below hb
      replace s1 := s1.below hb
      replace Ba := Ba.below hb
      clear hb
      have sb := ob.sl
      clear ob
      replace T' := T'.below (al_b _ (.cells #[.int .i64 F, .bool (Nm.wn s2.z), .slice ab (Nm.wl s2.z).length cb, .int .i64 s2.T, .bool s2.nn, .bool s2.bd, .bool s2.pl, .bool s2.mi, .bool s2.am] 50))
      replace s1 := s1.below (al_b _ (.cells #[.int .i64 F, .bool (Nm.wn s2.z), .slice ab (Nm.wl s2.z).length cb, .int .i64 s2.T, .bool s2.nn, .bool s2.bd, .bool s2.pl, .bool s2.mi, .bool s2.am] 50))
      replace Ba := Ba.below (al_b _ (.cells #[.int .i64 F, .bool (Nm.wn s2.z), .slice ab (Nm.wl s2.z).length cb, .int .i64 s2.T, .bool s2.nn, .bool s2.bd, .bool s2.pl, .bool s2.mi, .bool s2.am] 50))
      replace sb := sb.below (al_b _ (.cells #[.int .i64 F, .bool (Nm.wn s2.z), .slice ab (Nm.wl s2.z).length cb, .int .i64 s2.T, .bool s2.nn, .bool s2.bd, .bool s2.pl, .bool s2.mi, .bool s2.am] 50))
      replace bel := bel_al bel (.cells #[.int .i64 F, .bool (Nm.wn s2.z), .slice ab (Nm.wl s2.z).length cb, .int .i64 s2.T, .bool s2.nn, .bool s2.bd, .bool s2.pl, .bool s2.mi, .bool s2.am] 50)
      have Bb := Q9.new w3 (.int .i64 F) (.bool (Nm.wn s2.z)) (.slice ab (Nm.wl s2.z).length cb) (.int .i64 s2.T) (.bool s2.nn) (.bool s2.bd) (.bool s2.pl) (.bool s2.mi) (.bool s2.am) 50
      obtain ⟨ka0, ka1, ka2, ka3, ka4, ka5, ka6, ka7, ka8, -, -, -, -, -, -, -, -, -⟩ := id Ba
      obtain ⟨kb0, kb1, kb2, kb3, kb4, kb5, kb6, kb7, kb8, -, -, -, -, -, -, -, -, -⟩ := id Bb
      go_wp2_with fail
      refine (CS.out _ s1).mono ?_
      rintro r w4 ⟨av, cv, rfl, ov, hb⟩
      clear ka0 ka1 ka2 ka3 ka4 ka5 ka6 ka7 ka8 kb0 kb1 kb2 kb3 kb4 kb5 kb6 kb7 kb8
      replace bel := bel_go bel hb
      replace T' := T'.below hb
      replace s1 := s1.below hb
      replace Ba := Ba.below hb
      replace sb := sb.below hb
      replace Bb := Bb.below hb
      clear hb
      have sv := ov.sl
      clear ov
      replace T' := T'.below (al_b _ (.cells #[.int .i64 F, .bool (Nm.wn s2.z), .slice av (Nm.wl s2.z).length cv, .int .i64 s2.T, .bool s2.nn, .bool s2.bd, .bool s2.pl, .bool s2.mi, .bool s2.am] 50))
      replace s1 := s1.below (al_b _ (.cells #[.int .i64 F, .bool (Nm.wn s2.z), .slice av (Nm.wl s2.z).length cv, .int .i64 s2.T, .bool s2.nn, .bool s2.bd, .bool s2.pl, .bool s2.mi, .bool s2.am] 50))
      replace Ba := Ba.below (al_b _ (.cells #[.int .i64 F, .bool (Nm.wn s2.z), .slice av (Nm.wl s2.z).length cv, .int .i64 s2.T, .bool s2.nn, .bool s2.bd, .bool s2.pl, .bool s2.mi, .bool s2.am] 50))
      replace sb := sb.below (al_b _ (.cells #[.int .i64 F, .bool (Nm.wn s2.z), .slice av (Nm.wl s2.z).length cv, .int .i64 s2.T, .bool s2.nn, .bool s2.bd, .bool s2.pl, .bool s2.mi, .bool s2.am] 50))
      replace Bb := Bb.below (al_b _ (.cells #[.int .i64 F, .bool (Nm.wn s2.z), .slice av (Nm.wl s2.z).length cv, .int .i64 s2.T, .bool s2.nn, .bool s2.bd, .bool s2.pl, .bool s2.mi, .bool s2.am] 50))
      replace sv := sv.below (al_b _ (.cells #[.int .i64 F, .bool (Nm.wn s2.z), .slice av (Nm.wl s2.z).length cv, .int .i64 s2.T, .bool s2.nn, .bool s2.bd, .bool s2.pl, .bool s2.mi, .bool s2.am] 50))
      replace bel := bel_al bel (.cells #[.int .i64 F, .bool (Nm.wn s2.z), .slice av (Nm.wl s2.z).length cv, .int .i64 s2.T, .bool s2.nn, .bool s2.bd, .bool s2.pl, .bool s2.mi, .bool s2.am] 50)
      have Bv := Q9.new w4 (.int .i64 F) (.bool (Nm.wn s2.z)) (.slice av (Nm.wl s2.z).length cv) (.int .i64 s2.T) (.bool s2.nn) (.bool s2.bd) (.bool s2.pl) (.bool s2.mi) (.bool s2.am) 50
      obtain ⟨ka0, ka1, ka2, ka3, ka4, ka5, ka6, ka7, ka8, -, -, -, -, -, -, -, -, -⟩ := id Ba
      obtain ⟨kb0, kb1, kb2, kb3, kb4, kb5, kb6, kb7, kb8, -, -, -, -, -, -, -, -, -⟩ := id Bb
      obtain ⟨kv0, kv1, kv2, kv3, kv4, kv5, kv6, kv7, kv8, -, -, -, -, -, -, -, -, -⟩ := id Bv
      go_wp2_with fail
      refine (sameA F (Nm.wn s2.z) s2.T s2.nn s2.bd s2.pl s2.mi s2.am ab av cb cv (Nm.wl s2.z) _ sb sv hl2).mono ?_
      rintro r w5 ⟨rfl, hb⟩
      clear ka0 ka1 ka2 ka3 ka4 ka5 ka6 ka7 ka8 kb0 kb1 kb2 kb3 kb4 kb5 kb6 kb7 kb8 kv0 kv1 kv2 kv3 kv4 kv5 kv6 kv7 kv8
      replace bel := bel_go bel hb
      replace T' := T'.below hb
      replace s1 := s1.below hb
      replace Ba := Ba.below hb
      replace sb := sb.below hb
      replace Bb := Bb.below hb
      replace sv := sv.below hb
      replace Bv := Bv.below hb
      clear hb
      clear Bv
      clear sv
      obtain ⟨ka0, ka1, ka2, ka3, ka4, ka5, ka6, ka7, ka8, -, -, -, -, -, -, -, -, -⟩ := id Ba
      obtain ⟨kb0, kb1, kb2, kb3, kb4, kb5, kb6, kb7, kb8, -, -, -, -, -, -, -, -, -⟩ := id Bb
      go_wp2_with fail
      refine (C3.out ab cb _ T'.t sb).mono ?_
      rintro r w6 ⟨rfl, hb⟩
      clear ka0 ka1 ka2 ka3 ka4 ka5 ka6 ka7 ka8 kb0 kb1 kb2 kb3 kb4 kb5 kb6 kb7 kb8
      replace bel := bel_go bel hb
      replace T' := T'.below hb
      replace s1 := s1.below hb
      replace Ba := Ba.below hb
      replace sb := sb.below hb
      replace Bb := Bb.below hb
      clear hb
      replace T' := T'.below (al_b _ (.cells #[.int .i64 0, .bool false, .slice none 0 0, .int .i64 0, .bool false, .bool false, .bool false, .bool false, .bool false] 50))
      replace s1 := s1.below (al_b _ (.cells #[.int .i64 0, .bool false, .slice none 0 0, .int .i64 0, .bool false, .bool false, .bool false, .bool false, .bool false] 50))
      replace Ba := Ba.below (al_b _ (.cells #[.int .i64 0, .bool false, .slice none 0 0, .int .i64 0, .bool false, .bool false, .bool false, .bool false, .bool false] 50))
      replace sb := sb.below (al_b _ (.cells #[.int .i64 0, .bool false, .slice none 0 0, .int .i64 0, .bool false, .bool false, .bool false, .bool false, .bool false] 50))
      replace Bb := Bb.below (al_b _ (.cells #[.int .i64 0, .bool false, .slice none 0 0, .int .i64 0, .bool false, .bool false, .bool false, .bool false, .bool false] 50))
      replace bel := bel_al bel (.cells #[.int .i64 0, .bool false, .slice none 0 0, .int .i64 0, .bool false, .bool false, .bool false, .bool false, .bool false] 50)
      have Be := Q9.new w6 (.int .i64 0) (.bool false) (.slice none 0 0) (.int .i64 0) (.bool false) (.bool false) (.bool false) (.bool false) (.bool false) 50
      obtain ⟨ka0, ka1, ka2, ka3, ka4, ka5, ka6, ka7, ka8, -, -, -, -, -, -, -, -, -⟩ := id Ba
      obtain ⟨kb0, kb1, kb2, kb3, kb4, kb5, kb6, kb7, kb8, -, -, -, -, -, -, -, -, -⟩ := id Bb
      obtain ⟨ke0, ke1, ke2, ke3, ke4, ke5, ke6, ke7, ke8, -, -, -, -, -, -, -, -, -⟩ := id Be
      go_wp2_with fail
      refine (C4.out _ T'.t s1).mono ?_
      rintro r w7 ⟨rfl, hb⟩
      clear ka0 ka1 ka2 ka3 ka4 ka5 ka6 ka7 ka8 kb0 kb1 kb2 kb3 kb4 kb5 kb6 kb7 kb8 ke0 ke1 ke2 ke3 ke4 ke5 ke6 ke7 ke8
      replace bel := bel_go bel hb
      replace T' := T'.below hb
      replace s1 := s1.below hb
      replace Ba := Ba.below hb
      replace sb := sb.below hb
      replace Bb := Bb.below hb
      replace Be := Be.below hb
      clear hb
      replace T' := T'.below (al_b _ (.cells #[.int .i64 0, .bool false, .slice none 0 0, .int .i64 0, .bool false, .bool false, .bool false, .bool false, .bool false] 50))
      replace s1 := s1.below (al_b _ (.cells #[.int .i64 0, .bool false, .slice none 0 0, .int .i64 0, .bool false, .bool false, .bool false, .bool false, .bool false] 50))
      replace Ba := Ba.below (al_b _ (.cells #[.int .i64 0, .bool false, .slice none 0 0, .int .i64 0, .bool false, .bool false, .bool false, .bool false, .bool false] 50))
      replace sb := sb.below (al_b _ (.cells #[.int .i64 0, .bool false, .slice none 0 0, .int .i64 0, .bool false, .bool false, .bool false, .bool false, .bool false] 50))
      replace Bb := Bb.below (al_b _ (.cells #[.int .i64 0, .bool false, .slice none 0 0, .int .i64 0, .bool false, .bool false, .bool false, .bool false, .bool false] 50))
      replace Be := Be.below (al_b _ (.cells #[.int .i64 0, .bool false, .slice none 0 0, .int .i64 0, .bool false, .bool false, .bool false, .bool false, .bool false] 50))
      replace bel := bel_al bel (.cells #[.int .i64 0, .bool false, .slice none 0 0, .int .i64 0, .bool false, .bool false, .bool false, .bool false, .bool false] 50)
      have Bd := Q9.new w7 (.int .i64 0) (.bool false) (.slice none 0 0) (.int .i64 0) (.bool false) (.bool false) (.bool false) (.bool false) (.bool false) 50
      obtain ⟨ka0, ka1, ka2, ka3, ka4, ka5, ka6, ka7, ka8, -, -, -, -, -, -, -, -, -⟩ := id Ba
      obtain ⟨kb0, kb1, kb2, kb3, kb4, kb5, kb6, kb7, kb8, -, -, -, -, -, -, -, -, -⟩ := id Bb
      obtain ⟨ke0, ke1, ke2, ke3, ke4, ke5, ke6, ke7, ke8, -, -, -, -, -, -, -, -, -⟩ := id Be
      obtain ⟨kd0, kd1, kd2, kd3, kd4, kd5, kd6, kd7, kd8, -, -, -, -, -, -, -, -, -⟩ := id Bd
      go_wp2_with fail
      refine (C5.out _ T'.t (sl_nil _)).mono ?_
      rintro r w8 ⟨rfl, hb⟩
      clear ka0 ka1 ka2 ka3 ka4 ka5 ka6 ka7 ka8 kb0 kb1 kb2 kb3 kb4 kb5 kb6 kb7 kb8 ke0 ke1 ke2 ke3 ke4 ke5 ke6 ke7 ke8 kd0 kd1 kd2 kd3 kd4 kd5 kd6 kd7 kd8
      replace bel := bel_go bel hb
      replace T' := T'.below hb
      replace s1 := s1.below hb
      replace Ba := Ba.below hb
      replace sb := sb.below hb
      replace Bb := Bb.below hb
      replace Be := Be.below hb
      replace Bd := Bd.below hb
      clear hb
      replace T' := T'.below (al_b _ (.cells #[.int .i64 0, .bool false, .slice none 0 0, .int .i64 0, .bool false, .bool false, .bool false, .bool false, .bool false] 50))
      replace s1 := s1.below (al_b _ (.cells #[.int .i64 0, .bool false, .slice none 0 0, .int .i64 0, .bool false, .bool false, .bool false, .bool false, .bool false] 50))
      replace Ba := Ba.below (al_b _ (.cells #[.int .i64 0, .bool false, .slice none 0 0, .int .i64 0, .bool false, .bool false, .bool false, .bool false, .bool false] 50))
      replace sb := sb.below (al_b _ (.cells #[.int .i64 0, .bool false, .slice none 0 0, .int .i64 0, .bool false, .bool false, .bool false, .bool false, .bool false] 50))
      replace Bb := Bb.below (al_b _ (.cells #[.int .i64 0, .bool false, .slice none 0 0, .int .i64 0, .bool false, .bool false, .bool false, .bool false, .bool false] 50))
      replace Be := Be.below (al_b _ (.cells #[.int .i64 0, .bool false, .slice none 0 0, .int .i64 0, .bool false, .bool false, .bool false, .bool false, .bool false] 50))
      replace Bd := Bd.below (al_b _ (.cells #[.int .i64 0, .bool false, .slice none 0 0, .int .i64 0, .bool false, .bool false, .bool false, .bool false, .bool false] 50))
      replace bel := bel_al bel (.cells #[.int .i64 0, .bool false, .slice none 0 0, .int .i64 0, .bool false, .bool false, .bool false, .bool false, .bool false] 50)
      have Bf := Q9.new w8 (.int .i64 0) (.bool false) (.slice none 0 0) (.int .i64 0) (.bool false) (.bool false) (.bool false) (.bool false) (.bool false) 50
      obtain ⟨ka0, ka1, ka2, ka3, ka4, ka5, ka6, ka7, ka8, -, -, -, -, -, -, -, -, -⟩ := id Ba
      obtain ⟨kb0, kb1, kb2, kb3, kb4, kb5, kb6, kb7, kb8, -, -, -, -, -, -, -, -, -⟩ := id Bb
      obtain ⟨ke0, ke1, ke2, ke3, ke4, ke5, ke6, ke7, ke8, -, -, -, -, -, -, -, -, -⟩ := id Be
      obtain ⟨kd0, kd1, kd2, kd3, kd4, kd5, kd6, kd7, kd8, -, -, -, -, -, -, -, -, -⟩ := id Bd
      obtain ⟨kf0, kf1, kf2, kf3, kf4, kf5, kf6, kf7, kf8, -, -, -, -, -, -, -, -, -⟩ := id Bf
      go_wp2_with fail
      refine (CO.out ab cb _ T'.t sb).mono ?_
      rintro r w9 ⟨rfl, hb⟩
      clear ka0 ka1 ka2 ka3 ka4 ka5 ka6 ka7 ka8 kb0 kb1 kb2 kb3 kb4 kb5 kb6 kb7 kb8 ke0 ke1 ke2 ke3 ke4 ke5 ke6 ke7 ke8 kd0 kd1 kd2 kd3 kd4 kd5 kd6 kd7 kd8 kf0 kf1 kf2 kf3 kf4 kf5 kf6 kf7 kf8
      replace bel := bel_go bel hb
      replace T' := T'.below hb
      replace s1 := s1.below hb
      replace Ba := Ba.below hb
      replace sb := sb.below hb
      replace Bb := Bb.below hb
      replace Be := Be.below hb
      replace Bd := Bd.below hb
      replace Bf := Bf.below hb
      clear hb
      obtain ⟨ka0, ka1, ka2, ka3, ka4, ka5, ka6, ka7, ka8, -, -, -, -, -, -, -, -, -⟩ := id Ba
      obtain ⟨kb0, kb1, kb2, kb3, kb4, kb5, kb6, kb7, kb8, -, -, -, -, -, -, -, -, -⟩ := id Bb
      obtain ⟨ke0, ke1, ke2, ke3, ke4, ke5, ke6, ke7, ke8, -, -, -, -, -, -, -, -, -⟩ := id Be
      obtain ⟨kd0, kd1, kd2, kd3, kd4, kd5, kd6, kd7, kd8, -, -, -, -, -, -, -, -, -⟩ := id Bd
      obtain ⟨kf0, kf1, kf2, kf3, kf4, kf5, kf6, kf7, kf8, -, -, -, -, -, -, -, -, -⟩ := id Bf
      go_wp2
      all_goals go_ret
      all_goals exact ⟨rfl, bel⟩
    · obtain ⟨s3, h3⟩ : ∃ q, q = s.add (tmF F y) := ⟨_, rfl⟩
      have hR3 : Rt F s3 := by rw [h3]; exact hR.add (tm_ok hy) hTm
      have hT3 : s3.T = s.T + 1 := by rw [h3]; rfl
      have C4 := hid (fun w' h h' => accI F s y a c u w' h hR hy y0 y1 hTm h' s3 h3)
      have hl3 : (Nm.wl s3.z).length ≤ 1048576 := by have := hR3.len; omega
      have A3 : accB F (Nm.wn s3.z) (Nm.wl s3.z) s3.T s3.nn s3.bd s3.pl s3.mi s3.am = true := hR3
      by_cases hm : s.T + 1 = 1000000
      · have C3 := hid (fun p q w' h k => adI0 F (Nm.wn s2.z) s2.T s2.nn s2.bd s2.pl s2.mi s2.am p q (Nm.wl s2.z) y w' h k hl2 y0 y1 3 (by rw [A2, hy, hT2, hm]; rfl) (by decide))
        have C5 := hid (fun p q w' h k => adI0 F (Nm.wn s3.z) s3.T s3.nn s3.bd s3.pl s3.mi s3.am p q (Nm.wl s3.z) x w' h k hl3 x0 x1 3 (by rw [A3, hx, hT3, hm]; rfl) (by decide))
        clear hR hR2 hT2 hx hTm hA d1 e0 hz h2 A2 x0 x1 y0 y1 hy l1 hR3 hT3 h3 A3 hm
        replace T' := T'.below (al_b _ (.cells #[.int .i64 F2, .bool ng2, .slice a2 zs2.length c2, .int .i64 T2, .bool nn2, .bool bd2, .bool pl2, .bool mi2, .bool am2] 50))
        replace s1 := s1.below (al_b _ (.cells #[.int .i64 F2, .bool ng2, .slice a2 zs2.length c2, .int .i64 T2, .bool nn2, .bool bd2, .bool pl2, .bool mi2, .bool am2] 50))
        replace Ba := Ba.below (al_b _ (.cells #[.int .i64 F2, .bool ng2, .slice a2 zs2.length c2, .int .i64 T2, .bool nn2, .bool bd2, .bool pl2, .bool mi2, .bool am2] 50))
        replace bel := bel_al bel (.cells #[.int .i64 F2, .bool ng2, .slice a2 zs2.length c2, .int .i64 T2, .bool nn2, .bool bd2, .bool pl2, .bool mi2, .bool am2] 50)
        have Bq := Q9.new w2 (.int .i64 F2) (.bool ng2) (.slice a2 zs2.length c2) (.int .i64 T2) (.bool nn2) (.bool bd2) (.bool pl2) (.bool mi2) (.bool am2) 50
        clear Bq
        obtain ⟨ka0, ka1, ka2, ka3, ka4, ka5, ka6, ka7, ka8, -, -, -, -, -, -, -, -, -⟩ := id Ba
        go_wp2_with fail
        refine (CI.out _ T' s1).mono ?_
        rintro r w3 ⟨ab, cb, rfl, ob, hb⟩
        clear ka0 ka1 ka2 ka3 ka4 ka5 ka6 ka7 ka8
        replace bel := bel_go bel hb
        replace T' := T'.below hb
        replace s1 := s1.below hb
        replace Ba := Ba.below hb
        clear hb
        have sb := ob.sl
        clear ob
        replace T' := T'.below (al_b _ (.cells #[.int .i64 F, .bool (Nm.wn s2.z), .slice ab (Nm.wl s2.z).length cb, .int .i64 s2.T, .bool s2.nn, .bool s2.bd, .bool s2.pl, .bool s2.mi, .bool s2.am] 50))
        replace s1 := s1.below (al_b _ (.cells #[.int .i64 F, .bool (Nm.wn s2.z), .slice ab (Nm.wl s2.z).length cb, .int .i64 s2.T, .bool s2.nn, .bool s2.bd, .bool s2.pl, .bool s2.mi, .bool s2.am] 50))
        replace Ba := Ba.below (al_b _ (.cells #[.int .i64 F, .bool (Nm.wn s2.z), .slice ab (Nm.wl s2.z).length cb, .int .i64 s2.T, .bool s2.nn, .bool s2.bd, .bool s2.pl, .bool s2.mi, .bool s2.am] 50))
        replace sb := sb.below (al_b _ (.cells #[.int .i64 F, .bool (Nm.wn s2.z), .slice ab (Nm.wl s2.z).length cb, .int .i64 s2.T, .bool s2.nn, .bool s2.bd, .bool s2.pl, .bool s2.mi, .bool s2.am] 50))
        replace bel := bel_al bel (.cells #[.int .i64 F, .bool (Nm.wn s2.z), .slice ab (Nm.wl s2.z).length cb, .int .i64 s2.T, .bool s2.nn, .bool s2.bd, .bool s2.pl, .bool s2.mi, .bool s2.am] 50)
        have Bb := Q9.new w3 (.int .i64 F) (.bool (Nm.wn s2.z)) (.slice ab (Nm.wl s2.z).length cb) (.int .i64 s2.T) (.bool s2.nn) (.bool s2.bd) (.bool s2.pl) (.bool s2.mi) (.bool s2.am) 50
        obtain ⟨ka0, ka1, ka2, ka3, ka4, ka5, ka6, ka7, ka8, -, -, -, -, -, -, -, -, -⟩ := id Ba
        obtain ⟨kb0, kb1, kb2, kb3, kb4, kb5, kb6, kb7, kb8, -, -, -, -, -, -, -, -, -⟩ := id Bb
        go_wp2_with fail
        refine (CS.out _ s1).mono ?_
        rintro r w4 ⟨av, cv, rfl, ov, hb⟩
        clear ka0 ka1 ka2 ka3 ka4 ka5 ka6 ka7 ka8 kb0 kb1 kb2 kb3 kb4 kb5 kb6 kb7 kb8
        replace bel := bel_go bel hb
        replace T' := T'.below hb
        replace s1 := s1.below hb
        replace Ba := Ba.below hb
        replace sb := sb.below hb
        replace Bb := Bb.below hb
        clear hb
        have sv := ov.sl
        clear ov
        replace T' := T'.below (al_b _ (.cells #[.int .i64 F, .bool (Nm.wn s2.z), .slice av (Nm.wl s2.z).length cv, .int .i64 s2.T, .bool s2.nn, .bool s2.bd, .bool s2.pl, .bool s2.mi, .bool s2.am] 50))
        replace s1 := s1.below (al_b _ (.cells #[.int .i64 F, .bool (Nm.wn s2.z), .slice av (Nm.wl s2.z).length cv, .int .i64 s2.T, .bool s2.nn, .bool s2.bd, .bool s2.pl, .bool s2.mi, .bool s2.am] 50))
        replace Ba := Ba.below (al_b _ (.cells #[.int .i64 F, .bool (Nm.wn s2.z), .slice av (Nm.wl s2.z).length cv, .int .i64 s2.T, .bool s2.nn, .bool s2.bd, .bool s2.pl, .bool s2.mi, .bool s2.am] 50))
        replace sb := sb.below (al_b _ (.cells #[.int .i64 F, .bool (Nm.wn s2.z), .slice av (Nm.wl s2.z).length cv, .int .i64 s2.T, .bool s2.nn, .bool s2.bd, .bool s2.pl, .bool s2.mi, .bool s2.am] 50))
        replace Bb := Bb.below (al_b _ (.cells #[.int .i64 F, .bool (Nm.wn s2.z), .slice av (Nm.wl s2.z).length cv, .int .i64 s2.T, .bool s2.nn, .bool s2.bd, .bool s2.pl, .bool s2.mi, .bool s2.am] 50))
        replace sv := sv.below (al_b _ (.cells #[.int .i64 F, .bool (Nm.wn s2.z), .slice av (Nm.wl s2.z).length cv, .int .i64 s2.T, .bool s2.nn, .bool s2.bd, .bool s2.pl, .bool s2.mi, .bool s2.am] 50))
        replace bel := bel_al bel (.cells #[.int .i64 F, .bool (Nm.wn s2.z), .slice av (Nm.wl s2.z).length cv, .int .i64 s2.T, .bool s2.nn, .bool s2.bd, .bool s2.pl, .bool s2.mi, .bool s2.am] 50)
        have Bv := Q9.new w4 (.int .i64 F) (.bool (Nm.wn s2.z)) (.slice av (Nm.wl s2.z).length cv) (.int .i64 s2.T) (.bool s2.nn) (.bool s2.bd) (.bool s2.pl) (.bool s2.mi) (.bool s2.am) 50
        obtain ⟨ka0, ka1, ka2, ka3, ka4, ka5, ka6, ka7, ka8, -, -, -, -, -, -, -, -, -⟩ := id Ba
        obtain ⟨kb0, kb1, kb2, kb3, kb4, kb5, kb6, kb7, kb8, -, -, -, -, -, -, -, -, -⟩ := id Bb
        obtain ⟨kv0, kv1, kv2, kv3, kv4, kv5, kv6, kv7, kv8, -, -, -, -, -, -, -, -, -⟩ := id Bv
        go_wp2_with fail
        refine (sameA F (Nm.wn s2.z) s2.T s2.nn s2.bd s2.pl s2.mi s2.am ab av cb cv (Nm.wl s2.z) _ sb sv hl2).mono ?_
        rintro r w5 ⟨rfl, hb⟩
        clear ka0 ka1 ka2 ka3 ka4 ka5 ka6 ka7 ka8 kb0 kb1 kb2 kb3 kb4 kb5 kb6 kb7 kb8 kv0 kv1 kv2 kv3 kv4 kv5 kv6 kv7 kv8
        replace bel := bel_go bel hb
        replace T' := T'.below hb
        replace s1 := s1.below hb
        replace Ba := Ba.below hb
        replace sb := sb.below hb
        replace Bb := Bb.below hb
        replace sv := sv.below hb
        replace Bv := Bv.below hb
        clear hb
        clear Bv
        clear sv
        obtain ⟨ka0, ka1, ka2, ka3, ka4, ka5, ka6, ka7, ka8, -, -, -, -, -, -, -, -, -⟩ := id Ba
        obtain ⟨kb0, kb1, kb2, kb3, kb4, kb5, kb6, kb7, kb8, -, -, -, -, -, -, -, -, -⟩ := id Bb
        go_wp2_with fail
        refine (C3.out ab cb _ T'.t sb).mono ?_
        rintro r w6 ⟨rfl, hb⟩
        clear ka0 ka1 ka2 ka3 ka4 ka5 ka6 ka7 ka8 kb0 kb1 kb2 kb3 kb4 kb5 kb6 kb7 kb8
        replace bel := bel_go bel hb
        replace T' := T'.below hb
        replace s1 := s1.below hb
        replace Ba := Ba.below hb
        replace sb := sb.below hb
        replace Bb := Bb.below hb
        clear hb
        replace T' := T'.below (al_b _ (.cells #[.int .i64 0, .bool false, .slice none 0 0, .int .i64 0, .bool false, .bool false, .bool false, .bool false, .bool false] 50))
        replace s1 := s1.below (al_b _ (.cells #[.int .i64 0, .bool false, .slice none 0 0, .int .i64 0, .bool false, .bool false, .bool false, .bool false, .bool false] 50))
        replace Ba := Ba.below (al_b _ (.cells #[.int .i64 0, .bool false, .slice none 0 0, .int .i64 0, .bool false, .bool false, .bool false, .bool false, .bool false] 50))
        replace sb := sb.below (al_b _ (.cells #[.int .i64 0, .bool false, .slice none 0 0, .int .i64 0, .bool false, .bool false, .bool false, .bool false, .bool false] 50))
        replace Bb := Bb.below (al_b _ (.cells #[.int .i64 0, .bool false, .slice none 0 0, .int .i64 0, .bool false, .bool false, .bool false, .bool false, .bool false] 50))
        replace bel := bel_al bel (.cells #[.int .i64 0, .bool false, .slice none 0 0, .int .i64 0, .bool false, .bool false, .bool false, .bool false, .bool false] 50)
        have Be := Q9.new w6 (.int .i64 0) (.bool false) (.slice none 0 0) (.int .i64 0) (.bool false) (.bool false) (.bool false) (.bool false) (.bool false) 50
        obtain ⟨ka0, ka1, ka2, ka3, ka4, ka5, ka6, ka7, ka8, -, -, -, -, -, -, -, -, -⟩ := id Ba
        obtain ⟨kb0, kb1, kb2, kb3, kb4, kb5, kb6, kb7, kb8, -, -, -, -, -, -, -, -, -⟩ := id Bb
        obtain ⟨ke0, ke1, ke2, ke3, ke4, ke5, ke6, ke7, ke8, -, -, -, -, -, -, -, -, -⟩ := id Be
        go_wp2_with fail
        refine (C4.out _ T' s1).mono ?_
        rintro r w7 ⟨ad, cd, rfl, od, hb⟩
        clear ka0 ka1 ka2 ka3 ka4 ka5 ka6 ka7 ka8 kb0 kb1 kb2 kb3 kb4 kb5 kb6 kb7 kb8 ke0 ke1 ke2 ke3 ke4 ke5 ke6 ke7 ke8
        replace bel := bel_go bel hb
        replace T' := T'.below hb
        replace s1 := s1.below hb
        replace Ba := Ba.below hb
        replace sb := sb.below hb
        replace Bb := Bb.below hb
        replace Be := Be.below hb
        clear hb
        have sd := od.sl
        clear od
        replace T' := T'.below (al_b _ (.cells #[.int .i64 F, .bool (Nm.wn s3.z), .slice ad (Nm.wl s3.z).length cd, .int .i64 s3.T, .bool s3.nn, .bool s3.bd, .bool s3.pl, .bool s3.mi, .bool s3.am] 50))
        replace s1 := s1.below (al_b _ (.cells #[.int .i64 F, .bool (Nm.wn s3.z), .slice ad (Nm.wl s3.z).length cd, .int .i64 s3.T, .bool s3.nn, .bool s3.bd, .bool s3.pl, .bool s3.mi, .bool s3.am] 50))
        replace Ba := Ba.below (al_b _ (.cells #[.int .i64 F, .bool (Nm.wn s3.z), .slice ad (Nm.wl s3.z).length cd, .int .i64 s3.T, .bool s3.nn, .bool s3.bd, .bool s3.pl, .bool s3.mi, .bool s3.am] 50))
        replace sb := sb.below (al_b _ (.cells #[.int .i64 F, .bool (Nm.wn s3.z), .slice ad (Nm.wl s3.z).length cd, .int .i64 s3.T, .bool s3.nn, .bool s3.bd, .bool s3.pl, .bool s3.mi, .bool s3.am] 50))
        replace Bb := Bb.below (al_b _ (.cells #[.int .i64 F, .bool (Nm.wn s3.z), .slice ad (Nm.wl s3.z).length cd, .int .i64 s3.T, .bool s3.nn, .bool s3.bd, .bool s3.pl, .bool s3.mi, .bool s3.am] 50))
        replace Be := Be.below (al_b _ (.cells #[.int .i64 F, .bool (Nm.wn s3.z), .slice ad (Nm.wl s3.z).length cd, .int .i64 s3.T, .bool s3.nn, .bool s3.bd, .bool s3.pl, .bool s3.mi, .bool s3.am] 50))
        replace sd := sd.below (al_b _ (.cells #[.int .i64 F, .bool (Nm.wn s3.z), .slice ad (Nm.wl s3.z).length cd, .int .i64 s3.T, .bool s3.nn, .bool s3.bd, .bool s3.pl, .bool s3.mi, .bool s3.am] 50))
        replace bel := bel_al bel (.cells #[.int .i64 F, .bool (Nm.wn s3.z), .slice ad (Nm.wl s3.z).length cd, .int .i64 s3.T, .bool s3.nn, .bool s3.bd, .bool s3.pl, .bool s3.mi, .bool s3.am] 50)
        have Bd := Q9.new w7 (.int .i64 F) (.bool (Nm.wn s3.z)) (.slice ad (Nm.wl s3.z).length cd) (.int .i64 s3.T) (.bool s3.nn) (.bool s3.bd) (.bool s3.pl) (.bool s3.mi) (.bool s3.am) 50
        obtain ⟨ka0, ka1, ka2, ka3, ka4, ka5, ka6, ka7, ka8, -, -, -, -, -, -, -, -, -⟩ := id Ba
        obtain ⟨kb0, kb1, kb2, kb3, kb4, kb5, kb6, kb7, kb8, -, -, -, -, -, -, -, -, -⟩ := id Bb
        obtain ⟨ke0, ke1, ke2, ke3, ke4, ke5, ke6, ke7, ke8, -, -, -, -, -, -, -, -, -⟩ := id Be
        obtain ⟨kd0, kd1, kd2, kd3, kd4, kd5, kd6, kd7, kd8, -, -, -, -, -, -, -, -, -⟩ := id Bd
        go_wp2_with fail
        refine (C5.out ad cd _ T'.t sd).mono ?_
        rintro r w8 ⟨rfl, hb⟩
        clear ka0 ka1 ka2 ka3 ka4 ka5 ka6 ka7 ka8 kb0 kb1 kb2 kb3 kb4 kb5 kb6 kb7 kb8 ke0 ke1 ke2 ke3 ke4 ke5 ke6 ke7 ke8 kd0 kd1 kd2 kd3 kd4 kd5 kd6 kd7 kd8
        replace bel := bel_go bel hb
        replace T' := T'.below hb
        replace s1 := s1.below hb
        replace Ba := Ba.below hb
        replace sb := sb.below hb
        replace Bb := Bb.below hb
        replace Be := Be.below hb
        replace sd := sd.below hb
        replace Bd := Bd.below hb
        clear hb
        replace T' := T'.below (al_b _ (.cells #[.int .i64 0, .bool false, .slice none 0 0, .int .i64 0, .bool false, .bool false, .bool false, .bool false, .bool false] 50))
        replace s1 := s1.below (al_b _ (.cells #[.int .i64 0, .bool false, .slice none 0 0, .int .i64 0, .bool false, .bool false, .bool false, .bool false, .bool false] 50))
        replace Ba := Ba.below (al_b _ (.cells #[.int .i64 0, .bool false, .slice none 0 0, .int .i64 0, .bool false, .bool false, .bool false, .bool false, .bool false] 50))
        replace sb := sb.below (al_b _ (.cells #[.int .i64 0, .bool false, .slice none 0 0, .int .i64 0, .bool false, .bool false, .bool false, .bool false, .bool false] 50))
        replace Bb := Bb.below (al_b _ (.cells #[.int .i64 0, .bool false, .slice none 0 0, .int .i64 0, .bool false, .bool false, .bool false, .bool false, .bool false] 50))
        replace Be := Be.below (al_b _ (.cells #[.int .i64 0, .bool false, .slice none 0 0, .int .i64 0, .bool false, .bool false, .bool false, .bool false, .bool false] 50))
        replace sd := sd.below (al_b _ (.cells #[.int .i64 0, .bool false, .slice none 0 0, .int .i64 0, .bool false, .bool false, .bool false, .bool false, .bool false] 50))
        replace Bd := Bd.below (al_b _ (.cells #[.int .i64 0, .bool false, .slice none 0 0, .int .i64 0, .bool false, .bool false, .bool false, .bool false, .bool false] 50))
        replace bel := bel_al bel (.cells #[.int .i64 0, .bool false, .slice none 0 0, .int .i64 0, .bool false, .bool false, .bool false, .bool false, .bool false] 50)
        have Bf := Q9.new w8 (.int .i64 0) (.bool false) (.slice none 0 0) (.int .i64 0) (.bool false) (.bool false) (.bool false) (.bool false) (.bool false) 50
        obtain ⟨ka0, ka1, ka2, ka3, ka4, ka5, ka6, ka7, ka8, -, -, -, -, -, -, -, -, -⟩ := id Ba
        obtain ⟨kb0, kb1, kb2, kb3, kb4, kb5, kb6, kb7, kb8, -, -, -, -, -, -, -, -, -⟩ := id Bb
        obtain ⟨ke0, ke1, ke2, ke3, ke4, ke5, ke6, ke7, ke8, -, -, -, -, -, -, -, -, -⟩ := id Be
        obtain ⟨kd0, kd1, kd2, kd3, kd4, kd5, kd6, kd7, kd8, -, -, -, -, -, -, -, -, -⟩ := id Bd
        obtain ⟨kf0, kf1, kf2, kf3, kf4, kf5, kf6, kf7, kf8, -, -, -, -, -, -, -, -, -⟩ := id Bf
        go_wp2_with fail
        refine (CO.out ab cb _ T'.t sb).mono ?_
        rintro r w9 ⟨rfl, hb⟩
        clear ka0 ka1 ka2 ka3 ka4 ka5 ka6 ka7 ka8 kb0 kb1 kb2 kb3 kb4 kb5 kb6 kb7 kb8 ke0 ke1 ke2 ke3 ke4 ke5 ke6 ke7 ke8 kd0 kd1 kd2 kd3 kd4 kd5 kd6 kd7 kd8 kf0 kf1 kf2 kf3 kf4 kf5 kf6 kf7 kf8
        replace bel := bel_go bel hb
        replace T' := T'.below hb
        replace s1 := s1.below hb
        replace Ba := Ba.below hb
        replace sb := sb.below hb
        replace Bb := Bb.below hb
        replace Be := Be.below hb
        replace sd := sd.below hb
        replace Bd := Bd.below hb
        replace Bf := Bf.below hb
        clear hb
        obtain ⟨ka0, ka1, ka2, ka3, ka4, ka5, ka6, ka7, ka8, -, -, -, -, -, -, -, -, -⟩ := id Ba
        obtain ⟨kb0, kb1, kb2, kb3, kb4, kb5, kb6, kb7, kb8, -, -, -, -, -, -, -, -, -⟩ := id Bb
        obtain ⟨ke0, ke1, ke2, ke3, ke4, ke5, ke6, ke7, ke8, -, -, -, -, -, -, -, -, -⟩ := id Be
        obtain ⟨kd0, kd1, kd2, kd3, kd4, kd5, kd6, kd7, kd8, -, -, -, -, -, -, -, -, -⟩ := id Bd
        obtain ⟨kf0, kf1, kf2, kf3, kf4, kf5, kf6, kf7, kf8, -, -, -, -, -, -, -, -, -⟩ := id Bf
        go_wp2
        all_goals go_ret
        all_goals exact ⟨rfl, bel⟩
      · obtain ⟨s4, h4⟩ : ∃ q, q = s2.add (tmF F y) := ⟨_, rfl⟩
        have h5 : s4 = s3.add (tmF F x) := by rw [h4, h2, h3]; exact add_turn _ _ hz.2.1
        have C3 := hid (fun p q w' h k => accI F s2 y p q u w' h hR2 hy y0 y1 (by omega) k s4 h4)
        have C5 := hid (fun p q w' h k => accI F s3 x p q u w' h hR3 hx x0 x1 (by omega) k s4 h5)
        have hl4 : (Nm.wl s4.z).length ≤ 1048576 := by have := (hR2.add (tm_ok hy) (by omega)).len; rw [h4]; omega
        clear hR hR2 hT2 hx hTm hA d1 e0 hz h2 A2 x0 x1 y0 y1 hy l1 hR3 hT3 h3 A3 hm h4 h5
        replace T' := T'.below (al_b _ (.cells #[.int .i64 F2, .bool ng2, .slice a2 zs2.length c2, .int .i64 T2, .bool nn2, .bool bd2, .bool pl2, .bool mi2, .bool am2] 50))
        replace s1 := s1.below (al_b _ (.cells #[.int .i64 F2, .bool ng2, .slice a2 zs2.length c2, .int .i64 T2, .bool nn2, .bool bd2, .bool pl2, .bool mi2, .bool am2] 50))
        replace Ba := Ba.below (al_b _ (.cells #[.int .i64 F2, .bool ng2, .slice a2 zs2.length c2, .int .i64 T2, .bool nn2, .bool bd2, .bool pl2, .bool mi2, .bool am2] 50))
        replace bel := bel_al bel (.cells #[.int .i64 F2, .bool ng2, .slice a2 zs2.length c2, .int .i64 T2, .bool nn2, .bool bd2, .bool pl2, .bool mi2, .bool am2] 50)
        have Bq := Q9.new w2 (.int .i64 F2) (.bool ng2) (.slice a2 zs2.length c2) (.int .i64 T2) (.bool nn2) (.bool bd2) (.bool pl2) (.bool mi2) (.bool am2) 50
        clear Bq
        obtain ⟨ka0, ka1, ka2, ka3, ka4, ka5, ka6, ka7, ka8, -, -, -, -, -, -, -, -, -⟩ := id Ba
        go_wp2_with fail
        refine (CI.out _ T' s1).mono ?_
        rintro r w3 ⟨ab, cb, rfl, ob, hb⟩
        clear ka0 ka1 ka2 ka3 ka4 ka5 ka6 ka7 ka8
        replace bel := bel_go bel hb
        replace T' := T'.below hb
        replace s1 := s1.below hb
        replace Ba := Ba.below hb
        clear hb
        have sb := ob.sl
        clear ob
        replace T' := T'.below (al_b _ (.cells #[.int .i64 F, .bool (Nm.wn s2.z), .slice ab (Nm.wl s2.z).length cb, .int .i64 s2.T, .bool s2.nn, .bool s2.bd, .bool s2.pl, .bool s2.mi, .bool s2.am] 50))
        replace s1 := s1.below (al_b _ (.cells #[.int .i64 F, .bool (Nm.wn s2.z), .slice ab (Nm.wl s2.z).length cb, .int .i64 s2.T, .bool s2.nn, .bool s2.bd, .bool s2.pl, .bool s2.mi, .bool s2.am] 50))
        replace Ba := Ba.below (al_b _ (.cells #[.int .i64 F, .bool (Nm.wn s2.z), .slice ab (Nm.wl s2.z).length cb, .int .i64 s2.T, .bool s2.nn, .bool s2.bd, .bool s2.pl, .bool s2.mi, .bool s2.am] 50))
        replace sb := sb.below (al_b _ (.cells #[.int .i64 F, .bool (Nm.wn s2.z), .slice ab (Nm.wl s2.z).length cb, .int .i64 s2.T, .bool s2.nn, .bool s2.bd, .bool s2.pl, .bool s2.mi, .bool s2.am] 50))
        replace bel := bel_al bel (.cells #[.int .i64 F, .bool (Nm.wn s2.z), .slice ab (Nm.wl s2.z).length cb, .int .i64 s2.T, .bool s2.nn, .bool s2.bd, .bool s2.pl, .bool s2.mi, .bool s2.am] 50)
        have Bb := Q9.new w3 (.int .i64 F) (.bool (Nm.wn s2.z)) (.slice ab (Nm.wl s2.z).length cb) (.int .i64 s2.T) (.bool s2.nn) (.bool s2.bd) (.bool s2.pl) (.bool s2.mi) (.bool s2.am) 50
        obtain ⟨ka0, ka1, ka2, ka3, ka4, ka5, ka6, ka7, ka8, -, -, -, -, -, -, -, -, -⟩ := id Ba
        obtain ⟨kb0, kb1, kb2, kb3, kb4, kb5, kb6, kb7, kb8, -, -, -, -, -, -, -, -, -⟩ := id Bb
        go_wp2_with fail
        refine (CS.out _ s1).mono ?_
        rintro r w4 ⟨av, cv, rfl, ov, hb⟩
        clear ka0 ka1 ka2 ka3 ka4 ka5 ka6 ka7 ka8 kb0 kb1 kb2 kb3 kb4 kb5 kb6 kb7 kb8
        replace bel := bel_go bel hb
        replace T' := T'.below hb
        replace s1 := s1.below hb
        replace Ba := Ba.below hb
        replace sb := sb.below hb
        replace Bb := Bb.below hb
        clear hb
        have sv := ov.sl
        clear ov
        replace T' := T'.below (al_b _ (.cells #[.int .i64 F, .bool (Nm.wn s2.z), .slice av (Nm.wl s2.z).length cv, .int .i64 s2.T, .bool s2.nn, .bool s2.bd, .bool s2.pl, .bool s2.mi, .bool s2.am] 50))
        replace s1 := s1.below (al_b _ (.cells #[.int .i64 F, .bool (Nm.wn s2.z), .slice av (Nm.wl s2.z).length cv, .int .i64 s2.T, .bool s2.nn, .bool s2.bd, .bool s2.pl, .bool s2.mi, .bool s2.am] 50))
        replace Ba := Ba.below (al_b _ (.cells #[.int .i64 F, .bool (Nm.wn s2.z), .slice av (Nm.wl s2.z).length cv, .int .i64 s2.T, .bool s2.nn, .bool s2.bd, .bool s2.pl, .bool s2.mi, .bool s2.am] 50))
        replace sb := sb.below (al_b _ (.cells #[.int .i64 F, .bool (Nm.wn s2.z), .slice av (Nm.wl s2.z).length cv, .int .i64 s2.T, .bool s2.nn, .bool s2.bd, .bool s2.pl, .bool s2.mi, .bool s2.am] 50))
        replace Bb := Bb.below (al_b _ (.cells #[.int .i64 F, .bool (Nm.wn s2.z), .slice av (Nm.wl s2.z).length cv, .int .i64 s2.T, .bool s2.nn, .bool s2.bd, .bool s2.pl, .bool s2.mi, .bool s2.am] 50))
        replace sv := sv.below (al_b _ (.cells #[.int .i64 F, .bool (Nm.wn s2.z), .slice av (Nm.wl s2.z).length cv, .int .i64 s2.T, .bool s2.nn, .bool s2.bd, .bool s2.pl, .bool s2.mi, .bool s2.am] 50))
        replace bel := bel_al bel (.cells #[.int .i64 F, .bool (Nm.wn s2.z), .slice av (Nm.wl s2.z).length cv, .int .i64 s2.T, .bool s2.nn, .bool s2.bd, .bool s2.pl, .bool s2.mi, .bool s2.am] 50)
        have Bv := Q9.new w4 (.int .i64 F) (.bool (Nm.wn s2.z)) (.slice av (Nm.wl s2.z).length cv) (.int .i64 s2.T) (.bool s2.nn) (.bool s2.bd) (.bool s2.pl) (.bool s2.mi) (.bool s2.am) 50
        obtain ⟨ka0, ka1, ka2, ka3, ka4, ka5, ka6, ka7, ka8, -, -, -, -, -, -, -, -, -⟩ := id Ba
        obtain ⟨kb0, kb1, kb2, kb3, kb4, kb5, kb6, kb7, kb8, -, -, -, -, -, -, -, -, -⟩ := id Bb
        obtain ⟨kv0, kv1, kv2, kv3, kv4, kv5, kv6, kv7, kv8, -, -, -, -, -, -, -, -, -⟩ := id Bv
        go_wp2_with fail
        refine (sameA F (Nm.wn s2.z) s2.T s2.nn s2.bd s2.pl s2.mi s2.am ab av cb cv (Nm.wl s2.z) _ sb sv hl2).mono ?_
        rintro r w5 ⟨rfl, hb⟩
        clear ka0 ka1 ka2 ka3 ka4 ka5 ka6 ka7 ka8 kb0 kb1 kb2 kb3 kb4 kb5 kb6 kb7 kb8 kv0 kv1 kv2 kv3 kv4 kv5 kv6 kv7 kv8
        replace bel := bel_go bel hb
        replace T' := T'.below hb
        replace s1 := s1.below hb
        replace Ba := Ba.below hb
        replace sb := sb.below hb
        replace Bb := Bb.below hb
        replace sv := sv.below hb
        replace Bv := Bv.below hb
        clear hb
        clear Bv
        clear sv
        obtain ⟨ka0, ka1, ka2, ka3, ka4, ka5, ka6, ka7, ka8, -, -, -, -, -, -, -, -, -⟩ := id Ba
        obtain ⟨kb0, kb1, kb2, kb3, kb4, kb5, kb6, kb7, kb8, -, -, -, -, -, -, -, -, -⟩ := id Bb
        go_wp2_with fail
        refine (C3.out ab cb _ T' sb).mono ?_
        rintro r w6 ⟨ae, ce, rfl, oe, hb⟩
        clear ka0 ka1 ka2 ka3 ka4 ka5 ka6 ka7 ka8 kb0 kb1 kb2 kb3 kb4 kb5 kb6 kb7 kb8
        replace bel := bel_go bel hb
        replace T' := T'.below hb
        replace s1 := s1.below hb
        replace Ba := Ba.below hb
        replace sb := sb.below hb
        replace Bb := Bb.below hb
        clear hb
        have se := oe.sl
        clear oe
        replace T' := T'.below (al_b _ (.cells #[.int .i64 F, .bool (Nm.wn s4.z), .slice ae (Nm.wl s4.z).length ce, .int .i64 s4.T, .bool s4.nn, .bool s4.bd, .bool s4.pl, .bool s4.mi, .bool s4.am] 50))
        replace s1 := s1.below (al_b _ (.cells #[.int .i64 F, .bool (Nm.wn s4.z), .slice ae (Nm.wl s4.z).length ce, .int .i64 s4.T, .bool s4.nn, .bool s4.bd, .bool s4.pl, .bool s4.mi, .bool s4.am] 50))
        replace Ba := Ba.below (al_b _ (.cells #[.int .i64 F, .bool (Nm.wn s4.z), .slice ae (Nm.wl s4.z).length ce, .int .i64 s4.T, .bool s4.nn, .bool s4.bd, .bool s4.pl, .bool s4.mi, .bool s4.am] 50))
        replace sb := sb.below (al_b _ (.cells #[.int .i64 F, .bool (Nm.wn s4.z), .slice ae (Nm.wl s4.z).length ce, .int .i64 s4.T, .bool s4.nn, .bool s4.bd, .bool s4.pl, .bool s4.mi, .bool s4.am] 50))
        replace Bb := Bb.below (al_b _ (.cells #[.int .i64 F, .bool (Nm.wn s4.z), .slice ae (Nm.wl s4.z).length ce, .int .i64 s4.T, .bool s4.nn, .bool s4.bd, .bool s4.pl, .bool s4.mi, .bool s4.am] 50))
        replace se := se.below (al_b _ (.cells #[.int .i64 F, .bool (Nm.wn s4.z), .slice ae (Nm.wl s4.z).length ce, .int .i64 s4.T, .bool s4.nn, .bool s4.bd, .bool s4.pl, .bool s4.mi, .bool s4.am] 50))
        replace bel := bel_al bel (.cells #[.int .i64 F, .bool (Nm.wn s4.z), .slice ae (Nm.wl s4.z).length ce, .int .i64 s4.T, .bool s4.nn, .bool s4.bd, .bool s4.pl, .bool s4.mi, .bool s4.am] 50)
        have Be := Q9.new w6 (.int .i64 F) (.bool (Nm.wn s4.z)) (.slice ae (Nm.wl s4.z).length ce) (.int .i64 s4.T) (.bool s4.nn) (.bool s4.bd) (.bool s4.pl) (.bool s4.mi) (.bool s4.am) 50
        obtain ⟨ka0, ka1, ka2, ka3, ka4, ka5, ka6, ka7, ka8, -, -, -, -, -, -, -, -, -⟩ := id Ba
        obtain ⟨kb0, kb1, kb2, kb3, kb4, kb5, kb6, kb7, kb8, -, -, -, -, -, -, -, -, -⟩ := id Bb
        obtain ⟨ke0, ke1, ke2, ke3, ke4, ke5, ke6, ke7, ke8, -, -, -, -, -, -, -, -, -⟩ := id Be
        go_wp2_with fail
        refine (C4.out _ T' s1).mono ?_
        rintro r w7 ⟨ad, cd, rfl, od, hb⟩
        clear ka0 ka1 ka2 ka3 ka4 ka5 ka6 ka7 ka8 kb0 kb1 kb2 kb3 kb4 kb5 kb6 kb7 kb8 ke0 ke1 ke2 ke3 ke4 ke5 ke6 ke7 ke8
        replace bel := bel_go bel hb
        replace T' := T'.below hb
        replace s1 := s1.below hb
        replace Ba := Ba.below hb
        replace sb := sb.below hb
        replace Bb := Bb.below hb
        replace se := se.below hb
        replace Be := Be.below hb
        clear hb
        have sd := od.sl
        clear od
        replace T' := T'.below (al_b _ (.cells #[.int .i64 F, .bool (Nm.wn s3.z), .slice ad (Nm.wl s3.z).length cd, .int .i64 s3.T, .bool s3.nn, .bool s3.bd, .bool s3.pl, .bool s3.mi, .bool s3.am] 50))
        replace s1 := s1.below (al_b _ (.cells #[.int .i64 F, .bool (Nm.wn s3.z), .slice ad (Nm.wl s3.z).length cd, .int .i64 s3.T, .bool s3.nn, .bool s3.bd, .bool s3.pl, .bool s3.mi, .bool s3.am] 50))
        replace Ba := Ba.below (al_b _ (.cells #[.int .i64 F, .bool (Nm.wn s3.z), .slice ad (Nm.wl s3.z).length cd, .int .i64 s3.T, .bool s3.nn, .bool s3.bd, .bool s3.pl, .bool s3.mi, .bool s3.am] 50))
        replace sb := sb.below (al_b _ (.cells #[.int .i64 F, .bool (Nm.wn s3.z), .slice ad (Nm.wl s3.z).length cd, .int .i64 s3.T, .bool s3.nn, .bool s3.bd, .bool s3.pl, .bool s3.mi, .bool s3.am] 50))
        replace Bb := Bb.below (al_b _ (.cells #[.int .i64 F, .bool (Nm.wn s3.z), .slice ad (Nm.wl s3.z).length cd, .int .i64 s3.T, .bool s3.nn, .bool s3.bd, .bool s3.pl, .bool s3.mi, .bool s3.am] 50))
        replace se := se.below (al_b _ (.cells #[.int .i64 F, .bool (Nm.wn s3.z), .slice ad (Nm.wl s3.z).length cd, .int .i64 s3.T, .bool s3.nn, .bool s3.bd, .bool s3.pl, .bool s3.mi, .bool s3.am] 50))
        replace Be := Be.below (al_b _ (.cells #[.int .i64 F, .bool (Nm.wn s3.z), .slice ad (Nm.wl s3.z).length cd, .int .i64 s3.T, .bool s3.nn, .bool s3.bd, .bool s3.pl, .bool s3.mi, .bool s3.am] 50))
        replace sd := sd.below (al_b _ (.cells #[.int .i64 F, .bool (Nm.wn s3.z), .slice ad (Nm.wl s3.z).length cd, .int .i64 s3.T, .bool s3.nn, .bool s3.bd, .bool s3.pl, .bool s3.mi, .bool s3.am] 50))
        replace bel := bel_al bel (.cells #[.int .i64 F, .bool (Nm.wn s3.z), .slice ad (Nm.wl s3.z).length cd, .int .i64 s3.T, .bool s3.nn, .bool s3.bd, .bool s3.pl, .bool s3.mi, .bool s3.am] 50)
        have Bd := Q9.new w7 (.int .i64 F) (.bool (Nm.wn s3.z)) (.slice ad (Nm.wl s3.z).length cd) (.int .i64 s3.T) (.bool s3.nn) (.bool s3.bd) (.bool s3.pl) (.bool s3.mi) (.bool s3.am) 50
        obtain ⟨ka0, ka1, ka2, ka3, ka4, ka5, ka6, ka7, ka8, -, -, -, -, -, -, -, -, -⟩ := id Ba
        obtain ⟨kb0, kb1, kb2, kb3, kb4, kb5, kb6, kb7, kb8, -, -, -, -, -, -, -, -, -⟩ := id Bb
        obtain ⟨ke0, ke1, ke2, ke3, ke4, ke5, ke6, ke7, ke8, -, -, -, -, -, -, -, -, -⟩ := id Be
        obtain ⟨kd0, kd1, kd2, kd3, kd4, kd5, kd6, kd7, kd8, -, -, -, -, -, -, -, -, -⟩ := id Bd
        go_wp2_with fail
        refine (C5.out ad cd _ T' sd).mono ?_
        rintro r w8 ⟨af, cf, rfl, of, hb⟩
        clear ka0 ka1 ka2 ka3 ka4 ka5 ka6 ka7 ka8 kb0 kb1 kb2 kb3 kb4 kb5 kb6 kb7 kb8 ke0 ke1 ke2 ke3 ke4 ke5 ke6 ke7 ke8 kd0 kd1 kd2 kd3 kd4 kd5 kd6 kd7 kd8
        replace bel := bel_go bel hb
        replace T' := T'.below hb
        replace s1 := s1.below hb
        replace Ba := Ba.below hb
        replace sb := sb.below hb
        replace Bb := Bb.below hb
        replace se := se.below hb
        replace Be := Be.below hb
        replace sd := sd.below hb
        replace Bd := Bd.below hb
        clear hb
        have sf := of.sl
        clear of
        replace T' := T'.below (al_b _ (.cells #[.int .i64 F, .bool (Nm.wn s4.z), .slice af (Nm.wl s4.z).length cf, .int .i64 s4.T, .bool s4.nn, .bool s4.bd, .bool s4.pl, .bool s4.mi, .bool s4.am] 50))
        replace s1 := s1.below (al_b _ (.cells #[.int .i64 F, .bool (Nm.wn s4.z), .slice af (Nm.wl s4.z).length cf, .int .i64 s4.T, .bool s4.nn, .bool s4.bd, .bool s4.pl, .bool s4.mi, .bool s4.am] 50))
        replace Ba := Ba.below (al_b _ (.cells #[.int .i64 F, .bool (Nm.wn s4.z), .slice af (Nm.wl s4.z).length cf, .int .i64 s4.T, .bool s4.nn, .bool s4.bd, .bool s4.pl, .bool s4.mi, .bool s4.am] 50))
        replace sb := sb.below (al_b _ (.cells #[.int .i64 F, .bool (Nm.wn s4.z), .slice af (Nm.wl s4.z).length cf, .int .i64 s4.T, .bool s4.nn, .bool s4.bd, .bool s4.pl, .bool s4.mi, .bool s4.am] 50))
        replace Bb := Bb.below (al_b _ (.cells #[.int .i64 F, .bool (Nm.wn s4.z), .slice af (Nm.wl s4.z).length cf, .int .i64 s4.T, .bool s4.nn, .bool s4.bd, .bool s4.pl, .bool s4.mi, .bool s4.am] 50))
        replace se := se.below (al_b _ (.cells #[.int .i64 F, .bool (Nm.wn s4.z), .slice af (Nm.wl s4.z).length cf, .int .i64 s4.T, .bool s4.nn, .bool s4.bd, .bool s4.pl, .bool s4.mi, .bool s4.am] 50))
        replace Be := Be.below (al_b _ (.cells #[.int .i64 F, .bool (Nm.wn s4.z), .slice af (Nm.wl s4.z).length cf, .int .i64 s4.T, .bool s4.nn, .bool s4.bd, .bool s4.pl, .bool s4.mi, .bool s4.am] 50))
        replace sd := sd.below (al_b _ (.cells #[.int .i64 F, .bool (Nm.wn s4.z), .slice af (Nm.wl s4.z).length cf, .int .i64 s4.T, .bool s4.nn, .bool s4.bd, .bool s4.pl, .bool s4.mi, .bool s4.am] 50))
        replace Bd := Bd.below (al_b _ (.cells #[.int .i64 F, .bool (Nm.wn s4.z), .slice af (Nm.wl s4.z).length cf, .int .i64 s4.T, .bool s4.nn, .bool s4.bd, .bool s4.pl, .bool s4.mi, .bool s4.am] 50))
        replace sf := sf.below (al_b _ (.cells #[.int .i64 F, .bool (Nm.wn s4.z), .slice af (Nm.wl s4.z).length cf, .int .i64 s4.T, .bool s4.nn, .bool s4.bd, .bool s4.pl, .bool s4.mi, .bool s4.am] 50))
        replace bel := bel_al bel (.cells #[.int .i64 F, .bool (Nm.wn s4.z), .slice af (Nm.wl s4.z).length cf, .int .i64 s4.T, .bool s4.nn, .bool s4.bd, .bool s4.pl, .bool s4.mi, .bool s4.am] 50)
        have Bf := Q9.new w8 (.int .i64 F) (.bool (Nm.wn s4.z)) (.slice af (Nm.wl s4.z).length cf) (.int .i64 s4.T) (.bool s4.nn) (.bool s4.bd) (.bool s4.pl) (.bool s4.mi) (.bool s4.am) 50
        obtain ⟨ka0, ka1, ka2, ka3, ka4, ka5, ka6, ka7, ka8, -, -, -, -, -, -, -, -, -⟩ := id Ba
        obtain ⟨kb0, kb1, kb2, kb3, kb4, kb5, kb6, kb7, kb8, -, -, -, -, -, -, -, -, -⟩ := id Bb
        obtain ⟨ke0, ke1, ke2, ke3, ke4, ke5, ke6, ke7, ke8, -, -, -, -, -, -, -, -, -⟩ := id Be
        obtain ⟨kd0, kd1, kd2, kd3, kd4, kd5, kd6, kd7, kd8, -, -, -, -, -, -, -, -, -⟩ := id Bd
        obtain ⟨kf0, kf1, kf2, kf3, kf4, kf5, kf6, kf7, kf8, -, -, -, -, -, -, -, -, -⟩ := id Bf
        go_wp2_with fail
        refine (CO.out ab cb _ T'.t sb).mono ?_
        rintro r w9 ⟨rfl, hb⟩
        clear ka0 ka1 ka2 ka3 ka4 ka5 ka6 ka7 ka8 kb0 kb1 kb2 kb3 kb4 kb5 kb6 kb7 kb8 ke0 ke1 ke2 ke3 ke4 ke5 ke6 ke7 ke8 kd0 kd1 kd2 kd3 kd4 kd5 kd6 kd7 kd8 kf0 kf1 kf2 kf3 kf4 kf5 kf6 kf7 kf8
        replace bel := bel_go bel hb
        replace T' := T'.below hb
        replace s1 := s1.below hb
        replace Ba := Ba.below hb
        replace sb := sb.below hb
        replace Bb := Bb.below hb
        replace se := se.below hb
        replace Be := Be.below hb
        replace sd := sd.below hb
        replace Bd := Bd.below hb
        replace sf := sf.below hb
        replace Bf := Bf.below hb
        clear hb
        obtain ⟨ka0, ka1, ka2, ka3, ka4, ka5, ka6, ka7, ka8, -, -, -, -, -, -, -, -, -⟩ := id Ba
        obtain ⟨kb0, kb1, kb2, kb3, kb4, kb5, kb6, kb7, kb8, -, -, -, -, -, -, -, -, -⟩ := id Bb
        obtain ⟨ke0, ke1, ke2, ke3, ke4, ke5, ke6, ke7, ke8, -, -, -, -, -, -, -, -, -⟩ := id Be
        obtain ⟨kd0, kd1, kd2, kd3, kd4, kd5, kd6, kd7, kd8, -, -, -, -, -, -, -, -, -⟩ := id Bd
        obtain ⟨kf0, kf1, kf2, kf3, kf4, kf5, kf6, kf7, kf8, -, -, -, -, -, -, -, -, -⟩ := id Bf
        go_wp2_with fail
        refine (sameA F (Nm.wn s4.z) s4.T s4.nn s4.bd s4.pl s4.mi s4.am ae af ce cf (Nm.wl s4.z) _ se sf hl4).mono ?_
        rintro r w10 ⟨rfl, hb⟩
        clear ka0 ka1 ka2 ka3 ka4 ka5 ka6 ka7 ka8 kb0 kb1 kb2 kb3 kb4 kb5 kb6 kb7 kb8 ke0 ke1 ke2 ke3 ke4 ke5 ke6 ke7 ke8 kd0 kd1 kd2 kd3 kd4 kd5 kd6 kd7 kd8 kf0 kf1 kf2 kf3 kf4 kf5 kf6 kf7 kf8
        replace bel := bel_go bel hb
        replace T' := T'.below hb
        replace s1 := s1.below hb
        replace Ba := Ba.below hb
        replace sb := sb.below hb
        replace Bb := Bb.below hb
        replace se := se.below hb
        replace Be := Be.below hb
        replace sd := sd.below hb
        replace Bd := Bd.below hb
        replace sf := sf.below hb
        replace Bf := Bf.below hb
        clear hb
        obtain ⟨ka0, ka1, ka2, ka3, ka4, ka5, ka6, ka7, ka8, -, -, -, -, -, -, -, -, -⟩ := id Ba
        obtain ⟨kb0, kb1, kb2, kb3, kb4, kb5, kb6, kb7, kb8, -, -, -, -, -, -, -, -, -⟩ := id Bb
        obtain ⟨ke0, ke1, ke2, ke3, ke4, ke5, ke6, ke7, ke8, -, -, -, -, -, -, -, -, -⟩ := id Be
        obtain ⟨kd0, kd1, kd2, kd3, kd4, kd5, kd6, kd7, kd8, -, -, -, -, -, -, -, -, -⟩ := id Bd
        obtain ⟨kf0, kf1, kf2, kf3, kf4, kf5, kf6, kf7, kf8, -, -, -, -, -, -, -, -, -⟩ := id Bf
        go_wp2
        all_goals go_ret
        all_goals exact ⟨rfl, bel⟩
theorem atlaw2_all (ca da : Option Addr) (cc dc : Nat) (cs ds : List Int) (w : World) (hT : EX w) (hs : Sl .u8 w (.slice ca cs.length cc) cs) (hby : ∀ i, 0 ≤ cs.getD i 0 ∧ cs.getD i 0 ≤ 255) (ks : Sl .u8 w (.slice da ds.length dc) ds) (kby : ∀ i, 0 ≤ ds.getD i 0 ∧ ds.getD i 0 ≤ 255) :
    Calls Tryz.prog 6 #[.slice ca cs.length cc, .slice da ds.length dc] w fun e w' => e = .returned (.bool true) ∧ Below w.heap.size w w' := by
  have hlm : cs.length ≤ 9223372036854775807 := by obtain ⟨_, h1, h2, _⟩ := hs.cells; unfold maxLen at h2; omega
  have klm : ds.length ≤ 9223372036854775807 := by obtain ⟨_, h1, h2, _⟩ := ks.cells; unfold maxLen at h2; omega
  by_cases hl : cs.length ≤ 1048576
  · by_cases kl : ds.length ≤ 1048576
    · exact atlaw2 ca da cc dc cs ds w hT hs hby hl ks kby kl
    · have C1 := hid (big_any ca cs.length cc w hlm false (by simp; omega))
      have C2 := hid (big_any da ds.length dc w klm true (by simp; omega))
      clear hs hby ks kby hl kl hlm klm
      go_enter Tryz.func6, Tryz.ntmps6
      go_wp2_with fail
      refine C1.out.mono ?_
      rintro e w0 ⟨rfl, rfl⟩
      go_wp2_with fail
      refine C2.out.mono ?_
      rintro e w0 ⟨rfl, rfl⟩
      go_wp2
      go_ret
      exact ⟨rfl, Below.refl _ _⟩
  · have C1 := hid (big_any ca cs.length cc w hlm true (by simp; omega))
    clear hs hby ks kby hl hlm klm
    go_enter Tryz.func6, Tryz.ntmps6
    go_wp2_with fail
    refine C1.out.mono ?_
    rintro e w0 ⟨rfl, rfl⟩
    go_wp2
    go_ret
    exact ⟨rfl, Below.refl _ _⟩
end Fd
end Go.Proofs.YtkfjmcdniohljaaGreatDoor
