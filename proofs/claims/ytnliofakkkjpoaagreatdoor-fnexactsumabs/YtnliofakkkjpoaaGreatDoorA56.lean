/-
  What is needed of ND, AF, AG, AH.
-/
import Derived.Test.YtnliofakkkjpoaaGreatDoorA47
import Derived.Test.YtnliofakkkjpoaaGreatDoorA50
set_option maxHeartbeats 16000000
set_option maxRecDepth 1000000
namespace Go.Proofs.YtnliofakkkjpoaaGreatDoor
set_option linter.unusedVariables false
set_option linter.unusedSimpArgs false
open Go.RowKit Go.Deep
/-- What an accumulator with one term more is, by the program: out of what the float is as a number, and as a tally. -/
theorem add_core (fm : Int) (ng : Bool) (T : Int) (nn bd pl mi am : Bool) (p : Option Addr) (cap : Nat) (zs : List Int) (x : Int) (u : Value) (w : World) (hT : Tab w) (hg : EA.ErrT w) (hq : ErrQ w u) (hs : Sl .u32 w (.slice p zs.length cap) zs) (hz : Nm.Dg zs) (hk : accB fm ng zs T nn bd pl mi am = true) (hx : okF fm x = true) (x0 : 0 ≤ x) (x1 : x < 18446744073709551616) (hTm : T ≠ 1000000)
    (neg inf G : Bool) (L : List Int) (e : Int) (ev : Value) (m1 m2 m3 m4 m5 G2 : Bool) (L2 : List Int) (d2 : Nm.Dg L2) (ho2 : okB G2 L2 = true) (y : Int) (hy : y = Nm.wv ng zs + Nm.wv G2 L2) (hf : Nm.fits y = true)
    (hn : ∀ w' : World, Tab w' → ErrQ w' u → Calls Tryz.prog 96 #[.int .i64 fm, .int .u64 x] w' fun r w'' => ∃ a' c', r = .returned (.tuple #[.agg #[.bool neg, .bool inf, .bool G, .slice a' L.length c', .int .i64 e], ev]) ∧ Sl .u32 w'' (.slice a' L.length c') L ∧ Below w'.heap.size w' w'')
    (ht : ∀ (a' : Option Addr) (c' : Nat) (w' : World), Tab w' → EA.ErrT w' → Sl .u32 w' (.slice a' L.length c') L → Calls Tryz.prog 68 #[.int .i64 fm, .agg #[.bool neg, .bool inf, .bool G, .slice a' L.length c', .int .i64 e], ev] w' fun r w'' => ∃ a'' c'', r = .returned (.agg #[.int .i64 1, .bool m1, .bool m2, .bool m3, .bool m4, .bool m5, .int .i64 fm, .bool G2, .slice a'' L2.length c'']) ∧ Own w'' w'.heap.size a'' c'' L2 ∧ Below w'.heap.size w' w'') :
    Calls Tryz.prog 79 #[.agg #[.int .i64 fm, .bool ng, .slice p zs.length cap, .int .i64 T, .bool nn, .bool bd, .bool pl, .bool mi, .bool am], .int .u64 x] w fun r w' => ∃ a' c', r = .returned (.tuple #[.agg #[.int .i64 fm, .bool (Nm.wn y), .slice a' (Nm.wl y).length c', .int .i64 (T + 1), .bool (nn || m1), .bool (bd || m2), .bool (pl || m3), .bool (mi || m4), .bool (amW T am 1 m5)], .int .i64 0]) ∧ Own w' w.heap.size a' c' (Nm.wl y) ∧ Below w.heap.size w w' := by
  obtain ⟨-, hk1, ho1, -⟩ := acc_parts hk
  have hl := (okB_nz ho1).2
  have dx : D64 [x] := fun z hz => by rw [List.mem_singleton.1 hz]; exact ⟨x0, x1⟩
  have hall : allB fm [x] = true := by unfold allB; rw [List.all_cons, hx]; rfl
  have CC := hid (fun q qc w' h h' h'' => tcode fm ng T nn bd pl mi am p cap zs q qc [x] w' h h' (by omega) h'' dx (by simp) 0 (by unfold tcC; rw [hk, hall, if_pos rfl, if_pos rfl, if_neg hTm]))
  have CN := hid hn
  have CO := hid ht
  have CW := hid (fun a' c' w' h h' => twith fm ng T nn bd pl mi am fm G2 1 m1 m2 m3 m4 m5 p a' cap c' zs L2 w' h h' hz d2 hk1 (by decide) (by decide) ho1 ho2 y hy hf)
  have CT := hid (fun w' => tally_any fm ng T nn bd pl mi am p zs.length cap w')
  obtain ⟨T2, hT2⟩ : ∃ T2, T2 = T + 1 := ⟨_, rfl⟩
  obtain ⟨n2, hn2⟩ : ∃ n2, n2 = (nn || m1) := ⟨_, rfl⟩
  obtain ⟨b2, hb2'⟩ : ∃ b2, b2 = (bd || m2) := ⟨_, rfl⟩
  obtain ⟨p2, hp2⟩ : ∃ p2, p2 = (pl || m3) := ⟨_, rfl⟩
  obtain ⟨i2, hm2⟩ : ∃ i2, i2 = (mi || m4) := ⟨_, rfl⟩
  obtain ⟨a2, ha2⟩ : ∃ a2, a2 = amW T am 1 m5 := ⟨_, rfl⟩
  obtain ⟨GG, hG⟩ : ∃ GG, GG = Nm.wn y := ⟨_, rfl⟩
  obtain ⟨LL, hL⟩ : ∃ LL, LL = Nm.wl y := ⟨_, rfl⟩
  rw [← hT2, ← hn2, ← hb2', ← hp2, ← hm2, ← ha2, ← hG, ← hL] at CW
  rw [← hT2, ← hn2, ← hb2', ← hp2, ← hm2, ← ha2, ← hG, ← hL]
  have CA := hid (fun a c w' => tacc fm GG T2 n2 b2 p2 i2 a2 (.slice a LL.length c) w' ⟨_, _, _, rfl⟩)
  clear hT2 hn2 hb2' hp2 hm2 ha2 hG hL hk1 ho1 hy hf hz hk hn ht hx hall dx hTm
  have Q := (Q9.new w (.int .i64 fm) (.bool ng) (.slice p zs.length cap) (.int .i64 T) (.bool nn) (.bool bd) (.bool pl) (.bool mi) (.bool am) 31).alloc (.cells #[.int .i64 0, .bool false, .slice none 0 0, .int .i64 0, .bool false, .bool false, .bool false, .bool false, .bool false] 31)
  have R := Q9.nwn w (.cells #[.int .i64 fm, .bool ng, .slice p zs.length cap, .int .i64 T, .bool nn, .bool bd, .bool pl, .bool mi, .bool am] 31) (.int .i64 0) (.bool false) (.slice none 0 0) (.int .i64 0) (.bool false) (.bool false) (.bool false) (.bool false) (.bool false) 31
  have bel0 : Below w.heap.size w ((w.alloc (.cells #[.int .i64 fm, .bool ng, .slice p zs.length cap, .int .i64 T, .bool nn, .bool bd, .bool pl, .bool mi, .bool am] 31)).alloc (.cells #[.int .i64 0, .bool false, .slice none 0 0, .int .i64 0, .bool false, .bool false, .bool false, .bool false, .bool false] 31)) := (by repeat (first | exact bz0 _ _ | refine bz1 ?_ | refine bz2 ?_ _ | refine bz3 ?_ _ | refine bz5 ?_ _ | refine bz6 ?_ _))
  obtain ⟨c0, c1, c2, c3, c4, c5, c6, c7, c8⟩ := Q.cs
  go_enter Tryz.func79, Tryz.ntmps79
  go_wp2_with fail
  have hA : Below w.heap.size w (((w.alloc (.cells #[.int .i64 fm, .bool ng, .slice p zs.length cap, .int .i64 T, .bool nn, .bool bd, .bool pl, .bool mi, .bool am] 31)).alloc (.cells #[.int .i64 0, .bool false, .slice none 0 0, .int .i64 0, .bool false, .bool false, .bool false, .bool false, .bool false] 31)).alloc (.cells #[.int .u64 x] 27)) := bel_al bel0 _
  have hxx : Sl .u64 (((w.alloc (.cells #[.int .i64 fm, .bool ng, .slice p zs.length cap, .int .i64 T, .bool nn, .bool bd, .bool pl, .bool mi, .bool am] 31)).alloc (.cells #[.int .i64 0, .bool false, .slice none 0 0, .int .i64 0, .bool false, .bool false, .bool false, .bool false, .bool false] 31)).alloc (.cells #[.int .u64 x] 27)) (.slice (some ⟨w.heap.size + 1 + 1, 0, none⟩) [x].length 1) [x] := ⟨some ⟨w.heap.size + 1 + 1, 0, none⟩, 1, rfl, Nat.le_refl _, by unfold maxLen; omega, .inr ⟨w.heap.size + 1 + 1, 0, rfl, fun i hi => by
    have : i = 0 := by simpa using hi
    subst this; exact cell_top _ _ _ _ (by simp)⟩⟩
  refine (CC.out (some ⟨w.heap.size + 1 + 1, 0, none⟩) 1 _ (hT.below hA) (hs.below hA) hxx).mono ?_
  rintro r w1 ⟨rfl, hb1⟩
  clear c0 c1 c2 c3 c4 c5 c6 c7 c8 hxx
  replace Q := (Q.alloc (.cells #[.int .u64 x] 27)).below hb1
  replace R := (R.alloc (.cells #[.int .u64 x] 27)).below hb1
  have bel1 := bel_go hA hb1
  have hq1 : ErrQ w1 u := (bel1.cell (p := ⟨0, 0, none⟩) (World.block_lt_of_cell? w _ hq)).trans hq
  have lr := R.lt
  clear hA hb1 bel0
  have c0 := Q.c0
  go_wp2_with fail
  refine (CN.out _ (hT.below bel1) hq1).mono ?_
  rintro r w2 ⟨a3, k3, rfl, s3, hb2⟩
  clear c0
  have lw2 := hb2.size
  replace Q := (Q.below hb2).alloc (.cells #[.bool neg, .bool inf, .bool G, .slice a3 L.length k3, .int .i64 e] 78)
  replace R := (R.below hb2).alloc (.cells #[.bool neg, .bool inf, .bool G, .slice a3 L.length k3, .int .i64 e] 78)
  have X := Q5.new w2 (.bool neg) (.bool inf) (.bool G) (.slice a3 L.length k3) (.int .i64 e) 78
  have bel2 := bel_go bel1 hb2
  have s4 := s3.alloc (.cells #[.bool neg, .bool inf, .bool G, .slice a3 L.length k3, .int .i64 e] 78)
  have bel3 : Below w.heap.size w (w2.alloc (.cells #[.bool neg, .bool inf, .bool G, .slice a3 L.length k3, .int .i64 e] 78)).drew := Below.drew (bel_al bel2 _)
  have sz := hs.below bel3
  have s5 := s4.drew
  have ctd := Q.drew.cs
  have cod := X.drew.cs
  have Tab3 := hT.below bel3
  have Err3 : EA.ErrT (w2.alloc (.cells #[.bool neg, .bool inf, .bool G, .slice a3 L.length k3, .int .i64 e] 78)).drew := EA.five hg bel3
  clear bel1 hb2 hq1 s3 s4
  go_wp2_with fail
  go_region_held3 (fun w' => (w'.cell? ⟨w.heap.size, 0, none⟩ = some (.int .i64 fm) ∧ w'.cell? ⟨w.heap.size, 1, none⟩ = some (.bool ng) ∧ w'.cell? ⟨w.heap.size, 2, none⟩ = some (.slice p zs.length cap) ∧ w'.cell? ⟨w.heap.size, 3, none⟩ = some (.int .i64 T) ∧ w'.cell? ⟨w.heap.size, 4, none⟩ = some (.bool nn) ∧ w'.cell? ⟨w.heap.size, 5, none⟩ = some (.bool bd) ∧ w'.cell? ⟨w.heap.size, 6, none⟩ = some (.bool pl) ∧ w'.cell? ⟨w.heap.size, 7, none⟩ = some (.bool mi) ∧ w'.cell? ⟨w.heap.size, 8, none⟩ = some (.bool am)) ∧ (w'.cell? ⟨w2.heap.size, 0, none⟩ = some (.bool neg) ∧ w'.cell? ⟨w2.heap.size, 1, none⟩ = some (.bool inf) ∧ w'.cell? ⟨w2.heap.size, 2, none⟩ = some (.bool G) ∧ w'.cell? ⟨w2.heap.size, 3, none⟩ = some (.slice a3 L.length k3) ∧ w'.cell? ⟨w2.heap.size, 4, none⟩ = some (.int .i64 e)))
    (first | with_reducible assumption | with_reducible exact ⟨ctd, cod⟩ | with_reducible exact keep95 Q4 X4 (by omega) (by omega) _ _ _ _ _ _ _ _ _ _ rfl | fail)
    (first
      | (go_at_call 66; refine (CT.out _).mono ?_; rintro r q1 ⟨rfl, hq1⟩; have Q1 := Q.drew.below hq1; have X1 := X.drew.below hq1; have R1 := R.drew.below hq1; have u1 := And.intro Q1.cs X1.cs; have s6 := s5.below hq1; have sz1 := sz.below hq1; have T4 := Tab3.below hq1; have E4 := EA.five Err3 hq1)
      | (go_at_call 68; refine (CO.out a3 k3 _ T4 E4 s6).mono ?_; rintro r q2 ⟨a5, k5, rfl, hp2, hq2⟩; have Q2 := Q1.below hq2; have X2 := X1.below hq2; have R2' := R1.below hq2; have u2 := And.intro Q2.cs X2.cs; have sz2 := sz1.below hq2)
      | (go_at_call 67; refine (CW.out a5 k5 _ sz2 hp2.sl).mono ?_; rintro r q3 ⟨a6, k6, rfl, hp3, hq3⟩; have Q3 := Q2.below hq3; have X3 := X2.below hq3; have R3' := R2'.below hq3; have u3 := And.intro Q3.cs X3.cs)
      | (go_at_call 69; refine (CA.out a6 k6 _).mono ?_; rintro r q4 ⟨rfl, hq4⟩; have Q4 := Q3.below hq4; have X4 := X3.below hq4; have u4 := And.intro Q4.cs X4.cs; have hp4 := hp3.below hq4; obtain ⟨r0, r1, r2, r3, r4, r5, r6, r7, r8, g0, g1, g2, g3, g4, g5, g6, g7, g8⟩ := R3'.below hq4))
  have z1 := hq1.size
  have z2 := hq2.size
  have z3 : w2.heap.size + 1 ≤ q1.heap.size := by simpa using z1
  have bel4 : Below w.heap.size w q2 := bel_go (bel_go bel3 hq1) hq2
  go_wp2
  refine bodyPost_ret (v := .tuple #[.agg #[.int .i64 fm, .bool GG, .slice a6 LL.length k6, .int .i64 T2, .bool n2, .bool b2, .bool p2, .bool i2, .bool a2], .int .i64 0]) (by simp [results, Tryz.results79, go_sem, r0, r1, r2, r3, r4, r5, r6, r7, r8]) rfl ⟨a6, k6, rfl, ?_, ?_⟩
  · refine Own.base (B := q2.heap.size) ?_ (by have := bel4.size; omega)
    repeat (first | with_reducible exact hp4 | (with_reducible refine Own.setBelow ?_ ?_ _; rotate_left; (simp; try omega)))
  · exact (by (repeat with_reducible first | refine Below.setCell ?_ ?_ _ | exact bz0 _ _ | refine bz1 ?_ | refine bz2 ?_ _ | refine bz3 ?_ _ | refine bz4 ?_ hq4 | refine bz4 ?_ hq3 | refine bz4 ?_ bel4 | refine Below.alloc ?_ ?_ _ | refine Below.trans ?_ (Below.mono hq4 ?_) | refine Below.trans ?_ (Below.mono hq3 ?_) | refine Below.trans ?_ (Below.mono bel4 ?_)) <;> first | omega | (simp; done) | (simp; omega))
theorem sh_sh (m : Nat) {a b : Int} (ha : 0 ≤ a) (hb : 0 ≤ b) : Nm.sh (Nm.sh m a) b = Nm.sh m (a + b) := by
  unfold Nm.sh
  rw [if_neg (by omega), if_neg (by omega), if_neg (by omega), Nat.mul_assoc, ← Nat.pow_add]
  congr 2; omega
/-- The term that a finite float is, in 2 to the 2 Q. -/
def tmV (fm x : Int) : Int := Nm.shV (Nm.wn (unI fm x)) (Nm.val (Nm.wl (unI fm x))) (-unQ fm)
theorem tm_eq {fm x : Int} (hf : finB fm x = true) : tmV fm x = Nm.shV (Nm.wn (if pS fm x then -pM fm x else pM fm x)) (Nm.val (Nm.wl (if pS fm x then -pM fm x else pM fm x))) (pE fm x - 2 * unQ fm) ∧ bitLen (tmV fm x).natAbs ≤ 4216 := by
  have h1 := pM_bd fm x
  have h3 := pE_q hf
  have hb := un_bits hf
  have hq : -1074 ≤ unQ fm ∧ unQ fm ≤ -149 := by unfold unQ; split <;> omega
  obtain ⟨m, hm⟩ : ∃ m : Nat, pM fm x = m := ⟨(pM fm x).toNat, by omega⟩
  have hu : unI fm x = if pS fm x then -((Nm.sh m (pE fm x - unQ fm) : Nat) : Int) else ((Nm.sh m (pE fm x - unQ fm) : Nat) : Int) := by
    unfold unI; rw [hf, if_pos rfl, hm, Int.toNat_natCast]
  rw [hm, Int.toNat_natCast] at hb
  unfold tmV
  rw [hu, sg_shift, hm, sg_shift, sh_sh m h3.1 (by omega)]
  refine ⟨by rw [show pE fm x - unQ fm + -unQ fm = pE fm x - 2 * unQ fm by omega], ?_⟩
  have e : (if pS fm x then -((Nm.sh m (pE fm x - unQ fm + -unQ fm) : Nat) : Int) else ((Nm.sh m (pE fm x - unQ fm + -unQ fm) : Nat) : Int)).natAbs = Nm.sh m (pE fm x - unQ fm + -unQ fm) := by cases pS fm x <;> simp
  rw [e, ← sh_sh m h3.1 (by omega)]
  obtain ⟨k, hk⟩ : ∃ k, k = Nm.sh m (pE fm x - unQ fm) := ⟨_, rfl⟩
  rw [← hk] at hb ⊢
  unfold Nm.sh
  rw [if_neg (by omega)]
  by_cases h0 : k = 0
  · subst h0; rw [Nat.zero_mul]; decide
  · rw [Nm.bl_mul h0]; omega
/-- What the program says of a signalling NaN. -/
def sgS : ByteArray := ⟨#[111, 110, 101, 32, 105, 115, 32, 97, 32, 115, 105, 103, 110, 97, 108, 108, 105, 110, 103, 32, 78, 97, 78]⟩
theorem num_sig2 (fm x : Int) (w : World) (hT : Tab w) (h0 : 0 ≤ x) (h1 : x < 18446744073709551616) (hc : cls fm x = 5) :
    Calls Tryz.prog 96 #[.int .i64 fm, .int .u64 x] w fun e w' => e = .returned (.tuple #[.agg #[.bool false, .bool false, .bool false, .slice none 0 0, .int .i64 0], .iface 176 (.agg #[.iface 178 (.agg #[.string sgS])])]) ∧ Below w.heap.size w w' := by
  have C := hid (fun w' h => impl_cls fm x w' h h0 h1)
  rw [hc] at C
  clear hc
  have Q := Q5.new w (.bool false) (.bool false) (.bool false) (.slice none 0 0) (.int .i64 0) 78
  go_enter Tryz.func96, Tryz.ntmps96
  go_wp2_with fail
  refine (C.out _ (hT.below ((Below.refl _ _).alloc (Nat.le_refl _) _))).mono ?_
  rintro e w1 ⟨rfl, hb1⟩
  obtain ⟨r0, r1, r2, r3, r4, f0, f1, f2, f3, f4⟩ := Q.below hb1
  clear Q
  go_wp2
  refine bodyPost_ret (by simp [results, Tryz.results96, go_sem, r0, r1, r2, r3, r4]; rfl) rfl ⟨rfl, ?_⟩
  exact (by (repeat with_reducible first | refine Below.setCell ?_ ?_ _ | exact bz0 _ _ | refine bz1 ?_ | refine bz2 ?_ _ | refine bz3 ?_ _ | refine bz4 ?_ hb1 | refine Below.alloc ?_ ?_ _ | refine Below.trans ?_ (Below.mono hb1 ?_)) <;> first | omega | (simp; done) | (simp; omega))
theorem cls_six {fm x : Int} (h : okF fm x = true) : finB fm x = true ∨ cls fm x = 3 ∨ cls fm x = 4 ∨ cls fm x = 5 := by
  have h1 := cls_rng fm x
  by_cases hf : 0 ≤ cls fm x ∧ cls fm x ≤ 2
  · exact .inl (by unfold finB; exact decide_eq_true hf)
  · have : cls fm x ≠ -1 := by
      intro e
      cases hn : nanB fm x
      · have := cls_num h hn; omega
      · have := cls_nan h hn; omega
    omega
theorem nan_of {fm x : Int} (h : okF fm x = true) : nanB fm x = (decide (cls fm x = 4) || decide (cls fm x = 5)) := by
  cases hn : nanB fm x
  · have := cls_num h hn
    rw [decide_eq_false (by omega), decide_eq_false (by omega)]; rfl
  · rcases cls_nan h hn with e | e
    · rw [decide_eq_true e]; rfl
    · rw [decide_eq_true e]; simp
theorem one_fin_32 (x : Int) (hf : finB 32 x = true) (G : Bool) (L : List Int) (hG : G = Nm.wn (if pS 32 x then -pM 32 x else pM 32 x)) (hL : L = Nm.wl (if pS 32 x then -pM 32 x else pM 32 x)) (m5 : Bool) (hm5 : m5 = (decide (L.length = 0) && pS 32 x)) (p : Option Addr) (c : Nat) (w : World) (hT : Tab w) (hg : EA.ErrT w) (hs : Sl .u32 w (.slice p L.length c) L) :
    Calls Tryz.prog 68 #[.int .i64 32, .agg #[.bool (pS 32 x), .bool false, .bool G, .slice p L.length c, .int .i64 (pE 32 x)], .nilIface] w fun r w' => ∃ a' c', r = .returned (.agg #[.int .i64 1, .bool false, .bool false, .bool false, .bool false, .bool m5, .int .i64 32, .bool (Nm.wn (tmV 32 x)), .slice a' (Nm.wl (tmV 32 x)).length c']) ∧ Own w' w.heap.size a' c' (Nm.wl (tmV 32 x)) ∧ Below w.heap.size w w' := by
  obtain ⟨e1, e2⟩ := tm_eq hf
  have hE := pE_bd 32 x
  have hM := pM_bd 32 x
  have hl2 : L.length ≤ 200 := by rw [hL]; unfold Nm.wl; have := lim_two (x := (if pS 32 x then -pM 32 x else pM 32 x).natAbs) (by cases pS 32 x <;> simp <;> omega); omega
  have hd : Nm.Dg L := by rw [hL]; exact Nm.wl_dg _
  have ho : okB G L = true := by rw [hG, hL]; exact okB_wl (by rw [← hL]; exact hl2)
  have hV : tmV 32 x = Nm.shV G (Nm.val L) (pE 32 x + 298) := by
    rw [e1, hG, hL]; congr 1
  refine one_32 (pS 32 x) false G p c L (pE 32 x) .nilIface false false false false m5 (Nm.wn (tmV 32 x)) (Nm.wl (tmV 32 x)) w hT hg hs (by omega) (by omega) (fun w' hg' => ?_) (fun w' h => wsh_at G p c L (pE 32 x + 298) w' h hd ho (by omega) (by omega) (tmV 32 x) hV (wl_len (by omega)))
  by_cases h0 : L.length = 0
  · rw [hm5, decide_eq_true h0, Bool.true_and]
    exact mk_zero (pS 32 x) G p L.length c (pE 32 x) w' hg' (by omega) h0
  · rw [hm5, decide_eq_false h0, Bool.false_and]
    exact mk_fin (pS 32 x) G p L.length c (pE 32 x) w' hg' (by omega) h0
theorem one_fin_64 (x : Int) (hf : finB 64 x = true) (G : Bool) (L : List Int) (hG : G = Nm.wn (if pS 64 x then -pM 64 x else pM 64 x)) (hL : L = Nm.wl (if pS 64 x then -pM 64 x else pM 64 x)) (m5 : Bool) (hm5 : m5 = (decide (L.length = 0) && pS 64 x)) (p : Option Addr) (c : Nat) (w : World) (hT : Tab w) (hg : EA.ErrT w) (hs : Sl .u32 w (.slice p L.length c) L) :
    Calls Tryz.prog 68 #[.int .i64 64, .agg #[.bool (pS 64 x), .bool false, .bool G, .slice p L.length c, .int .i64 (pE 64 x)], .nilIface] w fun r w' => ∃ a' c', r = .returned (.agg #[.int .i64 1, .bool false, .bool false, .bool false, .bool false, .bool m5, .int .i64 64, .bool (Nm.wn (tmV 64 x)), .slice a' (Nm.wl (tmV 64 x)).length c']) ∧ Own w' w.heap.size a' c' (Nm.wl (tmV 64 x)) ∧ Below w.heap.size w w' := by
  obtain ⟨e1, e2⟩ := tm_eq hf
  have hE := pE_bd 64 x
  have hM := pM_bd 64 x
  have hl2 : L.length ≤ 200 := by rw [hL]; unfold Nm.wl; have := lim_two (x := (if pS 64 x then -pM 64 x else pM 64 x).natAbs) (by cases pS 64 x <;> simp <;> omega); omega
  have hd : Nm.Dg L := by rw [hL]; exact Nm.wl_dg _
  have ho : okB G L = true := by rw [hG, hL]; exact okB_wl (by rw [← hL]; exact hl2)
  have hV : tmV 64 x = Nm.shV G (Nm.val L) (pE 64 x + 2148) := by
    rw [e1, hG, hL]; congr 1
  refine one_64 (pS 64 x) false G p c L (pE 64 x) .nilIface false false false false m5 (Nm.wn (tmV 64 x)) (Nm.wl (tmV 64 x)) w hT hg hs (by omega) (by omega) (fun w' hg' => ?_) (fun w' h => wsh_at G p c L (pE 64 x + 2148) w' h hd ho (by omega) (by omega) (tmV 64 x) hV (wl_len (by omega)))
  by_cases h0 : L.length = 0
  · rw [hm5, decide_eq_true h0, Bool.true_and]
    exact mk_zero (pS 64 x) G p L.length c (pE 64 x) w' hg' (by omega) h0
  · rw [hm5, decide_eq_false h0, Bool.false_and]
    exact mk_fin (pS 64 x) G p L.length c (pE 64 x) w' hg' (by omega) h0
theorem len_zero {fm x : Int} (hx : okF fm x = true) (hf : finB fm x = true) : (absF fm x == 0) = decide ((Nm.wl (if pS fm x then -pM fm x else pM fm x)).length = 0) := by
  have hM := pM_bd fm x
  have e : ((Nm.wl (if pS fm x then -pM fm x else pM fm x)).length = 0) ↔ pM fm x = 0 := by
    unfold Nm.wl
    rw [Nm.lim_length_zero]
    cases pS fm x <;> simp <;> omega
  rw [← cls_zero hx, Bool.eq_iff_iff, beq_iff_eq, decide_eq_true_eq, e]
  constructor
  · intro h
    have ha : (absF fm x == 0) = true := by rw [← cls_zero hx, h]; rfl
    have ha' : absF fm x = 0 := by simpa using ha
    unfold pM; rw [hf, if_pos rfl]
    rcases okF_cases hx with ⟨rfl, hx'⟩ | rfl
    · rw [abs32 hx'] at ha'
      rw [if_pos rfl, ha']; rfl
    · rw [abs64] at ha'
      rw [if_neg (by decide), ha']; rfl
  · intro h
    have hc : 0 ≤ cls fm x ∧ cls fm x ≤ 2 := by simpa [finB] using hf
    by_cases h12 : cls fm x = 1 ∨ cls fm x = 2
    · have := (pM_pos h12).2; omega
    · omega
def tmF (fm x : Int) : Tm := if finB fm x then ⟨tmV fm x, false, false, false, false, (absF fm x == 0) && sigB fm x⟩ else ⟨0, nanB fm x, cls fm x == 5, !nanB fm x && !sigB fm x, !nanB fm x && sigB fm x, false⟩
theorem tm_abs {fm x : Int} (hf : finB fm x = true) : (tmV fm x).natAbs = Nm.sh (Nm.sh (pM fm x).toNat (pE fm x - unQ fm)) (-unQ fm) := by
  obtain ⟨m, hm⟩ : ∃ m : Nat, pM fm x = m := ⟨(pM fm x).toNat, by have := (pM_bd fm x).1; omega⟩
  have hu : unI fm x = if pS fm x then -((Nm.sh m (pE fm x - unQ fm) : Nat) : Int) else ((Nm.sh m (pE fm x - unQ fm) : Nat) : Int) := by
    unfold unI; rw [hf, if_pos rfl, hm, Int.toNat_natCast]
  unfold tmV
  rw [hu, sg_shift, hm, Int.toNat_natCast]
  cases pS fm x <;> simp
theorem tm_ok {fm x : Int} (hx : okF fm x = true) : TmOk fm (tmF fm x) := by
  cases hf : finB fm x
  · have e : tmF fm x = ⟨0, nanB fm x, cls fm x == 5, !nanB fm x && !sigB fm x, !nanB fm x && sigB fm x, false⟩ := by unfold tmF; rw [hf]; rfl
    rw [e]
    refine ⟨by simp, fun h => ?_, fun h => by cases h⟩
    show nanB fm x = true
    have h5 : cls fm x = 5 := by simpa using h
    rw [nan_of hx, h5]; decide
  · have e : tmF fm x = ⟨tmV fm x, false, false, false, false, (absF fm x == 0) && sigB fm x⟩ := by unfold tmF; rw [hf]; rfl
    rw [e]
    have hb := un_blf hf
    have hq : unQ fm ≤ 0 ∧ (if fm = 32 then (277 : Nat) else 2098) + (-unQ fm).toNat ≤ farE fm := by unfold unQ farE; split <;> simp
    refine ⟨?_, (fun h => by cases h), (fun h => ⟨?_, rfl, rfl, rfl, rfl⟩)⟩
    · show (tmV fm x).natAbs ≤ far fm 1
      rw [tm_abs hf]
      have h1 := Nm.bl_sh (Nm.sh (pM fm x).toNat (pE fm x - unQ fm)) (-unQ fm)
      have h2 : bitLen (Nm.sh (Nm.sh (pM fm x).toNat (pE fm x - unQ fm)) (-unQ fm)) ≤ farE fm := by omega
      have h3 := (Nm.bl_le_iff _ _).1 h2
      rw [far_eq, show (1 : Int).toNat = 1 from rfl, Nat.one_mul]
      exact Nat.le_of_lt h3
    · show tmV fm x = 0
      have hz : (absF fm x == 0) = true := by
        have h' : ((absF fm x == 0) && sigB fm x) = true := h
        revert h'; cases (absF fm x == 0) <;> simp
      have hl := len_zero hx hf
      rw [hz] at hl
      have hl' := of_decide_eq_true hl.symm
      have hM : (pM fm x).toNat = 0 := by
        unfold Nm.wl at hl'
        rw [Nm.lim_length_zero] at hl'
        revert hl'; cases pS fm x <;> simp <;> omega
      have ha := tm_abs hf
      rw [hM] at ha
      have e0 : ∀ n, Nm.sh 0 n = 0 := by intro n; unfold Nm.sh; split <;> simp
      rw [e0, e0] at ha
      omega
theorem accS (fm : Int) (s : St) (x : Int) (p : Option Addr) (cap : Nat) (w : World) (hR : Rt fm s) (hx : okF fm x = true) (x0 : 0 ≤ x) (x1 : x < 18446744073709551616) (hT : s.T ≠ 1000000) (hs : Sl .u32 w (.slice p (Nm.wl s.z).length cap) (Nm.wl s.z)) (s' : St) (hs' : s' = s.add (tmF fm x)) :
    Calls Tryz.prog 75 #[.agg #[.int .i64 fm, .bool (Nm.wn s.z), .slice p (Nm.wl s.z).length cap, .int .i64 s.T, .bool s.nn, .bool s.bd, .bool s.pl, .bool s.mi, .bool s.am], .int .u64 x] w fun r w' => ∃ a' c', r = .returned (.tuple #[.agg #[.int .i64 fm, .bool (Nm.wn s'.z), .slice a' (Nm.wl s'.z).length c', .int .i64 s'.T, .bool s'.nn, .bool s'.bd, .bool s'.pl, .bool s'.mi, .bool s'.am], .int .i64 0]) ∧ Own w' w.heap.size a' c' (Nm.wl s'.z) ∧ Below w.heap.size w w' := by
  subst hs'
  have hwv := Nm.wv_out s.z
  cases hf : finB fm x
  · have e : tmF fm x = ⟨0, nanB fm x, cls fm x == 5, !nanB fm x && !sigB fm x, !nanB fm x && sigB fm x, false⟩ := by unfold tmF; rw [hf]; rfl
    rw [e]
    have h := add_spec_odd fm (Nm.wn s.z) s.T s.nn s.bd s.pl s.mi s.am p cap (Nm.wl s.z) x w hs (Nm.wl_dg _) hR hx x0 x1 hT hf _ _ _ _ rfl rfl rfl rfl
    simpa [St.add] using h
  · have e : tmF fm x = ⟨tmV fm x, false, false, false, false, (absF fm x == 0) && sigB fm x⟩ := by unfold tmF; rw [hf]; rfl
    rw [e]
    have hb := (tm_eq hf).2
    have hl := wl_len (V := tmV fm x) (by omega)
    have h := add_spec_fin fm (Nm.wn s.z) s.T s.nn s.bd s.pl s.mi s.am p cap (Nm.wl s.z) x w hs (Nm.wl_dg _) hR hx x0 x1 hT hf (tmV fm x) rfl hl (s.z + tmV fm x) (by rw [hwv])
    simpa [St.add] using h
theorem accI (fm : Int) (s : St) (x : Int) (p : Option Addr) (cap : Nat) (u : Value) (w : World) (hE : EE u w) (hR : Rt fm s) (hx : okF fm x = true) (x0 : 0 ≤ x) (x1 : x < 18446744073709551616) (hT : s.T ≠ 1000000) (hs : Sl .u32 w (.slice p (Nm.wl s.z).length cap) (Nm.wl s.z)) (s' : St) (hs' : s' = s.add (tmF fm x)) :
    Calls Tryz.prog 79 #[.agg #[.int .i64 fm, .bool (Nm.wn s.z), .slice p (Nm.wl s.z).length cap, .int .i64 s.T, .bool s.nn, .bool s.bd, .bool s.pl, .bool s.mi, .bool s.am], .int .u64 x] w fun r w' => ∃ a' c', r = .returned (.tuple #[.agg #[.int .i64 fm, .bool (Nm.wn s'.z), .slice a' (Nm.wl s'.z).length c', .int .i64 s'.T, .bool s'.nn, .bool s'.bd, .bool s'.pl, .bool s'.mi, .bool s'.am], .int .i64 0]) ∧ Own w' w.heap.size a' c' (Nm.wl s'.z) ∧ Below w.heap.size w w' := by
  subst hs'
  have hwv := Nm.wv_out s.z
  obtain ⟨hfm, hk1, ho, -⟩ := acc_parts hR
  have hnan := nan_of hx
  have odd : finB fm x = false → ∀ (neg inf : Bool) (ev : Value), nanB fm x = nanB fm x →
      (∀ (w' : World), Tab w' → ErrQ w' u → Calls Tryz.prog 96 #[.int .i64 fm, .int .u64 x] w' fun r w'' => r = .returned (.tuple #[.agg #[.bool neg, .bool inf, .bool false, .slice none 0 0, .int .i64 0], ev]) ∧ Below w'.heap.size w' w'') →
      (∀ (p : Option Addr) (c : Nat) (q : World), EA.ErrT q → Calls Tryz.prog 139 #[.agg #[.bool neg, .bool inf, .bool false, .slice p 0 c, .int .i64 0], ev] q fun r q' => r = .returned (.agg #[.int .i64 1, .bool (nanB fm x), .bool (cls fm x == 5), .bool (!nanB fm x && !sigB fm x), .bool (!nanB fm x && sigB fm x), .bool false]) ∧ Below q.heap.size q q') →
      Calls Tryz.prog 79 #[.agg #[.int .i64 fm, .bool (Nm.wn s.z), .slice p (Nm.wl s.z).length cap, .int .i64 s.T, .bool s.nn, .bool s.bd, .bool s.pl, .bool s.mi, .bool s.am], .int .u64 x] w fun r w' => ∃ a' c', r = .returned (.tuple #[.agg #[.int .i64 fm, .bool (Nm.wn (s.add (tmF fm x)).z), .slice a' (Nm.wl (s.add (tmF fm x)).z).length c', .int .i64 (s.add (tmF fm x)).T, .bool (s.add (tmF fm x)).nn, .bool (s.add (tmF fm x)).bd, .bool (s.add (tmF fm x)).pl, .bool (s.add (tmF fm x)).mi, .bool (s.add (tmF fm x)).am], .int .i64 0]) ∧ Own w' w.heap.size a' c' (Nm.wl (s.add (tmF fm x)).z) ∧ Below w.heap.size w w' := by
    intro hf neg inf ev _ hn hm
    have e : tmF fm x = ⟨0, nanB fm x, cls fm x == 5, !nanB fm x && !sigB fm x, !nanB fm x && sigB fm x, false⟩ := by unfold tmF; rw [hf]; rfl
    rw [e]
    have hft : Nm.fits s.z = true := by have := ok_fits (Nm.wl_dg _) ho (Nm.wn s.z); rwa [hwv] at this
    have h := add_core fm (Nm.wn s.z) s.T s.nn s.bd s.pl s.mi s.am p cap (Nm.wl s.z) x u w hE.t hE.g hE.q hs (Nm.wl_dg _) hR hx x0 x1 hT neg inf false [] 0 ev (nanB fm x) (cls fm x == 5) (!nanB fm x && !sigB fm x) (!nanB fm x && sigB fm x) false false [] Nm.Dg.nil rfl s.z (by rw [hwv]; unfold Nm.wv Nm.val; simp) hft
      (fun w' t q => (hn w' t q).mono fun r w'' ⟨hr, hb⟩ => ⟨none, 0, hr, Sl.nil _ _, hb⟩)
      (fun a' c' w' t g h => one_odd fm hfm neg inf ev _ _ _ _ false w' t g a' c' h (fun q hq => hm a' c' q hq))
    rw [amW_no] at h
    simpa [St.add] using h
  rcases cls_six hx with hf | h3 | h4 | h5
  · have e : tmF fm x = ⟨tmV fm x, false, false, false, false, (absF fm x == 0) && sigB fm x⟩ := by unfold tmF; rw [hf]; rfl
    rw [e]
    obtain ⟨-, hb⟩ := tm_eq hf
    have hl := wl_len (V := tmV fm x) (by omega)
    have hft := add_fits (Nm.wl_dg _) hR hb
    rw [hwv] at hft
    have hps : pS fm x = sigB fm x := by unfold pS; rw [hf]; rfl
    obtain ⟨L, hL⟩ : ∃ L, L = Nm.wl (if pS fm x then -pM fm x else pM fm x) := ⟨_, rfl⟩
    have hlz : (absF fm x == 0) = decide (L.length = 0) := by rw [hL]; exact len_zero hx hf
    have h := add_core fm (Nm.wn s.z) s.T s.nn s.bd s.pl s.mi s.am p cap (Nm.wl s.z) x u w hE.t hE.g hE.q hs (Nm.wl_dg _) hR hx x0 x1 hT (pS fm x) false _ L (pE fm x) .nilIface false false false false (decide (L.length = 0) && pS fm x) (Nm.wn (tmV fm x)) (Nm.wl (tmV fm x)) (Nm.wl_dg _) (okB_wl hl) (s.z + tmV fm x) (by rw [Nm.wv_out, Nm.wv_out]) hft
      (fun w' t q => (num_fin fm x w' t x0 x1 hf _ L (pE fm x) rfl hL rfl).mono fun r w'' ⟨a', c', hr, ho, hb⟩ => ⟨a', c', hr, ho.sl, hb⟩)
      (fun a' c' w' t g h => by
        rcases fmt_cases hfm with rfl | rfl
        · exact one_fin_32 x hf _ L rfl hL _ rfl a' c' w' t g h
        · exact one_fin_64 x hf _ L rfl hL _ rfl a' c' w' t g h)
    have e5 : amW s.T s.am 1 (decide (L.length = 0) && pS fm x) = ((absF fm x == 0) && sigB fm x && (s.am || decide (s.T = 0))) := by
      rw [hlz, hps]; unfold amW
      rw [show decide ((1 : Int) = 0) = false from rfl]
      cases decide (L.length = 0) <;> cases sigB fm x <;> cases s.am <;> cases decide (s.T = 0) <;> rfl
    rw [e5] at h
    simpa [St.add] using h
  · have hfin : finB fm x = false := by unfold finB; rw [h3]; decide
    have hnb : nanB fm x = false := by rw [hnan, h3]; decide
    refine odd hfin (sigB fm x) true .nilIface rfl (fun w' t q => num_inf fm x w' t x0 x1 h3) (fun p c q hq => ?_)
    have := mk_inf (sigB fm x) false p 0 c 0 q hq (by decide)
    rw [hnb, h3]; simpa using this
  · have hfin : finB fm x = false := by unfold finB; rw [h4]; decide
    have hnb : nanB fm x = true := by rw [hnan, h4]; decide
    refine odd hfin false false (.iface 176 (.agg #[.iface 244 u])) rfl (fun w' t q => num_quiet fm x u w' t q x0 x1 h4) (fun p c q hq => ?_)
    have := mk_quiet u false p 0 c 0 q hq (by decide) rfl
    rw [hnb, h4]; simpa using this
  · have hfin : finB fm x = false := by unfold finB; rw [h5]; decide
    have hnb : nanB fm x = true := by rw [hnan, h5]; decide
    refine odd hfin false false (.iface 176 (.agg #[.iface 178 (.agg #[.string sgS])])) rfl (fun w' t q => num_sig2 fm x w' t x0 x1 h5) (fun p c q hq => ?_)
    have := mk_bad sgS false p 0 c 0 q hq (by decide) rfl
    rw [hnb, h5]; simpa using this
end Go.Proofs.YtnliofakkkjpoaaGreatDoor
