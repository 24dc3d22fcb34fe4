/-
  What is needed of MA.
-/
import Derived.Test.YtkfjmcdniohljaaGreatDoorC42
import Derived.Test.YtkfjmcdniohljaaGreatDoorC43
set_option maxHeartbeats 16000000
set_option maxRecDepth 1000000
namespace Go.Proofs.YtkfjmcdniohljaaGreatDoor
set_option linter.unusedVariables false
set_option linter.unusedSimpArgs false
open Go.RowKit Go.Deep
theorem cell_top2 (W : World) (v v' : Value) (t : TypeId) (n : Nat) (hn : n = W.heap.size) : (W.alloc (.cells #[v, v'] t)).cell? ⟨n, 0, none⟩ = some v ∧ (W.alloc (.cells #[v, v'] t)).cell? ⟨n, 0 + 1, none⟩ = some v' := by subst hn; simp
theorem mulA_core (fm : Int) (ng : Bool) (T : Int) (nn bd pl mi am : Bool) (p : Option Addr) (cap : Nat) (zs : List Int) (x y0 : Int) (u : Value) (w : World) (hT : Tab w) (hg : EA.ErrT w) (hq : ErrQ w u) (hs : Sl .u32 w (.slice p zs.length cap) zs) (hz : Nm.Dg zs) (hk : accB fm ng zs T nn bd pl mi am = true) (hx : okF fm x = true) (x0 : 0 ≤ x) (x1 : x < 18446744073709551616) (hy0 : okF fm y0 = true) (y00 : 0 ≤ y0) (y01 : y0 < 18446744073709551616) (hTm : T ≠ 1000000)
    (neg inf G : Bool) (L : List Int) (e : Int) (nk bk : Bool) (m1 m2 m3 m4 m5 G2 : Bool) (L2 : List Int) (d2 : Nm.Dg L2) (ho2 : okB G2 L2 = true) (y : Int) (hy : y = Nm.wv ng zs + Nm.wv G2 L2) (hf : Nm.fits y = true)
    (hn : ProdAt u fm x y0 neg inf G L e nk bk)
    (ht : ∀ (ev : Value), EK u ev nk bk → ∀ (a' : Option Addr) (c' : Nat) (w' : World), Tab w' → EA.ErrT w' → Sl .u32 w' (.slice a' L.length c') L → Calls Tryz.prog 124 #[.int .i64 fm, .agg #[.bool neg, .bool inf, .bool G, .slice a' L.length c', .int .i64 e], ev] w' fun r w'' => ∃ a'' c'', r = .returned (.agg #[.int .i64 1, .bool m1, .bool m2, .bool m3, .bool m4, .bool m5, .int .i64 fm, .bool G2, .slice a'' L2.length c'']) ∧ Own w'' w'.heap.size a'' c'' L2 ∧ Below w'.heap.size w' w'') :
    Calls Tryz.prog 52 #[.agg #[.int .i64 fm, .bool ng, .slice p zs.length cap, .int .i64 T, .bool nn, .bool bd, .bool pl, .bool mi, .bool am], .int .u64 x, .int .u64 y0] w fun r w' => ∃ a' c', r = .returned (.tuple #[.agg #[.int .i64 fm, .bool (Nm.wn y), .slice a' (Nm.wl y).length c', .int .i64 (T + 1), .bool (nn || m1), .bool (bd || m2), .bool (pl || m3), .bool (mi || m4), .bool (amW T am 1 m5)], .int .i64 0]) ∧ Own w' w.heap.size a' c' (Nm.wl y) ∧ Below w.heap.size w w' := by
  obtain ⟨-, hk1, ho1, -⟩ := acc_parts hk
  have hl := (okB_nz ho1).2
  have dx : D64 [x, y0] := d64_2 x0 x1 y00 y01
  have hall : allB fm [x, y0] = true := by unfold allB; simp [hx, hy0]
  have CC := hid (fun q qc w' h h' h'' => tcode fm ng T nn bd pl mi am p cap zs q qc [x, y0] w' h h' (by omega) h'' dx (by simp) 0 (by unfold tcC; rw [hk, hall, if_pos rfl, if_pos rfl, if_neg hTm]))
  have CN := hid hn
  have CO := hid ht
  have CW := hid (fun a' c' w' h h' => twith fm ng T nn bd pl mi am fm G2 1 m1 m2 m3 m4 m5 p a' cap c' zs L2 w' h h' hz d2 hk1 (by decide) (by decide) ho1 ho2 y hy hf)
  have CT := hid (fun w' => tally_any fm ng T nn bd pl mi am p zs.length cap w')
  obtain ⟨T2, hT2⟩ : ∃ T2, T2 = T + 1 := ⟨_, rfl⟩
  obtain ⟨n2, hn2⟩ : ∃ n2, n2 = (nn || m1) := ⟨_, rfl⟩
  obtain ⟨b2, hb2'⟩ : ∃ b2, b2 = (bd || m2) := ⟨_, rfl⟩
  obtain ⟨p2, hp2⟩ : ∃ p2, p2 = (pl || m3) := ⟨_, rfl⟩
  obtain ⟨i2, hm2⟩ : ∃ i2, i2 = (mi || m4) := ⟨_, rfl⟩
  obtain ⟨a2, ha2⟩ : ∃ a2, a2 = amW T am 1 m5 := ⟨_, rfl⟩
  obtain ⟨GG, hG⟩ : ∃ GG, GG = Nm.wn y := ⟨_, rfl⟩
  obtain ⟨LL, hL⟩ : ∃ LL, LL = Nm.wl y := ⟨_, rfl⟩
  rw [← hT2, ← hn2, ← hb2', ← hp2, ← hm2, ← ha2, ← hG, ← hL] at CW
  rw [← hT2, ← hn2, ← hb2', ← hp2, ← hm2, ← ha2, ← hG, ← hL]
  have CA := hid (fun a c w' => tacc fm GG T2 n2 b2 p2 i2 a2 (.slice a LL.length c) w' ⟨_, _, _, rfl⟩)
  clear hT2 hn2 hb2' hp2 hm2 ha2 hG hL hk1 ho1 hy hf hz hk hn ht hx hy0 hall dx hTm
  have Q := (Q9.new w (.int .i64 fm) (.bool ng) (.slice p zs.length cap) (.int .i64 T) (.bool nn) (.bool bd) (.bool pl) (.bool mi) (.bool am) 50).alloc (.cells #[.int .i64 0, .bool false, .slice none 0 0, .int .i64 0, .bool false, .bool false, .bool false, .bool false, .bool false] 50)
  have R := Q9.nwn w (.cells #[.int .i64 fm, .bool ng, .slice p zs.length cap, .int .i64 T, .bool nn, .bool bd, .bool pl, .bool mi, .bool am] 50) (.int .i64 0) (.bool false) (.slice none 0 0) (.int .i64 0) (.bool false) (.bool false) (.bool false) (.bool false) (.bool false) 50
  have bel0 : Below w.heap.size w ((w.alloc (.cells #[.int .i64 fm, .bool ng, .slice p zs.length cap, .int .i64 T, .bool nn, .bool bd, .bool pl, .bool mi, .bool am] 50)).alloc (.cells #[.int .i64 0, .bool false, .slice none 0 0, .int .i64 0, .bool false, .bool false, .bool false, .bool false, .bool false] 50)) := (by repeat (first | exact bz0 _ _ | refine bz1 ?_ | refine bz2 ?_ _ | refine bz3 ?_ _ | refine bz5 ?_ _ | refine bz6 ?_ _))
  obtain ⟨c0, c1, c2, c3, c4, c5, c6, c7, c8⟩ := Q.cs
  go_enter Tryz.func52, Tryz.ntmps52
  go_wp2_with fail
  have hA : Below w.heap.size w (((w.alloc (.cells #[.int .i64 fm, .bool ng, .slice p zs.length cap, .int .i64 T, .bool nn, .bool bd, .bool pl, .bool mi, .bool am] 50)).alloc (.cells #[.int .i64 0, .bool false, .slice none 0 0, .int .i64 0, .bool false, .bool false, .bool false, .bool false, .bool false] 50)).alloc (.cells #[.int .u64 x, .int .u64 y0] 22)) := bel_al bel0 _
  have hxx : Sl .u64 (((w.alloc (.cells #[.int .i64 fm, .bool ng, .slice p zs.length cap, .int .i64 T, .bool nn, .bool bd, .bool pl, .bool mi, .bool am] 50)).alloc (.cells #[.int .i64 0, .bool false, .slice none 0 0, .int .i64 0, .bool false, .bool false, .bool false, .bool false, .bool false] 50)).alloc (.cells #[.int .u64 x, .int .u64 y0] 22)) (.slice (some ⟨w.heap.size + 1 + 1, 0, none⟩) [x, y0].length 2) [x, y0] := ⟨some ⟨w.heap.size + 1 + 1, 0, none⟩, 2, rfl, Nat.le_refl _, by unfold maxLen; simp, .inr ⟨w.heap.size + 1 + 1, 0, rfl, fun i hi => by
    have h2 : i < 2 := by simpa using hi
    match i, h2 with
    | 0, _ => exact (cell_top2 _ _ _ _ _ (by simp)).1
    | 1, _ => exact (cell_top2 _ _ _ _ _ (by simp)).2⟩⟩
  refine (CC.out (some ⟨w.heap.size + 1 + 1, 0, none⟩) 2 _ (hT.below hA) (hs.below hA) hxx).mono ?_
  rintro r w1 ⟨rfl, hb1⟩
  clear c0 c1 c2 c3 c4 c5 c6 c7 c8 hxx
  replace Q := (Q.alloc (.cells #[.int .u64 x, .int .u64 y0] 22)).below hb1
  replace R := (R.alloc (.cells #[.int .u64 x, .int .u64 y0] 22)).below hb1
  have bel1 := bel_go hA hb1
  have hq1 : ErrQ w1 u := (bel1.cell (p := ⟨0, 0, none⟩) (World.block_lt_of_cell? w _ hq)).trans hq
  have lr := R.lt
  clear hA hb1 bel0
  have c0 := Q.c0
  go_wp2_with fail
  refine (CN.out _ ⟨hT.below bel1, EA.five hg bel1, hq1⟩).mono ?_
  rintro r w2 ⟨a3, k3, ev, rfl, kv, o3, hb2⟩
  have s3 := o3.sl
  clear c0
  have lw2 := hb2.size
  replace Q := (Q.below hb2).alloc (.cells #[.bool neg, .bool inf, .bool G, .slice a3 L.length k3, .int .i64 e] 98)
  replace R := (R.below hb2).alloc (.cells #[.bool neg, .bool inf, .bool G, .slice a3 L.length k3, .int .i64 e] 98)
  have X := Q5.new w2 (.bool neg) (.bool inf) (.bool G) (.slice a3 L.length k3) (.int .i64 e) 98
  have bel2 := bel_go bel1 hb2
  have s4 := s3.alloc (.cells #[.bool neg, .bool inf, .bool G, .slice a3 L.length k3, .int .i64 e] 98)
  have bel3 : Below w.heap.size w (w2.alloc (.cells #[.bool neg, .bool inf, .bool G, .slice a3 L.length k3, .int .i64 e] 98)).drew := Below.drew (bel_al bel2 _)
  have sz := hs.below bel3
  have s5 := s4.drew
  have ctd := Q.drew.cs
  have cod := X.drew.cs
  have Tab3 := hT.below bel3
  have Err3 : EA.ErrT (w2.alloc (.cells #[.bool neg, .bool inf, .bool G, .slice a3 L.length k3, .int .i64 e] 98)).drew := EA.five hg bel3
  clear bel1 hb2 hq1 s3 s4
  go_wp2_with fail
  go_region_held3 (fun w' => (w'.cell? ⟨w.heap.size, 0, none⟩ = some (.int .i64 fm) ∧ w'.cell? ⟨w.heap.size, 1, none⟩ = some (.bool ng) ∧ w'.cell? ⟨w.heap.size, 2, none⟩ = some (.slice p zs.length cap) ∧ w'.cell? ⟨w.heap.size, 3, none⟩ = some (.int .i64 T) ∧ w'.cell? ⟨w.heap.size, 4, none⟩ = some (.bool nn) ∧ w'.cell? ⟨w.heap.size, 5, none⟩ = some (.bool bd) ∧ w'.cell? ⟨w.heap.size, 6, none⟩ = some (.bool pl) ∧ w'.cell? ⟨w.heap.size, 7, none⟩ = some (.bool mi) ∧ w'.cell? ⟨w.heap.size, 8, none⟩ = some (.bool am)) ∧ (w'.cell? ⟨w2.heap.size, 0, none⟩ = some (.bool neg) ∧ w'.cell? ⟨w2.heap.size, 1, none⟩ = some (.bool inf) ∧ w'.cell? ⟨w2.heap.size, 2, none⟩ = some (.bool G) ∧ w'.cell? ⟨w2.heap.size, 3, none⟩ = some (.slice a3 L.length k3) ∧ w'.cell? ⟨w2.heap.size, 4, none⟩ = some (.int .i64 e)))
    (first | with_reducible assumption | with_reducible exact ⟨ctd, cod⟩ | with_reducible exact keep95 Q4 X4 (by omega) (by omega) _ _ _ _ _ _ _ _ _ _ rfl | fail)
    (first
      | (go_at_call 122; refine (CT.out _).mono ?_; rintro r q1 ⟨rfl, hq1⟩; have Q1 := Q.drew.below hq1; have X1 := X.drew.below hq1; have R1 := R.drew.below hq1; have u1 := And.intro Q1.cs X1.cs; have s6 := s5.below hq1; have sz1 := sz.below hq1; have T4 := Tab3.below hq1; have E4 := EA.five Err3 hq1)
      | (go_at_call 124; refine (CO.out ev kv a3 k3 _ T4 E4 s6).mono ?_; rintro r q2 ⟨a5, k5, rfl, hp2, hq2⟩; have Q2 := Q1.below hq2; have X2 := X1.below hq2; have R2' := R1.below hq2; have u2 := And.intro Q2.cs X2.cs; have sz2 := sz1.below hq2)
      | (go_at_call 123; refine (CW.out a5 k5 _ sz2 hp2.sl).mono ?_; rintro r q3 ⟨a6, k6, rfl, hp3, hq3⟩; have Q3 := Q2.below hq3; have X3 := X2.below hq3; have R3' := R2'.below hq3; have u3 := And.intro Q3.cs X3.cs)
      | (go_at_call 125; refine (CA.out a6 k6 _).mono ?_; rintro r q4 ⟨rfl, hq4⟩; have Q4 := Q3.below hq4; have X4 := X3.below hq4; have u4 := And.intro Q4.cs X4.cs; have hp4 := hp3.below hq4; obtain ⟨r0, r1, r2, r3, r4, r5, r6, r7, r8, g0, g1, g2, g3, g4, g5, g6, g7, g8⟩ := R3'.below hq4))
  have z1 := hq1.size
  have z2 := hq2.size
  have z3 : w2.heap.size + 1 ≤ q1.heap.size := by simpa using z1
  have bel4 : Below w.heap.size w q2 := bel_go (bel_go bel3 hq1) hq2
  go_wp2
  refine bodyPost_ret (v := .tuple #[.agg #[.int .i64 fm, .bool GG, .slice a6 LL.length k6, .int .i64 T2, .bool n2, .bool b2, .bool p2, .bool i2, .bool a2], .int .i64 0]) (by simp [results, Tryz.results52, go_sem, r0, r1, r2, r3, r4, r5, r6, r7, r8]) rfl ⟨a6, k6, rfl, ?_, ?_⟩
  · refine Own.base (B := q2.heap.size) ?_ (by have := bel4.size; omega)
    repeat (first | with_reducible exact hp4 | (with_reducible refine Own.setBelow ?_ ?_ _; rotate_left; (simp; try omega)))
  · exact (by (repeat with_reducible first | refine Below.setCell ?_ ?_ _ | exact bz0 _ _ | refine bz1 ?_ | refine bz2 ?_ _ | refine bz3 ?_ _ | refine bz4 ?_ hq4 | refine bz4 ?_ hq3 | refine bz4 ?_ bel4 | refine Below.alloc ?_ ?_ _ | refine Below.trans ?_ (Below.mono hq4 ?_) | refine Below.trans ?_ (Below.mono hq3 ?_) | refine Below.trans ?_ (Below.mono bel4 ?_)) <;> first | omega | (simp; done) | (simp; omega))
/-- What a product of finite floats is as a term. -/
def tpV (fm x y : Int) : Int := nZ fm x * nZ fm y * 2 ^ (nE fm x + nE fm y - 2 * unQ fm).toNat
def oddX (fm x y : Int) : Bool := (nI fm x || nI fm y) && (zF fm x || zF fm y)
/-- What a product is as a term. -/
def tmM (fm x y : Int) : Tm := if nanB fm x || nanB fm y || oddX fm x y then ⟨0, true, nB fm x || nB fm y || oddX fm x y, false, false, false⟩ else if nI fm x || nI fm y then ⟨0, false, false, !(sigB fm x != sigB fm y), sigB fm x != sigB fm y, false⟩ else ⟨tpV fm x y, false, false, false, false, decide (nZ fm x * nZ fm y = 0) && (sigB fm x != sigB fm y)⟩
theorem odd_nan {fm x y : Int} (hx : okF fm x = true) (hy : okF fm y = true) : (nB fm x || nB fm y || oddX fm x y) = true → (nanB fm x || nanB fm y || oddX fm x y) = true := by
  intro h
  have key : ∀ z, okF fm z = true → nB fm z = true → nanB fm z = true := fun z hz hb => by
    have h5 : cls fm z = 5 := by simpa [nB] using hb
    rw [nan_ofE hz, h5]; decide
  cases ho : oddX fm x y
  · rw [ho, Bool.or_false] at h
    cases hbx : nB fm x
    · rw [hbx, Bool.false_or] at h; rw [key y hy h]; simp
    · rw [key x hx hbx]; simp
  · simp
theorem nE_q {fm x : Int} (hx : okF fm x = true) (hf : finB fm x = true) : 0 ≤ nE fm x - unQ fm ∧ bitLen (nZ fm x * 2 ^ (nE fm x - unQ fm).toNat).natAbs ≤ (if fm = 32 then 277 else 2098) := by
  obtain ⟨f1, f2, f3, f4, f5, f6⟩ := fin_facts hx hf
  have hq := pE_q hf
  rw [f4]
  refine ⟨hq.1, ?_⟩
  have h := un_blf hf
  have e : (nZ fm x * 2 ^ (pE fm x - unQ fm).toNat).natAbs = Nm.sh (pM fm x).toNat (pE fm x - unQ fm) := by
    unfold Nm.sh
    rw [if_neg (by omega), Int.natAbs_mul, Int.natAbs_pow, f3]
    congr 1
    have := (pM_bd fm x).1
    cases pS fm x <;> simp <;> omega
  rw [e]; exact h
theorem bl_mul2 (a b : Nat) : bitLen (a * b) ≤ bitLen a + bitLen b := by
  rw [Nm.bl_le_iff, Nat.pow_add]
  have h1 := (Nm.bl_le_iff a (bitLen a)).1 (Nat.le_refl _)
  have h2 := (Nm.bl_le_iff b (bitLen b)).1 (Nat.le_refl _)
  exact Nat.mul_lt_mul'' h1 h2
theorem tp_eq {fm x y : Int} (hx : okF fm x = true) (hy : okF fm y = true) (fx : finB fm x = true) (fy : finB fm y = true) : tpV fm x y = (nZ fm x * 2 ^ (nE fm x - unQ fm).toNat) * (nZ fm y * 2 ^ (nE fm y - unQ fm).toNat) ∧ 0 ≤ nE fm x + nE fm y - 2 * unQ fm ∧ bitLen (tpV fm x y).natAbs ≤ farE fm := by
  have qx := nE_q hx fx
  have qy := nE_q hy fy
  have e : tpV fm x y = (nZ fm x * 2 ^ (nE fm x - unQ fm).toNat) * (nZ fm y * 2 ^ (nE fm y - unQ fm).toNat) := by
    unfold tpV
    rw [show (nE fm x + nE fm y - 2 * unQ fm).toNat = (nE fm x - unQ fm).toNat + (nE fm y - unQ fm).toNat by omega, Int.pow_add]
    simp only [Int.mul_assoc, Int.mul_left_comm]
  refine ⟨e, by omega, ?_⟩
  rw [e, Int.natAbs_mul]
  have h := bl_mul2 (nZ fm x * 2 ^ (nE fm x - unQ fm).toNat).natAbs (nZ fm y * 2 ^ (nE fm y - unQ fm).toNat).natAbs
  have hx2 := qx.2
  have hy2 := qy.2
  unfold farE
  by_cases h32 : fm = 32
  · rw [if_pos h32] at hx2 hy2 ⊢; omega
  · rw [if_neg h32] at hx2 hy2 ⊢; omega
theorem tmM_ok {fm x y : Int} (hx : okF fm x = true) (hy : okF fm y = true) : TmOk fm (tmM fm x y) := by
  unfold tmM
  cases hn : (nanB fm x || nanB fm y || oddX fm x y)
  · rw [if_neg (by decide)]
    cases hi : (nI fm x || nI fm y)
    · rw [if_neg (by decide)]
      obtain ⟨⟨nx, ny⟩, -⟩ : (nanB fm x = false ∧ nanB fm y = false) ∧ oddX fm x y = false := by simpa [Bool.or_eq_false_iff] using hn
      obtain ⟨ix, iy⟩ : nI fm x = false ∧ nI fm y = false := by simpa using hi
      have fx := (nan_cases hx nx).resolve_right (by rw [ix]; decide)
      have fy := (nan_cases hy ny).resolve_right (by rw [iy]; decide)
      obtain ⟨-, -, hb⟩ := tp_eq hx hy fx fy
      refine ⟨?_, (fun h => by cases h), (fun h => ⟨?_, rfl, rfl, rfl, rfl⟩)⟩
      · show (tpV fm x y).natAbs ≤ far fm 1
        rw [far_eq, show (1 : Int).toNat = 1 from rfl, Nat.one_mul]
        exact Nat.le_of_lt ((Nm.bl_le_iff _ _).1 hb)
      · show tpV fm x y = 0
        have h' : (decide (nZ fm x * nZ fm y = 0) && (sigB fm x != sigB fm y)) = true := h
        rw [Bool.and_eq_true] at h'
        unfold tpV; rw [of_decide_eq_true h'.1, Int.zero_mul]
    · rw [if_pos rfl]
      exact ⟨by simp, (fun h => by cases h), (fun h => by cases h)⟩
  · rw [if_pos rfl]
    refine ⟨by simp, (fun h => ?_), (fun h => by cases h)⟩
    rfl
end Go.Proofs.YtkfjmcdniohljaaGreatDoor
