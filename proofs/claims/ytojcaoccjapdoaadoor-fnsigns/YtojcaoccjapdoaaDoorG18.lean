/-
  Several texts in one: ID, ITs, IE.
-/
import Derived.Test.YtojcaoccjapdoaaDoorG16
import Derived.Test.YtojcaoccjapdoaaDoorG17
/-
  Steps counted, by the program.
-/
namespace Go.Proofs.YtojcaoccjapdoaaDoor
set_option linter.unusedVariables false
set_option linter.unusedSimpArgs false
open Go.RowKit Go.Deep
/-- What is cut off, against a half, as the program tells it. -/
def hI (a : Nat) (n : Int) : Int := if (Nm.tz a : Int) = n - 1 then 0 else if a / 2 ^ (n - 1).toNat % 2 = 1 then 1 else -1
def sM (R : Bool → Int → Bool → Bool) (ng : Bool) (a : Nat) (n : Int) : Int := if n ≤ Nm.tz a then (Nm.sh a (-n) : Nat) else if R (((Nm.sh a (-n) : Nat) : Int) % 2 == 1) (hI a n) ng then ((Nm.sh a (-n) : Nat) : Int) + 1 else (Nm.sh a (-n) : Nat)
theorem ret_ib {a a' : Int} {b b' : Bool} (h : a = a') (k : b = b') : Ending.returned (.tuple #[.int .i64 a, .bool b]) = .returned (.tuple #[.int .i64 a', .bool b']) := by rw [h, k]
set_option maxHeartbeats 8000000 in
set_option maxRecDepth 100000 in
theorem stepped_n (fid : Nat) (R : Bool → Int → Bool → Bool) (hby : Rule fid R) (ng : Bool) (a : Nat) (n : Int) (p : Option Addr) (c : Nat) (w : World) (hT : Tb w 2 Lib.deBruijn32tab) (hs : Sl .u32 w (.slice p (Nm.lim a).length c) (Nm.lim a)) (ha : a ≠ 0) (hl : bitLen a ≤ 6400) (h0 : -10000 ≤ n) (h1 : n ≤ 10000) (hm : Nm.sh a (-n) < 4611686018427387904) :
    Calls Tryd.prog 151 #[.agg #[.bool ng, .slice p (Nm.lim a).length c], .int .i64 n, .func (.func fid) #[] #[]] w fun e w' => e = .returned (.tuple #[.int .i64 (sM R ng a n), .bool (decide (n ≤ Nm.tz a))]) ∧ Below w.heap.size w w' := by
  obtain ⟨m, hmm⟩ : ∃ m, m = Nm.sh a (-n) := ⟨_, rfl⟩
  obtain ⟨z, hz⟩ : ∃ z : Int, z = ((m : Nat) : Int) := ⟨_, rfl⟩
  have z0 : 0 ≤ z := by omega
  have z1 : z < 4611686018427387904 := by omega
  obtain ⟨t, ht⟩ : ∃ t : Int, t = ((Nm.tz a : Nat) : Int) := ⟨_, rfl⟩
  have t0 : 0 ≤ t := by omega
  have t1 : t ≤ 6400 := by
    have h1 : 2 ^ Nm.tz a ≤ a := by
      have hs := Nm.tz_spec a ha
      have := Nat.le_mul_of_pos_left (2 ^ Nm.tz a) (Nat.pos_of_ne_zero (Nm.od_pos ha)); omega
    have h2 := (Nm.bl_le_iff a 6400).1 hl
    have h3 : 2 ^ Nm.tz a < 2 ^ 6400 := Nat.lt_of_le_of_lt h1 h2
    have := (Nat.pow_lt_pow_iff_right (a := 2) (by decide)).1 h3
    omega
  have hbm : bitLen (Nm.sh a (-n)) ≤ 6400 := by have := (Nm.bl_le_iff (Nm.sh a (-n)) 62).2 (by omega); omega
  have C1 := hid (fun w' h => wsh_n a (-n) p c w' h ha hl (by omega) (by omega) hbm)
  rw [← hmm] at C1
  have C2 := hid (fun a' c' w' h => small_n m a' c' w' h (by omega))
  rw [← hz] at C2
  have C3 := hid (fun w' h h' => lz_n ng a p c w' h h' ha hl)
  rw [← ht] at C3
  have C4 := hid (fun i w' h h0 h1 => bitAt_n ng a i p c w' h (by omega) h0 h1)
  have HSM : Hid (sM R ng a n = if n ≤ t then z else if R (z % 2 == 1) (hI a n) ng then z + 1 else z) := hid (by unfold sM; rw [← hmm, ← hz, ht])
  have HTD : Hid (decide (n ≤ Nm.tz a) = decide (n ≤ t)) := hid (by rw [ht])
  have HHI : Hid (hI a n = if t = n - 1 then 0 else if a / 2 ^ (n - 1).toNat % 2 = 1 then 1 else -1) := hid (by unfold hI; rw [ht])
  have HBY := hid hby.2
  have hrun := hby.1
  clear hby hmm hz ht hbm ha hl hm
  go_enter Tryd.func151, Tryd.ntmps151
  go_wp2_with fail
  refine (C1.out _ (hs.alloc _)).mono ?_
  rintro e w2 ⟨a2, c2, rfl, o2, hb2⟩
  have g2 := ((Box.new w (.bool ng) (.slice p (Nm.lim a).length c) 31).below hb2).alloc (.cells #[.bool false, .slice a2 (Nm.lim m).length c2] 31)
  have s2 := ((hs.alloc _).below hb2).alloc (.cells #[.bool false, .slice a2 (Nm.lim m).length c2] 31)
  have bel2 : Below w.heap.size w (w2.alloc (.cells #[.bool false, .slice a2 (Nm.lim m).length c2] 31)) := (by repeat (first | exact Below.refl _ _ | refine Below.drew ?_ | refine bel_dn ?_ _ | refine bel_al ?_ _ | refine bel_go ?_ hb2 | refine Below.setCell ?_ (by first | omega | (simp; done) | (simp; omega)) _ | refine Below.alloc ?_ (by first | omega | (simp; done) | (simp; omega)) _ | refine Below.trans ?_ (Below.mono hb2 (by first | omega | (simp; done) | (simp; omega)))))
  obtain ⟨m20, m21⟩ := Box.new w2 (.bool false) (.slice a2 (Nm.lim m).length c2) 31
  clear hb2
  go_wp2_with fail
  refine (C2.out a2 c2 _ (o2.sl.alloc _)).mono ?_
  rintro e w3 ⟨rfl, hb3⟩
  have g3 := g2.below hb3
  have s3 := s2.below hb3
  have bel3 := bel_go bel2 hb3
  have hT3 := hT.below (by decide) bel3
  clear g2 s2 bel2 hb3 m20 m21 o2
  obtain ⟨g30, g31⟩ := g3
  go_wp2_with fail
  refine (C3.out _ hT3 s3).mono ?_
  rintro e w4 ⟨rfl, hb4⟩
  obtain ⟨g40, g41⟩ := Box.below ⟨g30, g31⟩ hb4
  have s4 := s3.below hb4
  have bel4 := bel_go bel3 hb4
  have lw4 : w.heap.size < w4.heap.size := World.block_lt_of_cell? w4 _ g40
  clear g30 g31 s3 bel3 hb4 hT3
  by_cases hex : n ≤ t
  · have HA : Hid (sM R ng a n = z) := hid (by rw [HSM.out, if_pos hex])
    go_wp2
    go_ret2
    exact ⟨ret_ib HA.out.symm (by rw [HTD.out]; exact (decide_eq_true hex).symm), (by repeat (first | exact Below.refl _ _ | refine Below.drew ?_ | refine bel_dn ?_ _ | refine bel_al ?_ _ | refine bel_go ?_ bel4 | refine Below.setCell ?_ (by first | omega | (simp; done) | (simp; omega)) _ | refine Below.alloc ?_ (by first | omega | (simp; done) | (simp; omega)) _ | refine Below.trans ?_ (Below.mono bel4 (by first | omega | (simp; done) | (simp; omega)))))⟩
  · have HX : Hid (decide (n ≤ Nm.tz a) = false) := hid (by rw [HTD.out]; exact decide_eq_false hex)
    have HS2 : Hid (sM R ng a n = if R (z % 2 == 1) (hI a n) ng then z + 1 else z) := hid (by rw [HSM.out, if_neg hex])
    have hex' : t < n := by omega
    have hn1 : 1 ≤ n := by omega
    clear hex
    obtain ⟨od, hod⟩ : ∃ od, od = (z % 2 == 1) := ⟨_, rfl⟩
    have HOD := hid hod
    clear hod
    by_cases ha1 : t = n - 1
    · have HHV : Hid (hI a n = 0) := hid (by rw [HHI.out, if_pos ha1])
      have hne : (t == n - 1) = true := by rw [beq_iff_eq]; exact ha1
      clear ha1
      go_wp2_with fail
      refine (HBY.out ng (z % 2 == 1) 0 _ (by right; left; rfl)).mono ?_
      rintro e w9 ⟨rfl, hb9⟩
      have HRV : Hid (sM R ng a n = if R (z % 2 == 1) 0 ng then z + 1 else z) := hid (by rw [HS2.out, HHV.out])
      obtain ⟨u, hu⟩ : ∃ u, u = R (z % 2 == 1) 0 ng := ⟨_, rfl⟩
      rw [← hu]
      have HU := hid hu
      clear hu
      cases u with
      | true =>
        go_wp2
        go_ret2
        exact ⟨ret_ib (by rw [HRV.out, ← HU.out]; rfl) HX.out.symm, (by repeat (first | exact Below.refl _ _ | refine Below.drew ?_ | refine bel_dn ?_ _ | refine bel_al ?_ _ | refine bel_go ?_ hb9 | refine bel_go ?_ bel4 | refine Below.setCell ?_ (by first | omega | (simp; done) | (simp; omega)) _ | refine Below.alloc ?_ (by first | omega | (simp; done) | (simp; omega)) _ | refine Below.trans ?_ (Below.mono hb9 (by first | omega | (simp; done) | (simp; omega))) | refine Below.trans ?_ (Below.mono bel4 (by first | omega | (simp; done) | (simp; omega)))))⟩
      | false =>
        go_wp2
        go_ret2
        exact ⟨ret_ib (by rw [HRV.out, ← HU.out]; rfl) HX.out.symm, (by repeat (first | exact Below.refl _ _ | refine Below.drew ?_ | refine bel_dn ?_ _ | refine bel_al ?_ _ | refine bel_go ?_ hb9 | refine bel_go ?_ bel4 | refine Below.setCell ?_ (by first | omega | (simp; done) | (simp; omega)) _ | refine Below.alloc ?_ (by first | omega | (simp; done) | (simp; omega)) _ | refine Below.trans ?_ (Below.mono hb9 (by first | omega | (simp; done) | (simp; omega))) | refine Below.trans ?_ (Below.mono bel4 (by first | omega | (simp; done) | (simp; omega)))))⟩
    · have hne : (t == n - 1) = false := by rw [beq_eq_false_iff_ne]; exact ha1
      have HN1 := hid ha1
      clear ha1
      go_wp2_with fail
      have sB := s4.alloc (.cells #[.bool ng, .bool (z % 2 == 1), .int .i64 (-1)] 154)
      obtain ⟨bt, hbt⟩ : ∃ bt, bt = decide (a / 2 ^ (n - 1).toNat % 2 = 1) := ⟨_, rfl⟩
      have c4 := C4.out (n - 1) _ sB (by omega) (by omega)
      rw [← hbt] at c4
      have HBT := hid hbt
      clear hbt
      refine c4.mono ?_
      clear c4
      rintro e w5 ⟨rfl, hb5⟩
      obtain ⟨k50, k51, k52, f50, f51, f52⟩ := (R3.new w4 (.bool ng) (.bool (z % 2 == 1)) (.int .i64 (-1)) 154).below hb5
      have lw5 : w4.heap.size < w5.heap.size := World.block_lt_of_cell? w5 _ k50
      cases bt with
      | true =>
        have HHV : Hid (hI a n = 1) := hid (by rw [HHI.out, if_neg HN1.out, if_pos (of_decide_eq_true HBT.out.symm)])
        skip
        go_wp2_with fail
        refine (HBY.out ng (z % 2 == 1) 1 _ (by right; right; rfl)).mono ?_
        rintro e w9 ⟨rfl, hb9⟩
        have HRV : Hid (sM R ng a n = if R (z % 2 == 1) 1 ng then z + 1 else z) := hid (by rw [HS2.out, HHV.out])
        obtain ⟨u, hu⟩ : ∃ u, u = R (z % 2 == 1) 1 ng := ⟨_, rfl⟩
        rw [← hu]
        have HU := hid hu
        clear hu
        cases u with
        | true =>
          go_wp2
          go_ret2
          exact ⟨ret_ib (by rw [HRV.out, ← HU.out]; rfl) HX.out.symm, (by repeat (first | exact Below.refl _ _ | refine Below.drew ?_ | refine bel_dn ?_ _ | refine bel_al ?_ _ | refine bel_go ?_ hb9 | refine bel_go ?_ hb5 | refine bel_go ?_ bel4 | refine Below.setCell ?_ (by first | omega | (simp; done) | (simp; omega)) _ | refine Below.alloc ?_ (by first | omega | (simp; done) | (simp; omega)) _ | refine Below.trans ?_ (Below.mono hb9 (by first | omega | (simp; done) | (simp; omega))) | refine Below.trans ?_ (Below.mono hb5 (by first | omega | (simp; done) | (simp; omega))) | refine Below.trans ?_ (Below.mono bel4 (by first | omega | (simp; done) | (simp; omega)))))⟩
        | false =>
          go_wp2
          go_ret2
          exact ⟨ret_ib (by rw [HRV.out, ← HU.out]; rfl) HX.out.symm, (by repeat (first | exact Below.refl _ _ | refine Below.drew ?_ | refine bel_dn ?_ _ | refine bel_al ?_ _ | refine bel_go ?_ hb9 | refine bel_go ?_ hb5 | refine bel_go ?_ bel4 | refine Below.setCell ?_ (by first | omega | (simp; done) | (simp; omega)) _ | refine Below.alloc ?_ (by first | omega | (simp; done) | (simp; omega)) _ | refine Below.trans ?_ (Below.mono hb9 (by first | omega | (simp; done) | (simp; omega))) | refine Below.trans ?_ (Below.mono hb5 (by first | omega | (simp; done) | (simp; omega))) | refine Below.trans ?_ (Below.mono bel4 (by first | omega | (simp; done) | (simp; omega)))))⟩
      | false =>
        have HHV : Hid (hI a n = (-1)) := hid (by rw [HHI.out, if_neg HN1.out, if_neg (of_decide_eq_false HBT.out.symm)])
        skip
        go_wp2_with fail
        refine (HBY.out ng (z % 2 == 1) (-1) _ (by left; rfl)).mono ?_
        rintro e w9 ⟨rfl, hb9⟩
        have HRV : Hid (sM R ng a n = if R (z % 2 == 1) (-1) ng then z + 1 else z) := hid (by rw [HS2.out, HHV.out])
        obtain ⟨u, hu⟩ : ∃ u, u = R (z % 2 == 1) (-1) ng := ⟨_, rfl⟩
        rw [← hu]
        have HU := hid hu
        clear hu
        cases u with
        | true =>
          go_wp2
          go_ret2
          exact ⟨ret_ib (by rw [HRV.out, ← HU.out]; rfl) HX.out.symm, (by repeat (first | exact Below.refl _ _ | refine Below.drew ?_ | refine bel_dn ?_ _ | refine bel_al ?_ _ | refine bel_go ?_ hb9 | refine bel_go ?_ hb5 | refine bel_go ?_ bel4 | refine Below.setCell ?_ (by first | omega | (simp; done) | (simp; omega)) _ | refine Below.alloc ?_ (by first | omega | (simp; done) | (simp; omega)) _ | refine Below.trans ?_ (Below.mono hb9 (by first | omega | (simp; done) | (simp; omega))) | refine Below.trans ?_ (Below.mono hb5 (by first | omega | (simp; done) | (simp; omega))) | refine Below.trans ?_ (Below.mono bel4 (by first | omega | (simp; done) | (simp; omega)))))⟩
        | false =>
          go_wp2
          go_ret2
          exact ⟨ret_ib (by rw [HRV.out, ← HU.out]; rfl) HX.out.symm, (by repeat (first | exact Below.refl _ _ | refine Below.drew ?_ | refine bel_dn ?_ _ | refine bel_al ?_ _ | refine bel_go ?_ hb9 | refine bel_go ?_ hb5 | refine bel_go ?_ bel4 | refine Below.setCell ?_ (by first | omega | (simp; done) | (simp; omega)) _ | refine Below.alloc ?_ (by first | omega | (simp; done) | (simp; omega)) _ | refine Below.trans ?_ (Below.mono hb9 (by first | omega | (simp; done) | (simp; omega))) | refine Below.trans ?_ (Below.mono hb5 (by first | omega | (simp; done) | (simp; omega))) | refine Below.trans ?_ (Below.mono bel4 (by first | omega | (simp; done) | (simp; omega)))))⟩
end Go.Proofs.YtojcaoccjapdoaaDoor
/-
  The tables of formats and of halvings of 64 bits.
-/
namespace Go.Proofs.YtojcaoccjapdoaaDoor
set_option linter.unusedVariables false
set_option linter.unusedSimpArgs false
open Go.RowKit Go.Deep
/-- The table of formats, and that of 64. -/
structure Ts (w : World) : Prop where
  f : Tab w
  t64 : Tb w 1 Lib.deBruijn64tab
theorem Ts.below {w w' : World} (h : Ts w) (hb : Below w.heap.size w w') : Ts w' := ⟨h.f.below hb, h.t64.below (by decide) hb⟩
theorem Ts.al {w : World} (h : Ts w) (o : Obj) : Ts (w.alloc o) := h.below ((Below.refl _ _).alloc (Nat.le_refl _) _)
theorem Ts.dr {w : World} (h : Ts w) : Ts w.drew := ⟨⟨h.f.c0, h.f.c1, h.f.c2, h.f.c3, h.f.c4, h.f.c5, h.f.c6, h.f.c7, h.f.c8⟩, h.t64⟩
end Go.Proofs.YtojcaoccjapdoaaDoor
/-
  M and E as the format has them, by the program.
-/
namespace Go.Proofs.YtojcaoccjapdoaaDoor
set_option linter.unusedVariables false
set_option linter.unusedSimpArgs false
open Go.RowKit Go.Deep
theorem ret_uib {a a' b b' : Int} {c c' : Bool} (h : a = a') (k : b = b') (l : c = c') : Ending.returned (.tuple #[.int .u64 a, .int .i64 b, .bool c]) = .returned (.tuple #[.int .u64 a', .int .i64 b', .bool c']) := by rw [h, k, l]
/-- What settling answers. -/
def seM (P : Nat) (q : Int) (m : Nat) (e : Int) : Int := if Nm.stIn P q m e then (Nm.stM P q m e : Nat) else 0
def seE (P : Nat) (q : Int) (m : Nat) (e : Int) : Int := if Nm.stIn P q m e then Nm.stE P q m e else 0
set_option maxHeartbeats 1000000 in
theorem prec_32 (w : World) :
    Calls Tryd.prog 114 #[.agg #[.int .u64 23, .int .u64 255, .int .i64 (-149)]] w fun e w' => e = .returned (.int .i64 24) ∧ Below w.heap.size w w' := by
  go_enter Tryd.func114, Tryd.ntmps114
  go_wp2
  go_ret
  exact ⟨rfl, (by repeat (first | exact Below.refl _ _ | refine Below.drew ?_ | refine bel_dn ?_ _ | refine bel_al ?_ _ | refine Below.setCell ?_ (by first | omega | (simp; done) | (simp; omega)) _ | refine Below.alloc ?_ (by first | omega | (simp; done) | (simp; omega)) _))⟩
set_option maxHeartbeats 8000000 in
set_option maxRecDepth 100000 in
theorem settled_32 (m : Nat) (e : Int) (w : World) (hT : Ts w) (hm : m ≠ 0) (hm1 : m < 9223372036854775808) (e0 : -5000 ≤ e) (e1 : e ≤ 5000) :
    Calls Tryd.prog 84 #[.agg #[.int .u64 23, .int .u64 255, .int .i64 (-149)], .int .u64 (m : Nat), .int .i64 e] w fun x w' => x = .returned (.tuple #[.int .u64 (seM 24 (-149) m e), .int .i64 (seE 24 (-149) m e), .bool (Nm.stOk 24 (-149) 255 m e)]) ∧ Below w.heap.size w w' := by
  obtain ⟨z, hz⟩ : ∃ z : Int, z = (m : Int) := ⟨_, rfl⟩
  have z0 : 0 < z := by omega
  have z1 : z < 18446744073709551616 := by omega
  obtain ⟨T, hTz⟩ : ∃ T, T = Nm.tz m := ⟨_, rfl⟩
  have hs := Nm.tz_spec m hm
  have t1 : (T : Int) ≤ 63 := by
    have h1 : 2 ^ Nm.tz m ≤ m := by have := Nat.le_mul_of_pos_left (2 ^ Nm.tz m) (Nat.pos_of_ne_zero (Nm.od_pos hm)); omega
    have h3 : 2 ^ Nm.tz m < 2 ^ 63 := by omega
    have := (Nat.pow_lt_pow_iff_right (a := 2) (by decide)).1 h3
    omega
  obtain ⟨o, ho⟩ : ∃ o : Int, o = ((Nm.od m : Nat) : Int) := ⟨_, rfl⟩
  have hdiv : z / (2 : Int) ^ T = o := by
    rw [hz, ho, hTz]; unfold Nm.od; simp
  have o0 : 0 < o := by have := Nm.od_pos hm; omega
  have o1 : o < 18446744073709551616 := by have : Nm.od m ≤ m := Nat.div_le_self _ _; omega
  obtain ⟨B, hB⟩ : ∃ B : Int, B = ((bitLen o.toNat : Nat) : Int) := ⟨_, rfl⟩
  have B0 : 1 ≤ B := by have := Nm.bl_pos (show o.toNat ≠ 0 by omega); omega
  have B1 : B ≤ 64 := by have := (Nm.bl_le_iff o.toNat 64).2 (by omega); omega
  have HSP : Hid (Nm.stSp 24 m = 24 - B) := hid (by unfold Nm.stSp; rw [hB, ho]; simp)
  have C1 := hid (fun w' h => tz_64 z w' h z0 z1)
  rw [show Nm.tz z.toNat = T by rw [hTz, hz]; simp] at C1
  have C2 := hid (fun w' => len64_any o w' (by omega) o1)
  rw [← hB] at C2
  have HIN : Hid (Nm.stIn 24 (-149) m e = (decide (0 ≤ 24 - B) && decide ((-149) ≤ e + (T : Int)))) := hid (by unfold Nm.stIn; rw [HSP.out, hTz])
  have HT := hid hTz; have HO := hid ho; have HM := hid hm
  rw [← hz]
  clear hz hTz hs ho hB hm hm1
  by_cases c1 : 24 - B < 0
  · have HF : Hid (Nm.stIn 24 (-149) m e = false) := hid (by rw [HIN.out, decide_eq_false (show ¬ 0 ≤ 24 - B by omega)]; rfl)
    have HK : Hid (Nm.stOk 24 (-149) 255 m e = false) := hid (by unfold Nm.stOk; rw [HF.out]; rfl)
    go_enter Tryd.func84, Tryd.ntmps84
    go_wp2_with fail
    refine (C1.out _ (hT.al _).t64).mono ?_
    rintro x w1 ⟨rfl, rfl⟩
    go_wp2_with fail
    refine (prec_32 _).mono ?_
    rintro x w2 ⟨rfl, hb2⟩
    go_wp2_with fail
    refine (C2.out _).mono ?_
    rintro x w3 ⟨rfl, rfl⟩
    go_wp2
    go_ret3
    exact ⟨ret_uib (by unfold seM; rw [HF.out]; rfl) (by unfold seE; rw [HF.out]; rfl) HK.out.symm, (by repeat (first | exact Below.refl _ _ | refine Below.drew ?_ | refine bel_dn ?_ _ | refine bel_al ?_ _ | refine bel_go ?_ hb2 | refine Below.setCell ?_ (by first | omega | (simp; done) | (simp; omega)) _ | refine Below.alloc ?_ (by first | omega | (simp; done) | (simp; omega)) _ | refine Below.trans ?_ (Below.mono hb2 (by first | omega | (simp; done) | (simp; omega)))))⟩
  by_cases c2 : e + (T : Int) < (-149)
  · have HF : Hid (Nm.stIn 24 (-149) m e = false) := hid (by rw [HIN.out, decide_eq_false (show ¬ (-149) ≤ e + (T : Int) by omega)]; simp)
    have HK : Hid (Nm.stOk 24 (-149) 255 m e = false) := hid (by unfold Nm.stOk; rw [HF.out]; rfl)
    go_enter Tryd.func84, Tryd.ntmps84
    go_wp2_with fail
    refine (C1.out _ (hT.al _).t64).mono ?_
    rintro x w1 ⟨rfl, rfl⟩
    go_wp2_with fail
    refine (prec_32 _).mono ?_
    rintro x w2 ⟨rfl, hb2⟩
    obtain ⟨k0, k1, k2, f0, f1, f2⟩ := (R3.new w (.int .u64 23) (.int .u64 255) (.int .i64 (-149)) 68).below hb2
    go_wp2_with fail
    refine (C2.out _).mono ?_
    rintro x w3 ⟨rfl, rfl⟩
    go_wp2
    go_ret3
    exact ⟨ret_uib (by unfold seM; rw [HF.out]; rfl) (by unfold seE; rw [HF.out]; rfl) HK.out.symm, (by repeat (first | exact Below.refl _ _ | refine Below.drew ?_ | refine bel_dn ?_ _ | refine bel_al ?_ _ | refine bel_go ?_ hb2 | refine Below.setCell ?_ (by first | omega | (simp; done) | (simp; omega)) _ | refine Below.alloc ?_ (by first | omega | (simp; done) | (simp; omega)) _ | refine Below.trans ?_ (Below.mono hb2 (by first | omega | (simp; done) | (simp; omega)))))⟩
  · have HF : Hid (Nm.stIn 24 (-149) m e = true) := hid (by rw [HIN.out, decide_eq_true (show (-149) ≤ e + (T : Int) by omega), decide_eq_true (show 0 ≤ 24 - B by omega)]; rfl)
    obtain ⟨u, hu⟩ : ∃ u : Nat, (u : Int) = min (24 - B) (e + (T : Int) - (-149)) := ⟨(min (24 - B) (e + (T : Int) - (-149))).toNat, by omega⟩
    have HUP : Hid (Nm.stUp 24 (-149) m e = u) := hid (by unfold Nm.stUp; rw [HSP.out, ← HT.out, hu])
    have hlt := Nm.stM_lt HM.out HF.out
    have HMV : Hid (o * (2 : Int) ^ u = ((Nm.stM 24 (-149) m e : Nat) : Int)) := hid (by unfold Nm.stM; rw [HUP.out, HO.out]; simp)
    obtain ⟨v, hv⟩ : ∃ v : Int, o * (2 : Int) ^ u = v := ⟨_, rfl⟩
    have v0 : 0 ≤ v := by rw [← hv, HMV.out]; omega
    have v1 : v < 18446744073709551616 := by rw [← hv, HMV.out]; omega
    have HV := hid hv
    have HU := hid hu
    have u0 : (u : Int) ≤ 64 := by omega
    have u2 : (u : Int) ≤ e + (T : Int) - (-149) := by omega
    have HK : Hid (Nm.stOk 24 (-149) 255 m e = decide (e + (T : Int) - (u : Int) - (-149) < 254)) := hid (by
      unfold Nm.stOk; rw [HF.out]; unfold Nm.stE; rw [HUP.out, ← HT.out]; simp only [Bool.true_and]; exact decide_eq_decide.2 (by omega))
    have HE : Hid (seE 24 (-149) m e = e + (T : Int) - (u : Int)) := hid (by unfold seE; rw [HF.out]; unfold Nm.stE; rw [HUP.out, ← HT.out]; rfl)
    have HMM : Hid (seM 24 (-149) m e = v) := hid (by unfold seM; rw [HF.out, ← HV.out, HMV.out]; rfl)
    clear hlt hv hu
    go_enter Tryd.func84, Tryd.ntmps84
    go_wp2_with fail
    refine (C1.out _ (hT.al _).t64).mono ?_
    rintro x w1 ⟨rfl, rfl⟩
    go_wp2_with fail
    refine (prec_32 _).mono ?_
    rintro x w2 ⟨rfl, hb2⟩
    obtain ⟨k0, k1, k2, f0, f1, f2⟩ := (R3.new w (.int .u64 23) (.int .u64 255) (.int .i64 (-149)) 68).below hb2
    go_wp2_with fail
    refine (C2.out _).mono ?_
    rintro x w3 ⟨rfl, rfl⟩
    go_upto_region 7 with fail
    go_cut [11] (fun s wx => s = .int .i64 (u : Int) ∧ wx = w3)
    case first =>
      by_cases hc : 24 - B < e + (T : Int) - (-149)
      all_goals go_wp2_with fail
      all_goals go_meet
      all_goals exact ⟨by rw [HU.out]; congr 1; omega, rfl⟩
    case rest =>
    obtain ⟨rfl, rfl⟩ := hcut
    have hv := HV.out
    have hwv : IntKind.u64.wrap (o * (2 : Int) ^ u) = v := by rw [hv, IntKind.wrap_u64]; omega
    go_wp2_with fail
    go_region
    all_goals go_wp2
    all_goals go_ret3
    all_goals exact ⟨ret_uib HMM.out.symm HE.out.symm HK.out.symm, (by repeat (first | exact Below.refl _ _ | refine Below.drew ?_ | refine bel_dn ?_ _ | refine bel_al ?_ _ | refine bel_go ?_ hb2 | refine Below.setCell ?_ (by first | omega | (simp; done) | (simp; omega)) _ | refine Below.alloc ?_ (by first | omega | (simp; done) | (simp; omega)) _ | refine Below.trans ?_ (Below.mono hb2 (by first | omega | (simp; done) | (simp; omega)))))⟩
set_option maxHeartbeats 1000000 in
theorem prec_64 (w : World) :
    Calls Tryd.prog 114 #[.agg #[.int .u64 52, .int .u64 2047, .int .i64 (-1074)]] w fun e w' => e = .returned (.int .i64 53) ∧ Below w.heap.size w w' := by
  go_enter Tryd.func114, Tryd.ntmps114
  go_wp2
  go_ret
  exact ⟨rfl, (by repeat (first | exact Below.refl _ _ | refine Below.drew ?_ | refine bel_dn ?_ _ | refine bel_al ?_ _ | refine Below.setCell ?_ (by first | omega | (simp; done) | (simp; omega)) _ | refine Below.alloc ?_ (by first | omega | (simp; done) | (simp; omega)) _))⟩
set_option maxHeartbeats 8000000 in
set_option maxRecDepth 100000 in
theorem settled_64 (m : Nat) (e : Int) (w : World) (hT : Ts w) (hm : m ≠ 0) (hm1 : m < 9223372036854775808) (e0 : -5000 ≤ e) (e1 : e ≤ 5000) :
    Calls Tryd.prog 84 #[.agg #[.int .u64 52, .int .u64 2047, .int .i64 (-1074)], .int .u64 (m : Nat), .int .i64 e] w fun x w' => x = .returned (.tuple #[.int .u64 (seM 53 (-1074) m e), .int .i64 (seE 53 (-1074) m e), .bool (Nm.stOk 53 (-1074) 2047 m e)]) ∧ Below w.heap.size w w' := by
  obtain ⟨z, hz⟩ : ∃ z : Int, z = (m : Int) := ⟨_, rfl⟩
  have z0 : 0 < z := by omega
  have z1 : z < 18446744073709551616 := by omega
  obtain ⟨T, hTz⟩ : ∃ T, T = Nm.tz m := ⟨_, rfl⟩
  have hs := Nm.tz_spec m hm
  have t1 : (T : Int) ≤ 63 := by
    have h1 : 2 ^ Nm.tz m ≤ m := by have := Nat.le_mul_of_pos_left (2 ^ Nm.tz m) (Nat.pos_of_ne_zero (Nm.od_pos hm)); omega
    have h3 : 2 ^ Nm.tz m < 2 ^ 63 := by omega
    have := (Nat.pow_lt_pow_iff_right (a := 2) (by decide)).1 h3
    omega
  obtain ⟨o, ho⟩ : ∃ o : Int, o = ((Nm.od m : Nat) : Int) := ⟨_, rfl⟩
  have hdiv : z / (2 : Int) ^ T = o := by
    rw [hz, ho, hTz]; unfold Nm.od; simp
  have o0 : 0 < o := by have := Nm.od_pos hm; omega
  have o1 : o < 18446744073709551616 := by have : Nm.od m ≤ m := Nat.div_le_self _ _; omega
  obtain ⟨B, hB⟩ : ∃ B : Int, B = ((bitLen o.toNat : Nat) : Int) := ⟨_, rfl⟩
  have B0 : 1 ≤ B := by have := Nm.bl_pos (show o.toNat ≠ 0 by omega); omega
  have B1 : B ≤ 64 := by have := (Nm.bl_le_iff o.toNat 64).2 (by omega); omega
  have HSP : Hid (Nm.stSp 53 m = 53 - B) := hid (by unfold Nm.stSp; rw [hB, ho]; simp)
  have C1 := hid (fun w' h => tz_64 z w' h z0 z1)
  rw [show Nm.tz z.toNat = T by rw [hTz, hz]; simp] at C1
  have C2 := hid (fun w' => len64_any o w' (by omega) o1)
  rw [← hB] at C2
  have HIN : Hid (Nm.stIn 53 (-1074) m e = (decide (0 ≤ 53 - B) && decide ((-1074) ≤ e + (T : Int)))) := hid (by unfold Nm.stIn; rw [HSP.out, hTz])
  have HT := hid hTz; have HO := hid ho; have HM := hid hm
  rw [← hz]
  clear hz hTz hs ho hB hm hm1
  by_cases c1 : 53 - B < 0
  · have HF : Hid (Nm.stIn 53 (-1074) m e = false) := hid (by rw [HIN.out, decide_eq_false (show ¬ 0 ≤ 53 - B by omega)]; rfl)
    have HK : Hid (Nm.stOk 53 (-1074) 2047 m e = false) := hid (by unfold Nm.stOk; rw [HF.out]; rfl)
    go_enter Tryd.func84, Tryd.ntmps84
    go_wp2_with fail
    refine (C1.out _ (hT.al _).t64).mono ?_
    rintro x w1 ⟨rfl, rfl⟩
    go_wp2_with fail
    refine (prec_64 _).mono ?_
    rintro x w2 ⟨rfl, hb2⟩
    go_wp2_with fail
    refine (C2.out _).mono ?_
    rintro x w3 ⟨rfl, rfl⟩
    go_wp2
    go_ret3
    exact ⟨ret_uib (by unfold seM; rw [HF.out]; rfl) (by unfold seE; rw [HF.out]; rfl) HK.out.symm, (by repeat (first | exact Below.refl _ _ | refine Below.drew ?_ | refine bel_dn ?_ _ | refine bel_al ?_ _ | refine bel_go ?_ hb2 | refine Below.setCell ?_ (by first | omega | (simp; done) | (simp; omega)) _ | refine Below.alloc ?_ (by first | omega | (simp; done) | (simp; omega)) _ | refine Below.trans ?_ (Below.mono hb2 (by first | omega | (simp; done) | (simp; omega)))))⟩
  by_cases c2 : e + (T : Int) < (-1074)
  · have HF : Hid (Nm.stIn 53 (-1074) m e = false) := hid (by rw [HIN.out, decide_eq_false (show ¬ (-1074) ≤ e + (T : Int) by omega)]; simp)
    have HK : Hid (Nm.stOk 53 (-1074) 2047 m e = false) := hid (by unfold Nm.stOk; rw [HF.out]; rfl)
    go_enter Tryd.func84, Tryd.ntmps84
    go_wp2_with fail
    refine (C1.out _ (hT.al _).t64).mono ?_
    rintro x w1 ⟨rfl, rfl⟩
    go_wp2_with fail
    refine (prec_64 _).mono ?_
    rintro x w2 ⟨rfl, hb2⟩
    obtain ⟨k0, k1, k2, f0, f1, f2⟩ := (R3.new w (.int .u64 52) (.int .u64 2047) (.int .i64 (-1074)) 68).below hb2
    go_wp2_with fail
    refine (C2.out _).mono ?_
    rintro x w3 ⟨rfl, rfl⟩
    go_wp2
    go_ret3
    exact ⟨ret_uib (by unfold seM; rw [HF.out]; rfl) (by unfold seE; rw [HF.out]; rfl) HK.out.symm, (by repeat (first | exact Below.refl _ _ | refine Below.drew ?_ | refine bel_dn ?_ _ | refine bel_al ?_ _ | refine bel_go ?_ hb2 | refine Below.setCell ?_ (by first | omega | (simp; done) | (simp; omega)) _ | refine Below.alloc ?_ (by first | omega | (simp; done) | (simp; omega)) _ | refine Below.trans ?_ (Below.mono hb2 (by first | omega | (simp; done) | (simp; omega)))))⟩
  · have HF : Hid (Nm.stIn 53 (-1074) m e = true) := hid (by rw [HIN.out, decide_eq_true (show (-1074) ≤ e + (T : Int) by omega), decide_eq_true (show 0 ≤ 53 - B by omega)]; rfl)
    obtain ⟨u, hu⟩ : ∃ u : Nat, (u : Int) = min (53 - B) (e + (T : Int) - (-1074)) := ⟨(min (53 - B) (e + (T : Int) - (-1074))).toNat, by omega⟩
    have HUP : Hid (Nm.stUp 53 (-1074) m e = u) := hid (by unfold Nm.stUp; rw [HSP.out, ← HT.out, hu])
    have hlt := Nm.stM_lt HM.out HF.out
    have HMV : Hid (o * (2 : Int) ^ u = ((Nm.stM 53 (-1074) m e : Nat) : Int)) := hid (by unfold Nm.stM; rw [HUP.out, HO.out]; simp)
    obtain ⟨v, hv⟩ : ∃ v : Int, o * (2 : Int) ^ u = v := ⟨_, rfl⟩
    have v0 : 0 ≤ v := by rw [← hv, HMV.out]; omega
    have v1 : v < 18446744073709551616 := by rw [← hv, HMV.out]; omega
    have HV := hid hv
    have HU := hid hu
    have u0 : (u : Int) ≤ 64 := by omega
    have u2 : (u : Int) ≤ e + (T : Int) - (-1074) := by omega
    have HK : Hid (Nm.stOk 53 (-1074) 2047 m e = decide (e + (T : Int) - (u : Int) - (-1074) < 2046)) := hid (by
      unfold Nm.stOk; rw [HF.out]; unfold Nm.stE; rw [HUP.out, ← HT.out]; simp only [Bool.true_and]; exact decide_eq_decide.2 (by omega))
    have HE : Hid (seE 53 (-1074) m e = e + (T : Int) - (u : Int)) := hid (by unfold seE; rw [HF.out]; unfold Nm.stE; rw [HUP.out, ← HT.out]; rfl)
    have HMM : Hid (seM 53 (-1074) m e = v) := hid (by unfold seM; rw [HF.out, ← HV.out, HMV.out]; rfl)
    clear hlt hv hu
    go_enter Tryd.func84, Tryd.ntmps84
    go_wp2_with fail
    refine (C1.out _ (hT.al _).t64).mono ?_
    rintro x w1 ⟨rfl, rfl⟩
    go_wp2_with fail
    refine (prec_64 _).mono ?_
    rintro x w2 ⟨rfl, hb2⟩
    obtain ⟨k0, k1, k2, f0, f1, f2⟩ := (R3.new w (.int .u64 52) (.int .u64 2047) (.int .i64 (-1074)) 68).below hb2
    go_wp2_with fail
    refine (C2.out _).mono ?_
    rintro x w3 ⟨rfl, rfl⟩
    go_upto_region 7 with fail
    go_cut [11] (fun s wx => s = .int .i64 (u : Int) ∧ wx = w3)
    case first =>
      by_cases hc : 53 - B < e + (T : Int) - (-1074)
      all_goals go_wp2_with fail
      all_goals go_meet
      all_goals exact ⟨by rw [HU.out]; congr 1; omega, rfl⟩
    case rest =>
    obtain ⟨rfl, rfl⟩ := hcut
    have hv := HV.out
    have hwv : IntKind.u64.wrap (o * (2 : Int) ^ u) = v := by rw [hv, IntKind.wrap_u64]; omega
    go_wp2_with fail
    go_region
    all_goals go_wp2
    all_goals go_ret3
    all_goals exact ⟨ret_uib HMM.out.symm HE.out.symm HK.out.symm, (by repeat (first | exact Below.refl _ _ | refine Below.drew ?_ | refine bel_dn ?_ _ | refine bel_al ?_ _ | refine bel_go ?_ hb2 | refine Below.setCell ?_ (by first | omega | (simp; done) | (simp; omega)) _ | refine Below.alloc ?_ (by first | omega | (simp; done) | (simp; omega)) _ | refine Below.trans ?_ (Below.mono hb2 (by first | omega | (simp; done) | (simp; omega)))))⟩
end Go.Proofs.YtojcaoccjapdoaaDoor
