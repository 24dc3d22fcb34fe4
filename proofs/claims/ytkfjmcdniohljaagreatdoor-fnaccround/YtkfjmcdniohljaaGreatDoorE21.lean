/-
  What is needed of IA, IB0, IB.
-/
import Derived.Test.YtkfjmcdniohljaaGreatDoorE14
import Derived.Test.YtkfjmcdniohljaaGreatDoorE17
set_option maxHeartbeats 16000000
set_option maxRecDepth 1000000
namespace Go.Proofs.YtkfjmcdniohljaaGreatDoor
set_option linter.unusedVariables false
set_option linter.unusedSimpArgs false
open Go.RowKit Go.Deep
theorem nat_div_cast (a d n f : Nat) : (a : Int) * (d : Int) % (n : Int) / (f : Int) = ((a * d % n / f : Nat) : Int) := by simp
theorem ctz_tz (n x : Nat) (h0 : x ≠ 0) (h : x < 2 ^ n) : Lib.ctz n x = Nm.tz x := by
  obtain ⟨m, hm, hk⟩ := Lib.ctzFrom_spec n x (by omega) h
  have e : Lib.ctz n x = Lib.ctzFrom n x := by simp [Lib.ctz, h0]
  rw [e]
  generalize Lib.ctzFrom n x = t at *
  rw [hm, Nat.mul_comm]
  exact (Nm.tz_mul (by omega) t).symm
theorem low_32 (x : Int) (h0 : 0 < x) (h1 : x < 4294967296) : bits .and .u32 x (4294967296 - x) = ((2 ^ Nm.tz x.toNat : Nat) : Int) ∧ Nm.tz x.toNat < 32 := by
  have hx : x.toNat < 2 ^ 32 := by omega
  have h := Lib.lowest_bit 32 x.toNat (by omega) hx
  rw [ctz_tz 32 x.toNat (by omega) hx] at h
  refine ⟨?_, h.2⟩
  rw [← h.1]
  obtain ⟨n, rfl⟩ := Int.eq_ofNat_of_zero_le (show 0 ≤ x by omega)
  have hn := u32_and_nat n (4294967296 - n) (by omega) (by omega)
  rw [show ((4294967296 - n : Nat) : Int) = 4294967296 - (n : Int) by omega] at hn
  rw [hn]
  simp
/-- The table's index, and what stands there. -/
theorem tab_32 (x : Int) (h0 : 0 < x) (h1 : x < 4294967296) : ∃ j : Nat, ((2 ^ Nm.tz x.toNat : Nat) : Int) * 125613361 % 4294967296 / 134217728 = (j : Int) ∧ j < 32 ∧ Lib.deBruijn32tab.getD j 0 = Nm.tz x.toNat := by
  have ht := (low_32 x h0 h1).2
  have h := Lib.deBruijn32_at _ ht
  exact ⟨_, nat_div_cast _ _ _ _, h.1, h.2⟩
theorem tz_32 (x : Int) (w : World) (hT : Tb w 3 Lib.deBruijn32tab) (h0 : 0 < x) (h1 : x < 4294967296) :
    Calls Tryz.prog 230 #[.int .u32 x] w fun e w' => e = .returned (.int .i64 (Nm.tz x.toNat : Nat)) ∧ w' = w := by
  have hneg : IntKind.u32.wrap (-x) = 4294967296 - x := by rw [IntKind.wrap_u32]; omega
  have hl := low_32 x h0 h1
  obtain ⟨j, hj, hjk, hjt⟩ := tab_32 x h0 h1
  obtain ⟨p, hp⟩ : ∃ p : Int, p = ((2 ^ Nm.tz x.toNat : Nat) : Int) := ⟨_, rfl⟩
  rw [← hp] at hj
  have hj2 : IntKind.u32.wrap (p * 125613361) / 134217728 = (j : Int) := by rw [IntKind.wrap_u32]; exact hj
  have hand : bits .and .u32 x (4294967296 - x) = p := by rw [hp]; exact hl.1
  have hc := hT j (by have : Lib.deBruijn32tab.length = 32 := by decide
                      omega)
  rw [hjt] at hc
  have hx0 : (x == 0) = false := by rw [beq_eq_false_iff_ne]; omega
  have hp0 : 0 ≤ p := by rw [hp]; exact Int.natCast_nonneg _
  have HWR : Hid (wrap64 ((Nm.tz x.toNat : Nat) : Int) = ((Nm.tz x.toNat : Nat) : Int)) := hid (wrap_small _ (by omega) (by have := hl.2; omega))
  clear hp hjt hT hl
  go_enter Tryz.func230, Tryz.ntmps230
  go_wp2
  go_ret
  exact ⟨ret_int HWR.out, rfl⟩
theorem low_64 (x : Int) (h0 : 0 < x) (h1 : x < 18446744073709551616) : bits .and .u64 x (18446744073709551616 - x) = ((2 ^ Nm.tz x.toNat : Nat) : Int) ∧ Nm.tz x.toNat < 64 := by
  have hx : x.toNat < 2 ^ 64 := by omega
  have h := Lib.lowest_bit 64 x.toNat (by omega) hx
  rw [ctz_tz 64 x.toNat (by omega) hx] at h
  refine ⟨?_, h.2⟩
  rw [← h.1]
  obtain ⟨n, rfl⟩ := Int.eq_ofNat_of_zero_le (show 0 ≤ x by omega)
  have hn := u64_and_nat n (18446744073709551616 - n) (by omega) (by omega)
  rw [show ((18446744073709551616 - n : Nat) : Int) = 18446744073709551616 - (n : Int) by omega] at hn
  rw [hn]
  simp
/-- The table's index, and what stands there. -/
theorem tab_64 (x : Int) (h0 : 0 < x) (h1 : x < 18446744073709551616) : ∃ j : Nat, ((2 ^ Nm.tz x.toNat : Nat) : Int) * 285870213051353865 % 18446744073709551616 / 288230376151711744 = (j : Int) ∧ j < 64 ∧ Lib.deBruijn64tab.getD j 0 = Nm.tz x.toNat := by
  have ht := (low_64 x h0 h1).2
  have h := Lib.deBruijn64_at _ ht
  exact ⟨_, nat_div_cast _ _ _ _, h.1, h.2⟩
theorem tz_64 (x : Int) (w : World) (hT : Tb w 4 Lib.deBruijn64tab) (h0 : 0 < x) (h1 : x < 18446744073709551616) :
    Calls Tryz.prog 231 #[.int .u64 x] w fun e w' => e = .returned (.int .i64 (Nm.tz x.toNat : Nat)) ∧ w' = w := by
  have hneg : IntKind.u64.wrap (-x) = 18446744073709551616 - x := by rw [IntKind.wrap_u64]; omega
  have hl := low_64 x h0 h1
  obtain ⟨j, hj, hjk, hjt⟩ := tab_64 x h0 h1
  obtain ⟨p, hp⟩ : ∃ p : Int, p = ((2 ^ Nm.tz x.toNat : Nat) : Int) := ⟨_, rfl⟩
  rw [← hp] at hj
  have hj2 : IntKind.u64.wrap (p * 285870213051353865) / 288230376151711744 = (j : Int) := by rw [IntKind.wrap_u64]; exact hj
  have hand : bits .and .u64 x (18446744073709551616 - x) = p := by rw [hp]; exact hl.1
  have hc := hT j (by have : Lib.deBruijn64tab.length = 64 := by decide
                      omega)
  rw [hjt] at hc
  have hx0 : (x == 0) = false := by rw [beq_eq_false_iff_ne]; omega
  have hp0 : 0 ≤ p := by rw [hp]; exact Int.natCast_nonneg _
  have HWR : Hid (wrap64 ((Nm.tz x.toNat : Nat) : Int) = ((Nm.tz x.toNat : Nat) : Int)) := hid (wrap_small _ (by omega) (by have := hl.2; omega))
  clear hp hjt hT hl
  go_enter Tryz.func231, Tryz.ntmps231
  go_wp2
  go_ret
  exact ⟨ret_int HWR.out, rfl⟩
theorem len64_any (x : Int) (w : World) (h0 : 0 ≤ x) (h1 : x < 18446744073709551616) :
    Calls Tryz.prog 232 #[.int .u64 x] w fun e w' => e = .returned (.int .i64 (bitLen x.toNat : Nat)) ∧ w' = w := by
  by_cases c32 : 4294967296 ≤ x
  · by_cases c16 : 65536 ≤ x / 4294967296
    · by_cases c8 : 256 ≤ x / 4294967296 / 65536
      · have HB : Hid ((bitLen x.toNat : Int) = 56 + bitLen (x / 4294967296 / 65536 / 256).toNat) := hid (by
          have h := bitLen_div x 56 h0 (by simp; omega)
          rw [h, show (x / ((2 ^ 56 : Nat) : Int)) = x / 4294967296 / 65536 / 256 by first | (simp; done) | (simp; omega)]; simp)
        have HL := hid (bl_le (x / 4294967296 / 65536 / 256).toNat (by omega))
        go_enter Tryz.func232, Tryz.ntmps232
        go_wp2
        go_ret
        refine ⟨ret_int ?_, rfl⟩
        simp only [len8tab_get]
        rw [wrap_two _ _ (by decide) (by decide) (by omega) HL.out, HB.out]
      · have HB : Hid ((bitLen x.toNat : Int) = 48 + bitLen (x / 4294967296 / 65536).toNat) := hid (by
          have h := bitLen_div x 48 h0 (by simp; omega)
          rw [h, show (x / ((2 ^ 48 : Nat) : Int)) = x / 4294967296 / 65536 by first | (simp; done) | (simp; omega)]; simp)
        have HL := hid (bl_le (x / 4294967296 / 65536).toNat (by omega))
        go_enter Tryz.func232, Tryz.ntmps232
        go_wp2
        go_ret
        refine ⟨ret_int ?_, rfl⟩
        simp only [len8tab_get]
        rw [wrap_two _ _ (by decide) (by decide) (by omega) HL.out, HB.out]
    · by_cases c8 : 256 ≤ x / 4294967296
      · have HB : Hid ((bitLen x.toNat : Int) = 40 + bitLen (x / 4294967296 / 256).toNat) := hid (by
          have h := bitLen_div x 40 h0 (by simp; omega)
          rw [h, show (x / ((2 ^ 40 : Nat) : Int)) = x / 4294967296 / 256 by first | (simp; done) | (simp; omega)]; simp)
        have HL := hid (bl_le (x / 4294967296 / 256).toNat (by omega))
        go_enter Tryz.func232, Tryz.ntmps232
        go_wp2
        go_ret
        refine ⟨ret_int ?_, rfl⟩
        simp only [len8tab_get]
        rw [wrap_two _ _ (by decide) (by decide) (by omega) HL.out, HB.out]
      · have HB : Hid ((bitLen x.toNat : Int) = 32 + bitLen (x / 4294967296).toNat) := hid (by
          have h := bitLen_div x 32 h0 (by simp; omega)
          rw [h, show (x / ((2 ^ 32 : Nat) : Int)) = x / 4294967296 by first | (simp; done) | (simp; omega)]; simp)
        have HL := hid (bl_le (x / 4294967296).toNat (by omega))
        go_enter Tryz.func232, Tryz.ntmps232
        go_wp2
        go_ret
        refine ⟨ret_int ?_, rfl⟩
        simp only [len8tab_get]
        rw [wrap_two _ _ (by decide) (by decide) (by omega) HL.out, HB.out]
  · by_cases c16 : 65536 ≤ x
    · by_cases c8 : 256 ≤ x / 65536
      · have HB : Hid ((bitLen x.toNat : Int) = 24 + bitLen (x / 65536 / 256).toNat) := hid (by
          have h := bitLen_div x 24 h0 (by simp; omega)
          rw [h, show (x / ((2 ^ 24 : Nat) : Int)) = x / 65536 / 256 by first | (simp; done) | (simp; omega)]; simp)
        have HL := hid (bl_le (x / 65536 / 256).toNat (by omega))
        go_enter Tryz.func232, Tryz.ntmps232
        go_wp2
        go_ret
        refine ⟨ret_int ?_, rfl⟩
        simp only [len8tab_get]
        rw [wrap_two _ _ (by decide) (by decide) (by omega) HL.out, HB.out]
      · have HB : Hid ((bitLen x.toNat : Int) = 16 + bitLen (x / 65536).toNat) := hid (by
          have h := bitLen_div x 16 h0 (by simp; omega)
          rw [h, show (x / ((2 ^ 16 : Nat) : Int)) = x / 65536 by first | (simp; done) | (simp; omega)]; simp)
        have HL := hid (bl_le (x / 65536).toNat (by omega))
        go_enter Tryz.func232, Tryz.ntmps232
        go_wp2
        go_ret
        refine ⟨ret_int ?_, rfl⟩
        simp only [len8tab_get]
        rw [wrap_two _ _ (by decide) (by decide) (by omega) HL.out, HB.out]
    · by_cases c8 : 256 ≤ x
      · have HB : Hid ((bitLen x.toNat : Int) = 8 + bitLen (x / 256).toNat) := hid (by
          have h := bitLen_div x 8 h0 (by simp; omega)
          rw [h, show (x / ((2 ^ 8 : Nat) : Int)) = x / 256 by first | (simp; done) | (simp; omega)]; simp)
        have HL := hid (bl_le (x / 256).toNat (by omega))
        go_enter Tryz.func232, Tryz.ntmps232
        go_wp2
        go_ret
        refine ⟨ret_int ?_, rfl⟩
        simp only [len8tab_get]
        rw [wrap_two _ _ (by decide) (by decide) (by omega) HL.out, HB.out]
      · have HL := hid (bl_le x.toNat (by omega))
        go_enter Tryz.func232, Tryz.ntmps232
        go_wp2
        go_ret
        refine ⟨ret_int ?_, rfl⟩
        simp only [len8tab_get]
        have h8 := HL.out
        rw [wrap_small (wrap64 _) (by rw [wrap_small _ (by omega) (by omega)]; omega) (by rw [wrap_small _ (by omega) (by omega)]; omega), wrap_small _ (by omega) (by omega)]
theorem Nm.tz_up {a : Nat} (h : a ≠ 0) (d : Nat) : Nm.tz (a * 2 ^ d) = Nm.tz a + d := by
  have hs := Nm.tz_spec a h
  have : a * 2 ^ d = Nm.od a * 2 ^ (Nm.tz a + d) := by rw [Nat.pow_add, ← Nat.mul_assoc, hs.1]
  rw [this, Nm.tz_mul hs.2]
theorem Nm.tz_low {x r : Nat} (h : x ≠ 0) (hx : x < 4294967296) : Nm.tz (x + 4294967296 * r) = Nm.tz x := by
  have hs := Nm.tz_spec x h
  have ht : Nm.tz x < 32 := by
    have h1 : 2 ^ Nm.tz x ≤ x := by
      have := Nat.le_mul_of_pos_left (2 ^ Nm.tz x) (Nat.pos_of_ne_zero (Nm.od_pos h)); omega
    have h2 : 2 ^ Nm.tz x < 2 ^ 32 := by omega
    exact (Nat.pow_lt_pow_iff_right (a := 2) (by decide)).1 h2
  obtain ⟨k, hk⟩ : ∃ k, 32 = Nm.tz x + (k + 1) := ⟨31 - Nm.tz x, by omega⟩
  have e32 : 4294967296 = 2 ^ Nm.tz x * (2 * 2 ^ k) := by
    have : (4294967296 : Nat) = 2 ^ 32 := by decide
    rw [this, hk, Nat.pow_add, Nat.pow_succ]; congr 1; omega
  have : x + 4294967296 * r = (Nm.od x + 2 * (2 ^ k * r)) * 2 ^ Nm.tz x := by
    rw [Nat.add_mul, hs.1, e32]; congr 1
    generalize 2 ^ Nm.tz x = p
    generalize 2 ^ k = q
    grind
  rw [this, Nm.tz_mul (by have := hs.2; omega)]
/-- Limbs that open with k noughts, and a limb that is not 0. -/
theorem tz_limbs {zs : List Int} (d : Nm.Dg zs) {k : Nat} (hk : k < zs.length) (h0 : ∀ j, j < k → zs.getD j 0 = 0) (hx : zs.getD k 0 ≠ 0) : (Nm.tz (Nm.val zs).toNat : Int) = 32 * (k : Int) + Nm.tz (zs.getD k 0).toNat := by
  have hd := d.getD k
  have e1 : Nm.val (zs.take k) = 0 := Nm.val_zeros (fun i hi => by
    have hi' : i < k := by simp at hi; omega
    rw [List.getD_eq_getElem?_getD, List.getElem?_take_of_lt hi', ← List.getD_eq_getElem?_getD]; exact h0 i hi')
  have e2 := Nm.val_append (zs.take k) (zs.drop k)
  rw [List.take_append_drop, e1, show (zs.take k).length = k by simp; omega] at e2
  have e3 : zs.drop k = zs.getD k 0 :: zs.drop (k + 1) := by
    rw [List.drop_eq_getElem_cons hk, List.getD_eq_getElem?_getD, List.getElem?_eq_getElem hk]; rfl
  have hr := Nm.val_nonneg (d.drop (k + 1))
  rw [e3] at e2
  simp only [Nm.val] at e2
  rw [Nm.pw_two] at e2
  generalize zs.getD k 0 = x at *
  generalize Nm.val (zs.drop (k + 1)) = r at *
  obtain ⟨X, rfl⟩ : ∃ X : Nat, x = X := ⟨x.toNat, by omega⟩
  obtain ⟨R, rfl⟩ : ∃ R : Nat, r = R := ⟨r.toNat, by omega⟩
  have e4 : (Nm.val zs).toNat = (X + 4294967296 * R) * 2 ^ (32 * k) := by
    rw [e2]
    have : (0 : Int) + ((2 ^ (32 * k) : Nat) : Int) * ((X : Int) + 4294967296 * (R : Int)) = (((X + 4294967296 * R) * 2 ^ (32 * k) : Nat) : Int) := by
      rw [Int.natCast_mul, Int.natCast_add, Int.natCast_mul, Int.mul_comm]; simp
    first | rw [this, Int.toNat_natCast] | (rw [Int.zero_add] at this; rw [Int.zero_add, this, Int.toNat_natCast])
  rw [e4, Nm.tz_up (by omega), Nm.tz_low (by omega) (by omega)]
  simp
  omega
def lzW (ng : Bool) (zs : List Int) : Int := if okB ng zs && !decide (zs.length = 0) then (Nm.tz (Nm.val zs).toNat : Int) else -1
theorem lz_impl (ng : Bool) (a : Option Addr) (cap : Nat) (zs : List Int) (w : World) (hT : Tb w 3 Lib.deBruijn32tab) (hs : Sl .u32 w (.slice a zs.length cap) zs) (hz : Nm.Dg zs) (hl : zs.length ≤ 1048576) :
    Calls Tryz.prog 212 #[.agg #[.bool ng, .slice a zs.length cap]] w fun e w' => e = .returned (.int .i64 (lzW ng zs)) ∧ Below w.heap.size w w' := by
  have hl' : zs.length ≤ 140737488355328 := by omega
  cases h1 : okB ng zs
  · have HR : Hid (lzW ng zs = -1) := hid (by unfold lzW; rw [h1]; rfl)
    go_enter Tryz.func212, Tryz.ntmps212
    go_wp2_with fail
    refine (ok_impl ng a cap zs _ (hs.alloc _) hl').mono ?_
    rintro e w1 ⟨rfl, hb1⟩
    go_wp2
    go_ret
    exact ⟨ret_int HR.out.symm, (by repeat (first | exact bz0 _ _ | refine bz1 ?_ | refine bz2 ?_ _ | refine bz3 ?_ _ | refine bz4 ?_ hb1 | refine bz5 ?_ _ | refine bz6 ?_ _ | refine bz7 ?_ hb1))⟩
  have HOK := hid h1
  go_enter Tryz.func212, Tryz.ntmps212
  go_wp2_with fail
  refine (ok_impl ng a cap zs _ (hs.alloc _) hl').mono ?_
  rintro e w1 ⟨rfl, hb1⟩
  obtain ⟨x10, x11⟩ := (Box.new w (.bool ng) (.slice a zs.length cap) 32).below hb1
  have s1 := (hs.alloc _).below hb1
  have hb : Below w.heap.size w w1 := (by repeat (first | exact bz0 _ _ | refine bz1 ?_ | refine bz2 ?_ _ | refine bz3 ?_ _ | refine bz4 ?_ hb1 | refine bz5 ?_ _ | refine bz6 ?_ _ | refine bz7 ?_ hb1))
  have hT1 := hT.below (by decide) hb
  clear hb1
  go_wp2_with fail
  obtain ⟨-, hx1, hx2, hx3⟩ := s1.cells
  go_loopw [11] (fun i wr => ∃ k : Nat, k ≤ zs.length ∧ i = .int .i64 k ∧ (∀ j, j < k → zs.getD j 0 = 0) ∧ wr = w1) (fun i _ => zs.length - (intOf i).toNat)
  case atStart => exact ⟨0, Nat.zero_le _, rfl, fun j hj => by omega, rfl⟩
  case round =>
    obtain ⟨k, hk, rfl, hpre, rfl⟩ := hrel
    have PRE := hid hpre
    clear hpre
    by_cases hlt : k < zs.length
    · obtain ⟨b, off, rfl, hc⟩ := hx3 (by omega)
      have h2 := hc k hlt
      clear hx3 hc
      have hdg := hz.getD k
      obtain ⟨x, hxk⟩ : ∃ x, x = zs.getD k 0 := ⟨_, rfl⟩
      rw [← hxk] at h2 hdg
      have HX := hid hxk
      clear hxk
      have hlt' : (k : Int) < (zs.length : Int) := by omega
      by_cases hx0 : x = 0
      · subst hx0
        go_wp2
        go_roundw
        case rel => exact ⟨k + 1, by omega, by go_num, fun j hj => by
          by_cases e : j = k
          · rw [e]; exact HX.out.symm
          · exact PRE.out j (by omega), (by first | rfl | trivial)⟩
        case measure => simp [intOf]; omega
      · have hne : (x != 0) = true := by rw [bne_iff_ne]; exact hx0
        have HR : Hid (lzW ng zs = 32 * (k : Int) + Nm.tz x.toNat) := hid (by
          unfold lzW; rw [HOK.out]
          have := tz_limbs hz hlt PRE.out (by rw [← HX.out]; exact hx0)
          rw [← HX.out] at this
          rw [decide_eq_false (show ¬ zs.length = 0 by omega)]
          exact this)
        have hxp : 0 < x := by omega
        have htz := (low_32 x hxp hdg.2).2
        clear hx0
        go_wp2_with fail
        refine (tz_32 x _ hT1 hxp hdg.2).mono ?_
        rintro e w2 ⟨rfl, rfl⟩
        go_wp2
        go_ret
        exact ⟨ret_int HR.out.symm, hb⟩
    · have hge : (zs.length : Int) ≤ (k : Int) := by omega
      have HR : Hid (lzW ng zs = -1) := hid (by
        unfold lzW; rw [HOK.out]
        by_cases hz0 : zs.length = 0
        · simp [hz0]
        · exfalso
          have hnz := (okB_nz HOK.out).1
          have := PRE.out (zs.length - 1) (by omega)
          refine hnz 0 ?_ rfl
          rw [List.getLast?_eq_getElem?, List.getElem?_eq_getElem (by omega)]
          rw [List.getD_eq_getElem?_getD, List.getElem?_eq_getElem (by omega)] at this
          simpa using this)
      clear hlt hx3
      go_wp2
      go_ret
      exact ⟨ret_int HR.out.symm, hb⟩
/-- A bit of a wide. -/
theorem lim_getD (a k : Nat) : (Nm.lim a).getD k 0 = ((a / 2 ^ (32 * k) % 4294967296 : Nat) : Int) := by
  induction k generalizing a with
  | zero =>
    by_cases h : a = 0
    · subst h; rw [Nm.lim_zero]; simp
    · rw [Nm.lim_pos h]; simp
  | succ k ih =>
    by_cases h : a = 0
    · subst h; rw [Nm.lim_zero]; simp
    · rw [Nm.lim_pos h, List.getD_cons_succ, ih, Nat.div_div_eq_div_mul]
      have : 4294967296 * 2 ^ (32 * k) = 2 ^ (32 * (k + 1)) := by
        rw [show 32 * (k + 1) = 32 + 32 * k by omega, Nat.pow_add]
      rw [this]
theorem bit_limb (a wh r : Nat) (hr : r < 32) : (Nm.lim a).getD wh 0 / ((2 ^ r : Nat) : Int) % 2 = ((a / 2 ^ (32 * wh + r) % 2 : Nat) : Int) := by
  rw [lim_getD]
  obtain ⟨k, hk⟩ : ∃ k, 32 = r + (k + 1) := ⟨31 - r, by omega⟩
  have e : 4294967296 = 2 ^ r * 2 ^ (k + 1) := by rw [← Nat.pow_add, ← hk]
  have h1 : a / 2 ^ (32 * wh) % 4294967296 / 2 ^ r % 2 = a / 2 ^ (32 * wh + r) % 2 := by
    rw [e, Nat.mod_mul_right_div_self, Nat.div_div_eq_div_mul, ← Nat.pow_add, Nat.pow_succ, Nat.mul_comm (2 ^ k) 2]
    exact Nat.mod_mul_right_mod _ 2 (2 ^ k)
  rw [← h1]; simp
theorem bitAt_n (ng : Bool) (a : Nat) (i : Int) (p : Option Addr) (c : Nat) (w : World) (hs : Sl .u32 w (.slice p (Nm.lim a).length c) (Nm.lim a)) (hl : bitLen a ≤ 20000) (h0 : 0 ≤ i) (h1 : i ≤ 100000) :
    Calls Tryz.prog 213 #[.agg #[.bool ng, .slice p (Nm.lim a).length c], .int .i64 i] w fun e w' => e = .returned (.bool (decide (a / 2 ^ i.toNat % 2 = 1))) ∧ Below w.heap.size w w' := by
  have hlen := lim_len (x := a) (k := 20000) (by omega)
  obtain ⟨wh, r, hq, hm, hw, hr⟩ := parts32 i h0 (by omega)
  have hd := (Nm.lim_dg a).getD wh
  obtain ⟨x, hx⟩ : ∃ x, x = (Nm.lim a).getD wh 0 := ⟨_, rfl⟩
  rw [← hx] at hd
  have hla := fun w' h => limbAt_any p c (Nm.lim a) wh w' h (by omega) (by omega)
  rw [← hx] at hla
  have HLA := hid hla
  clear hla
  have hbl := bit_limb a wh r hr
  rw [← hx, show 32 * wh + r = i.toNat by omega] at hbl
  have HR : Hid (decide (a / 2 ^ i.toNat % 2 = 1) = (x / (2 : Int) ^ r % 2 == 1)) := hid (by
    have e : ((2 ^ r : Nat) : Int) = (2 : Int) ^ r := by simp
    rw [e] at hbl
    rw [hbl, Bool.eq_iff_iff, decide_eq_true_eq, beq_iff_eq]; omega)
  have hxr : 0 ≤ x / (2 : Int) ^ r ∧ x / (2 : Int) ^ r < 4294967296 := by
    have hp : (0 : Int) < (2 : Int) ^ r := Int.pow_pos (by decide)
    exact ⟨Int.ediv_nonneg hd.1 (by omega), Int.lt_of_le_of_lt (Int.ediv_le_self _ hd.1) hd.2⟩
  have hand : bits .and .u32 (x / (2 : Int) ^ r) 1 = x / (2 : Int) ^ r % 2 := by
    obtain ⟨n, hn⟩ : ∃ n : Nat, x / (2 : Int) ^ r = n := ⟨(x / (2 : Int) ^ r).toNat, by omega⟩
    rw [hn] at hxr ⊢
    have h := u32_and_nat n 1 (by omega) (by decide)
    rw [show ((1 : Nat) : Int) = 1 from rfl] at h
    rw [h, Nat.and_one_is_mod]; simp
  clear hbl hx hxr
  go_enter Tryz.func213, Tryz.ntmps213
  go_wp2_with fail
  refine (HLA.out _ (hs.alloc _)).mono ?_
  rintro e w1 ⟨rfl, rfl⟩
  go_wp2
  go_ret
  exact ⟨ret_bool HR.out.symm, (by repeat (first | exact bz0 _ _ | refine bz1 ?_ | refine bz2 ?_ _ | refine bz3 ?_ _ | refine bz5 ?_ _ | refine bz6 ?_ _))⟩
end Go.Proofs.YtkfjmcdniohljaaGreatDoor
