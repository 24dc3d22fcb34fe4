/-
  What is needed of Mini, WideN, IB0, IB.
-/
import Derived.Lib.SmallJoins
import Derived.Test.YtkfjmcdniohljaaGreatDoorF20
set_option maxHeartbeats 16000000
set_option maxRecDepth 1000000
namespace Go.Proofs.YtkfjmcdniohljaaGreatDoor
set_option linter.unusedVariables false
set_option linter.unusedSimpArgs false
open Go.RowKit Go.Deep
theorem Ls {α : Type} : (∀ (xs : List α) (i : Nat) (v : α), xs.toArray.setIfInBounds i v = (xs.set i v).toArray) ∧ (∀ (a b : α) (xs : List α), (a :: xs).set 0 b = b :: xs) ∧ (∀ (a b : α) (i : Nat) (xs : List α), (a :: xs).set (i + 1) b = a :: xs.set i b) ∧ (∀ (xs : List α) (i : Nat) (h : i < xs.toArray.size), xs.toArray[i]'h = xs[i]'(by simpa using h)) ∧ (∀ (a : α) (xs : List α) (h : 0 < (a :: xs).length), (a :: xs)[0]'h = a) ∧ (∀ (a : α) (xs : List α) (i : Nat) (h : i + 1 < (a :: xs).length), (a :: xs)[i + 1]'h = xs[i]'(Nat.lt_of_succ_lt_succ h)) :=
 ⟨fun _ _ _ => by simp, fun _ _ _ => rfl, fun _ _ _ _ => rfl, fun _ _ _ => rfl, fun _ _ _ => rfl, fun _ _ _ _ => rfl⟩
theorem tk {P : Program} {ops : Array Oper} {Q : Exit → Act → World → Prop} {md : Region.Mode} {S : World → Prop} (i : Nat) {oi : Oper} (v : Value) {fuel : Nat} {listed : Array Bool} {a : Act} {w : World} (h1 : ops[i]? = some oi) (h4 : YieldsIf P ops S oi v a) (h6 : wpAnyH P md ops Q S fuel (listed.setIfInBounds i true) (a.put oi.dst v) w) (h2 : (Region.noSelect ops && Region.free md ops listed i && (Region.ready md ops listed).contains i) = true := by kernel_rfl) (h3 : ∀ (c : List PanicEntry) (a : Act) (w : World), Q (Exit.panic c) (a.put oi.dst v) w → Q (Exit.panic c) a w := by exact fun _ _ _ h => h) (h5 : S w := by assumption) : wpAnyH P md ops Q S (fuel + 1) listed a w := by
 simp only [Bool.and_eq_true] at h2
 exact wpAnyH_take h1 h2.1.1 h2.1.2 h2.2 h3 h4 h5 h6
theorem rdy {P : Program} {ops : Array Oper} {Q : Exit → Act → World → Prop} {md : Region.Mode} {S : World → Prop} (i : Nat) {o : Oper} {fuel : Nat} {listed : Array Bool} {a : Act} {w : World} (h2 : ops[i]? = some o) (h3 : ∀ (K' : Act → World → Prop), Shut (∀ (a : Act) (w : World), S w → (S w → wpAnyH P md ops Q S fuel (listed.setIfInBounds i true) a w) → K' a w) → if Region.wanted o (yielded ops a.tmps) = true then Oper.wp P o a w K' Q else K' (a.put o.dst undef) w) (h1 : Region.ready md ops listed = [i] := by kernel_rfl) : wpAnyH P md ops Q S (fuel + 1) listed a w :=
 wpAnyH_ready h1 (by simp) (AllReadyH.cons h2 h3 AllReadyH.nil)
theorem l1neg_any (ng : Bool) (a : Option Addr) (cap : Nat) (zs : List Int) (w : World) (hs : Sl .u32 w (.slice a zs.length cap) zs) (hz : Nm.Dg zs) (hl : zs.length ≤ 1048576) (x : Int) (hx : x = Nm.wv (!ng) zs) :
  Calls Tryz.prog 82 #[.agg #[.bool ng, .slice a zs.length cap]] w fun e w' => ∃ a' c', e = .returned (.agg #[.bool (Nm.wn x), .slice a' (Nm.wl x).length c']) ∧ Own w' w.heap.size a' c' (Nm.wl x) ∧ Below w.heap.size w w' := by
 have HX := hid hx
 clear hx
 go_enter Tryz.func82, Tryz.ntmps82
 go_wp2_with fail
 refine (made_v (!ng) a cap zs _ ((hs.alloc _).alloc _) hz hl x HX.out).mono ?_
 rintro e w1 ⟨a', c', rfl, ho, hb⟩
 obtain ⟨r0, r1, f0, f1⟩ := (R2.new2 w (.cells #[.bool ng, .slice a zs.length cap] 32) (.bool false) (.slice none 0 0) 32).below hb
 have ho : Own w1 (w.heap.size + 1 + 1) a' c' (Nm.wl x) := by simpa using ho
 go_wp2
 refine bodyPost_ret (v := .agg #[.bool (Nm.wn x), .slice a' (Nm.wl x).length c']) (by simp [results, Tryz.results82, go_sem, r0, r1]) rfl ⟨a', c', rfl, ?_, (by repeat (first | exact bz0 _ _ | refine bz1 ?_ | refine bz2 ?_ _ | refine bz3 ?_ _ | refine bz4 ?_ hb | refine bz5 ?_ _ | refine bz6 ?_ _ | refine bz7 ?_ hb))⟩
 exact Own.base ((ho.setBelow (by simp) _).setBelow (by simp) _) (by omega)
theorem Nm.tz_up {a : Nat} (h : a ≠ 0) (d : Nat) : Nm.tz (a * 2 ^ d) = Nm.tz a + d := by
 have hs := Nm.tz_spec a h
 have : a * 2 ^ d = Nm.od a * 2 ^ (Nm.tz a + d) := by rw [Nat.pow_add, ← Nat.mul_assoc, hs.1]
 rw [this, Nm.tz_mul hs.2]
theorem Nm.tz_low {x r : Nat} (h : x ≠ 0) (hx : x < 4294967296) : Nm.tz (x + 4294967296 * r) = Nm.tz x := by
 have hs := Nm.tz_spec x h
 have ht : Nm.tz x < 32 := by
  have h1 : 2 ^ Nm.tz x ≤ x := by
   have := Nat.le_mul_of_pos_left (2 ^ Nm.tz x) (Nat.pos_of_ne_zero (Nm.od_pos h)); omega
  have h2 : 2 ^ Nm.tz x < 2 ^ 32 := by omega
  exact (Nat.pow_lt_pow_iff_right (a := 2) (by decide)).1 h2
 obtain ⟨k, hk⟩ : ∃ k, 32 = Nm.tz x + (k + 1) := ⟨31 - Nm.tz x, by omega⟩
 have e32 : 4294967296 = 2 ^ Nm.tz x * (2 * 2 ^ k) := by
  have : (4294967296 : Nat) = 2 ^ 32 := by decide
  rw [this, hk, Nat.pow_add, Nat.pow_succ]; congr 1; omega
 have : x + 4294967296 * r = (Nm.od x + 2 * (2 ^ k * r)) * 2 ^ Nm.tz x := by
  rw [Nat.add_mul, hs.1, e32]; congr 1
  generalize 2 ^ Nm.tz x = p
  generalize 2 ^ k = q
  grind
 rw [this, Nm.tz_mul (by have := hs.2; omega)]
theorem tz_limbs {zs : List Int} (d : Nm.Dg zs) {k : Nat} (hk : k < zs.length) (h0 : ∀ j, j < k → zs.getD j 0 = 0) (hx : zs.getD k 0 ≠ 0) : (Nm.tz (Nm.val zs).toNat : Int) = 32 * (k : Int) + Nm.tz (zs.getD k 0).toNat := by
 have hd := d.getD k
 have e1 : Nm.val (zs.take k) = 0 := Nm.val_zeros (fun i hi => by
  have hi' : i < k := by simp at hi; omega
  rw [List.getD_eq_getElem?_getD, List.getElem?_take_of_lt hi', ← List.getD_eq_getElem?_getD]; exact h0 i hi')
 have e2 := Nm.val_append (zs.take k) (zs.drop k)
 rw [List.take_append_drop, e1, show (zs.take k).length = k by simp; omega] at e2
 have e3 : zs.drop k = zs.getD k 0 :: zs.drop (k + 1) := by
  rw [List.drop_eq_getElem_cons hk, List.getD_eq_getElem?_getD, List.getElem?_eq_getElem hk]; rfl
 have hr := Nm.val_nonneg (d.drop (k + 1))
 rw [e3] at e2
 simp only [Nm.val] at e2
 rw [Nm.pw_two] at e2
 generalize zs.getD k 0 = x at *
 generalize Nm.val (zs.drop (k + 1)) = r at *
 obtain ⟨X, rfl⟩ : ∃ X : Nat, x = X := ⟨x.toNat, by omega⟩
 obtain ⟨R, rfl⟩ : ∃ R : Nat, r = R := ⟨r.toNat, by omega⟩
 have e4 : (Nm.val zs).toNat = (X + 4294967296 * R) * 2 ^ (32 * k) := by
  rw [e2]
  have : (0 : Int) + ((2 ^ (32 * k) : Nat) : Int) * ((X : Int) + 4294967296 * (R : Int)) = (((X + 4294967296 * R) * 2 ^ (32 * k) : Nat) : Int) := by
   rw [Int.natCast_mul, Int.natCast_add, Int.natCast_mul, Int.mul_comm]; simp
  first | rw [this, Int.toNat_natCast] | (rw [Int.zero_add] at this; rw [Int.zero_add, this, Int.toNat_natCast])
 rw [e4, Nm.tz_up (by omega), Nm.tz_low (by omega) (by omega)]
 simp
 omega
def lzW (ng : Bool) (zs : List Int) : Int := if okB ng zs && !decide (zs.length = 0) then (Nm.tz (Nm.val zs).toNat : Int) else -1
theorem lz_impl (ng : Bool) (a : Option Addr) (cap : Nat) (zs : List Int) (w : World) (hT : Tb w 3 Lib.deBruijn32tab) (hs : Sl .u32 w (.slice a zs.length cap) zs) (hz : Nm.Dg zs) (hl : zs.length ≤ 1048576) :
  Calls Tryz.prog 212 #[.agg #[.bool ng, .slice a zs.length cap]] w fun e w' => e = .returned (.int .i64 (lzW ng zs)) ∧ Below w.heap.size w w' := by
 have hl' : zs.length ≤ 140737488355328 := by omega
 cases h1 : okB ng zs
 ·have HR : Hid (lzW ng zs = -1) := hid (by unfold lzW; rw [h1]; rfl)
  go_enter Tryz.func212, Tryz.ntmps212
  go_wp2_with fail
  refine (ok_impl ng a cap zs _ (hs.alloc _) hl').mono ?_
  rintro e w1 ⟨rfl, hb1⟩
  go_wp2
  go_ret
  exact ⟨ret_int HR.out.symm, (by repeat (first | exact bz0 _ _ | refine bz1 ?_ | refine bz2 ?_ _ | refine bz3 ?_ _ | refine bz4 ?_ hb1 | refine bz5 ?_ _ | refine bz6 ?_ _ | refine bz7 ?_ hb1))⟩
 have HOK := hid h1
 go_enter Tryz.func212, Tryz.ntmps212
 go_wp2_with fail
 refine (ok_impl ng a cap zs _ (hs.alloc _) hl').mono ?_
 rintro e w1 ⟨rfl, hb1⟩
 obtain ⟨x10, x11⟩ := (Box.new w (.bool ng) (.slice a zs.length cap) 32).below hb1
 have s1 := (hs.alloc _).below hb1
 have hb : Below w.heap.size w w1 := (by repeat (first | exact bz0 _ _ | refine bz1 ?_ | refine bz2 ?_ _ | refine bz3 ?_ _ | refine bz4 ?_ hb1 | refine bz5 ?_ _ | refine bz6 ?_ _ | refine bz7 ?_ hb1))
 have hT1 := hT.below (by decide) hb
 clear hb1
 go_wp2_with fail
 obtain ⟨-, hx1, hx2, hx3⟩ := s1.cells
 go_loopw [11] (fun i wr => ∃ k : Nat, k ≤ zs.length ∧ i = .int .i64 k ∧ (∀ j, j < k → zs.getD j 0 = 0) ∧ wr = w1) (fun i _ => zs.length - (intOf i).toNat)
 case atStart => exact ⟨0, Nat.zero_le _, rfl, fun j hj => by omega, rfl⟩
 case round =>
  obtain ⟨k, hk, rfl, hpre, rfl⟩ := hrel
  have PRE := hid hpre
  clear hpre
  by_cases hlt : k < zs.length
  ·obtain ⟨b, off, rfl, hc⟩ := hx3 (by omega)
   have h2 := hc k hlt
   clear hx3 hc
   have hdg := hz.getD k
   obtain ⟨x, hxk⟩ : ∃ x, x = zs.getD k 0 := ⟨_, rfl⟩
   rw [← hxk] at h2 hdg
   have HX := hid hxk
   clear hxk
   have hlt' : (k : Int) < (zs.length : Int) := by omega
   by_cases hx0 : x = 0
   ·subst hx0
    go_wp2
    go_roundw
    case rel => exact ⟨k + 1, by omega, by go_num, fun j hj => by
     by_cases e : j = k
     ·rw [e]; exact HX.out.symm
     ·exact PRE.out j (by omega), (by first | rfl | trivial)⟩
    case measure => simp [intOf]; omega
   ·have hne : (x != 0) = true := by rw [bne_iff_ne]; exact hx0
    have HR : Hid (lzW ng zs = 32 * (k : Int) + Nm.tz x.toNat) := hid (by
     unfold lzW; rw [HOK.out]
     have := tz_limbs hz hlt PRE.out (by rw [← HX.out]; exact hx0)
     rw [← HX.out] at this
     rw [decide_eq_false (show ¬ zs.length = 0 by omega)]
     exact this)
    have hxp : 0 < x := by omega
    have htz := (low_32 x hxp hdg.2).2
    clear hx0
    go_wp2_with fail
    refine (tz_32 x _ hT1 hxp hdg.2).mono ?_
    rintro e w2 ⟨rfl, rfl⟩
    go_wp2
    go_ret
    exact ⟨ret_int HR.out.symm, hb⟩
  ·have hge : (zs.length : Int) ≤ (k : Int) := by omega
   have HR : Hid (lzW ng zs = -1) := hid (by
    unfold lzW; rw [HOK.out]
    by_cases hz0 : zs.length = 0
    ·simp [hz0]
    ·exfalso
     have hnz := (okB_nz HOK.out).1
     have := PRE.out (zs.length - 1) (by omega)
     refine hnz 0 ?_ rfl
     rw [List.getLast?_eq_getElem?, List.getElem?_eq_getElem (by omega)]
     rw [List.getD_eq_getElem?_getD, List.getElem?_eq_getElem (by omega)] at this
     simpa using this)
   clear hlt hx3
   go_wp2
   go_ret
   exact ⟨ret_int HR.out.symm, hb⟩
theorem lim_getD (a k : Nat) : (Nm.lim a).getD k 0 = ((a / 2 ^ (32 * k) % 4294967296 : Nat) : Int) := by
 induction k generalizing a with
 | zero =>
  by_cases h : a = 0
  ·subst h; rw [Nm.lim_zero]; simp
  ·rw [Nm.lim_pos h]; simp
 | succ k ih =>
  by_cases h : a = 0
  ·subst h; rw [Nm.lim_zero]; simp
  ·rw [Nm.lim_pos h, List.getD_cons_succ, ih, Nat.div_div_eq_div_mul]
   have : 4294967296 * 2 ^ (32 * k) = 2 ^ (32 * (k + 1)) := by
    rw [show 32 * (k + 1) = 32 + 32 * k by omega, Nat.pow_add]
   rw [this]
theorem bit_limb (a wh r : Nat) (hr : r < 32) : (Nm.lim a).getD wh 0 / ((2 ^ r : Nat) : Int) % 2 = ((a / 2 ^ (32 * wh + r) % 2 : Nat) : Int) := by
 rw [lim_getD]
 obtain ⟨k, hk⟩ : ∃ k, 32 = r + (k + 1) := ⟨31 - r, by omega⟩
 have e : 4294967296 = 2 ^ r * 2 ^ (k + 1) := by rw [← Nat.pow_add, ← hk]
 have h1 : a / 2 ^ (32 * wh) % 4294967296 / 2 ^ r % 2 = a / 2 ^ (32 * wh + r) % 2 := by
  rw [e, Nat.mod_mul_right_div_self, Nat.div_div_eq_div_mul, ← Nat.pow_add, Nat.pow_succ, Nat.mul_comm (2 ^ k) 2]
  exact Nat.mod_mul_right_mod _ 2 (2 ^ k)
 rw [← h1]; simp
theorem bitAt_n (ng : Bool) (a : Nat) (i : Int) (p : Option Addr) (c : Nat) (w : World) (hs : Sl .u32 w (.slice p (Nm.lim a).length c) (Nm.lim a)) (hl : bitLen a ≤ 20000) (h0 : 0 ≤ i) (h1 : i ≤ 100000) :
  Calls Tryz.prog 213 #[.agg #[.bool ng, .slice p (Nm.lim a).length c], .int .i64 i] w fun e w' => e = .returned (.bool (decide (a / 2 ^ i.toNat % 2 = 1))) ∧ Below w.heap.size w w' := by
 have hlen := lim_len (x := a) (k := 20000) (by omega)
 obtain ⟨wh, r, hq, hm, hw, hr⟩ := parts32 i h0 (by omega)
 have hd := (Nm.lim_dg a).getD wh
 obtain ⟨x, hx⟩ : ∃ x, x = (Nm.lim a).getD wh 0 := ⟨_, rfl⟩
 rw [← hx] at hd
 have hla := fun w' h => limbAt_any p c (Nm.lim a) wh w' h (by omega) (by omega)
 rw [← hx] at hla
 have HLA := hid hla
 clear hla
 have hbl := bit_limb a wh r hr
 rw [← hx, show 32 * wh + r = i.toNat by omega] at hbl
 have HR : Hid (decide (a / 2 ^ i.toNat % 2 = 1) = (x / (2 : Int) ^ r % 2 == 1)) := hid (by
  have e : ((2 ^ r : Nat) : Int) = (2 : Int) ^ r := by simp
  rw [e] at hbl
  rw [hbl, Bool.eq_iff_iff, decide_eq_true_eq, beq_iff_eq]; omega)
 have hxr : 0 ≤ x / (2 : Int) ^ r ∧ x / (2 : Int) ^ r < 4294967296 := by
  have hp : (0 : Int) < (2 : Int) ^ r := Int.pow_pos (by decide)
  exact ⟨Int.ediv_nonneg hd.1 (by omega), Int.lt_of_le_of_lt (Int.ediv_le_self _ hd.1) hd.2⟩
 have hand : bits .and .u32 (x / (2 : Int) ^ r) 1 = x / (2 : Int) ^ r % 2 := by
  obtain ⟨n, hn⟩ : ∃ n : Nat, x / (2 : Int) ^ r = n := ⟨(x / (2 : Int) ^ r).toNat, by omega⟩
  rw [hn] at hxr ⊢
  have h := u32_and_nat n 1 (by omega) (by decide)
  rw [show ((1 : Nat) : Int) = 1 from rfl] at h
  rw [h, Nat.and_one_is_mod]; simp
 clear hbl hx hxr
 go_enter Tryz.func213, Tryz.ntmps213
 go_wp2_with fail
 refine (HLA.out _ (hs.alloc _)).mono ?_
 rintro e w1 ⟨rfl, rfl⟩
 go_wp2
 go_ret
 exact ⟨ret_bool HR.out.symm, (by repeat (first | exact bz0 _ _ | refine bz1 ?_ | refine bz2 ?_ _ | refine bz3 ?_ _ | refine bz5 ?_ _ | refine bz6 ?_ _))⟩
end Go.Proofs.YtkfjmcdniohljaaGreatDoor
