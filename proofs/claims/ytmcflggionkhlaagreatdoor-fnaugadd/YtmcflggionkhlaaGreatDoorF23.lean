/-
  What is needed of Mini, IB0, DrawB, ITs, IB, IC, ID.
-/
import Derived.Lib.SmallJoins
import Derived.WideLaws
import Derived.Test.YtmcflggionkhlaaGreatDoorF14
import Derived.Test.YtmcflggionkhlaaGreatDoorF20
import Derived.Test.YtmcflggionkhlaaGreatDoorF21
set_option maxHeartbeats 16000000
set_option maxRecDepth 1000000
namespace Go.Proofs.YtmcflggionkhlaaGreatDoor
set_option linter.unusedVariables false
set_option linter.unusedSimpArgs false
open Go.RowKit Go.Deep
theorem Ls {α : Type} : (∀ (xs : List α) (i : Nat) (v : α), xs.toArray.setIfInBounds i v = (xs.set i v).toArray) ∧ (∀ (a b : α) (xs : List α), (a :: xs).set 0 b = b :: xs) ∧ (∀ (a b : α) (i : Nat) (xs : List α), (a :: xs).set (i + 1) b = a :: xs.set i b) ∧ (∀ (xs : List α) (i : Nat) (h : i < xs.toArray.size), xs.toArray[i]'h = xs[i]'(by simpa using h)) ∧ (∀ (a : α) (xs : List α) (h : 0 < (a :: xs).length), (a :: xs)[0]'h = a) ∧ (∀ (a : α) (xs : List α) (i : Nat) (h : i + 1 < (a :: xs).length), (a :: xs)[i + 1]'h = xs[i]'(Nat.lt_of_succ_lt_succ h)) :=
  ⟨fun _ _ _ => by simp, fun _ _ _ => rfl, fun _ _ _ _ => rfl, fun _ _ _ => rfl, fun _ _ _ => rfl, fun _ _ _ _ => rfl⟩
theorem tk {P : Program} {ops : Array Oper} {Q : Exit → Act → World → Prop} {md : Region.Mode} {S : World → Prop} (i : Nat) {oi : Oper} (v : Value) {fuel : Nat} {listed : Array Bool} {a : Act} {w : World} (h1 : ops[i]? = some oi) (h4 : YieldsIf P ops S oi v a) (h6 : wpAnyH P md ops Q S fuel (listed.setIfInBounds i true) (a.put oi.dst v) w) (h2 : (Region.noSelect ops && Region.free md ops listed i && (Region.ready md ops listed).contains i) = true := by kernel_rfl) (h3 : ∀ (c : List PanicEntry) (a : Act) (w : World), Q (Exit.panic c) (a.put oi.dst v) w → Q (Exit.panic c) a w := by exact fun _ _ _ h => h) (h5 : S w := by assumption) : wpAnyH P md ops Q S (fuel + 1) listed a w := by
  simp only [Bool.and_eq_true] at h2
  exact wpAnyH_take h1 h2.1.1 h2.1.2 h2.2 h3 h4 h5 h6
theorem rdy {P : Program} {ops : Array Oper} {Q : Exit → Act → World → Prop} {md : Region.Mode} {S : World → Prop} (i : Nat) {o : Oper} {fuel : Nat} {listed : Array Bool} {a : Act} {w : World} (h2 : ops[i]? = some o) (h3 : ∀ (K' : Act → World → Prop), Shut (∀ (a : Act) (w : World), S w → (S w → wpAnyH P md ops Q S fuel (listed.setIfInBounds i true) a w) → K' a w) → if Region.wanted o (yielded ops a.tmps) = true then Oper.wp P o a w K' Q else K' (a.put o.dst undef) w) (h1 : Region.ready md ops listed = [i] := by kernel_rfl) : wpAnyH P md ops Q S (fuel + 1) listed a w :=
  wpAnyH_ready h1 (by simp) (AllReadyH.cons h2 h3 AllReadyH.nil)
theorem Nm.tz_up {a : Nat} (h : a ≠ 0) (d : Nat) : Nm.tz (a * 2 ^ d) = Nm.tz a + d := by
  have hs := Nm.tz_spec a h
  have : a * 2 ^ d = Nm.od a * 2 ^ (Nm.tz a + d) := by rw [Nat.pow_add, ← Nat.mul_assoc, hs.1]
  rw [this, Nm.tz_mul hs.2]
theorem Nm.tz_low {x r : Nat} (h : x ≠ 0) (hx : x < 4294967296) : Nm.tz (x + 4294967296 * r) = Nm.tz x := by
  have hs := Nm.tz_spec x h
  have ht : Nm.tz x < 32 := by
    have h1 : 2 ^ Nm.tz x ≤ x := by
      have := Nat.le_mul_of_pos_left (2 ^ Nm.tz x) (Nat.pos_of_ne_zero (Nm.od_pos h)); omega
    have h2 : 2 ^ Nm.tz x < 2 ^ 32 := by omega
    exact (Nat.pow_lt_pow_iff_right (a := 2) (by decide)).1 h2
  obtain ⟨k, hk⟩ : ∃ k, 32 = Nm.tz x + (k + 1) := ⟨31 - Nm.tz x, by omega⟩
  have e32 : 4294967296 = 2 ^ Nm.tz x * (2 * 2 ^ k) := by
    have : (4294967296 : Nat) = 2 ^ 32 := by decide
    rw [this, hk, Nat.pow_add, Nat.pow_succ]; congr 1; omega
  have : x + 4294967296 * r = (Nm.od x + 2 * (2 ^ k * r)) * 2 ^ Nm.tz x := by
    rw [Nat.add_mul, hs.1, e32]; congr 1
    generalize 2 ^ Nm.tz x = p
    generalize 2 ^ k = q
    grind
  rw [this, Nm.tz_mul (by have := hs.2; omega)]
/-- Limbs that open with k noughts, and a limb that is not 0. -/
theorem tz_limbs {zs : List Int} (d : Nm.Dg zs) {k : Nat} (hk : k < zs.length) (h0 : ∀ j, j < k → zs.getD j 0 = 0) (hx : zs.getD k 0 ≠ 0) : (Nm.tz (Nm.val zs).toNat : Int) = 32 * (k : Int) + Nm.tz (zs.getD k 0).toNat := by
  have hd := d.getD k
  have e1 : Nm.val (zs.take k) = 0 := Nm.val_zeros (fun i hi => by
    have hi' : i < k := by simp at hi; omega
    rw [List.getD_eq_getElem?_getD, List.getElem?_take_of_lt hi', ← List.getD_eq_getElem?_getD]; exact h0 i hi')
  have e2 := Nm.val_append (zs.take k) (zs.drop k)
  rw [List.take_append_drop, e1, show (zs.take k).length = k by simp; omega] at e2
  have e3 : zs.drop k = zs.getD k 0 :: zs.drop (k + 1) := by
    rw [List.drop_eq_getElem_cons hk, List.getD_eq_getElem?_getD, List.getElem?_eq_getElem hk]; rfl
  have hr := Nm.val_nonneg (d.drop (k + 1))
  rw [e3] at e2
  simp only [Nm.val] at e2
  rw [Nm.pw_two] at e2
  generalize zs.getD k 0 = x at *
  generalize Nm.val (zs.drop (k + 1)) = r at *
  obtain ⟨X, rfl⟩ : ∃ X : Nat, x = X := ⟨x.toNat, by omega⟩
  obtain ⟨R, rfl⟩ : ∃ R : Nat, r = R := ⟨r.toNat, by omega⟩
  have e4 : (Nm.val zs).toNat = (X + 4294967296 * R) * 2 ^ (32 * k) := by
    rw [e2]
    have : (0 : Int) + ((2 ^ (32 * k) : Nat) : Int) * ((X : Int) + 4294967296 * (R : Int)) = (((X + 4294967296 * R) * 2 ^ (32 * k) : Nat) : Int) := by
      rw [Int.natCast_mul, Int.natCast_add, Int.natCast_mul, Int.mul_comm]; simp
    first | rw [this, Int.toNat_natCast] | (rw [Int.zero_add] at this; rw [Int.zero_add, this, Int.toNat_natCast])
  rw [e4, Nm.tz_up (by omega), Nm.tz_low (by omega) (by omega)]
  simp
  omega
def lzW (ng : Bool) (zs : List Int) : Int := if okB ng zs && !decide (zs.length = 0) then (Nm.tz (Nm.val zs).toNat : Int) else -1
theorem lz_impl (ng : Bool) (a : Option Addr) (cap : Nat) (zs : List Int) (w : World) (hT : Tb w 3 Lib.deBruijn32tab) (hs : Sl .u32 w (.slice a zs.length cap) zs) (hz : Nm.Dg zs) (hl : zs.length ≤ 1048576) :
    Calls Tryz.prog 208 #[.agg #[.bool ng, .slice a zs.length cap]] w fun e w' => e = .returned (.int .i64 (lzW ng zs)) ∧ Below w.heap.size w w' := by
  have hl' : zs.length ≤ 140737488355328 := by omega
  cases h1 : okB ng zs
  · have HR : Hid (lzW ng zs = -1) := hid (by unfold lzW; rw [h1]; rfl)
    go_enter Tryz.func208, Tryz.ntmps208
    go_wp2_with fail
    refine (ok_impl ng a cap zs _ (hs.alloc _) hl').mono ?_
    rintro e w1 ⟨rfl, hb1⟩
    go_wp2
    go_ret
    exact ⟨ret_int HR.out.symm, (by repeat (first | exact bz0 _ _ | refine bz1 ?_ | refine bz2 ?_ _ | refine bz3 ?_ _ | refine bz4 ?_ hb1 | refine bz5 ?_ _ | refine bz6 ?_ _ | refine bz7 ?_ hb1))⟩
  have HOK := hid h1
  go_enter Tryz.func208, Tryz.ntmps208
  go_wp2_with fail
  refine (ok_impl ng a cap zs _ (hs.alloc _) hl').mono ?_
  rintro e w1 ⟨rfl, hb1⟩
  obtain ⟨x10, x11⟩ := (Box.new w (.bool ng) (.slice a zs.length cap) 31).below hb1
  have s1 := (hs.alloc _).below hb1
  have hb : Below w.heap.size w w1 := (by repeat (first | exact bz0 _ _ | refine bz1 ?_ | refine bz2 ?_ _ | refine bz3 ?_ _ | refine bz4 ?_ hb1 | refine bz5 ?_ _ | refine bz6 ?_ _ | refine bz7 ?_ hb1))
  have hT1 := hT.below (by decide) hb
  clear hb1
  go_wp2_with fail
  obtain ⟨-, hx1, hx2, hx3⟩ := s1.cells
  go_loopw [11] (fun i wr => ∃ k : Nat, k ≤ zs.length ∧ i = .int .i64 k ∧ (∀ j, j < k → zs.getD j 0 = 0) ∧ wr = w1) (fun i _ => zs.length - (intOf i).toNat)
  case atStart => exact ⟨0, Nat.zero_le _, rfl, fun j hj => by omega, rfl⟩
  case round =>
    obtain ⟨k, hk, rfl, hpre, rfl⟩ := hrel
    have PRE := hid hpre
    clear hpre
    by_cases hlt : k < zs.length
    · obtain ⟨b, off, rfl, hc⟩ := hx3 (by omega)
      have h2 := hc k hlt
      clear hx3 hc
      have hdg := hz.getD k
      obtain ⟨x, hxk⟩ : ∃ x, x = zs.getD k 0 := ⟨_, rfl⟩
      rw [← hxk] at h2 hdg
      have HX := hid hxk
      clear hxk
      have hlt' : (k : Int) < (zs.length : Int) := by omega
      by_cases hx0 : x = 0
      · subst hx0
        go_wp2
        go_roundw
        case rel => exact ⟨k + 1, by omega, by go_num, fun j hj => by
          by_cases e : j = k
          · rw [e]; exact HX.out.symm
          · exact PRE.out j (by omega), (by first | rfl | trivial)⟩
        case measure => simp [intOf]; omega
      · have hne : (x != 0) = true := by rw [bne_iff_ne]; exact hx0
        have HR : Hid (lzW ng zs = 32 * (k : Int) + Nm.tz x.toNat) := hid (by
          unfold lzW; rw [HOK.out]
          have := tz_limbs hz hlt PRE.out (by rw [← HX.out]; exact hx0)
          rw [← HX.out] at this
          rw [decide_eq_false (show ¬ zs.length = 0 by omega)]
          exact this)
        have hxp : 0 < x := by omega
        have htz := (low_32 x hxp hdg.2).2
        clear hx0
        go_wp2_with fail
        refine (tz_32 x _ hT1 hxp hdg.2).mono ?_
        rintro e w2 ⟨rfl, rfl⟩
        go_wp2
        go_ret
        exact ⟨ret_int HR.out.symm, hb⟩
    · have hge : (zs.length : Int) ≤ (k : Int) := by omega
      have HR : Hid (lzW ng zs = -1) := hid (by
        unfold lzW; rw [HOK.out]
        by_cases hz0 : zs.length = 0
        · simp [hz0]
        · exfalso
          have hnz := (okB_nz HOK.out).1
          have := PRE.out (zs.length - 1) (by omega)
          refine hnz 0 ?_ rfl
          rw [List.getLast?_eq_getElem?, List.getElem?_eq_getElem (by omega)]
          rw [List.getD_eq_getElem?_getD, List.getElem?_eq_getElem (by omega)] at this
          simpa using this)
      clear hlt hx3
      go_wp2
      go_ret
      exact ⟨ret_int HR.out.symm, hb⟩
/-- A bit of a wide. -/
theorem lim_getD (a k : Nat) : (Nm.lim a).getD k 0 = ((a / 2 ^ (32 * k) % 4294967296 : Nat) : Int) := by
  induction k generalizing a with
  | zero =>
    by_cases h : a = 0
    · subst h; rw [Nm.lim_zero]; simp
    · rw [Nm.lim_pos h]; simp
  | succ k ih =>
    by_cases h : a = 0
    · subst h; rw [Nm.lim_zero]; simp
    · rw [Nm.lim_pos h, List.getD_cons_succ, ih, Nat.div_div_eq_div_mul]
      have : 4294967296 * 2 ^ (32 * k) = 2 ^ (32 * (k + 1)) := by
        rw [show 32 * (k + 1) = 32 + 32 * k by omega, Nat.pow_add]
      rw [this]
theorem bit_limb (a wh r : Nat) (hr : r < 32) : (Nm.lim a).getD wh 0 / ((2 ^ r : Nat) : Int) % 2 = ((a / 2 ^ (32 * wh + r) % 2 : Nat) : Int) := by
  rw [lim_getD]
  obtain ⟨k, hk⟩ : ∃ k, 32 = r + (k + 1) := ⟨31 - r, by omega⟩
  have e : 4294967296 = 2 ^ r * 2 ^ (k + 1) := by rw [← Nat.pow_add, ← hk]
  have h1 : a / 2 ^ (32 * wh) % 4294967296 / 2 ^ r % 2 = a / 2 ^ (32 * wh + r) % 2 := by
    rw [e, Nat.mod_mul_right_div_self, Nat.div_div_eq_div_mul, ← Nat.pow_add, Nat.pow_succ, Nat.mul_comm (2 ^ k) 2]
    exact Nat.mod_mul_right_mod _ 2 (2 ^ k)
  rw [← h1]; simp
/-- Own rows above a reader stay. -/
theorem Own.rd {w w' : World} {B rb : Nat} {a : Option Addr} {cap : Nat} {zs : List Int} (h : Own w B a cap zs) (hg : w.grownBy w' (some rb)) (hlt : rb < B) : Own w' B a cap zs :=
  h.kept hg (fun g hg' hr => by
    have e : rb = g := Option.some.inj hr
    rcases h.block with ⟨e', _⟩ | ⟨g', e', h1, _⟩
    · rw [e'] at hg'; cases hg'
    · rw [e'] at hg'; cases hg'; omega)
theorem R2.rd {w w' : World} {b rb : Nat} {v0 v1 : Value} (h : R2 w b v0 v1) (hg : w.grownBy w' (some rb)) (hne : b ≠ rb) : R2 w' b v0 v1 := h.grown hg hne
theorem Box.rd {w w' : World} {b rb : Nat} {v0 v1 : Value} (h : Box w b v0 v1) (hg : w.grownBy w' (some rb)) (hne : b ≠ rb) : Box w' b v0 v1 := h.grown hg (fun g e => by cases e; exact hne)
/-- The table of formats, and that of 64. -/
structure Ts (w : World) : Prop where
  f : Tab w
  t64 : Tb w 4 Lib.deBruijn64tab
theorem Ts.below {w w' : World} (h : Ts w) (hb : Below w.heap.size w w') : Ts w' := ⟨h.f.below hb, h.t64.below (by decide) hb⟩
theorem Ts.al {w : World} (h : Ts w) (o : Obj) : Ts (w.alloc o) := h.below ((Below.refl _ _).alloc (Nat.le_refl _) _)
theorem Ts.dr {w : World} (h : Ts w) : Ts w.drew := ⟨⟨h.f.c0, h.f.c1, h.f.c2, h.f.c3, h.f.c4, h.f.c5, h.f.c6, h.f.c7, h.f.c8⟩, h.t64⟩
theorem bitAt_n (ng : Bool) (a : Nat) (i : Int) (p : Option Addr) (c : Nat) (w : World) (hs : Sl .u32 w (.slice p (Nm.lim a).length c) (Nm.lim a)) (hl : bitLen a ≤ 20000) (h0 : 0 ≤ i) (h1 : i ≤ 100000) :
    Calls Tryz.prog 209 #[.agg #[.bool ng, .slice p (Nm.lim a).length c], .int .i64 i] w fun e w' => e = .returned (.bool (decide (a / 2 ^ i.toNat % 2 = 1))) ∧ Below w.heap.size w w' := by
  have hlen := lim_len (x := a) (k := 20000) (by omega)
  obtain ⟨wh, r, hq, hm, hw, hr⟩ := parts32 i h0 (by omega)
  have hd := (Nm.lim_dg a).getD wh
  obtain ⟨x, hx⟩ : ∃ x, x = (Nm.lim a).getD wh 0 := ⟨_, rfl⟩
  rw [← hx] at hd
  have hla := fun w' h => limbAt_any p c (Nm.lim a) wh w' h (by omega) (by omega)
  rw [← hx] at hla
  have HLA := hid hla
  clear hla
  have hbl := bit_limb a wh r hr
  rw [← hx, show 32 * wh + r = i.toNat by omega] at hbl
  have HR : Hid (decide (a / 2 ^ i.toNat % 2 = 1) = (x / (2 : Int) ^ r % 2 == 1)) := hid (by
    have e : ((2 ^ r : Nat) : Int) = (2 : Int) ^ r := by simp
    rw [e] at hbl
    rw [hbl, Bool.eq_iff_iff, decide_eq_true_eq, beq_iff_eq]; omega)
  have hxr : 0 ≤ x / (2 : Int) ^ r ∧ x / (2 : Int) ^ r < 4294967296 := by
    have hp : (0 : Int) < (2 : Int) ^ r := Int.pow_pos (by decide)
    exact ⟨Int.ediv_nonneg hd.1 (by omega), Int.lt_of_le_of_lt (Int.ediv_le_self _ hd.1) hd.2⟩
  have hand : bits .and .u32 (x / (2 : Int) ^ r) 1 = x / (2 : Int) ^ r % 2 := by
    obtain ⟨n, hn⟩ : ∃ n : Nat, x / (2 : Int) ^ r = n := ⟨(x / (2 : Int) ^ r).toNat, by omega⟩
    rw [hn] at hxr ⊢
    have h := u32_and_nat n 1 (by omega) (by decide)
    rw [show ((1 : Nat) : Int) = 1 from rfl] at h
    rw [h, Nat.and_one_is_mod]; simp
  clear hbl hx hxr
  go_enter Tryz.func209, Tryz.ntmps209
  go_wp2_with fail
  refine (HLA.out _ (hs.alloc _)).mono ?_
  rintro e w1 ⟨rfl, rfl⟩
  go_wp2
  go_ret
  exact ⟨ret_bool HR.out.symm, (by repeat (first | exact bz0 _ _ | refine bz1 ?_ | refine bz2 ?_ _ | refine bz3 ?_ _ | refine bz5 ?_ _ | refine bz6 ?_ _))⟩
theorem store_func (P : Program) (w : World) (a : Addr) (f : Fn) (xs ys) (m) : (store a (.func f xs ys) m).run P w = stored P w a (.func f xs ys) m := run_store P w a _ m rfl
attribute [local go_sem] store_func
/-- The function of a mode. -/
def ruleF (m : Int) : Nat := if m = 0 then 181 else if m = 1 then 182 else if m = 2 then 183 else if m = 3 then 184 else if m = 4 then 185 else 186
theorem ruleOf_any (m : Int) (w : World) (h : modeB m = true) :
    Calls Tryz.prog 112 #[.int .i64 m] w fun e w' => e = .returned (.func (.func (ruleF m)) #[] #[]) ∧ Below w.heap.size w w' := by
  rcases mode_cases h with rfl | rfl | rfl | rfl | rfl | rfl
  all_goals
    go_enter Tryz.func112, Tryz.ntmps112
    go_wp2
    go_ret
    exact ⟨rfl, (by repeat (first | exact bz0 _ _ | refine bz1 ?_ | refine bz2 ?_ _ | refine bz3 ?_ _ | refine bz5 ?_ _ | refine bz6 ?_ _))⟩
/-- A function tells of what is cut off what this mode does. -/
def Rule (fid : Nat) (R : Bool → Int → Bool → Bool) : Prop := (∀ (args : Array Value) (w : World), (callFunc fid args).run Tryz.prog w = .ok (.enter fid args) w) ∧ ∀ (ng od : Bool) (h : Int) (w : World), (h = -1 ∨ h = 0 ∨ h = 1) →
  Calls Tryz.prog fid #[.agg #[.bool ng, .bool od, .int .i64 h]] w fun e w' => e = .returned (.bool (R od h ng)) ∧ Below w.heap.size w w'
theorem rule_0 : Rule 181 (fun od h ng => upB 0 od h ng) := by
  have k1 : (Tryz.f181.name == "runtime.NumGoroutine") = false := by kernel_rfl
  have k2 : Tryz.f181.body.isNone = false := by kernel_rfl
  have k3 : ¬ Tryz.f181.name = "runtime.NumGoroutine" := by simpa using k1
  have k4 : ¬ Tryz.f181.body = none := by intro h; rw [h] at k2; cases k2
  refine ⟨fun args w => by simp [callFunc, go_sem, Tryz.func181, k3, k4], ?_⟩
  clear k1 k2 k3 k4
  intro ng od h w hh
  rcases hh with rfl | rfl | rfl
  all_goals
    cases ng <;> cases od
    all_goals
      go_enter Tryz.func181, Tryz.ntmps181
      go_wp2
      go_ret
      exact ⟨rfl, (by repeat (first | exact bz0 _ _ | refine bz1 ?_ | refine bz2 ?_ _ | refine bz3 ?_ _ | refine bz5 ?_ _ | refine bz6 ?_ _))⟩
theorem rule_1 : Rule 182 (fun od h ng => upB 1 od h ng) := by
  have k1 : (Tryz.f182.name == "runtime.NumGoroutine") = false := by kernel_rfl
  have k2 : Tryz.f182.body.isNone = false := by kernel_rfl
  have k3 : ¬ Tryz.f182.name = "runtime.NumGoroutine" := by simpa using k1
  have k4 : ¬ Tryz.f182.body = none := by intro h; rw [h] at k2; cases k2
  refine ⟨fun args w => by simp [callFunc, go_sem, Tryz.func182, k3, k4], ?_⟩
  clear k1 k2 k3 k4
  intro ng od h w hh
  rcases hh with rfl | rfl | rfl
  all_goals
    cases ng <;> cases od
    all_goals
      go_enter Tryz.func182, Tryz.ntmps182
      go_wp2
      go_ret
      exact ⟨rfl, (by repeat (first | exact bz0 _ _ | refine bz1 ?_ | refine bz2 ?_ _ | refine bz3 ?_ _ | refine bz5 ?_ _ | refine bz6 ?_ _))⟩
theorem rule_2 : Rule 183 (fun od h ng => upB 2 od h ng) := by
  have k1 : (Tryz.f183.name == "runtime.NumGoroutine") = false := by kernel_rfl
  have k2 : Tryz.f183.body.isNone = false := by kernel_rfl
  have k3 : ¬ Tryz.f183.name = "runtime.NumGoroutine" := by simpa using k1
  have k4 : ¬ Tryz.f183.body = none := by intro h; rw [h] at k2; cases k2
  refine ⟨fun args w => by simp [callFunc, go_sem, Tryz.func183, k3, k4], ?_⟩
  clear k1 k2 k3 k4
  intro ng od h w hh
  rcases hh with rfl | rfl | rfl
  all_goals
    cases ng <;> cases od
    all_goals
      go_enter Tryz.func183, Tryz.ntmps183
      go_wp2
      go_ret
      exact ⟨rfl, (by repeat (first | exact bz0 _ _ | refine bz1 ?_ | refine bz2 ?_ _ | refine bz3 ?_ _ | refine bz5 ?_ _ | refine bz6 ?_ _))⟩
theorem rule_3 : Rule 184 (fun od h ng => upB 3 od h ng) := by
  have k1 : (Tryz.f184.name == "runtime.NumGoroutine") = false := by kernel_rfl
  have k2 : Tryz.f184.body.isNone = false := by kernel_rfl
  have k3 : ¬ Tryz.f184.name = "runtime.NumGoroutine" := by simpa using k1
  have k4 : ¬ Tryz.f184.body = none := by intro h; rw [h] at k2; cases k2
  refine ⟨fun args w => by simp [callFunc, go_sem, Tryz.func184, k3, k4], ?_⟩
  clear k1 k2 k3 k4
  intro ng od h w hh
  rcases hh with rfl | rfl | rfl
  all_goals
    cases ng <;> cases od
    all_goals
      go_enter Tryz.func184, Tryz.ntmps184
      go_wp2
      go_ret
      exact ⟨rfl, (by repeat (first | exact bz0 _ _ | refine bz1 ?_ | refine bz2 ?_ _ | refine bz3 ?_ _ | refine bz5 ?_ _ | refine bz6 ?_ _))⟩
theorem rule_4 : Rule 185 (fun od h ng => upB 4 od h ng) := by
  have k1 : (Tryz.f185.name == "runtime.NumGoroutine") = false := by kernel_rfl
  have k2 : Tryz.f185.body.isNone = false := by kernel_rfl
  have k3 : ¬ Tryz.f185.name = "runtime.NumGoroutine" := by simpa using k1
  have k4 : ¬ Tryz.f185.body = none := by intro h; rw [h] at k2; cases k2
  refine ⟨fun args w => by simp [callFunc, go_sem, Tryz.func185, k3, k4], ?_⟩
  clear k1 k2 k3 k4
  intro ng od h w hh
  rcases hh with rfl | rfl | rfl
  all_goals
    cases ng <;> cases od
    all_goals
      go_enter Tryz.func185, Tryz.ntmps185
      go_wp2
      go_ret
      exact ⟨rfl, (by repeat (first | exact bz0 _ _ | refine bz1 ?_ | refine bz2 ?_ _ | refine bz3 ?_ _ | refine bz5 ?_ _ | refine bz6 ?_ _))⟩
theorem rule_5 : Rule 186 (fun od h ng => upB 5 od h ng) := by
  have k1 : (Tryz.f186.name == "runtime.NumGoroutine") = false := by kernel_rfl
  have k2 : Tryz.f186.body.isNone = false := by kernel_rfl
  have k3 : ¬ Tryz.f186.name = "runtime.NumGoroutine" := by simpa using k1
  have k4 : ¬ Tryz.f186.body = none := by intro h; rw [h] at k2; cases k2
  refine ⟨fun args w => by simp [callFunc, go_sem, Tryz.func186, k3, k4], ?_⟩
  clear k1 k2 k3 k4
  intro ng od h w hh
  rcases hh with rfl | rfl | rfl
  all_goals
    cases ng <;> cases od
    all_goals
      go_enter Tryz.func186, Tryz.ntmps186
      go_wp2
      go_ret
      exact ⟨rfl, (by repeat (first | exact bz0 _ _ | refine bz1 ?_ | refine bz2 ?_ _ | refine bz3 ?_ _ | refine bz5 ?_ _ | refine bz6 ?_ _))⟩
theorem rule_any (m : Int) (h : modeB m = true) : Rule (ruleF m) (fun od h ng => upB m od h ng) := by
  rcases mode_cases h with rfl | rfl | rfl | rfl | rfl | rfl
  · exact rule_0
  · exact rule_1
  · exact rule_2
  · exact rule_3
  · exact rule_4
  · exact rule_5
theorem ok_lim {a : Nat} (ha : a ≠ 0) (hl : bitLen a ≤ 6400) (ng : Bool) : okB ng (Nm.lim a) = true := by
  have hlen := lim_len (x := a) (k := 200) (by omega)
  have hne : (Nm.lim a).length ≠ 0 := fun h => ha ((Nm.lim_length_zero a).1 h)
  have hz := Nm.lim_nz a
  unfold okB
  rw [if_neg hne, decide_eq_true hlen, Bool.true_and]
  have : (Nm.lim a).getD ((Nm.lim a).length - 1) 0 ≠ 0 := by
    apply hz
    rw [List.getLast?_eq_getElem?, List.getD_eq_getElem?_getD, List.getElem?_eq_getElem (by omega)]; rfl
  rw [decide_eq_false this]; rfl
theorem fits_nat {x : Nat} (h : bitLen x ≤ 6400) : Nm.fits (x : Int) = true := by
  unfold Nm.fits; rw [wl_nat]; exact decide_eq_true (lim_len (k := 200) (by omega))
theorem wsh_n (a : Nat) (n : Int) (p : Option Addr) (c : Nat) (w : World) (hs : Sl .u32 w (.slice p (Nm.lim a).length c) (Nm.lim a)) (ha : a ≠ 0) (hl : bitLen a ≤ 6400) (h0 : -10000 ≤ n) (h1 : n ≤ 10000) (hf : bitLen (Nm.sh a n) ≤ 6400) :
    Calls Tryz.prog 20 #[.agg #[.bool false, .slice p (Nm.lim a).length c], .int .i64 n] w fun e w' => ∃ a' c', e = .returned (.tuple #[.agg #[.bool false, .slice a' (Nm.lim (Nm.sh a n)).length c'], .bool true]) ∧ Own w' w.heap.size a' c' (Nm.lim (Nm.sh a n)) ∧ Below w.heap.size w w' := by
  have h := wsh_impl false p c (Nm.lim a) n w hs (Nm.lim_dg a) (by have := lim_len (x := a) (k := 200) (by omega); omega)
  have e1 : (okB false (Nm.lim a) && inZ n (-10000) 10000) = true := by
    rw [ok_lim ha hl]; simp [inZ]; omega
  have e2 : Nm.shV false (Nm.val (Nm.lim a)) n = ((Nm.sh a n : Nat) : Int) := by rw [Nm.lim_val, Nm.shV_sh]
  rw [e1, e2] at h
  have e3 := fits_nat hf
  have e4 := out_fits e3
  rw [(op_yes _).1, (op_yes _).2.1, (op_yes _).2.2, e3, e4.1, e4.2, wn_nat, wl_nat] at h
  exact h
theorem small_n (x : Nat) (a : Option Addr) (c : Nat) (w : World) (hx : Sl .u32 w (.slice a (Nm.lim x).length c) (Nm.lim x)) (h : x < 9223372036854775808) :
    Calls Tryz.prog 207 #[.agg #[.bool false, .slice a (Nm.lim x).length c]] w fun e w' => e = .returned (.tuple #[.int .i64 (x : Nat), .bool true]) ∧ Below w.heap.size w w' := by
  have h2 := lim_two (x := x) (by omega)
  have h' := smi_any false a c (Nm.lim x) w hx (Nm.lim_dg x) (by omega)
  have hok : okB false (Nm.lim x) = true := by
    by_cases h0 : x = 0
    · subst h0; rw [Nm.lim_zero]; rfl
    · exact ok_lim h0 (by have := (Nm.bl_le_iff x 64).2 (by omega); omega) false
  rw [(sm_yes hok h2).1, (sm_yes hok h2).2, two_val rfl h2] at h'
  have e1 : smI false (x : Int) = (x : Int) := by unfold smI; rw [if_neg (by decide), if_pos (by omega)]
  have e2 : smB false (x : Int) = true := by unfold smB; rw [if_neg (by decide)]; exact decide_eq_true (by omega)
  rw [e1, e2] at h'
  exact h'
theorem lz_n (ng : Bool) (x : Nat) (a : Option Addr) (c : Nat) (w : World) (hT : Tb w 3 Lib.deBruijn32tab) (hx : Sl .u32 w (.slice a (Nm.lim x).length c) (Nm.lim x)) (h0 : x ≠ 0) (hl : bitLen x ≤ 6400) :
    Calls Tryz.prog 208 #[.agg #[.bool ng, .slice a (Nm.lim x).length c]] w fun e w' => e = .returned (.int .i64 (Nm.tz x : Nat)) ∧ Below w.heap.size w w' := by
  have h := lz_impl ng a c (Nm.lim x) w hT hx (Nm.lim_dg x) (by have := lim_len (x := x) (k := 200) (by omega); omega)
  have e : lzW ng (Nm.lim x) = (Nm.tz x : Int) := by
    unfold lzW
    rw [ok_lim h0 hl, decide_eq_false (fun h => h0 ((Nm.lim_length_zero x).1 h)), Nm.lim_val]; simp
  rw [e] at h
  exact h
end Go.Proofs.YtmcflggionkhlaaGreatDoor
namespace Go.Proofs.YtmcflggionkhlaaGreatDoor
set_option linter.unusedVariables false
set_option linter.unusedSimpArgs false
open Go.RowKit Go.Deep
/-- What is cut off, against a half, as the program tells it. -/
def hI (a : Nat) (n : Int) : Int := if (Nm.tz a : Int) = n - 1 then 0 else if a / 2 ^ (n - 1).toNat % 2 = 1 then 1 else -1
def sM (R : Bool → Int → Bool → Bool) (ng : Bool) (a : Nat) (n : Int) : Int := if n ≤ Nm.tz a then (Nm.sh a (-n) : Nat) else if R (((Nm.sh a (-n) : Nat) : Int) % 2 == 1) (hI a n) ng then ((Nm.sh a (-n) : Nat) : Int) + 1 else (Nm.sh a (-n) : Nat)
theorem ret_ib {a a' : Int} {b b' : Bool} (h : a = a') (k : b = b') : Ending.returned (.tuple #[.int .i64 a, .bool b]) = .returned (.tuple #[.int .i64 a', .bool b']) := by rw [h, k]
theorem stepped_n (fid : Nat) (R : Bool → Int → Bool → Bool) (hby : Rule fid R) (ng : Bool) (a : Nat) (n : Int) (p : Option Addr) (c : Nat) (w : World) (hT : Tb w 3 Lib.deBruijn32tab) (hs : Sl .u32 w (.slice p (Nm.lim a).length c) (Nm.lim a)) (ha : a ≠ 0) (hl : bitLen a ≤ 6400) (h0 : -10000 ≤ n) (h1 : n ≤ 10000) (hm : Nm.sh a (-n) < 4611686018427387904) :
    Calls Tryz.prog 176 #[.agg #[.bool ng, .slice p (Nm.lim a).length c], .int .i64 n, .func (.func fid) #[] #[]] w fun e w' => e = .returned (.tuple #[.int .i64 (sM R ng a n), .bool (decide (n ≤ Nm.tz a))]) ∧ Below w.heap.size w w' := by
  obtain ⟨m, hmm⟩ : ∃ m, m = Nm.sh a (-n) := ⟨_, rfl⟩
  obtain ⟨z, hz⟩ : ∃ z : Int, z = ((m : Nat) : Int) := ⟨_, rfl⟩
  have z0 : 0 ≤ z := by omega
  have z1 : z < 4611686018427387904 := by omega
  obtain ⟨t, ht⟩ : ∃ t : Int, t = ((Nm.tz a : Nat) : Int) := ⟨_, rfl⟩
  have t0 : 0 ≤ t := by omega
  have t1 : t ≤ 6400 := by
    have h1 : 2 ^ Nm.tz a ≤ a := by
      have hs := Nm.tz_spec a ha
      have := Nat.le_mul_of_pos_left (2 ^ Nm.tz a) (Nat.pos_of_ne_zero (Nm.od_pos ha)); omega
    have h2 := (Nm.bl_le_iff a 6400).1 hl
    have h3 : 2 ^ Nm.tz a < 2 ^ 6400 := Nat.lt_of_le_of_lt h1 h2
    have := (Nat.pow_lt_pow_iff_right (a := 2) (by decide)).1 h3
    omega
  have hbm : bitLen (Nm.sh a (-n)) ≤ 6400 := by have := (Nm.bl_le_iff (Nm.sh a (-n)) 62).2 (by omega); omega
  have C1 := hid (fun w' h => wsh_n a (-n) p c w' h ha hl (by omega) (by omega) hbm)
  rw [← hmm] at C1
  have C2 := hid (fun a' c' w' h => small_n m a' c' w' h (by omega))
  rw [← hz] at C2
  have C3 := hid (fun w' h h' => lz_n ng a p c w' h h' ha hl)
  rw [← ht] at C3
  have C4 := hid (fun i w' h h0 h1 => bitAt_n ng a i p c w' h (by omega) h0 h1)
  have HSM : Hid (sM R ng a n = if n ≤ t then z else if R (z % 2 == 1) (hI a n) ng then z + 1 else z) := hid (by unfold sM; rw [← hmm, ← hz, ht])
  have HTD : Hid (decide (n ≤ Nm.tz a) = decide (n ≤ t)) := hid (by rw [ht])
  have HHI : Hid (hI a n = if t = n - 1 then 0 else if a / 2 ^ (n - 1).toNat % 2 = 1 then 1 else -1) := hid (by unfold hI; rw [ht])
  have HBY := hid hby.2
  have hrun := hby.1
  clear hby hmm hz ht hbm ha hl hm
  go_enter Tryz.func176, Tryz.ntmps176
  go_wp2_with fail
  refine (C1.out _ (hs.alloc _)).mono ?_
  rintro e w2 ⟨a2, c2, rfl, o2, hb2⟩
  have g2 := ((Box.new w (.bool ng) (.slice p (Nm.lim a).length c) 31).below hb2).alloc (.cells #[.bool false, .slice a2 (Nm.lim m).length c2] 31)
  have s2 := ((hs.alloc _).below hb2).alloc (.cells #[.bool false, .slice a2 (Nm.lim m).length c2] 31)
  have bel2 : Below w.heap.size w (w2.alloc (.cells #[.bool false, .slice a2 (Nm.lim m).length c2] 31)) := (by repeat (first | exact bz0 _ _ | refine bz1 ?_ | refine bz2 ?_ _ | refine bz3 ?_ _ | refine bz4 ?_ hb2 | refine bz5 ?_ _ | refine bz6 ?_ _ | refine bz7 ?_ hb2))
  obtain ⟨m20, m21⟩ := Box.new w2 (.bool false) (.slice a2 (Nm.lim m).length c2) 31
  clear hb2
  go_wp2_with fail
  refine (C2.out a2 c2 _ (o2.sl.alloc _)).mono ?_
  rintro e w3 ⟨rfl, hb3⟩
  have g3 := g2.below hb3
  have s3 := s2.below hb3
  have bel3 := bel_go bel2 hb3
  have hT3 := hT.below (by decide) bel3
  clear g2 s2 bel2 hb3 m20 m21 o2
  obtain ⟨g30, g31⟩ := g3
  go_wp2_with fail
  refine (C3.out _ hT3 s3).mono ?_
  rintro e w4 ⟨rfl, hb4⟩
  obtain ⟨g40, g41⟩ := Box.below ⟨g30, g31⟩ hb4
  have s4 := s3.below hb4
  have bel4 := bel_go bel3 hb4
  have lw4 : w.heap.size < w4.heap.size := World.block_lt_of_cell? w4 _ g40
  clear g30 g31 s3 bel3 hb4 hT3
  by_cases hex : n ≤ t
  · have HA : Hid (sM R ng a n = z) := hid (by rw [HSM.out, if_pos hex])
    go_wp2
    go_ret2
    exact ⟨ret_ib HA.out.symm (by rw [HTD.out]; exact (decide_eq_true hex).symm), (by repeat (first | exact bz0 _ _ | refine bz1 ?_ | refine bz2 ?_ _ | refine bz3 ?_ _ | refine bz4 ?_ bel4 | refine bz5 ?_ _ | refine bz6 ?_ _ | refine bz7 ?_ bel4))⟩
  · have HX : Hid (decide (n ≤ Nm.tz a) = false) := hid (by rw [HTD.out]; exact decide_eq_false hex)
    have HS2 : Hid (sM R ng a n = if R (z % 2 == 1) (hI a n) ng then z + 1 else z) := hid (by rw [HSM.out, if_neg hex])
    have hex' : t < n := by omega
    have hn1 : 1 ≤ n := by omega
    clear hex
    obtain ⟨od, hod⟩ : ∃ od, od = (z % 2 == 1) := ⟨_, rfl⟩
    have HOD := hid hod
    clear hod
    by_cases ha1 : t = n - 1
    · have HHV : Hid (hI a n = 0) := hid (by rw [HHI.out, if_pos ha1])
      have hne : (t == n - 1) = true := by rw [beq_iff_eq]; exact ha1
      clear ha1
      go_wp2_with fail
      refine (HBY.out ng (z % 2 == 1) 0 _ (by right; left; rfl)).mono ?_
      rintro e w9 ⟨rfl, hb9⟩
      have HRV : Hid (sM R ng a n = if R (z % 2 == 1) 0 ng then z + 1 else z) := hid (by rw [HS2.out, HHV.out])
      obtain ⟨u, hu⟩ : ∃ u, u = R (z % 2 == 1) 0 ng := ⟨_, rfl⟩
      rw [← hu]
      have HU := hid hu
      clear hu
      cases u with
      | true =>
        go_wp2
        go_ret2
        exact ⟨ret_ib (by rw [HRV.out, ← HU.out]; rfl) HX.out.symm, (by repeat (first | exact bz0 _ _ | refine bz1 ?_ | refine bz2 ?_ _ | refine bz3 ?_ _ | refine bz4 ?_ hb9 | refine bz4 ?_ bel4 | refine bz5 ?_ _ | refine bz6 ?_ _ | refine bz7 ?_ hb9 | refine bz7 ?_ bel4))⟩
      | false =>
        go_wp2
        go_ret2
        exact ⟨ret_ib (by rw [HRV.out, ← HU.out]; rfl) HX.out.symm, (by repeat (first | exact bz0 _ _ | refine bz1 ?_ | refine bz2 ?_ _ | refine bz3 ?_ _ | refine bz4 ?_ hb9 | refine bz4 ?_ bel4 | refine bz5 ?_ _ | refine bz6 ?_ _ | refine bz7 ?_ hb9 | refine bz7 ?_ bel4))⟩
    · have hne : (t == n - 1) = false := by rw [beq_eq_false_iff_ne]; exact ha1
      have HN1 := hid ha1
      clear ha1
      go_wp2_with fail
      have sB := s4.alloc (.cells #[.bool ng, .bool (z % 2 == 1), .int .i64 (-1)] 201)
      obtain ⟨bt, hbt⟩ : ∃ bt, bt = decide (a / 2 ^ (n - 1).toNat % 2 = 1) := ⟨_, rfl⟩
      have c4 := C4.out (n - 1) _ sB (by omega) (by omega)
      rw [← hbt] at c4
      have HBT := hid hbt
      clear hbt
      refine c4.mono ?_
      clear c4
      rintro e w5 ⟨rfl, hb5⟩
      obtain ⟨k50, k51, k52, f50, f51, f52⟩ := (R3.new w4 (.bool ng) (.bool (z % 2 == 1)) (.int .i64 (-1)) 201).below hb5
      have lw5 : w4.heap.size < w5.heap.size := World.block_lt_of_cell? w5 _ k50
      cases bt with
      | true =>
        have HHV : Hid (hI a n = 1) := hid (by rw [HHI.out, if_neg HN1.out, if_pos (of_decide_eq_true HBT.out.symm)])
        skip
        go_wp2_with fail
        refine (HBY.out ng (z % 2 == 1) 1 _ (by right; right; rfl)).mono ?_
        rintro e w9 ⟨rfl, hb9⟩
        have HRV : Hid (sM R ng a n = if R (z % 2 == 1) 1 ng then z + 1 else z) := hid (by rw [HS2.out, HHV.out])
        obtain ⟨u, hu⟩ : ∃ u, u = R (z % 2 == 1) 1 ng := ⟨_, rfl⟩
        rw [← hu]
        have HU := hid hu
        clear hu
        cases u with
        | true =>
          go_wp2
          go_ret2
          exact ⟨ret_ib (by rw [HRV.out, ← HU.out]; rfl) HX.out.symm, (by repeat (first | exact bz0 _ _ | refine bz1 ?_ | refine bz2 ?_ _ | refine bz3 ?_ _ | refine bz4 ?_ hb9 | refine bz4 ?_ hb5 | refine bz4 ?_ bel4 | refine bz5 ?_ _ | refine bz6 ?_ _ | refine bz7 ?_ hb9 | refine bz7 ?_ hb5 | refine bz7 ?_ bel4))⟩
        | false =>
          go_wp2
          go_ret2
          exact ⟨ret_ib (by rw [HRV.out, ← HU.out]; rfl) HX.out.symm, (by repeat (first | exact bz0 _ _ | refine bz1 ?_ | refine bz2 ?_ _ | refine bz3 ?_ _ | refine bz4 ?_ hb9 | refine bz4 ?_ hb5 | refine bz4 ?_ bel4 | refine bz5 ?_ _ | refine bz6 ?_ _ | refine bz7 ?_ hb9 | refine bz7 ?_ hb5 | refine bz7 ?_ bel4))⟩
      | false =>
        have HHV : Hid (hI a n = (-1)) := hid (by rw [HHI.out, if_neg HN1.out, if_neg (of_decide_eq_false HBT.out.symm)])
        skip
        go_wp2_with fail
        refine (HBY.out ng (z % 2 == 1) (-1) _ (by left; rfl)).mono ?_
        rintro e w9 ⟨rfl, hb9⟩
        have HRV : Hid (sM R ng a n = if R (z % 2 == 1) (-1) ng then z + 1 else z) := hid (by rw [HS2.out, HHV.out])
        obtain ⟨u, hu⟩ : ∃ u, u = R (z % 2 == 1) (-1) ng := ⟨_, rfl⟩
        rw [← hu]
        have HU := hid hu
        clear hu
        cases u with
        | true =>
          go_wp2
          go_ret2
          exact ⟨ret_ib (by rw [HRV.out, ← HU.out]; rfl) HX.out.symm, (by repeat (first | exact bz0 _ _ | refine bz1 ?_ | refine bz2 ?_ _ | refine bz3 ?_ _ | refine bz4 ?_ hb9 | refine bz4 ?_ hb5 | refine bz4 ?_ bel4 | refine bz5 ?_ _ | refine bz6 ?_ _ | refine bz7 ?_ hb9 | refine bz7 ?_ hb5 | refine bz7 ?_ bel4))⟩
        | false =>
          go_wp2
          go_ret2
          exact ⟨ret_ib (by rw [HRV.out, ← HU.out]; rfl) HX.out.symm, (by repeat (first | exact bz0 _ _ | refine bz1 ?_ | refine bz2 ?_ _ | refine bz3 ?_ _ | refine bz4 ?_ hb9 | refine bz4 ?_ hb5 | refine bz4 ?_ bel4 | refine bz5 ?_ _ | refine bz6 ?_ _ | refine bz7 ?_ hb9 | refine bz7 ?_ hb5 | refine bz7 ?_ bel4))⟩
end Go.Proofs.YtmcflggionkhlaaGreatDoor
