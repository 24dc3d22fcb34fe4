/-
  What is needed of RA, RB, RC.
-/
import Derived.Test.YtkfjmcdniohljaaGreatDoorF14
import Derived.Test.YtkfjmcdniohljaaGreatDoorF19
set_option maxHeartbeats 16000000
set_option maxRecDepth 1000000
namespace Go.Proofs.YtkfjmcdniohljaaGreatDoor
set_option linter.unusedVariables false
set_option linter.unusedSimpArgs false
open Go.RowKit Go.Deep
theorem lim_len {x k : Nat} (h : bitLen x ≤ 32 * k) : (Nm.lim x).length ≤ k := (Nm.lim_length x k).2 (by rw [Nm.pw_two]; exact Int.ofNat_lt.2 ((Nm.bl_le_iff x (32 * k)).1 h))
theorem len_bl {x k : Nat} (h : (Nm.lim x).length ≤ k) : bitLen x ≤ 32 * k := (Nm.bl_le_iff x (32 * k)).2 (by have := (Nm.lim_length x k).1 h; rw [Nm.pw_two] at this; exact Int.ofNat_lt.1 this)
theorem wl_nat (x : Nat) : Nm.wl (x : Int) = Nm.lim x := by unfold Nm.wl; simp
theorem wn_nat (x : Nat) : Nm.wn (x : Int) = false := by unfold Nm.wn; exact decide_eq_false (by omega)
theorem wv_nat (x : Nat) : Nm.wv false (Nm.lim x) = (x : Int) := by unfold Nm.wv; simpa using Nm.lim_val x
theorem blL_val {zs : List Int} (d : Nm.Dg zs) (z : Nm.Nz zs) : blL zs = (bitLen (Nm.val zs).toNat : Int) := by
 unfold blL
 by_cases h0 : zs.length = 0
 ·have : zs = [] := List.eq_nil_of_length_eq_zero h0
  subst this
  rw [if_pos h0]; simp [Nm.val, Nm.bl_zero]
 ·rw [if_neg h0]
  have hlt : zs.length - 1 < zs.length := by omega
  have hv := Nm.val_take_succ zs (zs.length - 1)
  rw [show zs.length - 1 + 1 = zs.length by omega, List.take_length] at hv
  have hf := Nm.val_take_lt d (zs.length - 1)
  have ht := d.getD (zs.length - 1)
  have htop : zs.getD (zs.length - 1) 0 ≠ 0 := by
   apply z
   rw [List.getLast?_eq_getElem?, List.getD_eq_getElem?_getD, List.getElem?_eq_getElem hlt]; rfl
  rw [Nm.pw_two] at hv hf
  generalize zs.getD (zs.length - 1) 0 = t at *
  generalize Nm.val (zs.take (zs.length - 1)) = f at *
  have hn : (zs.length : Int) - 1 = ((zs.length - 1 : Nat) : Int) := by omega
  rw [hn]
  clear hn hlt h0
  generalize zs.length - 1 = n at *
  obtain ⟨T, rfl⟩ : ∃ T : Nat, t = T := ⟨t.toNat, by omega⟩
  obtain ⟨F, rfl⟩ : ∃ F : Nat, f = F := ⟨f.toNat, by omega⟩
  have hF : F < 2 ^ (32 * n) := Int.ofNat_lt.1 hf.2
  have hV : (Nm.val zs).toNat = F + 2 ^ (32 * n) * T := by rw [hv]; rw [← Int.natCast_mul, ← Int.natCast_add, Int.toNat_natCast]
  have hdiv : (F + 2 ^ (32 * n) * T) / 2 ^ (32 * n) = T := by
   rw [Nat.add_mul_div_left _ _ (Nm.pw_pos2 _), Nat.div_eq_of_lt hF]; omega
  have hb := bitLen_shift (F + 2 ^ (32 * n) * T) (32 * n) (by rw [hdiv]; omega)
  rw [hV, hb, hdiv]
  simp
theorem blL_lim (x : Nat) : blL (Nm.lim x) = (bitLen x : Int) := by
 rw [blL_val (Nm.lim_dg x) (Nm.lim_nz x), Nm.lim_val]; simp
theorem shift_n (x : Nat) (n : Int) (a : Option Addr) (c : Nat) (w : World) (hx : Sl .u32 w (.slice a (Nm.lim x).length c) (Nm.lim x)) (hl : bitLen x ≤ 100000) (h0 : -1000000 ≤ n) (h1 : n ≤ 1000000) :
  Calls Tryz.prog 80 #[.agg #[.bool false, .slice a (Nm.lim x).length c], .int .i64 n] w fun e w' => ∃ a' c', e = .returned (.agg #[.bool false, .slice a' (Nm.lim (Nm.sh x n)).length c']) ∧ Own w' w.heap.size a' c' (Nm.lim (Nm.sh x n)) ∧ Below w.heap.size w w' := by
 have h := l1shift_any false a c (Nm.lim x) n w hx (Nm.lim_dg x) (by have := lim_len (x := x) (k := 100000) (by omega); omega) h0 h1 ((Nm.sh x n : Nat) : Int) (by rw [Nm.lim_val, Nm.shV_sh])
 rw [wn_nat, wl_nat] at h
 exact h
theorem bits_n (x : Nat) (ng : Bool) (a : Option Addr) (c : Nat) (w : World) (hx : Sl .u32 w (.slice a (Nm.lim x).length c) (Nm.lim x)) (hl : bitLen x ≤ 1000000) :
  Calls Tryz.prog 227 #[.agg #[.bool ng, .slice a (Nm.lim x).length c]] w fun e w' => e = .returned (.int .i64 (bitLen x : Nat)) ∧ Below w.heap.size w w' := by
 have h := l1Bits_any ng a c (Nm.lim x) w hx (Nm.lim_dg x) (by have := lim_len (x := x) (k := 1000000) (by omega); omega)
 rw [blL_lim] at h
 exact h
theorem cmpL_nat (x y : Nat) : cmpL (Nm.lim x) (Nm.lim y) = Nm.cmp2 x y := by
 have h := cmpL_val (Nm.lim_dg x) (Nm.lim_dg y) (Nm.lim_nz x) (Nm.lim_nz y)
 have hr := cmpL_rng (Nm.lim x) (Nm.lim y)
 rw [Nm.lim_val, Nm.lim_val] at h
 unfold Nm.cmp2
 split
 ·omega
 ·split <;> omega
theorem cmp_n (x y : Nat) (a a' : Option Addr) (c c' : Nat) (w : World) (hx : Sl .u32 w (.slice a (Nm.lim x).length c) (Nm.lim x)) (hy : Sl .u32 w (.slice a' (Nm.lim y).length c') (Nm.lim y)) (hl : bitLen x ≤ 1000000) (hl' : bitLen y ≤ 1000000) :
  Calls Tryz.prog 85 #[.agg #[.bool false, .slice a (Nm.lim x).length c], .agg #[.bool false, .slice a' (Nm.lim y).length c']] w fun e w' => e = .returned (.int .i64 (Nm.cmp2 x y)) ∧ Below w.heap.size w w' := by
 have h := l1Cmp_any false false a a' c c' (Nm.lim x) (Nm.lim y) w hx hy (by have := lim_len (x := x) (k := 1000000) (by omega); omega) (by have := lim_len (x := y) (k := 1000000) (by omega); omega)
 have e : lcmp false false (Nm.lim x) (Nm.lim y) = Nm.cmp2 x y := cmpL_nat x y
 rw [e] at h
 exact h
theorem add_n (x y r : Nat) (ng : Bool) (hng : ng = Nm.wn (-(y : Int))) (hr : r + y = x) (a a' : Option Addr) (c c' : Nat) (w : World) (hx : Sl .u32 w (.slice a (Nm.lim x).length c) (Nm.lim x)) (hy : Sl .u32 w (.slice a' (Nm.lim y).length c') (Nm.lim y)) (hl : bitLen x ≤ 1000000) :
  Calls Tryz.prog 81 #[.agg #[.bool false, .slice a (Nm.lim x).length c], .agg #[.bool ng, .slice a' (Nm.lim y).length c']] w fun e w' => ∃ a1 c1, e = .returned (.agg #[.bool false, .slice a1 (Nm.lim r).length c1]) ∧ Own w' w.heap.size a1 c1 (Nm.lim r) ∧ Below w.heap.size w w' := by
 have hy' : bitLen y ≤ 1000000 := by have := Nm.bl_mono (show y ≤ x by omega); omega
 have hv : Nm.wv ng (Nm.lim y) = -(y : Int) := by
  have := Nm.wv_out (-(y : Int))
  rw [← hng] at this
  unfold Nm.wl at this; simpa using this
 have h := l1add_any false ng a a' c c' (Nm.lim x) (Nm.lim y) w hx hy (Nm.lim_dg x) (Nm.lim_dg y) (Nm.lim_nz x) (Nm.lim_nz y) (by have := lim_len (x := x) (k := 40000) (by omega); omega) (by have := lim_len (x := y) (k := 40000) (by omega); omega) (r : Int) (by rw [wv_nat, hv]; omega)
 rw [wn_nat, wl_nat] at h
 exact h
theorem plus_n (x y : Nat) (a a' : Option Addr) (c c' : Nat) (w : World) (hx : Sl .u32 w (.slice a (Nm.lim x).length c) (Nm.lim x)) (hy : Sl .u32 w (.slice a' (Nm.lim y).length c') (Nm.lim y)) (hl : bitLen x ≤ 1000000) (hl' : bitLen y ≤ 1000000) :
  Calls Tryz.prog 81 #[.agg #[.bool false, .slice a (Nm.lim x).length c], .agg #[.bool false, .slice a' (Nm.lim y).length c']] w fun e w' => ∃ a1 c1, e = .returned (.agg #[.bool false, .slice a1 (Nm.lim (x + y)).length c1]) ∧ Own w' w.heap.size a1 c1 (Nm.lim (x + y)) ∧ Below w.heap.size w w' := by
 have h := l1add_any false false a a' c c' (Nm.lim x) (Nm.lim y) w hx hy (Nm.lim_dg x) (Nm.lim_dg y) (Nm.lim_nz x) (Nm.lim_nz y) (by have := lim_len (x := x) (k := 40000) (by omega); omega) (by have := lim_len (x := y) (k := 40000) (by omega); omega) ((x + y : Nat) : Int) (by rw [wv_nat, wv_nat]; simp)
 rw [wn_nat, wl_nat] at h
 exact h
theorem one_n (w : World) :
  Calls Tryz.prog 86 #[.int .i64 1] w fun e w' => ∃ a' c', e = .returned (.agg #[.bool false, .slice a' (Nm.lim 1).length c']) ∧ Own w' w.heap.size a' c' (Nm.lim 1) ∧ Below w.heap.size w w' := by
 have h := wof_spec 1 w (by decide) (by decide)
 have e1 : Nm.wn 1 = false := by decide
 have e2 : Nm.wl 1 = Nm.lim 1 := wl_nat 1
 rw [e1, e2] at h
 exact h
theorem l1neg_v (ng : Bool) (a : Option Addr) (cap : Nat) (zs : List Int) (w : World) (hs : Sl .u32 w (.slice a zs.length cap) zs) (hz : Nm.Dg zs) (hl : zs.length ≤ 1048576) (x : Int) (hx : x = Nm.wv (!ng) zs) :
  Calls Tryz.prog 82 #[.agg #[.bool ng, .slice a zs.length cap]] w fun e w' => ∃ a' c', e = .returned (.agg #[.bool (Nm.wn x), .slice a' (Nm.wl x).length c']) ∧ Own w' w.heap.size a' c' (Nm.wl x) ∧ Below w.heap.size w w' := by
 have HX := hid hx
 clear hx
 go_enter Tryz.func82, Tryz.ntmps82
 go_wp2_with fail
 refine (made_v (!ng) a cap zs _ ((hs.alloc _).alloc _) hz hl x HX.out).mono ?_
 rintro e w1 ⟨a', c', rfl, ho, hb⟩
 obtain ⟨r0, r1, f0, f1⟩ := (R2.new2 w (.cells #[.bool ng, .slice a zs.length cap] 32) (.bool false) (.slice none 0 0) 32).below hb
 have ho : Own w1 (w.heap.size + 1 + 1) a' c' (Nm.wl x) := by simpa using ho
 go_wp2
 refine bodyPost_ret (v := .agg #[.bool (Nm.wn x), .slice a' (Nm.wl x).length c']) (by simp [results, Tryz.results82, go_sem, r0, r1]) rfl ⟨a', c', rfl, ?_, (by repeat (first | exact bz0 _ _ | refine bz1 ?_ | refine bz2 ?_ _ | refine bz3 ?_ _ | refine bz4 ?_ hb | refine bz5 ?_ _ | refine bz6 ?_ _ | refine bz7 ?_ hb))⟩
 exact Own.base ((ho.setBelow (by simp) _).setBelow (by simp) _) (by omega)
theorem neg_n (x : Nat) (a : Option Addr) (c : Nat) (w : World) (hx : Sl .u32 w (.slice a (Nm.lim x).length c) (Nm.lim x)) (hl : bitLen x ≤ 1000000) :
  Calls Tryz.prog 82 #[.agg #[.bool false, .slice a (Nm.lim x).length c]] w fun e w' => ∃ a1 c1, e = .returned (.agg #[.bool (Nm.wn (-(x : Int))), .slice a1 (Nm.lim x).length c1]) ∧ Own w' w.heap.size a1 c1 (Nm.lim x) ∧ Below w.heap.size w w' := by
 have e2 : Nm.wl (-(x : Int)) = Nm.lim x := by unfold Nm.wl; simp
 have hv : -(x : Int) = Nm.wv (!false) (Nm.lim x) := by unfold Nm.wv; simp [Nm.lim_val]
 have h := l1neg_v false a c (Nm.lim x) w hx (Nm.lim_dg x) (by have := lim_len (x := x) (k := 1000000) (by omega); omega) (-(x : Int)) hv
 rw [e2] at h
 exact h
theorem lim_two {x : Nat} (h : x < 18446744073709551616) : (Nm.lim x).length ≤ 2 := lim_len (k := 2) ((Nm.bl_le_iff x 64).2 (by simpa using h))
theorem two_val {x : Nat} {zs : List Int} (h : zs = Nm.lim x) (h2 : zs.length ≤ 2) : zs.getD 0 0 + zs.getD 1 0 * 4294967296 = (x : Int) := by
 have hv : Nm.val zs = x := by rw [h]; exact Nm.lim_val x
 match zs, h2, hv with
 | [], _, hv => simpa [Nm.val] using hv
 | [a], _, hv => simp [Nm.val] at hv ⊢; omega
 | [a, b], _, hv => simp [Nm.val] at hv ⊢; omega
 | _ :: _ :: _ :: _, h2, _ => simp at h2
theorem low_any (ng : Bool) (a : Option Addr) (c : Nat) (zs : List Int) (w : World) (hx : Sl .u32 w (.slice a zs.length c) zs) (hz : Nm.Dg zs) (h2 : zs.length ≤ 2) :
  Calls Tryz.prog 84 #[.agg #[.bool ng, .slice a zs.length c]] w fun e w' => e = .returned (.int .u64 (zs.getD 0 0 + zs.getD 1 0 * 4294967296)) ∧ Below w.heap.size w w' := by
 match zs, hx, hz, h2 with
 | [], hs, hz, _ => exact low0 ng a c w hs
 | [x], hs, hz, _ =>
  obtain ⟨-, _, _, hc3⟩ := hs.cells
  obtain ⟨b, off, rfl, _⟩ := hc3 (by simp)
  have hx := hz.head
  have := low1 ng b off x c w hs hx.1 hx.2
  simpa using this
 | [x, y], hs, hz, _ =>
  obtain ⟨-, _, _, hc3⟩ := hs.cells
  obtain ⟨b, off, rfl, _⟩ := hc3 (by simp)
  have hx := hz.head
  have hy := hz.tail.head
  exact low2 ng b off x y c w hs hx.1 hx.2 hy.1 hy.2
 | _ :: _ :: _ :: _, _, _, h2 => simp at h2
theorem low_n (x : Nat) (ng : Bool) (a : Option Addr) (c : Nat) (w : World) (hx : Sl .u32 w (.slice a (Nm.lim x).length c) (Nm.lim x)) (h : x < 18446744073709551616) :
  Calls Tryz.prog 84 #[.agg #[.bool ng, .slice a (Nm.lim x).length c]] w fun e w' => e = .returned (.int .u64 (x : Nat)) ∧ Below w.heap.size w w' := by
 have h2 := lim_two h
 have := low_any ng a c (Nm.lim x) w hx (Nm.lim_dg x) h2
 rw [two_val rfl h2] at this
 exact this
theorem sP_32 (w : World) :
  Calls Tryz.prog 164 #[.int .i64 32] w fun e w' => e = .returned (.int .i64 24) ∧ w' = w := by
 go_enter Tryz.func164, Tryz.ntmps164
 go_wp2
 go_ret
 exact ⟨rfl, rfl⟩
theorem sS_32 (w : World) :
  Calls Tryz.prog 180 #[.int .i64 32] w fun e w' => e = .returned (.int .u64 2147483648) ∧ Below w.heap.size w w' := by
 go_enter Tryz.func180, Tryz.ntmps180
 go_wp2
 go_ret
 exact ⟨rfl, (by repeat (first | exact bz0 _ _ | refine bz1 ?_ | refine bz2 ?_ _ | refine bz3 ?_ _ | refine bz5 ?_ _ | refine bz6 ?_ _))⟩
theorem sQ_32 (w : World) :
  Calls Tryz.prog 133 #[.int .i64 32] w fun e w' => e = .returned (.int .i64 (-149)) ∧ w' = w := by
 go_enter Tryz.func133, Tryz.ntmps133
 go_wp2
 go_ret
 exact ⟨rfl, rfl⟩
theorem sP_64 (w : World) :
  Calls Tryz.prog 164 #[.int .i64 64] w fun e w' => e = .returned (.int .i64 53) ∧ w' = w := by
 go_enter Tryz.func164, Tryz.ntmps164
 go_wp2
 go_ret
 exact ⟨rfl, rfl⟩
theorem sS_64 (w : World) :
  Calls Tryz.prog 180 #[.int .i64 64] w fun e w' => e = .returned (.int .u64 9223372036854775808) ∧ Below w.heap.size w w' := by
 go_enter Tryz.func180, Tryz.ntmps180
 go_wp2
 go_ret
 exact ⟨rfl, (by repeat (first | exact bz0 _ _ | refine bz1 ?_ | refine bz2 ?_ _ | refine bz3 ?_ _ | refine bz5 ?_ _ | refine bz6 ?_ _))⟩
theorem sQ_64 (w : World) :
  Calls Tryz.prog 133 #[.int .i64 64] w fun e w' => e = .returned (.int .i64 (-1074)) ∧ w' = w := by
 go_enter Tryz.func133, Tryz.ntmps133
 go_wp2
 go_ret
 exact ⟨rfl, rfl⟩
theorem with_32 (x : Int) (ng : Bool) (w : World) (h : ng = true → 0 ≤ x ∧ x < 2147483648) :
  Calls Tryz.prog 88 #[.int .i64 32, .int .u64 x, .bool ng] w fun e w' => e = .returned (.int .u64 (sgn 2147483648 x ng)) ∧ Below w.heap.size w w' := by
 cases ng
 ·go_enter Tryz.func88, Tryz.ntmps88
  go_wp2
  go_ret
  exact ⟨rfl, (by repeat (first | exact bz0 _ _ | refine bz1 ?_ | refine bz2 ?_ _ | refine bz3 ?_ _ | refine bz5 ?_ _ | refine bz6 ?_ _))⟩
 ·obtain ⟨h0, h1⟩ := h rfl
  have e2 := Bt.or31 x h0 h1
  go_enter Tryz.func88, Tryz.ntmps88
  go_wp2_with fail
  refine (sS_32 _).mono ?_
  rintro e w1 ⟨rfl, hb1⟩
  go_wp2
  go_ret
  exact ⟨rfl, (by repeat (first | exact bz0 _ _ | refine bz1 ?_ | refine bz2 ?_ _ | refine bz3 ?_ _ | refine bz4 ?_ hb1 | refine bz5 ?_ _ | refine bz6 ?_ _ | refine bz7 ?_ hb1))⟩
theorem with_64 (x : Int) (ng : Bool) (w : World) (h : ng = true → 0 ≤ x ∧ x < 9223372036854775808) :
  Calls Tryz.prog 88 #[.int .i64 64, .int .u64 x, .bool ng] w fun e w' => e = .returned (.int .u64 (sgn 9223372036854775808 x ng)) ∧ Below w.heap.size w w' := by
 cases ng
 ·go_enter Tryz.func88, Tryz.ntmps88
  go_wp2
  go_ret
  exact ⟨rfl, (by repeat (first | exact bz0 _ _ | refine bz1 ?_ | refine bz2 ?_ _ | refine bz3 ?_ _ | refine bz5 ?_ _ | refine bz6 ?_ _))⟩
 ·obtain ⟨h0, h1⟩ := h rfl
  have e2 := Bt.or63 x h0 h1
  go_enter Tryz.func88, Tryz.ntmps88
  go_wp2_with fail
  refine (sS_64 _).mono ?_
  rintro e w1 ⟨rfl, hb1⟩
  go_wp2
  go_ret
  exact ⟨rfl, (by repeat (first | exact bz0 _ _ | refine bz1 ?_ | refine bz2 ?_ _ | refine bz3 ?_ _ | refine bz4 ?_ hb1 | refine bz5 ?_ _ | refine bz6 ?_ _ | refine bz7 ?_ hb1))⟩
theorem cmp2_eq {x y : Nat} : Nm.cmp2 x y = 0 ↔ x = y := by unfold Nm.cmp2; split <;> (try split) <;> omega
theorem l2f_32A (u : Nat) (a : Option Addr) (c : Nat) (w : World) (hx : Sl .u32 w (.slice a (Nm.lim u).length c) (Nm.lim u)) (hl : bitLen u ≤ 90000) (hc : ((bitLen u : Nat) : Int) - 24 < 0) :
  Calls Tryz.prog 228 #[.int .i64 32, .agg #[.bool false, .slice a (Nm.lim u).length c]] w fun e w' => (∃ x : Int, e = .returned (.tuple #[.int .u64 x, .bool (Nm.flo 24 2139095040 u)]) ∧ (Nm.flo 24 2139095040 u = true → x = (Nm.flb 24 u : Nat))) ∧ Below w.heap.size w w' := by
 obtain ⟨K, hK⟩ : ∃ K, K = bitLen u - 24 := ⟨_, rfl⟩
 obtain ⟨m, hm⟩ : ∃ m, m = u / 2 ^ K := ⟨_, rfl⟩
 have hm64 : m < 18446744073709551616 := by have := Nm.flm_lt 24 u; rw [hm, hK]; omega
 obtain ⟨z, hz⟩ : ∃ z : Int, z = (m : Int) := ⟨_, rfl⟩
 have HZ := hid hz
 have z0 : 0 ≤ z := by omega
 have z1 : z < 16777216 := by have := Nm.flm_lt 24 u; rw [← hK, ← hm] at this; omega
 clear hz
 have HV : Hid ((0 : Int) = (K : Int)) := hid (by omega)
 have HN : Hid ((0 : Int) = -(K : Int)) := hid (by omega)
 have e1 : Nm.sh u (-(K : Int)) = m := by
  unfold Nm.sh; rw [hm]
  by_cases h0 : K = 0
  ·subst h0; simp
  ·rw [if_pos (by omega)]; simp
 have e2 : Nm.sh m (K : Int) = m * 2 ^ K := by unfold Nm.sh; rw [if_neg (by omega)]; simp
 have HE2 := hid e2
 have HE1 := hid e1
 have hKl : (K : Int) ≤ 90000 := by omega
 clear e1 e2
 by_cases h1 : K ≤ 2100
 ·have h1' : (0 : Int) ≤ 2100 := by omega
  have hi : ¬ (0 : Int) > 2100 := by omega
  have HK := hid hK
  have HM := hid hm
  clear hK hm h1
  go_enter Tryz.func228, Tryz.ntmps228
  go_wp2_with fail
  refine (bits_n u false a c _ (hx.alloc _) (by omega)).mono ?_
  rintro e w1 ⟨rfl, hb1⟩
  go_wp2_with fail
  refine (sP_32 _).mono ?_
  rintro e w2 ⟨rfl, rfl⟩
  have x1 := (Box.new w (.bool false) (.slice a (Nm.lim u).length c) 32).below hb1
  obtain ⟨x10, x11⟩ := x1
  have s1 := (hx.alloc _).below hb1
  go_wp2_with fail
  have hsh := shift_n u (0 : Int) a c _ s1 (by omega) (by omega) (by omega)
  rw [HN.out, HE1.out, ← HN.out] at hsh
  refine hsh.mono ?_
  clear hsh
  rintro e w3 ⟨a3, c3, rfl, ho3, hb3⟩
  have x3 := (Box.below ⟨x10, x11⟩ hb3).alloc (.cells #[.bool false, .slice a3 (Nm.lim m).length c3] 32)
  have m3 := Box.new w3 (.bool false) (.slice a3 (Nm.lim m).length c3) 32
  have s3 := (s1.below hb3).alloc (.cells #[.bool false, .slice a3 (Nm.lim m).length c3] 32)
  have o3 := ho3.sl.alloc (.cells #[.bool false, .slice a3 (Nm.lim m).length c3] 32)
  go_upto_region 5 with fail
  go_cut [26] (fun s wx => s = .bool (Nm.cmp2 (m * 2 ^ K) u != 0) ∧ Box wx w.heap.size (.bool false) (.slice a (Nm.lim u).length c) ∧ Box wx w3.heap.size (.bool false) (.slice a3 (Nm.lim m).length c3) ∧ Sl .u32 wx (.slice a3 (Nm.lim m).length c3) (Nm.lim m) ∧ Below w.heap.size w wx)
  case first =>
   have hsh := fun w' h => shift_n m (0 : Int) a3 c3 w' h (by have := Nm.bl_mono (Nat.div_le_self u (2 ^ K)); rw [← HM.out] at this; omega) (by omega) (by omega)
   rw [HV.out, HE2.out, ← HV.out] at hsh
   have hcm := fun a4 c4 w' h h' => cmp_n (m * 2 ^ K) u a4 a c4 c w' h h' (by have := Nm.bl_mono (show m * 2 ^ K ≤ u by rw [HM.out]; exact Nat.div_mul_le_self u _); omega) (by omega)
   have HSH := hid hsh; have HCM := hid hcm
   clear hsh hcm
   have x3' := x3; have m3' := m3
   obtain ⟨x30, x31⟩ := x3
   obtain ⟨m30, m31⟩ := m3
   go_region_with (first
    | (go_at_call 80; refine (HSH.out _ o3.drew).mono ?_; rintro e w4 ⟨a4, c4, rfl, ho4, hb4⟩; have x4 := Box.below (w := (w3.alloc (.cells #[.bool false, .slice a3 (Nm.lim m).length c3] 32)).drew) x3' hb4; have m4 := Box.below (w := (w3.alloc (.cells #[.bool false, .slice a3 (Nm.lim m).length c3] 32)).drew) m3' hb4; have s4 := s3.drew.below hb4; have o4 := o3.drew.below hb4; obtain ⟨x40, x41⟩ := x4; obtain ⟨m40, m41⟩ := m4)
    | (go_at_call 85; refine (HCM.out _ _ _ ho4.sl s4).mono ?_; rintro e w5 ⟨rfl, hb5⟩; have x5 := Box.below ⟨x40, x41⟩ hb5; have m5 := Box.below ⟨m40, m41⟩ hb5; have o5 := o4.below hb5))
   all_goals (go_wp2_with fail; go_meet)
   all_goals exact ⟨rfl, x5, m5, o5, (by repeat (first | exact bz0 _ _ | refine bz1 ?_ | refine bz2 ?_ _ | refine bz3 ?_ _ | refine bz4 ?_ hb5 | refine bz4 ?_ hb4 | refine bz4 ?_ hb3 | refine bz4 ?_ hb1 | refine bz5 ?_ _ | refine bz6 ?_ _ | refine bz7 ?_ hb5 | refine bz7 ?_ hb4 | refine bz7 ?_ hb3 | refine bz7 ?_ hb1))⟩
  case rest =>
  obtain ⟨rfl, ⟨x60, x61⟩, ⟨m60, m61⟩, o6, hbel⟩ := hcut
  by_cases hex : m * 2 ^ K = u
  ·have hB : (Nm.cmp2 (m * 2 ^ K) u != 0) = false := by rw [bne_eq_false_iff_eq]; exact cmp2_eq.2 hex
   have HX := hid hex
   clear hex
   go_wp2_with fail
   have hlow := low_n m false a3 c3 _ o6 hm64
   rw [← HZ.out] at hlow
   refine hlow.mono ?_
   clear hlow
   rintro e w7 ⟨rfl, hb7⟩
   obtain ⟨x70, x71⟩ := Box.below ⟨x60, x61⟩ hb7
   have HO : Hid (Nm.flo 24 2139095040 u = decide (Nm.flb 24 u < 2139095040)) := hid (by unfold Nm.flo; rw [← HK.out, ← HM.out, decide_eq_true HX.out, decide_eq_true (show K ≤ 2100 by have := HV.out; omega)]; simp)
   by_cases hL : 8388608 ≤ m
   ·have hL' : (8388608 : Int) ≤ z := by have := HZ.out; omega
    have HBt : Hid (((Nm.flb 24 u : Nat) : Int) = z) := hid (by
     have := HV.out; have := HZ.out
     unfold Nm.flb; rw [← HK.out, ← HM.out, if_pos (by simpa using hL)]; simp; omega)
    have hbd : z < 18446744073709551616 := by have := HV.out; omega
    have hbd0 : 0 ≤ z := by have := HV.out; omega
    have HD : Hid (Nm.flo 24 2139095040 u = decide (z < 2139095040)) := hid (by rw [HO.out, ← HBt.out]; exact decide_eq_decide.2 (by omega))
    clear hL
    go_wp2_with fail
    refine (sP_32 _).mono ?_
    rintro e w8 ⟨rfl, rfl⟩
    go_wp2_with fail
    refine (sP_32 _).mono ?_
    rintro e w8 ⟨rfl, rfl⟩
    go_wp2_with fail
    refine (with_32 _ false _ (fun h => by cases h)).mono ?_
    rintro e w9 ⟨rfl, hb9⟩
    go_wp2_with fail
    refine (spec_inf32 _).mono ?_
    rintro e w10 ⟨rfl, hb10⟩
    go_wp2
    go_ret2
    exact ⟨⟨z, by rw [HD.out]; rfl, fun _ => HBt.out.symm⟩, (by repeat (first | exact bz0 _ _ | refine bz1 ?_ | refine bz2 ?_ _ | refine bz3 ?_ _ | refine bz4 ?_ hb10 | refine bz4 ?_ hb9 | refine bz4 ?_ hb7 | refine bz4 ?_ hbel | refine bz5 ?_ _ | refine bz6 ?_ _ | refine bz7 ?_ hb10 | refine bz7 ?_ hb9 | refine bz7 ?_ hb7 | refine bz7 ?_ hbel))⟩
   ·have hL' : z < (8388608 : Int) := by have := HZ.out; omega
    have HBt : Hid (((Nm.flb 24 u : Nat) : Int) = z) := hid (by
     have := HZ.out
     unfold Nm.flb; rw [← HK.out, ← HM.out, if_neg (by simpa using hL)]; omega)
    have HD : Hid (Nm.flo 24 2139095040 u = decide (z < 2139095040)) := hid (by rw [HO.out, ← HBt.out]; exact decide_eq_decide.2 (by omega))
    clear hL
    go_wp2_with fail
    refine (sP_32 _).mono ?_
    rintro e w8 ⟨rfl, rfl⟩
    go_wp2_with fail
    refine (with_32 _ false _ (fun h => by cases h)).mono ?_
    rintro e w9 ⟨rfl, hb9⟩
    go_wp2_with fail
    refine (spec_inf32 _).mono ?_
    rintro e w10 ⟨rfl, hb10⟩
    go_wp2
    go_ret2
    exact ⟨⟨z, by rw [HD.out]; rfl, fun _ => HBt.out.symm⟩, (by repeat (first | exact bz0 _ _ | refine bz1 ?_ | refine bz2 ?_ _ | refine bz3 ?_ _ | refine bz4 ?_ hb10 | refine bz4 ?_ hb9 | refine bz4 ?_ hb7 | refine bz4 ?_ hbel | refine bz5 ?_ _ | refine bz6 ?_ _ | refine bz7 ?_ hb10 | refine bz7 ?_ hb9 | refine bz7 ?_ hb7 | refine bz7 ?_ hbel))⟩
  ·have hB : (Nm.cmp2 (m * 2 ^ K) u != 0) = true := by rw [bne_iff_ne]; exact fun h => hex (cmp2_eq.1 h)
   have HF : Hid (Nm.flo 24 2139095040 u = false) := hid (by unfold Nm.flo; rw [← HK.out, ← HM.out, decide_eq_false hex]; simp)
   clear hex
   go_wp2
   go_ret2
   exact ⟨⟨0, by rw [HF.out]; rfl, fun h => by rw [HF.out] at h; cases h⟩, (by repeat (first | exact bz0 _ _ | refine bz1 ?_ | refine bz2 ?_ _ | refine bz3 ?_ _ | refine bz4 ?_ hbel | refine bz5 ?_ _ | refine bz6 ?_ _ | refine bz7 ?_ hbel))⟩
 ·have HF : Hid (Nm.flo 24 2139095040 u = false) := hid (by unfold Nm.flo; rw [← hK, decide_eq_false h1]; rfl)
  have h1' : 2100 < (0 : Int) := by omega
  have HK := hid hK
  clear hK hm h1
  go_enter Tryz.func228, Tryz.ntmps228
  go_wp2_with fail
  refine (bits_n u false a c _ (hx.alloc _) (by omega)).mono ?_
  rintro e w1 ⟨rfl, hb1⟩
  go_wp2_with fail
  refine (sP_32 _).mono ?_
  rintro e w2 ⟨rfl, rfl⟩
  go_wp2
  go_ret2
  exact ⟨⟨0, by rw [HF.out]; rfl, fun h => by rw [HF.out] at h; cases h⟩, (by repeat (first | exact bz0 _ _ | refine bz1 ?_ | refine bz2 ?_ _ | refine bz3 ?_ _ | refine bz4 ?_ hb1 | refine bz5 ?_ _ | refine bz6 ?_ _ | refine bz7 ?_ hb1))⟩
theorem l2f_32B (u : Nat) (a : Option Addr) (c : Nat) (w : World) (hx : Sl .u32 w (.slice a (Nm.lim u).length c) (Nm.lim u)) (hl : bitLen u ≤ 90000) (hc : 0 ≤ ((bitLen u : Nat) : Int) - 24) :
  Calls Tryz.prog 228 #[.int .i64 32, .agg #[.bool false, .slice a (Nm.lim u).length c]] w fun e w' => (∃ x : Int, e = .returned (.tuple #[.int .u64 x, .bool (Nm.flo 24 2139095040 u)]) ∧ (Nm.flo 24 2139095040 u = true → x = (Nm.flb 24 u : Nat))) ∧ Below w.heap.size w w' := by
 obtain ⟨K, hK⟩ : ∃ K, K = bitLen u - 24 := ⟨_, rfl⟩
 obtain ⟨m, hm⟩ : ∃ m, m = u / 2 ^ K := ⟨_, rfl⟩
 have hm64 : m < 18446744073709551616 := by have := Nm.flm_lt 24 u; rw [hm, hK]; omega
 obtain ⟨z, hz⟩ : ∃ z : Int, z = (m : Int) := ⟨_, rfl⟩
 have HZ := hid hz
 have z0 : 0 ≤ z := by omega
 have z1 : z < 16777216 := by have := Nm.flm_lt 24 u; rw [← hK, ← hm] at this; omega
 clear hz
 have HV : Hid ((((bitLen u : Nat) : Int) - 24) = (K : Int)) := hid (by omega)
 have HN : Hid ((-(((bitLen u : Nat) : Int) - 24)) = -(K : Int)) := hid (by omega)
 have e1 : Nm.sh u (-(K : Int)) = m := by
  unfold Nm.sh; rw [hm]
  by_cases h0 : K = 0
  ·subst h0; simp
  ·rw [if_pos (by omega)]; simp
 have e2 : Nm.sh m (K : Int) = m * 2 ^ K := by unfold Nm.sh; rw [if_neg (by omega)]; simp
 have HE2 := hid e2
 have HE1 := hid e1
 have hKl : (K : Int) ≤ 90000 := by omega
 clear e1 e2
 by_cases h1 : K ≤ 2100
 ·have h1' : (((bitLen u : Nat) : Int) - 24) ≤ 2100 := by omega
  have hi : ¬ (((bitLen u : Nat) : Int) - 24) > 2100 := by omega
  have HK := hid hK
  have HM := hid hm
  clear hK hm h1
  go_enter Tryz.func228, Tryz.ntmps228
  go_wp2_with fail
  refine (bits_n u false a c _ (hx.alloc _) (by omega)).mono ?_
  rintro e w1 ⟨rfl, hb1⟩
  go_wp2_with fail
  refine (sP_32 _).mono ?_
  rintro e w2 ⟨rfl, rfl⟩
  have x1 := (Box.new w (.bool false) (.slice a (Nm.lim u).length c) 32).below hb1
  obtain ⟨x10, x11⟩ := x1
  have s1 := (hx.alloc _).below hb1
  go_wp2_with fail
  have hsh := shift_n u (-(((bitLen u : Nat) : Int) - 24)) a c _ s1 (by omega) (by omega) (by omega)
  rw [HN.out, HE1.out, ← HN.out] at hsh
  refine hsh.mono ?_
  clear hsh
  rintro e w3 ⟨a3, c3, rfl, ho3, hb3⟩
  have x3 := (Box.below ⟨x10, x11⟩ hb3).alloc (.cells #[.bool false, .slice a3 (Nm.lim m).length c3] 32)
  have m3 := Box.new w3 (.bool false) (.slice a3 (Nm.lim m).length c3) 32
  have s3 := (s1.below hb3).alloc (.cells #[.bool false, .slice a3 (Nm.lim m).length c3] 32)
  have o3 := ho3.sl.alloc (.cells #[.bool false, .slice a3 (Nm.lim m).length c3] 32)
  go_upto_region 5 with fail
  go_cut [26] (fun s wx => s = .bool (Nm.cmp2 (m * 2 ^ K) u != 0) ∧ Box wx w.heap.size (.bool false) (.slice a (Nm.lim u).length c) ∧ Box wx w3.heap.size (.bool false) (.slice a3 (Nm.lim m).length c3) ∧ Sl .u32 wx (.slice a3 (Nm.lim m).length c3) (Nm.lim m) ∧ Below w.heap.size w wx)
  case first =>
   have hsh := fun w' h => shift_n m (((bitLen u : Nat) : Int) - 24) a3 c3 w' h (by have := Nm.bl_mono (Nat.div_le_self u (2 ^ K)); rw [← HM.out] at this; omega) (by omega) (by omega)
   rw [HV.out, HE2.out, ← HV.out] at hsh
   have hcm := fun a4 c4 w' h h' => cmp_n (m * 2 ^ K) u a4 a c4 c w' h h' (by have := Nm.bl_mono (show m * 2 ^ K ≤ u by rw [HM.out]; exact Nat.div_mul_le_self u _); omega) (by omega)
   have HSH := hid hsh; have HCM := hid hcm
   clear hsh hcm
   have x3' := x3; have m3' := m3
   obtain ⟨x30, x31⟩ := x3
   obtain ⟨m30, m31⟩ := m3
   go_region_with (first
    | (go_at_call 80; refine (HSH.out _ o3.drew).mono ?_; rintro e w4 ⟨a4, c4, rfl, ho4, hb4⟩; have x4 := Box.below (w := (w3.alloc (.cells #[.bool false, .slice a3 (Nm.lim m).length c3] 32)).drew) x3' hb4; have m4 := Box.below (w := (w3.alloc (.cells #[.bool false, .slice a3 (Nm.lim m).length c3] 32)).drew) m3' hb4; have s4 := s3.drew.below hb4; have o4 := o3.drew.below hb4; obtain ⟨x40, x41⟩ := x4; obtain ⟨m40, m41⟩ := m4)
    | (go_at_call 85; refine (HCM.out _ _ _ ho4.sl s4).mono ?_; rintro e w5 ⟨rfl, hb5⟩; have x5 := Box.below ⟨x40, x41⟩ hb5; have m5 := Box.below ⟨m40, m41⟩ hb5; have o5 := o4.below hb5))
   all_goals (go_wp2_with fail; go_meet)
   all_goals exact ⟨rfl, x5, m5, o5, (by repeat (first | exact bz0 _ _ | refine bz1 ?_ | refine bz2 ?_ _ | refine bz3 ?_ _ | refine bz4 ?_ hb5 | refine bz4 ?_ hb4 | refine bz4 ?_ hb3 | refine bz4 ?_ hb1 | refine bz5 ?_ _ | refine bz6 ?_ _ | refine bz7 ?_ hb5 | refine bz7 ?_ hb4 | refine bz7 ?_ hb3 | refine bz7 ?_ hb1))⟩
  case rest =>
  obtain ⟨rfl, ⟨x60, x61⟩, ⟨m60, m61⟩, o6, hbel⟩ := hcut
  by_cases hex : m * 2 ^ K = u
  ·have hB : (Nm.cmp2 (m * 2 ^ K) u != 0) = false := by rw [bne_eq_false_iff_eq]; exact cmp2_eq.2 hex
   have HX := hid hex
   clear hex
   go_wp2_with fail
   have hlow := low_n m false a3 c3 _ o6 hm64
   rw [← HZ.out] at hlow
   refine hlow.mono ?_
   clear hlow
   rintro e w7 ⟨rfl, hb7⟩
   obtain ⟨x70, x71⟩ := Box.below ⟨x60, x61⟩ hb7
   have HO : Hid (Nm.flo 24 2139095040 u = decide (Nm.flb 24 u < 2139095040)) := hid (by unfold Nm.flo; rw [← HK.out, ← HM.out, decide_eq_true HX.out, decide_eq_true (show K ≤ 2100 by have := HV.out; omega)]; simp)
   by_cases hL : 8388608 ≤ m
   ·have hL' : (8388608 : Int) ≤ z := by have := HZ.out; omega
    have HBt : Hid (((Nm.flb 24 u : Nat) : Int) = (z + (((bitLen u : Nat) : Int) - 24) * 8388608)) := hid (by
     have := HV.out; have := HZ.out
     unfold Nm.flb; rw [← HK.out, ← HM.out, if_pos (by simpa using hL)]; simp; omega)
    have hbd : (z + (((bitLen u : Nat) : Int) - 24) * 8388608) < 18446744073709551616 := by have := HV.out; omega
    have hbd0 : 0 ≤ (z + (((bitLen u : Nat) : Int) - 24) * 8388608) := by have := HV.out; omega
    have HD : Hid (Nm.flo 24 2139095040 u = decide ((z + (((bitLen u : Nat) : Int) - 24) * 8388608) < 2139095040)) := hid (by rw [HO.out, ← HBt.out]; exact decide_eq_decide.2 (by omega))
    clear hL
    go_wp2_with fail
    refine (sP_32 _).mono ?_
    rintro e w8 ⟨rfl, rfl⟩
    go_wp2_with fail
    refine (sP_32 _).mono ?_
    rintro e w8 ⟨rfl, rfl⟩
    go_wp2_with fail
    refine (with_32 _ false _ (fun h => by cases h)).mono ?_
    rintro e w9 ⟨rfl, hb9⟩
    go_wp2_with fail
    refine (spec_inf32 _).mono ?_
    rintro e w10 ⟨rfl, hb10⟩
    go_wp2
    go_ret2
    exact ⟨⟨(z + (((bitLen u : Nat) : Int) - 24) * 8388608), by rw [HD.out]; rfl, fun _ => HBt.out.symm⟩, (by repeat (first | exact bz0 _ _ | refine bz1 ?_ | refine bz2 ?_ _ | refine bz3 ?_ _ | refine bz4 ?_ hb10 | refine bz4 ?_ hb9 | refine bz4 ?_ hb7 | refine bz4 ?_ hbel | refine bz5 ?_ _ | refine bz6 ?_ _ | refine bz7 ?_ hb10 | refine bz7 ?_ hb9 | refine bz7 ?_ hb7 | refine bz7 ?_ hbel))⟩
   ·have hL' : z < (8388608 : Int) := by have := HZ.out; omega
    have HBt : Hid (((Nm.flb 24 u : Nat) : Int) = z) := hid (by
     have := HZ.out
     unfold Nm.flb; rw [← HK.out, ← HM.out, if_neg (by simpa using hL)]; omega)
    have HD : Hid (Nm.flo 24 2139095040 u = decide (z < 2139095040)) := hid (by rw [HO.out, ← HBt.out]; exact decide_eq_decide.2 (by omega))
    clear hL
    go_wp2_with fail
    refine (sP_32 _).mono ?_
    rintro e w8 ⟨rfl, rfl⟩
    go_wp2_with fail
    refine (with_32 _ false _ (fun h => by cases h)).mono ?_
    rintro e w9 ⟨rfl, hb9⟩
    go_wp2_with fail
    refine (spec_inf32 _).mono ?_
    rintro e w10 ⟨rfl, hb10⟩
    go_wp2
    go_ret2
    exact ⟨⟨z, by rw [HD.out]; rfl, fun _ => HBt.out.symm⟩, (by repeat (first | exact bz0 _ _ | refine bz1 ?_ | refine bz2 ?_ _ | refine bz3 ?_ _ | refine bz4 ?_ hb10 | refine bz4 ?_ hb9 | refine bz4 ?_ hb7 | refine bz4 ?_ hbel | refine bz5 ?_ _ | refine bz6 ?_ _ | refine bz7 ?_ hb10 | refine bz7 ?_ hb9 | refine bz7 ?_ hb7 | refine bz7 ?_ hbel))⟩
  ·have hB : (Nm.cmp2 (m * 2 ^ K) u != 0) = true := by rw [bne_iff_ne]; exact fun h => hex (cmp2_eq.1 h)
   have HF : Hid (Nm.flo 24 2139095040 u = false) := hid (by unfold Nm.flo; rw [← HK.out, ← HM.out, decide_eq_false hex]; simp)
   clear hex
   go_wp2
   go_ret2
   exact ⟨⟨0, by rw [HF.out]; rfl, fun h => by rw [HF.out] at h; cases h⟩, (by repeat (first | exact bz0 _ _ | refine bz1 ?_ | refine bz2 ?_ _ | refine bz3 ?_ _ | refine bz4 ?_ hbel | refine bz5 ?_ _ | refine bz6 ?_ _ | refine bz7 ?_ hbel))⟩
 ·have HF : Hid (Nm.flo 24 2139095040 u = false) := hid (by unfold Nm.flo; rw [← hK, decide_eq_false h1]; rfl)
  have h1' : 2100 < (((bitLen u : Nat) : Int) - 24) := by omega
  have HK := hid hK
  clear hK hm h1
  go_enter Tryz.func228, Tryz.ntmps228
  go_wp2_with fail
  refine (bits_n u false a c _ (hx.alloc _) (by omega)).mono ?_
  rintro e w1 ⟨rfl, hb1⟩
  go_wp2_with fail
  refine (sP_32 _).mono ?_
  rintro e w2 ⟨rfl, rfl⟩
  go_wp2
  go_ret2
  exact ⟨⟨0, by rw [HF.out]; rfl, fun h => by rw [HF.out] at h; cases h⟩, (by repeat (first | exact bz0 _ _ | refine bz1 ?_ | refine bz2 ?_ _ | refine bz3 ?_ _ | refine bz4 ?_ hb1 | refine bz5 ?_ _ | refine bz6 ?_ _ | refine bz7 ?_ hb1))⟩
theorem l2f_64A (u : Nat) (a : Option Addr) (c : Nat) (w : World) (hx : Sl .u32 w (.slice a (Nm.lim u).length c) (Nm.lim u)) (hl : bitLen u ≤ 90000) (hc : ((bitLen u : Nat) : Int) - 53 < 0) :
  Calls Tryz.prog 228 #[.int .i64 64, .agg #[.bool false, .slice a (Nm.lim u).length c]] w fun e w' => (∃ x : Int, e = .returned (.tuple #[.int .u64 x, .bool (Nm.flo 53 9218868437227405312 u)]) ∧ (Nm.flo 53 9218868437227405312 u = true → x = (Nm.flb 53 u : Nat))) ∧ Below w.heap.size w w' := by
 obtain ⟨K, hK⟩ : ∃ K, K = bitLen u - 53 := ⟨_, rfl⟩
 obtain ⟨m, hm⟩ : ∃ m, m = u / 2 ^ K := ⟨_, rfl⟩
 have hm64 : m < 18446744073709551616 := by have := Nm.flm_lt 53 u; rw [hm, hK]; omega
 obtain ⟨z, hz⟩ : ∃ z : Int, z = (m : Int) := ⟨_, rfl⟩
 have HZ := hid hz
 have z0 : 0 ≤ z := by omega
 have z1 : z < 9007199254740992 := by have := Nm.flm_lt 53 u; rw [← hK, ← hm] at this; omega
 clear hz
 have HV : Hid ((0 : Int) = (K : Int)) := hid (by omega)
 have HN : Hid ((0 : Int) = -(K : Int)) := hid (by omega)
 have e1 : Nm.sh u (-(K : Int)) = m := by
  unfold Nm.sh; rw [hm]
  by_cases h0 : K = 0
  ·subst h0; simp
  ·rw [if_pos (by omega)]; simp
 have e2 : Nm.sh m (K : Int) = m * 2 ^ K := by unfold Nm.sh; rw [if_neg (by omega)]; simp
 have HE2 := hid e2
 have HE1 := hid e1
 have hKl : (K : Int) ≤ 90000 := by omega
 clear e1 e2
 by_cases h1 : K ≤ 2100
 ·have h1' : (0 : Int) ≤ 2100 := by omega
  have hi : ¬ (0 : Int) > 2100 := by omega
  have HK := hid hK
  have HM := hid hm
  clear hK hm h1
  go_enter Tryz.func228, Tryz.ntmps228
  go_wp2_with fail
  refine (bits_n u false a c _ (hx.alloc _) (by omega)).mono ?_
  rintro e w1 ⟨rfl, hb1⟩
  go_wp2_with fail
  refine (sP_64 _).mono ?_
  rintro e w2 ⟨rfl, rfl⟩
  have x1 := (Box.new w (.bool false) (.slice a (Nm.lim u).length c) 32).below hb1
  obtain ⟨x10, x11⟩ := x1
  have s1 := (hx.alloc _).below hb1
  go_wp2_with fail
  have hsh := shift_n u (0 : Int) a c _ s1 (by omega) (by omega) (by omega)
  rw [HN.out, HE1.out, ← HN.out] at hsh
  refine hsh.mono ?_
  clear hsh
  rintro e w3 ⟨a3, c3, rfl, ho3, hb3⟩
  have x3 := (Box.below ⟨x10, x11⟩ hb3).alloc (.cells #[.bool false, .slice a3 (Nm.lim m).length c3] 32)
  have m3 := Box.new w3 (.bool false) (.slice a3 (Nm.lim m).length c3) 32
  have s3 := (s1.below hb3).alloc (.cells #[.bool false, .slice a3 (Nm.lim m).length c3] 32)
  have o3 := ho3.sl.alloc (.cells #[.bool false, .slice a3 (Nm.lim m).length c3] 32)
  go_upto_region 5 with fail
  go_cut [26] (fun s wx => s = .bool (Nm.cmp2 (m * 2 ^ K) u != 0) ∧ Box wx w.heap.size (.bool false) (.slice a (Nm.lim u).length c) ∧ Box wx w3.heap.size (.bool false) (.slice a3 (Nm.lim m).length c3) ∧ Sl .u32 wx (.slice a3 (Nm.lim m).length c3) (Nm.lim m) ∧ Below w.heap.size w wx)
  case first =>
   have hsh := fun w' h => shift_n m (0 : Int) a3 c3 w' h (by have := Nm.bl_mono (Nat.div_le_self u (2 ^ K)); rw [← HM.out] at this; omega) (by omega) (by omega)
   rw [HV.out, HE2.out, ← HV.out] at hsh
   have hcm := fun a4 c4 w' h h' => cmp_n (m * 2 ^ K) u a4 a c4 c w' h h' (by have := Nm.bl_mono (show m * 2 ^ K ≤ u by rw [HM.out]; exact Nat.div_mul_le_self u _); omega) (by omega)
   have HSH := hid hsh; have HCM := hid hcm
   clear hsh hcm
   have x3' := x3; have m3' := m3
   obtain ⟨x30, x31⟩ := x3
   obtain ⟨m30, m31⟩ := m3
   go_region_with (first
    | (go_at_call 80; refine (HSH.out _ o3.drew).mono ?_; rintro e w4 ⟨a4, c4, rfl, ho4, hb4⟩; have x4 := Box.below (w := (w3.alloc (.cells #[.bool false, .slice a3 (Nm.lim m).length c3] 32)).drew) x3' hb4; have m4 := Box.below (w := (w3.alloc (.cells #[.bool false, .slice a3 (Nm.lim m).length c3] 32)).drew) m3' hb4; have s4 := s3.drew.below hb4; have o4 := o3.drew.below hb4; obtain ⟨x40, x41⟩ := x4; obtain ⟨m40, m41⟩ := m4)
    | (go_at_call 85; refine (HCM.out _ _ _ ho4.sl s4).mono ?_; rintro e w5 ⟨rfl, hb5⟩; have x5 := Box.below ⟨x40, x41⟩ hb5; have m5 := Box.below ⟨m40, m41⟩ hb5; have o5 := o4.below hb5))
   all_goals (go_wp2_with fail; go_meet)
   all_goals exact ⟨rfl, x5, m5, o5, (by repeat (first | exact bz0 _ _ | refine bz1 ?_ | refine bz2 ?_ _ | refine bz3 ?_ _ | refine bz4 ?_ hb5 | refine bz4 ?_ hb4 | refine bz4 ?_ hb3 | refine bz4 ?_ hb1 | refine bz5 ?_ _ | refine bz6 ?_ _ | refine bz7 ?_ hb5 | refine bz7 ?_ hb4 | refine bz7 ?_ hb3 | refine bz7 ?_ hb1))⟩
  case rest =>
  obtain ⟨rfl, ⟨x60, x61⟩, ⟨m60, m61⟩, o6, hbel⟩ := hcut
  by_cases hex : m * 2 ^ K = u
  ·have hB : (Nm.cmp2 (m * 2 ^ K) u != 0) = false := by rw [bne_eq_false_iff_eq]; exact cmp2_eq.2 hex
   have HX := hid hex
   clear hex
   go_wp2_with fail
   have hlow := low_n m false a3 c3 _ o6 hm64
   rw [← HZ.out] at hlow
   refine hlow.mono ?_
   clear hlow
   rintro e w7 ⟨rfl, hb7⟩
   obtain ⟨x70, x71⟩ := Box.below ⟨x60, x61⟩ hb7
   have HO : Hid (Nm.flo 53 9218868437227405312 u = decide (Nm.flb 53 u < 9218868437227405312)) := hid (by unfold Nm.flo; rw [← HK.out, ← HM.out, decide_eq_true HX.out, decide_eq_true (show K ≤ 2100 by have := HV.out; omega)]; simp)
   by_cases hL : 4503599627370496 ≤ m
   ·have hL' : (4503599627370496 : Int) ≤ z := by have := HZ.out; omega
    have HBt : Hid (((Nm.flb 53 u : Nat) : Int) = z) := hid (by
     have := HV.out; have := HZ.out
     unfold Nm.flb; rw [← HK.out, ← HM.out, if_pos (by simpa using hL)]; simp; omega)
    have hbd : z < 18446744073709551616 := by have := HV.out; omega
    have hbd0 : 0 ≤ z := by have := HV.out; omega
    have HD : Hid (Nm.flo 53 9218868437227405312 u = decide (z < 9218868437227405312)) := hid (by rw [HO.out, ← HBt.out]; exact decide_eq_decide.2 (by omega))
    clear hL
    go_wp2_with fail
    refine (sP_64 _).mono ?_
    rintro e w8 ⟨rfl, rfl⟩
    go_wp2_with fail
    refine (sP_64 _).mono ?_
    rintro e w8 ⟨rfl, rfl⟩
    go_wp2_with fail
    refine (with_64 _ false _ (fun h => by cases h)).mono ?_
    rintro e w9 ⟨rfl, hb9⟩
    go_wp2_with fail
    refine (spec_inf64 _).mono ?_
    rintro e w10 ⟨rfl, hb10⟩
    go_wp2
    go_ret2
    exact ⟨⟨z, by rw [HD.out]; rfl, fun _ => HBt.out.symm⟩, (by repeat (first | exact bz0 _ _ | refine bz1 ?_ | refine bz2 ?_ _ | refine bz3 ?_ _ | refine bz4 ?_ hb10 | refine bz4 ?_ hb9 | refine bz4 ?_ hb7 | refine bz4 ?_ hbel | refine bz5 ?_ _ | refine bz6 ?_ _ | refine bz7 ?_ hb10 | refine bz7 ?_ hb9 | refine bz7 ?_ hb7 | refine bz7 ?_ hbel))⟩
   ·have hL' : z < (4503599627370496 : Int) := by have := HZ.out; omega
    have HBt : Hid (((Nm.flb 53 u : Nat) : Int) = z) := hid (by
     have := HZ.out
     unfold Nm.flb; rw [← HK.out, ← HM.out, if_neg (by simpa using hL)]; omega)
    have HD : Hid (Nm.flo 53 9218868437227405312 u = decide (z < 9218868437227405312)) := hid (by rw [HO.out, ← HBt.out]; exact decide_eq_decide.2 (by omega))
    clear hL
    go_wp2_with fail
    refine (sP_64 _).mono ?_
    rintro e w8 ⟨rfl, rfl⟩
    go_wp2_with fail
    refine (with_64 _ false _ (fun h => by cases h)).mono ?_
    rintro e w9 ⟨rfl, hb9⟩
    go_wp2_with fail
    refine (spec_inf64 _).mono ?_
    rintro e w10 ⟨rfl, hb10⟩
    go_wp2
    go_ret2
    exact ⟨⟨z, by rw [HD.out]; rfl, fun _ => HBt.out.symm⟩, (by repeat (first | exact bz0 _ _ | refine bz1 ?_ | refine bz2 ?_ _ | refine bz3 ?_ _ | refine bz4 ?_ hb10 | refine bz4 ?_ hb9 | refine bz4 ?_ hb7 | refine bz4 ?_ hbel | refine bz5 ?_ _ | refine bz6 ?_ _ | refine bz7 ?_ hb10 | refine bz7 ?_ hb9 | refine bz7 ?_ hb7 | refine bz7 ?_ hbel))⟩
  ·have hB : (Nm.cmp2 (m * 2 ^ K) u != 0) = true := by rw [bne_iff_ne]; exact fun h => hex (cmp2_eq.1 h)
   have HF : Hid (Nm.flo 53 9218868437227405312 u = false) := hid (by unfold Nm.flo; rw [← HK.out, ← HM.out, decide_eq_false hex]; simp)
   clear hex
   go_wp2
   go_ret2
   exact ⟨⟨0, by rw [HF.out]; rfl, fun h => by rw [HF.out] at h; cases h⟩, (by repeat (first | exact bz0 _ _ | refine bz1 ?_ | refine bz2 ?_ _ | refine bz3 ?_ _ | refine bz4 ?_ hbel | refine bz5 ?_ _ | refine bz6 ?_ _ | refine bz7 ?_ hbel))⟩
 ·have HF : Hid (Nm.flo 53 9218868437227405312 u = false) := hid (by unfold Nm.flo; rw [← hK, decide_eq_false h1]; rfl)
  have h1' : 2100 < (0 : Int) := by omega
  have HK := hid hK
  clear hK hm h1
  go_enter Tryz.func228, Tryz.ntmps228
  go_wp2_with fail
  refine (bits_n u false a c _ (hx.alloc _) (by omega)).mono ?_
  rintro e w1 ⟨rfl, hb1⟩
  go_wp2_with fail
  refine (sP_64 _).mono ?_
  rintro e w2 ⟨rfl, rfl⟩
  go_wp2
  go_ret2
  exact ⟨⟨0, by rw [HF.out]; rfl, fun h => by rw [HF.out] at h; cases h⟩, (by repeat (first | exact bz0 _ _ | refine bz1 ?_ | refine bz2 ?_ _ | refine bz3 ?_ _ | refine bz4 ?_ hb1 | refine bz5 ?_ _ | refine bz6 ?_ _ | refine bz7 ?_ hb1))⟩
theorem l2f_64B (u : Nat) (a : Option Addr) (c : Nat) (w : World) (hx : Sl .u32 w (.slice a (Nm.lim u).length c) (Nm.lim u)) (hl : bitLen u ≤ 90000) (hc : 0 ≤ ((bitLen u : Nat) : Int) - 53) :
  Calls Tryz.prog 228 #[.int .i64 64, .agg #[.bool false, .slice a (Nm.lim u).length c]] w fun e w' => (∃ x : Int, e = .returned (.tuple #[.int .u64 x, .bool (Nm.flo 53 9218868437227405312 u)]) ∧ (Nm.flo 53 9218868437227405312 u = true → x = (Nm.flb 53 u : Nat))) ∧ Below w.heap.size w w' := by
 obtain ⟨K, hK⟩ : ∃ K, K = bitLen u - 53 := ⟨_, rfl⟩
 obtain ⟨m, hm⟩ : ∃ m, m = u / 2 ^ K := ⟨_, rfl⟩
 have hm64 : m < 18446744073709551616 := by have := Nm.flm_lt 53 u; rw [hm, hK]; omega
 obtain ⟨z, hz⟩ : ∃ z : Int, z = (m : Int) := ⟨_, rfl⟩
 have HZ := hid hz
 have z0 : 0 ≤ z := by omega
 have z1 : z < 9007199254740992 := by have := Nm.flm_lt 53 u; rw [← hK, ← hm] at this; omega
 clear hz
 have HV : Hid ((((bitLen u : Nat) : Int) - 53) = (K : Int)) := hid (by omega)
 have HN : Hid ((-(((bitLen u : Nat) : Int) - 53)) = -(K : Int)) := hid (by omega)
 have e1 : Nm.sh u (-(K : Int)) = m := by
  unfold Nm.sh; rw [hm]
  by_cases h0 : K = 0
  ·subst h0; simp
  ·rw [if_pos (by omega)]; simp
 have e2 : Nm.sh m (K : Int) = m * 2 ^ K := by unfold Nm.sh; rw [if_neg (by omega)]; simp
 have HE2 := hid e2
 have HE1 := hid e1
 have hKl : (K : Int) ≤ 90000 := by omega
 clear e1 e2
 by_cases h1 : K ≤ 2100
 ·have h1' : (((bitLen u : Nat) : Int) - 53) ≤ 2100 := by omega
  have hi : ¬ (((bitLen u : Nat) : Int) - 53) > 2100 := by omega
  have HK := hid hK
  have HM := hid hm
  clear hK hm h1
  go_enter Tryz.func228, Tryz.ntmps228
  go_wp2_with fail
  refine (bits_n u false a c _ (hx.alloc _) (by omega)).mono ?_
  rintro e w1 ⟨rfl, hb1⟩
  go_wp2_with fail
  refine (sP_64 _).mono ?_
  rintro e w2 ⟨rfl, rfl⟩
  have x1 := (Box.new w (.bool false) (.slice a (Nm.lim u).length c) 32).below hb1
  obtain ⟨x10, x11⟩ := x1
  have s1 := (hx.alloc _).below hb1
  go_wp2_with fail
  have hsh := shift_n u (-(((bitLen u : Nat) : Int) - 53)) a c _ s1 (by omega) (by omega) (by omega)
  rw [HN.out, HE1.out, ← HN.out] at hsh
  refine hsh.mono ?_
  clear hsh
  rintro e w3 ⟨a3, c3, rfl, ho3, hb3⟩
  have x3 := (Box.below ⟨x10, x11⟩ hb3).alloc (.cells #[.bool false, .slice a3 (Nm.lim m).length c3] 32)
  have m3 := Box.new w3 (.bool false) (.slice a3 (Nm.lim m).length c3) 32
  have s3 := (s1.below hb3).alloc (.cells #[.bool false, .slice a3 (Nm.lim m).length c3] 32)
  have o3 := ho3.sl.alloc (.cells #[.bool false, .slice a3 (Nm.lim m).length c3] 32)
  go_upto_region 5 with fail
  go_cut [26] (fun s wx => s = .bool (Nm.cmp2 (m * 2 ^ K) u != 0) ∧ Box wx w.heap.size (.bool false) (.slice a (Nm.lim u).length c) ∧ Box wx w3.heap.size (.bool false) (.slice a3 (Nm.lim m).length c3) ∧ Sl .u32 wx (.slice a3 (Nm.lim m).length c3) (Nm.lim m) ∧ Below w.heap.size w wx)
  case first =>
   have hsh := fun w' h => shift_n m (((bitLen u : Nat) : Int) - 53) a3 c3 w' h (by have := Nm.bl_mono (Nat.div_le_self u (2 ^ K)); rw [← HM.out] at this; omega) (by omega) (by omega)
   rw [HV.out, HE2.out, ← HV.out] at hsh
   have hcm := fun a4 c4 w' h h' => cmp_n (m * 2 ^ K) u a4 a c4 c w' h h' (by have := Nm.bl_mono (show m * 2 ^ K ≤ u by rw [HM.out]; exact Nat.div_mul_le_self u _); omega) (by omega)
   have HSH := hid hsh; have HCM := hid hcm
   clear hsh hcm
   have x3' := x3; have m3' := m3
   obtain ⟨x30, x31⟩ := x3
   obtain ⟨m30, m31⟩ := m3
   go_region_with (first
    | (go_at_call 80; refine (HSH.out _ o3.drew).mono ?_; rintro e w4 ⟨a4, c4, rfl, ho4, hb4⟩; have x4 := Box.below (w := (w3.alloc (.cells #[.bool false, .slice a3 (Nm.lim m).length c3] 32)).drew) x3' hb4; have m4 := Box.below (w := (w3.alloc (.cells #[.bool false, .slice a3 (Nm.lim m).length c3] 32)).drew) m3' hb4; have s4 := s3.drew.below hb4; have o4 := o3.drew.below hb4; obtain ⟨x40, x41⟩ := x4; obtain ⟨m40, m41⟩ := m4)
    | (go_at_call 85; refine (HCM.out _ _ _ ho4.sl s4).mono ?_; rintro e w5 ⟨rfl, hb5⟩; have x5 := Box.below ⟨x40, x41⟩ hb5; have m5 := Box.below ⟨m40, m41⟩ hb5; have o5 := o4.below hb5))
   all_goals (go_wp2_with fail; go_meet)
   all_goals exact ⟨rfl, x5, m5, o5, (by repeat (first | exact bz0 _ _ | refine bz1 ?_ | refine bz2 ?_ _ | refine bz3 ?_ _ | refine bz4 ?_ hb5 | refine bz4 ?_ hb4 | refine bz4 ?_ hb3 | refine bz4 ?_ hb1 | refine bz5 ?_ _ | refine bz6 ?_ _ | refine bz7 ?_ hb5 | refine bz7 ?_ hb4 | refine bz7 ?_ hb3 | refine bz7 ?_ hb1))⟩
  case rest =>
  obtain ⟨rfl, ⟨x60, x61⟩, ⟨m60, m61⟩, o6, hbel⟩ := hcut
  by_cases hex : m * 2 ^ K = u
  ·have hB : (Nm.cmp2 (m * 2 ^ K) u != 0) = false := by rw [bne_eq_false_iff_eq]; exact cmp2_eq.2 hex
   have HX := hid hex
   clear hex
   go_wp2_with fail
   have hlow := low_n m false a3 c3 _ o6 hm64
   rw [← HZ.out] at hlow
   refine hlow.mono ?_
   clear hlow
   rintro e w7 ⟨rfl, hb7⟩
   obtain ⟨x70, x71⟩ := Box.below ⟨x60, x61⟩ hb7
   have HO : Hid (Nm.flo 53 9218868437227405312 u = decide (Nm.flb 53 u < 9218868437227405312)) := hid (by unfold Nm.flo; rw [← HK.out, ← HM.out, decide_eq_true HX.out, decide_eq_true (show K ≤ 2100 by have := HV.out; omega)]; simp)
   by_cases hL : 4503599627370496 ≤ m
   ·have hL' : (4503599627370496 : Int) ≤ z := by have := HZ.out; omega
    have HBt : Hid (((Nm.flb 53 u : Nat) : Int) = (z + (((bitLen u : Nat) : Int) - 53) * 4503599627370496)) := hid (by
     have := HV.out; have := HZ.out
     unfold Nm.flb; rw [← HK.out, ← HM.out, if_pos (by simpa using hL)]; simp; omega)
    have hbd : (z + (((bitLen u : Nat) : Int) - 53) * 4503599627370496) < 18446744073709551616 := by have := HV.out; omega
    have hbd0 : 0 ≤ (z + (((bitLen u : Nat) : Int) - 53) * 4503599627370496) := by have := HV.out; omega
    have HD : Hid (Nm.flo 53 9218868437227405312 u = decide ((z + (((bitLen u : Nat) : Int) - 53) * 4503599627370496) < 9218868437227405312)) := hid (by rw [HO.out, ← HBt.out]; exact decide_eq_decide.2 (by omega))
    clear hL
    go_wp2_with fail
    refine (sP_64 _).mono ?_
    rintro e w8 ⟨rfl, rfl⟩
    go_wp2_with fail
    refine (sP_64 _).mono ?_
    rintro e w8 ⟨rfl, rfl⟩
    go_wp2_with fail
    refine (with_64 _ false _ (fun h => by cases h)).mono ?_
    rintro e w9 ⟨rfl, hb9⟩
    go_wp2_with fail
    refine (spec_inf64 _).mono ?_
    rintro e w10 ⟨rfl, hb10⟩
    go_wp2
    go_ret2
    exact ⟨⟨(z + (((bitLen u : Nat) : Int) - 53) * 4503599627370496), by rw [HD.out]; rfl, fun _ => HBt.out.symm⟩, (by repeat (first | exact bz0 _ _ | refine bz1 ?_ | refine bz2 ?_ _ | refine bz3 ?_ _ | refine bz4 ?_ hb10 | refine bz4 ?_ hb9 | refine bz4 ?_ hb7 | refine bz4 ?_ hbel | refine bz5 ?_ _ | refine bz6 ?_ _ | refine bz7 ?_ hb10 | refine bz7 ?_ hb9 | refine bz7 ?_ hb7 | refine bz7 ?_ hbel))⟩
   ·have hL' : z < (4503599627370496 : Int) := by have := HZ.out; omega
    have HBt : Hid (((Nm.flb 53 u : Nat) : Int) = z) := hid (by
     have := HZ.out
     unfold Nm.flb; rw [← HK.out, ← HM.out, if_neg (by simpa using hL)]; omega)
    have HD : Hid (Nm.flo 53 9218868437227405312 u = decide (z < 9218868437227405312)) := hid (by rw [HO.out, ← HBt.out]; exact decide_eq_decide.2 (by omega))
    clear hL
    go_wp2_with fail
    refine (sP_64 _).mono ?_
    rintro e w8 ⟨rfl, rfl⟩
    go_wp2_with fail
    refine (with_64 _ false _ (fun h => by cases h)).mono ?_
    rintro e w9 ⟨rfl, hb9⟩
    go_wp2_with fail
    refine (spec_inf64 _).mono ?_
    rintro e w10 ⟨rfl, hb10⟩
    go_wp2
    go_ret2
    exact ⟨⟨z, by rw [HD.out]; rfl, fun _ => HBt.out.symm⟩, (by repeat (first | exact bz0 _ _ | refine bz1 ?_ | refine bz2 ?_ _ | refine bz3 ?_ _ | refine bz4 ?_ hb10 | refine bz4 ?_ hb9 | refine bz4 ?_ hb7 | refine bz4 ?_ hbel | refine bz5 ?_ _ | refine bz6 ?_ _ | refine bz7 ?_ hb10 | refine bz7 ?_ hb9 | refine bz7 ?_ hb7 | refine bz7 ?_ hbel))⟩
  ·have hB : (Nm.cmp2 (m * 2 ^ K) u != 0) = true := by rw [bne_iff_ne]; exact fun h => hex (cmp2_eq.1 h)
   have HF : Hid (Nm.flo 53 9218868437227405312 u = false) := hid (by unfold Nm.flo; rw [← HK.out, ← HM.out, decide_eq_false hex]; simp)
   clear hex
   go_wp2
   go_ret2
   exact ⟨⟨0, by rw [HF.out]; rfl, fun h => by rw [HF.out] at h; cases h⟩, (by repeat (first | exact bz0 _ _ | refine bz1 ?_ | refine bz2 ?_ _ | refine bz3 ?_ _ | refine bz4 ?_ hbel | refine bz5 ?_ _ | refine bz6 ?_ _ | refine bz7 ?_ hbel))⟩
 ·have HF : Hid (Nm.flo 53 9218868437227405312 u = false) := hid (by unfold Nm.flo; rw [← hK, decide_eq_false h1]; rfl)
  have h1' : 2100 < (((bitLen u : Nat) : Int) - 53) := by omega
  have HK := hid hK
  clear hK hm h1
  go_enter Tryz.func228, Tryz.ntmps228
  go_wp2_with fail
  refine (bits_n u false a c _ (hx.alloc _) (by omega)).mono ?_
  rintro e w1 ⟨rfl, hb1⟩
  go_wp2_with fail
  refine (sP_64 _).mono ?_
  rintro e w2 ⟨rfl, rfl⟩
  go_wp2
  go_ret2
  exact ⟨⟨0, by rw [HF.out]; rfl, fun h => by rw [HF.out] at h; cases h⟩, (by repeat (first | exact bz0 _ _ | refine bz1 ?_ | refine bz2 ?_ _ | refine bz3 ?_ _ | refine bz4 ?_ hb1 | refine bz5 ?_ _ | refine bz6 ?_ _ | refine bz7 ?_ hb1))⟩
theorem l2f_32 (u : Nat) (a : Option Addr) (c : Nat) (w : World) (hx : Sl .u32 w (.slice a (Nm.lim u).length c) (Nm.lim u)) (hl : bitLen u ≤ 90000) :
  Calls Tryz.prog 228 #[.int .i64 32, .agg #[.bool false, .slice a (Nm.lim u).length c]] w fun e w' => (∃ x : Int, e = .returned (.tuple #[.int .u64 x, .bool (Nm.flo 24 2139095040 u)]) ∧ (Nm.flo 24 2139095040 u = true → x = (Nm.flb 24 u : Nat))) ∧ Below w.heap.size w w' := by
 by_cases hc : ((bitLen u : Nat) : Int) - 24 < 0
 ·exact l2f_32A u a c w hx hl hc
 ·exact l2f_32B u a c w hx hl (by omega)
theorem l2f_64 (u : Nat) (a : Option Addr) (c : Nat) (w : World) (hx : Sl .u32 w (.slice a (Nm.lim u).length c) (Nm.lim u)) (hl : bitLen u ≤ 90000) :
  Calls Tryz.prog 228 #[.int .i64 64, .agg #[.bool false, .slice a (Nm.lim u).length c]] w fun e w' => (∃ x : Int, e = .returned (.tuple #[.int .u64 x, .bool (Nm.flo 53 9218868437227405312 u)]) ∧ (Nm.flo 53 9218868437227405312 u = true → x = (Nm.flb 53 u : Nat))) ∧ Below w.heap.size w w' := by
 by_cases hc : ((bitLen u : Nat) : Int) - 53 < 0
 ·exact l2f_64A u a c w hx hl hc
 ·exact l2f_64B u a c w hx hl (by omega)
def upB (mode : Int) (odd : Bool) (half : Int) (neg : Bool) : Bool :=
 if mode = 0 then decide (0 < half) || (decide (half = 0) && odd) else if mode = 2 then !neg else if mode = 3 then neg else if mode = 4 then decide (0 ≤ half) else if mode = 5 then decide (0 < half) else false
def ovB (mode : Int) (neg : Bool) : Bool := decide (mode = 1) || (decide (mode = 2) && neg) || (decide (mode = 3) && !neg)
theorem mode_cases {m : Int} (h : modeB m = true) : m = 0 ∨ m = 1 ∨ m = 2 ∨ m = 3 ∨ m = 4 ∨ m = 5 := by
 simp [modeB] at h; omega
theorem l3up_any (mode : Int) (odd : Bool) (half : Int) (neg : Bool) (w : World) (h : modeB mode = true) :
  Calls Tryz.prog 83 #[.int .i64 mode, .bool odd, .int .i64 half, .bool neg] w fun e w' => e = .returned (.bool (upB mode odd half neg)) ∧ w' = w := by
 rcases mode_cases h with rfl | rfl | rfl | rfl | rfl | rfl
 ·by_cases h0 : 0 < half
  ·have HR : Hid (upB 0 odd half neg = true) := hid (by simp [upB, h0])
   go_enter Tryz.func83, Tryz.ntmps83
   go_wp2
   go_ret
   exact ⟨ret_bool HR.out.symm, rfl⟩
  ·by_cases h1 : half = 0
   ·subst h1
    have HR : Hid (upB 0 odd 0 neg = odd) := hid (by simp [upB])
    go_enter Tryz.func83, Tryz.ntmps83
    go_wp2
    go_ret
    exact ⟨ret_bool HR.out.symm, rfl⟩
   ·have HR : Hid (upB 0 odd half neg = false) := hid (by simp [upB, h0, h1])
    have h1' : (half == 0) = false := by simpa using h1
    clear h1
    go_enter Tryz.func83, Tryz.ntmps83
    go_wp2
    go_ret
    exact ⟨ret_bool HR.out.symm, rfl⟩
 ·have HR : Hid (upB 1 odd half neg = upB 1 odd half neg) := hid rfl
  go_enter Tryz.func83, Tryz.ntmps83
  go_wp2
  go_ret
  exact ⟨ret_bool (by unfold upB; simp), rfl⟩
 ·have HR : Hid (upB 2 odd half neg = upB 2 odd half neg) := hid rfl
  go_enter Tryz.func83, Tryz.ntmps83
  go_wp2
  go_ret
  exact ⟨ret_bool (by unfold upB; simp), rfl⟩
 ·have HR : Hid (upB 3 odd half neg = upB 3 odd half neg) := hid rfl
  go_enter Tryz.func83, Tryz.ntmps83
  go_wp2
  go_ret
  exact ⟨ret_bool (by unfold upB; simp), rfl⟩
 ·have HR : Hid (upB 4 odd half neg = upB 4 odd half neg) := hid rfl
  go_enter Tryz.func83, Tryz.ntmps83
  go_wp2
  go_ret
  exact ⟨ret_bool (by unfold upB; simp), rfl⟩
 ·have HR : Hid (upB 5 odd half neg = upB 5 odd half neg) := hid rfl
  go_enter Tryz.func83, Tryz.ntmps83
  go_wp2
  go_ret
  exact ⟨ret_bool (by unfold upB; simp), rfl⟩
theorem l3over_32 (mode : Int) (neg : Bool) (w : World) (h : modeB mode = true) :
  Calls Tryz.prog 229 #[.int .i64 32, .int .i64 mode, .bool neg] w fun e w' => e = .returned (.int .u64 (if ovB mode neg then sgn 2147483648 2139095039 neg else sgn 2147483648 2139095040 neg)) ∧ Below w.heap.size w w' := by
 have hinf : infOf 32 = 2139095040 := rfl
 rcases mode_cases h with rfl | rfl | rfl | rfl | rfl | rfl <;> cases neg
 all_goals
  go_enter Tryz.func229, Tryz.ntmps229
  go_wp2_with fail
  have hi := spec_inf32 w
  rw [hinf] at hi
  refine hi.mono ?_
  rintro e w1 ⟨rfl, hb1⟩
  clear hi
  go_wp2_with fail
  refine (with_32 _ _ _ (fun _ => ⟨by decide, by decide⟩)).mono ?_
  rintro e w2 ⟨rfl, hb2⟩
  go_wp2
  go_ret
  exact ⟨rfl, (by repeat (first | exact bz0 _ _ | refine bz1 ?_ | refine bz2 ?_ _ | refine bz3 ?_ _ | refine bz4 ?_ hb2 | refine bz4 ?_ hb1 | refine bz5 ?_ _ | refine bz6 ?_ _ | refine bz7 ?_ hb2 | refine bz7 ?_ hb1))⟩
theorem l3over_64 (mode : Int) (neg : Bool) (w : World) (h : modeB mode = true) :
  Calls Tryz.prog 229 #[.int .i64 64, .int .i64 mode, .bool neg] w fun e w' => e = .returned (.int .u64 (if ovB mode neg then sgn 9223372036854775808 9218868437227405311 neg else sgn 9223372036854775808 9218868437227405312 neg)) ∧ Below w.heap.size w w' := by
 have hinf : infOf 64 = 9218868437227405312 := rfl
 rcases mode_cases h with rfl | rfl | rfl | rfl | rfl | rfl <;> cases neg
 all_goals
  go_enter Tryz.func229, Tryz.ntmps229
  go_wp2_with fail
  have hi := spec_inf64 w
  rw [hinf] at hi
  refine hi.mono ?_
  rintro e w1 ⟨rfl, hb1⟩
  clear hi
  go_wp2_with fail
  refine (with_64 _ _ _ (fun _ => ⟨by decide, by decide⟩)).mono ?_
  rintro e w2 ⟨rfl, hb2⟩
  go_wp2
  go_ret
  exact ⟨rfl, (by repeat (first | exact bz0 _ _ | refine bz1 ?_ | refine bz2 ?_ _ | refine bz3 ?_ _ | refine bz4 ?_ hb2 | refine bz4 ?_ hb1 | refine bz5 ?_ _ | refine bz6 ?_ _ | refine bz7 ?_ hb2 | refine bz7 ?_ hb1))⟩
end Go.Proofs.YtkfjmcdniohljaaGreatDoor
