/-
  What is needed of AccO, SU, SV, FP, FF, RX, WI, BW, DQ, DAa.
-/
import Derived.Test.YtkfjmcdniohljaaGreatDoorF33
import Derived.Test.YtkfjmcdniohljaaGreatDoorF39
import Derived.Test.YtkfjmcdniohljaaGreatDoorF41
import Derived.Test.YtkfjmcdniohljaaGreatDoorF43
set_option maxHeartbeats 16000000
set_option maxRecDepth 1000000
namespace Go.Proofs.YtkfjmcdniohljaaGreatDoor
set_option linter.unusedVariables false
set_option linter.unusedSimpArgs false
open Go.RowKit Go.Deep
theorem Q9.set9 {w : World} {b : Nat} {v0 v1 v2 v3 v4 v5 v6 v7 v8 : Value} (h : Q9 w b v0 v1 v2 v3 v4 v5 v6 v7 v8) (u0 u1 u2 u3 u4 u5 u6 u7 u8 : Value) : Q9 (((((((((w.setCell ⟨b, 0, none⟩ u0).setCell ⟨b, 1, none⟩ u1).setCell ⟨b, 2, none⟩ u2).setCell ⟨b, 3, none⟩ u3).setCell ⟨b, 4, none⟩ u4).setCell ⟨b, 5, none⟩ u5).setCell ⟨b, 6, none⟩ u6).setCell ⟨b, 7, none⟩ u7).setCell ⟨b, 8, none⟩ u8) b u0 u1 u2 u3 u4 u5 u6 u7 u8 := by
 obtain ⟨c0, c1, c2, c3, c4, c5, c6, c7, c8, f0, f1, f2, f3, f4, f5, f6, f7, f8⟩ := h
 exact ⟨by simp [go_sem, c0, c1, c2, c3, c4, c5, c6, c7, c8], by simp [go_sem, c0, c1, c2, c3, c4, c5, c6, c7, c8], by simp [go_sem, c0, c1, c2, c3, c4, c5, c6, c7, c8], by simp [go_sem, c0, c1, c2, c3, c4, c5, c6, c7, c8], by simp [go_sem, c0, c1, c2, c3, c4, c5, c6, c7, c8], by simp [go_sem, c0, c1, c2, c3, c4, c5, c6, c7, c8], by simp [go_sem, c0, c1, c2, c3, c4, c5, c6, c7, c8], by simp [go_sem, c0, c1, c2, c3, c4, c5, c6, c7, c8], by simp [go_sem, c0, c1, c2, c3, c4, c5, c6, c7, c8], by simp [go_sem, f0], by simp [go_sem, f1], by simp [go_sem, f2], by simp [go_sem, f3], by simp [go_sem, f4], by simp [go_sem, f5], by simp [go_sem, f6], by simp [go_sem, f7], by simp [go_sem, f8]⟩
structure MS (w wx : World) (o : Nat) (a1 : Option Addr) (k1 : Nat) (L : List Int) : Prop where
 own : Own wx w.heap.size a1 k1 L
 apart : ∀ g, a1 = some ⟨g, 0, none⟩ → g ≠ o ∧ g ≠ w.heap.size + 1 + 1
 bel : Below w.heap.size w wx
 lo : w.heap.size + 1 + 1 < o
theorem MS.set {w wx : World} {o : Nat} {a1 : Option Addr} {k1 : Nat} {L : List Int} (h : MS w wx o a1 k1 L) (i : Nat) (u : Value) : MS w (wx.setCell ⟨o, i, none⟩ u) o a1 k1 L :=
 ⟨h.own.setOther (fun g e => (h.apart g e).1) u, h.apart, h.bel.setCell (by have := h.lo; simp; omega) u, h.lo⟩
theorem MS.drew {w wx : World} {o : Nat} {a1 : Option Addr} {k1 : Nat} {L : List Int} (h : MS w wx o a1 k1 L) : MS w wx.drew o a1 k1 L := ⟨h.own.drew, h.apart, Below.drew h.bel, h.lo⟩
def St0 : St := ⟨0, 0, false, false, false, false, false⟩
theorem Rt0 {fm : Int} (h : fmtB fm = true) : Rt fm St0 := Rt.mk h rfl (by show (0 : Int).natAbs ≤ _; exact Nat.zero_le _) (fun _ => rfl)
theorem nw_fm {fm : Int} (h : fmtB fm = true) : fm = nwF fm := by
 rcases fmt_cases h with rfl | rfl <;> rfl
theorem Rt.len {fm : Int} {s : St} (h : Rt fm s) : (Nm.wl s.z).length ≤ 200 := (okB_nz (acc_parts h).2.2.1).2
namespace Fd
theorem iNegated (fm x : Int) (w : World) (hT : Tab w) (x0 : 0 ≤ x) (x1 : x < 18446744073709551616) :
  Calls Tryz.prog 50 #[.int .i64 fm, .int .u64 x] w fun e w' => e = .returned (.int .u64 (negF fm x)) ∧ Below w.heap.size w w' := by
 cases ho : okF fm x
 ·have C := hid (fun w' h => impl_ok fm x w' h x0 x1)
  have HR := hid (neg_no ho)
  rw [ho] at C
  clear ho
  go_enter Tryz.func50, Tryz.ntmps50
  go_wp2_with fail
  refine (C.out _ hT).mono ?_
  rintro e w1 ⟨rfl, hb1⟩
  go_wp2
  go_ret
  exact ⟨ret_int HR.out.symm, (by repeat (first | exact bz0 _ _ | refine bz1 ?_ | refine bz2 ?_ _ | refine bz3 ?_ _ | refine bz4 ?_ hb1 | refine bz5 ?_ _ | refine bz6 ?_ _ | refine bz7 ?_ hb1))⟩
 ·rcases okF_cases ho with ⟨rfl, h⟩ | rfl
  ·rw [neg32 h]; exact impl_neg32 x w hT x0 h
  ·rw [neg64]; exact impl_neg64 x w hT x0 x1
theorem rdb_bd {P I : Nat} {q S mode : Int} {ng : Bool} {a : Nat} {e : Int} (h0 : 0 < I) (h1 : (I : Int) < S) : ∃ v : Int, 0 ≤ v ∧ v ≤ I ∧ v < S ∧ rdB P q I S mode ng a e = sgn S v ng := by
 unfold rdB
 by_cases hf : Nm.flo P I (rdU P q mode ng a e) = true
 ·rw [if_pos hf]
  have : Nm.flb P (rdU P q mode ng a e) < I := by
   unfold Nm.flo at hf
   simp only [Bool.and_eq_true, decide_eq_true_eq] at hf
   exact hf.2
  exact ⟨_, by omega, by omega, by omega, rfl⟩
 ·rw [if_neg hf]
  split
  ·exact ⟨_, by omega, by omega, by omega, rfl⟩
  ·exact ⟨_, by omega, by omega, by omega, rfl⟩
theorem Rd_any32 (mode : Int) (ng : Bool) (zs : List Int) (e : Int) (ho : RdO 32 mode ng zs e = true) (hz : ¬ zs.length = 0) :
  RdB 32 mode ng zs e = rdB 24 (-149) 2139095040 2147483648 mode ng (Nm.val zs).toNat e ∧ RdF 32 mode ng zs e = rdF 24 (-149) 2139095040 mode ng (Nm.val zs).toNat e := by
 unfold RdB RdF
 rw [ho, if_pos rfl, if_pos rfl, if_neg hz, if_neg hz, if_pos rfl, if_pos rfl]
 exact ⟨rfl, rfl⟩
theorem sgn_abs32 {v : Int} (h0 : 0 ≤ v) (h1 : v < 2147483648) (ng : Bool) : 0 ≤ sgn 2147483648 v ng ∧ sgn 2147483648 v ng < 4294967296 ∧ absF 32 (sgn 2147483648 v ng) = v := by
 have hb : 0 ≤ sgn 2147483648 v ng ∧ sgn 2147483648 v ng < 4294967296 := by unfold sgn; split <;> omega
 refine ⟨hb.1, hb.2, ?_⟩
 rw [ab32 hb.1 hb.2]
 unfold sgn
 cases ng
 ·simp only [Bool.false_eq_true, if_false]; rw [if_pos h1]
 ·simp only [if_true]; rw [if_neg (by omega)]; omega
theorem Rd_any64 (mode : Int) (ng : Bool) (zs : List Int) (e : Int) (ho : RdO 64 mode ng zs e = true) (hz : ¬ zs.length = 0) :
  RdB 64 mode ng zs e = rdB 53 (-1074) 9218868437227405312 9223372036854775808 mode ng (Nm.val zs).toNat e ∧ RdF 64 mode ng zs e = rdF 53 (-1074) 9218868437227405312 mode ng (Nm.val zs).toNat e := by
 unfold RdB RdF
 rw [ho, if_pos rfl, if_pos rfl, if_neg hz, if_neg hz, if_neg (show ¬ ((64 : Int) = 32) from by decide), if_neg (show ¬ ((64 : Int) = 32) from by decide)]
 exact ⟨rfl, rfl⟩
theorem sgn_abs64 {v : Int} (h0 : 0 ≤ v) (h1 : v < 9223372036854775808) (ng : Bool) : 0 ≤ sgn 9223372036854775808 v ng ∧ sgn 9223372036854775808 v ng < 18446744073709551616 ∧ absF 64 (sgn 9223372036854775808 v ng) = v := by
 have hb : 0 ≤ sgn 9223372036854775808 v ng ∧ sgn 9223372036854775808 v ng < 18446744073709551616 := by unfold sgn; split <;> omega
 refine ⟨hb.1, hb.2, ?_⟩
 rw [ab64 hb.1 hb.2]
 unfold sgn
 cases ng
 ·simp only [Bool.false_eq_true, if_false]; rw [if_pos h1]
 ·simp only [if_true]; rw [if_neg (by omega)]; omega
theorem natAbs_pow (z : Int) (n : Nat) : (z * 2 ^ n).natAbs = z.natAbs * 2 ^ n := by
 rw [Int.natAbs_mul, Int.natAbs_pow]; rfl
end Fd
theorem al_b (w : World) (o : Obj) : Below w.heap.size w (w.alloc o) := (Below.refl _ _).alloc (Nat.le_refl _) _
namespace Fd
structure WO (W : World) (rb m : Nat) (x : Int) (a : Option Addr) (c : Nat) : Prop where
 o : Own W m a c (Nm.wl x)
 hm : rb < m
theorem WO.rd {W W' : World} {rb m : Nat} {x : Int} {a : Option Addr} {c : Nat} (h : WO W rb m x a c) (hg : W.grownBy W' (some rb)) : WO W' rb m x a c := ⟨h.o.rd hg h.hm, h.hm⟩
theorem WO.below {W W' : World} {rb m : Nat} {x : Int} {a : Option Addr} {c : Nat} (h : WO W rb m x a c) (hb : Below W.heap.size W W') : WO W' rb m x a c := ⟨h.o.below hb, h.hm⟩
theorem WO.alloc {W : World} {rb m : Nat} {x : Int} {a : Option Addr} {c : Nat} (h : WO W rb m x a c) (o : Obj) : WO (W.alloc o) rb m x a c := ⟨h.o.alloc o, h.hm⟩
theorem WO.drew {W : World} {rb m : Nat} {x : Int} {a : Option Addr} {c : Nat} (h : WO W rb m x a c) : WO W.drew rb m x a c := ⟨h.o.drew, h.hm⟩
theorem WO.sl {W : World} {rb m : Nat} {x : Int} {a : Option Addr} {c : Nat} (h : WO W rb m x a c) : Sl .u32 W (.slice a (Nm.wl x).length c) (Nm.wl x) := h.o.sl
theorem WO.of {W : World} {rb m B : Nat} {x : Int} {a : Option Addr} {c : Nat} (h : Own W B a c (Nm.wl x)) (hm : rb < m) (hB : m ≤ B) : WO W rb m x a c := ⟨h.base hB, hm⟩
structure WX (W : World) (rb m b : Nat) (x : Int) (a : Option Addr) (c : Nat) : Prop where
 r : R2 W b (.bool (Nm.wn x)) (.slice a (Nm.wl x).length c)
 o : WO W rb m x a c
 lt : rb < b
theorem WX.rd {W W' : World} {rb m b : Nat} {x : Int} {a : Option Addr} {c : Nat} (h : WX W rb m b x a c) (hg : W.grownBy W' (some rb)) : WX W' rb m b x a c := ⟨h.r.rd hg (by have := h.lt; omega), h.o.rd hg, h.lt⟩
theorem WX.below {W W' : World} {rb m b : Nat} {x : Int} {a : Option Addr} {c : Nat} (h : WX W rb m b x a c) (hb : Below W.heap.size W W') : WX W' rb m b x a c := ⟨h.r.below hb, h.o.below hb, h.lt⟩
theorem WX.alloc {W : World} {rb m b : Nat} {x : Int} {a : Option Addr} {c : Nat} (h : WX W rb m b x a c) (o : Obj) : WX (W.alloc o) rb m b x a c := ⟨h.r.alloc o, h.o.alloc o, h.lt⟩
theorem WX.drew {W : World} {rb m b : Nat} {x : Int} {a : Option Addr} {c : Nat} (h : WX W rb m b x a c) : WX W.drew rb m b x a c := ⟨h.r.drew, h.o.drew, h.lt⟩
theorem WX.sl {W : World} {rb m b : Nat} {x : Int} {a : Option Addr} {c : Nat} (h : WX W rb m b x a c) : Sl .u32 W (.slice a (Nm.wl x).length c) (Nm.wl x) := h.o.sl
theorem WX.new {W : World} {rb m : Nat} {x : Int} {a : Option Addr} {c : Nat} (h : WO W rb m x a c) (hlt : rb < W.heap.size) (t : TypeId) : WX (W.alloc (.cells #[.bool (Nm.wn x), .slice a (Nm.wl x).length c] t)) rb m W.heap.size x a c := ⟨R2.new _ _ _ _, h.alloc _, hlt⟩
theorem WX.put {W : World} {rb m b : Nat} {u0 u1 : Value} {x : Int} {a : Option Addr} {c : Nat} (r : R2 W b u0 u1) (h : WO W rb m x a c) (hlt : rb < b) (hn : ∀ g, a = some ⟨g, 0, none⟩ → g ≠ b) : WX ((W.setCell ⟨b, 0, none⟩ (.bool (Nm.wn x))).setCell ⟨b, 1, none⟩ (.slice a (Nm.wl x).length c)) rb m b x a c :=
 ⟨R2.set r _ _, ⟨(h.o.setOther hn _).setOther hn _, h.hm⟩, hlt⟩
structure WZ (W : World) (rb b : Nat) : Prop where
 r : R2 W b (.bool false) (.slice none 0 0)
 lt : rb < b
theorem WZ.rd {W W' : World} {rb b : Nat} (h : WZ W rb b) (hg : W.grownBy W' (some rb)) : WZ W' rb b := ⟨h.r.rd hg (by have := h.lt; omega), h.lt⟩
theorem WZ.below {W W' : World} {rb b : Nat} (h : WZ W rb b) (hb : Below W.heap.size W W') : WZ W' rb b := ⟨h.r.below hb, h.lt⟩
theorem WZ.alloc {W : World} {rb b : Nat} (h : WZ W rb b) (o : Obj) : WZ (W.alloc o) rb b := ⟨h.r.alloc o, h.lt⟩
theorem WZ.drew {W : World} {rb b : Nat} (h : WZ W rb b) : WZ W.drew rb b := ⟨h.r.drew, h.lt⟩
def Row7 (w : World) (B : Nat) : Prop := ∀ j, j < 6 → ∃ d : Int, w.cell? ⟨B, j, none⟩ = some (.int .i64 d) ∧ 0 ≤ d ∧ d < 8
theorem Row7.rd {w w' : World} {B rb : Nat} (h : Row7 w B) (hg : w.grownBy w' (some rb)) (hlt : rb < B) (hB : B < w.heap.size) : Row7 w' B := fun j hj => by
 obtain ⟨d, h1, h2⟩ := h j hj
 have e := hg.block B hB (by simp; omega)
 exact ⟨d, (World.cell?_of_block (a := ⟨B, j, none⟩) e).trans h1, h2⟩
theorem Row7.below {w w' : World} {B : Nat} (h : Row7 w B) (hb : Below w.heap.size w w') (hB : B < w.heap.size) : Row7 w' B := fun j hj => by
 obtain ⟨d, h1, h2⟩ := h j hj
 exact ⟨d, (hb.cell (p := ⟨B, j, none⟩) hB).trans h1, h2⟩
theorem Row7.new (w : World) (t : TypeId) : Row7 (w.alloc (.cells #[.int .i64 0, .int .i64 1, .int .i64 3, .int .i64 4, .int .i64 5, .int .i64 7] t)) w.heap.size := fun k hk => by
 have q := World.cell?_alloc_new w #[.int .i64 0, .int .i64 1, .int .i64 3, .int .i64 4, .int .i64 5, .int .i64 7] t k
 rw [q]
 rcases (show k = 0 ∨ k = 1 ∨ k = 2 ∨ k = 3 ∨ k = 4 ∨ k = 5 by omega) with rfl | rfl | rfl | rfl | rfl | rfl
 ·exact ⟨0, rfl, by decide⟩
 ·exact ⟨1, rfl, by decide⟩
 ·exact ⟨3, rfl, by decide⟩
 ·exact ⟨4, rfl, by decide⟩
 ·exact ⟨5, rfl, by decide⟩
 ·exact ⟨7, rfl, by decide⟩
structure WB0 (W : World) (rb b : Nat) : Prop where
 r : R2 W b (.bool false) (.slice none 0 0)
 ne : b ≠ rb
theorem WB0.rd {W W' : World} {rb b : Nat} (h : WB0 W rb b) (hg : W.grownBy W' (some rb)) : WB0 W' rb b := ⟨h.r.rd hg h.ne, h.ne⟩
theorem WB0.below {W W' : World} {rb b : Nat} (h : WB0 W rb b) (hb : Below W.heap.size W W') : WB0 W' rb b := ⟨h.r.below hb, h.ne⟩
theorem WB0.alloc {W : World} {rb b : Nat} (h : WB0 W rb b) (o : Obj) : WB0 (W.alloc o) rb b := ⟨h.r.alloc o, h.ne⟩
theorem WB0.drew {W : World} {rb b : Nat} (h : WB0 W rb b) : WB0 W.drew rb b := ⟨h.r.drew, h.ne⟩
theorem meas_step (i : Nat) (h : wrap64 (i : Int) = i) : (intOf (Value.int IntKind.i64 (wrap64 (i : Int)))).toNat < (intOf (Value.int IntKind.i64 ((i + 1 : Nat) : Int))).toNat := by
 rw [h]
 show ((i : Int)).toNat < (((i + 1 : Nat) : Int)).toNat
 omega
theorem xor_bd2 (x y : Int) : 0 ≤ bits .xor .u64 x y ∧ bits .xor .u64 x y < 18446744073709551616 := by
 have lo := bits_lo_u64 .xor x y
 have hi := bits_hi_u64 .xor x y
 omega
theorem sign_a (fm : Int) (w : World) (h : fmtB fm = true) :
  Calls Tryz.prog 180 #[.int .i64 fm] w fun e w' => e = .returned (.int .u64 (sgOf fm)) ∧ Below w.heap.size w w' := by
 rcases fmt_cases h with rfl | rfl
 all_goals
  go_enter Tryz.func180, Tryz.ntmps180
  go_wp2
  go_ret
  exact ⟨rfl, (by repeat (first | exact bz0 _ _ | refine bz1 ?_ | refine bz2 ?_ _ | refine bz3 ?_ _ | refine bz5 ?_ _ | refine bz6 ?_ _))⟩
theorem finite_any (fm : Int) (hf : fmtB fm = true) (rb : Nat) (ca : Option Addr) (cc : Nat) (cs : List Int) (w : World) (hr : RD w rb ca cc cs) :
  Calls Tryz.prog 201 #[.pointer (some ⟨rb, 0, none⟩), .int .i64 fm] w fun e w' => ∃ x : Int, e = .returned (.int .u64 x) ∧ 0 ≤ x ∧ x < 18446744073709551616 ∧ RD w' rb ca cc cs ∧ w.grownBy w' (some rb) := by
 rcases fmt_cases hf with rfl | rfl
 ·exact finite32 rb ca cc cs w hr
 ·exact finite64 rb ca cc cs w hr
theorem O8.cell {w : World} {B g c : Nat} {zs : List Int} (h : O8 w B (some ⟨g, 0, none⟩) c zs) : ∀ i, i < zs.length → w.cell? ⟨g, i, none⟩ = some (.int .u64 (zs.getD i 0)) := fun i hi => by
 obtain ⟨-, -, -, h3⟩ := h.sl.cells
 obtain ⟨b, off, e, hc⟩ := h3 (by omega)
 have e1 : (⟨g, 0, none⟩ : Addr) = ⟨b, off, none⟩ := Option.some.inj e
 have e2 : b = g := by have := congrArg Addr.block e1; exact this.symm
 have e3 : off = 0 := by have := congrArg Addr.off e1; exact this.symm
 have := hc i hi
 rwa [e2, e3, Nat.zero_add] at this
theorem O8.ge {w : World} {B g c : Nat} {zs : List Int} (h : O8 w B (some ⟨g, 0, none⟩) c zs) : B ≤ g ∧ g < w.heap.size := by
 rcases h.block with ⟨h1, _⟩ | ⟨g', h1, h2, h3⟩
 ·cases h1
 ·have e : g = g' := by have := Option.some.inj h1; exact congrArg Addr.block this
  omega
theorem D64.snoc {xs : List Int} {x : Int} (h : D64 xs) (x0 : 0 ≤ x) (x1 : x < 18446744073709551616) : D64 (xs ++ [x]) := fun y hy => by
 rcases List.mem_append.1 hy with hy | hy
 ·exact h y hy
 ·have : y = x := by simpa using hy
  omega
theorem O8.rd {w w' : World} {B rb g c : Nat} {zs : List Int} (h : O8 w B (some ⟨g, 0, none⟩) c zs) (hg : w.grownBy w' (some rb)) (hlt : rb < B) : O8 w' B (some ⟨g, 0, none⟩) c zs := h.kept hg (fun g' e k => by
 have e1 : g = g' := congrArg Addr.block (Option.some.inj e)
 have e2 : rb = g' := Option.some.inj k
 have := (O8.ge h).1
 omega)
theorem floats_any (fm : Int) (hf : fmtB fm = true) (most : Int) (m0 : 0 ≤ most) (m1 : most ≤ 20) (rb : Nat) (ca : Option Addr) (cc : Nat) (cs : List Int) (w : World) (hr : RD w rb ca cc cs) :
  Calls Tryz.prog 200 #[.pointer (some ⟨rb, 0, none⟩), .int .i64 fm, .int .i64 most] w fun e w' => ∃ g c xs, e = .returned (.slice (some ⟨g, 0, none⟩) xs.length c) ∧ xs.length ≤ 20 ∧ D64 xs ∧ O8 w' w.heap.size (some ⟨g, 0, none⟩) c xs ∧ RD w' rb ca cc cs ∧ w.grownBy w' (some rb) := by
 obtain ⟨i0, hi, hz0, hz1, hz2⟩ := info_parts info64
 have HI := hid (And.intro hi (And.intro hz0 (And.intro hz1 hz2)))
 clear hi hz0 hz1 hz2
 have hrw := hr.lt
 have CN := hid (fun w' h => finite_any fm hf rb ca cc cs w' h)
 have CL := hid (fun w' h => float_any fm hf rb ca cc cs w' h)
 have CS := hid (fun w' => sign_a fm w' hf)
 have hwm : IntKind.i64.wrap (most + 1) = most + 1 := by rw [IntKind.wrap_i64]; omega
 have hsg : 0 ≤ sgOf fm ∧ sgOf fm < 18446744073709551616 := by unfold sgOf; split <;> omega
 obtain ⟨sg, h_sg⟩ : ∃ q, q = sgOf fm := ⟨_, rfl⟩
 rw [← h_sg] at CS hsg
 clear hf h_sg
 go_enter Tryz.func200, Tryz.ntmps200
 go_wp2_with fail
 have hg4 := grown_alloc (grown_refl w (some rb)) (.cells #[] 22)
 have hr4 := hr.alloc (.cells #[] 22)
 have hO4 : O8 (w.alloc (.cells #[] 22)) w.heap.size (some ⟨w.heap.size, 0, none⟩) 0 [] := o8_buf
 refine (once_any rb ca cc cs 4 _ hr4 (by decide) (by decide)).mono ?_
 rintro e w4 ⟨odd, rfl, hr4', hg4'⟩
 have hO4 := O8.rd hO4 hg4' hrw
 have hg4 := grown_trans hg4 hg4'
 have hr4 := hr4'
 clear hr4' hg4'
 go_wp2_with fail
 refine (below_any rb ca cc cs (most + 1) _ hr4 (by omega) (by omega)).mono ?_
 rintro e w4 ⟨n, rfl, n0, n1, hr4', hg4'⟩
 have hO4 := O8.rd hO4 hg4' hrw
 have hg4 := grown_trans hg4 hg4'
 have hr4 := hr4'
 clear hr4' hg4'
 obtain ⟨n, rfl⟩ := Int.eq_ofNat_of_zero_le n0
 go_wp2_with fail
 go_loopw [7, 9] (fun sl iv wr => ∃ (i g cp : Nat) (os : List Int), iv = .int .i64 i ∧ sl = .slice (some ⟨g, 0, none⟩) os.length cp ∧ os.length + i ≤ 20 ∧ D64 os ∧ O8 wr w.heap.size (some ⟨g, 0, none⟩) cp os ∧ RD wr rb ca cc cs ∧ w.grownBy wr (some rb)) (fun _ iv _ => (intOf iv).toNat)
 case atStart => exact ⟨n, w.heap.size, 0, [], rfl, rfl, (by have : ([] : List Int).length = 0 := rfl; omega), (fun x hx => by cases hx), hO4, hr4, hg4⟩
 case round =>
  clear hO4 hr4 hg4
  obtain ⟨i, g, cp, os, rfl, rfl, hlen, dos, hO4, hr4, hg4⟩ := hrel
  have DOS := hid dos
  clear dos
  cases i with
  | zero =>
   have d0 : decide ((0 : Int) < ((0 : Nat) : Int)) = false := by decide
   go_wp2
   go_ret
   exact ⟨g, cp, os, rfl, by omega, DOS.out, hO4, hr4, hg4⟩
  | succ i =>
   have d1 : decide ((0 : Int) < ((i + 1 : Nat) : Int)) = true := decide_eq_true (by omega)
   have ej : (((i + 1 : Nat) : Int) - 1) = (i : Int) := by omega
   have hol : os.length ≤ 20 := by omega
   have hwi : wrap64 (i : Int) = i := by unfold wrap64; omega
   have HLEN := hid hlen
   clear hlen
   go_wp2_with fail
   refine (CN.out _ hr4).mono ?_
   rintro e w4 ⟨x, rfl, x0, x1, hr4', hg4'⟩
   have hO4 := O8.rd hO4 hg4' hrw
   have hg4 := grown_trans hg4 hg4'
   have hr4 := hr4'
   clear hr4' hg4'
   go_upto_region 7 with fail
   go_cut [29] (fun v29 wx => ∃ b : Bool, v29 = .bool b ∧ O8 wx w.heap.size (some ⟨g, 0, none⟩) cp os ∧ RD wx rb ca cc cs ∧ w.grownBy wx (some rb))
   case first =>
    cases odd
    ·go_wp2_with fail
     go_meet
     exact ⟨false, rfl, hO4, hr4, hg4⟩
    ·go_wp2_with fail
     refine (once_any rb ca cc cs 4 _ hr4 (by decide) (by decide)).mono ?_
     rintro e w4 ⟨bb, rfl, hr4', hg4'⟩
     have hO4 := O8.rd hO4 hg4' hrw
     have hg4 := grown_trans hg4 hg4'
     have hr4 := hr4'
     clear hr4' hg4'
     go_wp2_with fail
     go_meet
     exact ⟨bb, rfl, hO4, hr4, hg4⟩
   case rest =>
   clear hO4 hr4 hg4
   rename World => w4
   obtain ⟨bb, rfl, hO4, hr4, hg4⟩ := hcut
   go_upto_if 29 with fail
   go_cut [10] (fun v10 wx => ∃ x : Int, v10 = .int .u64 x ∧ 0 ≤ x ∧ x < 18446744073709551616 ∧ O8 wx w.heap.size (some ⟨g, 0, none⟩) cp os ∧ RD wx rb ca cc cs ∧ w.grownBy wx (some rb))
   case first =>
    cases bb
    ·go_wp2_with fail
     go_meet
     exact ⟨x, rfl, x0, x1, hO4, hr4, hg4⟩
    ·clear x0 x1
     go_wp2_with fail
     refine (CL.out _ hr4).mono ?_
     rintro e w4 ⟨x, rfl, x0, x1, hr4', hg4'⟩
     have hO4 := O8.rd hO4 hg4' hrw
     have hg4 := grown_trans hg4 hg4'
     have hr4 := hr4'
     clear hr4' hg4'
     go_wp2_with fail
     go_meet
     exact ⟨x, rfl, x0, x1, hO4, hr4, hg4⟩
   case rest =>
   clear x0 x1 hO4 hr4 hg4
   rename World => w4
   obtain ⟨x, rfl, x0, x1, hO4, hr4, hg4⟩ := hcut
   go_upto_region 9 with fail
   go_cut [39] (fun v39 wx => ∃ b : Bool, v39 = .bool b ∧ (b = true → 0 < os.length) ∧ O8 wx w.heap.size (some ⟨g, 0, none⟩) cp os ∧ RD wx rb ca cc cs ∧ w.grownBy wx (some rb))
   case first =>
    rcases Nat.eq_zero_or_pos os.length with hz | hz
    ·have dz : decide ((0 : Int) < (os.length : Int)) = false := decide_eq_false (by omega)
     have dz2 : decide (0 < os.length) = false := decide_eq_false (by omega)
     have HZ := hid hz
     clear hz
     go_wp2_with fail
     go_meet
     exact ⟨false, rfl, (fun h => by cases h), hO4, hr4, hg4⟩
    ·have dz : decide ((0 : Int) < (os.length : Int)) = true := decide_eq_true (by omega)
     have dz2 : decide (0 < os.length) = true := decide_eq_true (by omega)
     go_wp2_with fail
     refine (once_any rb ca cc cs 4 _ hr4 (by decide) (by decide)).mono ?_
     rintro e w4 ⟨b2, rfl, hr4', hg4'⟩
     have hO4 := O8.rd hO4 hg4' hrw
     have hg4 := grown_trans hg4 hg4'
     have hr4 := hr4'
     clear hr4' hg4'
     go_wp2_with fail
     go_meet
     exact ⟨b2, rfl, (fun _ => hz), hO4, hr4, hg4⟩
   case rest =>
   clear hO4 hr4 hg4
   rename World => w4
   obtain ⟨b2, rfl, hb2, hO4, hr4, hg4⟩ := hcut
   go_upto_if 39 with fail
   go_cut [10] (fun v10 wx => ∃ x : Int, v10 = .int .u64 x ∧ 0 ≤ x ∧ x < 18446744073709551616 ∧ O8 wx w.heap.size (some ⟨g, 0, none⟩) cp os ∧ RD wx rb ca cc cs ∧ w.grownBy wx (some rb))
   case first =>
    cases b2
    ·go_wp2_with fail
     go_meet
     exact ⟨x, rfl, x0, x1, hO4, hr4, hg4⟩
    ·have hz := hb2 rfl
     clear x0 x1
     go_upto_region 11 with fail
     have hcell := O8.cell hO4
     have HC := hid hcell
     clear hcell
     refine wp_region_held_drew (S := fun w' => ∀ j, j < os.length → w'.cell? ⟨g, j, none⟩ = some (.int .u64 (os.getD j 0))) (by kernel_rfl) ?_ (fun hHeld => ?_)
     ·exact HC.out
     clear HC
     have hO4 := hO4.drew
     have hr4 := hr4.drew
     have hg4 : w.grownBy w4.drew (some rb) := grown_trans hg4 (grown_below (Below.drew (Below.refl _ _)) _)
     generalize w4.drew = w4 at hO4 hr4 hg4 hHeld ⊢
     refine tk 0 ?_ rfl (Or.inl ⟨by rfl, ?_⟩) ?_
     rotate_left
     ·(intro w hSw; go_simp; try (with_reducible rfl))
     try simp only [Act.put, Ls]
     refine tk 1 ?_ rfl (Or.inl ⟨by rfl, ?_⟩) ?_
     rotate_left
     ·(intro w hSw; go_simp; try (with_reducible rfl))
     try simp only [Act.put, Ls]
     refine tk 2 ?_ rfl (Or.inl ⟨by rfl, ?_⟩) ?_
     rotate_left
     ·(intro w hSw; go_simp; try (with_reducible rfl))
     try simp only [Act.put, Ls]
     refine tk 3 ?_ rfl (Or.inl ⟨by rfl, ?_⟩) ?_
     rotate_left
     ·(intro w hSw; go_simp; try (with_reducible rfl))
     try simp only [Act.put, Ls]
     refine tk 7 ?_ rfl (Or.inl ⟨by rfl, ?_⟩) ?_
     rotate_left
     ·(intro w hSw; go_simp; try (with_reducible rfl))
     try simp only [Act.put, Ls]
     refine rdy 4 rfl (fun K hK => ?_)
     go_simp
     go_at_call 99
     refine (below_any rb ca cc cs os.length _ hr4 (by omega) (by omega)).mono ?_
     rintro e w4 ⟨v, rfl, v0, v1, hr4', hg4'⟩
     have hO4 := O8.rd hO4 hg4' hrw
     have hg4 := grown_trans hg4 hg4'
     have hr4 := hr4'
     clear hr4' hg4'
     obtain ⟨v, rfl⟩ := Int.eq_ofNat_of_zero_le v0
     have hvl : v < os.length := by omega
     obtain ⟨yv, hyv⟩ : ∃ q, q = os.getD v 0 := ⟨_, rfl⟩
     have HYV := hid hyv
     clear hyv
     refine hK.out _ _ ?_ (fun hHeld => ?_)
     ·exact O8.cell hO4
     clear hK K
     try simp only [Act.put, Ls]
     refine tk 5 ?_ rfl (Or.inl ⟨by rfl, ?_⟩) ?_
     rotate_left
     ·(intro w hSw; go_simp; try (with_reducible rfl))
     try simp only [Act.put, Ls]
     refine tk 6 ?_ rfl (Or.inl ⟨by rfl, ?_⟩) ?_
     rotate_left
     ·(intro w hSw; (try dsimp only at hSw); have hSv := hSw v hvl; rw [← HYV.out] at hSv; clear hSw; go_simp; try (with_reducible rfl))
     try simp only [Act.put, Ls]
     refine rdy 8 rfl (fun K hK => ?_)
     go_simp
     go_at_call 180
     refine (CS.out _).mono ?_
     rintro e w4 ⟨rfl, hb⟩
     have hO4 := hO4.below hb
     have hr4 := hr4.below hb
     have hg4 := grown_trans hg4 (grown_below hb _)
     clear hb
     refine hK.out _ _ ?_ (fun hHeld => ?_)
     ·exact O8.cell hO4
     clear hK K
     try simp only [Act.put, Ls]
     refine tk 9 ?_ rfl (Or.inl ⟨by rfl, ?_⟩) ?_
     rotate_left
     ·(intro w hSw; go_simp; try (with_reducible rfl))
     try simp only [Act.put, Ls]
     refine rdy 10 rfl (fun K hK => ?_)
     go_simp
     refine hK.out _ _ ?_ (fun hHeld => ?_)
     ·exact O8.cell hO4
     clear hK K
     try simp only [Act.put, Ls]
     refine wpAnyH_done (by kernel_rfl) ?_ _
     obtain ⟨x, hx⟩ : ∃ q, q = bits .xor .u64 yv sg := ⟨_, rfl⟩
     have hxb := xor_bd2 yv sg
     rw [← hx] at hxb ⊢
     clear hx hvl v0 v1
     obtain ⟨x0, x1⟩ := hxb
     go_wp2_with fail
     go_meet
     exact ⟨x, rfl, x0, x1, hO4, hr4, hg4⟩
   case rest =>
   clear x0 x1 hb2 hO4 hr4 hg4
   rename World => w4
   obtain ⟨x, rfl, x0, x1, hO4, hr4, hg4⟩ := hcut
   have hge := O8.ge hO4
   have lw4 := hg4.size
   have hO5 : w4.ownsRow w.heap.size 22 1 (.slice (some ⟨g, 0, none⟩) os.length cp) os.length (os.map (Value.int .u64)) := hO4
   clear hO4
   go_wp2_with (at_builtin; refine wpList_append_lies _ rfl _ _ 41 rfl w.heap.size 22 i0 (.int .u64 0) 1 8 Tryz.underlying41 HI.out.1 HI.out.2.1 HI.out.2.2.1 HI.out.2.2.2 rfl (by decide) (.slice (some ⟨g, 0, none⟩) os.length cp) os.length (os.map (Value.int .u64)) rfl (hO5.alloc _) ⟨w4.heap.size, 0, none⟩ 1 1 [.int .u64 x] rfl rfl (newsV w4 _) (oneV _) (by decide) (by unfold maxLen; omega) (by omega) (by simp; omega) (w4.heap.size + 1) (by simp) ?_; intro g1 cp1 w6 hown2 hgrow hat hlt2)
   have ho2 : O8 w6 w.heap.size (some ⟨g1, 0, none⟩) cp1 (os ++ [x]) := o8_more hown2
   have hgr : (w4.alloc (.cells #[.int .u64 x] 22)).grownBy w6 (some g) := hgrow
   have hg6 := grown_two (grown_alloc hg4 (.cells #[.int .u64 x] 22)) hgr hge.1
   have hr6 := (hr4.alloc (.cells #[.int .u64 x] 22)).grown hgr (by omega)
   clear hown2 hat hgrow hgr
   go_roundw
   case rel => exact ⟨i, g1, cp1, os ++ [x], by first | simp [hwi] | go_num, by simp, by have := HLEN.out; simp; omega, D64.snoc DOS.out x0 x1, ho2, hr6, hg6⟩
   case measure => exact meas_step i hwi
end Fd
end Go.Proofs.YtkfjmcdniohljaaGreatDoor
