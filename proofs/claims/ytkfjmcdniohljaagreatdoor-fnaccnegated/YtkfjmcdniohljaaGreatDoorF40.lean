/-
  What is needed of LaidB, FD, AccJ, FA.
-/
import Derived.LaidSub
import Derived.MakeChecks
import Derived.Test.YtkfjmcdniohljaaGreatDoorF36
import Derived.Test.YtkfjmcdniohljaaGreatDoorF37
import Derived.Test.YtkfjmcdniohljaaGreatDoorF38
set_option maxHeartbeats 16000000
set_option maxRecDepth 1000000
namespace Go.Proofs.YtkfjmcdniohljaaGreatDoor
set_option linter.unusedVariables false
set_option linter.unusedSimpArgs false
namespace Ld
open Go.RowKit Go.Deep
def zs32 : List Int := Lib.deBruijn32tab.map Int.ofNat
theorem tb32 {W : World} (h : laidMet Tryz.prog [("math/bits.deBruijn32tab", Rows.laid_math_bits_deBruijn32tab)] W) : Tb W 3 Lib.deBruijn32tab := by
 have h' : laidMet Tryz.prog (("math/bits.deBruijn32tab", Lib.tabData .u8 zs32) :: []) W := h
 have hg : Tryz.prog.globalNamed "math/bits.deBruijn32tab" = some 3 := by kernel_rfl
 have ht := Lib.tabIs_of_head (g := 3) (t := 230) (e := 5) (n := 32) hg (by kernel_rfl) Tryz.underlying230 Tryz.underlying5 (by kernel_rfl) (by kernel_rfl) h'
 intro i hi
 have := ht.cell hg i (by simpa [zs32] using hi)
 rw [this]
 congr 2
 unfold zs32
 rw [List.getD_eq_getElem?_getD, List.getElem?_map, List.getD_eq_getElem?_getD, List.getElem?_eq_getElem hi]; rfl
def zs64 : List Int := Lib.deBruijn64tab.map Int.ofNat
theorem tb64 {W : World} (h : laidMet Tryz.prog [("math/bits.deBruijn64tab", Rows.laid_math_bits_deBruijn64tab)] W) : Tb W 4 Lib.deBruijn64tab := by
 have h' : laidMet Tryz.prog (("math/bits.deBruijn64tab", Lib.tabData .u8 zs64) :: []) W := h
 have hg : Tryz.prog.globalNamed "math/bits.deBruijn64tab" = some 4 := by kernel_rfl
 have ht := Lib.tabIs_of_head (g := 4) (t := 231) (e := 5) (n := 64) hg (by kernel_rfl) Tryz.underlying231 Tryz.underlying5 (by kernel_rfl) (by kernel_rfl) h'
 intro i hi
 have := ht.cell hg i (by simpa [zs64] using hi)
 rw [this]
 congr 2
 unfold zs64
 rw [List.getD_eq_getElem?_getD, List.getElem?_map, List.getD_eq_getElem?_getD, List.getElem?_eq_getElem hi]; rfl
theorem three_tabs {W : World} (h : laidMetH Tryz.prog [("math/bits.deBruijn32tab", Rows.laid_math_bits_deBruijn32tab), ("math/bits.deBruijn64tab", Rows.laid_math_bits_deBruijn64tab), ("loop.example/g00672/impl.formSizes", Rows.laid_loop_example_g00672_impl_formSizes)] W) : T3 W := by
 have h : laidMet Tryz.prog _ W := (laidMetH_iff.1 h).1
 have h1 := h.filter (fun x => x.1 == "loop.example/g00672/impl.formSizes")
 have h2 := h.filter (fun x => x.1 == "math/bits.deBruijn64tab")
 have h3 := h.filter (fun x => x.1 == "math/bits.deBruijn32tab")
 exact ⟨⟨table h1, tb64 h2⟩, tb32 h3⟩
end Ld
open Go.RowKit Go.Deep
namespace Fd
theorem big_any (ca : Option Addr) (n cc : Nat) (w : World) (hn : n ≤ 9223372036854775807) (b : Bool) (hb : b = decide (1048576 < n)) :
  Calls Tryz.prog 18 #[.slice ca n cc] w fun e w' => e = .returned (.bool b) ∧ w' = w := by
 by_cases h : 1048576 < n
 ·have HB : Hid (b = true) := hid (by rw [hb]; simpa using h)
  clear hb
  go_enter Tryz.func18, Tryz.ntmps18
  go_wp2
  go_ret
  refine ⟨ret_bool ?_, rfl⟩
  rw [HB.out]
  first | rfl | (simp; omega)
 ·have HB : Hid (b = false) := hid (by rw [hb]; simpa using h)
  clear hb
  go_enter Tryz.func18, Tryz.ntmps18
  go_wp2
  go_ret
  refine ⟨ret_bool ?_, rfl⟩
  rw [HB.out]
  first | rfl | (simp; omega)
theorem same_yes (n : Bool) (a b : Option Addr) (cap cap' : Nat) (xs : List Int) (w : World) (hx : Sl .u32 w (.slice a xs.length cap) xs) (hy : Sl .u32 w (.slice b xs.length cap') xs) (hl : xs.length ≤ 1048576) :
  Calls Tryz.prog 136 #[.agg #[.bool n, .slice a xs.length cap], .agg #[.bool n, .slice b xs.length cap']] w fun e w' => e = .returned (.bool true) ∧ Below w.heap.size w w' := by
 have hbe : (n == n) = true := by simp
 have hle : ((xs.length : Int) != (xs.length : Int)) = false := by simp
 have Bx := (Box.new w (.bool n) (.slice a xs.length cap) 32).alloc (.cells #[.bool n, .slice b xs.length cap'] 32)
 have By := Box.new2 w (.cells #[.bool n, .slice a xs.length cap] 32) (.bool n) (.slice b xs.length cap') 32
 have sx := (hx.alloc (.cells #[.bool n, .slice a xs.length cap] 32)).alloc (.cells #[.bool n, .slice b xs.length cap'] 32)
 have sy := (hy.alloc (.cells #[.bool n, .slice a xs.length cap] 32)).alloc (.cells #[.bool n, .slice b xs.length cap'] 32)
 have hbV : Below w.heap.size w ((w.alloc (.cells #[.bool n, .slice a xs.length cap] 32)).alloc (.cells #[.bool n, .slice b xs.length cap'] 32)) := (by repeat (first | exact bz0 _ _ | refine bz1 ?_ | refine bz2 ?_ _ | refine bz3 ?_ _ | refine bz5 ?_ _ | refine bz6 ?_ _))
 go_enter Tryz.func136, Tryz.ntmps136
 go_wp2_with fail
 generalize (w.alloc (.cells #[.bool n, .slice a xs.length cap] 32)).alloc (.cells #[.bool n, .slice b xs.length cap'] 32) = V at Bx By sx sy hbV ⊢
 go_loopw [5] (fun iv wr => ∃ i : Nat, i ≤ xs.length ∧ iv = .int .i64 i ∧ Below V.heap.size V wr) (fun iv _ => xs.length - (intOf iv).toNat)
 case atStart => exact ⟨0, Nat.zero_le _, rfl, Below.refl _ _⟩
 case round =>
  obtain ⟨i, hi, rfl, hb⟩ := hrel
  obtain ⟨x0, x1⟩ := Bx.below hb
  obtain ⟨y0, y1⟩ := By.below hb
  by_cases hlt : i < xs.length
  ·obtain ⟨-, _, _, h3⟩ := (sx.below hb).cells
   obtain ⟨-, _, _, h4⟩ := (sy.below hb).cells
   obtain ⟨ba, oa, rfl, ha⟩ := h3 (by omega)
   obtain ⟨bb, ob, rfl, hbb⟩ := h4 (by omega)
   have ca := ha i hlt
   have cb := hbb i hlt
   obtain ⟨z, hz⟩ : ∃ z, z = xs.getD i 0 := ⟨_, rfl⟩
   rw [← hz] at ca cb
   clear h3 h4 ha hbb hz
   have hzz : (z != z) = false := by simp
   have k0 : (0 : Int) ≤ (i : Int) := by omega
   have k1 : (i : Int) < (xs.length : Int) := by omega
   have kd : wr.drew.cell? ⟨w.heap.size, 1, none⟩ = some (.slice (some ⟨ba, oa, none⟩) xs.length cap) ∧ wr.drew.cell? ⟨ba, oa + i, none⟩ = some (.int .u32 z) ∧ wr.drew.cell? ⟨w.heap.size + 1, 1, none⟩ = some (.slice (some ⟨bb, ob, none⟩) xs.length cap') ∧ wr.drew.cell? ⟨bb, ob + i, none⟩ = some (.int .u32 z) := ⟨x1, ca, y1, cb⟩
   go_wp2_with fail
   go_region_held3 (fun w' => w'.cell? ⟨w.heap.size, 1, none⟩ = some (.slice (some ⟨ba, oa, none⟩) xs.length cap) ∧ w'.cell? ⟨ba, oa + i, none⟩ = some (.int .u32 z) ∧ w'.cell? ⟨w.heap.size + 1, 1, none⟩ = some (.slice (some ⟨bb, ob, none⟩) xs.length cap') ∧ w'.cell? ⟨bb, ob + i, none⟩ = some (.int .u32 z)) (with_reducible assumption) (fail)
   go_wp2
   go_roundw
   case rel => exact ⟨i + 1, by omega, by go_num, hb.drew⟩
   case measure => simp [intOf]; omega
  ·obtain rfl : i = xs.length := by omega
   go_wp2
   go_ret
   exact ⟨rfl, bel_go hbV hb⟩
theorem bel_rd {w W w' : World} {rb : Nat} (h : Below w.heap.size w W) (hg : W.grownBy w' (some rb)) (hr : w.heap.size ≤ rb) : Below w.heap.size w w' := h.grown hg h.size (fun k hk => by cases hk; exact hr)
theorem format_any (rb : Nat) (ca : Option Addr) (cc : Nat) (cs : List Int) (w : World) (hr : RD w rb ca cc cs) :
  Calls Tryz.prog 117 #[.pointer (some ⟨rb, 0, none⟩)] w fun e w' => ∃ fm : Int, e = .returned (.int .i64 fm) ∧ fmtB fm = true ∧ RD w' rb ca cc cs ∧ w.grownBy w' (some rb) := by
 go_enter Tryz.func117, Tryz.ntmps117
 go_wp2_with fail
 refine (once_any rb ca cc cs 2 _ hr (by decide) (by decide)).mono ?_
 rintro e w1 ⟨v, rfl, hr1, hg1⟩
 cases v
 ·go_wp2
  go_ret
  exact ⟨64, rfl, by decide, hr1, hg1⟩
 ·go_wp2
  go_ret
  exact ⟨32, rfl, by decide, hr1, hg1⟩
end Fd
def arO (fm : Int) (ng : Bool) (zs : List Int) (T : Int) (nn bd pl mi am : Bool) (mode : Int) : Bool := accB fm ng zs T nn bd pl mi am && modeB mode
def arE (fm : Int) : Int := if fm = 32 then -298 else -2148
def arB (fm : Int) (ng : Bool) (zs : List Int) (T : Int) (nn bd pl mi am : Bool) (mode : Int) : Int :=
 if arO fm ng zs T nn bd pl mi am mode then (if fm = 32 then clB 2143289344 2139095040 2147483648 mode T nn bd pl mi am (decide (zs.length = 0)) (RdB 32 mode ng zs (-298)) else clB 9221120237041090560 9218868437227405312 9223372036854775808 mode T nn bd pl mi am (decide (zs.length = 0)) (RdB 64 mode ng zs (-2148))) else 0
def arF (fm : Int) (ng : Bool) (zs : List Int) (T : Int) (nn bd pl mi am : Bool) (mode : Int) : Int :=
 if arO fm ng zs T nn bd pl mi am mode then clF nn bd pl mi (decide (zs.length = 0)) (RdF fm mode ng zs (arE fm)) else 0
theorem ar_no {fm : Int} {ng : Bool} {zs : List Int} {T : Int} {nn bd pl mi am : Bool} {mode : Int} (h : arO fm ng zs T nn bd pl mi am mode = false) : arB fm ng zs T nn bd pl mi am mode = 0 ∧ arF fm ng zs T nn bd pl mi am mode = 0 := by unfold arB arF; rw [h]; exact ⟨rfl, rfl⟩
theorem round_impl_no (fm : Int) (ng : Bool) (T : Int) (nn bd pl mi am : Bool) (p : Option Addr) (cap : Nat) (zs : List Int) (mode : Int) (w : World) (hT : T3 w) (hs : Sl .u32 w (.slice p zs.length cap) zs) (hl : zs.length ≤ 1048576) (hk : arO fm ng zs T nn bd pl mi am mode = false) :
  Calls Tryz.prog 49 #[.agg #[.int .i64 fm, .bool ng, .slice p zs.length cap, .int .i64 T, .bool nn, .bool bd, .bool pl, .bool mi, .bool am], .int .i64 mode] w fun e w' => e = .returned (.tuple #[.int .u64 0, .int .i64 0, .bool false]) ∧ Below w.heap.size w w' := by
 have C := hid (accok_impl fm ng T nn bd pl mi am p cap zs (w.alloc (.cells #[.int .i64 fm, .bool ng, .slice p zs.length cap, .int .i64 T, .bool nn, .bool bd, .bool pl, .bool mi, .bool am] 50)) ((hT.s.f.al _)) (hs.alloc _) hl)
 have CM := hid (fun w' => mode_impl mode w')
 unfold arO at hk
 cases hb : accB fm ng zs T nn bd pl mi am
 ·rw [hb] at C
  clear hb hk
  go_enter Tryz.func49, Tryz.ntmps49
  go_wp2_with fail
  refine C.out.mono ?_
  rintro e w1 ⟨rfl, hb1⟩
  go_wp2
  go_ret3
  exact ⟨rfl, (by repeat (first | exact bz0 _ _ | refine bz1 ?_ | refine bz2 ?_ _ | refine bz3 ?_ _ | refine bz4 ?_ hb1 | refine bz5 ?_ _ | refine bz6 ?_ _ | refine bz7 ?_ hb1))⟩
 ·have hm : modeB mode = false := by rw [hb] at hk; simpa using hk
  rw [hb] at C
  rw [hm] at CM
  clear hb hk hm
  go_enter Tryz.func49, Tryz.ntmps49
  go_wp2_with fail
  refine C.out.mono ?_
  rintro e w1 ⟨rfl, hb1⟩
  go_wp2_with fail
  refine (CM.out _).mono ?_
  rintro e w2 ⟨rfl, rfl⟩
  go_wp2
  go_ret3
  exact ⟨rfl, (by repeat (first | exact bz0 _ _ | refine bz1 ?_ | refine bz2 ?_ _ | refine bz3 ?_ _ | refine bz4 ?_ hb1 | refine bz5 ?_ _ | refine bz6 ?_ _ | refine bz7 ?_ hb1))⟩
theorem rdo_32 {ng : Bool} {zs : List Int} {mode : Int} (hm : modeB mode = true) (ho : okB ng zs = true) : RdO 32 mode ng zs (-298) = true := by unfold RdO; rw [hm, ho]; rfl
theorem round_impl_32 (fm : Int) (ng : Bool) (T : Int) (nn bd pl mi am : Bool) (p : Option Addr) (cap : Nat) (zs : List Int) (mode : Int) (w : World) (hT : T3 w) (hs : Sl .u32 w (.slice p zs.length cap) zs) (hz : Nm.Dg zs) (hl : zs.length ≤ 1048576) (hf : fm = 32) (hk : accB fm ng zs T nn bd pl mi am = true) (hm : modeB mode = true) (X Y : Int) (hX : X = clB 2143289344 2139095040 2147483648 mode T nn bd pl mi am (decide (zs.length = 0)) (RdB 32 mode ng zs (-298))) (hY : Y = clF nn bd pl mi (decide (zs.length = 0)) (RdF 32 mode ng zs (-298))) :
  Calls Tryz.prog 49 #[.agg #[.int .i64 fm, .bool ng, .slice p zs.length cap, .int .i64 T, .bool nn, .bool bd, .bool pl, .bool mi, .bool am], .int .i64 mode] w fun e w' => e = .returned (.tuple #[.int .u64 X, .int .i64 Y, .bool true]) ∧ Below w.heap.size w w' := by
 have C := hid (accok_impl fm ng T nn bd pl mi am p cap zs (w.alloc (.cells #[.int .i64 fm, .bool ng, .slice p zs.length cap, .int .i64 T, .bool nn, .bool bd, .bool pl, .bool mi, .bool am] 50)) (hT.s.f.al _) (hs.alloc _) hl)
 have CM := hid (fun w' => mode_impl mode w')
 have CR := hid (fun w' h h' => mrd_32 T nn bd pl mi am mode ng zs (-298) p cap w' h h' hz hl _ _ rfl rfl (rdo_32 hm (acc_ok hk)))
 have CT := hid (fun w' => tally_any fm ng T nn bd pl mi am p zs.length cap w')
 rw [hk] at C
 rw [hm] at CM
 rw [← hX, ← hY] at CR
 clear hX hY hk hm hz
 subst hf
 go_enter Tryz.func49, Tryz.ntmps49
 go_wp2_with fail
 refine C.out.mono ?_
 rintro e w1 ⟨rfl, hb1⟩
 have q1 := (Q9.new w (.int .i64 32) (.bool ng) (.slice p zs.length cap) (.int .i64 T) (.bool nn) (.bool bd) (.bool pl) (.bool mi) (.bool am) 50).below hb1
 have s1 := (hs.alloc _).below hb1
 have bel1 : Below w.heap.size w w1 := (by repeat (first | exact bz0 _ _ | refine bz1 ?_ | refine bz2 ?_ _ | refine bz3 ?_ _ | refine bz4 ?_ hb1 | refine bz5 ?_ _ | refine bz6 ?_ _ | refine bz7 ?_ hb1))
 clear hb1 C
 go_wp2_with fail
 refine (CM.out _).mono ?_
 rintro e w2 ⟨rfl, rfl⟩
 obtain ⟨c0, c1, c2, c3, c4, c5, c6, c7, c8⟩ := q1.cs
 go_wp2_with fail
 refine (sizes32 _ (hT.below bel1).s.f).mono ?_
 rintro e w3 ⟨rfl, hb3⟩
 clear c0 c1 c2 c3 c4 c5 c6 c7 c8
 have q3 := (q1.below hb3).alloc (.cells #[.int .u64 23, .int .u64 255, .int .i64 (-149)] 121)
 have s3 := (s1.below hb3).alloc (.cells #[.int .u64 23, .int .u64 255, .int .i64 (-149)] 121)
 have z3 := Z3.new w3 (.int .u64 23) (.int .u64 255) (.int .i64 (-149)) 121
 have bel3 := bel_al (bel_go bel1 hb3) (.cells #[.int .u64 23, .int .u64 255, .int .i64 (-149)] 121)
 clear q1 s1 hb3 bel1
 obtain ⟨c0, c1, c2, c3, c4, c5, c6, c7, c8⟩ := q3.cs
 go_wp2_with fail
 refine (CT.out _).mono ?_
 rintro e w4 ⟨rfl, hb4⟩
 clear c0 c1 c2 c3 c4 c5 c6 c7 c8
 have q4 := (q3.below hb4).alloc (.cells #[.int .i64 T, .bool nn, .bool bd, .bool pl, .bool mi, .bool am, .int .i64 32, .bool ng, .slice p zs.length cap] 145)
 have s4 := (s3.below hb4).alloc (.cells #[.int .i64 T, .bool nn, .bool bd, .bool pl, .bool mi, .bool am, .int .i64 32, .bool ng, .slice p zs.length cap] 145)
 have t4 := Q9.new w4 (.int .i64 T) (.bool nn) (.bool bd) (.bool pl) (.bool mi) (.bool am) (.int .i64 32) (.bool ng) (.slice p zs.length cap) 145
 have z4 := Z3.below (Z3.below z3 hb4) ((Below.refl w4.heap.size w4).alloc (Nat.le_refl _) (.cells #[.int .i64 T, .bool nn, .bool bd, .bool pl, .bool mi, .bool am, .int .i64 32, .bool ng, .slice p zs.length cap] 145))
 have bel4 := bel_al (bel_go bel3 hb4) (.cells #[.int .i64 T, .bool nn, .bool bd, .bool pl, .bool mi, .bool am, .int .i64 32, .bool ng, .slice p zs.length cap] 145)
 clear q3 s3 z3 bel3 hb4
 have c0 := q4.c0
 obtain ⟨t0, t1, t2, t3, t4, t5, t6, t7, t8⟩ := t4.cs
 obtain ⟨z0, z1, z2⟩ := z4
 go_wp2_with fail
 refine (CR.out _ (hT.below bel4) s4).mono ?_
 rintro e w5 ⟨rfl, hb5⟩
 go_wp2
 go_ret3
 exact ⟨rfl, bel_go bel4 hb5⟩
theorem rdo_64 {ng : Bool} {zs : List Int} {mode : Int} (hm : modeB mode = true) (ho : okB ng zs = true) : RdO 64 mode ng zs (-2148) = true := by unfold RdO; rw [hm, ho]; rfl
theorem round_impl_64 (fm : Int) (ng : Bool) (T : Int) (nn bd pl mi am : Bool) (p : Option Addr) (cap : Nat) (zs : List Int) (mode : Int) (w : World) (hT : T3 w) (hs : Sl .u32 w (.slice p zs.length cap) zs) (hz : Nm.Dg zs) (hl : zs.length ≤ 1048576) (hf : fm = 64) (hk : accB fm ng zs T nn bd pl mi am = true) (hm : modeB mode = true) (X Y : Int) (hX : X = clB 9221120237041090560 9218868437227405312 9223372036854775808 mode T nn bd pl mi am (decide (zs.length = 0)) (RdB 64 mode ng zs (-2148))) (hY : Y = clF nn bd pl mi (decide (zs.length = 0)) (RdF 64 mode ng zs (-2148))) :
  Calls Tryz.prog 49 #[.agg #[.int .i64 fm, .bool ng, .slice p zs.length cap, .int .i64 T, .bool nn, .bool bd, .bool pl, .bool mi, .bool am], .int .i64 mode] w fun e w' => e = .returned (.tuple #[.int .u64 X, .int .i64 Y, .bool true]) ∧ Below w.heap.size w w' := by
 have C := hid (accok_impl fm ng T nn bd pl mi am p cap zs (w.alloc (.cells #[.int .i64 fm, .bool ng, .slice p zs.length cap, .int .i64 T, .bool nn, .bool bd, .bool pl, .bool mi, .bool am] 50)) (hT.s.f.al _) (hs.alloc _) hl)
 have CM := hid (fun w' => mode_impl mode w')
 have CR := hid (fun w' h h' => mrd_64 T nn bd pl mi am mode ng zs (-2148) p cap w' h h' hz hl _ _ rfl rfl (rdo_64 hm (acc_ok hk)))
 have CT := hid (fun w' => tally_any fm ng T nn bd pl mi am p zs.length cap w')
 rw [hk] at C
 rw [hm] at CM
 rw [← hX, ← hY] at CR
 clear hX hY hk hm hz
 subst hf
 go_enter Tryz.func49, Tryz.ntmps49
 go_wp2_with fail
 refine C.out.mono ?_
 rintro e w1 ⟨rfl, hb1⟩
 have q1 := (Q9.new w (.int .i64 64) (.bool ng) (.slice p zs.length cap) (.int .i64 T) (.bool nn) (.bool bd) (.bool pl) (.bool mi) (.bool am) 50).below hb1
 have s1 := (hs.alloc _).below hb1
 have bel1 : Below w.heap.size w w1 := (by repeat (first | exact bz0 _ _ | refine bz1 ?_ | refine bz2 ?_ _ | refine bz3 ?_ _ | refine bz4 ?_ hb1 | refine bz5 ?_ _ | refine bz6 ?_ _ | refine bz7 ?_ hb1))
 clear hb1 C
 go_wp2_with fail
 refine (CM.out _).mono ?_
 rintro e w2 ⟨rfl, rfl⟩
 obtain ⟨c0, c1, c2, c3, c4, c5, c6, c7, c8⟩ := q1.cs
 go_wp2_with fail
 refine (sizes64 _ (hT.below bel1).s.f).mono ?_
 rintro e w3 ⟨rfl, hb3⟩
 clear c0 c1 c2 c3 c4 c5 c6 c7 c8
 have q3 := (q1.below hb3).alloc (.cells #[.int .u64 52, .int .u64 2047, .int .i64 (-1074)] 121)
 have s3 := (s1.below hb3).alloc (.cells #[.int .u64 52, .int .u64 2047, .int .i64 (-1074)] 121)
 have z3 := Z3.new w3 (.int .u64 52) (.int .u64 2047) (.int .i64 (-1074)) 121
 have bel3 := bel_al (bel_go bel1 hb3) (.cells #[.int .u64 52, .int .u64 2047, .int .i64 (-1074)] 121)
 clear q1 s1 hb3 bel1
 obtain ⟨c0, c1, c2, c3, c4, c5, c6, c7, c8⟩ := q3.cs
 go_wp2_with fail
 refine (CT.out _).mono ?_
 rintro e w4 ⟨rfl, hb4⟩
 clear c0 c1 c2 c3 c4 c5 c6 c7 c8
 have q4 := (q3.below hb4).alloc (.cells #[.int .i64 T, .bool nn, .bool bd, .bool pl, .bool mi, .bool am, .int .i64 64, .bool ng, .slice p zs.length cap] 145)
 have s4 := (s3.below hb4).alloc (.cells #[.int .i64 T, .bool nn, .bool bd, .bool pl, .bool mi, .bool am, .int .i64 64, .bool ng, .slice p zs.length cap] 145)
 have t4 := Q9.new w4 (.int .i64 T) (.bool nn) (.bool bd) (.bool pl) (.bool mi) (.bool am) (.int .i64 64) (.bool ng) (.slice p zs.length cap) 145
 have z4 := Z3.below (Z3.below z3 hb4) ((Below.refl w4.heap.size w4).alloc (Nat.le_refl _) (.cells #[.int .i64 T, .bool nn, .bool bd, .bool pl, .bool mi, .bool am, .int .i64 64, .bool ng, .slice p zs.length cap] 145))
 have bel4 := bel_al (bel_go bel3 hb4) (.cells #[.int .i64 T, .bool nn, .bool bd, .bool pl, .bool mi, .bool am, .int .i64 64, .bool ng, .slice p zs.length cap] 145)
 clear q3 s3 z3 bel3 hb4
 have c0 := q4.c0
 obtain ⟨t0, t1, t2, t3, t4, t5, t6, t7, t8⟩ := t4.cs
 obtain ⟨z0, z1, z2⟩ := z4
 go_wp2_with fail
 refine (CR.out _ (hT.below bel4) s4).mono ?_
 rintro e w5 ⟨rfl, hb5⟩
 go_wp2
 go_ret3
 exact ⟨rfl, bel_go bel4 hb5⟩
theorem ar_yes32 {fm : Int} {ng : Bool} {zs : List Int} {T : Int} {nn bd pl mi am : Bool} {mode : Int} (h : arO fm ng zs T nn bd pl mi am mode = true) (hf : fm = 32) :
  arB fm ng zs T nn bd pl mi am mode = clB 2143289344 2139095040 2147483648 mode T nn bd pl mi am (decide (zs.length = 0)) (RdB 32 mode ng zs (-298)) ∧ arF fm ng zs T nn bd pl mi am mode = clF nn bd pl mi (decide (zs.length = 0)) (RdF 32 mode ng zs (-298)) := by
 unfold arB arF arE; rw [h, if_pos rfl, if_pos rfl, if_pos hf, if_pos hf, hf]; exact ⟨rfl, rfl⟩
theorem ar_yes64 {fm : Int} {ng : Bool} {zs : List Int} {T : Int} {nn bd pl mi am : Bool} {mode : Int} (h : arO fm ng zs T nn bd pl mi am mode = true) (hf : fm = 64) :
  arB fm ng zs T nn bd pl mi am mode = clB 9221120237041090560 9218868437227405312 9223372036854775808 mode T nn bd pl mi am (decide (zs.length = 0)) (RdB 64 mode ng zs (-2148)) ∧ arF fm ng zs T nn bd pl mi am mode = clF nn bd pl mi (decide (zs.length = 0)) (RdF 64 mode ng zs (-2148)) := by
 have h32 : fm ≠ 32 := by omega
 unfold arB arF arE; rw [h, if_pos rfl, if_pos rfl, if_neg h32, if_neg h32, hf]; exact ⟨rfl, rfl⟩
theorem round_impl (fm : Int) (ng : Bool) (T : Int) (nn bd pl mi am : Bool) (p : Option Addr) (cap : Nat) (zs : List Int) (mode : Int) (w : World) (hT : T3 w) (hs : Sl .u32 w (.slice p zs.length cap) zs) (hz : Nm.Dg zs) (hl : zs.length ≤ 1048576) :
  Calls Tryz.prog 49 #[.agg #[.int .i64 fm, .bool ng, .slice p zs.length cap, .int .i64 T, .bool nn, .bool bd, .bool pl, .bool mi, .bool am], .int .i64 mode] w fun e w' => e = .returned (.tuple #[.int .u64 (arB fm ng zs T nn bd pl mi am mode), .int .i64 (arF fm ng zs T nn bd pl mi am mode), .bool (arO fm ng zs T nn bd pl mi am mode)]) ∧ Below w.heap.size w w' := by
 cases hk : arO fm ng zs T nn bd pl mi am mode
 ·rw [(ar_no hk).1, (ar_no hk).2]; exact round_impl_no fm ng T nn bd pl mi am p cap zs mode w hT hs hl hk
 ·have hk' := hk
  unfold arO at hk'
  simp only [Bool.and_eq_true] at hk'
  rcases acc_fm hk'.1 with hf | hf
  ·exact round_impl_32 fm ng T nn bd pl mi am p cap zs mode w hT hs hz hl hf hk'.1 hk'.2 _ _ (ar_yes32 hk hf).1 (ar_yes32 hk hf).2
  ·exact round_impl_64 fm ng T nn bd pl mi am p cap zs mode w hT hs hz hl hf hk'.1 hk'.2 _ _ (ar_yes64 hk hf).1 (ar_yes64 hk hf).2
theorem unq_bd (fm : Int) : -1074 ≤ unQ fm ∧ unQ fm ≤ -149 := by unfold unQ; split <;> omega
theorem shz (z n : Int) (h : 0 ≤ n) : Nm.shV (Nm.wn z) (Nm.val (Nm.wl z)) n = z * 2 ^ n.toNat := by
 rw [Nm.val_wl, shV_sg]
 have e : ((Nm.sh z.natAbs n : Nat) : Int) = (z.natAbs : Int) * 2 ^ n.toNat := by unfold Nm.sh; rw [if_neg (by omega), Int.natCast_mul, Int.natCast_pow]; rfl
 rw [e]
 unfold Nm.wn
 by_cases hz : z < 0
 ·rw [decide_eq_true hz, if_pos rfl, ← Int.neg_mul]; congr 1; omega
 ·rw [decide_eq_false hz, if_neg (by decide)]; congr 1; omega
end Go.Proofs.YtkfjmcdniohljaaGreatDoor
