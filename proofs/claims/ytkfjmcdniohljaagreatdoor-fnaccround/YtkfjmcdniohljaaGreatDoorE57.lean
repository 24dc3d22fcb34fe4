/-
  What is needed of LaidB, AccJ, LAr.
-/
import Derived.Test.YtkfjmcdniohljaaGreatDoorE47
import Derived.Test.YtkfjmcdniohljaaGreatDoorE49
set_option maxHeartbeats 16000000
set_option maxRecDepth 1000000
namespace Go.Proofs.YtkfjmcdniohljaaGreatDoor
set_option linter.unusedVariables false
set_option linter.unusedSimpArgs false
namespace Ld
open Go.RowKit Go.Deep
def zs32 : List Int := Lib.deBruijn32tab.map Int.ofNat
theorem tb32 {W : World} (h : laidMet Tryz.prog [("math/bits.deBruijn32tab", Rows.laid_math_bits_deBruijn32tab)] W) : Tb W 3 Lib.deBruijn32tab := by
  have h' : laidMet Tryz.prog (("math/bits.deBruijn32tab", Lib.tabData .u8 zs32) :: []) W := h
  have hg : Tryz.prog.globalNamed "math/bits.deBruijn32tab" = some 3 := by kernel_rfl
  have ht := Lib.tabIs_of_head (g := 3) (t := 230) (e := 5) (n := 32) hg (by kernel_rfl) Tryz.underlying230 Tryz.underlying5 (by kernel_rfl) (by kernel_rfl) h'
  intro i hi
  have := ht.cell hg i (by simpa [zs32] using hi)
  rw [this]
  congr 2
  unfold zs32
  rw [List.getD_eq_getElem?_getD, List.getElem?_map, List.getD_eq_getElem?_getD, List.getElem?_eq_getElem hi]; rfl
def zs64 : List Int := Lib.deBruijn64tab.map Int.ofNat
theorem tb64 {W : World} (h : laidMet Tryz.prog [("math/bits.deBruijn64tab", Rows.laid_math_bits_deBruijn64tab)] W) : Tb W 4 Lib.deBruijn64tab := by
  have h' : laidMet Tryz.prog (("math/bits.deBruijn64tab", Lib.tabData .u8 zs64) :: []) W := h
  have hg : Tryz.prog.globalNamed "math/bits.deBruijn64tab" = some 4 := by kernel_rfl
  have ht := Lib.tabIs_of_head (g := 4) (t := 231) (e := 5) (n := 64) hg (by kernel_rfl) Tryz.underlying231 Tryz.underlying5 (by kernel_rfl) (by kernel_rfl) h'
  intro i hi
  have := ht.cell hg i (by simpa [zs64] using hi)
  rw [this]
  congr 2
  unfold zs64
  rw [List.getD_eq_getElem?_getD, List.getElem?_map, List.getD_eq_getElem?_getD, List.getElem?_eq_getElem hi]; rfl
theorem three_tabs {W : World} (h : laidMetH Tryz.prog [("math/bits.deBruijn32tab", Rows.laid_math_bits_deBruijn32tab), ("math/bits.deBruijn64tab", Rows.laid_math_bits_deBruijn64tab), ("loop.example/g00672/impl.formSizes", Rows.laid_loop_example_g00672_impl_formSizes)] W) : T3 W := by
  have h : laidMet Tryz.prog _ W := (laidMetH_iff.1 h).1
  have h1 := h.filter (fun x => x.1 == "loop.example/g00672/impl.formSizes")
  have h2 := h.filter (fun x => x.1 == "math/bits.deBruijn64tab")
  have h3 := h.filter (fun x => x.1 == "math/bits.deBruijn32tab")
  exact ⟨⟨table h1, tb64 h2⟩, tb32 h3⟩
end Ld
open Go.RowKit Go.Deep
def arO (fm : Int) (ng : Bool) (zs : List Int) (T : Int) (nn bd pl mi am : Bool) (mode : Int) : Bool := accB fm ng zs T nn bd pl mi am && modeB mode
def arE (fm : Int) : Int := if fm = 32 then -298 else -2148
def arB (fm : Int) (ng : Bool) (zs : List Int) (T : Int) (nn bd pl mi am : Bool) (mode : Int) : Int :=
  if arO fm ng zs T nn bd pl mi am mode then (if fm = 32 then clB 2143289344 2139095040 2147483648 mode T nn bd pl mi am (decide (zs.length = 0)) (RdB 32 mode ng zs (-298)) else clB 9221120237041090560 9218868437227405312 9223372036854775808 mode T nn bd pl mi am (decide (zs.length = 0)) (RdB 64 mode ng zs (-2148))) else 0
def arF (fm : Int) (ng : Bool) (zs : List Int) (T : Int) (nn bd pl mi am : Bool) (mode : Int) : Int :=
  if arO fm ng zs T nn bd pl mi am mode then clF nn bd pl mi (decide (zs.length = 0)) (RdF fm mode ng zs (arE fm)) else 0
theorem ar_no {fm : Int} {ng : Bool} {zs : List Int} {T : Int} {nn bd pl mi am : Bool} {mode : Int} (h : arO fm ng zs T nn bd pl mi am mode = false) : arB fm ng zs T nn bd pl mi am mode = 0 ∧ arF fm ng zs T nn bd pl mi am mode = 0 := by unfold arB arF; rw [h]; exact ⟨rfl, rfl⟩
theorem round_impl_no (fm : Int) (ng : Bool) (T : Int) (nn bd pl mi am : Bool) (p : Option Addr) (cap : Nat) (zs : List Int) (mode : Int) (w : World) (hT : T3 w) (hs : Sl .u32 w (.slice p zs.length cap) zs) (hl : zs.length ≤ 1048576) (hk : arO fm ng zs T nn bd pl mi am mode = false) :
    Calls Tryz.prog 49 #[.agg #[.int .i64 fm, .bool ng, .slice p zs.length cap, .int .i64 T, .bool nn, .bool bd, .bool pl, .bool mi, .bool am], .int .i64 mode] w fun e w' => e = .returned (.tuple #[.int .u64 0, .int .i64 0, .bool false]) ∧ Below w.heap.size w w' := by
  have C := hid (accok_impl fm ng T nn bd pl mi am p cap zs (w.alloc (.cells #[.int .i64 fm, .bool ng, .slice p zs.length cap, .int .i64 T, .bool nn, .bool bd, .bool pl, .bool mi, .bool am] 50)) ((hT.s.f.al _)) (hs.alloc _) hl)
  have CM := hid (fun w' => mode_impl mode w')
  unfold arO at hk
  cases hb : accB fm ng zs T nn bd pl mi am
  · rw [hb] at C
    clear hb hk
    go_enter Tryz.func49, Tryz.ntmps49
    go_wp2_with fail
    refine C.out.mono ?_
    rintro e w1 ⟨rfl, hb1⟩
    go_wp2
    go_ret3
    exact ⟨rfl, (by repeat (first | exact bz0 _ _ | refine bz1 ?_ | refine bz2 ?_ _ | refine bz3 ?_ _ | refine bz4 ?_ hb1 | refine bz5 ?_ _ | refine bz6 ?_ _ | refine bz7 ?_ hb1))⟩
  · have hm : modeB mode = false := by rw [hb] at hk; simpa using hk
    rw [hb] at C
    rw [hm] at CM
    clear hb hk hm
    go_enter Tryz.func49, Tryz.ntmps49
    go_wp2_with fail
    refine C.out.mono ?_
    rintro e w1 ⟨rfl, hb1⟩
    go_wp2_with fail
    refine (CM.out _).mono ?_
    rintro e w2 ⟨rfl, rfl⟩
    go_wp2
    go_ret3
    exact ⟨rfl, (by repeat (first | exact bz0 _ _ | refine bz1 ?_ | refine bz2 ?_ _ | refine bz3 ?_ _ | refine bz4 ?_ hb1 | refine bz5 ?_ _ | refine bz6 ?_ _ | refine bz7 ?_ hb1))⟩
theorem rdo_32 {ng : Bool} {zs : List Int} {mode : Int} (hm : modeB mode = true) (ho : okB ng zs = true) : RdO 32 mode ng zs (-298) = true := by unfold RdO; rw [hm, ho]; rfl
theorem round_impl_32 (fm : Int) (ng : Bool) (T : Int) (nn bd pl mi am : Bool) (p : Option Addr) (cap : Nat) (zs : List Int) (mode : Int) (w : World) (hT : T3 w) (hs : Sl .u32 w (.slice p zs.length cap) zs) (hz : Nm.Dg zs) (hl : zs.length ≤ 1048576) (hf : fm = 32) (hk : accB fm ng zs T nn bd pl mi am = true) (hm : modeB mode = true) (X Y : Int) (hX : X = clB 2143289344 2139095040 2147483648 mode T nn bd pl mi am (decide (zs.length = 0)) (RdB 32 mode ng zs (-298))) (hY : Y = clF nn bd pl mi (decide (zs.length = 0)) (RdF 32 mode ng zs (-298))) :
    Calls Tryz.prog 49 #[.agg #[.int .i64 fm, .bool ng, .slice p zs.length cap, .int .i64 T, .bool nn, .bool bd, .bool pl, .bool mi, .bool am], .int .i64 mode] w fun e w' => e = .returned (.tuple #[.int .u64 X, .int .i64 Y, .bool true]) ∧ Below w.heap.size w w' := by
  have C := hid (accok_impl fm ng T nn bd pl mi am p cap zs (w.alloc (.cells #[.int .i64 fm, .bool ng, .slice p zs.length cap, .int .i64 T, .bool nn, .bool bd, .bool pl, .bool mi, .bool am] 50)) (hT.s.f.al _) (hs.alloc _) hl)
  have CM := hid (fun w' => mode_impl mode w')
  have CR := hid (fun w' h h' => mrd_32 T nn bd pl mi am mode ng zs (-298) p cap w' h h' hz hl _ _ rfl rfl (rdo_32 hm (acc_ok hk)))
  have CT := hid (fun w' => tally_any fm ng T nn bd pl mi am p zs.length cap w')
  rw [hk] at C
  rw [hm] at CM
  rw [← hX, ← hY] at CR
  clear hX hY hk hm hz
  subst hf
  go_enter Tryz.func49, Tryz.ntmps49
  go_wp2_with fail
  refine C.out.mono ?_
  rintro e w1 ⟨rfl, hb1⟩
  have q1 := (Q9.new w (.int .i64 32) (.bool ng) (.slice p zs.length cap) (.int .i64 T) (.bool nn) (.bool bd) (.bool pl) (.bool mi) (.bool am) 50).below hb1
  have s1 := (hs.alloc _).below hb1
  have bel1 : Below w.heap.size w w1 := (by repeat (first | exact bz0 _ _ | refine bz1 ?_ | refine bz2 ?_ _ | refine bz3 ?_ _ | refine bz4 ?_ hb1 | refine bz5 ?_ _ | refine bz6 ?_ _ | refine bz7 ?_ hb1))
  clear hb1 C
  go_wp2_with fail
  refine (CM.out _).mono ?_
  rintro e w2 ⟨rfl, rfl⟩
  obtain ⟨c0, c1, c2, c3, c4, c5, c6, c7, c8⟩ := q1.cs
  go_wp2_with fail
  refine (sizes32 _ (hT.below bel1).s.f).mono ?_
  rintro e w3 ⟨rfl, hb3⟩
  clear c0 c1 c2 c3 c4 c5 c6 c7 c8
  have q3 := (q1.below hb3).alloc (.cells #[.int .u64 23, .int .u64 255, .int .i64 (-149)] 121)
  have s3 := (s1.below hb3).alloc (.cells #[.int .u64 23, .int .u64 255, .int .i64 (-149)] 121)
  have z3 := Z3.new w3 (.int .u64 23) (.int .u64 255) (.int .i64 (-149)) 121
  have bel3 := bel_al (bel_go bel1 hb3) (.cells #[.int .u64 23, .int .u64 255, .int .i64 (-149)] 121)
  clear q1 s1 hb3 bel1
  obtain ⟨c0, c1, c2, c3, c4, c5, c6, c7, c8⟩ := q3.cs
  go_wp2_with fail
  refine (CT.out _).mono ?_
  rintro e w4 ⟨rfl, hb4⟩
  clear c0 c1 c2 c3 c4 c5 c6 c7 c8
  have q4 := (q3.below hb4).alloc (.cells #[.int .i64 T, .bool nn, .bool bd, .bool pl, .bool mi, .bool am, .int .i64 32, .bool ng, .slice p zs.length cap] 145)
  have s4 := (s3.below hb4).alloc (.cells #[.int .i64 T, .bool nn, .bool bd, .bool pl, .bool mi, .bool am, .int .i64 32, .bool ng, .slice p zs.length cap] 145)
  have t4 := Q9.new w4 (.int .i64 T) (.bool nn) (.bool bd) (.bool pl) (.bool mi) (.bool am) (.int .i64 32) (.bool ng) (.slice p zs.length cap) 145
  have z4 := Z3.below (Z3.below z3 hb4) ((Below.refl w4.heap.size w4).alloc (Nat.le_refl _) (.cells #[.int .i64 T, .bool nn, .bool bd, .bool pl, .bool mi, .bool am, .int .i64 32, .bool ng, .slice p zs.length cap] 145))
  have bel4 := bel_al (bel_go bel3 hb4) (.cells #[.int .i64 T, .bool nn, .bool bd, .bool pl, .bool mi, .bool am, .int .i64 32, .bool ng, .slice p zs.length cap] 145)
  clear q3 s3 z3 bel3 hb4
  have c0 := q4.c0
  obtain ⟨t0, t1, t2, t3, t4, t5, t6, t7, t8⟩ := t4.cs
  obtain ⟨z0, z1, z2⟩ := z4
  go_wp2_with fail
  refine (CR.out _ (hT.below bel4) s4).mono ?_
  rintro e w5 ⟨rfl, hb5⟩
  go_wp2
  go_ret3
  exact ⟨rfl, bel_go bel4 hb5⟩
theorem rdo_64 {ng : Bool} {zs : List Int} {mode : Int} (hm : modeB mode = true) (ho : okB ng zs = true) : RdO 64 mode ng zs (-2148) = true := by unfold RdO; rw [hm, ho]; rfl
theorem round_impl_64 (fm : Int) (ng : Bool) (T : Int) (nn bd pl mi am : Bool) (p : Option Addr) (cap : Nat) (zs : List Int) (mode : Int) (w : World) (hT : T3 w) (hs : Sl .u32 w (.slice p zs.length cap) zs) (hz : Nm.Dg zs) (hl : zs.length ≤ 1048576) (hf : fm = 64) (hk : accB fm ng zs T nn bd pl mi am = true) (hm : modeB mode = true) (X Y : Int) (hX : X = clB 9221120237041090560 9218868437227405312 9223372036854775808 mode T nn bd pl mi am (decide (zs.length = 0)) (RdB 64 mode ng zs (-2148))) (hY : Y = clF nn bd pl mi (decide (zs.length = 0)) (RdF 64 mode ng zs (-2148))) :
    Calls Tryz.prog 49 #[.agg #[.int .i64 fm, .bool ng, .slice p zs.length cap, .int .i64 T, .bool nn, .bool bd, .bool pl, .bool mi, .bool am], .int .i64 mode] w fun e w' => e = .returned (.tuple #[.int .u64 X, .int .i64 Y, .bool true]) ∧ Below w.heap.size w w' := by
  have C := hid (accok_impl fm ng T nn bd pl mi am p cap zs (w.alloc (.cells #[.int .i64 fm, .bool ng, .slice p zs.length cap, .int .i64 T, .bool nn, .bool bd, .bool pl, .bool mi, .bool am] 50)) (hT.s.f.al _) (hs.alloc _) hl)
  have CM := hid (fun w' => mode_impl mode w')
  have CR := hid (fun w' h h' => mrd_64 T nn bd pl mi am mode ng zs (-2148) p cap w' h h' hz hl _ _ rfl rfl (rdo_64 hm (acc_ok hk)))
  have CT := hid (fun w' => tally_any fm ng T nn bd pl mi am p zs.length cap w')
  rw [hk] at C
  rw [hm] at CM
  rw [← hX, ← hY] at CR
  clear hX hY hk hm hz
  subst hf
  go_enter Tryz.func49, Tryz.ntmps49
  go_wp2_with fail
  refine C.out.mono ?_
  rintro e w1 ⟨rfl, hb1⟩
  have q1 := (Q9.new w (.int .i64 64) (.bool ng) (.slice p zs.length cap) (.int .i64 T) (.bool nn) (.bool bd) (.bool pl) (.bool mi) (.bool am) 50).below hb1
  have s1 := (hs.alloc _).below hb1
  have bel1 : Below w.heap.size w w1 := (by repeat (first | exact bz0 _ _ | refine bz1 ?_ | refine bz2 ?_ _ | refine bz3 ?_ _ | refine bz4 ?_ hb1 | refine bz5 ?_ _ | refine bz6 ?_ _ | refine bz7 ?_ hb1))
  clear hb1 C
  go_wp2_with fail
  refine (CM.out _).mono ?_
  rintro e w2 ⟨rfl, rfl⟩
  obtain ⟨c0, c1, c2, c3, c4, c5, c6, c7, c8⟩ := q1.cs
  go_wp2_with fail
  refine (sizes64 _ (hT.below bel1).s.f).mono ?_
  rintro e w3 ⟨rfl, hb3⟩
  clear c0 c1 c2 c3 c4 c5 c6 c7 c8
  have q3 := (q1.below hb3).alloc (.cells #[.int .u64 52, .int .u64 2047, .int .i64 (-1074)] 121)
  have s3 := (s1.below hb3).alloc (.cells #[.int .u64 52, .int .u64 2047, .int .i64 (-1074)] 121)
  have z3 := Z3.new w3 (.int .u64 52) (.int .u64 2047) (.int .i64 (-1074)) 121
  have bel3 := bel_al (bel_go bel1 hb3) (.cells #[.int .u64 52, .int .u64 2047, .int .i64 (-1074)] 121)
  clear q1 s1 hb3 bel1
  obtain ⟨c0, c1, c2, c3, c4, c5, c6, c7, c8⟩ := q3.cs
  go_wp2_with fail
  refine (CT.out _).mono ?_
  rintro e w4 ⟨rfl, hb4⟩
  clear c0 c1 c2 c3 c4 c5 c6 c7 c8
  have q4 := (q3.below hb4).alloc (.cells #[.int .i64 T, .bool nn, .bool bd, .bool pl, .bool mi, .bool am, .int .i64 64, .bool ng, .slice p zs.length cap] 145)
  have s4 := (s3.below hb4).alloc (.cells #[.int .i64 T, .bool nn, .bool bd, .bool pl, .bool mi, .bool am, .int .i64 64, .bool ng, .slice p zs.length cap] 145)
  have t4 := Q9.new w4 (.int .i64 T) (.bool nn) (.bool bd) (.bool pl) (.bool mi) (.bool am) (.int .i64 64) (.bool ng) (.slice p zs.length cap) 145
  have z4 := Z3.below (Z3.below z3 hb4) ((Below.refl w4.heap.size w4).alloc (Nat.le_refl _) (.cells #[.int .i64 T, .bool nn, .bool bd, .bool pl, .bool mi, .bool am, .int .i64 64, .bool ng, .slice p zs.length cap] 145))
  have bel4 := bel_al (bel_go bel3 hb4) (.cells #[.int .i64 T, .bool nn, .bool bd, .bool pl, .bool mi, .bool am, .int .i64 64, .bool ng, .slice p zs.length cap] 145)
  clear q3 s3 z3 bel3 hb4
  have c0 := q4.c0
  obtain ⟨t0, t1, t2, t3, t4, t5, t6, t7, t8⟩ := t4.cs
  obtain ⟨z0, z1, z2⟩ := z4
  go_wp2_with fail
  refine (CR.out _ (hT.below bel4) s4).mono ?_
  rintro e w5 ⟨rfl, hb5⟩
  go_wp2
  go_ret3
  exact ⟨rfl, bel_go bel4 hb5⟩
theorem ar_yes32 {fm : Int} {ng : Bool} {zs : List Int} {T : Int} {nn bd pl mi am : Bool} {mode : Int} (h : arO fm ng zs T nn bd pl mi am mode = true) (hf : fm = 32) :
    arB fm ng zs T nn bd pl mi am mode = clB 2143289344 2139095040 2147483648 mode T nn bd pl mi am (decide (zs.length = 0)) (RdB 32 mode ng zs (-298)) ∧ arF fm ng zs T nn bd pl mi am mode = clF nn bd pl mi (decide (zs.length = 0)) (RdF 32 mode ng zs (-298)) := by
  unfold arB arF arE; rw [h, if_pos rfl, if_pos rfl, if_pos hf, if_pos hf, hf]; exact ⟨rfl, rfl⟩
theorem ar_yes64 {fm : Int} {ng : Bool} {zs : List Int} {T : Int} {nn bd pl mi am : Bool} {mode : Int} (h : arO fm ng zs T nn bd pl mi am mode = true) (hf : fm = 64) :
    arB fm ng zs T nn bd pl mi am mode = clB 9221120237041090560 9218868437227405312 9223372036854775808 mode T nn bd pl mi am (decide (zs.length = 0)) (RdB 64 mode ng zs (-2148)) ∧ arF fm ng zs T nn bd pl mi am mode = clF nn bd pl mi (decide (zs.length = 0)) (RdF 64 mode ng zs (-2148)) := by
  have h32 : fm ≠ 32 := by omega
  unfold arB arF arE; rw [h, if_pos rfl, if_pos rfl, if_neg h32, if_neg h32, hf]; exact ⟨rfl, rfl⟩
theorem round_impl (fm : Int) (ng : Bool) (T : Int) (nn bd pl mi am : Bool) (p : Option Addr) (cap : Nat) (zs : List Int) (mode : Int) (w : World) (hT : T3 w) (hs : Sl .u32 w (.slice p zs.length cap) zs) (hz : Nm.Dg zs) (hl : zs.length ≤ 1048576) :
    Calls Tryz.prog 49 #[.agg #[.int .i64 fm, .bool ng, .slice p zs.length cap, .int .i64 T, .bool nn, .bool bd, .bool pl, .bool mi, .bool am], .int .i64 mode] w fun e w' => e = .returned (.tuple #[.int .u64 (arB fm ng zs T nn bd pl mi am mode), .int .i64 (arF fm ng zs T nn bd pl mi am mode), .bool (arO fm ng zs T nn bd pl mi am mode)]) ∧ Below w.heap.size w w' := by
  cases hk : arO fm ng zs T nn bd pl mi am mode
  · rw [(ar_no hk).1, (ar_no hk).2]; exact round_impl_no fm ng T nn bd pl mi am p cap zs mode w hT hs hl hk
  · have hk' := hk
    unfold arO at hk'
    simp only [Bool.and_eq_true] at hk'
    rcases acc_fm hk'.1 with hf | hf
    · exact round_impl_32 fm ng T nn bd pl mi am p cap zs mode w hT hs hz hl hf hk'.1 hk'.2 _ _ (ar_yes32 hk hf).1 (ar_yes32 hk hf).2
    · exact round_impl_64 fm ng T nn bd pl mi am p cap zs mode w hT hs hz hl hf hk'.1 hk'.2 _ _ (ar_yes64 hk hf).1 (ar_yes64 hk hf).2
namespace Fd
theorem ar_is {F : Int} {ng : Bool} {zs : List Int} {T : Int} {nn bd pl mi am : Bool} {m : Int} (h : arO F ng zs T nn bd pl mi am m = true) :
    fmtB F = true ∧ (nn = false → pl = false → mi = false → zs.length ≠ 0 → RdO F m ng zs (2 * unQ F) = true ∧ arB F ng zs T nn bd pl mi am m = RdB F m ng zs (2 * unQ F) ∧ arF F ng zs T nn bd pl mi am m = RdF F m ng zs (2 * unQ F)) := by
  have h' := h
  unfold arO at h'
  obtain ⟨h1, h2⟩ := (Bool.and_eq_true _ _).mp h'
  obtain ⟨hf, hk, ho, -⟩ := acc_parts h1
  refine ⟨hf, fun e1 e2 e3 e4 => ?_⟩
  subst e1 e2 e3
  have hb : bd = false := by
    cases bd
    · rfl
    · unfold mkB at hk; simp at hk
  subst hb
  have hz : decide (zs.length = 0) = false := decide_eq_false e4
  rcases fmt_cases hf with rfl | rfl
  · obtain ⟨e1, e2⟩ := ar_yes32 h rfl
    rw [e1, e2, hz]
    exact ⟨rdo_32 h2 ho, rfl, rfl⟩
  · obtain ⟨e1, e2⟩ := ar_yes64 h rfl
    rw [e1, e2, hz]
    exact ⟨rdo_64 h2 ho, rfl, rfl⟩
end Fd
end Go.Proofs.YtkfjmcdniohljaaGreatDoor
