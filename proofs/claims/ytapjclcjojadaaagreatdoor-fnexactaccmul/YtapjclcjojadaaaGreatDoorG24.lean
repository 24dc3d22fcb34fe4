/-
  Several texts in one: AccJ, VecB, VecC, WideW.
-/
import Derived.Test.YtapjclcjojadaaaGreatDoorG23
import Derived.Test.YtapjclcjojadaaaGreatDoorG22
import Derived.Deep.RegionHeld3
import Derived.Test.YtapjclcjojadaaaGreatDoorG03
/-
  An accumulator rounded, at every argument, by both; the law.
-/
namespace Go.Proofs.YtapjclcjojadaaaGreatDoor
set_option linter.unusedVariables false
set_option linter.unusedSimpArgs false
open Go.RowKit Go.Deep
def arO (fm : Int) (ng : Bool) (zs : List Int) (T : Int) (nn bd pl mi am : Bool) (mode : Int) : Bool := accB fm ng zs T nn bd pl mi am && modeB mode
def arE (fm : Int) : Int := if fm = 32 then -298 else -2148
def arB (fm : Int) (ng : Bool) (zs : List Int) (T : Int) (nn bd pl mi am : Bool) (mode : Int) : Int :=
  if arO fm ng zs T nn bd pl mi am mode then (if fm = 32 then clB 2143289344 2139095040 2147483648 mode T nn bd pl mi am (decide (zs.length = 0)) (RdB 32 mode ng zs (-298)) else clB 9221120237041090560 9218868437227405312 9223372036854775808 mode T nn bd pl mi am (decide (zs.length = 0)) (RdB 64 mode ng zs (-2148))) else 0
def arF (fm : Int) (ng : Bool) (zs : List Int) (T : Int) (nn bd pl mi am : Bool) (mode : Int) : Int :=
  if arO fm ng zs T nn bd pl mi am mode then clF nn bd pl mi (decide (zs.length = 0)) (RdF fm mode ng zs (arE fm)) else 0
theorem ar_no {fm : Int} {ng : Bool} {zs : List Int} {T : Int} {nn bd pl mi am : Bool} {mode : Int} (h : arO fm ng zs T nn bd pl mi am mode = false) : arB fm ng zs T nn bd pl mi am mode = 0 ∧ arF fm ng zs T nn bd pl mi am mode = 0 := by unfold arB arF; rw [h]; exact ⟨rfl, rfl⟩
set_option maxHeartbeats 4000000 in
set_option maxRecDepth 100000 in
theorem round_spec_no (fm : Int) (ng : Bool) (T : Int) (nn bd pl mi am : Bool) (p : Option Addr) (cap : Nat) (zs : List Int) (mode : Int) (w : World) (hs : Sl .u32 w (.slice p zs.length cap) zs) (hl : zs.length ≤ 1048576) (hk : arO fm ng zs T nn bd pl mi am mode = false) :
    Calls Tryz.prog 144 #[.agg #[.int .i64 fm, .bool ng, .slice p zs.length cap, .int .i64 T, .bool nn, .bool bd, .bool pl, .bool mi, .bool am], .int .i64 mode] w fun e w' => e = .returned (.tuple #[.int .u64 0, .int .i64 0, .bool false]) ∧ Below w.heap.size w w' := by
  have C := hid (accok_spec fm ng T nn bd pl mi am p cap zs (w.alloc (.cells #[.int .i64 fm, .bool ng, .slice p zs.length cap, .int .i64 T, .bool nn, .bool bd, .bool pl, .bool mi, .bool am] 31)) (hs.alloc _) hl)
  have CM := hid (fun w' => mode_spec mode w')
  unfold arO at hk
  cases hb : accB fm ng zs T nn bd pl mi am
  · rw [hb] at C
    clear hb hk
    go_enter Tryz.func144, Tryz.ntmps144
    go_wp2_with fail
    refine C.out.mono ?_
    rintro e w1 ⟨rfl, hb1⟩
    go_wp2
    go_ret3
    exact ⟨rfl, (by repeat (first | exact Below.refl _ _ | refine Below.drew ?_ | refine bel_dn ?_ _ | refine bel_al ?_ _ | refine bel_go ?_ hb1 | refine Below.setCell ?_ (by first | omega | (simp; done) | (simp; omega)) _ | refine Below.alloc ?_ (by first | omega | (simp; done) | (simp; omega)) _ | refine Below.trans ?_ (Below.mono hb1 (by first | omega | (simp; done) | (simp; omega)))))⟩
  · have hm : modeB mode = false := by rw [hb] at hk; simpa using hk
    rw [hb] at C
    rw [hm] at CM
    clear hb hk hm
    go_enter Tryz.func144, Tryz.ntmps144
    go_wp2_with fail
    refine C.out.mono ?_
    rintro e w1 ⟨rfl, hb1⟩
    go_wp2_with fail
    refine (CM.out _).mono ?_
    rintro e w2 ⟨rfl, rfl⟩
    go_wp2
    go_ret3
    exact ⟨rfl, (by repeat (first | exact Below.refl _ _ | refine Below.drew ?_ | refine bel_dn ?_ _ | refine bel_al ?_ _ | refine bel_go ?_ hb1 | refine Below.setCell ?_ (by first | omega | (simp; done) | (simp; omega)) _ | refine Below.alloc ?_ (by first | omega | (simp; done) | (simp; omega)) _ | refine Below.trans ?_ (Below.mono hb1 (by first | omega | (simp; done) | (simp; omega)))))⟩
set_option maxHeartbeats 4000000 in
set_option maxRecDepth 100000 in
theorem round_impl_no (fm : Int) (ng : Bool) (T : Int) (nn bd pl mi am : Bool) (p : Option Addr) (cap : Nat) (zs : List Int) (mode : Int) (w : World) (hT : T3 w) (hs : Sl .u32 w (.slice p zs.length cap) zs) (hl : zs.length ≤ 1048576) (hk : arO fm ng zs T nn bd pl mi am mode = false) :
    Calls Tryz.prog 147 #[.agg #[.int .i64 fm, .bool ng, .slice p zs.length cap, .int .i64 T, .bool nn, .bool bd, .bool pl, .bool mi, .bool am], .int .i64 mode] w fun e w' => e = .returned (.tuple #[.int .u64 0, .int .i64 0, .bool false]) ∧ Below w.heap.size w w' := by
  have C := hid (accok_impl fm ng T nn bd pl mi am p cap zs (w.alloc (.cells #[.int .i64 fm, .bool ng, .slice p zs.length cap, .int .i64 T, .bool nn, .bool bd, .bool pl, .bool mi, .bool am] 31)) ((hT.s.f.al _)) (hs.alloc _) hl)
  have CM := hid (fun w' => mode_impl mode w')
  unfold arO at hk
  cases hb : accB fm ng zs T nn bd pl mi am
  · rw [hb] at C
    clear hb hk
    go_enter Tryz.func147, Tryz.ntmps147
    go_wp2_with fail
    refine C.out.mono ?_
    rintro e w1 ⟨rfl, hb1⟩
    go_wp2
    go_ret3
    exact ⟨rfl, (by repeat (first | exact Below.refl _ _ | refine Below.drew ?_ | refine bel_dn ?_ _ | refine bel_al ?_ _ | refine bel_go ?_ hb1 | refine Below.setCell ?_ (by first | omega | (simp; done) | (simp; omega)) _ | refine Below.alloc ?_ (by first | omega | (simp; done) | (simp; omega)) _ | refine Below.trans ?_ (Below.mono hb1 (by first | omega | (simp; done) | (simp; omega)))))⟩
  · have hm : modeB mode = false := by rw [hb] at hk; simpa using hk
    rw [hb] at C
    rw [hm] at CM
    clear hb hk hm
    go_enter Tryz.func147, Tryz.ntmps147
    go_wp2_with fail
    refine C.out.mono ?_
    rintro e w1 ⟨rfl, hb1⟩
    go_wp2_with fail
    refine (CM.out _).mono ?_
    rintro e w2 ⟨rfl, rfl⟩
    go_wp2
    go_ret3
    exact ⟨rfl, (by repeat (first | exact Below.refl _ _ | refine Below.drew ?_ | refine bel_dn ?_ _ | refine bel_al ?_ _ | refine bel_go ?_ hb1 | refine Below.setCell ?_ (by first | omega | (simp; done) | (simp; omega)) _ | refine Below.alloc ?_ (by first | omega | (simp; done) | (simp; omega)) _ | refine Below.trans ?_ (Below.mono hb1 (by first | omega | (simp; done) | (simp; omega)))))⟩
theorem sQB_32 (w : World) : Calls Tryz.prog 61 #[.int .i64 32] w fun e w' => e = .returned (.int .i64 (-149)) ∧ Below w.heap.size w w' :=
  (sQ_32 w).mono fun e w' ⟨h, h'⟩ => ⟨h, h' ▸ Below.refl _ _⟩
theorem rdo_32 {ng : Bool} {zs : List Int} {mode : Int} (hm : modeB mode = true) (ho : okB ng zs = true) : RdO 32 mode ng zs (-298) = true := by unfold RdO; rw [hm, ho]; rfl
set_option maxHeartbeats 4000000 in
set_option maxRecDepth 100000 in
theorem round_impl_32 (fm : Int) (ng : Bool) (T : Int) (nn bd pl mi am : Bool) (p : Option Addr) (cap : Nat) (zs : List Int) (mode : Int) (w : World) (hT : T3 w) (hs : Sl .u32 w (.slice p zs.length cap) zs) (hz : Nm.Dg zs) (hl : zs.length ≤ 1048576) (hf : fm = 32) (hk : accB fm ng zs T nn bd pl mi am = true) (hm : modeB mode = true) (X Y : Int) (hX : X = clB 2143289344 2139095040 2147483648 mode T nn bd pl mi am (decide (zs.length = 0)) (RdB 32 mode ng zs (-298))) (hY : Y = clF nn bd pl mi (decide (zs.length = 0)) (RdF 32 mode ng zs (-298))) :
    Calls Tryz.prog 147 #[.agg #[.int .i64 fm, .bool ng, .slice p zs.length cap, .int .i64 T, .bool nn, .bool bd, .bool pl, .bool mi, .bool am], .int .i64 mode] w fun e w' => e = .returned (.tuple #[.int .u64 X, .int .i64 Y, .bool true]) ∧ Below w.heap.size w w' := by
  have C := hid (accok_impl fm ng T nn bd pl mi am p cap zs (w.alloc (.cells #[.int .i64 fm, .bool ng, .slice p zs.length cap, .int .i64 T, .bool nn, .bool bd, .bool pl, .bool mi, .bool am] 31)) (hT.s.f.al _) (hs.alloc _) hl)
  have CM := hid (fun w' => mode_impl mode w')
  have CR := hid (fun w' h h' => mrd_32 T nn bd pl mi am mode ng zs (-298) p cap w' h h' hz hl _ _ rfl rfl (rdo_32 hm (acc_ok hk)))
  have CT := hid (fun w' => tally_any fm ng T nn bd pl mi am p zs.length cap w')
  rw [hk] at C
  rw [hm] at CM
  rw [← hX, ← hY] at CR
  clear hX hY hk hm hz
  subst hf
  go_enter Tryz.func147, Tryz.ntmps147
  go_wp2_with fail
  refine C.out.mono ?_
  rintro e w1 ⟨rfl, hb1⟩
  have q1 := (Q9.new w (.int .i64 32) (.bool ng) (.slice p zs.length cap) (.int .i64 T) (.bool nn) (.bool bd) (.bool pl) (.bool mi) (.bool am) 31).below hb1
  have s1 := (hs.alloc _).below hb1
  have bel1 : Below w.heap.size w w1 := (by repeat (first | exact Below.refl _ _ | refine Below.drew ?_ | refine bel_dn ?_ _ | refine bel_al ?_ _ | refine bel_go ?_ hb1 | refine Below.setCell ?_ (by first | omega | (simp; done) | (simp; omega)) _ | refine Below.alloc ?_ (by first | omega | (simp; done) | (simp; omega)) _ | refine Below.trans ?_ (Below.mono hb1 (by first | omega | (simp; done) | (simp; omega)))))
  clear hb1 C
  go_wp2_with fail
  refine (CM.out _).mono ?_
  rintro e w2 ⟨rfl, rfl⟩
  obtain ⟨c0, c1, c2, c3, c4, c5, c6, c7, c8⟩ := q1.cs
  go_wp2_with fail
  refine (sizes32 _ (hT.below bel1).s.f).mono ?_
  rintro e w3 ⟨rfl, hb3⟩
  clear c0 c1 c2 c3 c4 c5 c6 c7 c8
  have q3 := (q1.below hb3).alloc (.cells #[.int .u64 23, .int .u64 255, .int .i64 (-149)] 157)
  have s3 := (s1.below hb3).alloc (.cells #[.int .u64 23, .int .u64 255, .int .i64 (-149)] 157)
  have z3 := Z3.new w3 (.int .u64 23) (.int .u64 255) (.int .i64 (-149)) 157
  have bel3 := bel_al (bel_go bel1 hb3) (.cells #[.int .u64 23, .int .u64 255, .int .i64 (-149)] 157)
  clear q1 s1 hb3 bel1
  obtain ⟨c0, c1, c2, c3, c4, c5, c6, c7, c8⟩ := q3.cs
  go_wp2_with fail
  refine (CT.out _).mono ?_
  rintro e w4 ⟨rfl, hb4⟩
  clear c0 c1 c2 c3 c4 c5 c6 c7 c8
  have q4 := (q3.below hb4).alloc (.cells #[.int .i64 T, .bool nn, .bool bd, .bool pl, .bool mi, .bool am, .int .i64 32, .bool ng, .slice p zs.length cap] 86)
  have s4 := (s3.below hb4).alloc (.cells #[.int .i64 T, .bool nn, .bool bd, .bool pl, .bool mi, .bool am, .int .i64 32, .bool ng, .slice p zs.length cap] 86)
  have t4 := Q9.new w4 (.int .i64 T) (.bool nn) (.bool bd) (.bool pl) (.bool mi) (.bool am) (.int .i64 32) (.bool ng) (.slice p zs.length cap) 86
  have z4 := Z3.below (Z3.below z3 hb4) ((Below.refl w4.heap.size w4).alloc (Nat.le_refl _) (.cells #[.int .i64 T, .bool nn, .bool bd, .bool pl, .bool mi, .bool am, .int .i64 32, .bool ng, .slice p zs.length cap] 86))
  have bel4 := bel_al (bel_go bel3 hb4) (.cells #[.int .i64 T, .bool nn, .bool bd, .bool pl, .bool mi, .bool am, .int .i64 32, .bool ng, .slice p zs.length cap] 86)
  clear q3 s3 z3 bel3 hb4
  have c0 := q4.c0
  obtain ⟨t0, t1, t2, t3, t4, t5, t6, t7, t8⟩ := t4.cs
  obtain ⟨z0, z1, z2⟩ := z4
  go_wp2_with fail
  refine (CR.out _ (hT.below bel4) s4).mono ?_
  rintro e w5 ⟨rfl, hb5⟩
  go_wp2
  go_ret3
  exact ⟨rfl, bel_go bel4 hb5⟩
set_option maxHeartbeats 4000000 in
set_option maxRecDepth 100000 in
theorem round_spec_32 (fm : Int) (ng : Bool) (T : Int) (nn bd pl mi am : Bool) (p : Option Addr) (cap : Nat) (zs : List Int) (mode : Int) (w : World) (hs : Sl .u32 w (.slice p zs.length cap) zs) (hz : Nm.Dg zs) (hl : zs.length ≤ 1048576) (hf : fm = 32) (hk : accB fm ng zs T nn bd pl mi am = true) (hm : modeB mode = true) (X Y : Int) (hX : X = clB 2143289344 2139095040 2147483648 mode T nn bd pl mi am (decide (zs.length = 0)) (RdB 32 mode ng zs (-298))) (hY : Y = clF nn bd pl mi (decide (zs.length = 0)) (RdF 32 mode ng zs (-298))) :
    Calls Tryz.prog 144 #[.agg #[.int .i64 fm, .bool ng, .slice p zs.length cap, .int .i64 T, .bool nn, .bool bd, .bool pl, .bool mi, .bool am], .int .i64 mode] w fun e w' => e = .returned (.tuple #[.int .u64 X, .int .i64 Y, .bool true]) ∧ Below w.heap.size w w' := by
  have C := hid (accok_spec fm ng T nn bd pl mi am p cap zs (w.alloc (.cells #[.int .i64 fm, .bool ng, .slice p zs.length cap, .int .i64 T, .bool nn, .bool bd, .bool pl, .bool mi, .bool am] 31)) (hs.alloc _) hl)
  have CM := hid (fun w' => mode_spec mode w')
  have CR := hid (fun w' h => close_32 fm hf ng p zs.length cap T nn bd pl mi am mode ng zs (-298) p cap w' h hz hl _ _ rfl rfl (rdo_32 hm (acc_ok hk)) (bad_nn hk))
  rw [hk] at C
  rw [hm] at CM
  rw [← hX, ← hY] at CR
  clear hX hY hk hm hz
  subst hf
  go_enter Tryz.func144, Tryz.ntmps144
  go_wp2_with fail
  refine C.out.mono ?_
  rintro e w1 ⟨rfl, hb1⟩
  have q1 := (Q9.new w (.int .i64 32) (.bool ng) (.slice p zs.length cap) (.int .i64 T) (.bool nn) (.bool bd) (.bool pl) (.bool mi) (.bool am) 31).below hb1
  have s1 := (hs.alloc _).below hb1
  have bel1 : Below w.heap.size w w1 := (by repeat (first | exact Below.refl _ _ | refine Below.drew ?_ | refine bel_dn ?_ _ | refine bel_al ?_ _ | refine bel_go ?_ hb1 | refine Below.setCell ?_ (by first | omega | (simp; done) | (simp; omega)) _ | refine Below.alloc ?_ (by first | omega | (simp; done) | (simp; omega)) _ | refine Below.trans ?_ (Below.mono hb1 (by first | omega | (simp; done) | (simp; omega)))))
  clear hb1 C
  go_wp2_with fail
  refine (CM.out _).mono ?_
  rintro e w2 ⟨rfl, rfl⟩
  have cx := q1.cs
  go_wp2_with fail
  go_region_held3 (fun w' => w'.cell? ⟨w.heap.size, 0, none⟩ = some (.int .i64 32) ∧ w'.cell? ⟨w.heap.size, 1, none⟩ = some (.bool ng) ∧ w'.cell? ⟨w.heap.size, 2, none⟩ = some (.slice p zs.length cap) ∧ w'.cell? ⟨w.heap.size, 3, none⟩ = some (.int .i64 T) ∧ w'.cell? ⟨w.heap.size, 4, none⟩ = some (.bool nn) ∧ w'.cell? ⟨w.heap.size, 5, none⟩ = some (.bool bd) ∧ w'.cell? ⟨w.heap.size, 6, none⟩ = some (.bool pl) ∧ w'.cell? ⟨w.heap.size, 7, none⟩ = some (.bool mi) ∧ w'.cell? ⟨w.heap.size, 8, none⟩ = some (.bool am)) (first | assumption | exact cx)
    (first
      | (go_at_call 61; refine (sQB_32 _).mono ?_; rintro e q0 ⟨rfl, hq0⟩; have hb2 : Below w2.heap.size w2 q0 := bel_go (Below.drew (Below.refl _ _)) hq0; have f1 := (q1.below hb2).cs)
      | (go_at_call 185; refine (CR.out _ (s1.below hb2)).mono ?_; rintro e w3 ⟨rfl, hb3⟩; have f2 := ((q1.below hb2).below hb3).cs))
  go_wp2
  go_ret3
  exact ⟨rfl, bel_go (bel_go bel1 hb2) hb3⟩
theorem sQB_64 (w : World) : Calls Tryz.prog 61 #[.int .i64 64] w fun e w' => e = .returned (.int .i64 (-1074)) ∧ Below w.heap.size w w' :=
  (sQ_64 w).mono fun e w' ⟨h, h'⟩ => ⟨h, h' ▸ Below.refl _ _⟩
theorem rdo_64 {ng : Bool} {zs : List Int} {mode : Int} (hm : modeB mode = true) (ho : okB ng zs = true) : RdO 64 mode ng zs (-2148) = true := by unfold RdO; rw [hm, ho]; rfl
set_option maxHeartbeats 4000000 in
set_option maxRecDepth 100000 in
theorem round_impl_64 (fm : Int) (ng : Bool) (T : Int) (nn bd pl mi am : Bool) (p : Option Addr) (cap : Nat) (zs : List Int) (mode : Int) (w : World) (hT : T3 w) (hs : Sl .u32 w (.slice p zs.length cap) zs) (hz : Nm.Dg zs) (hl : zs.length ≤ 1048576) (hf : fm = 64) (hk : accB fm ng zs T nn bd pl mi am = true) (hm : modeB mode = true) (X Y : Int) (hX : X = clB 9221120237041090560 9218868437227405312 9223372036854775808 mode T nn bd pl mi am (decide (zs.length = 0)) (RdB 64 mode ng zs (-2148))) (hY : Y = clF nn bd pl mi (decide (zs.length = 0)) (RdF 64 mode ng zs (-2148))) :
    Calls Tryz.prog 147 #[.agg #[.int .i64 fm, .bool ng, .slice p zs.length cap, .int .i64 T, .bool nn, .bool bd, .bool pl, .bool mi, .bool am], .int .i64 mode] w fun e w' => e = .returned (.tuple #[.int .u64 X, .int .i64 Y, .bool true]) ∧ Below w.heap.size w w' := by
  have C := hid (accok_impl fm ng T nn bd pl mi am p cap zs (w.alloc (.cells #[.int .i64 fm, .bool ng, .slice p zs.length cap, .int .i64 T, .bool nn, .bool bd, .bool pl, .bool mi, .bool am] 31)) (hT.s.f.al _) (hs.alloc _) hl)
  have CM := hid (fun w' => mode_impl mode w')
  have CR := hid (fun w' h h' => mrd_64 T nn bd pl mi am mode ng zs (-2148) p cap w' h h' hz hl _ _ rfl rfl (rdo_64 hm (acc_ok hk)))
  have CT := hid (fun w' => tally_any fm ng T nn bd pl mi am p zs.length cap w')
  rw [hk] at C
  rw [hm] at CM
  rw [← hX, ← hY] at CR
  clear hX hY hk hm hz
  subst hf
  go_enter Tryz.func147, Tryz.ntmps147
  go_wp2_with fail
  refine C.out.mono ?_
  rintro e w1 ⟨rfl, hb1⟩
  have q1 := (Q9.new w (.int .i64 64) (.bool ng) (.slice p zs.length cap) (.int .i64 T) (.bool nn) (.bool bd) (.bool pl) (.bool mi) (.bool am) 31).below hb1
  have s1 := (hs.alloc _).below hb1
  have bel1 : Below w.heap.size w w1 := (by repeat (first | exact Below.refl _ _ | refine Below.drew ?_ | refine bel_dn ?_ _ | refine bel_al ?_ _ | refine bel_go ?_ hb1 | refine Below.setCell ?_ (by first | omega | (simp; done) | (simp; omega)) _ | refine Below.alloc ?_ (by first | omega | (simp; done) | (simp; omega)) _ | refine Below.trans ?_ (Below.mono hb1 (by first | omega | (simp; done) | (simp; omega)))))
  clear hb1 C
  go_wp2_with fail
  refine (CM.out _).mono ?_
  rintro e w2 ⟨rfl, rfl⟩
  obtain ⟨c0, c1, c2, c3, c4, c5, c6, c7, c8⟩ := q1.cs
  go_wp2_with fail
  refine (sizes64 _ (hT.below bel1).s.f).mono ?_
  rintro e w3 ⟨rfl, hb3⟩
  clear c0 c1 c2 c3 c4 c5 c6 c7 c8
  have q3 := (q1.below hb3).alloc (.cells #[.int .u64 52, .int .u64 2047, .int .i64 (-1074)] 157)
  have s3 := (s1.below hb3).alloc (.cells #[.int .u64 52, .int .u64 2047, .int .i64 (-1074)] 157)
  have z3 := Z3.new w3 (.int .u64 52) (.int .u64 2047) (.int .i64 (-1074)) 157
  have bel3 := bel_al (bel_go bel1 hb3) (.cells #[.int .u64 52, .int .u64 2047, .int .i64 (-1074)] 157)
  clear q1 s1 hb3 bel1
  obtain ⟨c0, c1, c2, c3, c4, c5, c6, c7, c8⟩ := q3.cs
  go_wp2_with fail
  refine (CT.out _).mono ?_
  rintro e w4 ⟨rfl, hb4⟩
  clear c0 c1 c2 c3 c4 c5 c6 c7 c8
  have q4 := (q3.below hb4).alloc (.cells #[.int .i64 T, .bool nn, .bool bd, .bool pl, .bool mi, .bool am, .int .i64 64, .bool ng, .slice p zs.length cap] 86)
  have s4 := (s3.below hb4).alloc (.cells #[.int .i64 T, .bool nn, .bool bd, .bool pl, .bool mi, .bool am, .int .i64 64, .bool ng, .slice p zs.length cap] 86)
  have t4 := Q9.new w4 (.int .i64 T) (.bool nn) (.bool bd) (.bool pl) (.bool mi) (.bool am) (.int .i64 64) (.bool ng) (.slice p zs.length cap) 86
  have z4 := Z3.below (Z3.below z3 hb4) ((Below.refl w4.heap.size w4).alloc (Nat.le_refl _) (.cells #[.int .i64 T, .bool nn, .bool bd, .bool pl, .bool mi, .bool am, .int .i64 64, .bool ng, .slice p zs.length cap] 86))
  have bel4 := bel_al (bel_go bel3 hb4) (.cells #[.int .i64 T, .bool nn, .bool bd, .bool pl, .bool mi, .bool am, .int .i64 64, .bool ng, .slice p zs.length cap] 86)
  clear q3 s3 z3 bel3 hb4
  have c0 := q4.c0
  obtain ⟨t0, t1, t2, t3, t4, t5, t6, t7, t8⟩ := t4.cs
  obtain ⟨z0, z1, z2⟩ := z4
  go_wp2_with fail
  refine (CR.out _ (hT.below bel4) s4).mono ?_
  rintro e w5 ⟨rfl, hb5⟩
  go_wp2
  go_ret3
  exact ⟨rfl, bel_go bel4 hb5⟩
set_option maxHeartbeats 4000000 in
set_option maxRecDepth 100000 in
theorem round_spec_64 (fm : Int) (ng : Bool) (T : Int) (nn bd pl mi am : Bool) (p : Option Addr) (cap : Nat) (zs : List Int) (mode : Int) (w : World) (hs : Sl .u32 w (.slice p zs.length cap) zs) (hz : Nm.Dg zs) (hl : zs.length ≤ 1048576) (hf : fm = 64) (hk : accB fm ng zs T nn bd pl mi am = true) (hm : modeB mode = true) (X Y : Int) (hX : X = clB 9221120237041090560 9218868437227405312 9223372036854775808 mode T nn bd pl mi am (decide (zs.length = 0)) (RdB 64 mode ng zs (-2148))) (hY : Y = clF nn bd pl mi (decide (zs.length = 0)) (RdF 64 mode ng zs (-2148))) :
    Calls Tryz.prog 144 #[.agg #[.int .i64 fm, .bool ng, .slice p zs.length cap, .int .i64 T, .bool nn, .bool bd, .bool pl, .bool mi, .bool am], .int .i64 mode] w fun e w' => e = .returned (.tuple #[.int .u64 X, .int .i64 Y, .bool true]) ∧ Below w.heap.size w w' := by
  have C := hid (accok_spec fm ng T nn bd pl mi am p cap zs (w.alloc (.cells #[.int .i64 fm, .bool ng, .slice p zs.length cap, .int .i64 T, .bool nn, .bool bd, .bool pl, .bool mi, .bool am] 31)) (hs.alloc _) hl)
  have CM := hid (fun w' => mode_spec mode w')
  have CR := hid (fun w' h => close_64 fm hf ng p zs.length cap T nn bd pl mi am mode ng zs (-2148) p cap w' h hz hl _ _ rfl rfl (rdo_64 hm (acc_ok hk)) (bad_nn hk))
  rw [hk] at C
  rw [hm] at CM
  rw [← hX, ← hY] at CR
  clear hX hY hk hm hz
  subst hf
  go_enter Tryz.func144, Tryz.ntmps144
  go_wp2_with fail
  refine C.out.mono ?_
  rintro e w1 ⟨rfl, hb1⟩
  have q1 := (Q9.new w (.int .i64 64) (.bool ng) (.slice p zs.length cap) (.int .i64 T) (.bool nn) (.bool bd) (.bool pl) (.bool mi) (.bool am) 31).below hb1
  have s1 := (hs.alloc _).below hb1
  have bel1 : Below w.heap.size w w1 := (by repeat (first | exact Below.refl _ _ | refine Below.drew ?_ | refine bel_dn ?_ _ | refine bel_al ?_ _ | refine bel_go ?_ hb1 | refine Below.setCell ?_ (by first | omega | (simp; done) | (simp; omega)) _ | refine Below.alloc ?_ (by first | omega | (simp; done) | (simp; omega)) _ | refine Below.trans ?_ (Below.mono hb1 (by first | omega | (simp; done) | (simp; omega)))))
  clear hb1 C
  go_wp2_with fail
  refine (CM.out _).mono ?_
  rintro e w2 ⟨rfl, rfl⟩
  have cx := q1.cs
  go_wp2_with fail
  go_region_held3 (fun w' => w'.cell? ⟨w.heap.size, 0, none⟩ = some (.int .i64 64) ∧ w'.cell? ⟨w.heap.size, 1, none⟩ = some (.bool ng) ∧ w'.cell? ⟨w.heap.size, 2, none⟩ = some (.slice p zs.length cap) ∧ w'.cell? ⟨w.heap.size, 3, none⟩ = some (.int .i64 T) ∧ w'.cell? ⟨w.heap.size, 4, none⟩ = some (.bool nn) ∧ w'.cell? ⟨w.heap.size, 5, none⟩ = some (.bool bd) ∧ w'.cell? ⟨w.heap.size, 6, none⟩ = some (.bool pl) ∧ w'.cell? ⟨w.heap.size, 7, none⟩ = some (.bool mi) ∧ w'.cell? ⟨w.heap.size, 8, none⟩ = some (.bool am)) (first | assumption | exact cx)
    (first
      | (go_at_call 61; refine (sQB_64 _).mono ?_; rintro e q0 ⟨rfl, hq0⟩; have hb2 : Below w2.heap.size w2 q0 := bel_go (Below.drew (Below.refl _ _)) hq0; have f1 := (q1.below hb2).cs)
      | (go_at_call 185; refine (CR.out _ (s1.below hb2)).mono ?_; rintro e w3 ⟨rfl, hb3⟩; have f2 := ((q1.below hb2).below hb3).cs))
  go_wp2
  go_ret3
  exact ⟨rfl, bel_go (bel_go bel1 hb2) hb3⟩
theorem ar_yes32 {fm : Int} {ng : Bool} {zs : List Int} {T : Int} {nn bd pl mi am : Bool} {mode : Int} (h : arO fm ng zs T nn bd pl mi am mode = true) (hf : fm = 32) :
    arB fm ng zs T nn bd pl mi am mode = clB 2143289344 2139095040 2147483648 mode T nn bd pl mi am (decide (zs.length = 0)) (RdB 32 mode ng zs (-298)) ∧ arF fm ng zs T nn bd pl mi am mode = clF nn bd pl mi (decide (zs.length = 0)) (RdF 32 mode ng zs (-298)) := by
  unfold arB arF arE; rw [h, if_pos rfl, if_pos rfl, if_pos hf, if_pos hf, hf]; exact ⟨rfl, rfl⟩
theorem ar_yes64 {fm : Int} {ng : Bool} {zs : List Int} {T : Int} {nn bd pl mi am : Bool} {mode : Int} (h : arO fm ng zs T nn bd pl mi am mode = true) (hf : fm = 64) :
    arB fm ng zs T nn bd pl mi am mode = clB 9221120237041090560 9218868437227405312 9223372036854775808 mode T nn bd pl mi am (decide (zs.length = 0)) (RdB 64 mode ng zs (-2148)) ∧ arF fm ng zs T nn bd pl mi am mode = clF nn bd pl mi (decide (zs.length = 0)) (RdF 64 mode ng zs (-2148)) := by
  have h32 : fm ≠ 32 := by omega
  unfold arB arF arE; rw [h, if_pos rfl, if_pos rfl, if_neg h32, if_neg h32, hf]; exact ⟨rfl, rfl⟩
theorem round_impl (fm : Int) (ng : Bool) (T : Int) (nn bd pl mi am : Bool) (p : Option Addr) (cap : Nat) (zs : List Int) (mode : Int) (w : World) (hT : T3 w) (hs : Sl .u32 w (.slice p zs.length cap) zs) (hz : Nm.Dg zs) (hl : zs.length ≤ 1048576) :
    Calls Tryz.prog 147 #[.agg #[.int .i64 fm, .bool ng, .slice p zs.length cap, .int .i64 T, .bool nn, .bool bd, .bool pl, .bool mi, .bool am], .int .i64 mode] w fun e w' => e = .returned (.tuple #[.int .u64 (arB fm ng zs T nn bd pl mi am mode), .int .i64 (arF fm ng zs T nn bd pl mi am mode), .bool (arO fm ng zs T nn bd pl mi am mode)]) ∧ Below w.heap.size w w' := by
  cases hk : arO fm ng zs T nn bd pl mi am mode
  · rw [(ar_no hk).1, (ar_no hk).2]; exact round_impl_no fm ng T nn bd pl mi am p cap zs mode w hT hs hl hk
  · have hk' := hk
    unfold arO at hk'
    simp only [Bool.and_eq_true] at hk'
    rcases acc_fm hk'.1 with hf | hf
    · exact round_impl_32 fm ng T nn bd pl mi am p cap zs mode w hT hs hz hl hf hk'.1 hk'.2 _ _ (ar_yes32 hk hf).1 (ar_yes32 hk hf).2
    · exact round_impl_64 fm ng T nn bd pl mi am p cap zs mode w hT hs hz hl hf hk'.1 hk'.2 _ _ (ar_yes64 hk hf).1 (ar_yes64 hk hf).2
theorem round_spec (fm : Int) (ng : Bool) (T : Int) (nn bd pl mi am : Bool) (p : Option Addr) (cap : Nat) (zs : List Int) (mode : Int) (w : World) (hs : Sl .u32 w (.slice p zs.length cap) zs) (hz : Nm.Dg zs) (hl : zs.length ≤ 1048576) :
    Calls Tryz.prog 144 #[.agg #[.int .i64 fm, .bool ng, .slice p zs.length cap, .int .i64 T, .bool nn, .bool bd, .bool pl, .bool mi, .bool am], .int .i64 mode] w fun e w' => e = .returned (.tuple #[.int .u64 (arB fm ng zs T nn bd pl mi am mode), .int .i64 (arF fm ng zs T nn bd pl mi am mode), .bool (arO fm ng zs T nn bd pl mi am mode)]) ∧ Below w.heap.size w w' := by
  cases hk : arO fm ng zs T nn bd pl mi am mode
  · rw [(ar_no hk).1, (ar_no hk).2]; exact round_spec_no fm ng T nn bd pl mi am p cap zs mode w hs hl hk
  · have hk' := hk
    unfold arO at hk'
    simp only [Bool.and_eq_true] at hk'
    rcases acc_fm hk'.1 with hf | hf
    · exact round_spec_32 fm ng T nn bd pl mi am p cap zs mode w hs hz hl hf hk'.1 hk'.2 _ _ (ar_yes32 hk hf).1 (ar_yes32 hk hf).2
    · exact round_spec_64 fm ng T nn bd pl mi am p cap zs mode w hs hz hl hf hk'.1 hk'.2 _ _ (ar_yes64 hk hf).1 (ar_yes64 hk hf).2
end Go.Proofs.YtapjclcjojadaaaGreatDoor
/-
  What is wrong with a vector: by the program and by the specification; the law on vectors.
-/
namespace Go.Proofs.YtapjclcjojadaaaGreatDoor
set_option linter.unusedVariables false
set_option linter.unusedSimpArgs false
open Go.RowKit Go.Deep
theorem vec_form {fm mode : Int} {xs : List Int} (h : (fmtB fm && modeB mode) = false) : vecC fm mode xs = 1 := by unfold vecC; rw [h]; rfl
theorem vec_many {fm mode : Int} {xs : List Int} (h : (fmtB fm && modeB mode) = true) (h' : ¬ xs.length ≤ 300) : vecC fm mode xs = 2 := by unfold vecC; rw [h, if_pos rfl, if_neg h']
theorem vec_fits {fm mode : Int} {xs : List Int} (h : (fmtB fm && modeB mode) = true) (h' : xs.length ≤ 300) : vecC fm mode xs = if allB fm xs then 0 else 4 := by unfold vecC; rw [h, if_pos rfl, if_pos h']
set_option maxHeartbeats 4000000 in
set_option maxRecDepth 100000 in
theorem vcode_impl (fm mode : Int) (a : Option Addr) (cap : Nat) (xs : List Int) (B : Nat) (w : World) (hT : Tab w) (hx : Sl .u64 w (.slice a xs.length cap) xs) (dx : D64 xs) (hl : xs.length ≤ 1048576) (hB : w.cell? ⟨B, 0, none⟩ = some (.slice a xs.length cap)) :
    Calls Tryz.prog 77 #[.int .i64 fm, .int .i64 mode, .slice (some ⟨B, 0, none⟩) 1 1] w fun e w' => e = .returned (.int .i64 (vecC fm mode xs)) ∧ Below w.heap.size w w' := by
  have CF := hid (fun w' => form_B fm w')
  have CM := hid (fun w' => mode_impl mode w')
  have CA := hid (fun w' h h' => allf_impl fm a cap xs w' h h' dx hl)
  have H1 := hid (vec_form (fm := fm) (mode := mode) (xs := xs))
  have H2 := hid (vec_many (fm := fm) (mode := mode) (xs := xs))
  have H3 := hid (vec_fits (fm := fm) (mode := mode) (xs := xs))
  clear dx
  have hlt := World.block_lt_of_cell? w _ hB
  have hnn : ((xs.length : Int) != (xs.length : Int)) = false := by simp
  cases hf : fmtB fm with
  | false =>
    rw [hf] at CF
    have H1 := hid (H1.out (by rw [hf]; rfl))
    clear H2 H3 CA hf CM
    go_enter Tryz.func77, Tryz.ntmps77
    go_wp2_with fail
    refine (CF.out _).mono ?_
    rintro e w1 ⟨n, rfl, hn, hb1⟩
    simp only [Bool.not_false] at hn
    go_wp2
    go_ret
    exact ⟨ret_int H1.out.symm, (by repeat (first | exact Below.refl _ _ | refine Below.drew ?_ | refine bel_dn ?_ _ | refine bel_al ?_ _ | refine bel_go ?_ hb1 | refine Below.setCell ?_ (by first | omega | (simp; done) | (simp; omega)) _ | refine Below.alloc ?_ (by first | omega | (simp; done) | (simp; omega)) _ | refine Below.trans ?_ (Below.mono hb1 (by first | omega | (simp; done) | (simp; omega)))))⟩
  | true =>
  rw [hf] at CF
  cases hm : modeB mode with
  | false =>
    rw [hm] at CM
    have H1 := hid (H1.out (by rw [hf, hm]; rfl))
    clear H2 H3 CA hf hm
    go_enter Tryz.func77, Tryz.ntmps77
    go_wp2_with fail
    refine (CF.out _).mono ?_
    rintro e w1 ⟨n, rfl, hn, hb1⟩
    simp only [Bool.not_true] at hn
    go_wp2_with fail
    refine (CM.out _).mono ?_
    rintro e w2 ⟨rfl, rfl⟩
    go_wp2
    go_ret
    exact ⟨ret_int H1.out.symm, (by repeat (first | exact Below.refl _ _ | refine Below.drew ?_ | refine bel_dn ?_ _ | refine bel_al ?_ _ | refine bel_go ?_ hb1 | refine Below.setCell ?_ (by first | omega | (simp; done) | (simp; omega)) _ | refine Below.alloc ?_ (by first | omega | (simp; done) | (simp; omega)) _ | refine Below.trans ?_ (Below.mono hb1 (by first | omega | (simp; done) | (simp; omega)))))⟩
  | true =>
  rw [hm] at CM
  by_cases h3 : xs.length ≤ 300
  · have H3 := hid (H3.out (by rw [hf, hm]; rfl) h3)
    clear H1 H2 hf hm
    obtain ⟨r, hr⟩ : ∃ r, r = allB fm xs := ⟨_, rfl⟩
    rw [← hr] at CA H3
    clear hr
    cases r with
    | true =>
      go_enter Tryz.func77, Tryz.ntmps77
      go_wp2_with fail
      refine (CF.out _).mono ?_
      rintro e w1 ⟨n, rfl, hn, hb1⟩
      simp only [Bool.not_true] at hn
      have b1 := (hb1.cell (p := ⟨B, 0, none⟩) hlt).trans hB
      go_wp2_with fail
      refine (CM.out _).mono ?_
      rintro e w2 ⟨rfl, rfl⟩
      go_wp2_with fail
      refine wp_loop_rounds 2 ?_
      rw [rounds_succ]
      go_wp2_with fail
      rw [rounds_succ]
      go_wp2_with fail
      refine wp_loop_rounds 2 ?_
      rw [rounds_succ]
      go_wp2_with fail
      rw [rounds_succ]
      go_wp2_with fail
      refine wp_loop_rounds 2 ?_
      rw [rounds_succ]
      go_wp2_with fail
      refine (CA.out _ (hT.below hb1) (hx.below hb1)).mono ?_
      rintro e w3 ⟨rfl, hb3⟩
      go_wp2_with fail
      rw [rounds_succ]
      go_wp2
      go_ret
      exact ⟨ret_int H3.out.symm, bel_go hb1 hb3⟩
    | false =>
      go_enter Tryz.func77, Tryz.ntmps77
      go_wp2_with fail
      refine (CF.out _).mono ?_
      rintro e w1 ⟨n, rfl, hn, hb1⟩
      simp only [Bool.not_true] at hn
      have b1 := (hb1.cell (p := ⟨B, 0, none⟩) hlt).trans hB
      go_wp2_with fail
      refine (CM.out _).mono ?_
      rintro e w2 ⟨rfl, rfl⟩
      go_wp2_with fail
      refine wp_loop_rounds 2 ?_
      rw [rounds_succ]
      go_wp2_with fail
      rw [rounds_succ]
      go_wp2_with fail
      refine wp_loop_rounds 2 ?_
      rw [rounds_succ]
      go_wp2_with fail
      rw [rounds_succ]
      go_wp2_with fail
      refine wp_loop_rounds 2 ?_
      rw [rounds_succ]
      go_wp2_with fail
      refine (CA.out _ (hT.below hb1) (hx.below hb1)).mono ?_
      rintro e w3 ⟨rfl, hb3⟩
      go_wp2
      go_ret
      exact ⟨ret_int H3.out.symm, bel_go hb1 hb3⟩
  · have H2 := hid (H2.out (by rw [hf, hm]; rfl) h3)
    clear H1 H3 hf hm CA
    go_enter Tryz.func77, Tryz.ntmps77
    go_wp2_with fail
    refine (CF.out _).mono ?_
    rintro e w1 ⟨n, rfl, hn, hb1⟩
    simp only [Bool.not_true] at hn
    have b1 := (hb1.cell (p := ⟨B, 0, none⟩) hlt).trans hB
    go_wp2_with fail
    refine (CM.out _).mono ?_
    rintro e w2 ⟨rfl, rfl⟩
    go_wp2_with fail
    refine wp_loop_rounds 2 ?_
    rw [rounds_succ]
    go_wp2
    go_ret
    exact ⟨ret_int H2.out.symm, (by repeat (first | exact Below.refl _ _ | refine Below.drew ?_ | refine bel_dn ?_ _ | refine bel_al ?_ _ | refine bel_go ?_ hb1 | refine Below.setCell ?_ (by first | omega | (simp; done) | (simp; omega)) _ | refine Below.alloc ?_ (by first | omega | (simp; done) | (simp; omega)) _ | refine Below.trans ?_ (Below.mono hb1 (by first | omega | (simp; done) | (simp; omega)))))⟩
end Go.Proofs.YtapjclcjojadaaaGreatDoor
/-
  What is wrong with vectors: by the specification; the law on vectors.
-/
namespace Go.Proofs.YtapjclcjojadaaaGreatDoor
set_option linter.unusedVariables false
set_option linter.unusedSimpArgs false
open Go.RowKit Go.Deep
/-- What is wrong with two vectors. -/
def vec2 (fm mode : Int) (xs ys : List Int) : Int := if fmtB fm && modeB mode then (if xs.length ≤ 300 ∧ ys.length ≤ 300 then (if xs.length = ys.length then (if allB fm xs && allB fm ys then 0 else 4) else 3) else 2) else 1
theorem vec2_self (fm mode : Int) (xs : List Int) : vec2 fm mode xs xs = vecC fm mode xs := by
  unfold vec2 vecC
  by_cases h : xs.length ≤ 300
  · simp [h]
  · simp [h]
theorem v2_form {fm mode : Int} {xs ys : List Int} (h : (fmtB fm && modeB mode) = false) : vec2 fm mode xs ys = 1 := by unfold vec2; rw [h]; rfl
theorem v2_many {fm mode : Int} {xs ys : List Int} (h : (fmtB fm && modeB mode) = true) (h' : 300 < xs.length ∨ 300 < ys.length) : vec2 fm mode xs ys = 2 := by unfold vec2; rw [h, if_pos rfl, if_neg (by omega)]
theorem v2_len {fm mode : Int} {xs ys : List Int} (h : (fmtB fm && modeB mode) = true) (h1 : xs.length ≤ 300) (h2 : ys.length ≤ 300) (h' : xs.length ≠ ys.length) : vec2 fm mode xs ys = 3 := by unfold vec2; rw [h, if_pos rfl, if_pos ⟨h1, h2⟩, if_neg h']
theorem v2_fits {fm mode : Int} {xs ys : List Int} (h : (fmtB fm && modeB mode) = true) (h1 : xs.length ≤ 300) (h2 : ys.length ≤ 300) (h' : xs.length = ys.length) : vec2 fm mode xs ys = if allB fm xs && allB fm ys then 0 else 4 := by unfold vec2; rw [h, if_pos rfl, if_pos ⟨h1, h2⟩, if_pos h']
set_option maxHeartbeats 4000000 in
set_option maxRecDepth 100000 in
theorem l8_fits (fm mode : Int) (a b : Option Addr) (cap cap' : Nat) (xs ys : List Int) (w : World) (hx : Sl .u64 w (.slice a xs.length cap) xs) (hy : Sl .u64 w (.slice b ys.length cap') ys) (hk : fmtB fm = true) (hm : modeB mode = true) (h1 : xs.length ≤ 300) (h2 : ys.length ≤ 300) (hl : xs.length = ys.length) :
    Calls Tryz.prog 73 #[.int .i64 fm, .int .i64 mode, .slice a xs.length cap, .slice b ys.length cap'] w fun e w' => e = .returned (.int .i64 (if allB fm xs && allB fm ys then 0 else 4)) ∧ Below w.heap.size w w' := by
  obtain ⟨-, hx1, hx2, hx3⟩ := hx.cells
  obtain ⟨-, hy1, hy2, hy3⟩ := hy.cells
  have CF := hid (fun w' => fmt_spec fm w')
  have CM := hid (fun w' => mode_spec mode w')
  rw [hk] at CF
  rw [hm] at CM
  have CO := hid (fun x w' => spec_ok fm x w')
  have hne : ((xs.length : Int) != (ys.length : Int)) = false := by simp [hl]
  have HL := hid hl
  have hl1 : xs.length ≤ ys.length := by omega
  have hl2 : ys.length ≤ xs.length := by omega
  clear hl hk hm
  obtain ⟨c, hc⟩ : ∃ c : Int, c = if allB fm xs && allB fm ys then 0 else 4 := ⟨_, rfl⟩
  rw [← hc]
  have HC1 : Hid (allB fm xs = false → c = 4) := hid (fun h => by rw [hc, h]; rfl)
  have HC2 : Hid (allB fm ys = false → c = 4) := hid (fun h => by rw [hc, h, Bool.and_false]; rfl)
  have HC3 : Hid (allB fm xs = true → allB fm ys = true → c = 0) := hid (fun h h' => by rw [hc, h, h']; rfl)
  clear hc
  go_enter Tryz.func73, Tryz.ntmps73
  go_wp2_with fail
  refine (CF.out _).mono ?_
  rintro e w1 ⟨rfl, rfl⟩
  go_wp2_with fail
  refine (CM.out _).mono ?_
  rintro e w2 ⟨rfl, rfl⟩
  go_wp2_with fail
  go_loopw [9] (fun i wr => ∃ k : Nat, k ≤ xs.length ∧ i = .int .i64 k ∧ (∀ j, j < k → okF fm (xs.getD j 0) = true ∧ okF fm (ys.getD j 0) = true) ∧ Below w2.heap.size w2 wr) (fun i _ => xs.length - (intOf i).toNat)
  case atStart => exact ⟨0, Nat.zero_le _, rfl, fun j hj => absurd hj (Nat.not_lt_zero _), Below.refl _ _⟩
  case round =>
    obtain ⟨k, hk, rfl, hpre, hb⟩ := hrel
    have PRE := hid hpre
    clear hpre
    by_cases hlt : k < xs.length
    · obtain ⟨g, off, rfl, hcx⟩ := hx3 (by omega)
      obtain ⟨g', off', rfl, hcy⟩ := hy3 (by omega)
      have c1 := hcx k hlt
      have c2 := hcy k (by omega)
      have c1 : wr.cell? ⟨g, off + k, none⟩ = some (.int .u64 (xs.getD k 0)) := (hb.cell (p := ⟨g, off + k, none⟩) (World.block_lt_of_cell? w2 _ c1)).trans c1
      have c2 : wr.cell? ⟨g', off' + k, none⟩ = some (.int .u64 (ys.getD k 0)) := (hb.cell (p := ⟨g', off' + k, none⟩) (World.block_lt_of_cell? w2 _ c2)).trans c2
      clear hx3 hy3 hcx hcy
      have hlt' : k < ys.length := by omega
      have HN1 := hid (allB_no (fm := fm) hlt)
      have HN2 := hid (allB_no (fm := fm) hlt')
      obtain ⟨x, hxk⟩ : ∃ x, x = xs.getD k 0 := ⟨_, rfl⟩
      obtain ⟨y, hyk⟩ : ∃ y, y = ys.getD k 0 := ⟨_, rfl⟩
      have PRE2 : Hid (okF fm x = true → okF fm y = true → ∀ j, j < k + 1 → okF fm (xs.getD j 0) = true ∧ okF fm (ys.getD j 0) = true) := hid (fun h h' j hj => by
        by_cases e : j = k
        · subst e; rw [← hxk, ← hyk]; exact ⟨h, h'⟩
        · exact PRE.out j (by omega))
      rw [← hxk] at c1 HN1
      rw [← hyk] at c2 HN2
      have C1 := hid (fun w' => CO.out x w')
      have C2 := hid (fun w' => CO.out y w')
      clear hxk hyk CO PRE
      cases ox : okF fm x with
      | false =>
        have HN := hid (HC1.out (HN1.out ox))
        rw [ox] at C1
        clear ox HN1 HN2 PRE2 C2
        go_wp2_with fail
        refine (C1.out _).mono ?_
        rintro e w3 ⟨rfl, hb3⟩
        go_wp2
        go_ret
        exact ⟨ret_int HN.out.symm, bel_go hb hb3⟩
      | true =>
      rw [ox] at C1
      cases oy : okF fm y with
      | false =>
        have HN := hid (HC2.out (HN2.out oy))
        rw [oy] at C2
        clear ox oy HN1 HN2 PRE2
        go_wp2_with fail
        refine (C1.out _).mono ?_
        rintro e w3 ⟨rfl, hb3⟩
        have c2 := (hb3.cell (p := ⟨g', off' + k, none⟩) (World.block_lt_of_cell? wr _ c2)).trans c2
        go_wp2_with fail
        refine (C2.out _).mono ?_
        rintro e w4 ⟨rfl, hb4⟩
        go_wp2
        go_ret
        exact ⟨ret_int HN.out.symm, bel_go (bel_go hb hb3) hb4⟩
      | true =>
        have PRE3 := hid (PRE2.out ox oy)
        rw [oy] at C2
        clear ox oy HN1 HN2 PRE2
        go_wp2_with fail
        refine (C1.out _).mono ?_
        rintro e w3 ⟨rfl, hb3⟩
        have c2 := (hb3.cell (p := ⟨g', off' + k, none⟩) (World.block_lt_of_cell? wr _ c2)).trans c2
        go_wp2_with fail
        refine (C2.out _).mono ?_
        rintro e w4 ⟨rfl, hb4⟩
        go_wp2
        go_roundw
        case rel => exact ⟨k + 1, by omega, by go_num, PRE3.out, bel_go (bel_go hb hb3) hb4⟩
        case measure => simp [intOf]; omega
    · obtain rfl : k = xs.length := by omega
      have HY := hid (HC3.out (allB_yes (fun j hj => (PRE.out j hj).1)) (allB_yes (fun j hj => (PRE.out j (by omega)).2)))
      clear hx3 hy3 CO PRE
      go_wp2
      go_ret
      exact ⟨ret_int HY.out.symm, hb⟩
set_option maxHeartbeats 4000000 in
theorem l8_spec (fm mode : Int) (a b : Option Addr) (cap cap' : Nat) (xs ys : List Int) (w : World) (hx : Sl .u64 w (.slice a xs.length cap) xs) (hy : Sl .u64 w (.slice b ys.length cap') ys) (hlx : xs.length ≤ 1048576) (hly : ys.length ≤ 1048576) :
    Calls Tryz.prog 73 #[.int .i64 fm, .int .i64 mode, .slice a xs.length cap, .slice b ys.length cap'] w fun e w' => e = .returned (.int .i64 (vec2 fm mode xs ys)) ∧ Below w.heap.size w w' := by
  have CF := hid (fun w' => fmt_spec fm w')
  have CM := hid (fun w' => mode_spec mode w')
  cases hk : fmtB fm with
  | false =>
    rw [hk] at CF
    have HR := hid (v2_form (mode := mode) (xs := xs) (ys := ys) (show (fmtB fm && modeB mode) = false by rw [hk]; rfl))
    clear hk
    go_enter Tryz.func73, Tryz.ntmps73
    go_wp2_with fail
    refine (CF.out _).mono ?_
    rintro e w1 ⟨rfl, rfl⟩
    go_wp2
    go_ret
    exact ⟨ret_int HR.out.symm, Below.refl _ _⟩
  | true =>
  rw [hk] at CF
  cases hm : modeB mode with
  | false =>
    rw [hm] at CM
    have HR := hid (v2_form (xs := xs) (ys := ys) (show (fmtB fm && modeB mode) = false by rw [hk, hm]; rfl))
    clear hk hm
    go_enter Tryz.func73, Tryz.ntmps73
    go_wp2_with fail
    refine (CF.out _).mono ?_
    rintro e w1 ⟨rfl, rfl⟩
    go_wp2_with fail
    refine (CM.out _).mono ?_
    rintro e w2 ⟨rfl, rfl⟩
    go_wp2
    go_ret
    exact ⟨ret_int HR.out.symm, Below.refl _ _⟩
  | true =>
  have hkm : (fmtB fm && modeB mode) = true := by rw [hk, hm]; rfl
  rw [hm] at CM
  by_cases h1 : xs.length ≤ 300
  · by_cases h2 : ys.length ≤ 300
    · by_cases hl : xs.length = ys.length
      · rw [v2_fits hkm h1 h2 hl]
        exact l8_fits fm mode a b cap cap' xs ys w hx hy hk hm h1 h2 hl
      · have HR := hid (v2_len hkm h1 h2 hl)
        have hne : ((xs.length : Int) != (ys.length : Int)) = true := by simp; omega
        clear hkm hk hm hl
        go_enter Tryz.func73, Tryz.ntmps73
        go_wp2_with fail
        refine (CF.out _).mono ?_
        rintro e w1 ⟨rfl, rfl⟩
        go_wp2_with fail
        refine (CM.out _).mono ?_
        rintro e w2 ⟨rfl, rfl⟩
        go_wp2
        go_ret
        exact ⟨ret_int HR.out.symm, Below.refl _ _⟩
    · have HR := hid (v2_many (xs := xs) (ys := ys) hkm (.inr (by omega)))
      clear hkm hk hm
      go_enter Tryz.func73, Tryz.ntmps73
      go_wp2_with fail
      refine (CF.out _).mono ?_
      rintro e w1 ⟨rfl, rfl⟩
      go_wp2_with fail
      refine (CM.out _).mono ?_
      rintro e w2 ⟨rfl, rfl⟩
      go_wp2
      go_ret
      exact ⟨ret_int HR.out.symm, Below.refl _ _⟩
  · have HR := hid (v2_many (xs := xs) (ys := ys) hkm (.inl (by omega)))
    clear hkm hk hm
    go_enter Tryz.func73, Tryz.ntmps73
    go_wp2_with fail
    refine (CF.out _).mono ?_
    rintro e w1 ⟨rfl, rfl⟩
    go_wp2_with fail
    refine (CM.out _).mono ?_
    rintro e w2 ⟨rfl, rfl⟩
    go_wp2
    go_ret
    exact ⟨ret_int HR.out.symm, Below.refl _ _⟩
end Go.Proofs.YtapjclcjojadaaaGreatDoor
/-
  Products of limbs, by the program.
-/
namespace Go.Proofs.YtapjclcjojadaaaGreatDoor
set_option linter.unusedVariables false
set_option linter.unusedSimpArgs false
open Go.RowKit Go.Deep
theorem mk0 (N M : Nat) (h : N ≤ 400000) (h' : M ≤ 400000) : ∀ w : World, (Instr.makeSlice 22 (.int .i64 ((N : Int) + (M : Int))) (.int .i64 ((N : Int) + (M : Int)))).run Tryz.prog w = .ok (.slice (some ⟨w.heap.size, 0, none⟩) (N + M) (N + M)) (w.alloc (.cells (madeCells #[.int .u32 0] (N + M)) 147)) :=
  run_make_row' (P := Tryz.prog) 22 147 (.int .u32 0) 4 Tryz.underlying22 info32 rfl .i64 .i64 (N + M) (by omega) (by omega)
set_option maxRecDepth 10000 in
set_option maxHeartbeats 1600000 in
theorem mulLimbs_any (a a' : Option Addr) (cap cap' : Nat) (xs ys : List Int) (w : World) (hx : Sl .u32 w (.slice a xs.length cap) xs) (hy : Sl .u32 w (.slice a' ys.length cap') ys) (dx : Nm.Dg xs) (dy : Nm.Dg ys) (hl : xs.length ≤ 400000) (hl' : ys.length ≤ 400000) :
    Calls Tryz.prog 205 #[.slice a xs.length cap, .slice a' ys.length cap'] w fun e w' => ∃ a1 c1 os, e = .returned (.slice a1 os.length c1) ∧ Own w' w.heap.size a1 c1 os ∧ Nm.Dg os ∧ Nm.val os = Nm.val xs * Nm.val ys ∧ os.length ≤ 1048576 ∧ Below w.heap.size w w' := by
  have hmk := mk0 xs.length ys.length hl hl'
  obtain ⟨-, hx1, hx2, hx3⟩ := hx.cells
  obtain ⟨-, hy1, hy2, hy3⟩ := hy.cells
  have HX3 := hid hx3
  have HY3 := hid hy3
  clear hx3 hy3
  go_enter Tryz.func205, Tryz.ntmps205
  go_wp2_with fail
  clear hmk
  go_loopw [20] (fun iv wr => ∃ i : Nat, ∃ os : List Int, i ≤ xs.length ∧ iv = .int .i64 i ∧ os.length = xs.length + ys.length ∧ Rw wr w.heap.size os ∧ Nm.Dg os ∧ Nm.MulAt xs ys os i 0 0 ∧ (∀ m, i + ys.length ≤ m → os.getD m 0 = 0) ∧ Below w.heap.size w wr) (fun iv _ => xs.length - (intOf iv).toNat)
  case atStart => exact ⟨0, List.replicate (xs.length + ys.length) 0, Nat.zero_le _, rfl, by simp, Rw.made w _, Nm.Dg.replicate _, Nm.MulAt.zero _ _ _ (Nm.val_replicate _), fun m _ => Nm.getD_replicate _ m, (by repeat (first | exact Below.refl _ _ | refine Below.drew ?_ | refine bel_dn ?_ _ | refine bel_al ?_ _ | refine Below.setCell ?_ (by first | omega | (simp; done) | (simp; omega)) _ | refine Below.alloc ?_ (by first | omega | (simp; done) | (simp; omega)) _))⟩
  case round =>
    obtain ⟨i, os, hi, rfl, hol, hrw, hdo, hmul, hzero, hb⟩ := hrel
    have H0 := hid (And.intro hol (And.intro hdo (And.intro hmul hzero)))
    clear hol hdo hmul hzero
    by_cases hlt : i < xs.length
    · obtain ⟨b, off, rfl, hcx⟩ := HX3.out (by omega)
      have hca0 := hcx i hlt
      have hbl := World.block_lt_of_cell? w _ hca0
      have hca : wr.cell? ⟨b, off + i, none⟩ = some (.int .u32 (xs.getD i 0)) := (hb.cell (p := ⟨b, off + i, none⟩) hbl).trans hca0
      obtain ⟨ex0, ex1⟩ := dx.getD i
      obtain ⟨x, hxk⟩ : ∃ x, x = xs.getD i 0 := ⟨_, rfl⟩
      rw [← hxk] at hca ex0 ex1
      have HXK := hid hxk
      clear hxk hca0 hcx
      go_wp2_with fail
      go_loopw [8, 27] (fun cy jv wr => ∃ j : Nat, ∃ os : List Int, ∃ c : Int, j ≤ ys.length ∧ jv = .int .i64 j ∧ cy = .int .u64 c ∧ 0 ≤ c ∧ c < 4294967296 ∧ os.length = xs.length + ys.length ∧ Rw wr w.heap.size os ∧ Nm.Dg os ∧ Nm.MulAt xs ys os i j c ∧ (∀ m, i + ys.length ≤ m → os.getD m 0 = 0) ∧ Below w.heap.size w wr) (fun _ jv _ => ys.length - (intOf jv).toNat)
      case atStart => exact ⟨0, os, 0, Nat.zero_le _, rfl, rfl, by omega, by omega, H0.out.1, hrw, H0.out.2.1, H0.out.2.2.1, H0.out.2.2.2, hb⟩
      case round =>
        clear hrw hb H0 hca
        obtain ⟨j, os, c, hj, rfl, rfl, hc0, hc1, hol, hrw, hdo, hmul, hzero, hb⟩ := hrel
        have H0 := hid (And.intro hol (And.intro hdo (And.intro hmul hzero)))
        have hol1 : xs.length + ys.length ≤ os.length := by omega
        clear hol hdo hmul hzero
        by_cases hlj : j < ys.length
        · obtain ⟨b', off', rfl, hcy⟩ := HY3.out (by omega)
          have hcb0 := hcy j hlj
          have hcb : wr.cell? ⟨b', off' + j, none⟩ = some (.int .u32 (ys.getD j 0)) := (hb.cell (p := ⟨b', off' + j, none⟩) (World.block_lt_of_cell? w _ hcb0)).trans hcb0
          have hcell := hrw.cell (k := i + j) (by omega)
          have hfr := hrw.frozen (i + j)
          obtain ⟨ey0, ey1⟩ := dy.getD j
          obtain ⟨eo0, eo1⟩ := H0.out.2.1.getD (i + j)
          have hst := fun d c' => Nm.MulAt.step (d := d) (c' := c') H0.out.2.2.1 (show i + j < os.length by omega)
          obtain ⟨y, hyk⟩ : ∃ y, y = ys.getD j 0 := ⟨_, rfl⟩
          obtain ⟨o, hok⟩ : ∃ o, o = os.getD (i + j) 0 := ⟨_, rfl⟩
          rw [← hyk] at hcb ey0 ey1
          rw [← hok] at hcell eo0 eo1
          rw [← HXK.out, ← hyk, ← hok] at hst
          have HST := hid hst
          have hpb := Nm.prod_bound (x := x) (y := y) (o := o) (c := c) ⟨ex0, ex1⟩ ⟨ey0, ey1⟩ ⟨eo0, eo1⟩ ⟨hc0, hc1⟩
          obtain ⟨q0, q1, q2, q3, q4⟩ := hpb
          clear hst hyk hok hcb0 hcy
          go_wp2_with fail
          go_roundw
          case rel => exact ⟨j + 1, os.set (i + j) ((x * y + o + c) % 4294967296), (x * y + o + c) / 4294967296, by omega, by go_num, rfl, q4, q3, by rw [List.length_set]; exact H0.out.1, hrw.set (by omega) _, H0.out.2.1.set _ (by omega), HST.out _ _ (by omega), fun m hm => by rw [Nm.getD_set _ _ _ _ (by omega), if_neg (by omega)]; exact H0.out.2.2.2 m hm, hb.setCell (Nat.le_refl _) _⟩
          case measure => simp [intOf]; omega
        · obtain rfl : j = ys.length := by omega
          have hcell := hrw.cell (k := i + ys.length) (by omega)
          have hfr := hrw.frozen (i + ys.length)
          have hzo := H0.out.2.2.2 (i + ys.length) (Nat.le_refl _)
          have hst := Nm.MulAt.step (d := c) (c' := 0) H0.out.2.2.1 (show i + ys.length < os.length by omega) (by rw [hzo, Nm.getD_out (Nat.le_refl _)]; omega)
          have hnx := hst.next (by omega)
          rw [hzo] at hcell
          have HN := hid hnx
          clear hst hnx hzo
          go_wp2_with fail
          go_roundw
          case rel => exact ⟨i + 1, os.set (i + ys.length) c, by omega, by go_num, by rw [List.length_set]; exact H0.out.1, hrw.set (by omega) _, H0.out.2.1.set _ ⟨hc0, hc1⟩, HN.out, fun m hm => by rw [Nm.getD_set _ _ _ _ (by omega), if_neg (by omega)]; exact H0.out.2.2.2 m (by omega), hb.setCell (Nat.le_refl _) _⟩
          case measure => simp [intOf]; omega
    · obtain rfl : i = xs.length := by omega
      have hlen := H0.out.1
      have hown := hrw.own (base := w.heap.size) (Nat.le_refl _) (by unfold maxLen; omega)
      have hfull := H0.out.2.2.1.full (Nat.le_refl _)
      have HF := hid (And.intro hown (And.intro hfull hlen))
      clear hown hfull hlen
      go_wp2
      go_ret
      exact ⟨some ⟨w.heap.size, 0, none⟩, os.length, os, by rw [HF.out.2.2]; rfl, HF.out.1, H0.out.2.1, HF.out.2.1, by have := HF.out.2.2; omega, hb⟩
end Go.Proofs.YtapjclcjojadaaaGreatDoor
