/-
  What is needed of FU.
-/
import Derived.Test.YtmcflggionkhlaaGreatDoorF53
set_option maxHeartbeats 16000000
set_option maxRecDepth 1000000
namespace Go.Proofs.YtmcflggionkhlaaGreatDoor
set_option linter.unusedVariables false
set_option linter.unusedSimpArgs false
open Go.RowKit Go.Deep
theorem ftf_no (fm mode x y z : Int) (w : World) (hT : Tab w) (x0 : 0 ≤ x) (x1 : x < 18446744073709551616) (y0 : 0 ≤ y) (y1 : y < 18446744073709551616) (z0 : 0 ≤ z) (z1 : z < 18446744073709551616) (ho : (modeB mode && allB fm [x, y, z]) = false) :
    Calls Tryz.prog 26 #[.int .i64 fm, .int .i64 mode, .int .u64 x, .int .u64 y, .int .u64 z] w fun r w' => r = .returned (.tuple #[.int .u64 0, .int .i64 0, .bool false]) ∧ Below w.heap.size w w' := by
  have CF := hid (fun w' h h' => fok_impl fm mode (some ⟨w.heap.size, 0, none⟩) 3 [x, y, z] w' h h' (d64_3 x0 x1 y0 y1 z0 z1) (by simp))
  rw [ho] at CF
  have s3 := sl64_3 w x y z 24
  have bel0 : Below w.heap.size w (w.alloc (.cells #[.int .u64 x, .int .u64 y, .int .u64 z] 24)) := (by repeat (first | exact bz0 _ _ | refine bz1 ?_ | refine bz2 ?_ _ | refine bz3 ?_ _ | refine bz5 ?_ _ | refine bz6 ?_ _))
  clear ho
  go_enter Tryz.func26, Tryz.ntmps26
  go_wp2_with fail
  refine (CF.out _ (hT.below bel0) s3).mono ?_
  rintro r w1 ⟨rfl, hb1⟩
  go_wp2
  go_ret3
  exact ⟨rfl, (by repeat (first | exact bz0 _ _ | refine bz1 ?_ | refine bz2 ?_ _ | refine bz3 ?_ _ | refine bz4 ?_ hb1 | refine bz5 ?_ _ | refine bz6 ?_ _ | refine bz7 ?_ hb1))⟩
theorem ftf_nan (fm mode x y z : Int) (u : Value) (w : World) (hE : E3 u w) (x0 : 0 ≤ x) (x1 : x < 18446744073709551616) (y0 : 0 ≤ y) (y1 : y < 18446744073709551616) (z0 : 0 ≤ z) (z1 : z < 18446744073709551616) (ho : (modeB mode && allB fm [x, y, z]) = true) (sg1 inf1 G1 : Bool) (L1 : List Int) (E1 : Int) (n1 b1 : Bool) (sg2 inf2 G2 : Bool) (L2 : List Int) (E2 : Int) (n2 b2 : Bool) (hp : ProdAt u fm x y sg1 inf1 G1 L1 E1 n1 b1) (hz : NumAt u fm z sg2 inf2 G2 L2 E2 n2 b2) (hn : (n1 || n2) = true) (hl : L1.length ≤ 200) (hd : Nm.Dg L1) (B F : Int) (hB : B = nanOf fm) (hF : F = fl8 (b1 || b2)) :
    Calls Tryz.prog 26 #[.int .i64 fm, .int .i64 mode, .int .u64 x, .int .u64 y, .int .u64 z] w fun r w' => r = .returned (.tuple #[.int .u64 B, .int .i64 F, .bool true]) ∧ Below w.heap.size w w' := by
  have CF := hid (fun w' h h' => fok_impl fm mode (some ⟨w.heap.size, 0, none⟩) 3 [x, y, z] w' h h' (d64_3 x0 x1 y0 y1 z0 z1) (by simp))
  have hfm : fmtB fm = true := by
    have h : modeB mode = true ∧ allB fm [x, y, z] = true := by simpa using ho
    exact ok_fmt (all3l h.2).1
  rw [ho] at CF
  have CX := hid hp
  have CY := hid hz
  have s3 := sl64_3 w x y z 24
  have bel0 : Below w.heap.size w (w.alloc (.cells #[.int .u64 x, .int .u64 y, .int .u64 z] 24)) := (by repeat (first | exact bz0 _ _ | refine bz1 ?_ | refine bz2 ?_ _ | refine bz3 ?_ _ | refine bz5 ?_ _ | refine bz6 ?_ _))
  clear hp hz
  obtain ⟨bb, hbb⟩ : ∃ q, q = (b1 || b2) := ⟨_, rfl⟩
  rw [← hbb] at hF
  have CT := hid (fun p c ev hk w' h1 h2 h3 => told_any fm mode hfm sg1 inf1 G1 L1 E1 p c u ev true bb hk w' h1 h2 h3 hd hl 0 0 (fun h => by cases h) B F (by rw [hB]; rfl) (by rw [hF]; unfold tdF fl8; simp))
  clear ho hB hF hfm
  have hE0 := hE
  go_enter Tryz.func26, Tryz.ntmps26
  go_wp2_with fail
  refine (CF.out _ (hE.t.s.f.below bel0) s3).mono ?_
  rintro r w1 ⟨rfl, hb1⟩
  have bel := bel_go bel0 hb1
  replace hE := hE.below bel
  clear s3 bel0 hb1 CF
  go_wp2_with fail
  refine (CX.out _ hE.ee).mono ?_
  rintro r w2 ⟨a1, c1, e1, rfl, k1, o1, hb⟩
  replace bel := bel_go bel hb
  replace hE := hE.below hb
  clear hb
  have hz2 := bel.size
  replace hE := hE.below (al_b _ (.cells #[.bool sg1, .bool inf1, .bool G1, .slice a1 L1.length c1, .int .i64 E1] 99))
  replace o1 := o1.below (al_b _ (.cells #[.bool sg1, .bool inf1, .bool G1, .slice a1 L1.length c1, .int .i64 E1] 99))
  replace bel := bel_al bel (.cells #[.bool sg1, .bool inf1, .bool G1, .slice a1 L1.length c1, .int .i64 E1] 99)
  have Bx1 := Q5.new w2 (.bool sg1) (.bool inf1) (.bool G1) (.slice a1 L1.length c1) (.int .i64 E1) 99
  obtain ⟨kx10, kx11, kx12, kx13, kx14, -, -, -, -, -⟩ := id Bx1
  go_wp2_with fail
  refine (CY.out _ hE.ee).mono ?_
  rintro r w3 ⟨a2, c2, e2, rfl, k2, o2, hb⟩
  clear kx10 kx11 kx12 kx13 kx14
  replace bel := bel_go bel hb
  replace hE := hE.below hb
  replace o1 := o1.below hb
  replace Bx1 := Bx1.below hb
  clear hb
  replace hE := hE.below (al_b _ (.cells #[.bool sg2, .bool inf2, .bool G2, .slice a2 L2.length c2, .int .i64 E2] 99))
  replace o1 := o1.below (al_b _ (.cells #[.bool sg2, .bool inf2, .bool G2, .slice a2 L2.length c2, .int .i64 E2] 99))
  replace Bx1 := Bx1.below (al_b _ (.cells #[.bool sg2, .bool inf2, .bool G2, .slice a2 L2.length c2, .int .i64 E2] 99))
  replace o2 := o2.below (al_b _ (.cells #[.bool sg2, .bool inf2, .bool G2, .slice a2 L2.length c2, .int .i64 E2] 99))
  replace bel := bel_al bel (.cells #[.bool sg2, .bool inf2, .bool G2, .slice a2 L2.length c2, .int .i64 E2] 99)
  have Bx2 := Q5.new w3 (.bool sg2) (.bool inf2) (.bool G2) (.slice a2 L2.length c2) (.int .i64 E2) 99
  obtain ⟨kx10, kx11, kx12, kx13, kx14, -, -, -, -, -⟩ := id Bx1
  obtain ⟨kx20, kx21, kx22, kx23, kx24, -, -, -, -, -⟩ := id Bx2
  go_wp2_with fail
  refine (worse_any k1 k2 _ hE.g).mono ?_
  rintro r w4 ⟨e3, rfl, k3, hb⟩
  clear kx10 kx11 kx12 kx13 kx14 kx20 kx21 kx22 kx23 kx24
  replace bel := bel_go bel hb
  replace hE := hE.below hb
  replace o1 := o1.below hb
  replace Bx1 := Bx1.below hb
  replace o2 := o2.below hb
  replace Bx2 := Bx2.below hb
  clear hb
  clear k1 k2
  rw [hn, ← hbb] at k3
  clear hbb hn
  have k4 := k3
  cases k3
  all_goals
    clear o2
    clear Bx2
    have sx := o1.sl
    obtain ⟨kx10, kx11, kx12, kx13, kx14, -, -, -, -, -⟩ := id Bx1
    go_wp2_with fail
    refine (CT.out a1 c1 _ k4 _ hE.t hE.g sx).mono ?_
    rintro r w5 ⟨rfl, hb⟩
    clear kx10 kx11 kx12 kx13 kx14
    replace bel := bel_go bel hb
    replace hE := hE.below hb
    replace o1 := o1.below hb
    replace Bx1 := Bx1.below hb
    replace sx := sx.below hb
    clear hb
    obtain ⟨kx10, kx11, kx12, kx13, kx14, -, -, -, -, -⟩ := id Bx1
    go_wp2
    all_goals go_ret3
    all_goals exact ⟨rfl, bel⟩
theorem ftf_num (fm mode x y z : Int) (u : Value) (w : World) (hE : E3 u w) (x0 : 0 ≤ x) (x1 : x < 18446744073709551616) (y0 : 0 ≤ y) (y1 : y < 18446744073709551616) (z0 : 0 ≤ z) (z1 : z < 18446744073709551616) (ho : (modeB mode && allB fm [x, y, z]) = true) (sg1 inf1 G1 : Bool) (L1 : List Int) (E1 : Int) (sg2 inf2 G2 : Bool) (L2 : List Int) (E2 : Int) (hp : ProdAt u fm x y sg1 inf1 G1 L1 E1 false false) (hz : NumAt u fm z sg2 inf2 G2 L2 E2 false false) (sg inf G : Bool) (L : List Int) (E : Int) (n b : Bool)
    (hm : ∀ (B : Nat) (a1 : Option Addr) (c1 : Nat) (a2 : Option Addr) (c2 : Nat) (w : World), B ≤ w.heap.size → Own w B a1 c1 L1 → Own w B a2 c2 L2 → Calls Tryz.prog 87 #[.agg #[.bool sg1, .bool inf1, .bool G1, .slice a1 L1.length c1, .int .i64 E1], .agg #[.bool sg2, .bool inf2, .bool G2, .slice a2 L2.length c2, .int .i64 E2], .int .i64 mode] w fun r w' => ∃ a' c' ev, r = .returned (.tuple #[.agg #[.bool sg, .bool inf, .bool G, .slice a' L.length c', .int .i64 E], ev]) ∧ EK u ev n b ∧ Own w' B a' c' L ∧ Below w.heap.size w w')
    (hl : L.length ≤ 200) (hd : Nm.Dg L) (rb rf : Int) (hro : n = false → inf = false → L.length ≠ 0 → RdO fm mode G L E = true ∧ rb = RdB fm mode G L E ∧ rf = RdF fm mode G L E) (B F : Int) (hB : B = tdB (nanOf fm) (infOf fm) (sgOf fm) n inf (decide (L.length = 0)) sg rb) (hF : F = tdF n b inf (decide (L.length = 0)) rf) :
    Calls Tryz.prog 26 #[.int .i64 fm, .int .i64 mode, .int .u64 x, .int .u64 y, .int .u64 z] w fun r w' => r = .returned (.tuple #[.int .u64 B, .int .i64 F, .bool true]) ∧ Below w.heap.size w w' := by
  have CF := hid (fun w' h h' => fok_impl fm mode (some ⟨w.heap.size, 0, none⟩) 3 [x, y, z] w' h h' (d64_3 x0 x1 y0 y1 z0 z1) (by simp))
  have hfm : fmtB fm = true := by
    have h : modeB mode = true ∧ allB fm [x, y, z] = true := by simpa using ho
    exact ok_fmt (all3l h.2).1
  rw [ho] at CF
  have CX := hid hp
  have CY := hid hz
  have s3 := sl64_3 w x y z 24
  have bel0 : Below w.heap.size w (w.alloc (.cells #[.int .u64 x, .int .u64 y, .int .u64 z] 24)) := (by repeat (first | exact bz0 _ _ | refine bz1 ?_ | refine bz2 ?_ _ | refine bz3 ?_ _ | refine bz5 ?_ _ | refine bz6 ?_ _))
  clear hp hz
  have CP := hid hm
  have CT := hid (fun p c ev hk w' h1 h2 h3 => told_any fm mode hfm sg inf G L E p c u ev n b hk w' h1 h2 h3 hd hl rb rf hro B F hB hF)
  clear ho hB hF hfm hm hro
  have hE0 := hE
  go_enter Tryz.func26, Tryz.ntmps26
  go_wp2_with fail
  refine (CF.out _ (hE.t.s.f.below bel0) s3).mono ?_
  rintro r w1 ⟨rfl, hb1⟩
  have bel := bel_go bel0 hb1
  replace hE := hE.below bel
  clear s3 bel0 hb1 CF
  go_wp2_with fail
  refine (CX.out _ hE.ee).mono ?_
  rintro r w2 ⟨a1, c1, e1, rfl, k1, o1, hb⟩
  replace bel := bel_go bel hb
  replace hE := hE.below hb
  clear hb
  have hz2 := bel.size
  replace hE := hE.below (al_b _ (.cells #[.bool sg1, .bool inf1, .bool G1, .slice a1 L1.length c1, .int .i64 E1] 99))
  replace o1 := o1.below (al_b _ (.cells #[.bool sg1, .bool inf1, .bool G1, .slice a1 L1.length c1, .int .i64 E1] 99))
  replace bel := bel_al bel (.cells #[.bool sg1, .bool inf1, .bool G1, .slice a1 L1.length c1, .int .i64 E1] 99)
  have Bx1 := Q5.new w2 (.bool sg1) (.bool inf1) (.bool G1) (.slice a1 L1.length c1) (.int .i64 E1) 99
  obtain ⟨kx10, kx11, kx12, kx13, kx14, -, -, -, -, -⟩ := id Bx1
  go_wp2_with fail
  refine (CY.out _ hE.ee).mono ?_
  rintro r w3 ⟨a2, c2, e2, rfl, k2, o2, hb⟩
  clear kx10 kx11 kx12 kx13 kx14
  replace bel := bel_go bel hb
  replace hE := hE.below hb
  replace o1 := o1.below hb
  replace Bx1 := Bx1.below hb
  clear hb
  replace hE := hE.below (al_b _ (.cells #[.bool sg2, .bool inf2, .bool G2, .slice a2 L2.length c2, .int .i64 E2] 99))
  replace o1 := o1.below (al_b _ (.cells #[.bool sg2, .bool inf2, .bool G2, .slice a2 L2.length c2, .int .i64 E2] 99))
  replace Bx1 := Bx1.below (al_b _ (.cells #[.bool sg2, .bool inf2, .bool G2, .slice a2 L2.length c2, .int .i64 E2] 99))
  replace o2 := o2.below (al_b _ (.cells #[.bool sg2, .bool inf2, .bool G2, .slice a2 L2.length c2, .int .i64 E2] 99))
  replace bel := bel_al bel (.cells #[.bool sg2, .bool inf2, .bool G2, .slice a2 L2.length c2, .int .i64 E2] 99)
  have Bx2 := Q5.new w3 (.bool sg2) (.bool inf2) (.bool G2) (.slice a2 L2.length c2) (.int .i64 E2) 99
  obtain ⟨kx10, kx11, kx12, kx13, kx14, -, -, -, -, -⟩ := id Bx1
  obtain ⟨kx20, kx21, kx22, kx23, kx24, -, -, -, -, -⟩ := id Bx2
  go_wp2_with fail
  refine (worse_any k1 k2 _ hE.g).mono ?_
  rintro r w4 ⟨e3, rfl, k3, hb⟩
  clear kx10 kx11 kx12 kx13 kx14 kx20 kx21 kx22 kx23 kx24
  replace bel := bel_go bel hb
  replace hE := hE.below hb
  replace o1 := o1.below hb
  replace Bx1 := Bx1.below hb
  replace o2 := o2.below hb
  replace Bx2 := Bx2.below hb
  clear hb
  clear k1 k2
  rw [show (false || false) = false from rfl] at k3
  cases k3

  obtain ⟨kx10, kx11, kx12, kx13, kx14, -, -, -, -, -⟩ := id Bx1
  obtain ⟨kx20, kx21, kx22, kx23, kx24, -, -, -, -, -⟩ := id Bx2
  go_wp2_with fail
  refine (CP.out 0 a1 c1 a2 c2 _ (Nat.zero_le _) (o1.base (Nat.zero_le _)) (o2.base (Nat.zero_le _))).mono ?_
  rintro r w9 ⟨a3, c3, ev, rfl, kv, o3, hb⟩
  clear kx10 kx11 kx12 kx13 kx14 kx20 kx21 kx22 kx23 kx24
  have Bx := Bx1.below hb
  replace bel := bel_go bel hb
  clear hb Bx1 Bx2 o1 o2
  obtain ⟨x0, x1, x2, x3, x4, f0, f1, f2, f3, f4⟩ := id Bx
  have ap := own_apart o3 _ x0
  have belS := ((((bel.setCell (p := ⟨w2.heap.size, 0, none⟩) (by simpa using hz2) (.bool sg)).setCell (p := ⟨w2.heap.size, 1, none⟩) (by simpa using hz2) (.bool inf)).setCell (p := ⟨w2.heap.size, 2, none⟩) (by simpa using hz2) (.bool G)).setCell (p := ⟨w2.heap.size, 3, none⟩) (by simpa using hz2) (.slice a3 L.length c3)).setCell (p := ⟨w2.heap.size, 4, none⟩) (by simpa using hz2) (.int .i64 E)
  have T9 := hE0.below belS
  have s9 := own_keep o3 ap (.bool sg) (.bool inf) (.bool G) (.slice a3 L.length c3) (.int .i64 E)
  clear ap o3
  go_wp2_with fail
  refine (CT.out a3 c3 ev kv _ T9.t T9.g s9).mono ?_
  rintro r w10 ⟨rfl, hb⟩
  go_wp2
  go_ret3
  exact ⟨rfl, bel_go belS hb⟩
theorem pp_z {fm x y z : Int} (hx : okF fm x = true) (hy : okF fm y = true) (hz : okF fm z = true) (fx : finB fm x = true) (fy : finB fm y = true) (fz : finB fm z = true) (em : Int) (hem : em = min (nE fm x + nE fm y) (nE fm z)) (v : Int) (hv : v = nZ fm x * nZ fm y * 2 ^ (nE fm x + nE fm y - em).toNat + nZ fm z * 2 ^ (nE fm z - em).toNat) :
    ppI fm x y z = v * 2 ^ (em - 2 * unQ fm).toNat ∧ 0 ≤ em - 2 * unQ fm := by
  obtain ⟨-, -, -, ex, -, -⟩ := fin_facts hx fx
  obtain ⟨-, -, -, ey, -, -⟩ := fin_facts hy fy
  obtain ⟨-, -, -, ez, -, -⟩ := fin_facts hz fz
  have qx := pE_q fx
  have qy := pE_q fy
  have qz := pE_q fz
  rw [← ex] at qx
  rw [← ey] at qy
  rw [← ez] at qz
  have hq := unq_bd fm
  refine ⟨?_, by omega⟩
  unfold ppI
  rw [un_nZ hz fz, hv, Int.add_mul, Int.mul_assoc (nZ fm x * nZ fm y), Int.mul_assoc (nZ fm z), Int.mul_assoc (nZ fm z), ← Int.pow_add, ← Int.pow_add, ← Int.pow_add]
  rw [show (nE fm x + nE fm y - em).toNat + (em - 2 * unQ fm).toNat = (nE fm x + nE fm y - 2 * unQ fm).toNat by omega, show (nE fm z - em).toNat + (em - 2 * unQ fm).toNat = (nE fm z - unQ fm).toNat + (-unQ fm).toNat by omega]
theorem bl_shz (z : Int) (n K : Nat) (h : bitLen z.natAbs + n ≤ 6400) : (Nm.wl (z * 2 ^ n)).length ≤ 200 := by
  have h1 : bitLen (z * 2 ^ n).natAbs ≤ 6400 := by
    rw [Int.natAbs_mul, Int.natAbs_pow]
    by_cases h0 : z.natAbs = 0
    · rw [h0, Nat.zero_mul, Nm.bl_zero]; omega
    · have := Nm.bl_mul h0 n
      show bitLen (z.natAbs * 2 ^ n) ≤ _
      omega
  unfold Nm.wl; exact lim_len (k := 200) (by omega)
theorem ftf_all (fm mode x y z : Int) (u : Value) (w : World) (hE : E3 u w) (x0 : 0 ≤ x) (x1 : x < 18446744073709551616) (y0 : 0 ≤ y) (y1 : y < 18446744073709551616) (z0 : 0 ≤ z) (z1 : z < 18446744073709551616) (B F : Int) (O : Bool) (hB : B = ftB fm mode x y z) (hF : F = ftF fm mode x y z) (hO : O = ftO fm mode x y z) :
    Calls Tryz.prog 26 #[.int .i64 fm, .int .i64 mode, .int .u64 x, .int .u64 y, .int .u64 z] w fun r w' => r = .returned (.tuple #[.int .u64 B, .int .i64 F, .bool O]) ∧ Below w.heap.size w w' := by
  cases ho : ftO fm mode x y z
  · obtain ⟨e1, e2⟩ := ft_no ho
    rw [hB, hF, hO, e1, e2, ho]
    exact ftf_no fm mode x y z w hE.t.s.f x0 x1 y0 y1 z0 z1 ho
  obtain ⟨hm, ha⟩ : modeB mode = true ∧ allB fm [x, y, z] = true := by have : (modeB mode && allB fm [x, y, z]) = true := ho; simpa using this
  obtain ⟨hx, hy, hz⟩ := all3l ha
  have hfm := ok_fmt hx
  have hmu : muO fm mode x y = true := by unfold muO allB; simp [hm, hx, hy]
  obtain ⟨sg, inf, G, L, E, hP, hl, hd, he0, he1, hfa⟩ := prod_all fm mode x y u x0 x1 y0 y1 hmu
  have NZ := numAt (u := u) hz z0 z1
  rw [hO, ho]
  cases hn : (nanB fm x || nanB fm y || odd2 fm x y || nanB fm z)
  rotate_left
  · refine ftf_nan fm mode x y z u w hE x0 x1 y0 y1 z0 z1 ho _ _ _ _ _ _ _ _ _ _ _ _ _ _ hP NZ hn hl hd B F ?_ ?_
    · rw [hB]; unfold ftB ftV; rw [ho, if_pos rfl]
      cases h1 : nanB fm x <;> cases h2 : nanB fm y <;> cases h3 : nanB fm z <;> cases h4 : odd2 fm x y <;> simp [h1, h2, h3, h4] at hn ⊢
    · rw [hF]; unfold ftF ftG; rw [ho, if_pos rfl]
      have nb : ∀ v, okF fm v = true → nanB fm v = false → nB fm v = false := fun v hv h => by
        have := nan_ofE hv; rw [h] at this
        unfold nB; rw [beq_eq_false_iff_ne]; intro h'; rw [h'] at this; exact absurd this (by decide)
      cases h0 : (nanB fm x || (nanB fm y || nanB fm z))
      · have h0' : nanB fm x = false ∧ nanB fm y = false ∧ nanB fm z = false := by simpa using h0
        have h4 : odd2 fm x y = true := by rw [h0'.1, h0'.2.1, h0'.2.2] at hn; simpa using hn
        rw [nb x hx h0'.1, nb y hy h0'.2.1, nb z hz h0'.2.2, h4]; rfl
      · rw [if_pos rfl]; congr 1
        cases nB fm x <;> cases nB fm y <;> cases nB fm z <;> cases odd2 fm x y <;> rfl
  obtain ⟨⟨⟨nx, ny⟩, hod⟩, nz⟩ : ((nanB fm x = false ∧ nanB fm y = false) ∧ odd2 fm x y = false) ∧ nanB fm z = false := by simpa only [Bool.or_eq_false_iff] using hn
  have hn3 : (nanB fm x || (nanB fm y || nanB fm z)) = false := by rw [nx, ny, nz]; rfl
  have hB' : B = ftV fm mode x y z := by rw [hB]; unfold ftB; rw [ho, if_pos rfl, hn3]; rfl
  have hF' : F = ftG fm mode x y z := by rw [hF]; unfold ftF; rw [ho, if_pos rfl, hn3]; rfl
  unfold ftV at hB'
  unfold ftG at hF'
  rw [hod] at hB' hF'
  obtain ⟨hsg, hinf, hfin⟩ := hfa (by rw [nx, ny, hod]; rfl)
  have nb : ∀ v, okF fm v = true → nanB fm v = false → nB fm v = false := fun v hv h => by
    have := nan_ofE hv; rw [h] at this
    unfold nB; rw [beq_eq_false_iff_ne]; intro h'; rw [h'] at this; exact absurd this (by decide)
  rw [nx, ny, hod, nb x hx nx, nb y hy ny] at hP
  rw [nz, nb z hz nz] at NZ
  have sz : nS fm z = sigB fm z := by unfold nS; rw [nz]; rfl
  subst hsg
  cases hi : (nI fm x || nI fm y)
  · rw [hi] at hinf hB' hF'
    subst hinf
    obtain ⟨fx, fy, rfl, rfl, rfl⟩ := hfin rfl
    cases iz : nI fm z
    · rw [iz] at hB' hF' NZ
      have fz := (nan_cases hz nz).resolve_right (by rw [iz]; decide)
      obtain ⟨-, b1, b2⟩ := nZ_bd fm x
      obtain ⟨-, b3, b4⟩ := nZ_bd fm y
      obtain ⟨b7, b5, b6⟩ := nZ_bd fm z
      obtain ⟨em, hem⟩ : ∃ em, em = min (nE fm x + nE fm y) (nE fm z) := ⟨_, rfl⟩
      obtain ⟨v, hv⟩ : ∃ v, v = nZ fm x * nZ fm y * 2 ^ (nE fm x + nE fm y - em).toNat + nZ fm z * 2 ^ (nE fm z - em).toNat := ⟨_, rfl⟩
      obtain ⟨hu, hq⟩ := pp_z hx hy hz fx fy fz em hem v hv
      have hqb := unq_bd fm
      have hul := pp_len fm x y z
      have hzl : (Nm.wl v).length ≤ 200 := by
        have h1 := len_bl (x := (ppI fm x y z).natAbs) (k := 200) hul
        have h2 := Nm.bl_mono (sum_abs hu)
        unfold Nm.wl; exact lim_len (k := 200) (by omega)
      have lx := bl_shz (nZ fm x * nZ fm y) (nE fm x + nE fm y - em).toNat 0 (by have h2 : bitLen (nZ fm x * nZ fm y).natAbs ≤ 106 := (Nm.bl_le_iff _ 106).2 (nZm_bd fm x y); omega)
      have lz := bl_shz (nZ fm z) (nE fm z - em).toNat 0 (by have h2 : bitLen (nZ fm z).natAbs ≤ 53 := (Nm.bl_le_iff _ 53).2 b7; omega)
      have hz0 : ppI fm x y z = 0 ↔ v = 0 := by
        rw [hu]; constructor
        · intro h
          rcases Int.mul_eq_zero.1 h with h' | h'
          · exact h'
          · exact absurd h' (Int.ne_of_gt (Int.pow_pos (by decide)))
        · intro h; rw [h, Int.zero_mul]
      have hl0 : decide ((Nm.wl v).length = 0) = decide (ppI fm x y z = 0) := by
        rw [Bool.eq_iff_iff, decide_eq_true_eq, decide_eq_true_eq, hz0]; unfold Nm.wl; rw [Nm.lim_length_zero]; omega
      have hro : v ≠ 0 → RdO fm mode (Nm.wn v) (Nm.wl v) em = true ∧ RdB fm mode (Nm.wn (ppI fm x y z)) (Nm.wl (ppI fm x y z)) (2 * unQ fm) = RdB fm mode (Nm.wn v) (Nm.wl v) em ∧ RdF fm mode (Nm.wn (ppI fm x y z)) (Nm.wl (ppI fm x y z)) (2 * unQ fm) = RdF fm mode (Nm.wn v) (Nm.wl v) em := by
        intro hzz
        have o1 := rdo_any (fm := fm) (mode := mode) (z := v) (e := em) hfm hm hzl (by omega) (by omega)
        have o2 := rdo_any (fm := fm) (mode := mode) (z := ppI fm x y z) (e := 2 * unQ fm) hfm hm hul (by omega) (by omega)
        have hdd : 2 * unQ fm = em - ((em - 2 * unQ fm).toNat : Nat) := by omega
        rw [hu] at o2 ⊢
        rw [hdd] at o2 ⊢
        have e2 : (em - (em - ((em - 2 * unQ fm).toNat : Nat))).toNat = (em - 2 * unQ fm).toNat := by omega
        rw [e2] at o2 ⊢
        obtain ⟨q1, q2⟩ := Rd_scale fm mode v (em - 2 * unQ fm).toNat em hzz o1 o2
        exact ⟨o1, q1, q2⟩
      have hzn : (Nm.wl v).length ≠ 0 → v ≠ 0 := by
        intro h e; apply h; rw [e]; have : Nm.wl 0 = [] := Nm.lim_zero
        rw [this]; rfl
      refine ftf_num fm mode x y z u w hE x0 x1 y0 y1 z0 z1 ho _ _ _ _ _ _ _ _ _ _ hP NZ (plN (decide ((Nm.wl v).length = 0)) (sigB fm x != sigB fm y) (nS fm z) (Nm.wn v) mode) false (Nm.wn v) (Nm.wl v) em false false
        (fun Q a1 c1 a2 c2 w hQ h1 h2 => (plus_fin (sigB fm x != sigB fm y) (Nm.wn (nZ fm x * nZ fm y)) (Nm.wl (nZ fm x * nZ fm y)) (nE fm x + nE fm y) a1 c1 (nS fm z) (Nm.wn (nZ fm z)) (Nm.wl (nZ fm z)) (nE fm z) a2 c2 mode w em hem (by omega) (by omega) h1.sl h2.sl (Nm.wn (nZ fm x * nZ fm y * 2 ^ (nE fm x + nE fm y - em).toNat)) (Nm.wl (nZ fm x * nZ fm y * 2 ^ (nE fm x + nE fm y - em).toNat)) (Nm.wn (nZ fm z * 2 ^ (nE fm z - em).toNat)) (Nm.wl (nZ fm z * 2 ^ (nE fm z - em).toNat)) (Nm.wn v) (Nm.wl v) _ rfl hzl
          (fun w' h => wsh_at2 _ a1 c1 _ (nE fm x + nE fm y - em) w' h (Nm.wl_dg _) (okB_wl (nZm_len fm x y)) (by omega) (by omega) _ (shz _ _ (by omega)).symm lx)
          (fun w' h => wsh_at2 _ a2 c2 _ (nE fm z - em) w' h (Nm.wl_dg _) (okB_wl (nZ_len fm z)) (by omega) (by omega) _ (shz _ _ (by omega)).symm lz)
          (fun av cv aw cw w' h h' => add_ok av aw cv cw w' h h' (Nm.wl_dg _) (Nm.wl_dg _) (okB_wl lx) (okB_wl lz) v (by rw [Nm.wv_out, Nm.wv_out]; exact hv) (by unfold Nm.fits; exact decide_eq_true hzl))).mono fun r w' ⟨a, c, hr, ho, hb⟩ => ⟨a, c, _, hr, EK.no, ho.base hQ, hb⟩)
        hzl (Nm.wl_dg _) (RdB fm mode (Nm.wn (ppI fm x y z)) (Nm.wl (ppI fm x y z)) (2 * unQ fm)) (RdF fm mode (Nm.wn (ppI fm x y z)) (Nm.wl (ppI fm x y z)) (2 * unQ fm)) (fun _ _ h => hro (hzn h)) B F ?_ ?_
      · rw [hB', hl0, sz]; unfold tdB plN
        by_cases h0 : ppI fm x y z = 0
        · rw [decide_eq_true h0]; simp [h0]
        · rw [decide_eq_false h0]; simp [h0]
      · rw [hF', hl0]; unfold tdF
        by_cases h0 : ppI fm x y z = 0
        · rw [decide_eq_true h0]; simp [h0]
        · rw [decide_eq_false h0]; simp [h0]
    · rw [iz] at hB' hF' NZ
      obtain ⟨-, ez⟩ := inf_eq hz hz z0 z1 z0 z1 iz iz
      refine ftf_num fm mode x y z u w hE x0 x1 y0 y1 z0 z1 ho _ _ _ _ _ _ _ _ _ _ hP NZ (nS fm z) true (Nm.wn (nZ fm z)) (Nm.wl (nZ fm z)) (nE fm z) false false
        (fun Q a1 c1 a2 c2 w hQ h1 h2 => (plus_inf2 (sigB fm x != sigB fm y) false _ _ _ a1 c1 (nS fm z) true (Nm.wn (nZ fm z)) (Nm.wl (nZ fm z)) (nE fm z) a2 c2 mode w rfl rfl).mono fun r w' ⟨hr, hb⟩ => ⟨a2, c2, _, hr, EK.no, h2.below hb, hb⟩)
        (nZ_len fm z) (Nm.wl_dg _) 0 0 (fun _ h => by cases h) B F ?_ ?_
      · rw [hB', sz]; unfold tdB; simp; exact ez
      · rw [hF']; unfold tdF; simp
  · rw [hi] at hinf hB' hF'
    subst hinf
    obtain ⟨j1, j2, j3, j4⟩ := ftI_ok hfm x y
    have hB2 : B = aB fm mode (ftI fm x y) z := hB'
    have hF2 : F = aF fm mode (ftI fm x y) z := hF'
    unfold aB at hB2
    unfold aF at hF2
    rw [j3, Bool.true_and] at hB2 hF2
    cases hoz : (nI fm z && (ftI fm x y != z))
    · have hor : nI fm z = false ∨ ((sigB fm x != sigB fm y) != nS fm z) = false := by
        cases iz : nI fm z
        · exact .inl rfl
        · right
          rw [iz] at hoz
          rw [sz, ← j4, ← (inf_eq j1 hz (ftI_bd fm x y).1 (ftI_bd fm x y).2 z0 z1 j3 iz).1]; simpa using hoz
      refine ftf_num fm mode x y z u w hE x0 x1 y0 y1 z0 z1 ho _ _ _ _ _ _ _ _ _ _ hP NZ (sigB fm x != sigB fm y) true G L E false false
        (fun Q a1 c1 a2 c2 w hQ h1 h2 => (plus_inf1 (sigB fm x != sigB fm y) true G L E a1 c1 (nS fm z) (nI fm z) (Nm.wn (nZ fm z)) (Nm.wl (nZ fm z)) (nE fm z) a2 c2 mode w rfl hor).mono fun r w' ⟨hr, hb⟩ => ⟨a1, c1, _, hr, EK.no, h1.below hb, hb⟩)
        hl hd 0 0 (fun _ h => by cases h) B F ?_ ?_
      · rw [hB2, hoz]; unfold tdB; simp; rfl
      · rw [hF2, hoz]; unfold tdF; simp
    · obtain ⟨iz, hxz⟩ : nI fm z = true ∧ (ftI fm x y != z) = true := by rw [Bool.and_eq_true] at hoz; exact hoz
      rw [iz] at NZ
      have hss : ((sigB fm x != sigB fm y) != nS fm z) = true := by rw [sz, ← j4, ← (inf_eq j1 hz (ftI_bd fm x y).1 (ftI_bd fm x y).2 z0 z1 j3 iz).1]; exact hxz
      refine ftf_num fm mode x y z u w hE x0 x1 y0 y1 z0 z1 ho _ _ _ _ _ _ _ _ _ _ hP NZ false false false [] 0 true true
        (fun Q a1 c1 a2 c2 w hQ h1 h2 => (plus_odd (sigB fm x != sigB fm y) true G L E a1 c1 (nS fm z) true (Nm.wn (nZ fm z)) (Nm.wl (nZ fm z)) (nE fm z) a2 c2 mode w rfl rfl hss).mono fun r w' ⟨s, hr, hb⟩ => ⟨none, 0, _, hr, EK.bad s, Own.nil _ _, hb⟩)
        (by simp) Nm.Dg.nil 0 0 (fun h => by cases h) B F ?_ ?_
      · rw [hB2, hoz]; rfl
      · rw [hF2, hoz]; rfl
end Go.Proofs.YtmcflggionkhlaaGreatDoor
