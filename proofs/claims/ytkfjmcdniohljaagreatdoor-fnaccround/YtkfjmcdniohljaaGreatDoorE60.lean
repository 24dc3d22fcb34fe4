/-
  What is needed of AccJ, LH, DAd.
-/
import Derived.Test.YtkfjmcdniohljaaGreatDoorE51
import Derived.Test.YtkfjmcdniohljaaGreatDoorE57
set_option maxHeartbeats 16000000
set_option maxRecDepth 1000000
namespace Go.Proofs.YtkfjmcdniohljaaGreatDoor
set_option linter.unusedVariables false
set_option linter.unusedSimpArgs false
open Go.RowKit Go.Deep
theorem round_spec_no (fm : Int) (ng : Bool) (T : Int) (nn bd pl mi am : Bool) (p : Option Addr) (cap : Nat) (zs : List Int) (mode : Int) (w : World) (hs : Sl .u32 w (.slice p zs.length cap) zs) (hl : zs.length ≤ 1048576) (hk : arO fm ng zs T nn bd pl mi am mode = false) :
    Calls Tryz.prog 56 #[.agg #[.int .i64 fm, .bool ng, .slice p zs.length cap, .int .i64 T, .bool nn, .bool bd, .bool pl, .bool mi, .bool am], .int .i64 mode] w fun e w' => e = .returned (.tuple #[.int .u64 0, .int .i64 0, .bool false]) ∧ Below w.heap.size w w' := by
  have C := hid (accok_spec fm ng T nn bd pl mi am p cap zs (w.alloc (.cells #[.int .i64 fm, .bool ng, .slice p zs.length cap, .int .i64 T, .bool nn, .bool bd, .bool pl, .bool mi, .bool am] 50)) (hs.alloc _) hl)
  have CM := hid (fun w' => mode_spec mode w')
  unfold arO at hk
  cases hb : accB fm ng zs T nn bd pl mi am
  · rw [hb] at C
    clear hb hk
    go_enter Tryz.func56, Tryz.ntmps56
    go_wp2_with fail
    refine C.out.mono ?_
    rintro e w1 ⟨rfl, hb1⟩
    go_wp2
    go_ret3
    exact ⟨rfl, (by repeat (first | exact bz0 _ _ | refine bz1 ?_ | refine bz2 ?_ _ | refine bz3 ?_ _ | refine bz4 ?_ hb1 | refine bz5 ?_ _ | refine bz6 ?_ _ | refine bz7 ?_ hb1))⟩
  · have hm : modeB mode = false := by rw [hb] at hk; simpa using hk
    rw [hb] at C
    rw [hm] at CM
    clear hb hk hm
    go_enter Tryz.func56, Tryz.ntmps56
    go_wp2_with fail
    refine C.out.mono ?_
    rintro e w1 ⟨rfl, hb1⟩
    go_wp2_with fail
    refine (CM.out _).mono ?_
    rintro e w2 ⟨rfl, rfl⟩
    go_wp2
    go_ret3
    exact ⟨rfl, (by repeat (first | exact bz0 _ _ | refine bz1 ?_ | refine bz2 ?_ _ | refine bz3 ?_ _ | refine bz4 ?_ hb1 | refine bz5 ?_ _ | refine bz6 ?_ _ | refine bz7 ?_ hb1))⟩
theorem sQB_32 (w : World) : Calls Tryz.prog 133 #[.int .i64 32] w fun e w' => e = .returned (.int .i64 (-149)) ∧ Below w.heap.size w w' :=
  (sQ_32 w).mono fun e w' ⟨h, h'⟩ => ⟨h, h' ▸ Below.refl _ _⟩
theorem round_spec_32 (fm : Int) (ng : Bool) (T : Int) (nn bd pl mi am : Bool) (p : Option Addr) (cap : Nat) (zs : List Int) (mode : Int) (w : World) (hs : Sl .u32 w (.slice p zs.length cap) zs) (hz : Nm.Dg zs) (hl : zs.length ≤ 1048576) (hf : fm = 32) (hk : accB fm ng zs T nn bd pl mi am = true) (hm : modeB mode = true) (X Y : Int) (hX : X = clB 2143289344 2139095040 2147483648 mode T nn bd pl mi am (decide (zs.length = 0)) (RdB 32 mode ng zs (-298))) (hY : Y = clF nn bd pl mi (decide (zs.length = 0)) (RdF 32 mode ng zs (-298))) :
    Calls Tryz.prog 56 #[.agg #[.int .i64 fm, .bool ng, .slice p zs.length cap, .int .i64 T, .bool nn, .bool bd, .bool pl, .bool mi, .bool am], .int .i64 mode] w fun e w' => e = .returned (.tuple #[.int .u64 X, .int .i64 Y, .bool true]) ∧ Below w.heap.size w w' := by
  have C := hid (accok_spec fm ng T nn bd pl mi am p cap zs (w.alloc (.cells #[.int .i64 fm, .bool ng, .slice p zs.length cap, .int .i64 T, .bool nn, .bool bd, .bool pl, .bool mi, .bool am] 50)) (hs.alloc _) hl)
  have CM := hid (fun w' => mode_spec mode w')
  have CR := hid (fun w' h => close_32 fm hf ng p zs.length cap T nn bd pl mi am mode ng zs (-298) p cap w' h hz hl _ _ rfl rfl (rdo_32 hm (acc_ok hk)) (bad_nn hk))
  rw [hk] at C
  rw [hm] at CM
  rw [← hX, ← hY] at CR
  clear hX hY hk hm hz
  subst hf
  go_enter Tryz.func56, Tryz.ntmps56
  go_wp2_with fail
  refine C.out.mono ?_
  rintro e w1 ⟨rfl, hb1⟩
  have q1 := (Q9.new w (.int .i64 32) (.bool ng) (.slice p zs.length cap) (.int .i64 T) (.bool nn) (.bool bd) (.bool pl) (.bool mi) (.bool am) 50).below hb1
  have s1 := (hs.alloc _).below hb1
  have bel1 : Below w.heap.size w w1 := (by repeat (first | exact bz0 _ _ | refine bz1 ?_ | refine bz2 ?_ _ | refine bz3 ?_ _ | refine bz4 ?_ hb1 | refine bz5 ?_ _ | refine bz6 ?_ _ | refine bz7 ?_ hb1))
  clear hb1 C
  go_wp2_with fail
  refine (CM.out _).mono ?_
  rintro e w2 ⟨rfl, rfl⟩
  have cx := q1.cs
  go_wp2_with fail
  go_region_held3 (fun w' => w'.cell? ⟨w.heap.size, 0, none⟩ = some (.int .i64 32) ∧ w'.cell? ⟨w.heap.size, 1, none⟩ = some (.bool ng) ∧ w'.cell? ⟨w.heap.size, 2, none⟩ = some (.slice p zs.length cap) ∧ w'.cell? ⟨w.heap.size, 3, none⟩ = some (.int .i64 T) ∧ w'.cell? ⟨w.heap.size, 4, none⟩ = some (.bool nn) ∧ w'.cell? ⟨w.heap.size, 5, none⟩ = some (.bool bd) ∧ w'.cell? ⟨w.heap.size, 6, none⟩ = some (.bool pl) ∧ w'.cell? ⟨w.heap.size, 7, none⟩ = some (.bool mi) ∧ w'.cell? ⟨w.heap.size, 8, none⟩ = some (.bool am)) (first | assumption | exact cx)
    (first
      | (go_at_call 133; refine (sQB_32 _).mono ?_; rintro e q0 ⟨rfl, hq0⟩; have hb2 : Below w2.heap.size w2 q0 := bel_go (Below.drew (Below.refl _ _)) hq0; have f1 := (q1.below hb2).cs)
      | (go_at_call 153; refine (CR.out _ (s1.below hb2)).mono ?_; rintro e w3 ⟨rfl, hb3⟩; have f2 := ((q1.below hb2).below hb3).cs))
  go_wp2
  go_ret3
  exact ⟨rfl, bel_go (bel_go bel1 hb2) hb3⟩
theorem sQB_64 (w : World) : Calls Tryz.prog 133 #[.int .i64 64] w fun e w' => e = .returned (.int .i64 (-1074)) ∧ Below w.heap.size w w' :=
  (sQ_64 w).mono fun e w' ⟨h, h'⟩ => ⟨h, h' ▸ Below.refl _ _⟩
theorem round_spec_64 (fm : Int) (ng : Bool) (T : Int) (nn bd pl mi am : Bool) (p : Option Addr) (cap : Nat) (zs : List Int) (mode : Int) (w : World) (hs : Sl .u32 w (.slice p zs.length cap) zs) (hz : Nm.Dg zs) (hl : zs.length ≤ 1048576) (hf : fm = 64) (hk : accB fm ng zs T nn bd pl mi am = true) (hm : modeB mode = true) (X Y : Int) (hX : X = clB 9221120237041090560 9218868437227405312 9223372036854775808 mode T nn bd pl mi am (decide (zs.length = 0)) (RdB 64 mode ng zs (-2148))) (hY : Y = clF nn bd pl mi (decide (zs.length = 0)) (RdF 64 mode ng zs (-2148))) :
    Calls Tryz.prog 56 #[.agg #[.int .i64 fm, .bool ng, .slice p zs.length cap, .int .i64 T, .bool nn, .bool bd, .bool pl, .bool mi, .bool am], .int .i64 mode] w fun e w' => e = .returned (.tuple #[.int .u64 X, .int .i64 Y, .bool true]) ∧ Below w.heap.size w w' := by
  have C := hid (accok_spec fm ng T nn bd pl mi am p cap zs (w.alloc (.cells #[.int .i64 fm, .bool ng, .slice p zs.length cap, .int .i64 T, .bool nn, .bool bd, .bool pl, .bool mi, .bool am] 50)) (hs.alloc _) hl)
  have CM := hid (fun w' => mode_spec mode w')
  have CR := hid (fun w' h => close_64 fm hf ng p zs.length cap T nn bd pl mi am mode ng zs (-2148) p cap w' h hz hl _ _ rfl rfl (rdo_64 hm (acc_ok hk)) (bad_nn hk))
  rw [hk] at C
  rw [hm] at CM
  rw [← hX, ← hY] at CR
  clear hX hY hk hm hz
  subst hf
  go_enter Tryz.func56, Tryz.ntmps56
  go_wp2_with fail
  refine C.out.mono ?_
  rintro e w1 ⟨rfl, hb1⟩
  have q1 := (Q9.new w (.int .i64 64) (.bool ng) (.slice p zs.length cap) (.int .i64 T) (.bool nn) (.bool bd) (.bool pl) (.bool mi) (.bool am) 50).below hb1
  have s1 := (hs.alloc _).below hb1
  have bel1 : Below w.heap.size w w1 := (by repeat (first | exact bz0 _ _ | refine bz1 ?_ | refine bz2 ?_ _ | refine bz3 ?_ _ | refine bz4 ?_ hb1 | refine bz5 ?_ _ | refine bz6 ?_ _ | refine bz7 ?_ hb1))
  clear hb1 C
  go_wp2_with fail
  refine (CM.out _).mono ?_
  rintro e w2 ⟨rfl, rfl⟩
  have cx := q1.cs
  go_wp2_with fail
  go_region_held3 (fun w' => w'.cell? ⟨w.heap.size, 0, none⟩ = some (.int .i64 64) ∧ w'.cell? ⟨w.heap.size, 1, none⟩ = some (.bool ng) ∧ w'.cell? ⟨w.heap.size, 2, none⟩ = some (.slice p zs.length cap) ∧ w'.cell? ⟨w.heap.size, 3, none⟩ = some (.int .i64 T) ∧ w'.cell? ⟨w.heap.size, 4, none⟩ = some (.bool nn) ∧ w'.cell? ⟨w.heap.size, 5, none⟩ = some (.bool bd) ∧ w'.cell? ⟨w.heap.size, 6, none⟩ = some (.bool pl) ∧ w'.cell? ⟨w.heap.size, 7, none⟩ = some (.bool mi) ∧ w'.cell? ⟨w.heap.size, 8, none⟩ = some (.bool am)) (first | assumption | exact cx)
    (first
      | (go_at_call 133; refine (sQB_64 _).mono ?_; rintro e q0 ⟨rfl, hq0⟩; have hb2 : Below w2.heap.size w2 q0 := bel_go (Below.drew (Below.refl _ _)) hq0; have f1 := (q1.below hb2).cs)
      | (go_at_call 153; refine (CR.out _ (s1.below hb2)).mono ?_; rintro e w3 ⟨rfl, hb3⟩; have f2 := ((q1.below hb2).below hb3).cs))
  go_wp2
  go_ret3
  exact ⟨rfl, bel_go (bel_go bel1 hb2) hb3⟩
theorem round_spec (fm : Int) (ng : Bool) (T : Int) (nn bd pl mi am : Bool) (p : Option Addr) (cap : Nat) (zs : List Int) (mode : Int) (w : World) (hs : Sl .u32 w (.slice p zs.length cap) zs) (hz : Nm.Dg zs) (hl : zs.length ≤ 1048576) :
    Calls Tryz.prog 56 #[.agg #[.int .i64 fm, .bool ng, .slice p zs.length cap, .int .i64 T, .bool nn, .bool bd, .bool pl, .bool mi, .bool am], .int .i64 mode] w fun e w' => e = .returned (.tuple #[.int .u64 (arB fm ng zs T nn bd pl mi am mode), .int .i64 (arF fm ng zs T nn bd pl mi am mode), .bool (arO fm ng zs T nn bd pl mi am mode)]) ∧ Below w.heap.size w w' := by
  cases hk : arO fm ng zs T nn bd pl mi am mode
  · rw [(ar_no hk).1, (ar_no hk).2]; exact round_spec_no fm ng T nn bd pl mi am p cap zs mode w hs hl hk
  · have hk' := hk
    unfold arO at hk'
    simp only [Bool.and_eq_true] at hk'
    rcases acc_fm hk'.1 with hf | hf
    · exact round_spec_32 fm ng T nn bd pl mi am p cap zs mode w hs hz hl hf hk'.1 hk'.2 _ _ (ar_yes32 hk hf).1 (ar_yes32 hk hf).2
    · exact round_spec_64 fm ng T nn bd pl mi am p cap zs mode w hs hz hl hf hk'.1 hk'.2 _ _ (ar_yes64 hk hf).1 (ar_yes64 hk hf).2
namespace Fd
theorem unit32 (w : World) :
    Calls Tryz.prog 23 #[.int .i64 32] w fun e w' => e = .returned (.int .i64 (-149)) ∧ Below w.heap.size w w' := by
  have CP := hid (fun w' => spec_parts 32 0 w' (by decide) (by decide))
  have hf : finB 32 0 = true := by decide +kernel
  have h1 : pS 32 0 = false := by decide +kernel
  have h2 : pM 32 0 = 0 := by decide +kernel
  have h3 : pE 32 0 = (-149) := by decide +kernel
  rw [hf, h1, h2, h3] at CP
  clear hf h1 h2 h3
  go_enter Tryz.func23, Tryz.ntmps23
  go_wp2_with fail
  refine (CP.out _).mono ?_
  rintro e w1 ⟨rfl, hb1⟩
  go_wp2
  go_ret
  exact ⟨rfl, (by repeat (first | exact bz0 _ _ | refine bz1 ?_ | refine bz2 ?_ _ | refine bz3 ?_ _ | refine bz4 ?_ hb1 | refine bz5 ?_ _ | refine bz6 ?_ _ | refine bz7 ?_ hb1))⟩
theorem unit64 (w : World) :
    Calls Tryz.prog 23 #[.int .i64 64] w fun e w' => e = .returned (.int .i64 (-1074)) ∧ Below w.heap.size w w' := by
  have CP := hid (fun w' => spec_parts 64 0 w' (by decide) (by decide))
  have hf : finB 64 0 = true := by decide +kernel
  have h1 : pS 64 0 = false := by decide +kernel
  have h2 : pM 64 0 = 0 := by decide +kernel
  have h3 : pE 64 0 = (-1074) := by decide +kernel
  rw [hf, h1, h2, h3] at CP
  clear hf h1 h2 h3
  go_enter Tryz.func23, Tryz.ntmps23
  go_wp2_with fail
  refine (CP.out _).mono ?_
  rintro e w1 ⟨rfl, hb1⟩
  go_wp2
  go_ret
  exact ⟨rfl, (by repeat (first | exact bz0 _ _ | refine bz1 ?_ | refine bz2 ?_ _ | refine bz3 ?_ _ | refine bz4 ?_ hb1 | refine bz5 ?_ _ | refine bz6 ?_ _ | refine bz7 ?_ hb1))⟩
/-- An accumulator and a mode that were drawn. -/
def DrAR (w w' : World) (e : Ending) : Prop := ∃ (F : Int) (ng : Bool) (zs : List Int) (T : Int) (nn bd pl mi am : Bool) (a : Option Addr) (c : Nat) (m : Int), e = .returned (.tuple #[.agg #[.int .i64 F, .bool ng, .slice a zs.length c, .int .i64 T, .bool nn, .bool bd, .bool pl, .bool mi, .bool am], .int .i64 m]) ∧ zs.length ≤ 2000 ∧ Nm.Dg zs ∧ Own w' w.heap.size a c zs ∧ Below w.heap.size w w'
theorem drawAccRound_x (ca : Option Addr) (cc : Nat) (cs : List Int) (w : World) (hs : Sl .u8 w (.slice ca cs.length cc) cs) (hby : ∀ i, 0 ≤ cs.getD i 0 ∧ cs.getD i 0 ≤ 255) (hl : cs.length ≤ 1048576) :
    Calls Tryz.prog 55 #[.slice ca cs.length cc] w fun e w' => DrAR w w' e := by
  have hs1 := hs
  have bel := Below.refl w.heap.size w
  have R4 := Q9.new w (.int .i64 0) (.bool false) (.slice none 0 0) (.int .i64 0) (.bool false) (.bool false) (.bool false) (.bool false) (.bool false) 50
  have hs1 := hs1.alloc (.cells #[.int .i64 0, .bool false, .slice none 0 0, .int .i64 0, .bool false, .bool false, .bool false, .bool false, .bool false] 50)
  have bel := bel_al bel (.cells #[.int .i64 0, .bool false, .slice none 0 0, .int .i64 0, .bool false, .bool false, .bool false, .bool false, .bool false] 50)
  go_enter Tryz.func55, Tryz.ntmps55
  go_wp2_with fail
  refine (open_any ca cc cs _ hs1 hby hl).mono ?_
  rintro e w4 ⟨rfl, r4, hb⟩
  have hlt : w.heap.size + 1 ≤ (w.alloc (.cells #[.int .i64 0, .bool false, .slice none 0 0, .int .i64 0, .bool false, .bool false, .bool false, .bool false, .bool false] 50)).heap.size := by simp
  generalize (w.alloc (.cells #[.int .i64 0, .bool false, .slice none 0 0, .int .i64 0, .bool false, .bool false, .bool false, .bool false, .bool false] 50)).heap.size = rb at r4 hlt ⊢
  have R4 := R4.below hb
  have bel := bel_go bel hb
  clear hb hs1
  go_wp2_with fail
  refine (format_any rb ca cc cs _ r4).mono ?_
  rintro e w4 ⟨fm, rfl, hf, r4', g4'⟩
  have R4 := R4.grown g4' (fun g e => by cases e; omega)
  have bel := bel_rd bel g4' (by omega)
  have r4 := r4'
  clear r4' g4'
  have CA := hid (fun w' h => acc_any fm hf rb ca cc cs w' h)
  go_wp2_with fail
  refine (CA.out _ r4).mono ?_
  rintro e w4 ⟨F, s, a, c, rfl, T0, T1, l1, o4, r4', g4'⟩
  have hB := r4.lt
  have hBw := g4'.size
  have R4 := R4.grown g4' (fun g e => by cases e; omega)
  have bel := bel_rd bel g4' (by omega)
  have r4 := r4'
  clear r4' g4'
  go_wp2_with fail
  refine (hurtAcc_any F (Nm.wn s.z) (Nm.wl s.z) s.T s.nn s.bd s.pl s.mi s.am a c _ rb ca cc cs _ r4 o4 hB hBw (Nm.wl_dg _) l1 T0 T1).mono ?_
  rintro e w4 ⟨F', ng', zs', T', nn', bd', pl', mi', am', a', c', rfl, l', d', o', r4', g4'⟩
  have R4 := R4.grown g4' (fun g e => by cases e; omega)
  have bel := bel_rd bel g4' (by omega)
  have r4 := r4'
  clear r4' g4'
  clear o4 T0 T1 l1 hBw
  have ho' := hB
  clear hB
  go_wp2_with fail
  refine (off_z rb ca cc cs 0 5 _ r4 (by decide) (by decide) (by decide)).mono ?_
  rintro e w4 ⟨m, rfl, r4', g4'⟩
  have R4 := R4.grown g4' (fun g e => by cases e; omega)
  have o' := Own.rd o' g4' ho'
  have bel := bel_rd bel g4' (by omega)
  have r4 := r4'
  clear r4' g4'
  have hwb := Nat.lt_trans (Nat.lt_of_succ_le hlt) ho'
  obtain ⟨y0, y1, y2, y3, y4, y5, y6, y7, y8, z0, z1, z2, z3, z4, z5, z6, z7, z8⟩ := R4
  go_wp2
  exact bodyPost_ret (v := .tuple #[.agg #[.int .i64 F', .bool ng', .slice a' zs'.length c', .int .i64 T', .bool nn', .bool bd', .bool pl', .bool mi', .bool am'], .int .i64 m]) (by simp [results, Tryz.results55, go_sem, y0, y1, y2, y3, y4, y5, y6, y7, y8, z0, z1, z2, z3, z4, z5, z6, z7, z8]) rfl ⟨F', ng', zs', T', nn', bd', pl', mi', am', a', c', m, rfl, l', d', Own.base (Own.setBelow (Own.setBelow (Own.setBelow (Own.setBelow (Own.setBelow (Own.setBelow (Own.setBelow (Own.setBelow (Own.setBelow o' (p := ⟨w.heap.size, 0, none⟩) hwb (.int .i64 F')) (p := ⟨w.heap.size, 1, none⟩) hwb (.bool ng')) (p := ⟨w.heap.size, 2, none⟩) hwb (.slice a' zs'.length c')) (p := ⟨w.heap.size, 3, none⟩) hwb (.int .i64 T')) (p := ⟨w.heap.size, 4, none⟩) hwb (.bool nn')) (p := ⟨w.heap.size, 5, none⟩) hwb (.bool bd')) (p := ⟨w.heap.size, 6, none⟩) hwb (.bool pl')) (p := ⟨w.heap.size, 7, none⟩) hwb (.bool mi')) (p := ⟨w.heap.size, 8, none⟩) hwb (.bool am')) (Nat.le_of_lt hwb), (Below.setCell (Below.setCell (Below.setCell (Below.setCell (Below.setCell (Below.setCell (Below.setCell (Below.setCell (Below.setCell bel (p := ⟨w.heap.size, 0, none⟩) (Nat.le_refl _) (.int .i64 F')) (p := ⟨w.heap.size, 1, none⟩) (Nat.le_refl _) (.bool ng')) (p := ⟨w.heap.size, 2, none⟩) (Nat.le_refl _) (.slice a' zs'.length c')) (p := ⟨w.heap.size, 3, none⟩) (Nat.le_refl _) (.int .i64 T')) (p := ⟨w.heap.size, 4, none⟩) (Nat.le_refl _) (.bool nn')) (p := ⟨w.heap.size, 5, none⟩) (Nat.le_refl _) (.bool bd')) (p := ⟨w.heap.size, 6, none⟩) (Nat.le_refl _) (.bool pl')) (p := ⟨w.heap.size, 7, none⟩) (Nat.le_refl _) (.bool mi')) (p := ⟨w.heap.size, 8, none⟩) (Nat.le_refl _) (.bool am'))⟩
end Fd
end Go.Proofs.YtkfjmcdniohljaaGreatDoor
