/-
  What is needed of ShiftC.
-/
import Derived.Test.YtkfjmcdniohljaaGreatDoorF11
set_option maxHeartbeats 16000000
set_option maxRecDepth 1000000
namespace Go.Proofs.YtkfjmcdniohljaaGreatDoor
set_option linter.unusedVariables false
set_option linter.unusedSimpArgs false
open Go.RowKit Go.Deep
theorem or_up64 (c x : Int) (r : Nat) (hr : r < 32) (ho : 0 ≤ c) (ho1 : c < (2 : Int) ^ r) (hx : 0 ≤ x) (hx1 : x < 4294967296) : bits .or .u64 c (x * (2 : Int) ^ r) = c + x * (2 : Int) ^ r := by
 obtain ⟨q, hq, e, hp⟩ := pq r hr
 obtain ⟨u0, u1, u2, u3, u4, u5⟩ := Nm.up_parts (x := x) (p := (2 : Int) ^ r) (q := q) ⟨hx, hx1⟩ hp hq e
 obtain ⟨O, rfl⟩ := Int.eq_ofNat_of_zero_le ho
 obtain ⟨X, rfl⟩ := Int.eq_ofNat_of_zero_le hx
 have h2 : ((2 ^ r : Nat) : Int) = (2 : Int) ^ r := by simp
 have hO : O < 2 ^ r := by omega
 have hpb : (2 : Int) ^ r ≤ 4294967296 := by omega
 have eA : ((X * 2 ^ r : Nat) : Int) = (X : Int) * (2 : Int) ^ r := by simp
 rw [← eA]
 rw [← eA] at u1
 rw [u64_or_nat O (X * 2 ^ r) (by omega) (by omega), Nat.or_comm, nat_join r (X * 2 ^ r) O (Nat.mul_mod_left X (2 ^ r)) hO, Int.natCast_add]
 omega
def limZ (xs : List Int) (z : Int) : Int := xs.getD z.toNat 0
theorem limZ_nat (xs : List Int) (i : Nat) : limZ xs (i : Int) = xs.getD i 0 := by unfold limZ; rw [Int.toNat_natCast]
theorem limZ_succ (xs : List Int) (i : Nat) : limZ xs ((i : Int) + 1) = xs.getD (i + 1) 0 := by unfold limZ; rw [show ((i : Int) + 1).toNat = i + 1 by omega]
theorem limbZ_any (a : Option Addr) (cap : Nat) (zs : List Int) (z : Int) (w : World) (hs : Sl .u32 w (.slice a zs.length cap) zs) (hz : Nm.Dg zs) (hl : zs.length ≤ 140737488355328) (h0 : 0 ≤ z) (hi : z ≤ 140737488355328) :
  Calls Tryz.prog 176 #[.slice a zs.length cap, .int .i64 z] w fun e w' => e = .returned (.int .u64 (limZ zs z)) ∧ w' = w := by
 obtain ⟨i, rfl⟩ := Int.eq_ofNat_of_zero_le h0
 rw [limZ_nat]
 exact limb_any a cap zs i w hs hz hl (by omega)
theorem take_snoc_ext {L os : List Int} {i : Nat} (h : os = L.take i) (hi : i < L.length) {d : Int} (hd : L.getD i 0 = d) : os ++ [d] = L.take (i + 1) := by
 rw [Nm.take_snoc hi, h, hd]
theorem l1down_no (ng : Bool) (a : Option Addr) (cap : Nat) (xs : List Int) (m : Int) (wh : Nat) (w : World) (hx : Sl .u32 w (.slice a xs.length cap) xs) (hl : xs.length ≤ 400000) (hw : wh ≤ 400000) (h0 : 1 ≤ m) (h1 : m ≤ 1000000) (hq : m / 32 = (wh : Int)) (hc : xs.length ≤ wh) :
  Calls Tryz.prog 80 #[.agg #[.bool ng, .slice a xs.length cap], .int .i64 (-m)] w fun e w' => e = .returned (.agg #[.bool false, .slice none 0 0]) ∧ Below w.heap.size w w' := by
 go_enter Tryz.func80, Tryz.ntmps80
 go_wp2
 exact bodyPost_ret (v := .agg #[.bool false, .slice none 0 0]) (by simp [results, Tryz.results80, go_sem]) rfl ⟨rfl, (by repeat (first | exact bz0 _ _ | refine bz1 ?_ | refine bz2 ?_ _ | refine bz3 ?_ _ | refine bz5 ?_ _ | refine bz6 ?_ _))⟩
theorem l1down_yes (ng : Bool) (a : Option Addr) (cap : Nat) (xs : List Int) (m : Int) (wh r : Nat) (w : World) (hx : Sl .u32 w (.slice a xs.length cap) xs) (dx : Nm.Dg xs) (hl : xs.length ≤ 400000) (hw : wh ≤ 400000) (hr : r < 32) (h0 : 1 ≤ m) (h1 : m ≤ 1000000) (hq : m / 32 = (wh : Int)) (hm : m % 32 = (r : Int)) (hc : ¬ xs.length ≤ wh) (v : Int) (hv : v = Nm.wv ng (Nm.sd ((2 : Int) ^ r) (xs.drop wh))) :
  Calls Tryz.prog 80 #[.agg #[.bool ng, .slice a xs.length cap], .int .i64 (-m)] w fun e w' => ∃ a' c', e = .returned (.agg #[.bool (Nm.wn v), .slice a' (Nm.wl v).length c']) ∧ Own w' w.heap.size a' c' (Nm.wl v) ∧ Below w.heap.size w w' := by
 obtain ⟨L, hL⟩ : ∃ L, L = Nm.sd ((2 : Int) ^ r) (xs.drop wh) := ⟨_, rfl⟩
 have hLl : L.length = xs.length - wh := by rw [hL, Nm.sd_length, List.length_drop]
 have hLg : ∀ i, wh ≤ i → i < xs.length → L.getD (i - wh) 0 = (xs.getD (i + 1) 0 * 4294967296 + xs.getD i 0) / (2 : Int) ^ r % 4294967296 := fun i h hi => by
  rw [hL, Nm.sd_getD _ _ _ (by rw [List.length_drop]; omega), Nm.getD_drop, Nm.getD_drop, show wh + (i - wh + 1) = i + 1 by omega, show wh + (i - wh) = i by omega]
 have hLd : Nm.Dg L := by rw [hL]; exact Nm.sd_dg _ _
 rw [← hL] at hv
 have HL := hid (And.intro hLl (And.intro hLg (And.intro hLd hv)))
 clear hLl hLg hLd hL hv
 obtain ⟨i0, hi, hz0, hz1, hz2⟩ := info_parts info32
 have HI := hid (And.intro hi (And.intro hz0 (And.intro hz1 hz2)))
 clear hi hz0 hz1 hz2
 go_enter Tryz.func80, Tryz.ntmps80
 have Bx := (Box.new w (.bool ng) (.slice a xs.length cap) 32).alloc (.cells #[.bool false, .slice none 0 0] 32)
 have Rz := R2.new2 w (.cells #[.bool ng, .slice a xs.length cap] 32) (.bool false) (.slice none 0 0) 32
 have sx0 := (hx.alloc (.cells #[.bool ng, .slice a xs.length cap] 32)).alloc (.cells #[.bool false, .slice none 0 0] 32)
 have hbW : Below w.heap.size w ((w.alloc (.cells #[.bool ng, .slice a xs.length cap] 32)).alloc (.cells #[.bool false, .slice none 0 0] 32)) := (by repeat (first | exact bz0 _ _ | refine bz1 ?_ | refine bz2 ?_ _ | refine bz3 ?_ _ | refine bz5 ?_ _ | refine bz6 ?_ _))
 have hsW : ((w.alloc (.cells #[.bool ng, .slice a xs.length cap] 32)).alloc (.cells #[.bool false, .slice none 0 0] 32)).heap.size = w.heap.size + 1 + 1 := by simp
 go_wp2_with fail
 generalize (w.alloc (.cells #[.bool ng, .slice a xs.length cap] 32)).alloc (.cells #[.bool false, .slice none 0 0] 32) = W at Bx Rz sx0 hbW hsW ⊢
 have HSW := hid hsW
 clear hsW
 have hm0 : decide (0 < m) = true := by simp; omega
 simp only [hq, hm0]
 clear hm0
 go_loopw [6, 7] (fun sl iv wr => ∃ i : Nat, ∃ os : List Int, ∃ g cp : Nat, wh ≤ i ∧ i ≤ xs.length ∧ iv = .int .i64 i ∧ sl = .slice (some ⟨g, 0, none⟩) os.length cp ∧ os = L.take (i - wh) ∧ Own wr W.heap.size (some ⟨g, 0, none⟩) cp os ∧ Below W.heap.size W wr) (fun _ iv _ => xs.length - (intOf iv).toNat)
 case atStart =>
  have hbuf := own_buf (w := W)
  exact ⟨wh, [], W.heap.size, 0, Nat.le_refl _, by omega, rfl, by rw [HSW.out]; rfl, by simp, hbuf, (by repeat (first | exact bz0 _ _ | refine bz1 ?_ | refine bz2 ?_ _ | refine bz3 ?_ _ | refine bz5 ?_ _ | refine bz6 ?_ _))⟩
 case round =>
  obtain ⟨i, os, g, cp, hi0, hi, rfl, rfl, hos, hown, hb⟩ := hrel
  have HOS := hid hos
  clear hos
  have hbs : W.heap.size ≤ wr.heap.size := hb.size
  obtain ⟨c00, c01⟩ := Bx.below hb
  by_cases hlt : i < xs.length
  ·have sx := sx0.below hb
   have hol : os.length = i - wh := by rw [HOS.out, List.length_take, HL.out.1]; omega
   have HOL := hid hol
   have hol1 : os.length ≤ 400000 := by omega
   have hd := HL.out.2.1 i hi0 hlt
   have ex := dx.getD i
   have ey := dx.getD (i + 1)
   rw [← limZ_nat] at ex hd
   rw [← limZ_succ] at ey hd
   obtain ⟨ex0, ex1⟩ := ex
   obtain ⟨ey0, ey1⟩ := ey
   have HD := hid hd
   obtain ⟨j1, j2⟩ := join_down (limZ xs (i : Int)) (limZ xs ((i : Int) + 1)) ex0 ex1 ey0 ey1
   have C1 := hid (fun w' z (h : Sl .u32 w' (.slice a xs.length cap) xs) => limbZ_any a cap xs z w' h dx (by omega))
   clear hd j1 hol
   have k5 : IntKind.i64.wrap ((i : Int) + 1) = (i : Int) + 1 := by rw [IntKind.wrap_i64]; omega
   have k6 : IntKind.u64.wrap (limZ xs ((i : Int) + 1) * 4294967296) = limZ xs ((i : Int) + 1) * 4294967296 := by rw [IntKind.wrap_u64]; omega
   go_wp2_with fail
   go_region_held3 (fun w' => w'.cell? ⟨w.heap.size, 1, none⟩ = some (.slice a xs.length cap)) (first | assumption | go_keep)
    (first | (go_at_call 176; refine (C1.out _ _ (by exact Sl.drew sx) (by omega) (by omega)).mono ?_; rintro e w' ⟨rfl, rfl⟩))
   go_wp2_with (at_builtin; refine wpList_append_lies _ rfl _ _ 30 rfl W.heap.size 128 i0 (.int .u32 0) 1 4 Tryz.underlying30 HI.out.1 HI.out.2.1 HI.out.2.2.1 HI.out.2.2.2 rfl (by decide) (.slice (some ⟨g, 0, none⟩) os.length cp) os.length (os.map (Value.int .u32)) rfl (by exact hown.drew.alloc _) ⟨wr.heap.size, 0, none⟩ 1 1 [.int .u32 ((limZ xs ((i : Int) + 1) * 4294967296 + limZ xs (i : Int)) / (2 : Int) ^ r % 4294967296)] rfl rfl (by exact news_one wr.drew _) (one_one _) (by decide) (by unfold maxLen; omega) (by omega) (by simp; omega) (wr.heap.size + 1) (by simp) ?_; intro g1 cp1 w2 hown2 hgrow hat hlt2)
   have ho2 := own_more hown2
   have hg0 := (own_ge hown).1
   have hb2 : Below W.heap.size W w2 := bel_app (bel_al (Below.drew hb) _) hgrow hg0
   clear hown2 hat
   go_roundw
   case rel =>
    refine ⟨i + 1, os ++ [(limZ xs ((i : Int) + 1) * 4294967296 + limZ xs (i : Int)) / (2 : Int) ^ r % 4294967296], g1, cp1, by omega, by omega, by go_num, by simp, ?_, ho2, hb2⟩
    rw [show i + 1 - wh = i - wh + 1 by omega]
    exact take_snoc_ext HOS.out (by rw [HL.out.1]; omega) HD.out
   case measure => simp [intOf]; omega
  ·obtain rfl : i = xs.length := by omega
   have hosL : os = L := by rw [HOS.out]; exact List.take_of_length_le (by rw [HL.out.1]; omega)
   have cm := made_v ng (some ⟨g, 0, none⟩) cp os wr hown.sl (by rw [hosL]; exact HL.out.2.2.1) (by rw [hosL, HL.out.1]; omega) v (by rw [hosL]; exact HL.out.2.2.2)
   have CM := hid cm
   clear cm hosL
   go_wp2_with fail
   refine CM.out.mono ?_
   rintro e w2 ⟨a2, c2, rfl, ho2, hb2⟩
   obtain ⟨z0, z1, zf0, zf1⟩ := (Rz.below hb).below hb2
   have l2 : w.heap.size + 1 < wr.heap.size := by have := HSW.out; omega
   go_wp2
   refine bodyPost_ret (v := .agg #[.bool (Nm.wn v), .slice a2 (Nm.wl v).length c2]) (by simp [results, Tryz.results80, go_sem, z0, z1]) rfl ⟨a2, c2, rfl, ?_, ?_⟩
   ·exact Own.base ((ho2.setBelow (by simp; omega) _).setBelow (by simp; omega) _) (by omega)
   ·exact ((bel_go (bel_go hbW hb) hb2).setCell (by simp) _).setCell (by simp) _
theorem l1up_any (ng : Bool) (a : Option Addr) (cap : Nat) (xs : List Int) (n : Int) (wh r : Nat) (w : World) (hx : Sl .u32 w (.slice a xs.length cap) xs) (dx : Nm.Dg xs) (hl : xs.length ≤ 400000) (hw : wh ≤ 400000) (hr : r < 32) (h0 : 0 ≤ n) (h1 : n ≤ 1000000) (hq : n / 32 = (wh : Int)) (hm : n % 32 = (r : Int)) (v : Int) (hv : ∀ os, Nm.val os = Nm.pw wh * ((2 : Int) ^ r * Nm.val xs) → v = Nm.wv ng os) :
  Calls Tryz.prog 80 #[.agg #[.bool ng, .slice a xs.length cap], .int .i64 n] w fun e w' => ∃ a' c', e = .returned (.agg #[.bool (Nm.wn v), .slice a' (Nm.wl v).length c']) ∧ Own w' w.heap.size a' c' (Nm.wl v) ∧ Below w.heap.size w w' := by
 have HV := hid hv
 have hmk := mkN wh hw
 obtain ⟨q, hp⟩ := pq r hr
 have HP := hid hp
 clear hp hv
 obtain ⟨i0, hi, hz0, hz1, hz2⟩ := info_parts info32
 have HI := hid (And.intro hi (And.intro hz0 (And.intro hz1 hz2)))
 clear hi hz0 hz1 hz2
 go_enter Tryz.func80, Tryz.ntmps80
 have Bx := (Box.new w (.bool ng) (.slice a xs.length cap) 32).alloc (.cells #[.bool false, .slice none 0 0] 32)
 have Rz := R2.new2 w (.cells #[.bool ng, .slice a xs.length cap] 32) (.bool false) (.slice none 0 0) 32
 have sx0 := (hx.alloc (.cells #[.bool ng, .slice a xs.length cap] 32)).alloc (.cells #[.bool false, .slice none 0 0] 32)
 have hbW : Below w.heap.size w ((w.alloc (.cells #[.bool ng, .slice a xs.length cap] 32)).alloc (.cells #[.bool false, .slice none 0 0] 32)) := (by repeat (first | exact bz0 _ _ | refine bz1 ?_ | refine bz2 ?_ _ | refine bz3 ?_ _ | refine bz5 ?_ _ | refine bz6 ?_ _))
 have hsW : ((w.alloc (.cells #[.bool ng, .slice a xs.length cap] 32)).alloc (.cells #[.bool false, .slice none 0 0] 32)).heap.size = w.heap.size + 1 + 1 := by simp
 go_wp2_with fail
 clear hmk
 generalize (w.alloc (.cells #[.bool ng, .slice a xs.length cap] 32)).alloc (.cells #[.bool false, .slice none 0 0] 32) = W at Bx Rz sx0 hbW hsW ⊢
 have HSW := hid hsW
 clear hsW
 try simp only [hq]
 go_loopw [9, 10, 11] (fun sl cy iv wr => ∃ i : Nat, ∃ os : List Int, ∃ c : Int, ∃ g cp : Nat, i ≤ xs.length + 1 ∧ iv = .int .i64 i ∧ cy = .int .u64 c ∧ sl = .slice (some ⟨g, 0, none⟩) os.length cp ∧ Nm.UpTo xs os wh ((2 : Int) ^ r) i c ∧ (xs.length < i → c = 0) ∧ Own wr W.heap.size (some ⟨g, 0, none⟩) cp os ∧ Below W.heap.size W wr) (fun _ _ iv _ => xs.length + 1 - (intOf iv).toNat)
 case atStart =>
  have hmade := (Rw.made W wh).own (base := W.heap.size) (Nat.le_refl _) (by simp; unfold maxLen; omega)
  rw [List.length_replicate] at hmade
  exact ⟨0, List.replicate wh 0, 0, W.heap.size, wh, Nat.zero_le _, rfl, rfl, by rw [HSW.out, List.length_replicate], Nm.UpTo.zero _ _ _ HP.out.2.2, fun h => by omega, hmade, (by repeat (first | exact bz0 _ _ | refine bz1 ?_ | refine bz2 ?_ _ | refine bz3 ?_ _ | refine bz5 ?_ _ | refine bz6 ?_ _))⟩
 case round =>
  obtain ⟨i, os, c, g, cp, hi, rfl, rfl, rfl, hup, hlast, hown, hb⟩ := hrel
  have HUP := hid (And.intro hup hlast)
  have hol := hup.l
  have hc0 := hup.c0
  have hc1 := hup.c1
  have hol1 : os.length ≤ 900000 := by omega
  have hbs : W.heap.size ≤ wr.heap.size := hb.size
  obtain ⟨c00, c01⟩ := Bx.below hb
  clear hup hlast hol
  by_cases hlt : i ≤ xs.length
  ·have sx := sx0.below hb
   have hst := HUP.out.1.step HP.out.2.2 HP.out.1 HP.out.2.1 dx
   have hze : xs.length ≤ i → xs.getD i 0 = 0 := fun h => Nm.getD_out h
   have c1 := limb_any a cap xs i wr sx dx (by omega) (by omega)
   obtain ⟨ex0, ex1⟩ := dx.getD i
   obtain ⟨x, hxk⟩ : ∃ x, x = xs.getD i 0 := ⟨_, rfl⟩
   rw [← hxk] at c1 ex0 ex1 hst hze
   obtain ⟨p0, p1, p2, p3, p4, p5⟩ := Nm.up_parts (x := x) (p := (2 : Int) ^ r) (q := q) ⟨ex0, ex1⟩ HP.out.2.2 HP.out.1 HP.out.2.1
   have hpb : (2 : Int) ^ r ≤ 4294967296 := by omega
   have k1 := wrapu _ p0 p1
   have k2 := or_up64 c x r hr hc0 hc1 ex0 ex1
   have C1 := hid c1
   have HST := hid hst
   have HZE := hid hze
   have HPB := hid hpb
   clear c1 hst hze hxk p2 p3 p4 p5 hpb
   have s0 : 0 ≤ c + x * (2 : Int) ^ r := by omega
   go_wp2_with fail
   refine C1.out.mono ?_
   rintro e w1 ⟨rfl, rfl⟩
   go_wp2_with (at_builtin; refine wpList_append_lies _ rfl _ _ 30 rfl W.heap.size 128 i0 (.int .u32 0) 1 4 Tryz.underlying30 HI.out.1 HI.out.2.1 HI.out.2.2.1 HI.out.2.2.2 rfl (by decide) (.slice (some ⟨g, 0, none⟩) os.length cp) os.length (os.map (Value.int .u32)) rfl (by exact hown.alloc _) ⟨w1.heap.size, 0, none⟩ 1 1 [.int .u32 ((c + x * (2 : Int) ^ r) % 4294967296)] rfl rfl (by exact news_one w1 _) (one_one _) (by decide) (by unfold maxLen; omega) (by omega) (by simp; omega) (w1.heap.size + 1) (by simp) ?_; intro g1 cp1 w2 hown2 hgrow hat hlt2)
   have ho2 := own_more hown2
   have hg0 := (own_ge hown).1
   have hb2 : Below W.heap.size W w2 := bel_app (bel_al hb _) hgrow hg0
   clear hown2 hat
   go_roundw
   case rel =>
    refine ⟨i + 1, os ++ [(c + x * (2 : Int) ^ r) % 4294967296], (c + x * (2 : Int) ^ r) / 4294967296, g1, cp1, by omega, by go_num, rfl, by simp, HST.out, fun h => ?_, ho2, hb2⟩
    have h1 := HZE.out (by omega)
    have h2 := HPB.out
    rw [h1]; simp; omega
   case measure => simp [intOf]; omega
  ·obtain rfl : i = xs.length + 1 := by omega
   have hz := HUP.out.2 (by omega)
   have hfull := HUP.out.1.full (q := q) hz
   have cm := made_v ng (some ⟨g, 0, none⟩) cp os wr hown.sl HUP.out.1.d (by omega) v (HV.out os hfull)
   have CM := hid cm
   clear cm hfull hz
   go_wp2_with fail
   refine CM.out.mono ?_
   rintro e w2 ⟨a2, c2, rfl, ho2, hb2⟩
   obtain ⟨z0, z1, zf0, zf1⟩ := (Rz.below hb).below hb2
   have l2 : w.heap.size + 1 < wr.heap.size := by have := HSW.out; omega
   go_wp2
   refine bodyPost_ret (v := .agg #[.bool (Nm.wn v), .slice a2 (Nm.wl v).length c2]) (by simp [results, Tryz.results80, go_sem, z0, z1]) rfl ⟨a2, c2, rfl, ?_, ?_⟩
   ·exact Own.base ((ho2.setBelow (by simp; omega) _).setBelow (by simp; omega) _) (by omega)
   ·exact ((bel_go (bel_go hbW hb) hb2).setCell (by simp) _).setCell (by simp) _
end Go.Proofs.YtkfjmcdniohljaaGreatDoor
