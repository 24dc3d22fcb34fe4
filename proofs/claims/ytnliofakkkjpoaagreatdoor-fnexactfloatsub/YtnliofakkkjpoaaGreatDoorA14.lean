/-
  What is needed of ShiftC, ShiftD, ShiftE, RA, RB, IC, RD, IH, RF, RH, RI, AccB, VecA, RK.
-/
import Derived.WideLaws
import Derived.LoopN
import Derived.Test.YtnliofakkkjpoaaGreatDoorA12
set_option maxHeartbeats 16000000
set_option maxRecDepth 1000000
namespace Go.Proofs.YtnliofakkkjpoaaGreatDoor
set_option linter.unusedVariables false
set_option linter.unusedSimpArgs false
open Go.RowKit Go.Deep
theorem or_up64 (c x : Int) (r : Nat) (hr : r < 32) (ho : 0 ≤ c) (ho1 : c < (2 : Int) ^ r) (hx : 0 ≤ x) (hx1 : x < 4294967296) : bits .or .u64 c (x * (2 : Int) ^ r) = c + x * (2 : Int) ^ r := by
  obtain ⟨q, hq, e, hp⟩ := pq r hr
  obtain ⟨u0, u1, u2, u3, u4, u5⟩ := Nm.up_parts (x := x) (p := (2 : Int) ^ r) (q := q) ⟨hx, hx1⟩ hp hq e
  obtain ⟨O, rfl⟩ := Int.eq_ofNat_of_zero_le ho
  obtain ⟨X, rfl⟩ := Int.eq_ofNat_of_zero_le hx
  have h2 : ((2 ^ r : Nat) : Int) = (2 : Int) ^ r := by simp
  have hO : O < 2 ^ r := by omega
  have hpb : (2 : Int) ^ r ≤ 4294967296 := by omega
  have eA : ((X * 2 ^ r : Nat) : Int) = (X : Int) * (2 : Int) ^ r := by simp
  rw [← eA]
  rw [← eA] at u1
  rw [u64_or_nat O (X * 2 ^ r) (by omega) (by omega), Nat.or_comm, nat_join r (X * 2 ^ r) O (Nat.mul_mod_left X (2 ^ r)) hO, Int.natCast_add]
  omega
/-- The limb at a place that is an integer. -/
def limZ (xs : List Int) (z : Int) : Int := xs.getD z.toNat 0
theorem limZ_nat (xs : List Int) (i : Nat) : limZ xs (i : Int) = xs.getD i 0 := by unfold limZ; rw [Int.toNat_natCast]
theorem limZ_succ (xs : List Int) (i : Nat) : limZ xs ((i : Int) + 1) = xs.getD (i + 1) 0 := by unfold limZ; rw [show ((i : Int) + 1).toNat = i + 1 by omega]
theorem limbZ_any (a : Option Addr) (cap : Nat) (zs : List Int) (z : Int) (w : World) (hs : Sl .u32 w (.slice a zs.length cap) zs) (hz : Nm.Dg zs) (hl : zs.length ≤ 140737488355328) (h0 : 0 ≤ z) (hi : z ≤ 140737488355328) :
    Calls Tryz.prog 129 #[.slice a zs.length cap, .int .i64 z] w fun e w' => e = .returned (.int .u64 (limZ zs z)) ∧ w' = w := by
  obtain ⟨i, rfl⟩ := Int.eq_ofNat_of_zero_le h0
  rw [limZ_nat]
  exact limb_any a cap zs i w hs hz hl (by omega)
theorem take_snoc_ext {L os : List Int} {i : Nat} (h : os = L.take i) (hi : i < L.length) {d : Int} (hd : L.getD i 0 = d) : os ++ [d] = L.take (i + 1) := by
  rw [Nm.take_snoc hi, h, hd]
theorem l1down_no (ng : Bool) (a : Option Addr) (cap : Nat) (xs : List Int) (m : Int) (wh : Nat) (w : World) (hx : Sl .u32 w (.slice a xs.length cap) xs) (hl : xs.length ≤ 400000) (hw : wh ≤ 400000) (h0 : 1 ≤ m) (h1 : m ≤ 1000000) (hq : m / 32 = (wh : Int)) (hc : xs.length ≤ wh) :
    Calls Tryz.prog 60 #[.agg #[.bool ng, .slice a xs.length cap], .int .i64 (-m)] w fun e w' => e = .returned (.agg #[.bool false, .slice none 0 0]) ∧ Below w.heap.size w w' := by
  go_enter Tryz.func60, Tryz.ntmps60
  go_wp2
  exact bodyPost_ret (v := .agg #[.bool false, .slice none 0 0]) (by simp [results, Tryz.results60, go_sem]) rfl ⟨rfl, (by repeat (first | exact bz0 _ _ | refine bz1 ?_ | refine bz2 ?_ _ | refine bz3 ?_ _ | refine bz5 ?_ _ | refine bz6 ?_ _))⟩
theorem l1down_yes (ng : Bool) (a : Option Addr) (cap : Nat) (xs : List Int) (m : Int) (wh r : Nat) (w : World) (hx : Sl .u32 w (.slice a xs.length cap) xs) (dx : Nm.Dg xs) (hl : xs.length ≤ 400000) (hw : wh ≤ 400000) (hr : r < 32) (h0 : 1 ≤ m) (h1 : m ≤ 1000000) (hq : m / 32 = (wh : Int)) (hm : m % 32 = (r : Int)) (hc : ¬ xs.length ≤ wh) (v : Int) (hv : v = Nm.wv ng (Nm.sd ((2 : Int) ^ r) (xs.drop wh))) :
    Calls Tryz.prog 60 #[.agg #[.bool ng, .slice a xs.length cap], .int .i64 (-m)] w fun e w' => ∃ a' c', e = .returned (.agg #[.bool (Nm.wn v), .slice a' (Nm.wl v).length c']) ∧ Own w' w.heap.size a' c' (Nm.wl v) ∧ Below w.heap.size w w' := by
  obtain ⟨L, hL⟩ : ∃ L, L = Nm.sd ((2 : Int) ^ r) (xs.drop wh) := ⟨_, rfl⟩
  have hLl : L.length = xs.length - wh := by rw [hL, Nm.sd_length, List.length_drop]
  have hLg : ∀ i, wh ≤ i → i < xs.length → L.getD (i - wh) 0 = (xs.getD (i + 1) 0 * 4294967296 + xs.getD i 0) / (2 : Int) ^ r % 4294967296 := fun i h hi => by
    rw [hL, Nm.sd_getD _ _ _ (by rw [List.length_drop]; omega), Nm.getD_drop, Nm.getD_drop, show wh + (i - wh + 1) = i + 1 by omega, show wh + (i - wh) = i by omega]
  have hLd : Nm.Dg L := by rw [hL]; exact Nm.sd_dg _ _
  rw [← hL] at hv
  have HL := hid (And.intro hLl (And.intro hLg (And.intro hLd hv)))
  clear hLl hLg hLd hL hv
  obtain ⟨i0, hi, hz0, hz1, hz2⟩ := info_parts info32
  have HI := hid (And.intro hi (And.intro hz0 (And.intro hz1 hz2)))
  clear hi hz0 hz1 hz2
  go_enter Tryz.func60, Tryz.ntmps60
  have Bx := (Box.new w (.bool ng) (.slice a xs.length cap) 29).alloc (.cells #[.bool false, .slice none 0 0] 29)
  have Rz := R2.new2 w (.cells #[.bool ng, .slice a xs.length cap] 29) (.bool false) (.slice none 0 0) 29
  have sx0 := (hx.alloc (.cells #[.bool ng, .slice a xs.length cap] 29)).alloc (.cells #[.bool false, .slice none 0 0] 29)
  have hbW : Below w.heap.size w ((w.alloc (.cells #[.bool ng, .slice a xs.length cap] 29)).alloc (.cells #[.bool false, .slice none 0 0] 29)) := (by repeat (first | exact bz0 _ _ | refine bz1 ?_ | refine bz2 ?_ _ | refine bz3 ?_ _ | refine bz5 ?_ _ | refine bz6 ?_ _))
  have hsW : ((w.alloc (.cells #[.bool ng, .slice a xs.length cap] 29)).alloc (.cells #[.bool false, .slice none 0 0] 29)).heap.size = w.heap.size + 1 + 1 := by simp
  go_wp2_with fail
  generalize (w.alloc (.cells #[.bool ng, .slice a xs.length cap] 29)).alloc (.cells #[.bool false, .slice none 0 0] 29) = W at Bx Rz sx0 hbW hsW ⊢
  have HSW := hid hsW
  clear hsW
  have hm0 : decide (0 < m) = true := by simp; omega
  simp only [hq, hm0]
  clear hm0
  go_loopw [6, 7] (fun sl iv wr => ∃ i : Nat, ∃ os : List Int, ∃ g cp : Nat, wh ≤ i ∧ i ≤ xs.length ∧ iv = .int .i64 i ∧ sl = .slice (some ⟨g, 0, none⟩) os.length cp ∧ os = L.take (i - wh) ∧ Own wr W.heap.size (some ⟨g, 0, none⟩) cp os ∧ Below W.heap.size W wr) (fun _ iv _ => xs.length - (intOf iv).toNat)
  case atStart =>
    have hbuf := own_buf (w := W)
    exact ⟨wh, [], W.heap.size, 0, Nat.le_refl _, by omega, rfl, by rw [HSW.out]; rfl, by simp, hbuf, (by repeat (first | exact bz0 _ _ | refine bz1 ?_ | refine bz2 ?_ _ | refine bz3 ?_ _ | refine bz5 ?_ _ | refine bz6 ?_ _))⟩
  case round =>
    obtain ⟨i, os, g, cp, hi0, hi, rfl, rfl, hos, hown, hb⟩ := hrel
    have HOS := hid hos
    clear hos
    have hbs : W.heap.size ≤ wr.heap.size := hb.size
    obtain ⟨c00, c01⟩ := Bx.below hb
    by_cases hlt : i < xs.length
    · have sx := sx0.below hb
      have hol : os.length = i - wh := by rw [HOS.out, List.length_take, HL.out.1]; omega
      have HOL := hid hol
      have hol1 : os.length ≤ 400000 := by omega
      have hd := HL.out.2.1 i hi0 hlt
      have ex := dx.getD i
      have ey := dx.getD (i + 1)
      rw [← limZ_nat] at ex hd
      rw [← limZ_succ] at ey hd
      obtain ⟨ex0, ex1⟩ := ex
      obtain ⟨ey0, ey1⟩ := ey
      have HD := hid hd
      obtain ⟨j1, j2⟩ := join_down (limZ xs (i : Int)) (limZ xs ((i : Int) + 1)) ex0 ex1 ey0 ey1
      have C1 := hid (fun w' z (h : Sl .u32 w' (.slice a xs.length cap) xs) => limbZ_any a cap xs z w' h dx (by omega))
      clear hd j1 hol
      have k5 : IntKind.i64.wrap ((i : Int) + 1) = (i : Int) + 1 := by rw [IntKind.wrap_i64]; omega
      have k6 : IntKind.u64.wrap (limZ xs ((i : Int) + 1) * 4294967296) = limZ xs ((i : Int) + 1) * 4294967296 := by rw [IntKind.wrap_u64]; omega
      go_wp2_with fail
      go_region_held3 (fun w' => w'.cell? ⟨w.heap.size, 1, none⟩ = some (.slice a xs.length cap)) (first | assumption | go_keep)
        (first | (go_at_call 129; refine (C1.out _ _ (by exact Sl.drew sx) (by omega) (by omega)).mono ?_; rintro e w' ⟨rfl, rfl⟩))
      go_wp2_with (at_builtin; refine wpList_append_lies _ rfl _ _ 22 rfl W.heap.size 147 i0 (.int .u32 0) 1 4 Tryz.underlying22 HI.out.1 HI.out.2.1 HI.out.2.2.1 HI.out.2.2.2 rfl (by decide) (.slice (some ⟨g, 0, none⟩) os.length cp) os.length (os.map (Value.int .u32)) rfl (by exact hown.drew.alloc _) ⟨wr.heap.size, 0, none⟩ 1 1 [.int .u32 ((limZ xs ((i : Int) + 1) * 4294967296 + limZ xs (i : Int)) / (2 : Int) ^ r % 4294967296)] rfl rfl (by exact news_one wr.drew _) (one_one _) (by decide) (by unfold maxLen; omega) (by omega) (by simp; omega) (wr.heap.size + 1) (by simp) ?_; intro g1 cp1 w2 hown2 hgrow hat hlt2)
      have ho2 := own_more hown2
      have hg0 := (own_ge hown).1
      have hb2 : Below W.heap.size W w2 := bel_app (bel_al (Below.drew hb) _) hgrow hg0
      clear hown2 hat
      go_roundw
      case rel =>
        refine ⟨i + 1, os ++ [(limZ xs ((i : Int) + 1) * 4294967296 + limZ xs (i : Int)) / (2 : Int) ^ r % 4294967296], g1, cp1, by omega, by omega, by go_num, by simp, ?_, ho2, hb2⟩
        rw [show i + 1 - wh = i - wh + 1 by omega]
        exact take_snoc_ext HOS.out (by rw [HL.out.1]; omega) HD.out
      case measure => simp [intOf]; omega
    · obtain rfl : i = xs.length := by omega
      have hosL : os = L := by rw [HOS.out]; exact List.take_of_length_le (by rw [HL.out.1]; omega)
      have cm := made_v ng (some ⟨g, 0, none⟩) cp os wr hown.sl (by rw [hosL]; exact HL.out.2.2.1) (by rw [hosL, HL.out.1]; omega) v (by rw [hosL]; exact HL.out.2.2.2)
      have CM := hid cm
      clear cm hosL
      go_wp2_with fail
      refine CM.out.mono ?_
      rintro e w2 ⟨a2, c2, rfl, ho2, hb2⟩
      obtain ⟨z0, z1, zf0, zf1⟩ := (Rz.below hb).below hb2
      have l2 : w.heap.size + 1 < wr.heap.size := by have := HSW.out; omega
      go_wp2
      refine bodyPost_ret (v := .agg #[.bool (Nm.wn v), .slice a2 (Nm.wl v).length c2]) (by simp [results, Tryz.results60, go_sem, z0, z1]) rfl ⟨a2, c2, rfl, ?_, ?_⟩
      · exact Own.base ((ho2.setBelow (by simp; omega) _).setBelow (by simp; omega) _) (by omega)
      · exact ((bel_go (bel_go hbW hb) hb2).setCell (by simp) _).setCell (by simp) _
theorem l1up_any (ng : Bool) (a : Option Addr) (cap : Nat) (xs : List Int) (n : Int) (wh r : Nat) (w : World) (hx : Sl .u32 w (.slice a xs.length cap) xs) (dx : Nm.Dg xs) (hl : xs.length ≤ 400000) (hw : wh ≤ 400000) (hr : r < 32) (h0 : 0 ≤ n) (h1 : n ≤ 1000000) (hq : n / 32 = (wh : Int)) (hm : n % 32 = (r : Int)) (v : Int) (hv : ∀ os, Nm.val os = Nm.pw wh * ((2 : Int) ^ r * Nm.val xs) → v = Nm.wv ng os) :
    Calls Tryz.prog 60 #[.agg #[.bool ng, .slice a xs.length cap], .int .i64 n] w fun e w' => ∃ a' c', e = .returned (.agg #[.bool (Nm.wn v), .slice a' (Nm.wl v).length c']) ∧ Own w' w.heap.size a' c' (Nm.wl v) ∧ Below w.heap.size w w' := by
  have HV := hid hv
  have hmk := mkN wh hw
  obtain ⟨q, hp⟩ := pq r hr
  have HP := hid hp
  clear hp hv
  obtain ⟨i0, hi, hz0, hz1, hz2⟩ := info_parts info32
  have HI := hid (And.intro hi (And.intro hz0 (And.intro hz1 hz2)))
  clear hi hz0 hz1 hz2
  go_enter Tryz.func60, Tryz.ntmps60
  have Bx := (Box.new w (.bool ng) (.slice a xs.length cap) 29).alloc (.cells #[.bool false, .slice none 0 0] 29)
  have Rz := R2.new2 w (.cells #[.bool ng, .slice a xs.length cap] 29) (.bool false) (.slice none 0 0) 29
  have sx0 := (hx.alloc (.cells #[.bool ng, .slice a xs.length cap] 29)).alloc (.cells #[.bool false, .slice none 0 0] 29)
  have hbW : Below w.heap.size w ((w.alloc (.cells #[.bool ng, .slice a xs.length cap] 29)).alloc (.cells #[.bool false, .slice none 0 0] 29)) := (by repeat (first | exact bz0 _ _ | refine bz1 ?_ | refine bz2 ?_ _ | refine bz3 ?_ _ | refine bz5 ?_ _ | refine bz6 ?_ _))
  have hsW : ((w.alloc (.cells #[.bool ng, .slice a xs.length cap] 29)).alloc (.cells #[.bool false, .slice none 0 0] 29)).heap.size = w.heap.size + 1 + 1 := by simp
  go_wp2_with fail
  clear hmk
  generalize (w.alloc (.cells #[.bool ng, .slice a xs.length cap] 29)).alloc (.cells #[.bool false, .slice none 0 0] 29) = W at Bx Rz sx0 hbW hsW ⊢
  have HSW := hid hsW
  clear hsW
  try simp only [hq]
  go_loopw [9, 10, 11] (fun sl cy iv wr => ∃ i : Nat, ∃ os : List Int, ∃ c : Int, ∃ g cp : Nat, i ≤ xs.length + 1 ∧ iv = .int .i64 i ∧ cy = .int .u64 c ∧ sl = .slice (some ⟨g, 0, none⟩) os.length cp ∧ Nm.UpTo xs os wh ((2 : Int) ^ r) i c ∧ (xs.length < i → c = 0) ∧ Own wr W.heap.size (some ⟨g, 0, none⟩) cp os ∧ Below W.heap.size W wr) (fun _ _ iv _ => xs.length + 1 - (intOf iv).toNat)
  case atStart =>
    have hmade := (Rw.made W wh).own (base := W.heap.size) (Nat.le_refl _) (by simp; unfold maxLen; omega)
    rw [List.length_replicate] at hmade
    exact ⟨0, List.replicate wh 0, 0, W.heap.size, wh, Nat.zero_le _, rfl, rfl, by rw [HSW.out, List.length_replicate], Nm.UpTo.zero _ _ _ HP.out.2.2, fun h => by omega, hmade, (by repeat (first | exact bz0 _ _ | refine bz1 ?_ | refine bz2 ?_ _ | refine bz3 ?_ _ | refine bz5 ?_ _ | refine bz6 ?_ _))⟩
  case round =>
    obtain ⟨i, os, c, g, cp, hi, rfl, rfl, rfl, hup, hlast, hown, hb⟩ := hrel
    have HUP := hid (And.intro hup hlast)
    have hol := hup.l
    have hc0 := hup.c0
    have hc1 := hup.c1
    have hol1 : os.length ≤ 900000 := by omega
    have hbs : W.heap.size ≤ wr.heap.size := hb.size
    obtain ⟨c00, c01⟩ := Bx.below hb
    clear hup hlast hol
    by_cases hlt : i ≤ xs.length
    · have sx := sx0.below hb
      have hst := HUP.out.1.step HP.out.2.2 HP.out.1 HP.out.2.1 dx
      have hze : xs.length ≤ i → xs.getD i 0 = 0 := fun h => Nm.getD_out h
      have c1 := limb_any a cap xs i wr sx dx (by omega) (by omega)
      obtain ⟨ex0, ex1⟩ := dx.getD i
      obtain ⟨x, hxk⟩ : ∃ x, x = xs.getD i 0 := ⟨_, rfl⟩
      rw [← hxk] at c1 ex0 ex1 hst hze
      obtain ⟨p0, p1, p2, p3, p4, p5⟩ := Nm.up_parts (x := x) (p := (2 : Int) ^ r) (q := q) ⟨ex0, ex1⟩ HP.out.2.2 HP.out.1 HP.out.2.1
      have hpb : (2 : Int) ^ r ≤ 4294967296 := by omega
      have k1 := wrapu _ p0 p1
      have k2 := or_up64 c x r hr hc0 hc1 ex0 ex1
      have C1 := hid c1
      have HST := hid hst
      have HZE := hid hze
      have HPB := hid hpb
      clear c1 hst hze hxk p2 p3 p4 p5 hpb
      have s0 : 0 ≤ c + x * (2 : Int) ^ r := by omega
      go_wp2_with fail
      refine C1.out.mono ?_
      rintro e w1 ⟨rfl, rfl⟩
      go_wp2_with (at_builtin; refine wpList_append_lies _ rfl _ _ 22 rfl W.heap.size 147 i0 (.int .u32 0) 1 4 Tryz.underlying22 HI.out.1 HI.out.2.1 HI.out.2.2.1 HI.out.2.2.2 rfl (by decide) (.slice (some ⟨g, 0, none⟩) os.length cp) os.length (os.map (Value.int .u32)) rfl (by exact hown.alloc _) ⟨w1.heap.size, 0, none⟩ 1 1 [.int .u32 ((c + x * (2 : Int) ^ r) % 4294967296)] rfl rfl (by exact news_one w1 _) (one_one _) (by decide) (by unfold maxLen; omega) (by omega) (by simp; omega) (w1.heap.size + 1) (by simp) ?_; intro g1 cp1 w2 hown2 hgrow hat hlt2)
      have ho2 := own_more hown2
      have hg0 := (own_ge hown).1
      have hb2 : Below W.heap.size W w2 := bel_app (bel_al hb _) hgrow hg0
      clear hown2 hat
      go_roundw
      case rel =>
        refine ⟨i + 1, os ++ [(c + x * (2 : Int) ^ r) % 4294967296], (c + x * (2 : Int) ^ r) / 4294967296, g1, cp1, by omega, by go_num, rfl, by simp, HST.out, fun h => ?_, ho2, hb2⟩
        have h1 := HZE.out (by omega)
        have h2 := HPB.out
        rw [h1]; simp; omega
      case measure => simp [intOf]; omega
    · obtain rfl : i = xs.length + 1 := by omega
      have hz := HUP.out.2 (by omega)
      have hfull := HUP.out.1.full (q := q) hz
      have cm := made_v ng (some ⟨g, 0, none⟩) cp os wr hown.sl HUP.out.1.d (by omega) v (HV.out os hfull)
      have CM := hid cm
      clear cm hfull hz
      go_wp2_with fail
      refine CM.out.mono ?_
      rintro e w2 ⟨a2, c2, rfl, ho2, hb2⟩
      obtain ⟨z0, z1, zf0, zf1⟩ := (Rz.below hb).below hb2
      have l2 : w.heap.size + 1 < wr.heap.size := by have := HSW.out; omega
      go_wp2
      refine bodyPost_ret (v := .agg #[.bool (Nm.wn v), .slice a2 (Nm.wl v).length c2]) (by simp [results, Tryz.results60, go_sem, z0, z1]) rfl ⟨a2, c2, rfl, ?_, ?_⟩
      · exact Own.base ((ho2.setBelow (by simp; omega) _).setBelow (by simp; omega) _) (by omega)
      · exact ((bel_go (bel_go hbW hb) hb2).setCell (by simp) _).setCell (by simp) _
theorem parts32 (n : Int) (h : 0 ≤ n) (h1 : n ≤ 1000000) : ∃ wh r : Nat, n / 32 = (wh : Int) ∧ n % 32 = (r : Int) ∧ wh ≤ 400000 ∧ r < 32 :=
  ⟨(n / 32).toNat, (n % 32).toNat, by omega, by omega, by omega, by omega⟩
theorem l1shift_any (ng : Bool) (a : Option Addr) (cap : Nat) (xs : List Int) (n : Int) (w : World) (hx : Sl .u32 w (.slice a xs.length cap) xs) (dx : Nm.Dg xs) (hl : xs.length ≤ 400000) (h0 : -1000000 ≤ n) (h1 : n ≤ 1000000) (v : Int) (hv : v = Nm.shV ng (Nm.val xs) n) :
    Calls Tryz.prog 60 #[.agg #[.bool ng, .slice a xs.length cap], .int .i64 n] w fun e w' => ∃ a' c', e = .returned (.agg #[.bool (Nm.wn v), .slice a' (Nm.wl v).length c']) ∧ Own w' w.heap.size a' c' (Nm.wl v) ∧ Below w.heap.size w w' := by
  by_cases hn : 0 ≤ n
  · obtain ⟨wh, r, hq, hm, hw, hr⟩ := parts32 n hn h1
    exact l1up_any ng a cap xs n wh r w hx dx hl hw hr hn h1 hq hm v (fun os h => by rw [hv]; exact Nm.shV_wv (h.trans (Nm.shM_up hn hq hm)))
  · obtain ⟨m, rfl⟩ : ∃ m, n = -m := ⟨-n, by omega⟩
    obtain ⟨wh, r, hq, hm, hw, hr⟩ := parts32 m (by omega) (by omega)
    have hd : Nm.val (Nm.sd ((2 : Int) ^ r) (xs.drop wh)) = Nm.shM (Nm.val xs) (-m) := (sd_drop_val dx wh r hr).trans (Nm.shM_down (by omega) (by rw [Int.neg_neg]; exact hq) (by rw [Int.neg_neg]; exact hm))
    by_cases hc : xs.length ≤ wh
    · have hz : Nm.shV ng (Nm.val xs) (-m) = 0 := by
        rw [List.drop_eq_nil_of_le hc] at hd
        unfold Nm.shV; rw [← hd]; simp [Nm.sd, Nm.val]
      rw [hv, hz]
      have e1 : Nm.wl 0 = [] := Nm.lim_zero
      have e2 : Nm.wn 0 = false := by decide
      rw [e1, e2]
      exact (l1down_no ng a cap xs m wh w hx hl hw (by omega) (by omega) hq hc).mono fun e w' ⟨he, hb⟩ => ⟨none, 0, by rw [he]; rfl, Own.nil _ _, hb⟩
    · exact l1down_yes ng a cap xs m wh r w hx dx hl hw hr (by omega) (by omega) hq hm hc v (by rw [hv]; exact Nm.shV_wv hd)
/-- Whether a number lies between two. -/
def inZ (n lo hi : Int) : Bool := decide (lo ≤ n) && decide (n ≤ hi)
theorem inZ_yes {n lo hi : Int} (h : inZ n lo hi = true) : lo ≤ n ∧ n ≤ hi := by simpa [inZ] using h
theorem keep2 {w w' : World} {b : Nat} {v0 v1 : Value} (h0 : w.cell? ⟨b, 0, none⟩ = some v0) (h1 : w.cell? ⟨b, 1, none⟩ = some v1) (hb : Below w.heap.size w w') : w'.cell? ⟨b, 0, none⟩ = some v0 ∧ w'.cell? ⟨b, 1, none⟩ = some v1 := Box.below ⟨h0, h1⟩ hb
theorem keep2_set {w : World} {b z : Nat} {v0 v1 : Value} (h0 : w.cell? ⟨b, 0, none⟩ = some v0) (h1 : w.cell? ⟨b, 1, none⟩ = some v1) (n1 : b ≠ z) (p q : Value) :
    ((w.setCell ⟨z, 0, none⟩ p).setCell ⟨z, 1, none⟩ q).cell? ⟨b, 0, none⟩ = some v0 ∧ ((w.setCell ⟨z, 0, none⟩ p).setCell ⟨z, 1, none⟩ q).cell? ⟨b, 1, none⟩ = some v1 :=
  ⟨(keep3_set h0 h1 h1 n1 n1 p q).1, (keep3_set h0 h1 h1 n1 n1 p q).2.1⟩
theorem wsh_impl_no (ng : Bool) (a : Option Addr) (cap : Nat) (xs : List Int) (n : Int) (w : World) (hx : Sl .u32 w (.slice a xs.length cap) xs) (hl : xs.length ≤ 1048576) (hk : (okB ng xs && inZ n (-10000) 10000) = false) :
    Calls Tryz.prog 138 #[.agg #[.bool ng, .slice a xs.length cap], .int .i64 n] w fun e w' => e = .returned (.tuple #[.agg #[.bool false, .slice none 0 0], .bool false]) ∧ Below w.heap.size w w' := by
  have sx := (hx.alloc (.cells #[.bool ng, .slice a xs.length cap] 29)).alloc (.cells #[.bool false, .slice none 0 0] 29)
  have Rz := R2.new2 w (.cells #[.bool ng, .slice a xs.length cap] 29) (.bool false) (.slice none 0 0) 29
  cases h1 : okB ng xs
  · clear hk
    go_enter Tryz.func138, Tryz.ntmps138
    go_wp2_with fail
    refine (ok_impl ng a cap xs _ sx (by omega)).mono ?_
    rintro e w1 ⟨rfl, hb1⟩
    obtain ⟨z0, z1, zf0, zf1⟩ := Rz.below hb1
    go_wp2
    exact bodyPost_ret (v := .tuple #[.agg #[.bool false, .slice none 0 0], .bool false]) (by simp [results, Tryz.results138, go_sem, z0, z1]) rfl ⟨rfl, (by repeat (first | exact bz0 _ _ | refine bz1 ?_ | refine bz2 ?_ _ | refine bz3 ?_ _ | refine bz4 ?_ hb1 | refine bz5 ?_ _ | refine bz6 ?_ _ | refine bz7 ?_ hb1))⟩
  · have h2 : inZ n (-10000) 10000 = false := by rw [h1] at hk; simpa using hk
    have h3 : n < -10000 ∨ (¬ n < -10000 ∧ 10000 < n) := by simp [inZ] at h2; omega
    clear hk h2
    rcases h3 with h3 | ⟨h3, h4⟩
    all_goals
      go_enter Tryz.func138, Tryz.ntmps138
      go_wp2_with fail
      refine (ok_impl ng a cap xs _ sx (by omega)).mono ?_
      rintro e w1 ⟨rfl, hb1⟩
      obtain ⟨z0, z1, zf0, zf1⟩ := Rz.below hb1
      go_wp2
      exact bodyPost_ret (v := .tuple #[.agg #[.bool false, .slice none 0 0], .bool false]) (by simp [results, Tryz.results138, go_sem, z0, z1]) rfl ⟨rfl, (by repeat (first | exact bz0 _ _ | refine bz1 ?_ | refine bz2 ?_ _ | refine bz3 ?_ _ | refine bz4 ?_ hb1 | refine bz5 ?_ _ | refine bz6 ?_ _ | refine bz7 ?_ hb1))⟩
theorem wsh_impl_up (ng : Bool) (a : Option Addr) (cap : Nat) (xs : List Int) (m : Int) (wh r : Nat) (w : World) (hx : Sl .u32 w (.slice a xs.length cap) xs) (dx : Nm.Dg xs) (h1 : okB ng xs = true) (h0 : 0 ≤ m) (h2 : m ≤ 10000) (hq : m / 32 = (wh : Int)) (hm : m % 32 = (r : Int)) (hw : wh ≤ 400000) (hr : r < 32) (x : Int) (hv : x = Nm.shV ng (Nm.val xs) (m)) :
    Calls Tryz.prog 138 #[.agg #[.bool ng, .slice a xs.length cap], .int .i64 (m)] w fun e w' => ∃ a' c', e = .returned (.tuple #[.agg #[.bool (Nm.outN x), .slice a' (Nm.outL x).length c'], .bool (Nm.fits x)]) ∧ Own w' w.heap.size a' c' (Nm.outL x) ∧ Below w.heap.size w w' := by
  have sx := (hx.alloc (.cells #[.bool ng, .slice a xs.length cap] 29)).alloc (.cells #[.bool false, .slice none 0 0] 29)
  have Rz := R2.new2 w (.cells #[.bool ng, .slice a xs.length cap] 29) (.bool false) (.slice none 0 0) 29
  have Bx := (Box.new w (.bool ng) (.slice a xs.length cap) 29).alloc (.cells #[.bool false, .slice none 0 0] 29)
  obtain ⟨nx, lx⟩ := okB_nz h1
  have HX : Hid (∀ os, Nm.val os = Nm.pw wh * ((2 : Int) ^ r * Nm.val xs) → x = Nm.wv ng os) := hid (fun os h => by rw [hv]; exact Nm.shV_wv (h.trans (Nm.shM_up h0 hq hm)))
  have kneg : IntKind.i64.wrap m = m := by rw [IntKind.wrap_i64]; omega
  have HQ := hid (And.intro hq hm)
  clear hv hq hm
  go_enter Tryz.func138, Tryz.ntmps138
  go_wp2_with fail
  refine (ok_impl ng a cap xs _ sx (by omega)).mono ?_
  rintro e W ⟨rfl, hb1⟩
  replace sx := sx.below hb1
  replace Rz := Rz.below hb1
  replace Bx := Bx.below hb1
  have lW : w.heap.size + 1 < W.heap.size := World.block_lt_of_cell? W _ Rz.c0
  go_wp2_with fail
  go_region_held3 (fun w' => w'.cell? ⟨w.heap.size, 0, none⟩ = some (.bool ng) ∧ w'.cell? ⟨w.heap.size, 1, none⟩ = some (.slice a xs.length cap)) (first | assumption | (refine keep2_set k3.1 k3.2 ?_ _ _ <;> omega) | exact ⟨Bx.1, Bx.2⟩)
    (first
      | (go_at_call 184; refine (up_any a cap xs m wh r _ (by exact sx.drew) dx (by omega) hw hr (by omega) (by omega) HQ.out.1 HQ.out.2).mono ?_; rintro e w2 ⟨a2, c2, os, rfl, ho2, dos, hvo, hlo, hb2⟩; have k2 := keep2 (w := W.drew) Bx.1 Bx.2 hb2; have Rz2 := Rz.drew.below hb2)
      | (go_at_call 179; refine (fitted_v ng a2 c2 os W.heap.size _ (by exact ho2) dos hlo x (HX.out os hvo)).mono ?_; rintro e w3 ⟨a3, c3, rfl, ho3, hb3⟩; have k3 := keep2 k2.1 k2.2 hb3; have Rz3 := Rz2.below hb3; obtain ⟨z0, z1, zf0, zf1⟩ := Rz3))
  have l2 : W.heap.size ≤ w2.heap.size := hb2.size
  have l3 : w2.heap.size ≤ w3.heap.size := hb3.size
  go_wp2
  refine bodyPost_ret (v := .tuple #[.agg #[.bool (Nm.outN x), .slice a3 (Nm.outL x).length c3], .bool (Nm.fits x)]) (by simp [results, Tryz.results138, go_sem, z0, z1]) rfl ⟨a3, c3, rfl, ?_, ?_⟩
  · exact Own.base ((ho3.setBelow (by simp; omega) _).setBelow (by simp; omega) _) (by omega)
  · have hb0 : Below w.heap.size w W := (by repeat (first | exact bz0 _ _ | refine bz1 ?_ | refine bz2 ?_ _ | refine bz3 ?_ _ | refine bz4 ?_ hb1 | refine bz5 ?_ _ | refine bz6 ?_ _ | refine bz7 ?_ hb1))
    exact ((bel_go (bel_go (Below.drew hb0) hb2) hb3).setCell (by simp) _).setCell (by simp) _
theorem wsh_impl_down (ng : Bool) (a : Option Addr) (cap : Nat) (xs : List Int) (m : Int) (wh r : Nat) (w : World) (hx : Sl .u32 w (.slice a xs.length cap) xs) (dx : Nm.Dg xs) (h1 : okB ng xs = true) (h0 : 1 ≤ m) (h2 : m ≤ 10000) (hq : m / 32 = (wh : Int)) (hm : m % 32 = (r : Int)) (hw : wh ≤ 400000) (hr : r < 32) (x : Int) (hv : x = Nm.shV ng (Nm.val xs) (-m)) :
    Calls Tryz.prog 138 #[.agg #[.bool ng, .slice a xs.length cap], .int .i64 (-m)] w fun e w' => ∃ a' c', e = .returned (.tuple #[.agg #[.bool (Nm.outN x), .slice a' (Nm.outL x).length c'], .bool (Nm.fits x)]) ∧ Own w' w.heap.size a' c' (Nm.outL x) ∧ Below w.heap.size w w' := by
  have sx := (hx.alloc (.cells #[.bool ng, .slice a xs.length cap] 29)).alloc (.cells #[.bool false, .slice none 0 0] 29)
  have Rz := R2.new2 w (.cells #[.bool ng, .slice a xs.length cap] 29) (.bool false) (.slice none 0 0) 29
  have Bx := (Box.new w (.bool ng) (.slice a xs.length cap) 29).alloc (.cells #[.bool false, .slice none 0 0] 29)
  obtain ⟨nx, lx⟩ := okB_nz h1
  have HX : Hid (∀ os, Nm.val os = Nm.val xs / Nm.pw wh / (2 : Int) ^ r → x = Nm.wv ng os) := hid (fun os h => by rw [hv]; exact Nm.shV_wv (h.trans (Nm.shM_down (by omega) (by rw [Int.neg_neg]; exact hq) (by rw [Int.neg_neg]; exact hm))))
  have kneg : IntKind.i64.wrap m = m := by rw [IntKind.wrap_i64]; omega
  have HQ := hid (And.intro hq hm)
  clear hv hq hm
  go_enter Tryz.func138, Tryz.ntmps138
  go_wp2_with fail
  refine (ok_impl ng a cap xs _ sx (by omega)).mono ?_
  rintro e W ⟨rfl, hb1⟩
  replace sx := sx.below hb1
  replace Rz := Rz.below hb1
  replace Bx := Bx.below hb1
  have lW : w.heap.size + 1 < W.heap.size := World.block_lt_of_cell? W _ Rz.c0
  go_wp2_with fail
  go_region_held3 (fun w' => w'.cell? ⟨w.heap.size, 0, none⟩ = some (.bool ng) ∧ w'.cell? ⟨w.heap.size, 1, none⟩ = some (.slice a xs.length cap)) (first | assumption | (refine keep2_set k3.1 k3.2 ?_ _ _ <;> omega) | exact ⟨Bx.1, Bx.2⟩)
    (first
      | (go_at_call 183; refine (down_any a cap xs m wh r _ (by exact sx.drew) dx (by omega) hw hr (by omega) (by omega) HQ.out.1 HQ.out.2).mono ?_; rintro e w2 ⟨a2, c2, os, rfl, ho2, dos, hvo, hlo, hb2⟩; have k2 := keep2 (w := W.drew) Bx.1 Bx.2 hb2; have Rz2 := Rz.drew.below hb2)
      | (go_at_call 179; refine (fitted_v ng a2 c2 os W.heap.size _ (by exact ho2) dos hlo x (HX.out os hvo)).mono ?_; rintro e w3 ⟨a3, c3, rfl, ho3, hb3⟩; have k3 := keep2 k2.1 k2.2 hb3; have Rz3 := Rz2.below hb3; obtain ⟨z0, z1, zf0, zf1⟩ := Rz3))
  have l2 : W.heap.size ≤ w2.heap.size := hb2.size
  have l3 : w2.heap.size ≤ w3.heap.size := hb3.size
  go_wp2
  refine bodyPost_ret (v := .tuple #[.agg #[.bool (Nm.outN x), .slice a3 (Nm.outL x).length c3], .bool (Nm.fits x)]) (by simp [results, Tryz.results138, go_sem, z0, z1]) rfl ⟨a3, c3, rfl, ?_, ?_⟩
  · exact Own.base ((ho3.setBelow (by simp; omega) _).setBelow (by simp; omega) _) (by omega)
  · have hb0 : Below w.heap.size w W := (by repeat (first | exact bz0 _ _ | refine bz1 ?_ | refine bz2 ?_ _ | refine bz3 ?_ _ | refine bz4 ?_ hb1 | refine bz5 ?_ _ | refine bz6 ?_ _ | refine bz7 ?_ hb1))
    exact ((bel_go (bel_go (Below.drew hb0) hb2) hb3).setCell (by simp) _).setCell (by simp) _
theorem wsh_impl (ng : Bool) (a : Option Addr) (cap : Nat) (xs : List Int) (n : Int) (w : World) (hx : Sl .u32 w (.slice a xs.length cap) xs) (dx : Nm.Dg xs) (hl : xs.length ≤ 1048576) :
    Calls Tryz.prog 138 #[.agg #[.bool ng, .slice a xs.length cap], .int .i64 n] w fun e w' => ∃ a' c', e = .returned (.tuple #[.agg #[.bool (opN (okB ng xs && inZ n (-10000) 10000) (Nm.shV ng (Nm.val xs) n)), .slice a' (opL (okB ng xs && inZ n (-10000) 10000) (Nm.shV ng (Nm.val xs) n)).length c'], .bool (opO (okB ng xs && inZ n (-10000) 10000) (Nm.shV ng (Nm.val xs) n))]) ∧ Own w' w.heap.size a' c' (opL (okB ng xs && inZ n (-10000) 10000) (Nm.shV ng (Nm.val xs) n)) ∧ Below w.heap.size w w' := by
  cases hk : (okB ng xs && inZ n (-10000) 10000)
  · exact (wsh_impl_no ng a cap xs n w hx hl hk).mono fun e w' ⟨he, hb⟩ => ⟨none, 0, by rw [he]; rfl, Own.nil _ _, hb⟩
  · have h1 : okB ng xs = true := by cases h : okB ng xs <;> simp_all
    have h2 : inZ n (-10000) 10000 = true := by rw [h1] at hk; simpa using hk
    obtain ⟨r0, r1⟩ := inZ_yes h2
    by_cases hn : 0 ≤ n
    · obtain ⟨wh, r, hq, hm, hw, hr⟩ := parts32 n hn (by omega)
      exact wsh_impl_up ng a cap xs n wh r w hx dx h1 hn r1 hq hm hw hr _ rfl
    · obtain ⟨m, rfl⟩ : ∃ m, n = -m := ⟨-n, by omega⟩
      obtain ⟨wh, r, hq, hm, hw, hr⟩ := parts32 m (by omega) (by omega)
      exact wsh_impl_down ng a cap xs m wh r w hx dx h1 (by omega) (by omega) hq hm hw hr _ rfl
theorem lim_len {x k : Nat} (h : bitLen x ≤ 32 * k) : (Nm.lim x).length ≤ k := (Nm.lim_length x k).2 (by rw [Nm.pw_two]; exact Int.ofNat_lt.2 ((Nm.bl_le_iff x (32 * k)).1 h))
theorem len_bl {x k : Nat} (h : (Nm.lim x).length ≤ k) : bitLen x ≤ 32 * k := (Nm.bl_le_iff x (32 * k)).2 (by have := (Nm.lim_length x k).1 h; rw [Nm.pw_two] at this; exact Int.ofNat_lt.1 this)
theorem wl_nat (x : Nat) : Nm.wl (x : Int) = Nm.lim x := by unfold Nm.wl; simp
theorem wn_nat (x : Nat) : Nm.wn (x : Int) = false := by unfold Nm.wn; exact decide_eq_false (by omega)
theorem shift_n (x : Nat) (n : Int) (a : Option Addr) (c : Nat) (w : World) (hx : Sl .u32 w (.slice a (Nm.lim x).length c) (Nm.lim x)) (hl : bitLen x ≤ 100000) (h0 : -1000000 ≤ n) (h1 : n ≤ 1000000) :
    Calls Tryz.prog 60 #[.agg #[.bool false, .slice a (Nm.lim x).length c], .int .i64 n] w fun e w' => ∃ a' c', e = .returned (.agg #[.bool false, .slice a' (Nm.lim (Nm.sh x n)).length c']) ∧ Own w' w.heap.size a' c' (Nm.lim (Nm.sh x n)) ∧ Below w.heap.size w w' := by
  have h := l1shift_any false a c (Nm.lim x) n w hx (Nm.lim_dg x) (by have := lim_len (x := x) (k := 100000) (by omega); omega) h0 h1 ((Nm.sh x n : Nat) : Int) (by rw [Nm.lim_val, Nm.shV_sh])
  rw [wn_nat, wl_nat] at h
  exact h
theorem sQ_32 (w : World) :
    Calls Tryz.prog 61 #[.int .i64 32] w fun e w' => e = .returned (.int .i64 (-149)) ∧ w' = w := by
  go_enter Tryz.func61, Tryz.ntmps61
  go_wp2
  go_ret
  exact ⟨rfl, rfl⟩
theorem sQ_64 (w : World) :
    Calls Tryz.prog 61 #[.int .i64 64] w fun e w' => e = .returned (.int .i64 (-1074)) ∧ w' = w := by
  go_enter Tryz.func61, Tryz.ntmps61
  go_wp2
  go_ret
  exact ⟨rfl, rfl⟩
theorem store_func (P : Program) (w : World) (a : Addr) (f : Fn) (xs ys) (m) : (store a (.func f xs ys) m).run P w = stored P w a (.func f xs ys) m := run_store P w a _ m rfl
attribute [local go_sem] store_func
theorem ok_lim {a : Nat} (ha : a ≠ 0) (hl : bitLen a ≤ 6400) (ng : Bool) : okB ng (Nm.lim a) = true := by
  have hlen := lim_len (x := a) (k := 200) (by omega)
  have hne : (Nm.lim a).length ≠ 0 := fun h => ha ((Nm.lim_length_zero a).1 h)
  have hz := Nm.lim_nz a
  unfold okB
  rw [if_neg hne, decide_eq_true hlen, Bool.true_and]
  have : (Nm.lim a).getD ((Nm.lim a).length - 1) 0 ≠ 0 := by
    apply hz
    rw [List.getLast?_eq_getElem?, List.getD_eq_getElem?_getD, List.getElem?_eq_getElem (by omega)]; rfl
  rw [decide_eq_false this]; rfl
theorem fits_nat {x : Nat} (h : bitLen x ≤ 6400) : Nm.fits (x : Int) = true := by
  unfold Nm.fits; rw [wl_nat]; exact decide_eq_true (lim_len (k := 200) (by omega))
end Go.Proofs.YtnliofakkkjpoaaGreatDoor
namespace Go.Proofs.YtnliofakkkjpoaaGreatDoor
set_option linter.unusedVariables false
set_option linter.unusedSimpArgs false
open Go.RowKit Go.Deep
/-- A wide in a box: the number x. -/
def WB (w : World) (b : Nat) (a : Option Addr) (c : Nat) (x : Nat) : Prop := R2 w b (.bool false) (.slice a (Nm.lim x).length c) ∧ Sl .u32 w (.slice a (Nm.lim x).length c) (Nm.lim x)
theorem WB.below {w w' : World} {b : Nat} {a : Option Addr} {c x : Nat} (h : WB w b a c x) (hb : Below w.heap.size w w') : WB w' b a c x := ⟨h.1.below hb, h.2.below hb⟩
theorem WB.new {w : World} {a : Option Addr} {c x : Nat} (h : Sl .u32 w (.slice a (Nm.lim x).length c) (Nm.lim x)) (t : TypeId) : WB (w.alloc (.cells #[.bool false, .slice a (Nm.lim x).length c] t)) w.heap.size a c x := ⟨R2.new w _ _ t, h.alloc _⟩
theorem WB.alloc {w : World} {b : Nat} {a : Option Addr} {c x : Nat} (h : WB w b a c x) (o : Obj) : WB (w.alloc o) b a c x := ⟨h.1.alloc o, h.2.alloc o⟩
theorem WB.drew {w : World} {b : Nat} {a : Option Addr} {c x : Nat} (h : WB w b a c x) : WB w.drew b a c x := ⟨h.1.drew, h.2.drew⟩
theorem WB.lt {w : World} {b : Nat} {a : Option Addr} {c x : Nat} (h : WB w b a c x) : b < w.heap.size := World.block_lt_of_cell? w _ h.1.c0
theorem Box.lt {w : World} {b : Nat} {v0 v1 : Value} (h : Box w b v0 v1) : b < w.heap.size := World.block_lt_of_cell? w _ h.1
attribute [local go_sem ↓] Go.wp_at_zero Go.wp_at_succ
theorem Nm.bl_sh (x : Nat) (n : Int) : bitLen (Nm.sh x n) ≤ bitLen x + n.toNat := by
  unfold Nm.sh
  split
  · have := Nm.bl_mono (Nat.div_le_self x (2 ^ (-n).toNat)); omega
  · by_cases h : x = 0
    · subst h; simp [Nm.bl_zero]
    · rw [Nm.bl_mul h]; omega
end Go.Proofs.YtnliofakkkjpoaaGreatDoor
namespace Go.Proofs.YtnliofakkkjpoaaGreatDoor
set_option linter.unusedVariables false
set_option linter.unusedSimpArgs false
open Go.RowKit Go.Deep
/-- All three tables. -/
structure T3 (w : World) : Prop where
  s : Ts w
  t32 : Tb w 3 Lib.deBruijn32tab
theorem T3.below {w w' : World} (h : T3 w) (hb : Below w.heap.size w w') : T3 w' := ⟨h.s.below hb, h.t32.below (by decide) hb⟩
theorem T3.al {w : World} (h : T3 w) (o : Obj) : T3 (w.alloc o) := h.below ((Below.refl _ _).alloc (Nat.le_refl _) _)
theorem T3.dr {w : World} (h : T3 w) : T3 w.drew := ⟨h.s.dr, h.t32⟩
def fmtB (fm : Int) : Bool := decide (fm = 32) || decide (fm = 64)
theorem fmt_cases {fm : Int} (h : fmtB fm = true) : fm = 32 ∨ fm = 64 := by simpa [fmtB] using h
theorem fmt_no {fm : Int} (h : fmtB fm = false) : fm ≠ 32 ∧ fm ≠ 64 := by simpa [fmtB] using h
theorem fmt_spec (fm : Int) (w : World) :
    Calls Tryz.prog 120 #[.int .i64 fm] w fun e w' => e = .returned (.bool (fmtB fm)) ∧ w' = w := by
  cases h : fmtB fm
  · obtain ⟨h1, h2⟩ := fmt_no h
    have e1 : (fm == 32) = false := by simpa using h1
    have e2 : (fm == 64) = false := by simpa using h2
    clear h h1 h2
    go_enter Tryz.func120, Tryz.ntmps120
    go_wp2
    go_ret
    exact ⟨rfl, rfl⟩
  · rcases fmt_cases h with rfl | rfl
    · go_enter Tryz.func120, Tryz.ntmps120
      go_wp2
      go_ret
      exact ⟨rfl, rfl⟩
    · go_enter Tryz.func120, Tryz.ntmps120
      go_wp2
      go_ret
      exact ⟨rfl, rfl⟩
theorem l1uint_v (m : Int) (ng : Bool) (w : World) (h0 : 0 ≤ m) (h1 : m < 18446744073709551616) (x : Int) (hx : x = if ng then -m else m) :
    Calls Tryz.prog 95 #[.int .u64 m, .bool ng] w fun e w' => ∃ a' c', e = .returned (.agg #[.bool (Nm.wn x), .slice a' (Nm.wl x).length c']) ∧ Own w' w.heap.size a' c' (Nm.wl x) ∧ Below w.heap.size w w' := by
  have HV : Hid (x = Nm.wv ng (two m)) := hid (by rw [two_wv ng h0]; exact hx)
  have HD := hid (two_dg h0 h1)
  clear hx
  go_enter Tryz.func95, Tryz.ntmps95
  go_wp2_with fail
  refine (made_v ng _ 2 (two m) _ (by refine Own.sl (own_two (B := 0) ?_ ?_ _ _) <;> simp) HD.out (by simp [two]) x HV.out).mono ?_
  rintro e w1 ⟨a', c', rfl, ho, hb⟩
  have r := (R2.new w (.bool false) (.slice none 0 0) 29).alloc (.cells #[.int .u32 (m % 4294967296), .int .u32 (m / 4294967296)] 147)
  obtain ⟨rc0, rc1, rf0, rf1⟩ := r.below hb
  have ho : Own w1 (w.heap.size + 1 + 1) a' c' (Nm.wl x) := by simpa using ho
  go_wp2
  refine bodyPost_ret (v := .agg #[.bool (Nm.wn x), .slice a' (Nm.wl x).length c']) (by simp [results, Tryz.results95, go_sem, rc0, rc1]) rfl ⟨a', c', rfl, ?_, (by repeat (first | exact bz0 _ _ | refine bz1 ?_ | refine bz2 ?_ _ | refine bz3 ?_ _ | refine bz4 ?_ hb | refine bz5 ?_ _ | refine bz6 ?_ _ | refine bz7 ?_ hb))⟩
  exact Own.base ((ho.setBelow (by simp; omega) _).setBelow (by simp; omega) _) (by omega)
theorem sparts_any (fm x : Int) (w : World) (hf : finB fm x = true) (h0 : 0 ≤ x) (h1 : x < 18446744073709551616) :
    Calls Tryz.prog 93 #[.int .i64 fm, .int .u64 x] w fun e w' => e = .returned (.agg #[.bool (pS fm x), .int .i64 (pM fm x), .int .i64 (pE fm x)]) ∧ Below w.heap.size w w' := by
  have ho : okF fm x = true := by
    cases ho : okF fm x
    · rw [fin_no ho] at hf; cases hf
    · rfl
  rcases okF_cases ho with ⟨rfl, hx⟩ | rfl
  · refine (spec_l2Parts32 x w h0 hx).mono ?_
    rintro e w1 ⟨rfl, hb1⟩
    exact ⟨ret_p3 (by unfold pS; rw [hf]; rfl) (by unfold pM; rw [hf]; rfl) (by unfold pE; rw [hf]; rfl), hb1⟩
  · refine (spec_l2Parts64 x w h0 h1).mono ?_
    rintro e w1 ⟨rfl, hb1⟩
    exact ⟨ret_p3 (by unfold pS; rw [hf]; rfl) (by unfold pM; rw [hf]; rfl) (by unfold pE; rw [hf]; rfl), hb1⟩
/-- The bounds of a finite float's parts. -/
theorem par_bd {L y : Int} (h0 : 0 ≤ y) (hL : 0 < L) : 0 ≤ parM L y ∧ parM L y < 2 * L := by
  have h1 := Int.emod_nonneg y (show L ≠ 0 by omega)
  have h2 := Int.emod_lt_of_pos y hL
  unfold parM; split <;> omega
theorem pM_bd (fm x : Int) : 0 ≤ pM fm x ∧ pM fm x < 9007199254740992 := by
  unfold pM
  split
  · split
    · have := par_bd (L := 8388608) (y := x % 2147483648) (by omega) (by decide); omega
    · have := par_bd (L := 4503599627370496) (y := x % 9223372036854775808) (by omega) (by decide); omega
  · omega
theorem pE_bd (fm x : Int) : -1074 ≤ pE fm x ∧ pE fm x ≤ 2000 := by
  unfold pE parE
  split
  · split
    · split <;> omega
    · split <;> omega
  · omega
/-- Whether what is kept beside the sum is right. -/
def mkB (T : Int) (nn bd pl mi am : Bool) : Bool := decide (0 ≤ T) && decide (T ≤ 1000000) && !(bd && !nn) && !(decide (T = 0) && (nn || bd || pl || mi || am)) && !(am && (nn || bd || pl || mi))
/-- Numbers of 64 bits. -/
def D64 (xs : List Int) : Prop := ∀ x ∈ xs, 0 ≤ x ∧ x < 18446744073709551616
theorem D64.getD {xs : List Int} (h : D64 xs) (k : Nat) : 0 ≤ xs.getD k 0 ∧ xs.getD k 0 < 18446744073709551616 := by
  rw [List.getD_eq_getElem?_getD]
  by_cases hk : k < xs.length
  · rw [List.getElem?_eq_getElem hk]; exact h _ (List.getElem_mem hk)
  · rw [List.getElem?_eq_none (by omega)]; decide
/-- Whether all are floats of the format. -/
def allB (fm : Int) (xs : List Int) : Bool := xs.all (fun x => okF fm x)
theorem allB_yes {fm : Int} {xs : List Int} (h : ∀ j, j < xs.length → okF fm (xs.getD j 0) = true) : allB fm xs = true := by
  unfold allB
  rw [List.all_eq_true]
  intro x hx
  obtain ⟨j, hj, rfl⟩ := List.getElem_of_mem hx
  have := h j hj
  rwa [List.getD_eq_getElem?_getD, List.getElem?_eq_getElem hj] at this
theorem allB_no {fm : Int} {xs : List Int} {j : Nat} (hj : j < xs.length) (h : okF fm (xs.getD j 0) = false) : allB fm xs = false := by
  cases h' : allB fm xs
  · rfl
  · unfold allB at h'
    rw [List.all_eq_true] at h'
    have := h' _ (List.getElem_mem hj)
    rw [List.getD_eq_getElem?_getD, List.getElem?_eq_getElem hj] at h
    simp at h this
    rw [h] at this; exact absurd this (by decide)
theorem allf_impl (fm : Int) (a : Option Addr) (cap : Nat) (xs : List Int) (w : World) (hT : Tab w) (hx : Sl .u64 w (.slice a xs.length cap) xs) (dx : D64 xs) (hl : xs.length ≤ 1048576) :
    Calls Tryz.prog 132 #[.int .i64 fm, .slice a xs.length cap] w fun e w' => e = .returned (.bool (allB fm xs)) ∧ Below w.heap.size w w' := by
  obtain ⟨-, hx1, hx2, hx3⟩ := hx.cells
  have CO := hid (fun k w' h => impl_ok fm (xs.getD k 0) w' h (dx.getD k).1 (dx.getD k).2)
  have DX := hid dx
  clear dx
  go_enter Tryz.func132, Tryz.ntmps132
  go_wp2
  go_loopw [9] (fun i wr => ∃ k : Nat, k ≤ xs.length ∧ i = .int .i64 k ∧ (∀ j, j < k → okF fm (xs.getD j 0) = true) ∧ Below w.heap.size w wr) (fun i _ => xs.length - (intOf i).toNat)
  case atStart => exact ⟨0, Nat.zero_le _, rfl, fun j hj => absurd hj (Nat.not_lt_zero _), Below.refl _ _⟩
  case round =>
    obtain ⟨k, hk, rfl, hpre, hb⟩ := hrel
    have PRE := hid hpre
    clear hpre
    by_cases hlt : k < xs.length
    · obtain ⟨b, off, rfl, hcx⟩ := hx3 (by omega)
      have h1 := hcx k hlt
      have h1 : wr.cell? ⟨b, off + k, none⟩ = some (.int .u64 (xs.getD k 0)) := (hb.cell (p := ⟨b, off + k, none⟩) (World.block_lt_of_cell? w _ h1)).trans h1
      clear hx3 hcx
      have C := hid (fun w' h => CO.out k w' h)
      have HNO := hid (allB_no (fm := fm) hlt)
      have PRE2 : Hid (okF fm (xs.getD k 0) = true → ∀ j, j < k + 1 → okF fm (xs.getD j 0) = true) := hid (fun h j hj => by
        by_cases e : j = k
        · subst e; exact h
        · exact PRE.out j (by omega))
      obtain ⟨x, hxk⟩ : ∃ x, x = xs.getD k 0 := ⟨_, rfl⟩
      obtain ⟨o, hok⟩ : ∃ o, o = okF fm x := ⟨_, rfl⟩
      rw [← hxk] at h1 C HNO
      rw [← hok] at C HNO
      have PRE2 : Hid (o = true → ∀ j, j < k + 1 → okF fm (xs.getD j 0) = true) := hid (fun h => PRE2.out (by rw [← hxk, ← hok]; exact h))
      clear hxk hok CO PRE
      cases o with
      | true =>
        have PRE3 := hid (PRE2.out rfl)
        clear PRE2 HNO
        go_wp2_with fail
        refine (C.out _ (hT.below hb)).mono ?_
        rintro e w1 ⟨rfl, hb1⟩
        go_wp2
        go_roundw
        case rel => exact ⟨k + 1, by omega, by go_num, PRE3.out, bel_go hb hb1⟩
        case measure => simp [intOf]; omega
      | false =>
        have HN2 := hid (HNO.out rfl)
        clear PRE2 HNO
        go_wp2_with fail
        refine (C.out _ (hT.below hb)).mono ?_
        rintro e w1 ⟨rfl, hb1⟩
        go_wp2
        go_ret
        exact ⟨ret_bool HN2.out.symm, bel_go hb hb1⟩
    · obtain rfl : k = xs.length := by omega
      have HY := hid (allB_yes PRE.out)
      clear hx3 CO PRE
      go_wp2
      go_ret
      exact ⟨ret_bool HY.out.symm, hb⟩
theorem okB_wl {x : Int} (h : (Nm.wl x).length ≤ 200) : okB (Nm.wn x) (Nm.wl x) = true := by
  by_cases h0 : x = 0
  · subst h0
    have e1 : Nm.wl 0 = [] := Nm.lim_zero
    have e2 : Nm.wn 0 = false := by decide
    rw [e1, e2]; rfl
  · have hb : bitLen x.natAbs ≤ 6400 := len_bl (k := 200) h
    exact ok_lim (by omega) hb _
theorem l1uint_z (m : Int) (ng : Bool) (w : World) (h0 : 0 ≤ m) (h1 : m < 18446744073709551616) :
    Calls Tryz.prog 95 #[.int .u64 m, .bool ng] w fun e w' => ∃ a' c', e = .returned (.agg #[.bool (Nm.wn (if ng then -m else m)), .slice a' (Nm.wl (if ng then -m else m)).length c']) ∧ Own w' w.heap.size a' c' (Nm.wl (if ng then -m else m)) ∧ Below w.heap.size w w' :=
  l1uint_v m ng w h0 h1 _ rfl
theorem signedM_z (ng : Bool) (m : Int) (E : Int) (w : World) (h0 : 0 ≤ m) (h1 : m < 9223372036854775808) :
    Calls Tryz.prog 164 #[.agg #[.bool ng, .int .i64 m, .int .i64 E]] w fun e w' => ∃ a' c', e = .returned (.agg #[.bool (Nm.wn (if ng then -m else m)), .slice a' (Nm.wl (if ng then -m else m)).length c']) ∧ Own w' w.heap.size a' c' (Nm.wl (if ng then -m else m)) ∧ Below w.heap.size w w' := by
  have CN := hid (fun w' => wof_impl (-m) w' (by omega) (by omega))
  have CP := hid (fun w' => wof_impl m w' (by omega) (by omega))
  cases ng with
  | true =>
    have e : (if true = true then -m else m) = -m := rfl
    rw [e]
    obtain ⟨G, hG⟩ : ∃ G, G = Nm.wn (-m) := ⟨_, rfl⟩
    obtain ⟨L, hL⟩ : ∃ L, L = Nm.wl (-m) := ⟨_, rfl⟩
    rw [← hG, ← hL] at CN ⊢
    clear hG hL e CP
    go_enter Tryz.func164, Tryz.ntmps164
    go_wp2_with fail
    refine (CN.out _).mono ?_
    rintro e w1 ⟨a', c', rfl, ho, hb⟩
    obtain ⟨r0, r1, f0, f1⟩ := (R2.new2 w (.cells #[.bool true, .int .i64 m, .int .i64 E] 113) (.bool false) (.slice none 0 0) 29).below hb
    have ho : Own w1 (w.heap.size + 1 + 1) a' c' L := by simpa using ho
    go_wp2
    refine bodyPost_ret (v := .agg #[.bool G, .slice a' L.length c']) (by simp [results, Tryz.results164, go_sem, r0, r1]) rfl ⟨a', c', rfl, ?_, (by repeat (first | exact bz0 _ _ | refine bz1 ?_ | refine bz2 ?_ _ | refine bz3 ?_ _ | refine bz4 ?_ hb | refine bz5 ?_ _ | refine bz6 ?_ _ | refine bz7 ?_ hb))⟩
    exact Own.base ((ho.setBelow (by simp) _).setBelow (by simp) _) (by omega)
  | false =>
    have e : (if false = true then -m else m) = m := rfl
    rw [e]
    obtain ⟨G, hG⟩ : ∃ G, G = Nm.wn m := ⟨_, rfl⟩
    obtain ⟨L, hL⟩ : ∃ L, L = Nm.wl m := ⟨_, rfl⟩
    rw [← hG, ← hL] at CP ⊢
    clear hG hL e CN
    go_enter Tryz.func164, Tryz.ntmps164
    go_wp2_with fail
    refine (CP.out _).mono ?_
    rintro e w1 ⟨a', c', rfl, ho, hb⟩
    obtain ⟨r0, r1, f0, f1⟩ := (R2.new2 w (.cells #[.bool false, .int .i64 m, .int .i64 E] 113) (.bool false) (.slice none 0 0) 29).below hb
    have ho : Own w1 (w.heap.size + 1 + 1) a' c' L := by simpa using ho
    go_wp2
    refine bodyPost_ret (v := .agg #[.bool G, .slice a' L.length c']) (by simp [results, Tryz.results164, go_sem, r0, r1]) rfl ⟨a', c', rfl, ?_, (by repeat (first | exact bz0 _ _ | refine bz1 ?_ | refine bz2 ?_ _ | refine bz3 ?_ _ | refine bz4 ?_ hb | refine bz5 ?_ _ | refine bz6 ?_ _ | refine bz7 ?_ hb))⟩
    exact Own.base ((ho.setBelow (by simp) _).setBelow (by simp) _) (by omega)
end Go.Proofs.YtnliofakkkjpoaaGreatDoor
