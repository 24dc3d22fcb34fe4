/-
  Several texts in one: ShiftB, WideQ.
-/
import Derived.Test.YtbalefbcpnoieaaDoorG05
import Derived.Deep.RegionHeld3
import Derived.Deep.AppendLies
/-
  Limbs shifted down, by the program.
-/
namespace Go.Proofs.YtbalefbcpnoieaaDoor
set_option linter.unusedVariables false
set_option linter.unusedSimpArgs false
open Go.RowKit Go.Deep
theorem join_down (x y : Int) (hx : 0 ≤ x) (hx1 : x < 4294967296) (hy : 0 ≤ y) (hy1 : y < 4294967296) : bits .or .u64 (y * 4294967296) x = y * 4294967296 + x ∧ bits .or .u64 x (y * 4294967296) = y * 4294967296 + x := by
  obtain ⟨n, rfl⟩ := Int.eq_ofNat_of_zero_le hx
  obtain ⟨m, rfl⟩ := Int.eq_ofNat_of_zero_le hy
  have e : ((m * 2 ^ 32 : Nat) : Int) = (m : Int) * 4294967296 := by simp
  have h1 := u64_or_nat (m * 2 ^ 32) n (by omega) (by omega)
  have h2 := u64_or_nat n (m * 2 ^ 32) (by omega) (by omega)
  have hn : n < 2 ^ 32 := by omega
  have j := nat_join 32 (m * 2 ^ 32) n (Nat.mul_mod_left m (2 ^ 32)) hn
  rw [j, e] at h1
  rw [Nat.or_comm, j, e] at h2
  have e2 : ((m * 2 ^ 32 + n : Nat) : Int) = (m : Int) * 4294967296 + n := by rw [Int.natCast_add, e]
  rw [e2] at h1 h2
  exact ⟨h1, h2⟩
theorem mkN (N : Nat) (h : N ≤ 400000) : ∀ w : World, (Instr.makeSlice 28 (.int .i64 (N : Int)) (.int .i64 (N : Int))).run Tryd.prog w = .ok (.slice (some ⟨w.heap.size, 0, none⟩) N N) (w.alloc (.cells (madeCells #[.int .u32 0] N) 58)) :=
  run_make_row' (P := Tryd.prog) 28 58 (.int .u32 0) 4 Tryd.underlying28 info32 rfl .i64 .i64 N (by omega) (by omega)
theorem getD_ext {a b : List Int} (h : a.length = b.length) (hk : ∀ i, i < a.length → a.getD i 0 = b.getD i 0) : a = b := by
  apply List.ext_getElem h
  intro i h1 h2
  have := hk i h1
  simpa [List.getD_eq_getElem?_getD, h1, h2] using this
/-- What limbs shifted down are worth. -/
theorem sd_drop_val {xs : List Int} (dx : Nm.Dg xs) (wh r : Nat) (hr : r < 32) : Nm.val (Nm.sd ((2 : Int) ^ r) (xs.drop wh)) = Nm.val xs / Nm.pw wh / (2 : Int) ^ r := by
  obtain ⟨q, hq, e, hp⟩ := pq r hr
  rw [Nm.sd_val hp hq e (dx.drop wh), Nm.val_drop dx]
set_option maxRecDepth 10000 in
set_option maxHeartbeats 1600000 in
theorem down_any (a : Option Addr) (cap : Nat) (xs : List Int) (n : Int) (wh r : Nat) (w : World) (hx : Sl .u32 w (.slice a xs.length cap) xs) (dx : Nm.Dg xs) (hl : xs.length ≤ 400000) (hw : wh ≤ 400000) (hr : r < 32) (h0 : 0 ≤ n) (h1 : n ≤ 1000000) (hq : n / 32 = (wh : Int)) (hm : n % 32 = (r : Int)) :
    Calls Tryd.prog 79 #[.slice a xs.length cap, .int .i64 n] w fun e w' => ∃ a1 c1 os, e = .returned (.slice a1 os.length c1) ∧ Own w' w.heap.size a1 c1 os ∧ Nm.Dg os ∧ Nm.val os = Nm.val xs / Nm.pw wh / (2 : Int) ^ r ∧ os.length ≤ 1048576 ∧ Below w.heap.size w w' := by
  have HV := hid (sd_drop_val dx wh r hr)
  by_cases hc : xs.length ≤ wh
  · have HZ : Hid (Nm.val ([] : List Int) = Nm.val xs / Nm.pw wh / (2 : Int) ^ r) := hid (by
      rw [← HV.out, List.drop_eq_nil_of_le hc]; rfl)
    go_enter Tryd.func79, Tryd.ntmps79
    go_wp2
    go_ret
    exact ⟨none, 0, [], rfl, Own.nil _ _, Nm.Dg.nil, HZ.out, by simp, Below.refl _ _⟩
  · obtain ⟨N, hN⟩ : ∃ N, xs.length = wh + N := ⟨xs.length - wh, by omega⟩
    have HN := hid hN
    have e1 : (xs.length : Int) - (wh : Int) = (N : Int) := by omega
    have hN1 : xs.length ≤ wh + N := by omega
    have hN2 : wh + N ≤ xs.length := by omega
    have hmk := mkN N (by omega)
    obtain ⟨L, hL⟩ : ∃ L, L = Nm.sd ((2 : Int) ^ r) (xs.drop wh) := ⟨_, rfl⟩
    have hLl : L.length = N := by rw [hL, Nm.sd_length, List.length_drop]; omega
    have hLg : ∀ i, i < N → L.getD i 0 = (xs.getD (wh + i + 1) 0 * 4294967296 + xs.getD (wh + i) 0) / (2 : Int) ^ r % 4294967296 := fun i hi => by
      rw [hL, Nm.sd_getD _ _ _ (by rw [List.length_drop]; omega), Nm.getD_drop, Nm.getD_drop]
      rfl
    have hLd : Nm.Dg L := by rw [hL]; exact Nm.sd_dg _ _
    rw [← hL] at HV
    have HL := hid (And.intro hLl (And.intro hLg hLd))
    clear hLl hLg hLd hL hN
    obtain ⟨-, hx1, hx2, hx3⟩ := hx.cells
    have HX3 := hid hx3
    clear hx3
    go_enter Tryd.func79, Tryd.ntmps79
    go_wp2_with fail
    clear hmk
    simp only [hq, hm]
    go_loopw [25] (fun iv wr => ∃ i : Nat, ∃ os : List Int, i ≤ N ∧ iv = .int .i64 i ∧ os.length = N ∧ Rw wr w.heap.size os ∧ (∀ k, k < i → os.getD k 0 = L.getD k 0) ∧ Below w.heap.size w wr) (fun iv _ => N - (intOf iv).toNat)
    case atStart => exact ⟨0, List.replicate N 0, Nat.zero_le _, rfl, by simp, Rw.made w N, fun k hk => absurd hk (Nat.not_lt_zero _), (by repeat (first | exact Below.refl _ _ | refine Below.drew ?_ | refine bel_dn ?_ _ | refine bel_al ?_ _ | refine Below.setCell ?_ (by first | omega | (simp; done) | (simp; omega)) _ | refine Below.alloc ?_ (by first | omega | (simp; done) | (simp; omega)) _))⟩
    case round =>
      obtain ⟨i, os, hi, rfl, hol, hrw, hpre, hb⟩ := hrel
      have H0 := hid (And.intro hol hpre)
      have hol1 : N ≤ os.length := by omega
      clear hol hpre
      by_cases hlt : i < N
      · obtain ⟨b, off, rfl, hcx⟩ := HX3.out (by omega)
        have hca0 := hcx (wh + i) (by omega)
        have hbl := World.block_lt_of_cell? w _ hca0
        have hca : wr.cell? ⟨b, off + (wh + i), none⟩ = some (.int .u32 (xs.getD (wh + i) 0)) := (hb.cell (p := ⟨b, off + (wh + i), none⟩) hbl).trans hca0
        have sx := hx.below hb
        have c2 := fun w' (h : Sl .u32 w' (.slice (some ⟨b, off, none⟩) xs.length cap) xs) => limbAt_any (some ⟨b, off, none⟩) cap xs (wh + i + 1) w' h (by omega) (by omega)
        have hd := HL.out.2.1 i hlt
        obtain ⟨ex0, ex1⟩ := dx.getD (wh + i)
        obtain ⟨ey0, ey1⟩ := dx.getD (wh + i + 1)
        obtain ⟨x, hxk⟩ : ∃ x, x = xs.getD (wh + i) 0 := ⟨_, rfl⟩
        obtain ⟨y, hyk⟩ : ∃ y, y = xs.getD (wh + i + 1) 0 := ⟨_, rfl⟩
        rw [← hxk] at hca ex0 ex1
        simp only [← hyk] at c2
        rw [← hyk] at ey0 ey1
        rw [← hxk, ← hyk] at hd
        have ecast : ((wh + i + 1 : Nat) : Int) = (wh : Int) + (i : Int) + 1 := by omega
        rw [ecast] at c2
        have hcell := hrw.cell (k := i) (by omega)
        have hfr := hrw.frozen i
        have HD := hid hd
        have C2 := hid c2
        obtain ⟨j1, j2⟩ := join_down x y ex0 ex1 ey0 ey1
        clear c2 hd hxk hyk hca0 hcx ecast j2
        have k0 : (0 : Int) ≤ (wh : Int) + (i : Int) := by omega
        have k1 : (wh : Int) + (i : Int) < (xs.length : Int) := by omega
        have k1b : ¬ ((wh : Int) + (i : Int) < 0) := by omega
        have k1c : ¬ ((xs.length : Int) ≤ (wh : Int) + (i : Int)) := by omega
        have k1d : ((wh : Int) + (i : Int)).toNat = wh + i := by omega
        have k1e : wh + i < xs.length := by omega
        have k4 : IntKind.i64.wrap ((wh : Int) + (i : Int)) = (wh : Int) + (i : Int) := by rw [IntKind.wrap_i64]; omega
        have k5 : IntKind.i64.wrap ((wh : Int) + (i : Int) + 1) = (wh : Int) + (i : Int) + 1 := by rw [IntKind.wrap_i64]; omega
        have k6 : IntKind.u64.wrap (y * 4294967296) = y * 4294967296 := by rw [IntKind.wrap_u64]; omega
        have k7 : IntKind.u64.wrap y = y := wrapu y ey0 (by omega)
        have k8 : IntKind.u64.wrap x = x := wrapu x ex0 (by omega)
        go_wp2_with fail
        go_region_held3 (fun w' => w'.cell? ⟨b, off + (wh + i), none⟩ = some (.int .u32 x)) (first | assumption | go_keep)
          (first | (go_at_call 39; refine (C2.out _ (by exact Sl.drew sx)).mono ?_; rintro e w' ⟨rfl, rfl⟩))
        go_wp2_with fail
        go_roundw
        case rel => exact ⟨i + 1, os.set i ((y * 4294967296 + x) / (2 : Int) ^ r % 4294967296), by omega, by go_num, by rw [List.length_set]; exact H0.out.1, hrw.set (by omega) _, fun k hk => by
          rw [Nm.getD_set _ _ _ _ (by omega)]
          by_cases e : k = i
          · rw [if_pos e, e, HD.out]
          · rw [if_neg e]; exact H0.out.2 k (by omega), (hb.drew).setCell (Nat.le_refl _) _⟩
        case measure => simp [intOf]; omega
      · obtain rfl : i = N := by omega
        have hlen := H0.out.1
        have hos : os = L := getD_ext (by rw [hlen, HL.out.1]) (fun k hk => H0.out.2 k (by omega))
        have hown := hrw.own (base := w.heap.size) (Nat.le_refl _) (by unfold maxLen; omega)
        have HF := hid (And.intro hown (And.intro hos hlen))
        clear hown hos hlen
        go_wp2
        go_ret
        exact ⟨some ⟨w.heap.size, 0, none⟩, os.length, os, by rw [HF.out.2.2]; rfl, HF.out.1, by rw [HF.out.2.1]; exact HL.out.2.2, by rw [HF.out.2.1]; exact HV.out, by have := HF.out.2.2; omega, hb⟩
end Go.Proofs.YtbalefbcpnoieaaDoor
/-
  Sums and differences of limbs, by the specification.
-/
namespace Go.Proofs.YtbalefbcpnoieaaDoor
set_option linter.unusedVariables false
set_option linter.unusedSimpArgs false
open Go.RowKit Go.Deep
theorem news_one (w : World) (d : Int) : ∀ j u, ([Value.int .u32 d] : List Value)[j]? = some u → (w.alloc (.cells #[.int .u32 d] 58)).cell? ((⟨w.heap.size, 0, none⟩ : Addr).add j) = some u := by
  intro j u hj
  cases j with
  | zero => simp at hj; subst hj; simp [Addr.add]
  | succ j => simp at hj
theorem one_one (d : Int) : ∀ u ∈ ([Value.int .u32 d] : List Value), u.oneCell' = true := by
  intro u hu; simp at hu; subst hu; rfl
/-- One limb more, behind those of the call's own. -/
theorem own_more {w : World} {B g cap : Nat} {os : List Int} {d : Int} (h : w.ownsRow B 58 1 (.slice (some ⟨g, 0, none⟩) (os.length + 1) cap) (os.length + 1) (os.map (Value.int .u32) ++ [.int .u32 d])) : Own w B (some ⟨g, 0, none⟩) cap (os ++ [d]) := by
  unfold Own; simpa using h
theorem own_buf {w : World} : Own (w.alloc (.cells #[] 58)) w.heap.size (some ⟨w.heap.size, 0, none⟩) 0 [] := by
  have := World.ownsRow_made (base := w.heap.size) (e := 58) (size := 1) w #[] 0 (by simp) (by decide) rfl
  simpa [Own] using this
theorem own_ge {w : World} {B g cap : Nat} {os : List Int} (h : Own w B (some ⟨g, 0, none⟩) cap os) : B ≤ g ∧ g < w.heap.size := by
  rcases h.block with ⟨e, _⟩ | ⟨g', e, h1, h2⟩
  · cases e
  · cases e; exact ⟨h1, h2⟩
theorem bel_app {w W w' : World} {g : Nat} {n cap : Nat} (h : Below w.heap.size w W) (hg : W.grownBy w' (Value.slice (some ⟨g, 0, none⟩) n cap).ownBlock) (hge : w.heap.size ≤ g) : Below w.heap.size w w' :=
  h.grown hg h.size (fun k hk => by have h' : g = k := Option.some.inj hk; omega)
set_option maxRecDepth 10000 in
set_option maxHeartbeats 800000 in
theorem plus_any (a a' : Option Addr) (cap cap' : Nat) (xs ys : List Int) (w : World) (hx : Sl .u32 w (.slice a xs.length cap) xs) (hy : Sl .u32 w (.slice a' ys.length cap') ys) (dx : Nm.Dg xs) (dy : Nm.Dg ys) (hl : xs.length ≤ 500000) (hl' : ys.length ≤ 500000) :
    Calls Tryd.prog 82 #[.slice a xs.length cap, .slice a' ys.length cap'] w fun e w' => ∃ a1 c1 os, e = .returned (.slice a1 os.length c1) ∧ Own w' w.heap.size a1 c1 os ∧ Nm.Dg os ∧ Nm.val os = Nm.val xs + Nm.val ys ∧ os.length ≤ 1048576 ∧ Below w.heap.size w w' := by
  obtain ⟨i0, hi, hz0, hz1, hz2⟩ := info_parts info32
  have HI := hid (And.intro hi (And.intro hz0 (And.intro hz1 hz2)))
  clear hi hz0 hz1 hz2
  go_enter Tryd.func82, Tryd.ntmps82
  go_wp2_with fail
  go_loopw [5, 6, 7] (fun sl cy i wr => ∃ os : List Int, ∃ c : Int, ∃ g cp : Nat, os.length ≤ xs.length + ys.length + 1 ∧ i = .int .i64 os.length ∧ cy = .int .u64 c ∧ sl = .slice (some ⟨g, 0, none⟩) os.length cp ∧ 0 ≤ c ∧ c ≤ 1 ∧ (xs.length ≤ os.length → ys.length ≤ os.length → 0 < c → os.length ≤ xs.length + ys.length) ∧ Own wr w.heap.size (some ⟨g, 0, none⟩) cp os ∧ Nm.Dg os ∧ Nm.AddAt xs ys os os.length c ∧ Below w.heap.size w wr) (fun _ _ i _ => xs.length + ys.length + 1 - (intOf i).toNat)
  case atStart => exact ⟨[], 0, w.heap.size, 0, by simp, rfl, rfl, rfl, by omega, by omega, by simp, own_buf, Nm.Dg.nil, Nm.AddAt.zero _ _ _, (by repeat (first | exact Below.refl _ _ | refine Below.drew ?_ | refine bel_dn ?_ _ | refine bel_al ?_ _ | refine Below.setCell ?_ (by first | omega | (simp; done) | (simp; omega)) _ | refine Below.alloc ?_ (by first | omega | (simp; done) | (simp; omega)) _))⟩
  case round =>
    obtain ⟨os, c, g, cp, hk, rfl, rfl, rfl, hc0, hc1, hlast, hown, hdo, hadd, hb⟩ := hrel
    have HADD := hid hadd
    have HDO := hid hdo
    have HLAST := hid hlast
    have hbs : w.heap.size ≤ wr.heap.size := hb.size
    have sx := hx.below hb
    have sy := hy.below hb
    by_cases hgo : os.length < xs.length ∨ os.length < ys.length ∨ 0 < c
    · have hroom : os.length ≤ xs.length + ys.length := by
        rcases hgo with h | h | h
        · omega
        · omega
        · by_cases h1 : xs.length ≤ os.length
          · by_cases h2 : ys.length ≤ os.length
            · exact hlast h1 h2 h
            · omega
          · omega
      have hc1' := limb_any a cap xs os.length wr sx dx (by omega) (by omega)
      have hc2' := limb_any a' cap' ys os.length wr sy dy (by omega) (by omega)
      have hst := fun d c' => Nm.AddAt.stepSnoc (d := d) (c' := c') HADD.out
      have hzx : xs.length ≤ os.length → xs.getD os.length 0 = 0 := fun h => Nm.getD_out h
      have hzy : ys.length ≤ os.length → ys.getD os.length 0 = 0 := fun h => Nm.getD_out h
      obtain ⟨ex0, ex1⟩ := dx.getD os.length
      obtain ⟨ey0, ey1⟩ := dy.getD os.length
      obtain ⟨x, hxk⟩ : ∃ x, x = xs.getD os.length 0 := ⟨_, rfl⟩
      obtain ⟨y, hyk⟩ : ∃ y, y = ys.getD os.length 0 := ⟨_, rfl⟩
      rw [← hxk] at hc1' ex0 ex1 hzx
      rw [← hyk] at hc2' ey0 ey1 hzy
      rw [← hxk, ← hyk] at hst
      have C1 := hid hc1'
      have C2 := hid hc2'
      have HST := hid hst
      have HZ := hid (And.intro hzx hzy)
      clear hc1' hc2' hst hxk hyk hzx hzy hlast hadd hdo
      have hmore : Hid (xs.length ≤ (os ++ [(c + x + y) % 4294967296]).length → ys.length ≤ (os ++ [(c + x + y) % 4294967296]).length → 0 < (c + x + y) / 4294967296 → (os ++ [(c + x + y) % 4294967296]).length ≤ xs.length + ys.length) := hid (by
        intro h1 h2 h3
        simp at h1 h2 ⊢
        by_cases g1 : xs.length ≤ os.length
        · by_cases g2 : ys.length ≤ os.length
          · have := HZ.out.1 g1; have := HZ.out.2 g2; omega
          · omega
        · omega)
      rcases (show (os.length < xs.length ∨ (¬ os.length < xs.length ∧ os.length < ys.length) ∨ (¬ os.length < xs.length ∧ ¬ os.length < ys.length ∧ 0 < c)) by omega) with h | ⟨h, h'⟩ | ⟨h, h', h''⟩
      all_goals
        clear hgo
        go_wp2_with fail
        refine C1.out.mono ?_
        rintro e w1 ⟨rfl, rfl⟩
        go_wp2_with fail
        refine C2.out.mono ?_
        rintro e w1 ⟨rfl, rfl⟩
        go_wp2_with (at_builtin; refine wpList_append_lies _ rfl _ _ 28 rfl w.heap.size 58 i0 (.int .u32 0) 1 4 Tryd.underlying28 HI.out.1 HI.out.2.1 HI.out.2.2.1 HI.out.2.2.2 rfl (by decide) (.slice (some ⟨g, 0, none⟩) os.length cp) os.length (os.map (Value.int .u32)) rfl (hown.alloc _) ⟨w1.heap.size, 0, none⟩ 1 1 [.int .u32 ((c + x + y) % 4294967296)] rfl rfl (news_one w1 _) (one_one _) (by decide) (by unfold maxLen; omega) (by omega) (by simp; omega) (w1.heap.size + 1) (by simp) ?_; intro g1 cp1 w2 hown2 hgrow hat hlt2)
        have ho2 := own_more hown2
        have hg0 := (own_ge hown).1
        have hb2 : Below w.heap.size w w2 := bel_app (bel_al hb _) hgrow hg0
        clear hown2 hat
        go_roundw
        case rel => exact ⟨os ++ [(c + x + y) % 4294967296], (c + x + y) / 4294967296, g1, cp1, by simp; omega, by simp, rfl, by simp, by omega, by omega, hmore.out, ho2, HDO.out.append (Nm.Dg.cons (by omega) Nm.Dg.nil), HST.out _ _ (by omega), hb2⟩
        case measure => simp [intOf]; omega
    · have h : ¬ os.length < xs.length := by omega
      have h' : ¬ os.length < ys.length := by omega
      have h'' : ¬ 0 < c := by omega
      obtain rfl : c = 0 := by omega
      clear hgo hlast hadd hdo
      go_wp2
      go_ret
      refine ⟨some ⟨g, 0, none⟩, cp, os, rfl, hown, HDO.out, ?_, by omega, hb⟩
      have := HADD.out.full (by omega) (by omega) rfl
      simpa using this
set_option maxRecDepth 10000 in
set_option maxHeartbeats 800000 in
theorem less_any (a a' : Option Addr) (cap cap' : Nat) (xs ys : List Int) (w : World) (hx : Sl .u32 w (.slice a xs.length cap) xs) (hy : Sl .u32 w (.slice a' ys.length cap') ys) (dx : Nm.Dg xs) (dy : Nm.Dg ys) (hl : xs.length ≤ 500000) (hl' : ys.length ≤ xs.length) (hge : Nm.val ys ≤ Nm.val xs) :
    Calls Tryd.prog 84 #[.slice a xs.length cap, .slice a' ys.length cap'] w fun e w' => ∃ a1 c1 os, e = .returned (.slice a1 os.length c1) ∧ Own w' w.heap.size a1 c1 os ∧ Nm.Dg os ∧ Nm.val os = Nm.val xs - Nm.val ys ∧ os.length ≤ 1048576 ∧ Below w.heap.size w w' := by
  obtain ⟨i0, hi, hz0, hz1, hz2⟩ := info_parts info32
  have HI := hid (And.intro hi (And.intro hz0 (And.intro hz1 hz2)))
  clear hi hz0 hz1 hz2
  obtain ⟨-, hx1, hx2, hx3⟩ := hx.cells
  have HX3 := hid hx3
  have HGE := hid hge
  clear hx3 hge
  go_enter Tryd.func84, Tryd.ntmps84
  go_wp2_with fail
  go_loopw [5, 6, 7] (fun sl cy i wr => ∃ os : List Int, ∃ c : Int, ∃ g cp : Nat, os.length ≤ xs.length ∧ i = .int .i64 os.length ∧ cy = .int .i64 c ∧ sl = .slice (some ⟨g, 0, none⟩) os.length cp ∧ -1 ≤ c ∧ c ≤ 0 ∧ Own wr w.heap.size (some ⟨g, 0, none⟩) cp os ∧ Nm.Dg os ∧ Nm.SubAt xs ys os os.length (-c) ∧ Below w.heap.size w wr) (fun _ _ i _ => xs.length - (intOf i).toNat)
  case atStart => exact ⟨[], 0, w.heap.size, 0, by simp, rfl, rfl, rfl, by omega, by omega, own_buf, Nm.Dg.nil, Nm.SubAt.zero _ _ _, (by repeat (first | exact Below.refl _ _ | refine Below.drew ?_ | refine bel_dn ?_ _ | refine bel_al ?_ _ | refine Below.setCell ?_ (by first | omega | (simp; done) | (simp; omega)) _ | refine Below.alloc ?_ (by first | omega | (simp; done) | (simp; omega)) _))⟩
  case round =>
    obtain ⟨os, c, g, cp, hk, rfl, rfl, rfl, hc0, hc1, hown, hdo, hadd, hb⟩ := hrel
    have HADD := hid hadd
    have HDO := hid hdo
    have hbs : w.heap.size ≤ wr.heap.size := hb.size
    have sy := hy.below hb
    by_cases hgo : os.length < xs.length
    · obtain ⟨b, off, rfl, hcx⟩ := HX3.out (by omega)
      have hcell := hcx os.length hgo
      have hcell : wr.cell? ⟨b, off + os.length, none⟩ = some (.int .u32 (xs.getD os.length 0)) := (hb.cell (p := ⟨b, off + os.length, none⟩) (World.block_lt_of_cell? w _ hcell)).trans hcell
      have hc2' := fun w' (h : Sl .u32 w' (.slice a' ys.length cap') ys) => limb_any a' cap' ys os.length w' h dy (by omega) (by omega)
      have hst := fun d c' => Nm.SubAt.stepSnoc (d := d) (c' := c') HADD.out
      obtain ⟨ex0, ex1⟩ := dx.getD os.length
      obtain ⟨ey0, ey1⟩ := dy.getD os.length
      obtain ⟨x, hxk⟩ : ∃ x, x = xs.getD os.length 0 := ⟨_, rfl⟩
      obtain ⟨y, hyk⟩ : ∃ y, y = ys.getD os.length 0 := ⟨_, rfl⟩
      rw [← hxk] at hcell ex0 ex1
      simp only [← hyk] at hc2'
      rw [← hyk] at ey0 ey1
      rw [← hxk, ← hyk] at hst
      have C2 := hid hc2'
      have HST := hid hst
      clear hcx hc2' hst hxk hyk hadd hdo
      have k0 : (0 : Int) ≤ (os.length : Int) := by omega
      have k1 : (os.length : Int) < (xs.length : Int) := by omega
      go_wp2_with fail
      go_region_held3 (fun w' => w'.cell? ⟨b, off + os.length, none⟩ = some (.int .u32 x)) (first | assumption | go_keep)
        (first | (go_at_call 75; refine (C2.out _ (by exact Sl.drew sy)).mono ?_; rintro e w' ⟨rfl, rfl⟩))
      go_wp2_with (at_builtin; refine wpList_append_lies _ rfl _ _ 28 rfl w.heap.size 58 i0 (.int .u32 0) 1 4 Tryd.underlying28 HI.out.1 HI.out.2.1 HI.out.2.2.1 HI.out.2.2.2 rfl (by decide) (.slice (some ⟨g, 0, none⟩) os.length cp) os.length (os.map (Value.int .u32)) rfl (by exact hown.drew.alloc _) ⟨wr.heap.size, 0, none⟩ 1 1 [.int .u32 ((c + x - y) % 4294967296)] rfl rfl (by exact news_one wr.drew _) (one_one _) (by decide) (by unfold maxLen; omega) (by omega) (by simp; omega) (wr.heap.size + 1) (by simp) ?_; intro g1 cp1 w2 hown2 hgrow hat hlt2)
      have ho2 := own_more hown2
      have hg0 := (own_ge hown).1
      have hb2 : Below w.heap.size w w2 := bel_app (bel_al (Below.drew hb) _) hgrow hg0
      clear hown2 hat
      go_roundw
      case rel => exact ⟨os ++ [(c + x - y) % 4294967296], (c + x - y) / 4294967296, g1, cp1, by simp; omega, by simp, rfl, by simp, by omega, by omega, ho2, HDO.out.append (Nm.Dg.cons (by omega) Nm.Dg.nil), HST.out _ _ (by omega), hb2⟩
      case measure => simp [intOf]; omega
    · have hlen : os.length = xs.length := by omega
      have HL := hid hlen
      clear hlen hadd hdo
      go_wp2
      go_ret
      exact ⟨some ⟨g, 0, none⟩, cp, os, rfl, hown, HDO.out, HADD.out.full HL.out.symm (by have := HL.out; omega) dx dy HDO.out (by omega) HGE.out, by omega, hb⟩
end Go.Proofs.YtbalefbcpnoieaaDoor
