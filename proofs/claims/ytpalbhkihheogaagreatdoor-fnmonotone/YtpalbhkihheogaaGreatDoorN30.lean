/-
  What is needed of Mini, TCd, ITs, DrawB, IB.
-/
import Derived.Lib.SmallJoins
import Derived.Test.YtpalbhkihheogaaGreatDoorN22
import Derived.Test.YtpalbhkihheogaaGreatDoorN25
import Derived.Test.YtpalbhkihheogaaGreatDoorN27
set_option maxHeartbeats 16000000
set_option maxRecDepth 1000000
namespace Go.Proofs.YtpalbhkihheogaaGreatDoor
set_option linter.unusedVariables false
set_option linter.unusedSimpArgs false
open Go.RowKit Go.Deep
theorem Ls {α : Type} : (∀ (xs : List α) (i : Nat) (v : α), xs.toArray.setIfInBounds i v = (xs.set i v).toArray) ∧ (∀ (a b : α) (xs : List α), (a :: xs).set 0 b = b :: xs) ∧ (∀ (a b : α) (i : Nat) (xs : List α), (a :: xs).set (i + 1) b = a :: xs.set i b) ∧ (∀ (xs : List α) (i : Nat) (h : i < xs.toArray.size), xs.toArray[i]'h = xs[i]'(by simpa using h)) ∧ (∀ (a : α) (xs : List α) (h : 0 < (a :: xs).length), (a :: xs)[0]'h = a) ∧ (∀ (a : α) (xs : List α) (i : Nat) (h : i + 1 < (a :: xs).length), (a :: xs)[i + 1]'h = xs[i]'(Nat.lt_of_succ_lt_succ h)) :=
  ⟨fun _ _ _ => by simp, fun _ _ _ => rfl, fun _ _ _ _ => rfl, fun _ _ _ => rfl, fun _ _ _ => rfl, fun _ _ _ _ => rfl⟩
theorem tk {P : Program} {ops : Array Oper} {Q : Exit → Act → World → Prop} {md : Region.Mode} {S : World → Prop} (i : Nat) {oi : Oper} (v : Value) {fuel : Nat} {listed : Array Bool} {a : Act} {w : World} (h1 : ops[i]? = some oi) (h4 : YieldsIf P ops S oi v a) (h6 : wpAnyH P md ops Q S fuel (listed.setIfInBounds i true) (a.put oi.dst v) w) (h2 : (Region.noSelect ops && Region.free md ops listed i && (Region.ready md ops listed).contains i) = true := by kernel_rfl) (h3 : ∀ (c : List PanicEntry) (a : Act) (w : World), Q (Exit.panic c) (a.put oi.dst v) w → Q (Exit.panic c) a w := by exact fun _ _ _ h => h) (h5 : S w := by assumption) : wpAnyH P md ops Q S (fuel + 1) listed a w := by
  simp only [Bool.and_eq_true] at h2
  exact wpAnyH_take h1 h2.1.1 h2.1.2 h2.2 h3 h4 h5 h6
theorem rdy {P : Program} {ops : Array Oper} {Q : Exit → Act → World → Prop} {md : Region.Mode} {S : World → Prop} (i : Nat) {o : Oper} {fuel : Nat} {listed : Array Bool} {a : Act} {w : World} (h2 : ops[i]? = some o) (h3 : ∀ (K' : Act → World → Prop), Shut (∀ (a : Act) (w : World), S w → (S w → wpAnyH P md ops Q S fuel (listed.setIfInBounds i true) a w) → K' a w) → if Region.wanted o (yielded ops a.tmps) = true then Oper.wp P o a w K' Q else K' (a.put o.dst undef) w) (h1 : Region.ready md ops listed = [i] := by kernel_rfl) : wpAnyH P md ops Q S (fuel + 1) listed a w :=
  wpAnyH_ready h1 (by simp) (AllReadyH.cons h2 h3 AllReadyH.nil)
namespace TCn
theorem four_cell {x y : Int} (w : World) {w' : World} {rb : Nat} {t : TypeId} (hg : (w.alloc (.cells #[.int .i64 x, .int .i64 y, .int .i64 (-9223372036854775808), .int .i64 9223372036854775807] t)).grownBy w' (some rb)) (hne : rb < w.heap.size) (k : Nat) (hk : k < 4) :
    ∃ d : Int, w'.cell? ⟨w.heap.size, k, none⟩ = some (.int .i64 d) := by
  have e := hg.block w.heap.size (by simp) (by simp; omega)
  have h : ∀ j, w'.cell? ⟨w.heap.size, j, none⟩ = (#[.int .i64 x, .int .i64 y, .int .i64 (-9223372036854775808), .int .i64 9223372036854775807] : Array Value)[j]? := fun j => by
    rw [World.cell?_of_block (a := ⟨w.heap.size, j, none⟩) e]
    exact World.cell?_alloc_new w _ _ j
  rw [h k]
  rcases (show k = 0 ∨ k = 1 ∨ k = 2 ∨ k = 3 by omega) with rfl | rfl | rfl | rfl
  · exact ⟨x, rfl⟩
  · exact ⟨y, rfl⟩
  · exact ⟨_, rfl⟩
  · exact ⟨_, rfl⟩
end TCn
/-- The table of formats, and that of 64. -/
structure Ts (w : World) : Prop where
  f : Tab w
  t64 : Tb w 2 Lib.deBruijn64tab
theorem Ts.below {w w' : World} (h : Ts w) (hb : Below w.heap.size w w') : Ts w' := ⟨h.f.below hb, h.t64.below (by decide) hb⟩
theorem Ts.al {w : World} (h : Ts w) (o : Obj) : Ts (w.alloc o) := h.below ((Below.refl _ _).alloc (Nat.le_refl _) _)
theorem Ts.dr {w : World} (h : Ts w) : Ts w.drew := ⟨⟨h.f.c0, h.f.c1, h.f.c2, h.f.c3, h.f.c4, h.f.c5, h.f.c6, h.f.c7, h.f.c8⟩, h.t64⟩
theorem six_cell {x y : Int} (w : World) {w' : World} {rb : Nat} (hg : (w.alloc (.cells #[.int .u32 0, .int .u32 1, .int .u32 4294967295, .int .u32 x, .int .u32 y, .int .u32 2147483648] 64)).grownBy w' (some rb)) (hne : w.heap.size ≠ rb) (hx : 0 ≤ x ∧ x < 4294967296) (hy : 0 ≤ y ∧ y < 4294967296) (k : Nat) (hk : k < 6) :
    ∃ d : Int, w'.cell? ⟨w.heap.size, k, none⟩ = some (.int .u32 d) ∧ 0 ≤ d ∧ d < 4294967296 := by
  have e := hg.block w.heap.size (by simp) (by simpa using hne)
  have h : ∀ j, w'.cell? ⟨w.heap.size, j, none⟩ = (#[.int .u32 0, .int .u32 1, .int .u32 4294967295, .int .u32 x, .int .u32 y, .int .u32 2147483648] : Array Value)[j]? := fun j => by
    rw [World.cell?_of_block (a := ⟨w.heap.size, j, none⟩) e]
    exact World.cell?_alloc_new w _ _ j
  rw [h k]
  rcases (show k = 0 ∨ k = 1 ∨ k = 2 ∨ k = 3 ∨ k = 4 ∨ k = 5 by omega) with rfl | rfl | rfl | rfl | rfl | rfl
  · exact ⟨0, rfl, by omega, by omega⟩
  · exact ⟨1, rfl, by omega, by omega⟩
  · exact ⟨4294967295, rfl, by omega, by omega⟩
  · exact ⟨x, rfl, hx.1, hx.2⟩
  · exact ⟨y, rfl, hy.1, hy.2⟩
  · exact ⟨2147483648, rfl, by omega, by omega⟩
/-- Own rows above a reader stay. -/
theorem Own.rd {w w' : World} {B rb : Nat} {a : Option Addr} {cap : Nat} {zs : List Int} (h : Own w B a cap zs) (hg : w.grownBy w' (some rb)) (hlt : rb < B) : Own w' B a cap zs :=
  h.kept hg (fun g hg' hr => by
    have e : rb = g := Option.some.inj hr
    rcases h.block with ⟨e', _⟩ | ⟨g', e', h1, _⟩
    · rw [e'] at hg'; cases hg'
    · rw [e'] at hg'; cases hg'; omega)
theorem R2.rd {w w' : World} {b rb : Nat} {v0 v1 : Value} (h : R2 w b v0 v1) (hg : w.grownBy w' (some rb)) (hne : b ≠ rb) : R2 w' b v0 v1 := h.grown hg hne
theorem Box.rd {w w' : World} {b rb : Nat} {v0 v1 : Value} (h : Box w b v0 v1) (hg : w.grownBy w' (some rb)) (hne : b ≠ rb) : Box w' b v0 v1 := h.grown hg (fun g e => by cases e; exact hne)
theorem grown_two {w W w' : World} {rb g : Nat} (h : w.grownBy W (some rb)) (hg : W.grownBy w' (some g)) (hge : w.heap.size ≤ g) : w.grownBy w' (some rb) :=
  ⟨hg.os.trans h.os, hg.tape.trans h.tape, hg.output.trans h.output, Nat.le_trans h.size hg.size, fun i hi hne => (hg.block i (Nat.lt_of_lt_of_le hi h.size) (by intro e; have : i = g := Option.some.inj e; omega)).trans (h.block i hi hne)⟩
theorem wide_any (rb : Nat) (ca : Option Addr) (cc : Nat) (cs : List Int) (w : World) (hr : RD w rb ca cc cs) :
    Calls Tryz.prog 53 #[.pointer (some ⟨rb, 0, none⟩)] w fun e w' => ∃ x : Int, ∃ a c, e = .returned (.agg #[.bool (Nm.wn x), .slice a (Nm.wl x).length c]) ∧ (Nm.wl x).length ≤ 200 ∧ Own w' w.heap.size a c (Nm.wl x) ∧ RD w' rb ca cc cs ∧ w.grownBy w' (some rb) := by
  obtain ⟨i0, hi, hz0, hz1, hz2⟩ := info_parts info32
  have HI := hid (And.intro hi (And.intro hz0 (And.intro hz1 hz2)))
  clear hi hz0 hz1 hz2
  have hrw := hr.lt
  have hr0 := hr.alloc (.cells #[.bool false, .slice none 0 0] 29)
  have Rz := R2.new w (.bool false) (.slice none 0 0) 29
  have hsV : (w.alloc (.cells #[.bool false, .slice none 0 0] 29)).heap.size = w.heap.size + 1 := by simp
  have hbV : Below w.heap.size w (w.alloc (.cells #[.bool false, .slice none 0 0] 29)) := (by repeat (first | exact bz0 _ _ | refine bz1 ?_ | refine bz2 ?_ _ | refine bz3 ?_ _ | refine bz5 ?_ _ | refine bz6 ?_ _))
  go_enter Tryz.func53, Tryz.ntmps53
  go_wp2_with fail
  generalize w.alloc (.cells #[.bool false, .slice none 0 0] 29) = V at hr0 Rz hsV hbV ⊢
  have HSV := hid hsV
  clear hsV
  refine (below_any rb ca cc cs 5 _ hr0 (by decide) (by decide)).mono ?_
  rintro e w1 ⟨n, rfl, n0, n1, hr1, hg1⟩
  go_wp2_with fail
  refine (once_any rb ca cc cs 12 _ hr1 (by decide) (by decide)).mono ?_
  rintro e w2 ⟨bb, rfl, hr2, hg2⟩
  have hgv2 := grown_trans hg1 hg2
  cases bb
  case' false =>
    have hn : n ≤ 200 := by omega
    go_wp2_with fail
  case' true =>
    go_wp2_with fail
    refine (below_any rb ca cc cs 201 _ hr2 (by decide) (by decide)).mono ?_
    rintro e w2 ⟨n, rfl, n0, n1, hr2, hgx⟩
    have hgv2 := grown_trans hgv2 hgx
    have hn : n ≤ 200 := by omega
    go_wp2_with fail
  all_goals
    have l2 : w.heap.size + 1 ≤ w2.heap.size := by have := hgv2.size; have := HSV.out; omega
    go_loopw [4, 5] (fun sl iv wr => ∃ i : Nat, ∃ os : List Int, ∃ g cp : Nat, (i : Int) ≤ n ∧ iv = .int .i64 i ∧ sl = .slice (some ⟨g, 0, none⟩) os.length cp ∧ os.length = i ∧ Nm.Dg os ∧ Own wr (w.heap.size + 1) (some ⟨g, 0, none⟩) cp os ∧ RD wr rb ca cc cs ∧ V.grownBy wr (some rb)) (fun _ iv _ => n.toNat - (intOf iv).toNat)
    case atStart => exact ⟨0, [], w2.heap.size, 0, by omega, rfl, rfl, rfl, Nm.Dg.nil, own_buf.base l2, hr2.alloc _, grown_alloc hgv2 _⟩
    case round =>
      obtain ⟨i, os, g, cp, hi, rfl, rfl, hol, hdo, hown, hrr, hgw⟩ := hrel
      have hl3 : w.heap.size + 1 ≤ wr.heap.size := by have := hgw.size; have := HSV.out; omega
      have HOL := hid hol
      have hol1 : os.length ≤ 200 := by omega
      have HDO := hid hdo
      clear hol hdo
      by_cases hlt : (i : Int) < n
      · go_wp2_with fail
        refine (word_any rb ca cc cs _ hrr).mono ?_
        rintro e w3 ⟨u, rfl, u0, u1, hr3, hg3⟩
        go_wp2_with fail
        refine (word_any rb ca cc cs _ hr3).mono ?_
        rintro e w4 ⟨t, rfl, t0, t1, hr4, hg4⟩
        have l4 : wr.heap.size ≤ w4.heap.size := by have := hg3.size; have := hg4.size; omega
        go_wp2_with fail
        refine (below_any rb ca cc cs 6 _ (hr4.alloc _) (by decide) (by decide)).mono ?_
        rintro e w5 ⟨kz, rfl, k0, k1, hr5, hg5⟩
        obtain ⟨k, rfl⟩ := Int.eq_ofNat_of_zero_le k0
        obtain ⟨d, hd, d0, d1⟩ := six_cell w4 hg5 (by omega) (by omega) (by omega) k (by omega)
        have hown5 := ((hown.rd (grown_trans hg3 hg4) (by omega)).alloc _).rd hg5 (by omega)
        have hgw5 := grown_trans (grown_alloc (grown_trans (grown_trans hgw hg3) hg4) _) hg5
        have l5 : w4.heap.size < w5.heap.size := by have := hg5.size; simp at this; omega
        go_wp2_with (at_builtin; refine wpList_append_lies _ rfl _ _ 27 rfl (w.heap.size + 1) 64 i0 (.int .u32 0) 1 4 Tryz.underlying27 HI.out.1 HI.out.2.1 HI.out.2.2.1 HI.out.2.2.2 rfl (by decide) (.slice (some ⟨g, 0, none⟩) os.length cp) os.length (os.map (Value.int .u32)) rfl (by exact hown5.alloc _) ⟨w5.heap.size, 0, none⟩ 1 1 [.int .u32 d] rfl rfl (by exact news_one w5 _) (one_one _) (by decide) (by unfold maxLen; omega) (by omega) (by simp; omega) (w5.heap.size + 1) (by simp) ?_; intro g1 cp1 w6 hown6 hgrow hat hlt6)
        have ho6 := own_more hown6
        have hg0 := (own_ge hown5).1
        have hgrow' : (w5.alloc (.cells #[.int .u32 d] 64)).grownBy w6 (some g) := hgrow
        have hgw6 := grown_two (grown_alloc hgw5 _) hgrow' (by have := HSV.out; omega)
        have hr6 := (hr5.alloc (.cells #[.int .u32 d] 64)).grown hgrow' (by omega)
        clear hown6 hat hgrow
        go_roundw
        case rel => exact ⟨i + 1, os ++ [d], g1, cp1, by omega, by go_num, by simp, by simp; exact HOL.out, HDO.out.append (Nm.Dg.cons ⟨d0, d1⟩ Nm.Dg.nil), ho6, hr6, hgw6⟩
        case measure => simp [intOf]; omega
      · go_wp2_with fail
        refine (once_any rb ca cc cs 2 _ hrr (by decide) (by decide)).mono ?_
        rintro e w3 ⟨sg, rfl, hr3, hg3⟩
        have hown3 := hown.rd hg3 (by omega)
        go_wp2_with fail
        refine (made_v sg (some ⟨g, 0, none⟩) cp os _ hown3.sl HDO.out (by omega) _ rfl).mono ?_
        rintro e w4 ⟨a4, c4, rfl, ho4, hb4⟩
        have hgw3 := grown_trans hgw hg3
        obtain ⟨z0, z1, zf0, zf1⟩ := (Rz.rd hgw3 (by omega)).below hb4
        have hlen : (Nm.wl (Nm.wv sg os)).length ≤ 200 := by
          rw [Nm.wl_wv sg HDO.out]; have := Nm.trim_length os; omega
        have HLEN := hid hlen
        have l3 : w.heap.size + 1 ≤ w3.heap.size := by have := hg3.size; omega
        have hr4 := hr3.below hb4
        have hgw4 := grown_trans hgw3 (grown_below hb4 _)
        clear hlen
        go_wp2
        have hset : ∀ (p q : Value), w4.grownBy ((w4.setCell ⟨w.heap.size, 0, none⟩ p).setCell ⟨w.heap.size, 1, none⟩ q) (some w.heap.size) := fun p q =>
          ⟨by simp [World.setCell], by simp [World.setCell], by simp [World.setCell], by simp [World.setCell], fun k hk hne => by
            have hne' : k ≠ w.heap.size := by intro e; exact hne (by rw [e])
            rw [Below.heap_setCell _ ⟨w.heap.size, 1, none⟩ q k hne', Below.heap_setCell _ ⟨w.heap.size, 0, none⟩ p k hne']⟩
        have hgV : w.grownBy w4 (some rb) := grown_trans (grown_below hbV _) hgw4
        refine bodyPost_ret (v := .agg #[.bool (Nm.wn (Nm.wv sg os)), .slice a4 (Nm.wl (Nm.wv sg os)).length c4]) (by simp [results, Tryz.results53, go_sem, z0, z1]) rfl ⟨Nm.wv sg os, a4, c4, rfl, HLEN.out, ?_, ?_, ?_⟩
        · exact Own.base ((ho4.setBelow (by simp; omega) _).setBelow (by simp; omega) _) (by omega)
        · exact hr4.grown (hset _ _) hrw
        · exact grown_two hgV (hset _ _) (Nat.le_refl _)
theorem bitAt_n (ng : Bool) (a : Nat) (i : Int) (p : Option Addr) (c : Nat) (w : World) (hs : Sl .u32 w (.slice p (Nm.lim a).length c) (Nm.lim a)) (hl : bitLen a ≤ 20000) (h0 : 0 ≤ i) (h1 : i ≤ 100000) :
    Calls Tryz.prog 96 #[.agg #[.bool ng, .slice p (Nm.lim a).length c], .int .i64 i] w fun e w' => e = .returned (.bool (decide (a / 2 ^ i.toNat % 2 = 1))) ∧ Below w.heap.size w w' := by
  have hlen := lim_len (x := a) (k := 20000) (by omega)
  obtain ⟨wh, r, hq, hm, hw, hr⟩ := parts32 i h0 (by omega)
  have hd := (Nm.lim_dg a).getD wh
  obtain ⟨x, hx⟩ : ∃ x, x = (Nm.lim a).getD wh 0 := ⟨_, rfl⟩
  rw [← hx] at hd
  have hla := fun w' h => limbAt_any p c (Nm.lim a) wh w' h (by omega) (by omega)
  rw [← hx] at hla
  have HLA := hid hla
  clear hla
  have hbl := bit_limb a wh r hr
  rw [← hx, show 32 * wh + r = i.toNat by omega] at hbl
  have HR : Hid (decide (a / 2 ^ i.toNat % 2 = 1) = (x / (2 : Int) ^ r % 2 == 1)) := hid (by
    have e : ((2 ^ r : Nat) : Int) = (2 : Int) ^ r := by simp
    rw [e] at hbl
    rw [hbl, Bool.eq_iff_iff, decide_eq_true_eq, beq_iff_eq]; omega)
  have hxr : 0 ≤ x / (2 : Int) ^ r ∧ x / (2 : Int) ^ r < 4294967296 := by
    have hp : (0 : Int) < (2 : Int) ^ r := Int.pow_pos (by decide)
    exact ⟨Int.ediv_nonneg hd.1 (by omega), Int.lt_of_le_of_lt (Int.ediv_le_self _ hd.1) hd.2⟩
  have hand : bits .and .u32 (x / (2 : Int) ^ r) 1 = x / (2 : Int) ^ r % 2 := by
    obtain ⟨n, hn⟩ : ∃ n : Nat, x / (2 : Int) ^ r = n := ⟨(x / (2 : Int) ^ r).toNat, by omega⟩
    rw [hn] at hxr ⊢
    have h := u32_and_nat n 1 (by omega) (by decide)
    rw [show ((1 : Nat) : Int) = 1 from rfl] at h
    rw [h, Nat.and_one_is_mod]; simp
  clear hbl hx hxr
  go_enter Tryz.func96, Tryz.ntmps96
  go_wp2_with fail
  refine (HLA.out _ (hs.alloc _)).mono ?_
  rintro e w1 ⟨rfl, rfl⟩
  go_wp2
  go_ret
  exact ⟨ret_bool HR.out.symm, (by repeat (first | exact bz0 _ _ | refine bz1 ?_ | refine bz2 ?_ _ | refine bz3 ?_ _ | refine bz5 ?_ _ | refine bz6 ?_ _))⟩
end Go.Proofs.YtpalbhkihheogaaGreatDoor
