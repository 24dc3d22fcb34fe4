/-
  What is needed of DrawB, FD, FA, AF, AG, AH, MA.
-/
import Derived.LaidSub
import Derived.MakeChecks
import Derived.Test.YtkfjmcdniohljaaGreatDoorE09
import Derived.Test.YtkfjmcdniohljaaGreatDoorE33
import Derived.Test.YtkfjmcdniohljaaGreatDoorE35
set_option maxHeartbeats 16000000
set_option maxRecDepth 1000000
namespace Go.Proofs.YtkfjmcdniohljaaGreatDoor
set_option linter.unusedVariables false
set_option linter.unusedSimpArgs false
open Go.RowKit Go.Deep
theorem six_cell {x y : Int} (w : World) {w' : World} {rb : Nat} (hg : (w.alloc (.cells #[.int .u32 0, .int .u32 1, .int .u32 4294967295, .int .u32 x, .int .u32 y, .int .u32 2147483648] 128)).grownBy w' (some rb)) (hne : w.heap.size ≠ rb) (hx : 0 ≤ x ∧ x < 4294967296) (hy : 0 ≤ y ∧ y < 4294967296) (k : Nat) (hk : k < 6) :
    ∃ d : Int, w'.cell? ⟨w.heap.size, k, none⟩ = some (.int .u32 d) ∧ 0 ≤ d ∧ d < 4294967296 := by
  have e := hg.block w.heap.size (by simp) (by simpa using hne)
  have h : ∀ j, w'.cell? ⟨w.heap.size, j, none⟩ = (#[.int .u32 0, .int .u32 1, .int .u32 4294967295, .int .u32 x, .int .u32 y, .int .u32 2147483648] : Array Value)[j]? := fun j => by
    rw [World.cell?_of_block (a := ⟨w.heap.size, j, none⟩) e]
    exact World.cell?_alloc_new w _ _ j
  rw [h k]
  rcases (show k = 0 ∨ k = 1 ∨ k = 2 ∨ k = 3 ∨ k = 4 ∨ k = 5 by omega) with rfl | rfl | rfl | rfl | rfl | rfl
  · exact ⟨0, rfl, by omega, by omega⟩
  · exact ⟨1, rfl, by omega, by omega⟩
  · exact ⟨4294967295, rfl, by omega, by omega⟩
  · exact ⟨x, rfl, hx.1, hx.2⟩
  · exact ⟨y, rfl, hy.1, hy.2⟩
  · exact ⟨2147483648, rfl, by omega, by omega⟩
/-- Own rows above a reader stay. -/
theorem Own.rd {w w' : World} {B rb : Nat} {a : Option Addr} {cap : Nat} {zs : List Int} (h : Own w B a cap zs) (hg : w.grownBy w' (some rb)) (hlt : rb < B) : Own w' B a cap zs :=
  h.kept hg (fun g hg' hr => by
    have e : rb = g := Option.some.inj hr
    rcases h.block with ⟨e', _⟩ | ⟨g', e', h1, _⟩
    · rw [e'] at hg'; cases hg'
    · rw [e'] at hg'; cases hg'; omega)
theorem R2.rd {w w' : World} {b rb : Nat} {v0 v1 : Value} (h : R2 w b v0 v1) (hg : w.grownBy w' (some rb)) (hne : b ≠ rb) : R2 w' b v0 v1 := h.grown hg hne
theorem Box.rd {w w' : World} {b rb : Nat} {v0 v1 : Value} (h : Box w b v0 v1) (hg : w.grownBy w' (some rb)) (hne : b ≠ rb) : Box w' b v0 v1 := h.grown hg (fun g e => by cases e; exact hne)
theorem grown_two {w W w' : World} {rb g : Nat} (h : w.grownBy W (some rb)) (hg : W.grownBy w' (some g)) (hge : w.heap.size ≤ g) : w.grownBy w' (some rb) :=
  ⟨hg.os.trans h.os, hg.tape.trans h.tape, hg.output.trans h.output, Nat.le_trans h.size hg.size, fun i hi hne => (hg.block i (Nat.lt_of_lt_of_le hi h.size) (by intro e; have : i = g := Option.some.inj e; omega)).trans (h.block i hi hne)⟩
theorem wide_any (rb : Nat) (ca : Option Addr) (cc : Nat) (cs : List Int) (w : World) (hr : RD w rb ca cc cs) :
    Calls Tryz.prog 199 #[.pointer (some ⟨rb, 0, none⟩)] w fun e w' => ∃ x : Int, ∃ a c, e = .returned (.agg #[.bool (Nm.wn x), .slice a (Nm.wl x).length c]) ∧ (Nm.wl x).length ≤ 200 ∧ Own w' w.heap.size a c (Nm.wl x) ∧ RD w' rb ca cc cs ∧ w.grownBy w' (some rb) := by
  obtain ⟨i0, hi, hz0, hz1, hz2⟩ := info_parts info32
  have HI := hid (And.intro hi (And.intro hz0 (And.intro hz1 hz2)))
  clear hi hz0 hz1 hz2
  have hrw := hr.lt
  have hr0 := hr.alloc (.cells #[.bool false, .slice none 0 0] 32)
  have Rz := R2.new w (.bool false) (.slice none 0 0) 32
  have hsV : (w.alloc (.cells #[.bool false, .slice none 0 0] 32)).heap.size = w.heap.size + 1 := by simp
  have hbV : Below w.heap.size w (w.alloc (.cells #[.bool false, .slice none 0 0] 32)) := (by repeat (first | exact bz0 _ _ | refine bz1 ?_ | refine bz2 ?_ _ | refine bz3 ?_ _ | refine bz5 ?_ _ | refine bz6 ?_ _))
  go_enter Tryz.func199, Tryz.ntmps199
  go_wp2_with fail
  generalize w.alloc (.cells #[.bool false, .slice none 0 0] 32) = V at hr0 Rz hsV hbV ⊢
  have HSV := hid hsV
  clear hsV
  refine (below_any rb ca cc cs 5 _ hr0 (by decide) (by decide)).mono ?_
  rintro e w1 ⟨n, rfl, n0, n1, hr1, hg1⟩
  go_wp2_with fail
  refine (once_any rb ca cc cs 12 _ hr1 (by decide) (by decide)).mono ?_
  rintro e w2 ⟨bb, rfl, hr2, hg2⟩
  have hgv2 := grown_trans hg1 hg2
  cases bb
  case' false =>
    have hn : n ≤ 200 := by omega
    go_wp2_with fail
  case' true =>
    go_wp2_with fail
    refine (below_any rb ca cc cs 201 _ hr2 (by decide) (by decide)).mono ?_
    rintro e w2 ⟨n, rfl, n0, n1, hr2, hgx⟩
    have hgv2 := grown_trans hgv2 hgx
    have hn : n ≤ 200 := by omega
    go_wp2_with fail
  all_goals
    have l2 : w.heap.size + 1 ≤ w2.heap.size := by have := hgv2.size; have := HSV.out; omega
    go_loopw [4, 5] (fun sl iv wr => ∃ i : Nat, ∃ os : List Int, ∃ g cp : Nat, (i : Int) ≤ n ∧ iv = .int .i64 i ∧ sl = .slice (some ⟨g, 0, none⟩) os.length cp ∧ os.length = i ∧ Nm.Dg os ∧ Own wr (w.heap.size + 1) (some ⟨g, 0, none⟩) cp os ∧ RD wr rb ca cc cs ∧ V.grownBy wr (some rb)) (fun _ iv _ => n.toNat - (intOf iv).toNat)
    case atStart => exact ⟨0, [], w2.heap.size, 0, by omega, rfl, rfl, rfl, Nm.Dg.nil, own_buf.base l2, hr2.alloc _, grown_alloc hgv2 _⟩
    case round =>
      obtain ⟨i, os, g, cp, hi, rfl, rfl, hol, hdo, hown, hrr, hgw⟩ := hrel
      have hl3 : w.heap.size + 1 ≤ wr.heap.size := by have := hgw.size; have := HSV.out; omega
      have HOL := hid hol
      have hol1 : os.length ≤ 200 := by omega
      have HDO := hid hdo
      clear hol hdo
      by_cases hlt : (i : Int) < n
      · go_wp2_with fail
        refine (word_any rb ca cc cs _ hrr).mono ?_
        rintro e w3 ⟨u, rfl, u0, u1, hr3, hg3⟩
        go_wp2_with fail
        refine (word_any rb ca cc cs _ hr3).mono ?_
        rintro e w4 ⟨t, rfl, t0, t1, hr4, hg4⟩
        have l4 : wr.heap.size ≤ w4.heap.size := by have := hg3.size; have := hg4.size; omega
        go_wp2_with fail
        refine (below_any rb ca cc cs 6 _ (hr4.alloc _) (by decide) (by decide)).mono ?_
        rintro e w5 ⟨kz, rfl, k0, k1, hr5, hg5⟩
        obtain ⟨k, rfl⟩ := Int.eq_ofNat_of_zero_le k0
        obtain ⟨d, hd, d0, d1⟩ := six_cell w4 hg5 (by omega) (by omega) (by omega) k (by omega)
        have hown5 := ((hown.rd (grown_trans hg3 hg4) (by omega)).alloc _).rd hg5 (by omega)
        have hgw5 := grown_trans (grown_alloc (grown_trans (grown_trans hgw hg3) hg4) _) hg5
        have l5 : w4.heap.size < w5.heap.size := by have := hg5.size; simp at this; omega
        go_wp2_with (at_builtin; refine wpList_append_lies _ rfl _ _ 30 rfl (w.heap.size + 1) 128 i0 (.int .u32 0) 1 4 Tryz.underlying30 HI.out.1 HI.out.2.1 HI.out.2.2.1 HI.out.2.2.2 rfl (by decide) (.slice (some ⟨g, 0, none⟩) os.length cp) os.length (os.map (Value.int .u32)) rfl (by exact hown5.alloc _) ⟨w5.heap.size, 0, none⟩ 1 1 [.int .u32 d] rfl rfl (by exact news_one w5 _) (one_one _) (by decide) (by unfold maxLen; omega) (by omega) (by simp; omega) (w5.heap.size + 1) (by simp) ?_; intro g1 cp1 w6 hown6 hgrow hat hlt6)
        have ho6 := own_more hown6
        have hg0 := (own_ge hown5).1
        have hgrow' : (w5.alloc (.cells #[.int .u32 d] 128)).grownBy w6 (some g) := hgrow
        have hgw6 := grown_two (grown_alloc hgw5 _) hgrow' (by have := HSV.out; omega)
        have hr6 := (hr5.alloc (.cells #[.int .u32 d] 128)).grown hgrow' (by omega)
        clear hown6 hat hgrow
        go_roundw
        case rel => exact ⟨i + 1, os ++ [d], g1, cp1, by omega, by go_num, by simp, by simp; exact HOL.out, HDO.out.append (Nm.Dg.cons ⟨d0, d1⟩ Nm.Dg.nil), ho6, hr6, hgw6⟩
        case measure => simp [intOf]; omega
      · go_wp2_with fail
        refine (once_any rb ca cc cs 2 _ hrr (by decide) (by decide)).mono ?_
        rintro e w3 ⟨sg, rfl, hr3, hg3⟩
        have hown3 := hown.rd hg3 (by omega)
        go_wp2_with fail
        refine (made_v sg (some ⟨g, 0, none⟩) cp os _ hown3.sl HDO.out (by omega) _ rfl).mono ?_
        rintro e w4 ⟨a4, c4, rfl, ho4, hb4⟩
        have hgw3 := grown_trans hgw hg3
        obtain ⟨z0, z1, zf0, zf1⟩ := (Rz.rd hgw3 (by omega)).below hb4
        have hlen : (Nm.wl (Nm.wv sg os)).length ≤ 200 := by
          rw [Nm.wl_wv sg HDO.out]; have := Nm.trim_length os; omega
        have HLEN := hid hlen
        have l3 : w.heap.size + 1 ≤ w3.heap.size := by have := hg3.size; omega
        have hr4 := hr3.below hb4
        have hgw4 := grown_trans hgw3 (grown_below hb4 _)
        clear hlen
        go_wp2
        have hset : ∀ (p q : Value), w4.grownBy ((w4.setCell ⟨w.heap.size, 0, none⟩ p).setCell ⟨w.heap.size, 1, none⟩ q) (some w.heap.size) := fun p q =>
          ⟨by simp [World.setCell], by simp [World.setCell], by simp [World.setCell], by simp [World.setCell], fun k hk hne => by
            have hne' : k ≠ w.heap.size := by intro e; exact hne (by rw [e])
            rw [Below.heap_setCell _ ⟨w.heap.size, 1, none⟩ q k hne', Below.heap_setCell _ ⟨w.heap.size, 0, none⟩ p k hne']⟩
        have hgV : w.grownBy w4 (some rb) := grown_trans (grown_below hbV _) hgw4
        refine bodyPost_ret (v := .agg #[.bool (Nm.wn (Nm.wv sg os)), .slice a4 (Nm.wl (Nm.wv sg os)).length c4]) (by simp [results, Tryz.results199, go_sem, z0, z1]) rfl ⟨Nm.wv sg os, a4, c4, rfl, HLEN.out, ?_, ?_, ?_⟩
        · exact Own.base ((ho4.setBelow (by simp; omega) _).setBelow (by simp; omega) _) (by omega)
        · exact hr4.grown (hset _ _) hrw
        · exact grown_two hgV (hset _ _) (Nat.le_refl _)
namespace Fd
theorem big_any (ca : Option Addr) (n cc : Nat) (w : World) (hn : n ≤ 9223372036854775807) (b : Bool) (hb : b = decide (1048576 < n)) :
    Calls Tryz.prog 18 #[.slice ca n cc] w fun e w' => e = .returned (.bool b) ∧ w' = w := by
  by_cases h : 1048576 < n
  · have HB : Hid (b = true) := hid (by rw [hb]; simpa using h)
    clear hb
    go_enter Tryz.func18, Tryz.ntmps18
    go_wp2
    go_ret
    refine ⟨ret_bool ?_, rfl⟩
    rw [HB.out]
    first | rfl | (simp; omega)
  · have HB : Hid (b = false) := hid (by rw [hb]; simpa using h)
    clear hb
    go_enter Tryz.func18, Tryz.ntmps18
    go_wp2
    go_ret
    refine ⟨ret_bool ?_, rfl⟩
    rw [HB.out]
    first | rfl | (simp; omega)
theorem bel_rd {w W w' : World} {rb : Nat} (h : Below w.heap.size w W) (hg : W.grownBy w' (some rb)) (hr : w.heap.size ≤ rb) : Below w.heap.size w w' := h.grown hg h.size (fun k hk => by cases hk; exact hr)
theorem format_any (rb : Nat) (ca : Option Addr) (cc : Nat) (cs : List Int) (w : World) (hr : RD w rb ca cc cs) :
    Calls Tryz.prog 117 #[.pointer (some ⟨rb, 0, none⟩)] w fun e w' => ∃ fm : Int, e = .returned (.int .i64 fm) ∧ fmtB fm = true ∧ RD w' rb ca cc cs ∧ w.grownBy w' (some rb) := by
  go_enter Tryz.func117, Tryz.ntmps117
  go_wp2_with fail
  refine (once_any rb ca cc cs 2 _ hr (by decide) (by decide)).mono ?_
  rintro e w1 ⟨v, rfl, hr1, hg1⟩
  cases v
  · go_wp2
    go_ret
    exact ⟨64, rfl, by decide, hr1, hg1⟩
  · go_wp2
    go_ret
    exact ⟨32, rfl, by decide, hr1, hg1⟩
end Fd
theorem unq_bd (fm : Int) : -1074 ≤ unQ fm ∧ unQ fm ≤ -149 := by unfold unQ; split <;> omega
theorem shz (z n : Int) (h : 0 ≤ n) : Nm.shV (Nm.wn z) (Nm.val (Nm.wl z)) n = z * 2 ^ n.toNat := by
  rw [Nm.val_wl, shV_sg]
  have e : ((Nm.sh z.natAbs n : Nat) : Int) = (z.natAbs : Int) * 2 ^ n.toNat := by unfold Nm.sh; rw [if_neg (by omega), Int.natCast_mul, Int.natCast_pow]; rfl
  rw [e]
  unfold Nm.wn
  by_cases hz : z < 0
  · rw [decide_eq_true hz, if_pos rfl, ← Int.neg_mul]; congr 1; omega
  · rw [decide_eq_false hz, if_neg (by decide)]; congr 1; omega
theorem sh_sh (m : Nat) {a b : Int} (ha : 0 ≤ a) (hb : 0 ≤ b) : Nm.sh (Nm.sh m a) b = Nm.sh m (a + b) := by
  unfold Nm.sh
  rw [if_neg (by omega), if_neg (by omega), if_neg (by omega), Nat.mul_assoc, ← Nat.pow_add]
  congr 2; omega
/-- The term that a finite float is, in 2 to the 2 Q. -/
def tmV (fm x : Int) : Int := Nm.shV (Nm.wn (unI fm x)) (Nm.val (Nm.wl (unI fm x))) (-unQ fm)
theorem tm_eq {fm x : Int} (hf : finB fm x = true) : tmV fm x = Nm.shV (Nm.wn (if pS fm x then -pM fm x else pM fm x)) (Nm.val (Nm.wl (if pS fm x then -pM fm x else pM fm x))) (pE fm x - 2 * unQ fm) ∧ bitLen (tmV fm x).natAbs ≤ 4216 := by
  have h1 := pM_bd fm x
  have h3 := pE_q hf
  have hb := un_bits hf
  have hq : -1074 ≤ unQ fm ∧ unQ fm ≤ -149 := by unfold unQ; split <;> omega
  obtain ⟨m, hm⟩ : ∃ m : Nat, pM fm x = m := ⟨(pM fm x).toNat, by omega⟩
  have hu : unI fm x = if pS fm x then -((Nm.sh m (pE fm x - unQ fm) : Nat) : Int) else ((Nm.sh m (pE fm x - unQ fm) : Nat) : Int) := by
    unfold unI; rw [hf, if_pos rfl, hm, Int.toNat_natCast]
  rw [hm, Int.toNat_natCast] at hb
  unfold tmV
  rw [hu, sg_shift, hm, sg_shift, sh_sh m h3.1 (by omega)]
  refine ⟨by rw [show pE fm x - unQ fm + -unQ fm = pE fm x - 2 * unQ fm by omega], ?_⟩
  have e : (if pS fm x then -((Nm.sh m (pE fm x - unQ fm + -unQ fm) : Nat) : Int) else ((Nm.sh m (pE fm x - unQ fm + -unQ fm) : Nat) : Int)).natAbs = Nm.sh m (pE fm x - unQ fm + -unQ fm) := by cases pS fm x <;> simp
  rw [e, ← sh_sh m h3.1 (by omega)]
  obtain ⟨k, hk⟩ : ∃ k, k = Nm.sh m (pE fm x - unQ fm) := ⟨_, rfl⟩
  rw [← hk] at hb ⊢
  unfold Nm.sh
  rw [if_neg (by omega)]
  by_cases h0 : k = 0
  · subst h0; rw [Nat.zero_mul]; decide
  · rw [Nm.bl_mul h0]; omega
theorem wl_len {V : Int} (h : bitLen V.natAbs ≤ 6400) : (Nm.wl V).length ≤ 200 := by unfold Nm.wl; exact lim_len (k := 200) (by omega)
theorem adds_no (fm : Int) (ng : Bool) (T : Int) (nn bd pl mi am : Bool) (p : Option Addr) (cap : Nat) (zs : List Int) (x : Int) (w : World) (hs : Sl .u32 w (.slice p zs.length cap) zs) (hl : zs.length ≤ 1048576) (c : Int) (hc : c = tcC (accB fm ng zs T nn bd pl mi am) (okF fm x) T) (hc0 : c ≠ 0) :
    Calls Tryz.prog 34 #[.agg #[.int .i64 fm, .bool ng, .slice p zs.length cap, .int .i64 T, .bool nn, .bool bd, .bool pl, .bool mi, .bool am], .int .u64 x] w fun r w' => r = .returned (.tuple #[A0, .int .i64 c]) ∧ Below w.heap.size w w' := by
  have C1 := hid (fun w' h => accok_spec fm ng T nn bd pl mi am p cap zs w' h hl)
  have C2 := hid (fun w' => spec_ok fm x w')
  have A := (Q9.new w (.int .i64 fm) (.bool ng) (.slice p zs.length cap) (.int .i64 T) (.bool nn) (.bool bd) (.bool pl) (.bool mi) (.bool am) 50).alloc (.cells #[.int .i64 0, .bool false, .slice none 0 0, .int .i64 0, .bool false, .bool false, .bool false, .bool false, .bool false] 50)
  have R := Q9.nw2b w (.cells #[.int .i64 fm, .bool ng, .slice p zs.length cap, .int .i64 T, .bool nn, .bool bd, .bool pl, .bool mi, .bool am] 50) (.int .i64 0) (.bool false) (.slice none 0 0) (.int .i64 0) (.bool false) (.bool false) (.bool false) (.bool false) (.bool false) 50
  have bel0 : Below w.heap.size w ((w.alloc (.cells #[.int .i64 fm, .bool ng, .slice p zs.length cap, .int .i64 T, .bool nn, .bool bd, .bool pl, .bool mi, .bool am] 50)).alloc (.cells #[.int .i64 0, .bool false, .slice none 0 0, .int .i64 0, .bool false, .bool false, .bool false, .bool false, .bool false] 50)) := (by repeat (first | exact bz0 _ _ | refine bz1 ?_ | refine bz2 ?_ _ | refine bz3 ?_ _ | refine bz5 ?_ _ | refine bz6 ?_ _))
  unfold tcC at hc
  cases h1 : accB fm ng zs T nn bd pl mi am
  · rw [h1] at C1 hc
    have hc' : c = 1 := hc
    subst hc'
    clear hc h1 hc0
    go_enter Tryz.func34, Tryz.ntmps34
    go_wp2_with fail
    refine (C1.out _ (hs.below bel0)).mono ?_
    rintro r w1 ⟨rfl, hb1⟩
    obtain ⟨r0, r1, r2, r3, r4, r5, r6, r7, r8, g0, g1, g2, g3, g4, g5, g6, g7, g8⟩ := R.below hb1
    have bel1 := bel_go bel0 hb1
    go_wp2
    refine bodyPost_ret (v := .tuple #[A0, .int .i64 1]) (by simp [results, Tryz.results34, go_sem, r0, r1, r2, r3, r4, r5, r6, r7, r8, A0]) rfl ⟨rfl, ?_⟩
    exact (by (repeat with_reducible first | refine Below.setCell ?_ ?_ _ | exact bz0 _ _ | refine bz1 ?_ | refine bz2 ?_ _ | refine bz3 ?_ _ | refine bz4 ?_ bel1 | refine Below.alloc ?_ ?_ _ | refine Below.trans ?_ (Below.mono bel1 ?_)) <;> first | omega | (simp; done) | (simp; omega))
  rw [h1] at C1 hc
  cases h2 : okF fm x
  · rw [h2] at C2 hc
    have hc' : c = 2 := hc
    subst hc'
    clear hc h1 h2 hc0
    go_enter Tryz.func34, Tryz.ntmps34
    go_wp2_with fail
    refine (C1.out _ (hs.below bel0)).mono ?_
    rintro r w1 ⟨rfl, hb1⟩
    have c0 := (A.below hb1).c0
    go_wp2_with fail
    refine (C2.out _).mono ?_
    rintro r w2 ⟨rfl, hb2⟩
    obtain ⟨r0, r1, r2, r3, r4, r5, r6, r7, r8, g0, g1, g2, g3, g4, g5, g6, g7, g8⟩ := (R.below hb1).below hb2
    have bel1 := bel_go (bel_go bel0 hb1) hb2
    go_wp2
    refine bodyPost_ret (v := .tuple #[A0, .int .i64 2]) (by simp [results, Tryz.results34, go_sem, r0, r1, r2, r3, r4, r5, r6, r7, r8, A0]) rfl ⟨rfl, ?_⟩
    exact (by (repeat with_reducible first | refine Below.setCell ?_ ?_ _ | exact bz0 _ _ | refine bz1 ?_ | refine bz2 ?_ _ | refine bz3 ?_ _ | refine bz4 ?_ bel1 | refine Below.alloc ?_ ?_ _ | refine Below.trans ?_ (Below.mono bel1 ?_)) <;> first | omega | (simp; done) | (simp; omega))
  rw [h2] at C2 hc
  by_cases h3 : T = 1000000
  · have hc' : c = 3 := by rw [hc, if_pos rfl, if_pos rfl, if_pos h3]
    subst hc' h3
    clear hc h1 h2 hc0
    go_enter Tryz.func34, Tryz.ntmps34
    go_wp2_with fail
    refine (C1.out _ (hs.below bel0)).mono ?_
    rintro r w1 ⟨rfl, hb1⟩
    have c0 := (A.below hb1).c0
    go_wp2_with fail
    refine (C2.out _).mono ?_
    rintro r w2 ⟨rfl, hb2⟩
    have c3 := ((A.below hb1).below hb2).c3
    obtain ⟨r0, r1, r2, r3, r4, r5, r6, r7, r8, g0, g1, g2, g3, g4, g5, g6, g7, g8⟩ := (R.below hb1).below hb2
    have bel1 := bel_go (bel_go bel0 hb1) hb2
    go_wp2
    refine bodyPost_ret (v := .tuple #[A0, .int .i64 3]) (by simp [results, Tryz.results34, go_sem, r0, r1, r2, r3, r4, r5, r6, r7, r8, A0]) rfl ⟨rfl, ?_⟩
    exact (by (repeat with_reducible first | refine Below.setCell ?_ ?_ _ | exact bz0 _ _ | refine bz1 ?_ | refine bz2 ?_ _ | refine bz3 ?_ _ | refine bz4 ?_ bel1 | refine Below.alloc ?_ ?_ _ | refine Below.trans ?_ (Below.mono bel1 ?_)) <;> first | omega | (simp; done) | (simp; omega))
  · exact absurd (by rw [hc, if_pos rfl, if_pos rfl, if_neg h3]) hc0
theorem nan_of {fm x : Int} (h : okF fm x = true) : nanB fm x = (decide (cls fm x = 4) || decide (cls fm x = 5)) := by
  cases hn : nanB fm x
  · have := cls_num h hn
    rw [decide_eq_false (by omega), decide_eq_false (by omega)]; rfl
  · rcases cls_nan h hn with e | e
    · rw [decide_eq_true e]; rfl
    · rw [decide_eq_true e]; simp
theorem len_zero {fm x : Int} (hx : okF fm x = true) (hf : finB fm x = true) : (absF fm x == 0) = decide ((Nm.wl (if pS fm x then -pM fm x else pM fm x)).length = 0) := by
  have hM := pM_bd fm x
  have e : ((Nm.wl (if pS fm x then -pM fm x else pM fm x)).length = 0) ↔ pM fm x = 0 := by
    unfold Nm.wl
    rw [Nm.lim_length_zero]
    cases pS fm x <;> simp <;> omega
  rw [← cls_zero hx, Bool.eq_iff_iff, beq_iff_eq, decide_eq_true_eq, e]
  constructor
  · intro h
    have ha : (absF fm x == 0) = true := by rw [← cls_zero hx, h]; rfl
    have ha' : absF fm x = 0 := by simpa using ha
    unfold pM; rw [hf, if_pos rfl]
    rcases okF_cases hx with ⟨rfl, hx'⟩ | rfl
    · rw [abs32 hx'] at ha'
      rw [if_pos rfl, ha']; rfl
    · rw [abs64] at ha'
      rw [if_neg (by decide), ha']; rfl
  · intro h
    have hc : 0 ≤ cls fm x ∧ cls fm x ≤ 2 := by simpa [finB] using hf
    by_cases h12 : cls fm x = 1 ∨ cls fm x = 2
    · have := (pM_pos h12).2; omega
    · omega
/-- A term: its value in 2 to the 2 Q; a NaN, invalid, infinity above and below 0; a zero below 0. -/
structure Tm where
  v : Int
  nan : Bool
  bad : Bool
  plus : Bool
  minus : Bool
  zm : Bool
/-- What an accumulator holds beside its format. -/
structure St where
  z : Int
  T : Int
  nn : Bool
  bd : Bool
  pl : Bool
  mi : Bool
  am : Bool
def St.add (s : St) (t : Tm) : St := ⟨s.z + t.v, s.T + 1, s.nn || t.nan, s.bd || t.bad, s.pl || t.plus, s.mi || t.minus, t.zm && (s.am || decide (s.T = 0))⟩
def tmF (fm x : Int) : Tm := if finB fm x then ⟨tmV fm x, false, false, false, false, (absF fm x == 0) && sigB fm x⟩ else ⟨0, nanB fm x, cls fm x == 5, !nanB fm x && !sigB fm x, !nanB fm x && sigB fm x, false⟩
def Rt (fm : Int) (s : St) : Prop := accB fm (Nm.wn s.z) (Nm.wl s.z) s.T s.nn s.bd s.pl s.mi s.am = true
structure TmOk (fm : Int) (t : Tm) : Prop where
  v : t.v.natAbs ≤ far fm 1
  bn : t.bad = true → t.nan = true
  z : t.zm = true → t.v = 0 ∧ t.nan = false ∧ t.bad = false ∧ t.plus = false ∧ t.minus = false
def farE (fm : Int) : Nat := if fm = 32 then 554 else 4196
theorem far_eq (fm T : Int) : far fm T = T.toNat * 2 ^ farE fm := by
  unfold far Nm.sh farE
  by_cases h : fm = 32
  · have e : (554 : Int).toNat = 554 := rfl
    rw [if_pos h, if_pos h, if_neg (by decide), e]
  · have e : (4196 : Int).toNat = 4196 := rfl
    rw [if_neg h, if_neg h, if_neg (by decide), e]
theorem far_add (fm : Int) {T : Int} (h : 0 ≤ T) : far fm T + far fm 1 = far fm (T + 1) := by
  rw [far_eq, far_eq, far_eq, ← Nat.add_mul]
  congr 1; omega
theorem Rt.le {fm : Int} {s : St} (h : Rt fm s) : s.z.natAbs ≤ far fm s.T ∧ 0 ≤ s.T ∧ s.T ≤ 1000000 := by
  have h1 := acc_val (Nm.wl_dg _) h
  rw [Nm.val_wl] at h1
  have h2 := mkB_T (acc_parts h).2.1
  exact ⟨by simpa using h1, h2⟩
theorem Rt.mk {fm : Int} {s : St} (hf : fmtB fm = true) (hm : mkB s.T s.nn s.bd s.pl s.mi s.am = true) (hz : s.z.natAbs ≤ far fm s.T) (ha : s.am = true → s.z = 0) : Rt fm s := by
  have ht := mkB_T hm
  have hb := Nm.bl_mono hz
  have hb2 := far_bl fm ht.2
  have hl : (Nm.wl s.z).length ≤ 200 := wl_len (by omega)
  have hc : cmpL (Nm.wl s.z) (Nm.lim (far fm s.T)) ≤ 0 := by
    have h := (cmpL_val (Nm.wl_dg s.z) (Nm.lim_dg (far fm s.T)) (Nm.wl_nz s.z) (Nm.lim_nz _)).2
    have hr := cmpL_rng (Nm.wl s.z) (Nm.lim (far fm s.T))
    rw [Nm.lim_val, Nm.val_wl] at h
    have : ¬ 0 < cmpL (Nm.wl s.z) (Nm.lim (far fm s.T)) := fun h0 => by
      have := h.1 (by omega); omega
    omega
  have hz0 : (!s.am || decide ((Nm.wl s.z).length = 0)) = true := by
    cases e : s.am
    · rfl
    · rw [ha e]; have : Nm.wl 0 = [] := Nm.lim_zero
      rw [this]; rfl
  unfold Rt accB
  rw [hf, hm, okB_wl hl, decide_eq_true hc, hz0]; rfl
theorem Rt.zero {fm : Int} {s : St} (h : Rt fm s) : (s.am = true ∨ s.T = 0) → s.z = 0 ∧ s.nn = false ∧ s.bd = false ∧ s.pl = false ∧ s.mi = false := by
  intro hh
  have hl := h.le
  have hm := (acc_parts h).2.1
  unfold mkB at hm
  have hr := h
  unfold Rt accB at hr
  simp only [Bool.and_eq_true] at hr
  rcases hh with e | e
  · rw [e] at hm hr
    have hz : s.z = 0 := by
      have := hr.2
      simp only [Bool.not_true, Bool.false_or, decide_eq_true_eq] at this
      unfold Nm.wl at this
      rw [Nm.lim_length_zero] at this
      omega
    refine ⟨hz, ?_⟩
    revert hm
    cases s.nn <;> cases s.bd <;> cases s.pl <;> cases s.mi <;> simp
  · have hz : s.z = 0 := by
      have := hl.1
      rw [e] at this
      have e0 : far fm 0 = 0 := by rw [far_eq]; exact Nat.zero_mul _
      omega
    rw [e] at hm
    refine ⟨hz, ?_⟩
    revert hm
    cases s.nn <;> cases s.bd <;> cases s.pl <;> cases s.mi <;> simp
theorem Rt.add {fm : Int} {s : St} (h : Rt fm s) {t : Tm} (ht : TmOk fm t) (hT : s.T ≠ 1000000) : Rt fm (s.add t) := by
  obtain ⟨hl, h0, h1⟩ := h.le
  obtain ⟨hf, hm, -, -⟩ := acc_parts h
  have hv := ht.v
  refine Rt.mk hf ?_ ?_ ?_
  · have hz := h.zero
    have hbn := ht.bn
    have htz := ht.z
    show mkB (s.T + 1) (s.nn || t.nan) (s.bd || t.bad) (s.pl || t.plus) (s.mi || t.minus) (t.zm && (s.am || decide (s.T = 0))) = true
    unfold mkB at hm ⊢
    rw [decide_eq_true (show 0 ≤ s.T + 1 by omega), decide_eq_true (show s.T + 1 ≤ 1000000 by omega), decide_eq_false (show ¬ s.T + 1 = 0 by omega)]
    have hbd : s.bd = true → s.nn = true := by
      intro e; rw [e] at hm; revert hm; cases s.nn <;> simp
    by_cases hz' : t.zm = true ∧ (s.am = true ∨ s.T = 0)
    · obtain ⟨_, e1, e2, e3, e4⟩ := hz hz'.2
      obtain ⟨_, e5, e6, e7, e8⟩ := htz hz'.1
      rw [e1, e2, e3, e4, e5, e6, e7, e8]; simp
    · have : (t.zm && (s.am || decide (s.T = 0))) = false := by
        rw [Bool.eq_false_iff]; intro e; apply hz'
        simpa using e
      rw [this]
      revert hbd hbn
      cases s.nn <;> cases s.bd <;> cases t.nan <;> cases t.bad <;> simp
  · show (s.z + t.v).natAbs ≤ far fm (s.T + 1)
    rw [← far_add fm h0]; omega
  · intro e
    have e' : (t.zm && (s.am || decide (s.T = 0))) = true := e
    simp only [Bool.and_eq_true, Bool.or_eq_true, decide_eq_true_eq] at e'
    have h3 := (h.zero e'.2).1
    have h4 := (ht.z e'.1).1
    show s.z + t.v = 0
    omega
theorem un_blf {fm x : Int} (hf : finB fm x = true) : bitLen (Nm.sh (pM fm x).toNat (pE fm x - unQ fm)) ≤ (if fm = 32 then 277 else 2098) := by
  have hx : okF fm x = true := by
    cases ho : okF fm x
    · rw [fin_no ho] at hf; cases hf
    · rfl
  have hlt := fin_lt hx
  rw [hf] at hlt
  have hlt' := of_decide_eq_true hlt.symm
  have h1 := Nm.bl_sh (pM fm x).toNat (pE fm x - unQ fm)
  rcases okF_cases hx with ⟨rfl, hx'⟩ | rfl
  · rw [if_pos rfl]
    rw [abs32 hx'] at hlt'
    unfold infOf at hlt'; rw [if_pos rfl] at hlt'
    have hM : pM 32 x < 16777216 := by
      unfold pM; rw [hf, if_pos rfl, if_pos rfl]; unfold parM; split <;> omega
    have hE : pE 32 x - unQ 32 ≤ 253 := by
      unfold pE unQ; rw [hf, if_pos rfl, if_pos rfl, if_pos rfl]; unfold parE; split <;> omega
    have h0 := (pM_bd 32 x).1
    have h2 := (Nm.bl_le_iff (pM 32 x).toNat 24).2 (by omega)
    omega
  · rw [if_neg (by decide)]
    rw [abs64] at hlt'
    unfold infOf at hlt'; rw [if_neg (by decide)] at hlt'
    have hE : pE 64 x - unQ 64 ≤ 2045 := by
      unfold pE unQ; rw [hf, if_pos rfl, if_neg (by decide), if_neg (by decide)]; unfold parE; split <;> omega
    have h0 := pM_bd 64 x
    have h2 := (Nm.bl_le_iff (pM 64 x).toNat 53).2 (by omega)
    omega
theorem tm_abs {fm x : Int} (hf : finB fm x = true) : (tmV fm x).natAbs = Nm.sh (Nm.sh (pM fm x).toNat (pE fm x - unQ fm)) (-unQ fm) := by
  obtain ⟨m, hm⟩ : ∃ m : Nat, pM fm x = m := ⟨(pM fm x).toNat, by have := (pM_bd fm x).1; omega⟩
  have hu : unI fm x = if pS fm x then -((Nm.sh m (pE fm x - unQ fm) : Nat) : Int) else ((Nm.sh m (pE fm x - unQ fm) : Nat) : Int) := by
    unfold unI; rw [hf, if_pos rfl, hm, Int.toNat_natCast]
  unfold tmV
  rw [hu, sg_shift, hm, Int.toNat_natCast]
  cases pS fm x <;> simp
theorem tm_ok {fm x : Int} (hx : okF fm x = true) : TmOk fm (tmF fm x) := by
  cases hf : finB fm x
  · have e : tmF fm x = ⟨0, nanB fm x, cls fm x == 5, !nanB fm x && !sigB fm x, !nanB fm x && sigB fm x, false⟩ := by unfold tmF; rw [hf]; rfl
    rw [e]
    refine ⟨by simp, fun h => ?_, fun h => by cases h⟩
    show nanB fm x = true
    have h5 : cls fm x = 5 := by simpa using h
    rw [nan_of hx, h5]; decide
  · have e : tmF fm x = ⟨tmV fm x, false, false, false, false, (absF fm x == 0) && sigB fm x⟩ := by unfold tmF; rw [hf]; rfl
    rw [e]
    have hb := un_blf hf
    have hq : unQ fm ≤ 0 ∧ (if fm = 32 then (277 : Nat) else 2098) + (-unQ fm).toNat ≤ farE fm := by unfold unQ farE; split <;> simp
    refine ⟨?_, (fun h => by cases h), (fun h => ⟨?_, rfl, rfl, rfl, rfl⟩)⟩
    · show (tmV fm x).natAbs ≤ far fm 1
      rw [tm_abs hf]
      have h1 := Nm.bl_sh (Nm.sh (pM fm x).toNat (pE fm x - unQ fm)) (-unQ fm)
      have h2 : bitLen (Nm.sh (Nm.sh (pM fm x).toNat (pE fm x - unQ fm)) (-unQ fm)) ≤ farE fm := by omega
      have h3 := (Nm.bl_le_iff _ _).1 h2
      rw [far_eq, show (1 : Int).toNat = 1 from rfl, Nat.one_mul]
      exact Nat.le_of_lt h3
    · show tmV fm x = 0
      have hz : (absF fm x == 0) = true := by
        have h' : ((absF fm x == 0) && sigB fm x) = true := h
        revert h'; cases (absF fm x == 0) <;> simp
      have hl := len_zero hx hf
      rw [hz] at hl
      have hl' := of_decide_eq_true hl.symm
      have hM : (pM fm x).toNat = 0 := by
        unfold Nm.wl at hl'
        rw [Nm.lim_length_zero] at hl'
        revert hl'; cases pS fm x <;> simp <;> omega
      have ha := tm_abs hf
      rw [hM] at ha
      have e0 : ∀ n, Nm.sh 0 n = 0 := by intro n; unfold Nm.sh; split <;> simp
      rw [e0, e0] at ha
      omega
theorem accS (fm : Int) (s : St) (x : Int) (p : Option Addr) (cap : Nat) (w : World) (hR : Rt fm s) (hx : okF fm x = true) (x0 : 0 ≤ x) (x1 : x < 18446744073709551616) (hT : s.T ≠ 1000000) (hs : Sl .u32 w (.slice p (Nm.wl s.z).length cap) (Nm.wl s.z)) (s' : St) (hs' : s' = s.add (tmF fm x)) :
    Calls Tryz.prog 34 #[.agg #[.int .i64 fm, .bool (Nm.wn s.z), .slice p (Nm.wl s.z).length cap, .int .i64 s.T, .bool s.nn, .bool s.bd, .bool s.pl, .bool s.mi, .bool s.am], .int .u64 x] w fun r w' => ∃ a' c', r = .returned (.tuple #[.agg #[.int .i64 fm, .bool (Nm.wn s'.z), .slice a' (Nm.wl s'.z).length c', .int .i64 s'.T, .bool s'.nn, .bool s'.bd, .bool s'.pl, .bool s'.mi, .bool s'.am], .int .i64 0]) ∧ Own w' w.heap.size a' c' (Nm.wl s'.z) ∧ Below w.heap.size w w' := by
  subst hs'
  have hwv := Nm.wv_out s.z
  cases hf : finB fm x
  · have e : tmF fm x = ⟨0, nanB fm x, cls fm x == 5, !nanB fm x && !sigB fm x, !nanB fm x && sigB fm x, false⟩ := by unfold tmF; rw [hf]; rfl
    rw [e]
    have h := add_spec_odd fm (Nm.wn s.z) s.T s.nn s.bd s.pl s.mi s.am p cap (Nm.wl s.z) x w hs (Nm.wl_dg _) hR hx x0 x1 hT hf _ _ _ _ rfl rfl rfl rfl
    simpa [St.add] using h
  · have e : tmF fm x = ⟨tmV fm x, false, false, false, false, (absF fm x == 0) && sigB fm x⟩ := by unfold tmF; rw [hf]; rfl
    rw [e]
    have hb := (tm_eq hf).2
    have hl := wl_len (V := tmV fm x) (by omega)
    have h := add_spec_fin fm (Nm.wn s.z) s.T s.nn s.bd s.pl s.mi s.am p cap (Nm.wl s.z) x w hs (Nm.wl_dg _) hR hx x0 x1 hT hf (tmV fm x) rfl hl (s.z + tmV fm x) (by rw [hwv])
    simpa [St.add] using h
/-- What a product of finite floats is as a term. -/
def tpV (fm x y : Int) : Int := nZ fm x * nZ fm y * 2 ^ (nE fm x + nE fm y - 2 * unQ fm).toNat
def oddX (fm x y : Int) : Bool := (nI fm x || nI fm y) && (zF fm x || zF fm y)
/-- What a product is as a term. -/
def tmM (fm x y : Int) : Tm := if nanB fm x || nanB fm y || oddX fm x y then ⟨0, true, nB fm x || nB fm y || oddX fm x y, false, false, false⟩ else if nI fm x || nI fm y then ⟨0, false, false, !(sigB fm x != sigB fm y), sigB fm x != sigB fm y, false⟩ else ⟨tpV fm x y, false, false, false, false, decide (nZ fm x * nZ fm y = 0) && (sigB fm x != sigB fm y)⟩
theorem odd_nan {fm x y : Int} (hx : okF fm x = true) (hy : okF fm y = true) : (nB fm x || nB fm y || oddX fm x y) = true → (nanB fm x || nanB fm y || oddX fm x y) = true := by
  intro h
  have key : ∀ z, okF fm z = true → nB fm z = true → nanB fm z = true := fun z hz hb => by
    have h5 : cls fm z = 5 := by simpa [nB] using hb
    rw [nan_ofE hz, h5]; decide
  cases ho : oddX fm x y
  · rw [ho, Bool.or_false] at h
    cases hbx : nB fm x
    · rw [hbx, Bool.false_or] at h; rw [key y hy h]; simp
    · rw [key x hx hbx]; simp
  · simp
theorem nE_q {fm x : Int} (hx : okF fm x = true) (hf : finB fm x = true) : 0 ≤ nE fm x - unQ fm ∧ bitLen (nZ fm x * 2 ^ (nE fm x - unQ fm).toNat).natAbs ≤ (if fm = 32 then 277 else 2098) := by
  obtain ⟨f1, f2, f3, f4, f5, f6⟩ := fin_facts hx hf
  have hq := pE_q hf
  rw [f4]
  refine ⟨hq.1, ?_⟩
  have h := un_blf hf
  have e : (nZ fm x * 2 ^ (pE fm x - unQ fm).toNat).natAbs = Nm.sh (pM fm x).toNat (pE fm x - unQ fm) := by
    unfold Nm.sh
    rw [if_neg (by omega), Int.natAbs_mul, Int.natAbs_pow, f3]
    congr 1
    have := (pM_bd fm x).1
    cases pS fm x <;> simp <;> omega
  rw [e]; exact h
theorem bl_mul2 (a b : Nat) : bitLen (a * b) ≤ bitLen a + bitLen b := by
  rw [Nm.bl_le_iff, Nat.pow_add]
  have h1 := (Nm.bl_le_iff a (bitLen a)).1 (Nat.le_refl _)
  have h2 := (Nm.bl_le_iff b (bitLen b)).1 (Nat.le_refl _)
  exact Nat.mul_lt_mul'' h1 h2
theorem tp_eq {fm x y : Int} (hx : okF fm x = true) (hy : okF fm y = true) (fx : finB fm x = true) (fy : finB fm y = true) : tpV fm x y = (nZ fm x * 2 ^ (nE fm x - unQ fm).toNat) * (nZ fm y * 2 ^ (nE fm y - unQ fm).toNat) ∧ 0 ≤ nE fm x + nE fm y - 2 * unQ fm ∧ bitLen (tpV fm x y).natAbs ≤ farE fm := by
  have qx := nE_q hx fx
  have qy := nE_q hy fy
  have e : tpV fm x y = (nZ fm x * 2 ^ (nE fm x - unQ fm).toNat) * (nZ fm y * 2 ^ (nE fm y - unQ fm).toNat) := by
    unfold tpV
    rw [show (nE fm x + nE fm y - 2 * unQ fm).toNat = (nE fm x - unQ fm).toNat + (nE fm y - unQ fm).toNat by omega, Int.pow_add]
    simp only [Int.mul_assoc, Int.mul_left_comm]
  refine ⟨e, by omega, ?_⟩
  rw [e, Int.natAbs_mul]
  have h := bl_mul2 (nZ fm x * 2 ^ (nE fm x - unQ fm).toNat).natAbs (nZ fm y * 2 ^ (nE fm y - unQ fm).toNat).natAbs
  have hx2 := qx.2
  have hy2 := qy.2
  unfold farE
  by_cases h32 : fm = 32
  · rw [if_pos h32] at hx2 hy2 ⊢; omega
  · rw [if_neg h32] at hx2 hy2 ⊢; omega
theorem tmM_ok {fm x y : Int} (hx : okF fm x = true) (hy : okF fm y = true) : TmOk fm (tmM fm x y) := by
  unfold tmM
  cases hn : (nanB fm x || nanB fm y || oddX fm x y)
  · rw [if_neg (by decide)]
    cases hi : (nI fm x || nI fm y)
    · rw [if_neg (by decide)]
      obtain ⟨⟨nx, ny⟩, -⟩ : (nanB fm x = false ∧ nanB fm y = false) ∧ oddX fm x y = false := by simpa [Bool.or_eq_false_iff] using hn
      obtain ⟨ix, iy⟩ : nI fm x = false ∧ nI fm y = false := by simpa using hi
      have fx := (nan_cases hx nx).resolve_right (by rw [ix]; decide)
      have fy := (nan_cases hy ny).resolve_right (by rw [iy]; decide)
      obtain ⟨-, -, hb⟩ := tp_eq hx hy fx fy
      refine ⟨?_, (fun h => by cases h), (fun h => ⟨?_, rfl, rfl, rfl, rfl⟩)⟩
      · show (tpV fm x y).natAbs ≤ far fm 1
        rw [far_eq, show (1 : Int).toNat = 1 from rfl, Nat.one_mul]
        exact Nat.le_of_lt ((Nm.bl_le_iff _ _).1 hb)
      · show tpV fm x y = 0
        have h' : (decide (nZ fm x * nZ fm y = 0) && (sigB fm x != sigB fm y)) = true := h
        rw [Bool.and_eq_true] at h'
        unfold tpV; rw [of_decide_eq_true h'.1, Int.zero_mul]
    · rw [if_pos rfl]
      exact ⟨by simp, (fun h => by cases h), (fun h => by cases h)⟩
  · rw [if_pos rfl]
    refine ⟨by simp, (fun h => ?_), (fun h => by cases h)⟩
    rfl
end Go.Proofs.YtkfjmcdniohljaaGreatDoor
