/-
  A wide's length: the numbers, the law.
-/
import Derived.Test.YtmfpfkfohjkcgaaDoorBA
import Derived.Test.YtmfpfkfohjkcgaaDoorK45
import Derived.Test.YtmfpfkfohjkcgaaDoorK06
import Derived.Test.YtmfpfkfohjkcgaaDoorK24
import Derived.Test.YtmfpfkfohjkcgaaDoorK02
import Derived.Test.YtmfpfkfohjkcgaaDoorK09
import Derived.Test.YtmfpfkfohjkcgaaDoorK00
namespace Go.Proofs.YtmfpfkfohjkcgaaDoor
set_option linter.unusedVariables false
set_option linter.unusedSimpArgs false
open Go.RowKit Go.Deep
namespace Fw
open Go.Proofs.YtmfpfkfohjkcgaaDoor.Fd (bl_shl fit_k wl_abs wn_abs)
theorem al_b (w : World) (o : Obj) : Below w.heap.size w (w.alloc o) := bel_al (Below.refl _ _) o
theorem bl_le2 {a b : Nat} (h : a ≤ b) : bitLen a ≤ bitLen b := (Nm.bl_le_iff _ _).2 (Nat.lt_of_le_of_lt h ((Nm.bl_le_iff _ _).1 (Nat.le_refl _)))
/-- The table that is read. -/
structure Tz (w : World) : Prop where
  t : Tb w 1 Lib.deBruijn32tab
theorem Tz.below {w w' : World} (h : Tz w) (hb : Below w.heap.size w w') : Tz w' := ⟨h.t.below (by decide) hb⟩
theorem blw' (z : Int) (h : (Nm.wl z).length ≤ 200) : blW (Nm.wn z) (Nm.wl z) = (bitLen z.natAbs : Int) := by
  have h1 : blL (Nm.wl z) = (bitLen z.natAbs : Int) := blL_lim z.natAbs
  unfold blW; rw [okB_wl h, if_pos rfl, h1]
theorem lzw' (z : Int) (h : (Nm.wl z).length ≤ 200) (h0 : z ≠ 0) : lzW (Nm.wn z) (Nm.wl z) = (Nm.tz z.natAbs : Int) := by
  have h1 : ¬ (Nm.wl z).length = 0 := by unfold Nm.wl; rw [Nm.lim_length_zero]; omega
  unfold lzW; rw [okB_wl h, decide_eq_false h1, Nm.val_wl, Int.toNat_natCast]; rfl
theorem bl_num {z : Int} (h0 : z ≠ 0) (hl : (Nm.wl z).length ≤ 190) :
    ∃ (n k : Nat), bitLen z.natAbs = n + 1 ∧ Nm.tz z.natAbs = k ∧ n ≤ 6079 ∧ k ≤ 6080 ∧ z.tdiv (2 ^ k) * 2 ^ k = z ∧ (z.tdiv (2 ^ k)).tdiv 2 * 2 ≠ z.tdiv (2 ^ k) ∧ cmpI ((2 ^ n : Int).natAbs : Nat) (z.natAbs : Nat) ≤ 0 ∧ cmpI (z.natAbs : Nat) ((2 ^ n * 2 : Int).natAbs : Nat) = -1 ∧ (z.tdiv (2 ^ k)).natAbs ≤ z.natAbs ∧ ((z.tdiv (2 ^ k)).tdiv 2 * 2).natAbs ≤ z.natAbs ∧ ((z.tdiv (2 ^ k)).tdiv 2).natAbs ≤ z.natAbs := by
  have ha : z.natAbs ≠ 0 := by omega
  have hb := len_bl hl
  have hp := Nm.bl_pos ha
  obtain ⟨n, hn⟩ : ∃ n, bitLen z.natAbs = n + 1 := ⟨bitLen z.natAbs - 1, by omega⟩
  obtain ⟨s1, s2⟩ := Nm.tz_spec z.natAbs ha
  obtain ⟨k, hk⟩ : ∃ k, k = Nm.tz z.natAbs := ⟨_, rfl⟩
  obtain ⟨o, ho⟩ : ∃ o, o = Nm.od z.natAbs := ⟨_, rfl⟩
  rw [← hk, ← ho] at s1
  rw [← ho] at s2
  have hpk := Nat.two_pow_pos k
  have g1 := Nm.bl_ge ha
  rw [hn, Nat.add_sub_cancel] at g1
  have g2 : z.natAbs < 2 ^ (n + 1) := (Nm.bl_le_iff _ _).1 (by omega)
  have hkn : k ≤ n := by
    have h1 : 2 ^ k ≤ z.natAbs := by rw [← s1]; exact Nat.le_mul_of_pos_left _ (by omega)
    rcases Nat.lt_or_ge n k with h | h
    · have := Nat.pow_le_pow_right (n := 2) (by decide) (show n + 1 ≤ k by omega); omega
    · exact h
  have e1 : z.tdiv (2 ^ k) = (if z < 0 then -(o : Int) else (o : Int)) := by
    have c1 : ((z.natAbs : Nat) : Int) = (o : Int) * 2 ^ k := by rw [← s1, Int.natCast_mul, Int.natCast_pow]; rfl
    have hpp : (2 : Int) ^ k ≠ 0 := Int.ne_of_gt (Int.pow_pos (by decide))
    by_cases hz : z < 0
    · rw [if_pos hz, show z = -((o : Int) * 2 ^ k) by omega, Int.neg_tdiv, Int.mul_tdiv_cancel _ hpp]
    · rw [if_neg hz, show z = (o : Int) * 2 ^ k by omega, Int.mul_tdiv_cancel _ hpp]
  have c1 : ((z.natAbs : Nat) : Int) = (o : Int) * 2 ^ k := by rw [← s1, Int.natCast_mul, Int.natCast_pow]; rfl
  have hoz : o ≤ z.natAbs := by rw [← s1]; exact Nat.le_mul_of_pos_right _ hpk
  have hn2 : ((2 : Int) ^ n).natAbs = 2 ^ n := by rw [Int.natAbs_pow]; rfl
  have hn3 : ((2 : Int) ^ n * 2).natAbs = 2 ^ (n + 1) := by rw [Int.natAbs_mul, hn2, Nat.pow_succ]; rfl
  have t1 : ∀ v : Int, (v.tdiv 2 * 2).natAbs ≤ v.natAbs ∧ (v.tdiv 2).natAbs ≤ v.natAbs := fun v => by
    rw [Int.natAbs_mul, Int.natAbs_tdiv]
    exact ⟨Nat.div_mul_le_self _ _, Nat.div_le_self _ _⟩
  refine ⟨n, k, hn, hk.symm, by omega, by omega, ?_, ?_, ?_, ?_, ?_, ?_, ?_⟩
  · rw [e1]; split
    · rw [Int.neg_mul]; omega
    · omega
  · rw [e1]; split
    · rw [Int.neg_tdiv]; have : (o : Int).tdiv 2 = (o : Int) / 2 := Int.tdiv_eq_ediv_of_nonneg (by omega); rw [this]; omega
    · have : (o : Int).tdiv 2 = (o : Int) / 2 := Int.tdiv_eq_ediv_of_nonneg (by omega); rw [this]; omega
  · rw [hn2]; unfold cmpI
    split
    · decide
    · rw [if_neg (by omega)]; decide
  · rw [hn3]; unfold cmpI; rw [if_pos (by omega)]
  · rw [e1]; split <;> omega
  · have := (t1 (z.tdiv (2 ^ k))).1; have h3 : (z.tdiv (2 ^ k)).natAbs ≤ z.natAbs := by rw [e1]; split <;> omega
    omega
  · have := (t1 (z.tdiv (2 ^ k))).2; have h3 : (z.tdiv (2 ^ k)).natAbs ≤ z.natAbs := by rw [e1]; split <;> omega
    omega
theorem magc_p (x y : Int) (x0 : 0 ≤ x) (a b : Option Addr) (c d : Nat) (w : World) (hx : Sl .u32 w (.slice a (Nm.wl x).length c) (Nm.wl x)) (hy : Sl .u32 w (.slice b (Nm.wl y).length d) (Nm.wl y)) (lx : (Nm.wl x).length ≤ 200) (ly : (Nm.wl y).length ≤ 200) :
    Calls Tryd.prog 37 #[.agg #[.bool (Nm.wn x), .slice a (Nm.wl x).length c], .agg #[.bool false, .slice b (Nm.wl y).length d]] w fun e w' => e = .returned (.int .i64 (cmpI (x.natAbs : Nat) (y.natAbs : Nat))) ∧ Below w.heap.size w w' := by
  rw [show Nm.wn x = false from decide_eq_false (by omega)]
  exact magc_z x y a b c d w hx hy lx ly
theorem magc_q (x y : Int) (y0 : 0 ≤ y) (a b : Option Addr) (c d : Nat) (w : World) (hx : Sl .u32 w (.slice a (Nm.wl x).length c) (Nm.wl x)) (hy : Sl .u32 w (.slice b (Nm.wl y).length d) (Nm.wl y)) (lx : (Nm.wl x).length ≤ 200) (ly : (Nm.wl y).length ≤ 200) :
    Calls Tryd.prog 37 #[.agg #[.bool false, .slice a (Nm.wl x).length c], .agg #[.bool (Nm.wn y), .slice b (Nm.wl y).length d]] w fun e w' => e = .returned (.int .i64 (cmpI (x.natAbs : Nat) (y.natAbs : Nat))) ∧ Below w.heap.size w w' := by
  rw [show Nm.wn y = false from decide_eq_false (by omega)]
  exact magc_z x y a b c d w hx hy lx ly
theorem mag_v (g : Bool) (a : Option Addr) (n c : Nat) (w : World) :
    Calls Tryd.prog 18 #[.agg #[.bool g, .slice a n c]] w fun e w' => e = .returned (.agg #[.bool false, .slice a n c]) ∧ Below w.heap.size w w' := by
  go_enter Tryd.func18, Tryd.ntmps18
  go_wp2
  exact bodyPost_ret (v := .agg #[.bool false, .slice a n c]) (by simp [results, Tryd.results18, go_sem]) rfl ⟨rfl, by first | exact (by repeat (first | exact bz0 _ _ | refine bz1 ?_ | refine bz2 ?_ _ | refine bz3 ?_ _ | refine bz5 ?_ _ | refine bz6 ?_ _)) | (exact Below.setCell (Below.setCell (by repeat (first | exact bz0 _ _ | refine bz1 ?_ | refine bz2 ?_ _ | refine bz3 ?_ _ | refine bz5 ?_ _ | refine bz6 ?_ _)) (by simp) _) (by simp) _)⟩
set_option maxHeartbeats 16000000 in
set_option maxRecDepth 100000 in
theorem bllaw (ca : Option Addr) (cc : Nat) (cs : List Int) (w : World) (hT : Tb w 1 Lib.deBruijn32tab) (hs : Sl .u8 w (.slice ca cs.length cc) cs) (hby : ∀ i, 0 ≤ cs.getD i 0 ∧ cs.getD i 0 ≤ 255) (hl : cs.length ≤ 1048576) :
    Calls Tryd.prog 8 #[.slice ca cs.length cc] w fun e w' => e = .returned (.bool true) ∧ Below w.heap.size w w' := by
  go_enter Tryd.func8, Tryd.ntmps8
  go_wp2_with fail
  refine (big_any ca cs.length cc _ (by omega) false (by simp; omega)).mono ?_
  rintro r w0 ⟨rfl, rfl⟩
  go_wp2_with fail
  refine (drawBitLen_x ca cc cs _ hs hby hl).mono ?_
  rintro r w1 ⟨na, xs, aa, cA, rfl, lx, dx, oa, bel⟩
  have sa := oa.sl
  have T := (Tz.mk hT).below bel
  clear oa hs hby hl hT
  have NI := hid (fun w' h => bl_impl na aa cA xs w' h dx (by omega))
  have NS := hid (fun w' h => bl_spec na aa cA xs w' h dx (by omega))
  have KI := hid (fun w' (h : Tz w') h' => lz_impl na aa cA xs w' h.t h' dx (by omega))
  have KS := hid (fun w' h => lz_spec na aa cA xs w' h dx (by omega))
  by_cases hn1 : blW na xs < 1
  · obtain ⟨n, h_n⟩ : ∃ q, q = blW na xs := ⟨_, rfl⟩
    obtain ⟨k, h_k⟩ : ∃ q, q = lzW na xs := ⟨_, rfl⟩
    rw [← h_n] at NI NS hn1
    rw [← h_k] at KI KS
    clear h_n h_k
    have ne_n : (n != n) = false := by simp
    have eq_n : (n == n) = true := by simp
    have ne_k : (k != k) = false := by simp
    have eq_k : (k == k) = true := by simp
    have hn2 : decide (n < 1) = true := decide_eq_true hn1
    replace sa := sa.below (al_b _ (.cells #[.bool na, .slice aa xs.length cA] 35))
    replace T := T.below (al_b _ (.cells #[.bool na, .slice aa xs.length cA] 35))
    replace bel := bel_al bel (.cells #[.bool na, .slice aa xs.length cA] 35)
    have Ba := R2.new w1 (.bool na) (.slice aa xs.length cA) 35
    obtain ⟨ka0, ka1, -, -⟩ := id Ba
    go_wp2_with fail
    refine (NI.out _ sa).mono ?_
    rintro r w2 ⟨rfl, hb⟩
    clear ka0 ka1
    replace bel := bel_go bel hb
    replace sa := sa.below hb
    replace T := T.below hb
    replace Ba := Ba.below hb
    clear hb
    obtain ⟨ka0, ka1, -, -⟩ := id Ba
    go_wp2_with fail
    refine (KI.out _ T sa).mono ?_
    rintro r w3 ⟨rfl, hb⟩
    clear ka0 ka1
    replace bel := bel_go bel hb
    replace sa := sa.below hb
    replace T := T.below hb
    replace Ba := Ba.below hb
    clear hb
    obtain ⟨ka0, ka1, -, -⟩ := id Ba
    go_wp2_with fail
    refine (NS.out _ sa).mono ?_
    rintro r w4 ⟨rfl, hb⟩
    clear ka0 ka1
    replace bel := bel_go bel hb
    replace sa := sa.below hb
    replace T := T.below hb
    replace Ba := Ba.below hb
    clear hb
    obtain ⟨ka0, ka1, -, -⟩ := id Ba
    go_wp2_with fail
    refine (KS.out _ sa).mono ?_
    rintro r w5 ⟨rfl, hb⟩
    clear ka0 ka1
    replace bel := bel_go bel hb
    replace sa := sa.below hb
    replace T := T.below hb
    replace Ba := Ba.below hb
    clear hb
    obtain ⟨ka0, ka1, -, -⟩ := id Ba
    go_wp2_with fail
    refine (NS.out _ sa).mono ?_
    rintro r w6 ⟨rfl, hb⟩
    clear ka0 ka1
    replace bel := bel_go bel hb
    replace sa := sa.below hb
    replace T := T.below hb
    replace Ba := Ba.below hb
    clear hb
    obtain ⟨ka0, ka1, -, -⟩ := id Ba
    go_wp2_with fail
    refine (KS.out _ sa).mono ?_
    rintro r w7 ⟨rfl, hb⟩
    clear ka0 ka1
    replace bel := bel_go bel hb
    replace sa := sa.below hb
    replace T := T.below hb
    replace Ba := Ba.below hb
    clear hb
    obtain ⟨ka0, ka1, -, -⟩ := id Ba
    go_wp2
    all_goals go_ret
    all_goals exact ⟨rfl, bel⟩
  by_cases h190 : 190 < xs.length
  · obtain ⟨n, h_n⟩ : ∃ q, q = blW na xs := ⟨_, rfl⟩
    obtain ⟨k, h_k⟩ : ∃ q, q = lzW na xs := ⟨_, rfl⟩
    rw [← h_n] at NI NS hn1
    rw [← h_k] at KI KS
    clear h_n h_k
    have ne_n : (n != n) = false := by simp
    have eq_n : (n == n) = true := by simp
    have ne_k : (k != k) = false := by simp
    have eq_k : (k == k) = true := by simp
    have hn2 : decide (n < 1) = false := decide_eq_false hn1
    have h191 : decide ((190 : Int) < (xs.length : Int)) = true := decide_eq_true (by omega)
    have h192 : ((xs.length : Int) > 190) := by omega
    replace sa := sa.below (al_b _ (.cells #[.bool na, .slice aa xs.length cA] 35))
    replace T := T.below (al_b _ (.cells #[.bool na, .slice aa xs.length cA] 35))
    replace bel := bel_al bel (.cells #[.bool na, .slice aa xs.length cA] 35)
    have Ba := R2.new w1 (.bool na) (.slice aa xs.length cA) 35
    obtain ⟨ka0, ka1, -, -⟩ := id Ba
    go_wp2_with fail
    refine (NI.out _ sa).mono ?_
    rintro r w2 ⟨rfl, hb⟩
    clear ka0 ka1
    replace bel := bel_go bel hb
    replace sa := sa.below hb
    replace T := T.below hb
    replace Ba := Ba.below hb
    clear hb
    obtain ⟨ka0, ka1, -, -⟩ := id Ba
    go_wp2_with fail
    refine (KI.out _ T sa).mono ?_
    rintro r w3 ⟨rfl, hb⟩
    clear ka0 ka1
    replace bel := bel_go bel hb
    replace sa := sa.below hb
    replace T := T.below hb
    replace Ba := Ba.below hb
    clear hb
    obtain ⟨ka0, ka1, -, -⟩ := id Ba
    go_wp2_with fail
    refine (NS.out _ sa).mono ?_
    rintro r w4 ⟨rfl, hb⟩
    clear ka0 ka1
    replace bel := bel_go bel hb
    replace sa := sa.below hb
    replace T := T.below hb
    replace Ba := Ba.below hb
    clear hb
    obtain ⟨ka0, ka1, -, -⟩ := id Ba
    go_wp2_with fail
    refine (KS.out _ sa).mono ?_
    rintro r w5 ⟨rfl, hb⟩
    clear ka0 ka1
    replace bel := bel_go bel hb
    replace sa := sa.below hb
    replace T := T.below hb
    replace Ba := Ba.below hb
    clear hb
    obtain ⟨ka0, ka1, -, -⟩ := id Ba
    go_wp2_with fail
    refine (NS.out _ sa).mono ?_
    rintro r w6 ⟨rfl, hb⟩
    clear ka0 ka1
    replace bel := bel_go bel hb
    replace sa := sa.below hb
    replace T := T.below hb
    replace Ba := Ba.below hb
    clear hb
    obtain ⟨ka0, ka1, -, -⟩ := id Ba
    go_wp2_with fail
    refine (KS.out _ sa).mono ?_
    rintro r w7 ⟨rfl, hb⟩
    clear ka0 ka1
    replace bel := bel_go bel hb
    replace sa := sa.below hb
    replace T := T.below hb
    replace Ba := Ba.below hb
    clear hb
    obtain ⟨ka0, ka1, -, -⟩ := id Ba
    go_wp2
    all_goals go_ret
    all_goals exact ⟨rfl, bel⟩
  · have hok : okB na xs = true := by
      cases h : okB na xs
      · exfalso; apply hn1; unfold blW; rw [h]; simp
      · rfl
    obtain ⟨x, rfl, rfl, hx⟩ := okB_is dx hok
    have hx0 : x ≠ 0 := by
      intro h; apply hn1; rw [blw' x hx, h]; decide
    obtain ⟨n, k, m1, m2, m3, m4, m5, m6, m7, m8, m9, m10, m11⟩ := bl_num hx0 (by omega)
    have en : blW (Nm.wn x) (Nm.wl x) = ((n + 1 : Nat) : Int) := by rw [blw' x hx, m1]
    have ek : lzW (Nm.wn x) (Nm.wl x) = (k : Int) := by rw [lzw' x hx hx0, m2]
    rw [en] at NI NS
    rw [ek] at KI KS
    have l1 : (Nm.wl 1).length ≤ 200 := by decide +kernel
    have b1 : bitLen (1 : Int).natAbs = 1 := by decide +kernel
    have bx := len_bl hx
    have bx2 : bitLen x.natAbs ≤ 6080 := len_bl (k := 190) (by omega)
    have hsh := bl_shl (1 : Int) n
    rw [Int.one_mul] at hsh
    have bh : bitLen (x.tdiv (2 ^ k)).natAbs ≤ 6080 := Nat.le_trans (bl_le2 m9) bx2
    have bo : bitLen ((x.tdiv (2 ^ k)).tdiv 2).natAbs ≤ 6080 := Nat.le_trans (bl_le2 m11) bx2
    have tn : ((n : Nat) : Int).toNat = n := Int.toNat_natCast n
    have tk : ((k : Nat) : Int).toNat = k := Int.toNat_natCast k
    have t1 : (1 : Int).toNat = 1 := rfl
    have p1 : (2 : Int) ^ 1 = 2 := rfl
    have hbk : bitLen (x.tdiv (2 ^ k)).natAbs + k ≤ 6400 := by
      by_cases hz : (x.tdiv (2 ^ k)).natAbs = 0
      · rw [hz, Nm.bl_zero]; omega
      · have h1 := Nm.bl_mul hz k
        have h2 : (x.tdiv (2 ^ k)).natAbs * 2 ^ k = x.natAbs := by
          have := congrArg Int.natAbs m5; rw [Int.natAbs_mul, Int.natAbs_pow] at this; exact this
        rw [h2] at h1; omega
    have OF := hid (fun w' => wof_impl 1 w' (by decide) (by decide))
    have LO := hid (fun a c w' h => up_z 1 (n : Int) a c w' h (by omega) (by rw [tn]; omega))
    have TO := hid (fun a c w' h => up_z (2 ^ n) 1 a c w' h (by decide) (by rw [t1]; omega))
    have HA := hid (fun a c w' h => dn_z x (k : Int) a c w' h (by omega) (by omega) hx)
    have SA := hid (fun a c w' h => up_z (x.tdiv (2 ^ k)) (k : Int) a c w' h (by omega) (by rw [tk]; exact hbk))
    have OD := hid (fun a c w' h => dn_z (x.tdiv (2 ^ k)) 1 a c w' h (by decide) (by decide) (wl_le m9 hx))
    have EV := hid (fun a c w' h => up_z ((x.tdiv (2 ^ k)).tdiv 2) 1 a c w' h (by decide) (by rw [t1]; omega))
    have C1 := hid (fun a b c d w' h h' => magc_p (2 ^ n) x (Int.le_of_lt (Int.pow_pos (by decide))) a b c d w' h h' (fit_k (by omega)) hx)
    have C2 := hid (fun a b c d w' h h' => magc_q x (2 ^ n * 2) (Int.mul_nonneg (Int.le_of_lt (Int.pow_pos (by decide))) (by decide)) a b c d w' h h' hx (fit_k (by have := bl_shl (2 ^ n : Int) 1; rw [p1] at this; omega)))
    rw [tn, Int.one_mul] at LO
    rw [t1, p1] at TO OD EV
    rw [tk] at HA SA
    rw [m5] at SA
    have m6' := hid m6
    have hX190 : (Nm.wl x).length ≤ 190 := by omega
    have hEv : (Nm.wl ((x.tdiv (2 ^ k)).tdiv 2 * 2)).length ≤ 1048576 := by have := wl_le m10 hx; omega
    clear hbk bx bx2 bh bo hsh m1 m2 m5 m6 m9 m10 m11 hx hok h190 hn1 en ek dx b1 l1 tn tk t1 p1 hx0
    have hne : ¬ (Nm.wn ((x.tdiv (2 ^ k)).tdiv 2 * 2) = Nm.wn (x.tdiv (2 ^ k)) ∧ Nm.wl ((x.tdiv (2 ^ k)).tdiv 2 * 2) = Nm.wl (x.tdiv (2 ^ k))) := fun ⟨h1, h2⟩ => m6'.out (by
      have e : Nm.wv (Nm.wn ((x.tdiv (2 ^ k)).tdiv 2 * 2)) (Nm.wl ((x.tdiv (2 ^ k)).tdiv 2 * 2)) = Nm.wv (Nm.wn (x.tdiv (2 ^ k))) (Nm.wl (x.tdiv (2 ^ k))) := by rw [h1, h2]
      rwa [Nm.wv_out, Nm.wv_out] at e)
    clear m6'
    have k1 := m7
    have k2 := m8
    clear m7 m8
    obtain ⟨c1, h_c1⟩ : ∃ q, q = cmpI ((2 ^ n : Int).natAbs : Nat) (x.natAbs : Nat) := ⟨_, rfl⟩
    rw [← h_c1] at C1 k1
    rw [k2] at C2
    clear h_c1 k2
    obtain ⟨gx, h_gx⟩ : ∃ q, q = Nm.wn x := ⟨_, rfl⟩
    obtain ⟨X, h_X⟩ : ∃ q, q = Nm.wl x := ⟨_, rfl⟩
    obtain ⟨g1, h_g1⟩ : ∃ q, q = Nm.wn 1 := ⟨_, rfl⟩
    obtain ⟨L1, h_L1⟩ : ∃ q, q = Nm.wl 1 := ⟨_, rfl⟩
    obtain ⟨gl, h_gl⟩ : ∃ q, q = Nm.wn (2 ^ n) := ⟨_, rfl⟩
    obtain ⟨Lo, h_Lo⟩ : ∃ q, q = Nm.wl (2 ^ n) := ⟨_, rfl⟩
    obtain ⟨gt, h_gt⟩ : ∃ q, q = Nm.wn (2 ^ n * 2) := ⟨_, rfl⟩
    obtain ⟨To, h_To⟩ : ∃ q, q = Nm.wl (2 ^ n * 2) := ⟨_, rfl⟩
    obtain ⟨gh, h_gh⟩ : ∃ q, q = Nm.wn (x.tdiv (2 ^ k)) := ⟨_, rfl⟩
    obtain ⟨Ha, h_Ha⟩ : ∃ q, q = Nm.wl (x.tdiv (2 ^ k)) := ⟨_, rfl⟩
    obtain ⟨go, h_go⟩ : ∃ q, q = Nm.wn ((x.tdiv (2 ^ k)).tdiv 2) := ⟨_, rfl⟩
    obtain ⟨Od, h_Od⟩ : ∃ q, q = Nm.wl ((x.tdiv (2 ^ k)).tdiv 2) := ⟨_, rfl⟩
    obtain ⟨ge, h_ge⟩ : ∃ q, q = Nm.wn ((x.tdiv (2 ^ k)).tdiv 2 * 2) := ⟨_, rfl⟩
    obtain ⟨Ev, h_Ev⟩ : ∃ q, q = Nm.wl ((x.tdiv (2 ^ k)).tdiv 2 * 2) := ⟨_, rfl⟩
    rw [← h_gx, ← h_X] at NI NS KI KS HA SA ⊢
    rw [← h_g1, ← h_L1] at OF LO
    rw [← h_gl, ← h_Lo] at LO TO
    rw [← h_gt, ← h_To] at TO
    rw [← h_gh, ← h_Ha] at HA SA OD hne
    rw [← h_go, ← h_Od] at OD EV
    rw [← h_ge, ← h_Ev] at EV hne
    rw [← h_Ev] at hEv
    rw [← h_gl, ← h_Lo, ← h_X] at C1
    rw [← h_X, ← h_gt, ← h_To] at C2
    rw [← h_X] at sa
    rw [← h_X] at lx hX190
    clear h_gx h_X h_g1 h_L1 h_gl h_Lo h_gt h_To h_gh h_Ha h_go h_Od h_ge h_Ev
    have hW1 : IntKind.i64.wrap (((n + 1 : Nat) : Int) - 1) = (n : Int) := by rw [IntKind.wrap_i64]; omega
    have hW2 : wrap64 (((n + 1 : Nat) : Int) - 1) = (n : Int) := by unfold wrap64; omega
    have hW3 : IntKind.i64.wrap (-(k : Int)) = -(k : Int) := by rw [IntKind.wrap_i64]; omega
    have hW4 : wrap64 (-(k : Int)) = -(k : Int) := by unfold wrap64; omega
    have hlen : X.length ≤ 190 := hX190
    have h191 : decide ((190 : Int) < (X.length : Int)) = false := decide_eq_false (by omega)
    have h192 : ¬ ((X.length : Int) > 190) := by omega
    have hn2 : decide (((n + 1 : Nat) : Int) < 1) = false := decide_eq_false (by omega)
    have hn3 : ¬ ((n + 1 : Nat) : Int) < 1 := by omega
    have k1' : decide (c1 ≤ 0) = true := decide_eq_true k1
    obtain ⟨n1, h_n1⟩ : ∃ q, q = ((n + 1 : Nat) : Int) := ⟨_, rfl⟩
    obtain ⟨ki, h_ki⟩ : ∃ q, q = (k : Int) := ⟨_, rfl⟩
    have e1 : (n : Int) = n1 - 1 := by omega
    rw [← h_n1, e1] at hW1 hW2
    rw [← h_n1] at NI NS hn2 hn3
    rw [e1] at LO
    rw [← h_ki] at KI KS hW3 hW4 HA SA
    clear h_n1 h_ki m3 m4 e1
    have ne_n1 : (n1 != n1) = false := by simp
    have eq_n1 : (n1 == n1) = true := by simp
    have ne_ki : (ki != ki) = false := by simp
    have eq_ki : (ki == ki) = true := by simp
    replace sa := sa.below (al_b _ (.cells #[.bool gx, .slice aa X.length cA] 35))
    replace T := T.below (al_b _ (.cells #[.bool gx, .slice aa X.length cA] 35))
    replace bel := bel_al bel (.cells #[.bool gx, .slice aa X.length cA] 35)
    have Ba := R2.new w1 (.bool gx) (.slice aa X.length cA) 35
    obtain ⟨ka0, ka1, -, -⟩ := id Ba
    go_wp2_with fail
    refine (NI.out _ sa).mono ?_
    rintro r w2 ⟨rfl, hb⟩
    clear ka0 ka1
    replace bel := bel_go bel hb
    replace sa := sa.below hb
    replace T := T.below hb
    replace Ba := Ba.below hb
    clear hb
    obtain ⟨ka0, ka1, -, -⟩ := id Ba
    go_wp2_with fail
    refine (KI.out _ T sa).mono ?_
    rintro r w3 ⟨rfl, hb⟩
    clear ka0 ka1
    replace bel := bel_go bel hb
    replace sa := sa.below hb
    replace T := T.below hb
    replace Ba := Ba.below hb
    clear hb
    obtain ⟨ka0, ka1, -, -⟩ := id Ba
    go_wp2_with fail
    refine (NS.out _ sa).mono ?_
    rintro r w4 ⟨rfl, hb⟩
    clear ka0 ka1
    replace bel := bel_go bel hb
    replace sa := sa.below hb
    replace T := T.below hb
    replace Ba := Ba.below hb
    clear hb
    obtain ⟨ka0, ka1, -, -⟩ := id Ba
    go_wp2_with fail
    refine (KS.out _ sa).mono ?_
    rintro r w5 ⟨rfl, hb⟩
    clear ka0 ka1
    replace bel := bel_go bel hb
    replace sa := sa.below hb
    replace T := T.below hb
    replace Ba := Ba.below hb
    clear hb
    obtain ⟨ka0, ka1, -, -⟩ := id Ba
    go_wp2_with fail
    refine (OF.out _).mono ?_
    rintro r w6 ⟨ai, ci, rfl, oi, hb⟩
    clear ka0 ka1
    replace bel := bel_go bel hb
    replace sa := sa.below hb
    replace T := T.below hb
    replace Ba := Ba.below hb
    clear hb
    have si := oi.sl
    clear oi
    obtain ⟨ka0, ka1, -, -⟩ := id Ba
    go_wp2_with fail
    refine (LO.out ai ci _ si).mono ?_
    rintro r w7 ⟨al, cl, rfl, ol, hb⟩
    clear ka0 ka1
    replace bel := bel_go bel hb
    replace sa := sa.below hb
    replace T := T.below hb
    replace Ba := Ba.below hb
    replace si := si.below hb
    clear hb
    have sl := ol.sl
    clear ol
    replace sa := sa.below (al_b _ (.cells #[.bool gl, .slice al Lo.length cl] 35))
    replace T := T.below (al_b _ (.cells #[.bool gl, .slice al Lo.length cl] 35))
    replace Ba := Ba.below (al_b _ (.cells #[.bool gl, .slice al Lo.length cl] 35))
    replace si := si.below (al_b _ (.cells #[.bool gl, .slice al Lo.length cl] 35))
    replace sl := sl.below (al_b _ (.cells #[.bool gl, .slice al Lo.length cl] 35))
    replace bel := bel_al bel (.cells #[.bool gl, .slice al Lo.length cl] 35)
    have Bl := R2.new w7 (.bool gl) (.slice al Lo.length cl) 35
    obtain ⟨ka0, ka1, -, -⟩ := id Ba
    obtain ⟨kl0, kl1, -, -⟩ := id Bl
    go_wp2_with fail
    refine (TO.out al cl _ sl).mono ?_
    rintro r w8 ⟨aT, ct, rfl, ot, hb⟩
    clear ka0 ka1 kl0 kl1
    replace bel := bel_go bel hb
    replace sa := sa.below hb
    replace T := T.below hb
    replace Ba := Ba.below hb
    replace si := si.below hb
    replace sl := sl.below hb
    replace Bl := Bl.below hb
    clear hb
    have st := ot.sl
    clear ot
    replace sa := sa.below (al_b _ (.cells #[.bool gt, .slice aT To.length ct] 35))
    replace T := T.below (al_b _ (.cells #[.bool gt, .slice aT To.length ct] 35))
    replace Ba := Ba.below (al_b _ (.cells #[.bool gt, .slice aT To.length ct] 35))
    replace si := si.below (al_b _ (.cells #[.bool gt, .slice aT To.length ct] 35))
    replace sl := sl.below (al_b _ (.cells #[.bool gt, .slice aT To.length ct] 35))
    replace Bl := Bl.below (al_b _ (.cells #[.bool gt, .slice aT To.length ct] 35))
    replace st := st.below (al_b _ (.cells #[.bool gt, .slice aT To.length ct] 35))
    replace bel := bel_al bel (.cells #[.bool gt, .slice aT To.length ct] 35)
    have Bt := R2.new w8 (.bool gt) (.slice aT To.length ct) 35
    obtain ⟨ka0, ka1, -, -⟩ := id Ba
    obtain ⟨kl0, kl1, -, -⟩ := id Bl
    obtain ⟨kt0, kt1, -, -⟩ := id Bt
    go_wp2_with fail
    refine (HA.out aa cA _ sa).mono ?_
    rintro r w9 ⟨ah, ch, rfl, oh, hb⟩
    clear ka0 ka1 kl0 kl1 kt0 kt1
    replace bel := bel_go bel hb
    replace sa := sa.below hb
    replace T := T.below hb
    replace Ba := Ba.below hb
    replace si := si.below hb
    replace sl := sl.below hb
    replace Bl := Bl.below hb
    replace st := st.below hb
    replace Bt := Bt.below hb
    clear hb
    have sh := oh.sl
    clear oh
    replace sa := sa.below (al_b _ (.cells #[.bool gh, .slice ah Ha.length ch] 35))
    replace T := T.below (al_b _ (.cells #[.bool gh, .slice ah Ha.length ch] 35))
    replace Ba := Ba.below (al_b _ (.cells #[.bool gh, .slice ah Ha.length ch] 35))
    replace si := si.below (al_b _ (.cells #[.bool gh, .slice ah Ha.length ch] 35))
    replace sl := sl.below (al_b _ (.cells #[.bool gh, .slice ah Ha.length ch] 35))
    replace Bl := Bl.below (al_b _ (.cells #[.bool gh, .slice ah Ha.length ch] 35))
    replace st := st.below (al_b _ (.cells #[.bool gh, .slice ah Ha.length ch] 35))
    replace Bt := Bt.below (al_b _ (.cells #[.bool gh, .slice ah Ha.length ch] 35))
    replace sh := sh.below (al_b _ (.cells #[.bool gh, .slice ah Ha.length ch] 35))
    replace bel := bel_al bel (.cells #[.bool gh, .slice ah Ha.length ch] 35)
    have Bh := R2.new w9 (.bool gh) (.slice ah Ha.length ch) 35
    obtain ⟨ka0, ka1, -, -⟩ := id Ba
    obtain ⟨kl0, kl1, -, -⟩ := id Bl
    obtain ⟨kt0, kt1, -, -⟩ := id Bt
    obtain ⟨kh0, kh1, -, -⟩ := id Bh
    go_wp2_with fail
    refine (SA.out ah ch _ sh).mono ?_
    rintro r w10 ⟨aS, cS, rfl, os, hb⟩
    clear ka0 ka1 kl0 kl1 kt0 kt1 kh0 kh1
    replace bel := bel_go bel hb
    replace sa := sa.below hb
    replace T := T.below hb
    replace Ba := Ba.below hb
    replace si := si.below hb
    replace sl := sl.below hb
    replace Bl := Bl.below hb
    replace st := st.below hb
    replace Bt := Bt.below hb
    replace sh := sh.below hb
    replace Bh := Bh.below hb
    clear hb
    have ss := os.sl
    clear os
    replace sa := sa.below (al_b _ (.cells #[.bool gx, .slice aS X.length cS] 35))
    replace T := T.below (al_b _ (.cells #[.bool gx, .slice aS X.length cS] 35))
    replace Ba := Ba.below (al_b _ (.cells #[.bool gx, .slice aS X.length cS] 35))
    replace si := si.below (al_b _ (.cells #[.bool gx, .slice aS X.length cS] 35))
    replace sl := sl.below (al_b _ (.cells #[.bool gx, .slice aS X.length cS] 35))
    replace Bl := Bl.below (al_b _ (.cells #[.bool gx, .slice aS X.length cS] 35))
    replace st := st.below (al_b _ (.cells #[.bool gx, .slice aS X.length cS] 35))
    replace Bt := Bt.below (al_b _ (.cells #[.bool gx, .slice aS X.length cS] 35))
    replace sh := sh.below (al_b _ (.cells #[.bool gx, .slice aS X.length cS] 35))
    replace Bh := Bh.below (al_b _ (.cells #[.bool gx, .slice aS X.length cS] 35))
    replace ss := ss.below (al_b _ (.cells #[.bool gx, .slice aS X.length cS] 35))
    replace bel := bel_al bel (.cells #[.bool gx, .slice aS X.length cS] 35)
    have Bs := R2.new w10 (.bool gx) (.slice aS X.length cS) 35
    obtain ⟨ka0, ka1, -, -⟩ := id Ba
    obtain ⟨kl0, kl1, -, -⟩ := id Bl
    obtain ⟨kt0, kt1, -, -⟩ := id Bt
    obtain ⟨kh0, kh1, -, -⟩ := id Bh
    obtain ⟨ks0, ks1, -, -⟩ := id Bs
    go_wp2_with fail
    refine (OD.out ah ch _ sh).mono ?_
    rintro r w11 ⟨ao, co, rfl, oo, hb⟩
    clear ka0 ka1 kl0 kl1 kt0 kt1 kh0 kh1 ks0 ks1
    replace bel := bel_go bel hb
    replace sa := sa.below hb
    replace T := T.below hb
    replace Ba := Ba.below hb
    replace si := si.below hb
    replace sl := sl.below hb
    replace Bl := Bl.below hb
    replace st := st.below hb
    replace Bt := Bt.below hb
    replace sh := sh.below hb
    replace Bh := Bh.below hb
    replace ss := ss.below hb
    replace Bs := Bs.below hb
    clear hb
    have so := oo.sl
    clear oo
    replace sa := sa.below (al_b _ (.cells #[.bool go, .slice ao Od.length co] 35))
    replace T := T.below (al_b _ (.cells #[.bool go, .slice ao Od.length co] 35))
    replace Ba := Ba.below (al_b _ (.cells #[.bool go, .slice ao Od.length co] 35))
    replace si := si.below (al_b _ (.cells #[.bool go, .slice ao Od.length co] 35))
    replace sl := sl.below (al_b _ (.cells #[.bool go, .slice ao Od.length co] 35))
    replace Bl := Bl.below (al_b _ (.cells #[.bool go, .slice ao Od.length co] 35))
    replace st := st.below (al_b _ (.cells #[.bool go, .slice ao Od.length co] 35))
    replace Bt := Bt.below (al_b _ (.cells #[.bool go, .slice ao Od.length co] 35))
    replace sh := sh.below (al_b _ (.cells #[.bool go, .slice ao Od.length co] 35))
    replace Bh := Bh.below (al_b _ (.cells #[.bool go, .slice ao Od.length co] 35))
    replace ss := ss.below (al_b _ (.cells #[.bool go, .slice ao Od.length co] 35))
    replace Bs := Bs.below (al_b _ (.cells #[.bool go, .slice ao Od.length co] 35))
    replace so := so.below (al_b _ (.cells #[.bool go, .slice ao Od.length co] 35))
    replace bel := bel_al bel (.cells #[.bool go, .slice ao Od.length co] 35)
    have Bo := R2.new w11 (.bool go) (.slice ao Od.length co) 35
    obtain ⟨ka0, ka1, -, -⟩ := id Ba
    obtain ⟨kl0, kl1, -, -⟩ := id Bl
    obtain ⟨kt0, kt1, -, -⟩ := id Bt
    obtain ⟨kh0, kh1, -, -⟩ := id Bh
    obtain ⟨ks0, ks1, -, -⟩ := id Bs
    obtain ⟨ko0, ko1, -, -⟩ := id Bo
    go_wp2_with fail
    refine (EV.out ao co _ so).mono ?_
    rintro r w12 ⟨ae, ce, rfl, oe, hb⟩
    clear ka0 ka1 kl0 kl1 kt0 kt1 kh0 kh1 ks0 ks1 ko0 ko1
    replace bel := bel_go bel hb
    replace sa := sa.below hb
    replace T := T.below hb
    replace Ba := Ba.below hb
    replace si := si.below hb
    replace sl := sl.below hb
    replace Bl := Bl.below hb
    replace st := st.below hb
    replace Bt := Bt.below hb
    replace sh := sh.below hb
    replace Bh := Bh.below hb
    replace ss := ss.below hb
    replace Bs := Bs.below hb
    replace so := so.below hb
    replace Bo := Bo.below hb
    clear hb
    have se := oe.sl
    clear oe
    replace sa := sa.below (al_b _ (.cells #[.bool ge, .slice ae Ev.length ce] 35))
    replace T := T.below (al_b _ (.cells #[.bool ge, .slice ae Ev.length ce] 35))
    replace Ba := Ba.below (al_b _ (.cells #[.bool ge, .slice ae Ev.length ce] 35))
    replace si := si.below (al_b _ (.cells #[.bool ge, .slice ae Ev.length ce] 35))
    replace sl := sl.below (al_b _ (.cells #[.bool ge, .slice ae Ev.length ce] 35))
    replace Bl := Bl.below (al_b _ (.cells #[.bool ge, .slice ae Ev.length ce] 35))
    replace st := st.below (al_b _ (.cells #[.bool ge, .slice ae Ev.length ce] 35))
    replace Bt := Bt.below (al_b _ (.cells #[.bool ge, .slice ae Ev.length ce] 35))
    replace sh := sh.below (al_b _ (.cells #[.bool ge, .slice ae Ev.length ce] 35))
    replace Bh := Bh.below (al_b _ (.cells #[.bool ge, .slice ae Ev.length ce] 35))
    replace ss := ss.below (al_b _ (.cells #[.bool ge, .slice ae Ev.length ce] 35))
    replace Bs := Bs.below (al_b _ (.cells #[.bool ge, .slice ae Ev.length ce] 35))
    replace so := so.below (al_b _ (.cells #[.bool ge, .slice ae Ev.length ce] 35))
    replace Bo := Bo.below (al_b _ (.cells #[.bool ge, .slice ae Ev.length ce] 35))
    replace se := se.below (al_b _ (.cells #[.bool ge, .slice ae Ev.length ce] 35))
    replace bel := bel_al bel (.cells #[.bool ge, .slice ae Ev.length ce] 35)
    have Be := R2.new w12 (.bool ge) (.slice ae Ev.length ce) 35
    clear Bo
    clear so
    clear si
    go_upto_region 14 with fail
    generalize (w12.alloc (.cells #[.bool ge, .slice ae Ev.length ce] 35)) = W at bel sa T Ba sl Bl st Bt sh Bh ss Bs se Be ⊢
    have belR := Below.drew (Below.refl W.heap.size W)
    refine wp_region_held_drew (S := fun w' => (w'.cell? ⟨w1.heap.size, 0, none⟩ = some (.bool gx) ∧ w'.cell? ⟨w1.heap.size, 1, none⟩ = some (.slice aa X.length cA)) ∧ (w'.cell? ⟨w7.heap.size, 0, none⟩ = some (.bool gl) ∧ w'.cell? ⟨w7.heap.size, 1, none⟩ = some (.slice al Lo.length cl)) ∧ (w'.cell? ⟨w8.heap.size, 0, none⟩ = some (.bool gt) ∧ w'.cell? ⟨w8.heap.size, 1, none⟩ = some (.slice aT To.length ct)) ∧ (w'.cell? ⟨w9.heap.size, 0, none⟩ = some (.bool gh) ∧ w'.cell? ⟨w9.heap.size, 1, none⟩ = some (.slice ah Ha.length ch)) ∧ (w'.cell? ⟨w10.heap.size, 0, none⟩ = some (.bool gx) ∧ w'.cell? ⟨w10.heap.size, 1, none⟩ = some (.slice aS X.length cS)) ∧ (w'.cell? ⟨w12.heap.size, 0, none⟩ = some (.bool ge) ∧ w'.cell? ⟨w12.heap.size, 1, none⟩ = some (.slice ae Ev.length ce))) (by kernel_rfl) ?_ (fun hHeld => ?_)
    · exact ⟨⟨(Ba).c0, (Ba).c1⟩, ⟨(Bl).c0, (Bl).c1⟩, ⟨(Bt).c0, (Bt).c1⟩, ⟨(Bh).c0, (Bh).c1⟩, ⟨(Bs).c0, (Bs).c1⟩, ⟨(Be).c0, (Be).c1⟩⟩
    generalize W.drew = v0 at belR hHeld ⊢
    refine tk 0 ?_ rfl (Or.inl ⟨by rfl, ?_⟩) ?_
    rotate_left
    · (intro w hSw; go_simp; try (with_reducible rfl))
    try simp only [Act.put, Ls]
    refine tk 1 ?_ rfl (Or.inl ⟨by rfl, ?_⟩) ?_
    rotate_left
    · (intro w hSw; go_simp; try (with_reducible rfl))
    try simp only [Act.put, Ls]
    refine tk 2 ?_ rfl (Or.inl ⟨by rfl, ?_⟩) ?_
    rotate_left
    · (intro w hSw; go_simp; try (with_reducible rfl))
    try simp only [Act.put, Ls]
    refine tk 3 ?_ rfl (Or.inl ⟨by rfl, ?_⟩) ?_
    rotate_left
    · (intro w hSw; go_simp; try (with_reducible rfl))
    try simp only [Act.put, Ls]
    refine tk 4 ?_ rfl (Or.inl ⟨by rfl, ?_⟩) ?_
    rotate_left
    · (intro w hSw; go_simp; try (with_reducible rfl))
    try simp only [Act.put, Ls]
    refine tk 5 ?_ rfl (Or.inl ⟨by rfl, ?_⟩) ?_
    rotate_left
    · (intro w hSw; go_simp; try (with_reducible rfl))
    try simp only [Act.put, Ls]
    refine tk 6 ?_ rfl (Or.inl ⟨by rfl, ?_⟩) ?_
    rotate_left
    · (intro w hSw; go_simp; try (with_reducible rfl))
    try simp only [Act.put, Ls]
    refine tk 7 ?_ rfl (Or.inl ⟨by rfl, ?_⟩) ?_
    rotate_left
    · (intro w hSw; go_simp; try (with_reducible rfl))
    try simp only [Act.put, Ls]
    refine tk 8 ?_ rfl (Or.inl ⟨by rfl, ?_⟩) ?_
    rotate_left
    · (intro w hSw; go_simp; try (with_reducible rfl))
    try simp only [Act.put, Ls]
    refine tk 9 ?_ rfl (Or.inl ⟨by rfl, ?_⟩) ?_
    rotate_left
    · (intro w hSw; go_simp; try (with_reducible rfl))
    try simp only [Act.put, Ls]
    refine tk 10 ?_ rfl (Or.inl ⟨by rfl, ?_⟩) ?_
    rotate_left
    · (intro w hSw; go_simp; try (with_reducible rfl))
    try simp only [Act.put, Ls]
    refine tk 11 ?_ rfl (Or.inl ⟨by rfl, ?_⟩) ?_
    rotate_left
    · (intro w hSw; go_simp; try (with_reducible rfl))
    try simp only [Act.put, Ls]
    refine tk 12 ?_ rfl (Or.inl ⟨by rfl, ?_⟩) ?_
    rotate_left
    · (intro w hSw; go_simp; try (with_reducible rfl))
    try simp only [Act.put, Ls]
    refine tk 13 ?_ rfl (Or.inl ⟨by rfl, ?_⟩) ?_
    rotate_left
    · (intro w hSw; go_simp; try (with_reducible rfl))
    try simp only [Act.put, Ls]
    refine tk 14 ?_ rfl (Or.inl ⟨by rfl, ?_⟩) ?_
    rotate_left
    · (intro w hSw; go_simp; try (with_reducible rfl))
    try simp only [Act.put, Ls]
    refine tk 15 ?_ rfl (Or.inl ⟨by rfl, ?_⟩) ?_
    rotate_left
    · (intro w hSw; go_simp; try (with_reducible rfl))
    try simp only [Act.put, Ls]
    refine tk 16 ?_ rfl (Or.inl ⟨by rfl, ?_⟩) ?_
    rotate_left
    · (intro w hSw; go_simp; try (with_reducible rfl))
    try simp only [Act.put, Ls]
    refine tk 17 ?_ rfl (Or.inl ⟨by rfl, ?_⟩) ?_
    rotate_left
    · (intro w hSw; (try dsimp only at hSw); obtain ⟨⟨hS0, hS1⟩, ⟨hS2, hS3⟩, ⟨hS4, hS5⟩, ⟨hS6, hS7⟩, ⟨hS8, hS9⟩, ⟨hS10, hS11⟩⟩ := hSw; go_simp; try (with_reducible rfl))
    try simp only [Act.put, Ls]
    refine tk 18 ?_ rfl (Or.inl ⟨by rfl, ?_⟩) ?_
    rotate_left
    · (intro w hSw; (try dsimp only at hSw); obtain ⟨⟨hS0, hS1⟩, ⟨hS2, hS3⟩, ⟨hS4, hS5⟩, ⟨hS6, hS7⟩, ⟨hS8, hS9⟩, ⟨hS10, hS11⟩⟩ := hSw; go_simp; try (with_reducible rfl))
    try simp only [Act.put, Ls]
    refine rdy 19 rfl (fun K hK => ?_)
    go_simp
    go_at_call 18
    refine (mag_v gx aa X.length cA _).mono ?_
    rintro r v1 ⟨rfl, hb'⟩
    have hz' := belR.size
    replace belR := bel_go belR hb'
    clear hb' hz'
    refine hK.out _ _ ?_ (fun hHeld => ?_)
    · exact ⟨⟨(Ba.below belR).c0, (Ba.below belR).c1⟩, ⟨(Bl.below belR).c0, (Bl.below belR).c1⟩, ⟨(Bt.below belR).c0, (Bt.below belR).c1⟩, ⟨(Bh.below belR).c0, (Bh.below belR).c1⟩, ⟨(Bs.below belR).c0, (Bs.below belR).c1⟩, ⟨(Be.below belR).c0, (Be.below belR).c1⟩⟩
    clear hK K
    try simp only [Act.put, Ls]
    refine rdy 20 rfl (fun K hK => ?_)
    go_simp
    go_at_call 37
    refine (C1.out al aa cl cA _ (sl.below belR) (sa.below belR)).mono ?_
    rintro r v2 ⟨rfl, hb'⟩
    have hz' := belR.size
    replace belR := bel_go belR hb'
    clear hb' hz'
    refine hK.out _ _ ?_ (fun hHeld => ?_)
    · exact ⟨⟨(Ba.below belR).c0, (Ba.below belR).c1⟩, ⟨(Bl.below belR).c0, (Bl.below belR).c1⟩, ⟨(Bt.below belR).c0, (Bt.below belR).c1⟩, ⟨(Bh.below belR).c0, (Bh.below belR).c1⟩, ⟨(Bs.below belR).c0, (Bs.below belR).c1⟩, ⟨(Be.below belR).c0, (Be.below belR).c1⟩⟩
    clear hK K
    try simp only [Act.put, Ls]
    refine tk 21 ?_ rfl (Or.inl ⟨by rfl, ?_⟩) ?_
    rotate_left
    · (intro w hSw; go_simp; try (with_reducible rfl))
    try simp only [Act.put, Ls]
    try rw [k1']
    refine tk 22 ?_ rfl (Or.inl ⟨by rfl, ?_⟩) ?_
    rotate_left
    · (intro w hSw; go_simp; try (with_reducible rfl))
    try simp only [Act.put, Ls]
    refine tk 23 ?_ rfl (Or.inl ⟨by rfl, ?_⟩) ?_
    rotate_left
    · (intro w hSw; go_simp; try (with_reducible rfl))
    try simp only [Act.put, Ls]
    refine tk 24 ?_ rfl (Or.inl ⟨by rfl, ?_⟩) ?_
    rotate_left
    · (intro w hSw; (try dsimp only at hSw); obtain ⟨⟨hS0, hS1⟩, ⟨hS2, hS3⟩, ⟨hS4, hS5⟩, ⟨hS6, hS7⟩, ⟨hS8, hS9⟩, ⟨hS10, hS11⟩⟩ := hSw; go_simp; try (with_reducible rfl))
    try simp only [Act.put, Ls]
    refine tk 26 ?_ rfl (Or.inl ⟨by rfl, ?_⟩) ?_
    rotate_left
    · (intro w hSw; (try dsimp only at hSw); obtain ⟨⟨hS0, hS1⟩, ⟨hS2, hS3⟩, ⟨hS4, hS5⟩, ⟨hS6, hS7⟩, ⟨hS8, hS9⟩, ⟨hS10, hS11⟩⟩ := hSw; go_simp; try (with_reducible rfl))
    try simp only [Act.put, Ls]
    refine rdy 25 rfl (fun K hK => ?_)
    go_simp
    go_at_call 18
    refine (mag_v gx aa X.length cA _).mono ?_
    rintro r v3 ⟨rfl, hb'⟩
    have hz' := belR.size
    replace belR := bel_go belR hb'
    clear hb' hz'
    refine hK.out _ _ ?_ (fun hHeld => ?_)
    · exact ⟨⟨(Ba.below belR).c0, (Ba.below belR).c1⟩, ⟨(Bl.below belR).c0, (Bl.below belR).c1⟩, ⟨(Bt.below belR).c0, (Bt.below belR).c1⟩, ⟨(Bh.below belR).c0, (Bh.below belR).c1⟩, ⟨(Bs.below belR).c0, (Bs.below belR).c1⟩, ⟨(Be.below belR).c0, (Be.below belR).c1⟩⟩
    clear hK K
    try simp only [Act.put, Ls]
    refine rdy 27 rfl (fun K hK => ?_)
    go_simp
    go_at_call 37
    refine (C2.out aa aT cA ct _ (sa.below belR) (st.below belR)).mono ?_
    rintro r v4 ⟨rfl, hb'⟩
    have hz' := belR.size
    replace belR := bel_go belR hb'
    clear hb' hz'
    refine hK.out _ _ ?_ (fun hHeld => ?_)
    · exact ⟨⟨(Ba.below belR).c0, (Ba.below belR).c1⟩, ⟨(Bl.below belR).c0, (Bl.below belR).c1⟩, ⟨(Bt.below belR).c0, (Bt.below belR).c1⟩, ⟨(Bh.below belR).c0, (Bh.below belR).c1⟩, ⟨(Bs.below belR).c0, (Bs.below belR).c1⟩, ⟨(Be.below belR).c0, (Be.below belR).c1⟩⟩
    clear hK K
    try simp only [Act.put, Ls]
    refine tk 28 ?_ rfl (Or.inl ⟨by rfl, ?_⟩) ?_
    rotate_left
    · (intro w hSw; go_simp; try (with_reducible rfl))
    try simp only [Act.put, Ls]
    refine tk 29 ?_ rfl (Or.inl ⟨by rfl, ?_⟩) ?_
    rotate_left
    · (intro w hSw; go_simp; try (with_reducible rfl))
    try simp only [Act.put, Ls]
    refine tk 30 ?_ rfl (Or.inl ⟨by rfl, ?_⟩) ?_
    rotate_left
    · (intro w hSw; go_simp; try (with_reducible rfl))
    try simp only [Act.put, Ls]
    refine tk 31 ?_ rfl (Or.inl ⟨by rfl, ?_⟩) ?_
    rotate_left
    · (intro w hSw; (try dsimp only at hSw); obtain ⟨⟨hS0, hS1⟩, ⟨hS2, hS3⟩, ⟨hS4, hS5⟩, ⟨hS6, hS7⟩, ⟨hS8, hS9⟩, ⟨hS10, hS11⟩⟩ := hSw; go_simp; try (with_reducible rfl))
    try simp only [Act.put, Ls]
    refine tk 32 ?_ rfl (Or.inl ⟨by rfl, ?_⟩) ?_
    rotate_left
    · (intro w hSw; (try dsimp only at hSw); obtain ⟨⟨hS0, hS1⟩, ⟨hS2, hS3⟩, ⟨hS4, hS5⟩, ⟨hS6, hS7⟩, ⟨hS8, hS9⟩, ⟨hS10, hS11⟩⟩ := hSw; go_simp; try (with_reducible rfl))
    try simp only [Act.put, Ls]
    refine rdy 33 rfl (fun K hK => ?_)
    go_simp
    go_at_call 17
    refine (same_yes gx aS aa cS cA X _ (ss.below belR) (sa.below belR) (by omega)).mono ?_
    rintro r v5 ⟨rfl, hb'⟩
    have hz' := belR.size
    replace belR := bel_go belR hb'
    clear hb' hz'
    refine hK.out _ _ ?_ (fun hHeld => ?_)
    · exact ⟨⟨(Ba.below belR).c0, (Ba.below belR).c1⟩, ⟨(Bl.below belR).c0, (Bl.below belR).c1⟩, ⟨(Bt.below belR).c0, (Bt.below belR).c1⟩, ⟨(Bh.below belR).c0, (Bh.below belR).c1⟩, ⟨(Bs.below belR).c0, (Bs.below belR).c1⟩, ⟨(Be.below belR).c0, (Be.below belR).c1⟩⟩
    clear hK K
    try simp only [Act.put, Ls]
    refine tk 34 ?_ rfl (Or.inl ⟨by rfl, ?_⟩) ?_
    rotate_left
    · (intro w hSw; go_simp; try (with_reducible rfl))
    try simp only [Act.put, Ls]
    refine tk 35 ?_ rfl (Or.inl ⟨by rfl, ?_⟩) ?_
    rotate_left
    · (intro w hSw; go_simp; try (with_reducible rfl))
    try simp only [Act.put, Ls]
    refine tk 36 ?_ rfl (Or.inl ⟨by rfl, ?_⟩) ?_
    rotate_left
    · (intro w hSw; (try dsimp only at hSw); obtain ⟨⟨hS0, hS1⟩, ⟨hS2, hS3⟩, ⟨hS4, hS5⟩, ⟨hS6, hS7⟩, ⟨hS8, hS9⟩, ⟨hS10, hS11⟩⟩ := hSw; go_simp; try (with_reducible rfl))
    try simp only [Act.put, Ls]
    refine tk 37 ?_ rfl (Or.inl ⟨by rfl, ?_⟩) ?_
    rotate_left
    · (intro w hSw; (try dsimp only at hSw); obtain ⟨⟨hS0, hS1⟩, ⟨hS2, hS3⟩, ⟨hS4, hS5⟩, ⟨hS6, hS7⟩, ⟨hS8, hS9⟩, ⟨hS10, hS11⟩⟩ := hSw; go_simp; try (with_reducible rfl))
    try simp only [Act.put, Ls]
    refine rdy 38 rfl (fun K hK => ?_)
    go_simp
    go_at_call 17
    refine (same_no ge gh ae ah ce ch Ev Ha _ (se.below belR) (sh.below belR) hEv hne).mono ?_
    rintro r v6 ⟨rfl, hb'⟩
    have hz' := belR.size
    replace belR := bel_go belR hb'
    clear hb' hz'
    refine hK.out _ _ ?_ (fun hHeld => ?_)
    · exact ⟨⟨(Ba.below belR).c0, (Ba.below belR).c1⟩, ⟨(Bl.below belR).c0, (Bl.below belR).c1⟩, ⟨(Bt.below belR).c0, (Bt.below belR).c1⟩, ⟨(Bh.below belR).c0, (Bh.below belR).c1⟩, ⟨(Bs.below belR).c0, (Bs.below belR).c1⟩, ⟨(Be.below belR).c0, (Be.below belR).c1⟩⟩
    clear hK K
    try simp only [Act.put, Ls]
    refine tk 39 ?_ rfl (Or.inl ⟨by rfl, ?_⟩) ?_
    rotate_left
    · (intro w hSw; go_simp; try (with_reducible rfl))
    try simp only [Act.put, Ls]
    refine tk 40 ?_ rfl (Or.inl ⟨by rfl, ?_⟩) ?_
    rotate_left
    · (intro w hSw; go_simp; try (with_reducible rfl))
    try simp only [Act.put, Ls]
    refine rdy 41 rfl (fun K hK => ?_)
    go_simp
    refine hK.out _ _ ?_ (fun hHeld => ?_)
    · exact ⟨⟨(Ba.below belR).c0, (Ba.below belR).c1⟩, ⟨(Bl.below belR).c0, (Bl.below belR).c1⟩, ⟨(Bt.below belR).c0, (Bt.below belR).c1⟩, ⟨(Bh.below belR).c0, (Bh.below belR).c1⟩, ⟨(Bs.below belR).c0, (Bs.below belR).c1⟩, ⟨(Be.below belR).c0, (Be.below belR).c1⟩⟩
    clear hK K
    try simp only [Act.put, Ls]
    refine wpAnyH_done (by kernel_rfl) ?_ _
    replace bel := bel.trans (belR.mono bel.size)
    replace sa := sa.below belR
    replace T := T.below belR
    replace Ba := Ba.below belR
    replace sl := sl.below belR
    replace Bl := Bl.below belR
    replace st := st.below belR
    replace Bt := Bt.below belR
    replace sh := sh.below belR
    replace Bh := Bh.below belR
    replace ss := ss.below belR
    replace Bs := Bs.below belR
    replace se := se.below belR
    replace Be := Be.below belR
    clear belR
    obtain ⟨ka0, ka1, -, -⟩ := id Ba
    obtain ⟨kl0, kl1, -, -⟩ := id Bl
    obtain ⟨kt0, kt1, -, -⟩ := id Bt
    obtain ⟨kh0, kh1, -, -⟩ := id Bh
    obtain ⟨ks0, ks1, -, -⟩ := id Bs
    obtain ⟨ke0, ke1, -, -⟩ := id Be
    go_wp2
    all_goals go_ret
    all_goals exact ⟨rfl, bel⟩
theorem bllaw_all (ca : Option Addr) (cc : Nat) (cs : List Int) (w : World) (hT : Tb w 1 Lib.deBruijn32tab) (hs : Sl .u8 w (.slice ca cs.length cc) cs) (hby : ∀ i, 0 ≤ cs.getD i 0 ∧ cs.getD i 0 ≤ 255) :
    Calls Tryd.prog 8 #[.slice ca cs.length cc] w fun e w' => e = .returned (.bool true) ∧ Below w.heap.size w w' := by
  by_cases h : cs.length ≤ 1048576
  · exact bllaw ca cc cs w hT hs hby h
  · have hn : cs.length ≤ 9223372036854775807 := by obtain ⟨_, h1, h2, _⟩ := hs.cells; unfold maxLen at h2; omega
    have CB := hid (big_any ca cs.length cc w hn true (by simp; omega))
    clear hs hby h hn
    go_enter Tryd.func8, Tryd.ntmps8
    go_wp2_with fail
    refine CB.out.mono ?_
    rintro e w0 ⟨rfl, rfl⟩
    go_wp2
    go_ret
    exact ⟨rfl, Below.refl _ _⟩
end Fw
end Go.Proofs.YtmfpfkfohjkcgaaDoor
