/-
  What is needed of ZAh.
-/
import Derived.Test.YtmcflggionkhlaaGreatDoorH48
set_option maxHeartbeats 16000000
set_option maxRecDepth 1000000
namespace Go.Proofs.YtmcflggionkhlaaGreatDoor
set_option linter.unusedVariables false
set_option linter.unusedSimpArgs false
open Go.RowKit Go.Deep
namespace Fd
def grF (fm : Int) : Int := if fm = 32 then 2139095039 else 9218868437227405311
theorem gr_i {fm : Int} (hfm : fmtB fm = true) (w : World) (hT : Tab w) :
    Calls Tryz.prog 52 #[.int .i64 fm, .bool false] w fun e w' => e = .returned (.int .u64 (grF fm)) ∧ Below w.heap.size w w' := by
  rcases fmt_cases hfm with rfl | rfl
  · exact impl_Greatest32 false w hT
  · exact impl_Greatest64 false w hT
theorem ccmp_z (x y : Int) (a b : Option Addr) (c d : Nat) (w : World) (hx : Sl .u32 w (.slice a (Nm.wl x).length c) (Nm.wl x)) (hy : Sl .u32 w (.slice b (Nm.wl y).length d) (Nm.wl y)) (lx : (Nm.wl x).length ≤ 200) (ly : (Nm.wl y).length ≤ 200) :
    Calls Tryz.prog 22 #[.agg #[.bool (Nm.wn x), .slice a (Nm.wl x).length c], .agg #[.bool (Nm.wn y), .slice b (Nm.wl y).length d]] w fun e w' => e = .returned (.int .i64 (cmpI x y)) ∧ Below w.heap.size w w' := by
  have h := wcmp_impl (Nm.wn x) (Nm.wn y) a b c d (Nm.wl x) (Nm.wl y) w hx hy (by omega) (by omega)
  rw [wcmp_int lx ly] at h
  exact h
theorem abs_w (x : Int) : Nm.wn ((x.natAbs : Nat) : Int) = false ∧ Nm.wl ((x.natAbs : Nat) : Int) = Nm.wl x := ⟨wn_abs x, wl_abs x⟩
theorem fl_no {fm z e : Int} (hfm : fmtB fm = true) (hf : finB fm (RdB fm 5 (Nm.wn z) (Nm.wl z) e) = true) : RdF fm 5 (Nm.wn z) (Nm.wl z) e = 0 ∨ RdF fm 5 (Nm.wn z) (Nm.wl z) e = 1 ∨ RdF fm 5 (Nm.wn z) (Nm.wl z) e = 3 := by
  have hi := (sg_okF hfm (Nm.wn z)).2.2
  unfold RdB at hf
  unfold RdF
  have ho : ovB 5 (Nm.wn z) = false := by unfold ovB; simp
  by_cases hO : RdO fm 5 (Nm.wn z) (Nm.wl z) e = true
  · rw [if_pos hO] at hf ⊢
    by_cases hl : (Nm.wl z).length = 0
    · rw [if_pos hl]; exact .inl rfl
    · rw [if_neg hl] at hf ⊢
      rcases fmt_cases hfm with rfl | rfl
      · rw [if_pos rfl] at hf ⊢
        unfold rdB at hf
        unfold rdF
        rw [ho] at hf
        by_cases hfl : Nm.flo 24 2139095040 (rdU 24 (-149) 5 (Nm.wn z) (Nm.val (Nm.wl z)).toNat e) = true
        · rw [if_pos hfl]; split
          · exact .inl rfl
          · split
            · exact .inr (.inr rfl)
            · exact .inr (.inl rfl)
        · rw [if_neg hfl] at hf
          simp only [Bool.false_eq_true, if_false] at hf
          have : finB 32 (sgn 2147483648 2139095040 (Nm.wn z)) = false := hi
          exact absurd (this.symm.trans hf) (by decide)
      · rw [if_neg (by decide)] at hf ⊢
        unfold rdB at hf
        unfold rdF
        rw [ho] at hf
        by_cases hfl : Nm.flo 53 9218868437227405312 (rdU 53 (-1074) 5 (Nm.wn z) (Nm.val (Nm.wl z)).toNat e) = true
        · rw [if_pos hfl]; split
          · exact .inl rfl
          · split
            · exact .inr (.inr rfl)
            · exact .inr (.inl rfl)
        · rw [if_neg hfl] at hf
          simp only [Bool.false_eq_true, if_false] at hf
          have : finB 64 (sgn 9223372036854775808 9218868437227405312 (Nm.wn z)) = false := hi
          exact absurd (this.symm.trans hf) (by decide)
  · rw [if_neg hO]; exact .inl rfl
theorem ad_fl {fm a b : Int} (hO : muO fm 5 a b = true) (fa : finB fm a = true) (fb : finB fm b = true) (fh : finB fm (adB fm 5 a b) = true) : bits .and .i64 (adF fm 5 a b) 4 = 0 := by
  have hall : okF fm a = true ∧ okF fm b = true := all2 (by have k := hO; unfold muO at k; simp only [Bool.and_eq_true] at k; exact k.2)
  have hfm := ok_fmt hall.1
  obtain ⟨-, ia, -, -, na, -⟩ := fin_facts hall.1 fa
  obtain ⟨-, ib, -, -, nb, -⟩ := fin_facts hall.2 fb
  rw [ad_fin hO fa fb] at fh
  unfold adF aF
  rw [if_pos hO, na, nb, ia, ib]
  simp only [Bool.or_self, Bool.and_self, Bool.false_and, Bool.false_eq_true, if_false]
  by_cases hS : unI fm a + unI fm b = 0
  · rw [if_pos hS]; decide
  · rw [if_neg hS] at fh ⊢
    rcases fl_no hfm fh with h | h | h <;> rw [h] <;> decide
theorem up_big32 {h : Int} (h0 : 0 ≤ h) (h1 : h < 4294967296) (fh : finB 32 h = true) (hg : absF 32 h ≠ 2139095039) : ((unI 32 h).natAbs : Int) ≤ unI 32 (upF 32 (absF 32 h)) ∧ 0 ≤ upF 32 (absF 32 h) ∧ upF 32 (absF 32 h) < 18446744073709551616 := by
  have ab : absF 32 h = h % 2147483648 := by
    have hok := fin_ok fh
    unfold absF; rw [if_pos hok]; rfl
  have hlt := fin_lt32 h0 h1 fh
  obtain ⟨v, hv⟩ : ∃ v : Nat, (v : Int) = h % 2147483648 := ⟨(h % 2147483648).toNat, by omega⟩
  have g1 : v + 1 < 2139095040 := by rw [ab] at hg; omega
  have g2 : upF 32 (absF 32 h) = sgn 2147483648 ((v + 1 : Nat) : Int) false := by rw [ab, ← hv]; exact (up_lo32 (v := v) (by omega)).1
  have g3 : (unI 32 h).natAbs = uf 8388608 v := by
    have ux := un_uf32 h0 h1 fh
    rw [ux]; split
    · rw [show h.toNat = v by omega]; omega
    · rw [show (h - 2147483648).toNat = v by omega]; omega
  obtain ⟨s1, s2, s3, s4⟩ := unSg32 g1 false
  rw [g2, s4, g3]
  have hle := uf_le 8388608 (by decide) (show v ≤ v + 1 by omega)
  refine ⟨?_, ?_, ?_⟩
  · simp only [Bool.false_eq_true, if_false]; omega
  · unfold sgn; simp; omega
  · unfold sgn; simp; omega
theorem up_big64 {h : Int} (h0 : 0 ≤ h) (h1 : h < 18446744073709551616) (fh : finB 64 h = true) (hg : absF 64 h ≠ 9218868437227405311) : ((unI 64 h).natAbs : Int) ≤ unI 64 (upF 64 (absF 64 h)) ∧ 0 ≤ upF 64 (absF 64 h) ∧ upF 64 (absF 64 h) < 18446744073709551616 := by
  have ab : absF 64 h = h % 9223372036854775808 := by
    have hok := fin_ok fh
    unfold absF; rw [if_pos hok]; rfl
  have hlt := fin_lt64 h0 h1 fh
  obtain ⟨v, hv⟩ : ∃ v : Nat, (v : Int) = h % 9223372036854775808 := ⟨(h % 9223372036854775808).toNat, by omega⟩
  have g1 : v + 1 < 9218868437227405312 := by rw [ab] at hg; omega
  have g2 : upF 64 (absF 64 h) = sgn 9223372036854775808 ((v + 1 : Nat) : Int) false := by rw [ab, ← hv]; exact (up_lo64 (v := v) (by omega)).1
  have g3 : (unI 64 h).natAbs = uf 4503599627370496 v := by
    have ux := un_uf64 h0 h1 fh
    rw [ux]; split
    · rw [show h.toNat = v by omega]; omega
    · rw [show (h - 9223372036854775808).toNat = v by omega]; omega
  obtain ⟨s1, s2, s3, s4⟩ := unSg64 g1 false
  rw [g2, s4, g3]
  have hle := uf_le 4503599627370496 (by decide) (show v ≤ v + 1 by omega)
  refine ⟨?_, ?_, ?_⟩
  · simp only [Bool.false_eq_true, if_false]; omega
  · unfold sgn; simp; omega
  · unfold sgn; simp; omega
theorem ah_num {fm a b : Int} (a0 : 0 ≤ a) (a1 : a < 18446744073709551616) (b0 : 0 ≤ b) (b1 : b < 18446744073709551616) (hO : muO fm 5 a b = true) (h : Int) (hh : h = adB fm 5 a b) (fh : finB fm h = true) (hg : absF fm h ≠ grF fm) :
    (finB fm a = true ∧ finB fm b = true) ∧ finB fm (upF fm (absF fm h)) = true ∧ 2 * (unI fm a + unI fm b - unI fm h).natAbs ≤ (unI fm (upF fm (absF fm h)) - (unI fm h).natAbs).toNat ∧ ((unI fm h).natAbs : Int) ≤ unI fm (upF fm (absF fm h)) ∧ 0 ≤ upF fm (absF fm h) ∧ upF fm (absF fm h) < 18446744073709551616 := by
  obtain ⟨k1, k2, k3, k4⟩ := ad_head (mode := 5) a0 a1 b0 b1 hO
  rw [← hh] at k1 k2 k3 k4
  obtain ⟨fa, fb⟩ := k4 fh
  have hc := ad_fin hO fa fb
  rw [← hh] at hc
  rcases fmt_cases (ok_fmt k1) with rfl | rfl
  · have x1 := fin_y32' fa
    have x2 := fin_y32' fb
    have x3 := fin_y32' fh
    obtain ⟨q1, q2⟩ := ah_core32 a0 x1 b0 x2 fa fb h hc k2 x3 fh hg
    exact ⟨⟨fa, fb⟩, q1, q2, up_big32 k2 x3 fh hg⟩
  · obtain ⟨q1, q2⟩ := ah_core64 a0 a1 b0 b1 fa fb h hc k2 k3 fh hg
    exact ⟨⟨fa, fb⟩, q1, q2, up_big64 k2 k3 fh hg⟩
theorem abs_bd {fm x : Int} (x0 : 0 ≤ x) (x1 : x < 18446744073709551616) : 0 ≤ absF fm x ∧ absF fm x < 18446744073709551616 := by
  unfold absF; split
  · have h1 : 0 < sgOf fm := by unfold sgOf; split <;> decide
    have h2 : sgOf fm ≤ 9223372036854775808 := by unfold sgOf; split <;> decide
    have h3 := Int.emod_lt_of_pos x h1
    have h4 := Int.emod_nonneg x (Int.ne_of_gt h1)
    omega
  · decide
theorem ah_law {fm a b : Int} (a0 : 0 ≤ a) (a1 : a < 18446744073709551616) (b0 : 0 ≤ b) (b1 : b < 18446744073709551616) (hO : asO fm a b = true) :
    (fmtB fm = true ∧ 0 ≤ asB fm a b ∧ asB fm a b < 18446744073709551616) ∧ (cls fm (asB fm a b) ≤ 2 → (absF fm (asB fm a b) == grF fm) = false →
      (suB fm 5 a b = asB fm a b ∧ bits .and .i64 (suF fm 5 a b) 4 = 0 ∧ muO fm 5 a b = true) ∧ (0 ≤ asT fm a b ∧ asT fm a b < 18446744073709551616) ∧ (0 ≤ upF fm (absF fm (asB fm a b)) ∧ upF fm (absF fm (asB fm a b)) < 18446744073709551616) ∧ (0 ≤ absF fm (asB fm a b) ∧ absF fm (asB fm a b) < 18446744073709551616) ∧ (finB fm (upF fm (absF fm (asB fm a b))) = true ∧ finB fm (asB fm a b) = true ∧ finB fm (asT fm a b) = true) ∧ ((unI fm (asT fm a b)).natAbs : Int) * 2 ^ (1 : Int).toNat ≤ unI fm (upF fm (absF fm (asB fm a b))) - ((unI fm (asB fm a b)).natAbs : Int)) := by
  have ob : okF fm b = true := by unfold asO at hO; simp only [Bool.and_eq_true] at hO; exact hO.1
  have hM : muO fm 5 a (negF fm b) = true := by unfold asO at hO; simp only [Bool.and_eq_true] at hO; exact hO.2
  obtain ⟨n1, n2, n3⟩ := neg_ok ob b0 b1
  have e : asB fm a b = adB fm 5 a (negF fm b) := by unfold asB aaB; rw [if_pos ob, if_pos hM]
  have e2 : asB fm a b = aaB fm a (negF fm b) := by unfold asB; rw [if_pos ob]
  have e3 : asT fm a b = aaT fm a (negF fm b) := by unfold asT; rw [if_pos ob]
  obtain ⟨k1, k2, k3, -⟩ := ad_head (mode := 5) a0 a1 n2 n3 hM
  rw [← e] at k1 k2 k3
  have hM2 : muO fm 5 a b = true := by rw [← su_O ob b0 b1]; exact hM
  refine ⟨⟨ok_fmt k1, k2, k3⟩, fun hc hg => ?_⟩
  have fh := fin_of_cls k1 hc
  have hg' : absF fm (asB fm a b) ≠ grF fm := by rw [beq_eq_false_iff_ne] at hg; exact hg
  obtain ⟨⟨fa, fn⟩, q1, q2, q3, q4, q5⟩ := ah_num a0 a1 n2 n3 hM _ e fh hg'
  have fh2 := fh
  rw [e2] at fh2
  obtain ⟨t0, t1, ft, hs, -⟩ := aa_main a0 a1 n2 n3 hM (by rw [fa, fn]; rfl) fh2
  rw [← e2, ← e3] at hs
  rw [← e3] at t0 t1 ft
  have ab := abs_bd (fm := fm) (x := asB fm a b) k2 k3
  have hsu : suB fm 5 a b = asB fm a b := by unfold suB; rw [if_pos hM2, e]
  have hsf : suF fm 5 a b = adF fm 5 a (negF fm b) := by unfold suF; rw [if_pos hM2]
  rw [e] at fh
  have hfl := ad_fl hM fa fn fh
  rw [← hsf] at hfl
  rw [← e] at fh
  refine ⟨⟨hsu, hfl, hM2⟩, ⟨t0, t1⟩, ⟨q4, q5⟩, ab, ⟨q1, fh, ft⟩, ?_⟩
  have : unI fm (asT fm a b) = unI fm a + unI fm (negF fm b) - unI fm (asB fm a b) := by omega
  rw [this]
  have p1 : (2 : Int) ^ (1 : Int).toNat = 2 := by decide
  rw [p1]; omega
theorem drawAS_x (ca : Option Addr) (cc : Nat) (cs : List Int) (w : World) (hs : Sl .u8 w (.slice ca cs.length cc) cs) (hby : ∀ i, 0 ≤ cs.getD i 0 ∧ cs.getD i 0 ≤ 255) (hl : cs.length ≤ 1048576) :
    Calls Tryz.prog 50 #[.slice ca cs.length cc] w fun e w' => DrA w w' e := by
  have CD := hid (drawAA_x ca cc cs w hs hby hl)
  clear hs hby hl
  go_enter Tryz.func50, Tryz.ntmps50
  go_wp2_with fail
  refine CD.out.mono ?_
  rintro r w1 ⟨fm, a, b, rfl, a0, a1, b0, b1, bel⟩
  go_wp2
  all_goals go_ret3
  all_goals exact ⟨fm, a, b, rfl, a0, a1, b0, b1, bel⟩
theorem ahlaw (ca : Option Addr) (cc : Nat) (cs : List Int) (w : World) (hT : EX3 w) (hs : Sl .u8 w (.slice ca cs.length cc) cs) (hby : ∀ i, 0 ≤ cs.getD i 0 ∧ cs.getD i 0 ≤ 255) (hl : cs.length ≤ 1048576) :
    Calls Tryz.prog 13 #[.slice ca cs.length cc] w fun e w' => e = .returned (.bool true) ∧ Below w.heap.size w w' := by
  go_enter Tryz.func13, Tryz.ntmps13
  go_wp2_with fail
  refine (big_any ca cs.length cc _ (by omega) false (by simp; omega)).mono ?_
  rintro r w0 ⟨rfl, rfl⟩
  go_wp2_with fail
  refine (drawAS_x ca cc cs _ hs hby hl).mono ?_
  rintro r w1 ⟨fm, a, b, rfl, a0, a1, b0, b1, bel⟩
  obtain ⟨u, T⟩ := hT.below bel
  clear hs hby hl hT
  have AI := hid (fun w' k => asi_impl fm a b u w' k a0 a1 b0 b1 _ _ _ _ rfl rfl rfl rfl)
  have AS := hid (fun w' => asub_spec fm a b w' a0 a1 b0 b1 _ _ _ _ rfl rfl rfl rfl)
  have CC := hid (fun (k : 0 ≤ (asB fm a b) ∧ (asB fm a b) < 18446744073709551616) w' => spec_cls fm (asB fm a b) w' k.1 k.2)
  have AB := hid (fun (k : 0 ≤ (asB fm a b) ∧ (asB fm a b) < 18446744073709551616) w' k' => iAbsolute fm (asB fm a b) w' k' k.1 k.2)
  have GR := hid (fun (k : fmtB fm = true) w' k' => gr_i k w' k')
  have SU := hid (fun w' k => subi_all fm 5 a b u w' k a0 a1 b0 b1 _ _ _ rfl rfl rfl)
  have UP := hid (fun (k : 0 ≤ absF fm (asB fm a b) ∧ absF fm (asB fm a b) < 18446744073709551616) w' k' => impl_up fm (absF fm (asB fm a b)) w' k' k.1 k.2)
  have U1 := hid (fun (k : 0 ≤ upF fm (absF fm (asB fm a b)) ∧ upF fm (absF fm (asB fm a b)) < 18446744073709551616) w' k' => units_impl fm (upF fm (absF fm (asB fm a b))) w' k' k.1 k.2)
  have U2 := hid (fun (k : 0 ≤ (asB fm a b) ∧ (asB fm a b) < 18446744073709551616) w' k' => units_impl fm (asB fm a b) w' k' k.1 k.2)
  have U3 := hid (fun (k : 0 ≤ (asT fm a b) ∧ (asT fm a b) < 18446744073709551616) w' k' => units_impl fm (asT fm a b) w' k' k.1 k.2)
  unfold Ans at U1 U2 U3
  have SH := hid (fun p c w' (k : Sl .u32 w' (.slice p (Nm.wl (unI fm (asT fm a b))).length c) (Nm.wl (unI fm (asT fm a b)))) => shl_w ((unI fm (asT fm a b)).natAbs : Int) 1 p c w' (by rw [(abs_w _).2]; exact k) (by decide) (by have := un_blA fm (asT fm a b); rw [show ((1 : Int).toNat) = 1 from rfl, Int.natAbs_natCast]; omega))
  rw [(abs_w _).1, (abs_w _).2] at SH
  have LE := hid (fun p c q d w' (k : Sl .u32 w' (.slice p (Nm.wl (unI fm (upF fm (absF fm (asB fm a b))))).length c) (Nm.wl (unI fm (upF fm (absF fm (asB fm a b)))))) (k' : Sl .u32 w' (.slice q (Nm.wl (unI fm (asB fm a b))).length d) (Nm.wl (unI fm (asB fm a b)))) => less_x (unI fm (upF fm (absF fm (asB fm a b)))) ((unI fm (asB fm a b)).natAbs : Int) p q c d w' k (by rw [(abs_w _).2]; exact k') (by have := un_blA fm (upF fm (absF fm (asB fm a b))); omega) (by rw [Int.natAbs_natCast]; have := un_blA fm (asB fm a b); omega))
  rw [(abs_w (unI fm (asB fm a b))).1, (abs_w (unI fm (asB fm a b))).2] at LE
  have CM := hid (fun p c q d w' k k' => ccmp_z (((unI fm (asT fm a b)).natAbs : Int) * 2 ^ (1 : Int).toNat) (unI fm (upF fm (absF fm (asB fm a b))) - ((unI fm (asB fm a b)).natAbs : Int)) p q c d w' k k' (fit_k (by have h1 := bl_mulp ((unI fm (asT fm a b)).natAbs : Int) (1 : Int).toNat; have := un_blA fm (asT fm a b); rw [Int.natAbs_natCast, show ((1 : Int).toNat) = 1 from rfl] at h1; rw [show ((1 : Int).toNat) = 1 from rfl]; omega)) (fit_k (by have h1 := bl_sub (un_blA fm (upF fm (absF fm (asB fm a b)))) (y := ((unI fm (asB fm a b)).natAbs : Int)) (by rw [Int.natAbs_natCast]; exact un_blA fm (asB fm a b)); omega)))
  have MN := hid (ah_law (fm := fm) a0 a1 b0 b1)
  obtain ⟨tw, h_tw⟩ : ∃ q, q = ((unI fm (asT fm a b)).natAbs : Int) * 2 ^ (1 : Int).toNat := ⟨_, rfl⟩
  obtain ⟨D, h_D⟩ : ∃ q, q = unI fm (upF fm (absF fm (asB fm a b))) - ((unI fm (asB fm a b)).natAbs : Int) := ⟨_, rfl⟩
  obtain ⟨f1, h_f1⟩ : ∃ q, q = finB fm (upF fm (absF fm (asB fm a b))) := ⟨_, rfl⟩
  obtain ⟨f2, h_f2⟩ : ∃ q, q = finB fm (asB fm a b) := ⟨_, rfl⟩
  obtain ⟨f3, h_f3⟩ : ∃ q, q = finB fm (asT fm a b) := ⟨_, rfl⟩
  obtain ⟨uN, h_uN⟩ : ∃ q, q = unI fm (upF fm (absF fm (asB fm a b))) := ⟨_, rfl⟩
  obtain ⟨uH, h_uH⟩ : ∃ q, q = unI fm (asB fm a b) := ⟨_, rfl⟩
  obtain ⟨uT, h_uT⟩ : ∃ q, q = unI fm (asT fm a b) := ⟨_, rfl⟩
  obtain ⟨nx, h_nx⟩ : ∃ q, q = upF fm (absF fm (asB fm a b)) := ⟨_, rfl⟩
  obtain ⟨ab, h_ab⟩ : ∃ q, q = absF fm (asB fm a b) := ⟨_, rfl⟩
  obtain ⟨c, h_c⟩ : ∃ q, q = cls fm (asB fm a b) := ⟨_, rfl⟩
  obtain ⟨gr, h_gr⟩ : ∃ q, q = grF fm := ⟨_, rfl⟩
  obtain ⟨sB, h_sB⟩ : ∃ q, q = suB fm 5 a b := ⟨_, rfl⟩
  obtain ⟨sF, h_sF⟩ : ∃ q, q = suF fm 5 a b := ⟨_, rfl⟩
  obtain ⟨sO, h_sO⟩ : ∃ q, q = muO fm 5 a b := ⟨_, rfl⟩
  obtain ⟨H, h_H⟩ : ∃ q, q = asB fm a b := ⟨_, rfl⟩
  obtain ⟨Tl, h_Tl⟩ : ∃ q, q = asT fm a b := ⟨_, rfl⟩
  obtain ⟨F, h_F⟩ : ∃ q, q = asF fm a b := ⟨_, rfl⟩
  obtain ⟨O, h_O⟩ : ∃ q, q = asO fm a b := ⟨_, rfl⟩
  rw [← h_tw] at SH CM
  rw [← h_D] at LE CM
  rw [← h_uN, ← h_uH] at LE
  rw [← h_uT] at SH
  rw [← h_f1, ← h_uN, ← h_nx] at U1
  rw [← h_f2, ← h_uH, ← h_H] at U2
  rw [← h_f3, ← h_uT, ← h_Tl] at U3
  rw [← h_nx, ← h_ab] at UP
  rw [← h_ab, ← h_H] at AB
  rw [← h_gr] at GR
  rw [← h_c, ← h_H] at CC
  rw [← h_sB, ← h_sF, ← h_sO] at SU
  rw [← h_tw, ← h_D, ← h_f1, ← h_f2, ← h_f3, ← h_nx, ← h_ab, ← h_c, ← h_gr, ← h_sB, ← h_sF, ← h_sO, ← h_H, ← h_Tl, ← h_O] at MN
  rw [← h_H, ← h_Tl, ← h_F, ← h_O] at AI AS
  clear h_tw h_D h_f1 h_f2 h_f3 h_uN h_uH h_uT h_nx h_ab h_c h_gr h_sB h_sF h_sO h_H h_Tl h_F h_O a0 a1 b0 b1
  have ne_H : (H != H) = false := by simp
  have eq_H : (H == H) = true := by simp
  have ne_Tl : (Tl != Tl) = false := by simp
  have eq_Tl : (Tl == Tl) = true := by simp
  have ne_F : (F != F) = false := by simp
  have eq_F : (F == F) = true := by simp
  have ne_O : (O != O) = false := by simp
  have eq_O : (O == O) = true := by simp
  cases O
  · clear MN CC AB GR SU UP U1 U2 U3 SH LE CM
    go_wp2_with fail
    refine (AI.out _ T).mono ?_
    rintro r w2 ⟨rfl, hb⟩
    replace bel := bel_go bel hb
    replace T := T.below hb
    clear hb
    replace T := T.below (al_b _ (.cells #[.int .u64 H, .int .u64 Tl] 54))
    replace bel := bel_al bel (.cells #[.int .u64 H, .int .u64 Tl] 54)
    have Bp := R2.new w2 (.int .u64 H) (.int .u64 Tl) 54
    obtain ⟨kp0, kp1, -, -⟩ := id Bp
    go_wp2_with fail
    refine (AS.out _).mono ?_
    rintro r w3 ⟨rfl, hb⟩
    clear kp0 kp1
    replace bel := bel_go bel hb
    replace T := T.below hb
    replace Bp := Bp.below hb
    clear hb
    replace T := T.below (al_b _ (.cells #[.int .u64 H, .int .u64 Tl] 54))
    replace Bp := Bp.below (al_b _ (.cells #[.int .u64 H, .int .u64 Tl] 54))
    replace bel := bel_al bel (.cells #[.int .u64 H, .int .u64 Tl] 54)
    have Bq := R2.new w3 (.int .u64 H) (.int .u64 Tl) 54
    obtain ⟨kp0, kp1, -, -⟩ := id Bp
    obtain ⟨kq0, kq1, -, -⟩ := id Bq
    go_wp2
    all_goals go_ret
    all_goals exact ⟨rfl, bel⟩
  · by_cases hc : c ≤ 2
    · have hg : decide (2 < c) = false := decide_eq_false (by omega)
      have hg2 : ¬ 2 < c := by omega
      obtain ⟨m1, m2⟩ := MN.out rfl
      have CC := hid (CC.out m1.2)
      have AB := hid (AB.out m1.2)
      have GR := hid (GR.out m1.1)
      cases hA : (ab == gr)
      · obtain ⟨⟨e1, e2, rfl⟩, m4, m5, m6, ⟨rfl, rfl, rfl⟩, m8⟩ := m2 hc hA
        have e1' := e1.symm
        subst e1'
        clear e1
        have U1 := hid (U1.out m5)
        have U2 := hid (U2.out m1.2)
        have U3 := hid (U3.out m4)
        have UP := hid (UP.out m6)
        have e3 : decide (cmpI tw D ≤ 0) = true := decide_eq_true (by unfold cmpI; split; decide; split; omega; decide)
        obtain ⟨cm, h_cm⟩ : ∃ q, q = cmpI tw D := ⟨_, rfl⟩
        rw [← h_cm] at CM e3
        clear h_cm
        obtain ⟨g1, h_g1⟩ : ∃ q, q = Nm.wn uN := ⟨_, rfl⟩
        obtain ⟨L1, h_L1⟩ : ∃ q, q = Nm.wl uN := ⟨_, rfl⟩
        obtain ⟨g2, h_g2⟩ : ∃ q, q = Nm.wn uH := ⟨_, rfl⟩
        obtain ⟨L2, h_L2⟩ : ∃ q, q = Nm.wl uH := ⟨_, rfl⟩
        obtain ⟨g3, h_g3⟩ : ∃ q, q = Nm.wn uT := ⟨_, rfl⟩
        obtain ⟨L3, h_L3⟩ : ∃ q, q = Nm.wl uT := ⟨_, rfl⟩
        obtain ⟨g4, h_g4⟩ : ∃ q, q = Nm.wn tw := ⟨_, rfl⟩
        obtain ⟨L4, h_L4⟩ : ∃ q, q = Nm.wl tw := ⟨_, rfl⟩
        obtain ⟨g5, h_g5⟩ : ∃ q, q = Nm.wn D := ⟨_, rfl⟩
        obtain ⟨L5, h_L5⟩ : ∃ q, q = Nm.wl D := ⟨_, rfl⟩
        rw [← h_g1, ← h_L1] at U1 LE
        rw [← h_g2, ← h_L2] at U2
        rw [← h_L2, ← h_g5, ← h_L5] at LE
        rw [← h_g3, ← h_L3] at U3
        rw [← h_L3, ← h_g4, ← h_L4] at SH
        rw [← h_g4, ← h_L4, ← h_g5, ← h_L5] at CM
        clear MN m1 m2 m4 m5 m6 m8 hc h_g1 h_L1 h_g2 h_L2 h_g3 h_L3 h_g4 h_L4 h_g5 h_L5
        go_wp2_with fail
        refine (AI.out _ T).mono ?_
        rintro r w2 ⟨rfl, hb⟩
        replace bel := bel_go bel hb
        replace T := T.below hb
        clear hb
        replace T := T.below (al_b _ (.cells #[.int .u64 H, .int .u64 Tl] 54))
        replace bel := bel_al bel (.cells #[.int .u64 H, .int .u64 Tl] 54)
        have Bp := R2.new w2 (.int .u64 H) (.int .u64 Tl) 54
        obtain ⟨kp0, kp1, -, -⟩ := id Bp
        go_wp2_with fail
        refine (AS.out _).mono ?_
        rintro r w3 ⟨rfl, hb⟩
        clear kp0 kp1
        replace bel := bel_go bel hb
        replace T := T.below hb
        replace Bp := Bp.below hb
        clear hb
        replace T := T.below (al_b _ (.cells #[.int .u64 H, .int .u64 Tl] 54))
        replace Bp := Bp.below (al_b _ (.cells #[.int .u64 H, .int .u64 Tl] 54))
        replace bel := bel_al bel (.cells #[.int .u64 H, .int .u64 Tl] 54)
        have Bq := R2.new w3 (.int .u64 H) (.int .u64 Tl) 54
        obtain ⟨kp0, kp1, -, -⟩ := id Bp
        obtain ⟨kq0, kq1, -, -⟩ := id Bq
        go_wp2_with fail
        refine (CC.out _).mono ?_
        rintro r w4 ⟨rfl, hb⟩
        clear kp0 kp1 kq0 kq1
        replace bel := bel_go bel hb
        replace T := T.below hb
        replace Bp := Bp.below hb
        replace Bq := Bq.below hb
        clear hb
        obtain ⟨kp0, kp1, -, -⟩ := id Bp
        obtain ⟨kq0, kq1, -, -⟩ := id Bq
        go_wp2_with fail
        refine (AB.out _ T.t.s.f).mono ?_
        rintro r w5 ⟨rfl, hb⟩
        clear kp0 kp1 kq0 kq1
        replace bel := bel_go bel hb
        replace T := T.below hb
        replace Bp := Bp.below hb
        replace Bq := Bq.below hb
        clear hb
        obtain ⟨kp0, kp1, -, -⟩ := id Bp
        obtain ⟨kq0, kq1, -, -⟩ := id Bq
        go_wp2_with fail
        refine (GR.out _ T.t.s.f).mono ?_
        rintro r w6 ⟨rfl, hb⟩
        clear kp0 kp1 kq0 kq1
        replace bel := bel_go bel hb
        replace T := T.below hb
        replace Bp := Bp.below hb
        replace Bq := Bq.below hb
        clear hb
        obtain ⟨kp0, kp1, -, -⟩ := id Bp
        obtain ⟨kq0, kq1, -, -⟩ := id Bq
        go_wp2_with fail
        refine (SU.out _ T).mono ?_
        rintro r w7 ⟨rfl, hb⟩
        clear kp0 kp1 kq0 kq1
        replace bel := bel_go bel hb
        replace T := T.below hb
        replace Bp := Bp.below hb
        replace Bq := Bq.below hb
        clear hb
        obtain ⟨kp0, kp1, -, -⟩ := id Bp
        obtain ⟨kq0, kq1, -, -⟩ := id Bq
        go_wp2_with fail
        refine (AB.out _ T.t.s.f).mono ?_
        rintro r w8 ⟨rfl, hb⟩
        clear kp0 kp1 kq0 kq1
        replace bel := bel_go bel hb
        replace T := T.below hb
        replace Bp := Bp.below hb
        replace Bq := Bq.below hb
        clear hb
        obtain ⟨kp0, kp1, -, -⟩ := id Bp
        obtain ⟨kq0, kq1, -, -⟩ := id Bq
        go_wp2_with fail
        refine (UP.out _ T.t.s.f).mono ?_
        rintro r w9 ⟨rfl, hb⟩
        clear kp0 kp1 kq0 kq1
        replace bel := bel_go bel hb
        replace T := T.below hb
        replace Bp := Bp.below hb
        replace Bq := Bq.below hb
        clear hb
        obtain ⟨kp0, kp1, -, -⟩ := id Bp
        obtain ⟨kq0, kq1, -, -⟩ := id Bq
        go_wp2_with fail
        refine (U1.out _ T.t.s.f).mono ?_
        rintro r w10 ⟨a1, c1, rfl, o1, hb⟩
        clear kp0 kp1 kq0 kq1
        replace bel := bel_go bel hb
        replace T := T.below hb
        replace Bp := Bp.below hb
        replace Bq := Bq.below hb
        clear hb
        have s1 := o1.sl
        clear o1
        replace T := T.below (al_b _ (.cells #[.bool g1, .slice a1 L1.length c1] 31))
        replace Bp := Bp.below (al_b _ (.cells #[.bool g1, .slice a1 L1.length c1] 31))
        replace Bq := Bq.below (al_b _ (.cells #[.bool g1, .slice a1 L1.length c1] 31))
        replace s1 := s1.below (al_b _ (.cells #[.bool g1, .slice a1 L1.length c1] 31))
        replace bel := bel_al bel (.cells #[.bool g1, .slice a1 L1.length c1] 31)
        have Bu := R2.new w10 (.bool g1) (.slice a1 L1.length c1) 31
        obtain ⟨kp0, kp1, -, -⟩ := id Bp
        obtain ⟨kq0, kq1, -, -⟩ := id Bq
        obtain ⟨ku0, ku1, -, -⟩ := id Bu
        go_wp2_with fail
        refine (U2.out _ T.t.s.f).mono ?_
        rintro r w11 ⟨a2, c2, rfl, o2, hb⟩
        clear kp0 kp1 kq0 kq1 ku0 ku1
        replace bel := bel_go bel hb
        replace T := T.below hb
        replace Bp := Bp.below hb
        replace Bq := Bq.below hb
        replace s1 := s1.below hb
        replace Bu := Bu.below hb
        clear hb
        have s2 := o2.sl
        clear o2
        replace T := T.below (al_b _ (.cells #[.bool g2, .slice a2 L2.length c2] 31))
        replace Bp := Bp.below (al_b _ (.cells #[.bool g2, .slice a2 L2.length c2] 31))
        replace Bq := Bq.below (al_b _ (.cells #[.bool g2, .slice a2 L2.length c2] 31))
        replace s1 := s1.below (al_b _ (.cells #[.bool g2, .slice a2 L2.length c2] 31))
        replace Bu := Bu.below (al_b _ (.cells #[.bool g2, .slice a2 L2.length c2] 31))
        replace s2 := s2.below (al_b _ (.cells #[.bool g2, .slice a2 L2.length c2] 31))
        replace bel := bel_al bel (.cells #[.bool g2, .slice a2 L2.length c2] 31)
        have Bv := R2.new w11 (.bool g2) (.slice a2 L2.length c2) 31
        obtain ⟨kp0, kp1, -, -⟩ := id Bp
        obtain ⟨kq0, kq1, -, -⟩ := id Bq
        obtain ⟨ku0, ku1, -, -⟩ := id Bu
        obtain ⟨kv0, kv1, -, -⟩ := id Bv
        go_wp2_with fail
        refine (U3.out _ T.t.s.f).mono ?_
        rintro r w12 ⟨a3, c3, rfl, o3, hb⟩
        clear kp0 kp1 kq0 kq1 ku0 ku1 kv0 kv1
        replace bel := bel_go bel hb
        replace T := T.below hb
        replace Bp := Bp.below hb
        replace Bq := Bq.below hb
        replace s1 := s1.below hb
        replace Bu := Bu.below hb
        replace s2 := s2.below hb
        replace Bv := Bv.below hb
        clear hb
        have s3 := o3.sl
        clear o3
        replace T := T.below (al_b _ (.cells #[.bool g3, .slice a3 L3.length c3] 31))
        replace Bp := Bp.below (al_b _ (.cells #[.bool g3, .slice a3 L3.length c3] 31))
        replace Bq := Bq.below (al_b _ (.cells #[.bool g3, .slice a3 L3.length c3] 31))
        replace s1 := s1.below (al_b _ (.cells #[.bool g3, .slice a3 L3.length c3] 31))
        replace Bu := Bu.below (al_b _ (.cells #[.bool g3, .slice a3 L3.length c3] 31))
        replace s2 := s2.below (al_b _ (.cells #[.bool g3, .slice a3 L3.length c3] 31))
        replace Bv := Bv.below (al_b _ (.cells #[.bool g3, .slice a3 L3.length c3] 31))
        replace s3 := s3.below (al_b _ (.cells #[.bool g3, .slice a3 L3.length c3] 31))
        replace bel := bel_al bel (.cells #[.bool g3, .slice a3 L3.length c3] 31)
        have Bt := R2.new w12 (.bool g3) (.slice a3 L3.length c3) 31
        obtain ⟨kp0, kp1, -, -⟩ := id Bp
        obtain ⟨kq0, kq1, -, -⟩ := id Bq
        obtain ⟨ku0, ku1, -, -⟩ := id Bu
        obtain ⟨kv0, kv1, -, -⟩ := id Bv
        obtain ⟨kt0, kt1, -, -⟩ := id Bt
        go_wp2_with fail
        refine (mag_w g3 a3 L3.length c3 _).mono ?_
        rintro r w13 ⟨rfl, hb⟩
        clear kp0 kp1 kq0 kq1 ku0 ku1 kv0 kv1 kt0 kt1
        replace bel := bel_go bel hb
        replace T := T.below hb
        replace Bp := Bp.below hb
        replace Bq := Bq.below hb
        replace s1 := s1.below hb
        replace Bu := Bu.below hb
        replace s2 := s2.below hb
        replace Bv := Bv.below hb
        replace s3 := s3.below hb
        replace Bt := Bt.below hb
        clear hb
        obtain ⟨kp0, kp1, -, -⟩ := id Bp
        obtain ⟨kq0, kq1, -, -⟩ := id Bq
        obtain ⟨ku0, ku1, -, -⟩ := id Bu
        obtain ⟨kv0, kv1, -, -⟩ := id Bv
        obtain ⟨kt0, kt1, -, -⟩ := id Bt
        go_wp2_with fail
        refine (SH.out a3 c3 _ s3).mono ?_
        rintro r w14 ⟨a4, c4, rfl, o4, hb⟩
        clear kp0 kp1 kq0 kq1 ku0 ku1 kv0 kv1 kt0 kt1
        replace bel := bel_go bel hb
        replace T := T.below hb
        replace Bp := Bp.below hb
        replace Bq := Bq.below hb
        replace s1 := s1.below hb
        replace Bu := Bu.below hb
        replace s2 := s2.below hb
        replace Bv := Bv.below hb
        replace s3 := s3.below hb
        replace Bt := Bt.below hb
        clear hb
        have s4 := o4.sl
        clear o4
        replace T := T.below (al_b _ (.cells #[.bool g4, .slice a4 L4.length c4] 31))
        replace Bp := Bp.below (al_b _ (.cells #[.bool g4, .slice a4 L4.length c4] 31))
        replace Bq := Bq.below (al_b _ (.cells #[.bool g4, .slice a4 L4.length c4] 31))
        replace s1 := s1.below (al_b _ (.cells #[.bool g4, .slice a4 L4.length c4] 31))
        replace Bu := Bu.below (al_b _ (.cells #[.bool g4, .slice a4 L4.length c4] 31))
        replace s2 := s2.below (al_b _ (.cells #[.bool g4, .slice a4 L4.length c4] 31))
        replace Bv := Bv.below (al_b _ (.cells #[.bool g4, .slice a4 L4.length c4] 31))
        replace s3 := s3.below (al_b _ (.cells #[.bool g4, .slice a4 L4.length c4] 31))
        replace Bt := Bt.below (al_b _ (.cells #[.bool g4, .slice a4 L4.length c4] 31))
        replace s4 := s4.below (al_b _ (.cells #[.bool g4, .slice a4 L4.length c4] 31))
        replace bel := bel_al bel (.cells #[.bool g4, .slice a4 L4.length c4] 31)
        have By := R2.new w14 (.bool g4) (.slice a4 L4.length c4) 31
        go_upto_region 14 with fail
        generalize (w14.alloc (.cells #[.bool g4, .slice a4 L4.length c4] 31)) = W at bel T Bp Bq s1 Bu s2 Bv s3 Bt s4 By ⊢
        have belR := Below.drew (Below.refl W.heap.size W)
        refine wp_region_held_drew (S := fun w' => (w'.cell? ⟨w2.heap.size, 0, none⟩ = some (.int .u64 H) ∧ w'.cell? ⟨w2.heap.size, 1, none⟩ = some (.int .u64 Tl)) ∧ (w'.cell? ⟨w10.heap.size, 0, none⟩ = some (.bool g1) ∧ w'.cell? ⟨w10.heap.size, 1, none⟩ = some (.slice a1 L1.length c1)) ∧ (w'.cell? ⟨w11.heap.size, 0, none⟩ = some (.bool g2) ∧ w'.cell? ⟨w11.heap.size, 1, none⟩ = some (.slice a2 L2.length c2)) ∧ (w'.cell? ⟨w14.heap.size, 0, none⟩ = some (.bool g4) ∧ w'.cell? ⟨w14.heap.size, 1, none⟩ = some (.slice a4 L4.length c4))) (by kernel_rfl) ?_ (fun hHeld => ?_)
        · exact ⟨⟨(Bp).c0, (Bp).c1⟩, ⟨(Bu).c0, (Bu).c1⟩, ⟨(Bv).c0, (Bv).c1⟩, ⟨(By).c0, (By).c1⟩⟩
        generalize W.drew = v0 at belR hHeld ⊢
        refine tk 0 ?_ rfl (Or.inl ⟨by rfl, ?_⟩) ?_
        rotate_left
        · (intro w hSw; go_simp; try (with_reducible rfl))
        try simp only [Act.put, Ls]
        refine tk 1 ?_ rfl (Or.inl ⟨by rfl, ?_⟩) ?_
        rotate_left
        · (intro w hSw; go_simp; try (with_reducible rfl))
        try simp only [Act.put, Ls]
        refine tk 2 ?_ rfl (Or.inl ⟨by rfl, ?_⟩) ?_
        rotate_left
        · (intro w hSw; go_simp; try (with_reducible rfl))
        try simp only [Act.put, Ls]
        refine tk 3 ?_ rfl (Or.inl ⟨by rfl, ?_⟩) ?_
        rotate_left
        · (intro w hSw; go_simp; try (with_reducible rfl))
        try simp only [Act.put, Ls]
        refine tk 4 ?_ rfl (Or.inl ⟨by rfl, ?_⟩) ?_
        rotate_left
        · (intro w hSw; (try dsimp only at hSw); obtain ⟨⟨hS0, hS1⟩, ⟨hS2, hS3⟩, ⟨hS4, hS5⟩, ⟨hS6, hS7⟩⟩ := hSw; go_simp; try (with_reducible rfl))
        try simp only [Act.put, Ls]
        refine tk 5 ?_ rfl (Or.inl ⟨by rfl, ?_⟩) ?_
        rotate_left
        · (intro w hSw; go_simp; try (with_reducible rfl))
        try simp only [Act.put, Ls]
        refine tk 6 ?_ rfl (Or.inl ⟨by rfl, ?_⟩) ?_
        rotate_left
        · (intro w hSw; go_simp; try (with_reducible rfl))
        try simp only [Act.put, Ls]
        refine tk 7 ?_ rfl (Or.inl ⟨by rfl, ?_⟩) ?_
        rotate_left
        · (intro w hSw; go_simp; try (with_reducible rfl))
        try simp only [Act.put, Ls]
        refine tk 8 ?_ rfl (Or.inl ⟨by rfl, ?_⟩) ?_
        rotate_left
        · (intro w hSw; go_simp; try (with_reducible rfl))
        try simp only [Act.put, Ls]
        refine tk 9 ?_ rfl (Or.inl ⟨by rfl, ?_⟩) ?_
        rotate_left
        · (intro w hSw; go_simp; try (with_reducible rfl))
        try simp only [Act.put, Ls]
        refine tk 10 ?_ rfl (Or.inl ⟨by rfl, ?_⟩) ?_
        rotate_left
        · (intro w hSw; go_simp; try (with_reducible rfl))
        try simp only [Act.put, Ls]
        refine tk 11 ?_ rfl (Or.inl ⟨by rfl, ?_⟩) ?_
        rotate_left
        · (intro w hSw; go_simp; try (with_reducible rfl))
        try simp only [Act.put, Ls]
        refine tk 12 ?_ rfl (Or.inl ⟨by rfl, ?_⟩) ?_
        rotate_left
        · (intro w hSw; go_simp; try (with_reducible rfl))
        try simp only [Act.put, Ls]
        refine tk 13 ?_ rfl (Or.inl ⟨by rfl, ?_⟩) ?_
        rotate_left
        · (intro w hSw; go_simp; try (with_reducible rfl))
        try simp only [Act.put, Ls]
        refine tk 14 ?_ rfl (Or.inl ⟨by rfl, ?_⟩) ?_
        rotate_left
        · (intro w hSw; go_simp; try (with_reducible rfl))
        try simp only [Act.put, Ls]
        refine tk 15 ?_ rfl (Or.inl ⟨by rfl, ?_⟩) ?_
        rotate_left
        · (intro w hSw; go_simp; try (with_reducible rfl))
        try simp only [Act.put, Ls]
        refine tk 16 ?_ rfl (Or.inl ⟨by rfl, ?_⟩) ?_
        rotate_left
        · (intro w hSw; go_simp; try (with_reducible rfl))
        try simp only [Act.put, Ls]
        refine tk 17 ?_ rfl (Or.inl ⟨by rfl, ?_⟩) ?_
        rotate_left
        · (intro w hSw; go_simp; try (with_reducible rfl))
        try simp only [Act.put, Ls]
        refine tk 18 ?_ rfl (Or.inl ⟨by rfl, ?_⟩) ?_
        rotate_left
        · (intro w hSw; go_simp; try (with_reducible rfl))
        try simp only [Act.put, Ls]
        refine tk 19 ?_ rfl (Or.inl ⟨by rfl, ?_⟩) ?_
        rotate_left
        · (intro w hSw; go_simp; try (with_reducible rfl))
        try simp only [Act.put, Ls]
        refine tk 20 ?_ rfl (Or.inl ⟨by rfl, ?_⟩) ?_
        rotate_left
        · (intro w hSw; go_simp; try (with_reducible rfl))
        try simp only [Act.put, Ls]
        refine tk 21 ?_ rfl (Or.inl ⟨by rfl, ?_⟩) ?_
        rotate_left
        · (intro w hSw; go_simp; try (with_reducible rfl))
        try simp only [Act.put, Ls]
        refine tk 22 ?_ rfl (Or.inl ⟨by rfl, ?_⟩) ?_
        rotate_left
        · (intro w hSw; go_simp; try (with_reducible rfl))
        try simp only [Act.put, Ls]
        refine tk 23 ?_ rfl (Or.inl ⟨by rfl, ?_⟩) ?_
        rotate_left
        · (intro w hSw; go_simp; try (with_reducible rfl))
        try simp only [Act.put, Ls]
        refine tk 24 ?_ rfl (Or.inl ⟨by rfl, ?_⟩) ?_
        rotate_left
        · (intro w hSw; go_simp; try (with_reducible rfl))
        try simp only [Act.put, Ls]
        refine tk 25 ?_ rfl (Or.inl ⟨by rfl, ?_⟩) ?_
        rotate_left
        · (intro w hSw; (try dsimp only at hSw); obtain ⟨⟨hS0, hS1⟩, ⟨hS2, hS3⟩, ⟨hS4, hS5⟩, ⟨hS6, hS7⟩⟩ := hSw; go_simp; try (with_reducible rfl))
        try simp only [Act.put, Ls]
        refine tk 26 ?_ rfl (Or.inl ⟨by rfl, ?_⟩) ?_
        rotate_left
        · (intro w hSw; (try dsimp only at hSw); obtain ⟨⟨hS0, hS1⟩, ⟨hS2, hS3⟩, ⟨hS4, hS5⟩, ⟨hS6, hS7⟩⟩ := hSw; go_simp; try (with_reducible rfl))
        try simp only [Act.put, Ls]
        refine tk 27 ?_ rfl (Or.inl ⟨by rfl, ?_⟩) ?_
        rotate_left
        · (intro w hSw; (try dsimp only at hSw); obtain ⟨⟨hS0, hS1⟩, ⟨hS2, hS3⟩, ⟨hS4, hS5⟩, ⟨hS6, hS7⟩⟩ := hSw; go_simp; try (with_reducible rfl))
        try simp only [Act.put, Ls]
        refine rdy 28 rfl (fun K hK => ?_)
        go_simp
        go_at_call 21
        refine (mag_w g2 a2 L2.length c2 _).mono ?_
        rintro r v1 ⟨rfl, hb'⟩
        have hz' := belR.size
        replace belR := bel_go belR hb'
        clear hb' hz'
        refine hK.out _ _ ?_ (fun hHeld => ?_)
        · exact ⟨⟨(Bp.below belR).c0, (Bp.below belR).c1⟩, ⟨(Bu.below belR).c0, (Bu.below belR).c1⟩, ⟨(Bv.below belR).c0, (Bv.below belR).c1⟩, ⟨(By.below belR).c0, (By.below belR).c1⟩⟩
        clear hK K
        try simp only [Act.put, Ls]
        refine rdy 29 rfl (fun K hK => ?_)
        go_simp
        go_at_call 24
        refine (LE.out a1 c1 a2 c2 _ (s1.below belR) (s2.below belR)).mono ?_
        rintro r v2 ⟨a5, c5, rfl, s5, hb'⟩
        have hz' := belR.size
        replace belR := bel_go belR hb'
        clear hb' hz'
        refine hK.out _ _ ?_ (fun hHeld => ?_)
        · exact ⟨⟨(Bp.below belR).c0, (Bp.below belR).c1⟩, ⟨(Bu.below belR).c0, (Bu.below belR).c1⟩, ⟨(Bv.below belR).c0, (Bv.below belR).c1⟩, ⟨(By.below belR).c0, (By.below belR).c1⟩⟩
        clear hK K
        try simp only [Act.put, Ls]
        refine rdy 30 rfl (fun K hK => ?_)
        go_simp
        go_at_call 22
        refine (CM.out a4 c4 a5 c5 _ (s4.below belR) s5).mono ?_
        rintro r v3 ⟨rfl, hb'⟩
        have hz' := belR.size
        replace belR := bel_go belR hb'
        clear hb' hz'
        refine hK.out _ _ ?_ (fun hHeld => ?_)
        · exact ⟨⟨(Bp.below belR).c0, (Bp.below belR).c1⟩, ⟨(Bu.below belR).c0, (Bu.below belR).c1⟩, ⟨(Bv.below belR).c0, (Bv.below belR).c1⟩, ⟨(By.below belR).c0, (By.below belR).c1⟩⟩
        clear hK K
        try simp only [Act.put, Ls]
        refine tk 31 ?_ rfl (Or.inl ⟨by rfl, ?_⟩) ?_
        rotate_left
        · (intro w hSw; go_simp; try (with_reducible rfl))
        try simp only [Act.put, Ls]
        refine tk 32 ?_ rfl (Or.inl ⟨by rfl, ?_⟩) ?_
        rotate_left
        · (intro w hSw; go_simp; try (with_reducible rfl))
        try simp only [Act.put, Ls]
        refine rdy 33 rfl (fun K hK => ?_)
        go_simp
        refine hK.out _ _ ?_ (fun hHeld => ?_)
        · exact ⟨⟨(Bp.below belR).c0, (Bp.below belR).c1⟩, ⟨(Bu.below belR).c0, (Bu.below belR).c1⟩, ⟨(Bv.below belR).c0, (Bv.below belR).c1⟩, ⟨(By.below belR).c0, (By.below belR).c1⟩⟩
        clear hK K
        try simp only [Act.put, Ls]
        refine wpAnyH_done (by kernel_rfl) ?_ _
        replace bel := bel.trans (belR.mono bel.size)
        replace T := T.below belR
        replace Bp := Bp.below belR
        replace Bq := Bq.below belR
        replace s1 := s1.below belR
        replace Bu := Bu.below belR
        replace s2 := s2.below belR
        replace Bv := Bv.below belR
        replace s3 := s3.below belR
        replace Bt := Bt.below belR
        replace s4 := s4.below belR
        replace By := By.below belR
        clear belR
        obtain ⟨kp0, kp1, -, -⟩ := id Bp
        obtain ⟨kq0, kq1, -, -⟩ := id Bq
        obtain ⟨ku0, ku1, -, -⟩ := id Bu
        obtain ⟨kv0, kv1, -, -⟩ := id Bv
        obtain ⟨kt0, kt1, -, -⟩ := id Bt
        obtain ⟨ky0, ky1, -, -⟩ := id By
        go_wp2
        all_goals go_ret
        all_goals exact ⟨rfl, bel⟩
      · clear MN m1 m2 hc SU UP U1 U2 U3 SH LE CM
        go_wp2_with fail
        refine (AI.out _ T).mono ?_
        rintro r w2 ⟨rfl, hb⟩
        replace bel := bel_go bel hb
        replace T := T.below hb
        clear hb
        replace T := T.below (al_b _ (.cells #[.int .u64 H, .int .u64 Tl] 54))
        replace bel := bel_al bel (.cells #[.int .u64 H, .int .u64 Tl] 54)
        have Bp := R2.new w2 (.int .u64 H) (.int .u64 Tl) 54
        obtain ⟨kp0, kp1, -, -⟩ := id Bp
        go_wp2_with fail
        refine (AS.out _).mono ?_
        rintro r w3 ⟨rfl, hb⟩
        clear kp0 kp1
        replace bel := bel_go bel hb
        replace T := T.below hb
        replace Bp := Bp.below hb
        clear hb
        replace T := T.below (al_b _ (.cells #[.int .u64 H, .int .u64 Tl] 54))
        replace Bp := Bp.below (al_b _ (.cells #[.int .u64 H, .int .u64 Tl] 54))
        replace bel := bel_al bel (.cells #[.int .u64 H, .int .u64 Tl] 54)
        have Bq := R2.new w3 (.int .u64 H) (.int .u64 Tl) 54
        obtain ⟨kp0, kp1, -, -⟩ := id Bp
        obtain ⟨kq0, kq1, -, -⟩ := id Bq
        go_wp2_with fail
        refine (CC.out _).mono ?_
        rintro r w4 ⟨rfl, hb⟩
        clear kp0 kp1 kq0 kq1
        replace bel := bel_go bel hb
        replace T := T.below hb
        replace Bp := Bp.below hb
        replace Bq := Bq.below hb
        clear hb
        obtain ⟨kp0, kp1, -, -⟩ := id Bp
        obtain ⟨kq0, kq1, -, -⟩ := id Bq
        go_wp2_with fail
        refine (AB.out _ T.t.s.f).mono ?_
        rintro r w5 ⟨rfl, hb⟩
        clear kp0 kp1 kq0 kq1
        replace bel := bel_go bel hb
        replace T := T.below hb
        replace Bp := Bp.below hb
        replace Bq := Bq.below hb
        clear hb
        obtain ⟨kp0, kp1, -, -⟩ := id Bp
        obtain ⟨kq0, kq1, -, -⟩ := id Bq
        go_wp2_with fail
        refine (GR.out _ T.t.s.f).mono ?_
        rintro r w6 ⟨rfl, hb⟩
        clear kp0 kp1 kq0 kq1
        replace bel := bel_go bel hb
        replace T := T.below hb
        replace Bp := Bp.below hb
        replace Bq := Bq.below hb
        clear hb
        obtain ⟨kp0, kp1, -, -⟩ := id Bp
        obtain ⟨kq0, kq1, -, -⟩ := id Bq
        go_wp2
        all_goals go_ret
        all_goals exact ⟨rfl, bel⟩
    · have hg : decide (2 < c) = true := decide_eq_true (by omega)
      have hg2 : 2 < c := by omega
      have CC := hid (CC.out (MN.out rfl).1.2)
      clear MN hc AB GR SU UP U1 U2 U3 SH LE CM
      go_wp2_with fail
      refine (AI.out _ T).mono ?_
      rintro r w2 ⟨rfl, hb⟩
      replace bel := bel_go bel hb
      replace T := T.below hb
      clear hb
      replace T := T.below (al_b _ (.cells #[.int .u64 H, .int .u64 Tl] 54))
      replace bel := bel_al bel (.cells #[.int .u64 H, .int .u64 Tl] 54)
      have Bp := R2.new w2 (.int .u64 H) (.int .u64 Tl) 54
      obtain ⟨kp0, kp1, -, -⟩ := id Bp
      go_wp2_with fail
      refine (AS.out _).mono ?_
      rintro r w3 ⟨rfl, hb⟩
      clear kp0 kp1
      replace bel := bel_go bel hb
      replace T := T.below hb
      replace Bp := Bp.below hb
      clear hb
      replace T := T.below (al_b _ (.cells #[.int .u64 H, .int .u64 Tl] 54))
      replace Bp := Bp.below (al_b _ (.cells #[.int .u64 H, .int .u64 Tl] 54))
      replace bel := bel_al bel (.cells #[.int .u64 H, .int .u64 Tl] 54)
      have Bq := R2.new w3 (.int .u64 H) (.int .u64 Tl) 54
      obtain ⟨kp0, kp1, -, -⟩ := id Bp
      obtain ⟨kq0, kq1, -, -⟩ := id Bq
      go_wp2_with fail
      refine (CC.out _).mono ?_
      rintro r w4 ⟨rfl, hb⟩
      clear kp0 kp1 kq0 kq1
      replace bel := bel_go bel hb
      replace T := T.below hb
      replace Bp := Bp.below hb
      replace Bq := Bq.below hb
      clear hb
      obtain ⟨kp0, kp1, -, -⟩ := id Bp
      obtain ⟨kq0, kq1, -, -⟩ := id Bq
      go_wp2
      all_goals go_ret
      all_goals exact ⟨rfl, bel⟩
theorem ahlaw_all (ca : Option Addr) (cc : Nat) (cs : List Int) (w : World) (hT : EX3 w) (hs : Sl .u8 w (.slice ca cs.length cc) cs) (hby : ∀ i, 0 ≤ cs.getD i 0 ∧ cs.getD i 0 ≤ 255) :
    Calls Tryz.prog 13 #[.slice ca cs.length cc] w fun e w' => e = .returned (.bool true) ∧ Below w.heap.size w w' := by
  by_cases h : cs.length ≤ 1048576
  · exact ahlaw ca cc cs w hT hs hby h
  · have hn : cs.length ≤ 9223372036854775807 := by obtain ⟨_, h1, h2, _⟩ := hs.cells; unfold maxLen at h2; omega
    have CB := hid (big_any ca cs.length cc w hn true (by simp; omega))
    clear hs hby h hn
    go_enter Tryz.func13, Tryz.ntmps13
    go_wp2_with fail
    refine CB.out.mono ?_
    rintro e w0 ⟨rfl, rfl⟩
    go_wp2
    go_ret
    exact ⟨rfl, Below.refl _ _⟩
end Fd
end Go.Proofs.YtmcflggionkhlaaGreatDoor
