/-
  What is needed of MQ.
-/
import Derived.Test.YtpalbhkihheogaaGreatDoorN45
set_option maxHeartbeats 16000000
set_option maxRecDepth 1000000
namespace Go.Proofs.YtpalbhkihheogaaGreatDoor
set_option linter.unusedVariables false
set_option linter.unusedSimpArgs false
open Go.RowKit Go.Deep
namespace Fd
theorem wl_of_ok {ng : Bool} {zs : List Int} (hd : Nm.Dg zs) (hok : okB ng zs = true) : Nm.wl (Nm.wv ng zs) = zs ∧ Nm.wn (Nm.wv ng zs) = ng := by
  have hl : Nm.lim (Nm.val zs).toNat = zs := (lim_ok hd hok).1.symm
  have ht : Nm.trim zs = zs := by rw [Nm.trim_lim hd, hl]
  rw [Nm.wl_wv _ hd, Nm.wn_wv _ hd, ht]
  refine ⟨rfl, ?_⟩
  by_cases hz : zs.length = 0
  · unfold okB at hok
    rw [if_pos hz] at hok
    rw [decide_eq_true hz]
    cases ng
    · rfl
    · simp at hok
  · rw [decide_eq_false hz]; simp
theorem wl_zero' (x : Int) : (Nm.wl x).length = 0 ↔ x = 0 := by
  unfold Nm.wl
  rw [Nm.lim_length_zero]
  omega
theorem ord_R32 (mode : Int) (z : Int) (e : Int) (hO : RdO 32 mode (Nm.wn z) (Nm.wl z) e = true) :
    0 ≤ RdB 32 mode (Nm.wn z) (Nm.wl z) e ∧ RdB 32 mode (Nm.wn z) (Nm.wl z) e < 4294967296 ∧ numB 32 (RdB 32 mode (Nm.wn z) (Nm.wl z) e) = true ∧
    ordI 32 (RdB 32 mode (Nm.wn z) (Nm.wl z) e) = if z < 0 then -1 - mgB 24 (-149) 2139095040 mode true z.natAbs e else if z = 0 then 0 else mgB 24 (-149) 2139095040 mode false z.natAbs e := by
  by_cases hz : z = 0
  · have h := (Rd_zero (fm := 32) (mode := mode) (ng := Nm.wn z) (e := e) ((wl_zero' z).2 hz)).1
    rw [h, if_neg (by omega), if_pos hz]
    exact ⟨by decide, by decide, by decide +kernel, by decide +kernel⟩
  · obtain ⟨b1, -⟩ := Rd_any32 mode (Nm.wn z) (Nm.wl z) e hO (fun h => hz ((wl_zero' z).1 h))
    rw [b1, Nm.val_wl, Int.toNat_natCast, mgB_eq]
    obtain ⟨m0, m1⟩ := mgB_bd (P := 24) (I := 2139095040) (q := (-149)) (mode := mode) (ng := Nm.wn z) (a := z.natAbs) (e := e) (by decide)
    have hb := sgn_abs32 m0 (by omega) (Nm.wn z)
    refine ⟨hb.1, hb.2.1, ?_, ?_⟩
    · unfold numB
      rw [cls32 hb.2.1]
      have e1 : sgn 2147483648 (mgB 24 (-149) 2139095040 mode (Nm.wn z) z.natAbs e) (Nm.wn z) % 2147483648 = mgB 24 (-149) 2139095040 mode (Nm.wn z) z.natAbs e := by
        unfold sgn; split <;> omega
      rw [e1]
      unfold clsY
      simp only [decide_eq_true_eq]
      repeat' split
      all_goals omega
    · rw [od32 hb.1 hb.2.1]
      unfold Nm.wn sgn
      by_cases hn : z < 0
      · have ht : decide (z < 0) = true := decide_eq_true hn
        unfold Nm.wn at m0 m1
        rw [ht] at m0 m1 ⊢
        simp only [if_true]
        rw [if_neg (by omega), if_pos hn]
        omega
      · have ht : decide (z < 0) = false := decide_eq_false hn
        unfold Nm.wn at m0 m1
        rw [ht] at m0 m1 ⊢
        simp only [Bool.false_eq_true, if_false]
        rw [if_pos (by omega), if_neg hn, if_neg hz]
theorem cmp_R32 (mode : Int) (z s : Int) (e : Int) (hO : RdO 32 mode (Nm.wn z) (Nm.wl z) e = true) (hO2 : RdO 32 mode (Nm.wn s) (Nm.wl s) e = true) (h : z < s) :
    cmpF 32 (RdB 32 mode (Nm.wn z) (Nm.wl z) e) (RdB 32 mode (Nm.wn s) (Nm.wl s) e) ≤ 0 := by
  obtain ⟨-, -, nx, ox⟩ := ord_R32 mode z e hO
  obtain ⟨-, -, ny, oy⟩ := ord_R32 mode s e hO2
  have bd : ∀ (ng : Bool) (a : Nat), 0 ≤ mgB 24 (-149) 2139095040 mode ng a e := fun ng a => (mgB_bd (P := 24) (I := 2139095040) (q := (-149)) (by decide)).1
  have mono : ∀ (ng : Bool) (a b : Nat), b ≠ 0 → a ≤ b → mgB 24 (-149) 2139095040 mode ng a e ≤ mgB 24 (-149) 2139095040 mode ng b e := fun ng a b hb hab => mgB_mono (by decide) (by decide) hb hab
  have hle : ordI 32 (RdB 32 mode (Nm.wn z) (Nm.wl z) e) ≤ ordI 32 (RdB 32 mode (Nm.wn s) (Nm.wl s) e) := by
    rw [ox, oy]
    have z1 := bd true z.natAbs
    have s1 := bd false s.natAbs
    by_cases hz : z < 0
    · rw [if_pos hz]
      by_cases hs : s < 0
      · rw [if_pos hs]
        have := mono true s.natAbs z.natAbs (by omega) (by omega)
        omega
      · rw [if_neg hs]
        split <;> omega
    · rw [if_neg hz, if_neg (show ¬ s < 0 by omega), if_neg (show ¬ s = 0 by omega)]
      split
      · exact s1
      · exact mono false z.natAbs s.natAbs (by omega) (by omega)
  unfold cmpF
  rw [nx, ny]
  simp only [Bool.and_self, if_true]
  split
  · decide
  · unfold cmpI
    split
    · decide
    · rw [if_neg (by omega)]; decide
theorem ord_R64 (mode : Int) (z : Int) (e : Int) (hO : RdO 64 mode (Nm.wn z) (Nm.wl z) e = true) :
    0 ≤ RdB 64 mode (Nm.wn z) (Nm.wl z) e ∧ RdB 64 mode (Nm.wn z) (Nm.wl z) e < 18446744073709551616 ∧ numB 64 (RdB 64 mode (Nm.wn z) (Nm.wl z) e) = true ∧
    ordI 64 (RdB 64 mode (Nm.wn z) (Nm.wl z) e) = if z < 0 then -1 - mgB 53 (-1074) 9218868437227405312 mode true z.natAbs e else if z = 0 then 0 else mgB 53 (-1074) 9218868437227405312 mode false z.natAbs e := by
  by_cases hz : z = 0
  · have h := (Rd_zero (fm := 64) (mode := mode) (ng := Nm.wn z) (e := e) ((wl_zero' z).2 hz)).1
    rw [h, if_neg (by omega), if_pos hz]
    exact ⟨by decide, by decide, by decide +kernel, by decide +kernel⟩
  · obtain ⟨b1, -⟩ := Rd_any64 mode (Nm.wn z) (Nm.wl z) e hO (fun h => hz ((wl_zero' z).1 h))
    rw [b1, Nm.val_wl, Int.toNat_natCast, mgB_eq]
    obtain ⟨m0, m1⟩ := mgB_bd (P := 53) (I := 9218868437227405312) (q := (-1074)) (mode := mode) (ng := Nm.wn z) (a := z.natAbs) (e := e) (by decide)
    have hb := sgn_abs64 m0 (by omega) (Nm.wn z)
    refine ⟨hb.1, hb.2.1, ?_, ?_⟩
    · unfold numB
      rw [cls64 ]
      have e1 : sgn 9223372036854775808 (mgB 53 (-1074) 9218868437227405312 mode (Nm.wn z) z.natAbs e) (Nm.wn z) % 9223372036854775808 = mgB 53 (-1074) 9218868437227405312 mode (Nm.wn z) z.natAbs e := by
        unfold sgn; split <;> omega
      rw [e1]
      unfold clsY
      simp only [decide_eq_true_eq]
      repeat' split
      all_goals omega
    · rw [od64 hb.1 hb.2.1]
      unfold Nm.wn sgn
      by_cases hn : z < 0
      · have ht : decide (z < 0) = true := decide_eq_true hn
        unfold Nm.wn at m0 m1
        rw [ht] at m0 m1 ⊢
        simp only [if_true]
        rw [if_neg (by omega), if_pos hn]
        omega
      · have ht : decide (z < 0) = false := decide_eq_false hn
        unfold Nm.wn at m0 m1
        rw [ht] at m0 m1 ⊢
        simp only [Bool.false_eq_true, if_false]
        rw [if_pos (by omega), if_neg hn, if_neg hz]
theorem cmp_R64 (mode : Int) (z s : Int) (e : Int) (hO : RdO 64 mode (Nm.wn z) (Nm.wl z) e = true) (hO2 : RdO 64 mode (Nm.wn s) (Nm.wl s) e = true) (h : z < s) :
    cmpF 64 (RdB 64 mode (Nm.wn z) (Nm.wl z) e) (RdB 64 mode (Nm.wn s) (Nm.wl s) e) ≤ 0 := by
  obtain ⟨-, -, nx, ox⟩ := ord_R64 mode z e hO
  obtain ⟨-, -, ny, oy⟩ := ord_R64 mode s e hO2
  have bd : ∀ (ng : Bool) (a : Nat), 0 ≤ mgB 53 (-1074) 9218868437227405312 mode ng a e := fun ng a => (mgB_bd (P := 53) (I := 9218868437227405312) (q := (-1074)) (by decide)).1
  have mono : ∀ (ng : Bool) (a b : Nat), b ≠ 0 → a ≤ b → mgB 53 (-1074) 9218868437227405312 mode ng a e ≤ mgB 53 (-1074) 9218868437227405312 mode ng b e := fun ng a b hb hab => mgB_mono (by decide) (by decide) hb hab
  have hle : ordI 64 (RdB 64 mode (Nm.wn z) (Nm.wl z) e) ≤ ordI 64 (RdB 64 mode (Nm.wn s) (Nm.wl s) e) := by
    rw [ox, oy]
    have z1 := bd true z.natAbs
    have s1 := bd false s.natAbs
    by_cases hz : z < 0
    · rw [if_pos hz]
      by_cases hs : s < 0
      · rw [if_pos hs]
        have := mono true s.natAbs z.natAbs (by omega) (by omega)
        omega
      · rw [if_neg hs]
        split <;> omega
    · rw [if_neg hz, if_neg (show ¬ s < 0 by omega), if_neg (show ¬ s = 0 by omega)]
      split
      · exact s1
      · exact mono false z.natAbs s.natAbs (by omega) (by omega)
  unfold cmpF
  rw [nx, ny]
  simp only [Bool.and_self, if_true]
  split
  · decide
  · unfold cmpI
    split
    · decide
    · rw [if_neg (by omega)]; decide
theorem mono_c {fm : Int} (hfm : fmtB fm = true) (mode : Int) (ng : Bool) (zs : List Int) (hd : Nm.Dg zs) (e n : Int) (hO : RdO fm 0 ng zs e = true) (hm : modeB mode = true) (hn : 1 ≤ n) (hf : Nm.fits (Nm.wv ng zs + n) = true) :
    0 ≤ RdB fm mode ng zs e ∧ RdB fm mode ng zs e < 18446744073709551616 ∧ 0 ≤ RdB fm mode (Nm.wn (Nm.wv ng zs + n)) (Nm.wl (Nm.wv ng zs + n)) e ∧ RdB fm mode (Nm.wn (Nm.wv ng zs + n)) (Nm.wl (Nm.wv ng zs + n)) e < 18446744073709551616 ∧
    cmpF fm (RdB fm mode ng zs e) (RdB fm mode (Nm.wn (Nm.wv ng zs + n)) (Nm.wl (Nm.wv ng zs + n)) e) ≤ 0 ∧ okB ng zs = true := by
  have o0 := hO
  unfold RdO at o0
  have hok : okB ng zs = true := by simp at o0; exact o0.1.2
  obtain ⟨w1, w2⟩ := wl_of_ok hd hok
  have hOm : RdO fm mode ng zs e = true := by unfold RdO; simp at o0 ⊢; exact ⟨⟨⟨o0.1.1.1, hm⟩, o0.1.2⟩, o0.2⟩
  have hok2 : okB (Nm.wn (Nm.wv ng zs + n)) (Nm.wl (Nm.wv ng zs + n)) = true := okB_wl (by unfold Nm.fits at hf; simpa using hf)
  have hO2 : RdO fm mode (Nm.wn (Nm.wv ng zs + n)) (Nm.wl (Nm.wv ng zs + n)) e = true := by unfold RdO; simp at o0 ⊢; exact ⟨⟨⟨o0.1.1.1, hm⟩, hok2⟩, o0.2⟩
  have hOz : RdO fm mode (Nm.wn (Nm.wv ng zs)) (Nm.wl (Nm.wv ng zs)) e = true := by rw [w1, w2]; exact hOm
  rcases fmt_cases hfm with rfl | rfl
  · have h := cmp_R32 mode (Nm.wv ng zs) (Nm.wv ng zs + n) e hOz hO2 (by omega)
    obtain ⟨p1, p2, -, -⟩ := ord_R32 mode (Nm.wv ng zs) e hOz
    obtain ⟨r1, r2, -, -⟩ := ord_R32 mode (Nm.wv ng zs + n) e hO2
    rw [w1, w2] at h p1 p2
    exact ⟨p1, by omega, r1, by omega, h, hok⟩
  · have h := cmp_R64 mode (Nm.wv ng zs) (Nm.wv ng zs + n) e hOz hO2 (by omega)
    obtain ⟨p1, p2, -, -⟩ := ord_R64 mode (Nm.wv ng zs) e hOz
    obtain ⟨r1, r2, -, -⟩ := ord_R64 mode (Nm.wv ng zs + n) e hO2
    rw [w1, w2] at h p1 p2
    exact ⟨p1, p2, r1, r2, h, hok⟩
end Fd
end Go.Proofs.YtpalbhkihheogaaGreatDoor
