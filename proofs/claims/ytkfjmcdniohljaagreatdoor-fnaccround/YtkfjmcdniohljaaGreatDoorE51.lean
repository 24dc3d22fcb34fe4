/-
  What is needed of FloatO, AccI.
-/
import Derived.Test.YtkfjmcdniohljaaGreatDoorE24
import Derived.Test.YtkfjmcdniohljaaGreatDoorE49
set_option maxHeartbeats 16000000
set_option maxRecDepth 1000000
namespace Go.Proofs.YtkfjmcdniohljaaGreatDoor
set_option linter.unusedVariables false
set_option linter.unusedSimpArgs false
open Go.RowKit
theorem spec_l2Parts (fm x : Int) (w : World) (hf : finB fm x = true) (h0 : 0 ≤ x) (h1 : x < 18446744073709551616) :
    Calls Tryz.prog 77 #[.int .i64 fm, .int .u64 x] w fun e w' => e = .returned (.agg #[.bool (pS fm x), .int .i64 (pM fm x), .int .i64 (pE fm x)]) ∧ Below w.heap.size w w' := by
  have ho : okF fm x = true := by
    cases ho : okF fm x
    · rw [fin_no ho] at hf; cases hf
    · rfl
  rcases okF_cases ho with ⟨rfl, hx⟩ | rfl
  · refine (spec_l2Parts32 x w h0 hx).mono ?_
    rintro e w1 ⟨rfl, hb1⟩
    exact ⟨ret_p3 (by unfold pS; rw [hf]; rfl) (by unfold pM; rw [hf]; rfl) (by unfold pE; rw [hf]; rfl), hb1⟩
  · refine (spec_l2Parts64 x w h0 h1).mono ?_
    rintro e w1 ⟨rfl, hb1⟩
    exact ⟨ret_p3 (by unfold pS; rw [hf]; rfl) (by unfold pM; rw [hf]; rfl) (by unfold pE; rw [hf]; rfl), hb1⟩
theorem spec_parts (fm x : Int) (w : World) (h0 : 0 ≤ x) (h1 : x < 18446744073709551616) :
    Calls Tryz.prog 108 #[.int .i64 fm, .int .u64 x] w fun e w' => e = .returned (.tuple #[.agg #[.bool (pS fm x), .int .i64 (pM fm x), .int .i64 (pE fm x)], .bool (finB fm x)]) ∧ Below w.heap.size w w' := by
  cases hf : finB fm x
  · have HS : Hid (false = pS fm x) := hid (by unfold pS; rw [hf]; rfl)
    have HM : Hid (0 = pM fm x) := hid (by unfold pM; rw [hf]; rfl)
    have HE : Hid (0 = pE fm x) := hid (by unfold pE; rw [hf]; rfl)
    go_enter Tryz.func108, Tryz.ntmps108
    go_wp2_with fail
    refine (spec_fin fm x _ h0 h1).mono ?_
    rintro e w1 ⟨rfl, hb1⟩
    obtain ⟨rc0, rc1, rc2, rf0, rf1, rf2⟩ := (R3.new w (.bool false) (.int .i64 0) (.int .i64 0) 89).below hb1
    go_wp2
    exact bodyPost_ret (v := .tuple #[.agg #[.bool false, .int .i64 0, .int .i64 0], .bool false]) (by simp [results, Tryz.results108, go_sem, rc0, rc1, rc2]) rfl ⟨ret_p4 HS.out HM.out HE.out rfl, (by repeat (first | exact bz0 _ _ | refine bz1 ?_ | refine bz2 ?_ _ | refine bz3 ?_ _ | refine bz4 ?_ hb1 | refine bz5 ?_ _ | refine bz6 ?_ _ | refine bz7 ?_ hb1))⟩
  · have HF := hid hf
    go_enter Tryz.func108, Tryz.ntmps108
    go_wp2_with fail
    refine (spec_fin fm x _ h0 h1).mono ?_
    rintro e w1 ⟨rfl, hb1⟩
    have r1 := (R3.new w (.bool false) (.int .i64 0) (.int .i64 0) 89).below hb1
    go_wp2_with fail
    refine (spec_l2Parts fm x _ HF.out h0 h1).mono ?_
    rintro e w2 ⟨rfl, hb2⟩
    obtain ⟨rc0, rc1, rc2, rf0, rf1, rf2⟩ := r1.below hb2
    go_wp2
    exact bodyPost_ret (v := .tuple #[.agg #[.bool (pS fm x), .int .i64 (pM fm x), .int .i64 (pE fm x)], .bool true]) (by simp [results, Tryz.results108, go_sem, rc0, rc1, rc2]) rfl ⟨rfl, (by repeat (first | exact bz0 _ _ | refine bz1 ?_ | refine bz2 ?_ _ | refine bz3 ?_ _ | refine bz4 ?_ hb2 | refine bz4 ?_ hb1 | refine bz5 ?_ _ | refine bz6 ?_ _ | refine bz7 ?_ hb2 | refine bz7 ?_ hb1))⟩
end Go.Proofs.YtkfjmcdniohljaaGreatDoor
namespace Go.Proofs.YtkfjmcdniohljaaGreatDoor
set_option linter.unusedVariables false
set_option linter.unusedSimpArgs false
open Go.RowKit Go.Deep
theorem bad_nn {fm : Int} {ng : Bool} {zs : List Int} {T : Int} {nn bd pl mi am : Bool} (h : accB fm ng zs T nn bd pl mi am = true) : bd = true → nn = true := by
  unfold accB mkB at h
  simp only [Bool.and_eq_true] at h
  have h1 := h.1.1.1.2.1.1.2
  cases bd <;> cases nn <;> simp at h1 ⊢
theorem nanS32 (w : World) :
    Calls Tryz.prog 174 #[.int .i64 32] w fun e w' => e = .returned (.int .u64 2143289344) ∧ Below w.heap.size w w' := by
  go_enter Tryz.func174, Tryz.ntmps174
  go_wp2
  go_ret
  exact ⟨rfl, (by repeat (first | exact bz0 _ _ | refine bz1 ?_ | refine bz2 ?_ _ | refine bz3 ?_ _ | refine bz5 ?_ _ | refine bz6 ?_ _))⟩
theorem l3r_at32 (mode : Int) (ng : Bool) (zs : List Int) (e : Int) (p : Option Addr) (cap : Nat) (w : World) (hs : Sl .u32 w (.slice p zs.length cap) zs) (hz : Nm.Dg zs) (h0 : zs.length ≠ 0) (ho : RdO 32 mode ng zs e = true) :
    Calls Tryz.prog 209 #[.int .i64 32, .int .i64 mode, .agg #[.bool ng, .slice p zs.length cap], .int .i64 e] w fun x w' => x = .returned (.tuple #[.int .u64 (RdB 32 mode ng zs e), .int .i64 (RdF 32 mode ng zs e)]) ∧ Below w.heap.size w w' := by
  have hk := ho
  unfold RdO at hk
  simp only [Bool.and_eq_true] at hk
  obtain ⟨⟨⟨k1, k2⟩, k3⟩, k4⟩ := hk
  have k5 := inZ_yes k4
  obtain ⟨hzl, hbl⟩ := lim_ok hz k3
  have ha : (Nm.val zs).toNat ≠ 0 := by
    intro h; rw [h, Nm.lim_zero] at hzl; rw [hzl] at h0; exact h0 rfl
  have hB : RdB 32 mode ng zs e = rdB 24 (-149) 2139095040 2147483648 mode ng (Nm.val zs).toNat e := by unfold RdB; rw [ho, if_pos rfl, if_neg h0]; rfl
  have hF : RdF 32 mode ng zs e = rdF 24 (-149) 2139095040 mode ng (Nm.val zs).toNat e := by unfold RdF; rw [ho, if_pos rfl, if_neg h0]; rfl
  rw [hB, hF]
  obtain ⟨a, haz⟩ : ∃ a, a = (Nm.val zs).toNat := ⟨_, rfl⟩
  rw [← haz] at hzl hbl ha ⊢
  clear hB hF haz ho k3 hz h0
  subst hzl
  exact l3r_32 mode ng a e p cap w hs k2 ha (by omega) (by omega) (by omega)
theorem close_32 (fm : Int) (hf : fm = 32) (ng0 : Bool) (p0 : Option Addr) (n0 cap0 : Nat) (T : Int) (nn bd pl mi am : Bool) (mode : Int) (ng : Bool) (zs : List Int) (e : Int) (p : Option Addr) (cap : Nat) (w : World) (hs : Sl .u32 w (.slice p zs.length cap) zs) (hz : Nm.Dg zs) (hl : zs.length ≤ 1048576) (rb rf : Int) (hrb : rb = RdB 32 mode ng zs e) (hrf : rf = RdF 32 mode ng zs e) (hro : RdO 32 mode ng zs e = true) (hbn : bd = true → nn = true) :
    Calls Tryz.prog 153 #[.agg #[.int .i64 fm, .bool ng0, .slice p0 n0 cap0, .int .i64 T, .bool nn, .bool bd, .bool pl, .bool mi, .bool am], .int .i64 mode, .agg #[.bool ng, .slice p zs.length cap], .int .i64 e] w fun x w' => x = .returned (.tuple #[.int .u64 (clB 2143289344 2139095040 2147483648 mode T nn bd pl mi am (decide (zs.length = 0)) rb), .int .i64 (clF nn bd pl mi (decide (zs.length = 0)) rf)]) ∧ Below w.heap.size w w' := by
  subst hf
  have CR := hid (fun h0 w' h => l3r_at32 mode ng zs e p cap w' h hz h0 hro)
  rw [← hrb, ← hrf] at CR
  clear hrb hrf hro hz
  obtain ⟨z, hz0⟩ : ∃ z, z = decide (zs.length = 0) := ⟨_, rfl⟩
  rw [← hz0]
  have hb0 : ((zs.length : Int) == 0) = z := by rw [hz0, Bool.eq_iff_iff, beq_iff_eq, decide_eq_true_eq]; omega
  have HZ : Hid (z = false → zs.length ≠ 0) := hid (fun h => by rw [h] at hz0; exact of_decide_eq_false hz0.symm)
  clear hz0
  cases hpm : (pl && mi) with
  | true =>
    obtain ⟨rfl, rfl⟩ : pl = true ∧ mi = true := by simpa using hpm
    have HR := hid (cl_pm 2143289344 2139095040 2147483648 mode T nn bd am z rb rf)
    clear CR hpm hbn HZ
    cases nn <;> cases bd <;>
    · go_enter Tryz.func153, Tryz.ntmps153
      go_wp2_with fail
      refine (nanS32 _).mono ?_
      rintro x w1 ⟨rfl, hb1⟩
      go_wp2
      go_ret2
      exact ⟨ret_ui HR.out.1.symm HR.out.2.symm, (by repeat (first | exact bz0 _ _ | refine bz1 ?_ | refine bz2 ?_ _ | refine bz3 ?_ _ | refine bz4 ?_ hb1 | refine bz5 ?_ _ | refine bz6 ?_ _ | refine bz7 ?_ hb1))⟩
  | false =>
  cases nn with
  | true =>
    clear CR hbn HZ
    cases bd with
    | true =>
      have HR := hid (cl_bd 2143289344 2139095040 2147483648 mode T true pl mi am z rb rf)
      clear hpm
      go_enter Tryz.func153, Tryz.ntmps153
      go_wp2_with fail
      refine (nanS32 _).mono ?_
      rintro x w1 ⟨rfl, hb1⟩
      go_wp2
      go_ret2
      exact ⟨ret_ui HR.out.1.symm HR.out.2.symm, (by repeat (first | exact bz0 _ _ | refine bz1 ?_ | refine bz2 ?_ _ | refine bz3 ?_ _ | refine bz4 ?_ hb1 | refine bz5 ?_ _ | refine bz6 ?_ _ | refine bz7 ?_ hb1))⟩
    | false =>
      have HR := hid (cl_nn 2143289344 2139095040 2147483648 mode T pl mi am z hpm rb rf)
      cases pl with
      | false =>
        clear hpm
        go_enter Tryz.func153, Tryz.ntmps153
        go_wp2_with fail
        refine (nanS32 _).mono ?_
        rintro x w1 ⟨rfl, hb1⟩
        go_wp2
        go_ret2
        exact ⟨ret_ui HR.out.1.symm HR.out.2.symm, (by repeat (first | exact bz0 _ _ | refine bz1 ?_ | refine bz2 ?_ _ | refine bz3 ?_ _ | refine bz4 ?_ hb1 | refine bz5 ?_ _ | refine bz6 ?_ _ | refine bz7 ?_ hb1))⟩
      | true =>
        obtain rfl : mi = false := by simpa using hpm
        clear hpm
        go_enter Tryz.func153, Tryz.ntmps153
        go_wp2_with fail
        refine (nanS32 _).mono ?_
        rintro x w1 ⟨rfl, hb1⟩
        go_wp2
        go_ret2
        exact ⟨ret_ui HR.out.1.symm HR.out.2.symm, (by repeat (first | exact bz0 _ _ | refine bz1 ?_ | refine bz2 ?_ _ | refine bz3 ?_ _ | refine bz4 ?_ hb1 | refine bz5 ?_ _ | refine bz6 ?_ _ | refine bz7 ?_ hb1))⟩
  | false =>
  cases bd with
  | true => exact absurd (hbn rfl) (by decide)
  | false =>
  clear hbn
  cases hq : (pl || mi) with
  | true =>
    have HR : Hid (clB 2143289344 2139095040 2147483648 mode T false false pl mi am z rb = sgn 2147483648 2139095040 mi ∧ clF false false pl mi z rf = 0) := hid (by cases pl <;> cases mi <;> first | exact ⟨rfl, rfl⟩ | (exfalso; revert hpm; decide) | (exfalso; revert hq; decide))
    clear CR HZ
    cases pl with
    | true =>
      obtain rfl : mi = false := by simpa using hpm
      clear hpm hq
      go_enter Tryz.func153, Tryz.ntmps153
      go_wp2_with fail
      have X := (Q9.new w (.int .i64 32) (.bool ng0) (.slice p0 n0 cap0) (.int .i64 T) (.bool false) (.bool false) (.bool true) (.bool false) (.bool am) 50).alloc (.cells #[.bool ng, .slice p zs.length cap] 32)
      have c0 := X.c0
      have c7 := X.c7
      go_region_held3 (fun w' => w'.cell? ⟨w.heap.size, 0, none⟩ = some (.int .i64 32) ∧ w'.cell? ⟨w.heap.size, 7, none⟩ = some (.bool false)) (first | assumption | exact ⟨c0, c7⟩)
        (first
          | (go_at_call 165; refine (infS32 _).mono ?_; rintro x q1 ⟨rfl, hq1⟩; have f1 := And.intro (X.drew.below hq1).c0 (X.drew.below hq1).c7)
          | (go_at_call 88; refine (with_32 2139095040 false _ (fun _ => by decide)).mono ?_; rintro x q2 ⟨rfl, hq2⟩; have f2 := And.intro ((X.drew.below hq1).below hq2).c0 ((X.drew.below hq1).below hq2).c7))
      go_wp2
      go_ret2
      exact ⟨ret_ui HR.out.1.symm HR.out.2.symm, (by repeat (first | exact bz0 _ _ | refine bz1 ?_ | refine bz2 ?_ _ | refine bz3 ?_ _ | refine bz4 ?_ hq2 | refine bz4 ?_ hq1 | refine bz5 ?_ _ | refine bz6 ?_ _ | refine bz7 ?_ hq2 | refine bz7 ?_ hq1))⟩
    | false =>
      obtain rfl : mi = true := by simpa using hq
      clear hpm hq
      go_enter Tryz.func153, Tryz.ntmps153
      go_wp2_with fail
      have X := (Q9.new w (.int .i64 32) (.bool ng0) (.slice p0 n0 cap0) (.int .i64 T) (.bool false) (.bool false) (.bool false) (.bool true) (.bool am) 50).alloc (.cells #[.bool ng, .slice p zs.length cap] 32)
      have c0 := X.c0
      have c7 := X.c7
      go_region_held3 (fun w' => w'.cell? ⟨w.heap.size, 0, none⟩ = some (.int .i64 32) ∧ w'.cell? ⟨w.heap.size, 7, none⟩ = some (.bool true)) (first | assumption | exact ⟨c0, c7⟩)
        (first
          | (go_at_call 165; refine (infS32 _).mono ?_; rintro x q1 ⟨rfl, hq1⟩; have f1 := And.intro (X.drew.below hq1).c0 (X.drew.below hq1).c7)
          | (go_at_call 88; refine (with_32 2139095040 true _ (fun _ => by decide)).mono ?_; rintro x q2 ⟨rfl, hq2⟩; have f2 := And.intro ((X.drew.below hq1).below hq2).c0 ((X.drew.below hq1).below hq2).c7))
      go_wp2
      go_ret2
      exact ⟨ret_ui HR.out.1.symm HR.out.2.symm, (by repeat (first | exact bz0 _ _ | refine bz1 ?_ | refine bz2 ?_ _ | refine bz3 ?_ _ | refine bz4 ?_ hq2 | refine bz4 ?_ hq1 | refine bz5 ?_ _ | refine bz6 ?_ _ | refine bz7 ?_ hq2 | refine bz7 ?_ hq1))⟩
  | false =>
  obtain ⟨rfl, rfl⟩ : pl = false ∧ mi = false := by simpa using hq
  clear hpm hq
  cases z with
  | false =>
    have HR := hid (cl_r 2143289344 2139095040 2147483648 mode T am rb rf)
    have hz1 := HZ.out rfl
    have CR := hid (CR.out hz1)
    clear HZ hz1
    go_enter Tryz.func153, Tryz.ntmps153
    go_wp2_with fail
    refine (CR.out _ ((hs.alloc _).alloc _)).mono ?_
    rintro x w1 ⟨rfl, hb1⟩
    go_wp2
    go_ret2
    exact ⟨ret_ui HR.out.1.symm HR.out.2.symm, (by repeat (first | exact bz0 _ _ | refine bz1 ?_ | refine bz2 ?_ _ | refine bz3 ?_ _ | refine bz4 ?_ hb1 | refine bz5 ?_ _ | refine bz6 ?_ _ | refine bz7 ?_ hb1))⟩
  | true =>
    have HR := hid (cl_z 2143289344 2139095040 2147483648 mode T am rb rf)
    clear CR HZ
    cases am with
    | true =>
      go_enter Tryz.func153, Tryz.ntmps153
      go_wp2_with fail
      refine (with_32 0 true _ (fun _ => by decide)).mono ?_
      rintro x w1 ⟨rfl, hb1⟩
      go_wp2
      go_ret2
      exact ⟨ret_ui HR.out.1.symm HR.out.2.symm, (by repeat (first | exact bz0 _ _ | refine bz1 ?_ | refine bz2 ?_ _ | refine bz3 ?_ _ | refine bz4 ?_ hb1 | refine bz5 ?_ _ | refine bz6 ?_ _ | refine bz7 ?_ hb1))⟩
    | false =>
      by_cases hm3 : mode = 3
      · subst hm3
        by_cases ht : 0 < T
        · rw [decide_eq_true ht] at HR
          go_enter Tryz.func153, Tryz.ntmps153
          go_wp2_with fail
          refine (with_32 0 true _ (fun _ => by decide)).mono ?_
          rintro x w1 ⟨rfl, hb1⟩
          go_wp2
          go_ret2
          exact ⟨ret_ui HR.out.1.symm HR.out.2.symm, (by repeat (first | exact bz0 _ _ | refine bz1 ?_ | refine bz2 ?_ _ | refine bz3 ?_ _ | refine bz4 ?_ hb1 | refine bz5 ?_ _ | refine bz6 ?_ _ | refine bz7 ?_ hb1))⟩
        · rw [decide_eq_false ht] at HR
          go_enter Tryz.func153, Tryz.ntmps153
          go_wp2_with fail
          refine (with_32 0 false _ (fun h => by cases h)).mono ?_
          rintro x w1 ⟨rfl, hb1⟩
          go_wp2
          go_ret2
          exact ⟨ret_ui HR.out.1.symm HR.out.2.symm, (by repeat (first | exact bz0 _ _ | refine bz1 ?_ | refine bz2 ?_ _ | refine bz3 ?_ _ | refine bz4 ?_ hb1 | refine bz5 ?_ _ | refine bz6 ?_ _ | refine bz7 ?_ hb1))⟩
      · have hm3' : (mode == 3) = false := by simpa using hm3
        rw [decide_eq_false hm3] at HR
        clear hm3
        go_enter Tryz.func153, Tryz.ntmps153
        go_wp2_with fail
        refine (with_32 0 false _ (fun h => by cases h)).mono ?_
        rintro x w1 ⟨rfl, hb1⟩
        go_wp2
        go_ret2
        exact ⟨ret_ui HR.out.1.symm HR.out.2.symm, (by repeat (first | exact bz0 _ _ | refine bz1 ?_ | refine bz2 ?_ _ | refine bz3 ?_ _ | refine bz4 ?_ hb1 | refine bz5 ?_ _ | refine bz6 ?_ _ | refine bz7 ?_ hb1))⟩
theorem nanS64 (w : World) :
    Calls Tryz.prog 174 #[.int .i64 64] w fun e w' => e = .returned (.int .u64 9221120237041090560) ∧ Below w.heap.size w w' := by
  go_enter Tryz.func174, Tryz.ntmps174
  go_wp2
  go_ret
  exact ⟨rfl, (by repeat (first | exact bz0 _ _ | refine bz1 ?_ | refine bz2 ?_ _ | refine bz3 ?_ _ | refine bz5 ?_ _ | refine bz6 ?_ _))⟩
theorem l3r_at64 (mode : Int) (ng : Bool) (zs : List Int) (e : Int) (p : Option Addr) (cap : Nat) (w : World) (hs : Sl .u32 w (.slice p zs.length cap) zs) (hz : Nm.Dg zs) (h0 : zs.length ≠ 0) (ho : RdO 64 mode ng zs e = true) :
    Calls Tryz.prog 209 #[.int .i64 64, .int .i64 mode, .agg #[.bool ng, .slice p zs.length cap], .int .i64 e] w fun x w' => x = .returned (.tuple #[.int .u64 (RdB 64 mode ng zs e), .int .i64 (RdF 64 mode ng zs e)]) ∧ Below w.heap.size w w' := by
  have hk := ho
  unfold RdO at hk
  simp only [Bool.and_eq_true] at hk
  obtain ⟨⟨⟨k1, k2⟩, k3⟩, k4⟩ := hk
  have k5 := inZ_yes k4
  obtain ⟨hzl, hbl⟩ := lim_ok hz k3
  have ha : (Nm.val zs).toNat ≠ 0 := by
    intro h; rw [h, Nm.lim_zero] at hzl; rw [hzl] at h0; exact h0 rfl
  have hB : RdB 64 mode ng zs e = rdB 53 (-1074) 9218868437227405312 9223372036854775808 mode ng (Nm.val zs).toNat e := by unfold RdB; rw [ho, if_pos rfl, if_neg h0]; rfl
  have hF : RdF 64 mode ng zs e = rdF 53 (-1074) 9218868437227405312 mode ng (Nm.val zs).toNat e := by unfold RdF; rw [ho, if_pos rfl, if_neg h0]; rfl
  rw [hB, hF]
  obtain ⟨a, haz⟩ : ∃ a, a = (Nm.val zs).toNat := ⟨_, rfl⟩
  rw [← haz] at hzl hbl ha ⊢
  clear hB hF haz ho k3 hz h0
  subst hzl
  exact l3r_64 mode ng a e p cap w hs k2 ha (by omega) (by omega) (by omega)
theorem close_64 (fm : Int) (hf : fm = 64) (ng0 : Bool) (p0 : Option Addr) (n0 cap0 : Nat) (T : Int) (nn bd pl mi am : Bool) (mode : Int) (ng : Bool) (zs : List Int) (e : Int) (p : Option Addr) (cap : Nat) (w : World) (hs : Sl .u32 w (.slice p zs.length cap) zs) (hz : Nm.Dg zs) (hl : zs.length ≤ 1048576) (rb rf : Int) (hrb : rb = RdB 64 mode ng zs e) (hrf : rf = RdF 64 mode ng zs e) (hro : RdO 64 mode ng zs e = true) (hbn : bd = true → nn = true) :
    Calls Tryz.prog 153 #[.agg #[.int .i64 fm, .bool ng0, .slice p0 n0 cap0, .int .i64 T, .bool nn, .bool bd, .bool pl, .bool mi, .bool am], .int .i64 mode, .agg #[.bool ng, .slice p zs.length cap], .int .i64 e] w fun x w' => x = .returned (.tuple #[.int .u64 (clB 9221120237041090560 9218868437227405312 9223372036854775808 mode T nn bd pl mi am (decide (zs.length = 0)) rb), .int .i64 (clF nn bd pl mi (decide (zs.length = 0)) rf)]) ∧ Below w.heap.size w w' := by
  subst hf
  have CR := hid (fun h0 w' h => l3r_at64 mode ng zs e p cap w' h hz h0 hro)
  rw [← hrb, ← hrf] at CR
  clear hrb hrf hro hz
  obtain ⟨z, hz0⟩ : ∃ z, z = decide (zs.length = 0) := ⟨_, rfl⟩
  rw [← hz0]
  have hb0 : ((zs.length : Int) == 0) = z := by rw [hz0, Bool.eq_iff_iff, beq_iff_eq, decide_eq_true_eq]; omega
  have HZ : Hid (z = false → zs.length ≠ 0) := hid (fun h => by rw [h] at hz0; exact of_decide_eq_false hz0.symm)
  clear hz0
  cases hpm : (pl && mi) with
  | true =>
    obtain ⟨rfl, rfl⟩ : pl = true ∧ mi = true := by simpa using hpm
    have HR := hid (cl_pm 9221120237041090560 9218868437227405312 9223372036854775808 mode T nn bd am z rb rf)
    clear CR hpm hbn HZ
    cases nn <;> cases bd <;>
    · go_enter Tryz.func153, Tryz.ntmps153
      go_wp2_with fail
      refine (nanS64 _).mono ?_
      rintro x w1 ⟨rfl, hb1⟩
      go_wp2
      go_ret2
      exact ⟨ret_ui HR.out.1.symm HR.out.2.symm, (by repeat (first | exact bz0 _ _ | refine bz1 ?_ | refine bz2 ?_ _ | refine bz3 ?_ _ | refine bz4 ?_ hb1 | refine bz5 ?_ _ | refine bz6 ?_ _ | refine bz7 ?_ hb1))⟩
  | false =>
  cases nn with
  | true =>
    clear CR hbn HZ
    cases bd with
    | true =>
      have HR := hid (cl_bd 9221120237041090560 9218868437227405312 9223372036854775808 mode T true pl mi am z rb rf)
      clear hpm
      go_enter Tryz.func153, Tryz.ntmps153
      go_wp2_with fail
      refine (nanS64 _).mono ?_
      rintro x w1 ⟨rfl, hb1⟩
      go_wp2
      go_ret2
      exact ⟨ret_ui HR.out.1.symm HR.out.2.symm, (by repeat (first | exact bz0 _ _ | refine bz1 ?_ | refine bz2 ?_ _ | refine bz3 ?_ _ | refine bz4 ?_ hb1 | refine bz5 ?_ _ | refine bz6 ?_ _ | refine bz7 ?_ hb1))⟩
    | false =>
      have HR := hid (cl_nn 9221120237041090560 9218868437227405312 9223372036854775808 mode T pl mi am z hpm rb rf)
      cases pl with
      | false =>
        clear hpm
        go_enter Tryz.func153, Tryz.ntmps153
        go_wp2_with fail
        refine (nanS64 _).mono ?_
        rintro x w1 ⟨rfl, hb1⟩
        go_wp2
        go_ret2
        exact ⟨ret_ui HR.out.1.symm HR.out.2.symm, (by repeat (first | exact bz0 _ _ | refine bz1 ?_ | refine bz2 ?_ _ | refine bz3 ?_ _ | refine bz4 ?_ hb1 | refine bz5 ?_ _ | refine bz6 ?_ _ | refine bz7 ?_ hb1))⟩
      | true =>
        obtain rfl : mi = false := by simpa using hpm
        clear hpm
        go_enter Tryz.func153, Tryz.ntmps153
        go_wp2_with fail
        refine (nanS64 _).mono ?_
        rintro x w1 ⟨rfl, hb1⟩
        go_wp2
        go_ret2
        exact ⟨ret_ui HR.out.1.symm HR.out.2.symm, (by repeat (first | exact bz0 _ _ | refine bz1 ?_ | refine bz2 ?_ _ | refine bz3 ?_ _ | refine bz4 ?_ hb1 | refine bz5 ?_ _ | refine bz6 ?_ _ | refine bz7 ?_ hb1))⟩
  | false =>
  cases bd with
  | true => exact absurd (hbn rfl) (by decide)
  | false =>
  clear hbn
  cases hq : (pl || mi) with
  | true =>
    have HR : Hid (clB 9221120237041090560 9218868437227405312 9223372036854775808 mode T false false pl mi am z rb = sgn 9223372036854775808 9218868437227405312 mi ∧ clF false false pl mi z rf = 0) := hid (by cases pl <;> cases mi <;> first | exact ⟨rfl, rfl⟩ | (exfalso; revert hpm; decide) | (exfalso; revert hq; decide))
    clear CR HZ
    cases pl with
    | true =>
      obtain rfl : mi = false := by simpa using hpm
      clear hpm hq
      go_enter Tryz.func153, Tryz.ntmps153
      go_wp2_with fail
      have X := (Q9.new w (.int .i64 64) (.bool ng0) (.slice p0 n0 cap0) (.int .i64 T) (.bool false) (.bool false) (.bool true) (.bool false) (.bool am) 50).alloc (.cells #[.bool ng, .slice p zs.length cap] 32)
      have c0 := X.c0
      have c7 := X.c7
      go_region_held3 (fun w' => w'.cell? ⟨w.heap.size, 0, none⟩ = some (.int .i64 64) ∧ w'.cell? ⟨w.heap.size, 7, none⟩ = some (.bool false)) (first | assumption | exact ⟨c0, c7⟩)
        (first
          | (go_at_call 165; refine (infS64 _).mono ?_; rintro x q1 ⟨rfl, hq1⟩; have f1 := And.intro (X.drew.below hq1).c0 (X.drew.below hq1).c7)
          | (go_at_call 88; refine (with_64 9218868437227405312 false _ (fun _ => by decide)).mono ?_; rintro x q2 ⟨rfl, hq2⟩; have f2 := And.intro ((X.drew.below hq1).below hq2).c0 ((X.drew.below hq1).below hq2).c7))
      go_wp2
      go_ret2
      exact ⟨ret_ui HR.out.1.symm HR.out.2.symm, (by repeat (first | exact bz0 _ _ | refine bz1 ?_ | refine bz2 ?_ _ | refine bz3 ?_ _ | refine bz4 ?_ hq2 | refine bz4 ?_ hq1 | refine bz5 ?_ _ | refine bz6 ?_ _ | refine bz7 ?_ hq2 | refine bz7 ?_ hq1))⟩
    | false =>
      obtain rfl : mi = true := by simpa using hq
      clear hpm hq
      go_enter Tryz.func153, Tryz.ntmps153
      go_wp2_with fail
      have X := (Q9.new w (.int .i64 64) (.bool ng0) (.slice p0 n0 cap0) (.int .i64 T) (.bool false) (.bool false) (.bool false) (.bool true) (.bool am) 50).alloc (.cells #[.bool ng, .slice p zs.length cap] 32)
      have c0 := X.c0
      have c7 := X.c7
      go_region_held3 (fun w' => w'.cell? ⟨w.heap.size, 0, none⟩ = some (.int .i64 64) ∧ w'.cell? ⟨w.heap.size, 7, none⟩ = some (.bool true)) (first | assumption | exact ⟨c0, c7⟩)
        (first
          | (go_at_call 165; refine (infS64 _).mono ?_; rintro x q1 ⟨rfl, hq1⟩; have f1 := And.intro (X.drew.below hq1).c0 (X.drew.below hq1).c7)
          | (go_at_call 88; refine (with_64 9218868437227405312 true _ (fun _ => by decide)).mono ?_; rintro x q2 ⟨rfl, hq2⟩; have f2 := And.intro ((X.drew.below hq1).below hq2).c0 ((X.drew.below hq1).below hq2).c7))
      go_wp2
      go_ret2
      exact ⟨ret_ui HR.out.1.symm HR.out.2.symm, (by repeat (first | exact bz0 _ _ | refine bz1 ?_ | refine bz2 ?_ _ | refine bz3 ?_ _ | refine bz4 ?_ hq2 | refine bz4 ?_ hq1 | refine bz5 ?_ _ | refine bz6 ?_ _ | refine bz7 ?_ hq2 | refine bz7 ?_ hq1))⟩
  | false =>
  obtain ⟨rfl, rfl⟩ : pl = false ∧ mi = false := by simpa using hq
  clear hpm hq
  cases z with
  | false =>
    have HR := hid (cl_r 9221120237041090560 9218868437227405312 9223372036854775808 mode T am rb rf)
    have hz1 := HZ.out rfl
    have CR := hid (CR.out hz1)
    clear HZ hz1
    go_enter Tryz.func153, Tryz.ntmps153
    go_wp2_with fail
    refine (CR.out _ ((hs.alloc _).alloc _)).mono ?_
    rintro x w1 ⟨rfl, hb1⟩
    go_wp2
    go_ret2
    exact ⟨ret_ui HR.out.1.symm HR.out.2.symm, (by repeat (first | exact bz0 _ _ | refine bz1 ?_ | refine bz2 ?_ _ | refine bz3 ?_ _ | refine bz4 ?_ hb1 | refine bz5 ?_ _ | refine bz6 ?_ _ | refine bz7 ?_ hb1))⟩
  | true =>
    have HR := hid (cl_z 9221120237041090560 9218868437227405312 9223372036854775808 mode T am rb rf)
    clear CR HZ
    cases am with
    | true =>
      go_enter Tryz.func153, Tryz.ntmps153
      go_wp2_with fail
      refine (with_64 0 true _ (fun _ => by decide)).mono ?_
      rintro x w1 ⟨rfl, hb1⟩
      go_wp2
      go_ret2
      exact ⟨ret_ui HR.out.1.symm HR.out.2.symm, (by repeat (first | exact bz0 _ _ | refine bz1 ?_ | refine bz2 ?_ _ | refine bz3 ?_ _ | refine bz4 ?_ hb1 | refine bz5 ?_ _ | refine bz6 ?_ _ | refine bz7 ?_ hb1))⟩
    | false =>
      by_cases hm3 : mode = 3
      · subst hm3
        by_cases ht : 0 < T
        · rw [decide_eq_true ht] at HR
          go_enter Tryz.func153, Tryz.ntmps153
          go_wp2_with fail
          refine (with_64 0 true _ (fun _ => by decide)).mono ?_
          rintro x w1 ⟨rfl, hb1⟩
          go_wp2
          go_ret2
          exact ⟨ret_ui HR.out.1.symm HR.out.2.symm, (by repeat (first | exact bz0 _ _ | refine bz1 ?_ | refine bz2 ?_ _ | refine bz3 ?_ _ | refine bz4 ?_ hb1 | refine bz5 ?_ _ | refine bz6 ?_ _ | refine bz7 ?_ hb1))⟩
        · rw [decide_eq_false ht] at HR
          go_enter Tryz.func153, Tryz.ntmps153
          go_wp2_with fail
          refine (with_64 0 false _ (fun h => by cases h)).mono ?_
          rintro x w1 ⟨rfl, hb1⟩
          go_wp2
          go_ret2
          exact ⟨ret_ui HR.out.1.symm HR.out.2.symm, (by repeat (first | exact bz0 _ _ | refine bz1 ?_ | refine bz2 ?_ _ | refine bz3 ?_ _ | refine bz4 ?_ hb1 | refine bz5 ?_ _ | refine bz6 ?_ _ | refine bz7 ?_ hb1))⟩
      · have hm3' : (mode == 3) = false := by simpa using hm3
        rw [decide_eq_false hm3] at HR
        clear hm3
        go_enter Tryz.func153, Tryz.ntmps153
        go_wp2_with fail
        refine (with_64 0 false _ (fun h => by cases h)).mono ?_
        rintro x w1 ⟨rfl, hb1⟩
        go_wp2
        go_ret2
        exact ⟨ret_ui HR.out.1.symm HR.out.2.symm, (by repeat (first | exact bz0 _ _ | refine bz1 ?_ | refine bz2 ?_ _ | refine bz3 ?_ _ | refine bz4 ?_ hb1 | refine bz5 ?_ _ | refine bz6 ?_ _ | refine bz7 ?_ hb1))⟩
end Go.Proofs.YtkfjmcdniohljaaGreatDoor
