/-
  What is needed of FC, SM.
-/
import Derived.Test.YtbhfbaogmkgmiaaGreatDoorC31
import Derived.Test.YtbhfbaogmkgmiaaGreatDoorC44
set_option maxHeartbeats 16000000
set_option maxRecDepth 1000000
namespace Go.Proofs.YtbhfbaogmkgmiaaGreatDoor
set_option linter.unusedVariables false
set_option linter.unusedSimpArgs false
open Go.RowKit Go.Deep
theorem sci_no (fm mode x n : Int) (w : World) (hT : Tab w) (x0 : 0 ≤ x) (x1 : x < 18446744073709551616) (ho : scO fm mode x n = false) :
    Calls Tryz.prog 43 #[.int .i64 fm, .int .i64 mode, .int .u64 x, .int .i64 n] w fun r w' => r = .returned (.tuple #[.int .u64 0, .int .i64 0, .bool false]) ∧ Below w.heap.size w w' := by
  have CF := hid (fun w' h h' => fok_impl fm mode (some ⟨w.heap.size, 0, none⟩) 1 [x] w' h h' (d64_1 x0 x1) (by simp))
  rw [all1] at CF
  have s2 := sl64_1 w x 29
  have bel0 : Below w.heap.size w (w.alloc (.cells #[.int .u64 x] 29)) := (by repeat (first | exact bz0 _ _ | refine bz1 ?_ | refine bz2 ?_ _ | refine bz3 ?_ _ | refine bz5 ?_ _ | refine bz6 ?_ _))
  cases h1 : (modeB mode && okF fm x)
  · rw [h1] at CF
    clear ho h1
    go_enter Tryz.func43, Tryz.ntmps43
    go_wp2_with fail
    refine (CF.out _ (hT.below bel0) s2).mono ?_
    rintro r w1 ⟨rfl, hb1⟩
    go_wp2
    go_ret3
    exact ⟨rfl, (by repeat (first | exact bz0 _ _ | refine bz1 ?_ | refine bz2 ?_ _ | refine bz3 ?_ _ | refine bz4 ?_ hb1 | refine bz5 ?_ _ | refine bz6 ?_ _ | refine bz7 ?_ hb1))⟩
  · rw [h1] at CF
    have hin : inB n (-5000) 5000 = false := by unfold scO at ho; rw [h1] at ho; simpa using ho
    have hn : n < -5000 ∨ 5000 < n := by unfold inB at hin; simp at hin; omega
    clear ho h1 hin
    by_cases hlo : n < -5000
    · clear hn
      go_enter Tryz.func43, Tryz.ntmps43
      go_wp2_with fail
      refine (CF.out _ (hT.below bel0) s2).mono ?_
      rintro r w1 ⟨rfl, hb1⟩
      go_wp2
      go_ret3
      exact ⟨rfl, (by repeat (first | exact bz0 _ _ | refine bz1 ?_ | refine bz2 ?_ _ | refine bz3 ?_ _ | refine bz4 ?_ hb1 | refine bz5 ?_ _ | refine bz6 ?_ _ | refine bz7 ?_ hb1))⟩
    · have hhi : 5000 < n := by omega
      clear hn
      go_enter Tryz.func43, Tryz.ntmps43
      go_wp2_with fail
      refine (CF.out _ (hT.below bel0) s2).mono ?_
      rintro r w1 ⟨rfl, hb1⟩
      go_wp2
      go_ret3
      exact ⟨rfl, (by repeat (first | exact bz0 _ _ | refine bz1 ?_ | refine bz2 ?_ _ | refine bz3 ?_ _ | refine bz4 ?_ hb1 | refine bz5 ?_ _ | refine bz6 ?_ _ | refine bz7 ?_ hb1))⟩
theorem sci_core (fm mode x n : Int) (u : Value) (w : World) (hE : E3 u w) (x0 : 0 ≤ x) (x1 : x < 18446744073709551616) (ho : (modeB mode && okF fm x) = true) (n0 : -5000 ≤ n) (n1 : n ≤ 5000) (sg inf G : Bool) (L : List Int) (E : Int) (nn b : Bool) (hp : NumAt u fm x sg inf G L E nn b) (e0 : -3000 ≤ E ∧ E ≤ 3000) (hl : L.length ≤ 200) (hd : Nm.Dg L) (rb rf : Int) (hro : nn = false → inf = false → L.length ≠ 0 → RdO fm mode G L (E + n) = true ∧ rb = RdB fm mode G L (E + n) ∧ rf = RdF fm mode G L (E + n)) (B F : Int) (hB : B = tdB (nanOf fm) (infOf fm) (sgOf fm) nn inf (decide (L.length = 0)) sg rb) (hF : F = tdF nn b inf (decide (L.length = 0)) rf) :
    Calls Tryz.prog 43 #[.int .i64 fm, .int .i64 mode, .int .u64 x, .int .i64 n] w fun r w' => r = .returned (.tuple #[.int .u64 B, .int .i64 F, .bool true]) ∧ Below w.heap.size w w' := by
  have CF := hid (fun w' h h' => fok_impl fm mode (some ⟨w.heap.size, 0, none⟩) 1 [x] w' h h' (d64_1 x0 x1) (by simp))
  have hfm : fmtB fm = true := by
    have h : modeB mode = true ∧ okF fm x = true := by simpa using ho
    exact ok_fmt h.2
  rw [all1, ho] at CF
  have CP := hid hp
  have CT := hid (fun p c ev hk w' h1 h2 h3 => told_any fm mode hfm sg inf G L (E + n) p c u ev nn b hk w' h1 h2 h3 hd hl rb rf hro B F hB hF)
  have s2 := sl64_1 w x 29
  have bel0 : Below w.heap.size w (w.alloc (.cells #[.int .u64 x] 29)) := (by repeat (first | exact bz0 _ _ | refine bz1 ?_ | refine bz2 ?_ _ | refine bz3 ?_ _ | refine bz5 ?_ _ | refine bz6 ?_ _))
  have hwE : IntKind.i64.wrap (E + n) = E + n := by rw [IntKind.wrap_i64]; omega
  clear ho hp hro hB hF hfm
  go_enter Tryz.func43, Tryz.ntmps43
  go_wp2_with fail
  refine (CF.out _ (hE.t.s.f.below bel0) s2).mono ?_
  rintro r w1 ⟨rfl, hb1⟩
  have bel1 := bel_go bel0 hb1
  clear s2
  go_wp2_with fail
  refine (CP.out _ (hE.below bel1).ee).mono ?_
  rintro r w2 ⟨a', c', ev, rfl, kv, ho2, hb2⟩
  have bel3 := bel_al (bel_go bel1 hb2) (.cells #[.bool sg, .bool inf, .bool G, .slice a' L.length c', .int .i64 (E + n)] 91)
  have E2 := hE.below bel3
  have s3 := (ho2.alloc (.cells #[.bool sg, .bool inf, .bool G, .slice a' L.length c', .int .i64 (E + n)] 91)).sl
  go_wp2_with fail
  refine (CT.out a' c' ev kv _ E2.t E2.g s3).mono ?_
  rintro r w3 ⟨rfl, hb3⟩
  go_wp2
  go_ret3
  exact ⟨rfl, bel_go bel3 hb3⟩
theorem sci_all (fm mode x n : Int) (u : Value) (w : World) (hE : E3 u w) (x0 : 0 ≤ x) (x1 : x < 18446744073709551616) (B F : Int) (O : Bool) (hB : B = scB fm mode x n) (hF : F = scF fm mode x n) (hO : O = scO fm mode x n) :
    Calls Tryz.prog 43 #[.int .i64 fm, .int .i64 mode, .int .u64 x, .int .i64 n] w fun r w' => r = .returned (.tuple #[.int .u64 B, .int .i64 F, .bool O]) ∧ Below w.heap.size w w' := by
  cases ho : scO fm mode x n
  · obtain ⟨e1, e2⟩ := sc_no ho
    rw [hB, hF, hO, e1, e2, ho]
    exact sci_no fm mode x n w hE.t.s.f x0 x1 ho
  have ho' := ho
  unfold scO at ho'
  rw [Bool.and_eq_true] at ho'
  obtain ⟨ho1, hin⟩ := ho'
  obtain ⟨hm, hx⟩ : modeB mode = true ∧ okF fm x = true := by simpa using ho1
  have hn0 : -5000 ≤ n ∧ n ≤ 5000 := by unfold inB at hin; simpa using hin
  have hfm := ok_fmt hx
  have bd := nZ_bd fm x
  rw [hO, ho]
  unfold scB at hB
  unfold scF at hF
  rw [ho, if_pos rfl] at hB hF
  refine sci_core fm mode x n u w hE x0 x1 ho1 hn0.1 hn0.2 _ _ _ _ _ _ _ (numAt hx x0 x1) (by omega) (nZ_len fm x) (Nm.wl_dg _) _ _ (fun _ _ _ => ⟨rdo_any hfm hm (nZ_len fm x) (by omega) (by omega), rfl, rfl⟩) B F ?_ ?_
  · rw [hB]; unfold tdB
    cases hn : nanB fm x
    · have hs : nS fm x = sigB fm x := by unfold nS; rw [hn]; rfl
      have hsz := sz_of hx hn
      cases hi : nI fm x
      · rw [hi] at hsz
        rw [← hsz]
        simp only [Bool.not_false, Bool.true_and, Bool.false_or, Bool.false_eq_true, if_false]
        by_cases hz : (Nm.wl (nZ fm x)).length = 0
        · rw [if_pos (by simpa using hz), if_pos (by simpa using hz)]
          have ha : absF fm x = 0 := by
            have : zF fm x = true := by rw [← hsz]; simpa using hz
            simpa [zF] using this
          have := abs_sig hx x0 x1
          rw [ha] at this
          rw [hs]; exact this
        · rw [if_neg (by simpa using hz), if_neg (by simpa using hz)]
      · have ha : absF fm x = infOf fm := by
          have h3 := cls_inf hx x0
          have h4 : (cls fm x == 3) = true := hi
          rw [h4] at h3; simpa using h3
        have := abs_sig hx x0 x1
        rw [ha] at this
        simp only [Bool.true_or, if_true, Bool.false_eq_true, if_false]
        rw [hs]; exact this
    · simp
  · rw [hF]; unfold tdF
    cases hn : nanB fm x
    · have hb : nB fm x = false := by
        have := nan_ofE hx; rw [hn] at this
        unfold nB
        have h5 : ¬ cls fm x = 5 := by intro e; rw [e] at this; simp at this
        simpa using h5
      have hsz := sz_of hx hn
      rw [hb]
      cases hi : nI fm x
      · rw [hi] at hsz; rw [← hsz]; simp
      · simp
    · cases nB fm x <;> simp [fl8]
namespace Fd
theorem val_back {q A B z y ea ex n ua ux : Int} (hua : ua = z * 2 ^ (ea - q).toNat) (hux : ux = y * 2 ^ (ex - q).toNat) (ha : q ≤ ea) (hx : q ≤ ex) (hv : ux * 2 ^ (q - min (ea + n) q).toNat = z * 2 ^ (ea + n - min (ea + n) q).toNat) :
    ua * 2 ^ (q - min (ex - n) q).toNat = y * 2 ^ (ex - n - min (ex - n) q).toNat := by
  have hp : (0 : Int) < 2 ^ (ea + n - min (ea + n) q).toNat := pw_i _
  refine Int.eq_of_mul_eq_mul_right (Int.ne_of_gt hp) ?_
  rw [hua]
  have e1 : z * 2 ^ (ea - q).toNat * 2 ^ (q - min (ex - n) q).toNat * 2 ^ (ea + n - min (ea + n) q).toNat = z * 2 ^ (ea + n - min (ea + n) q).toNat * (2 ^ (ea - q).toNat * 2 ^ (q - min (ex - n) q).toNat) := by
    rw [Int.mul_assoc, Int.mul_assoc, Int.mul_assoc]; congr 1
    rw [← Int.mul_assoc, Int.mul_comm]
  rw [e1, ← hv, hux]
  rw [Int.mul_assoc, Int.mul_assoc, Int.mul_assoc, ← Int.pow_add, ← Int.pow_add, ← Int.pow_add, ← Int.pow_add]
  congr 2
  omega
theorem nE_q {fm x : Int} (hf : finB fm x = true) : unQ fm ≤ nE fm x := by
  unfold nE; rw [if_pos hf]; have := (pE_q hf).1; omega
end Fd
end Go.Proofs.YtbhfbaogmkgmiaaGreatDoor
