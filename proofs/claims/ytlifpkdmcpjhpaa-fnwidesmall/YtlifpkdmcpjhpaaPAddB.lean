/-
  The law laws.FnWideAdd.
-/
import Derived.Test.YtlifpkdmcpjhpaaPAddA
import Derived.Test.YtlifpkdmcpjhpaaWideU
namespace Go.Proofs.Ytlifpkdmcpjhpaa
set_option linter.unusedVariables false
set_option linter.unusedSimpArgs false
open Go.RowKit Go.Deep
namespace PAdd
theorem opO_yes {ok : Bool} {x : Int} (h : opO ok x = true) : ok = true ∧ Nm.fits x = true ∧ opL ok x = Nm.wl x ∧ opN ok x = Nm.wn x := by
  unfold opO at h
  cases ok
  · simp at h
  · have hf : Nm.fits x = true := by simpa using h
    obtain ⟨h1, h2⟩ := out_fits hf
    exact ⟨rfl, hf, h1, h2⟩
/-- A right wide is the wide of its value. -/
theorem ok_is {ng : Bool} {zs : List Int} (hd : Nm.Dg zs) (h : okB ng zs = true) : Nm.wn (Nm.wv ng zs) = ng ∧ Nm.wl (Nm.wv ng zs) = zs := by
  obtain ⟨h1, h2⟩ := okB_nz h
  rw [Nm.wn_wv ng hd, Nm.wl_wv ng hd, Nm.trim_eq hd h1]
  refine ⟨?_, rfl⟩
  by_cases h0 : zs.length = 0
  · unfold okB at h
    rw [if_pos h0] at h
    rw [decide_eq_true h0]
    cases ng <;> simp at h ⊢
  · rw [decide_eq_false h0]; simp
/-- What fits is a right wide. -/
theorem ok_out {x : Int} (h : Nm.fits x = true) : okB (Nm.wn x) (Nm.wl x) = true := by
  have hl : (Nm.wl x).length ≤ 200 := by simpa [Nm.fits] using h
  unfold okB
  split
  · rename_i h0
    have hx : x.natAbs = 0 := (Nm.lim_length_zero _).1 h0
    have : x = 0 := by omega
    subst this; decide
  · rename_i h0
    have hz := Nm.wl_nz x
    simp only [decide_eq_true hl, Bool.true_and, Bool.not_eq_true', decide_eq_false_iff_not]
    intro e
    have hlt : (Nm.wl x).length - 1 < (Nm.wl x).length := by omega
    refine hz ((Nm.wl x).getD ((Nm.wl x).length - 1) 0) ?_ e
    rw [List.getLast?_eq_getElem?, List.getD_eq_getElem?_getD, List.getElem?_eq_getElem hlt]; rfl
theorem wv_not (ng : Bool) (zs : List Int) : Nm.wv (!ng) zs = - Nm.wv ng zs := by unfold Nm.wv; cases ng <;> simp
/-- 0 less a right wide. -/
theorem neg_is {ng : Bool} {zs : List Int} (hd : Nm.Dg zs) (h : okB ng zs = true) : negN ng zs = Nm.wn (- Nm.wv ng zs) ∧ negL ng zs = Nm.wl (- Nm.wv ng zs) ∧ Nm.fits (- Nm.wv ng zs) = true := by
  have hf := ok_fits hd h (!ng)
  rw [wv_not] at hf
  unfold negN negL
  rw [h, wv_not]
  exact ⟨rfl, rfl, hf⟩
theorem fin (na nb : Bool) (xs ys : List Int) (dx : Nm.Dg xs) (dy : Nm.Dg ys) (hO : opO (okB na xs && okB nb ys) (Nm.wv na xs + Nm.wv nb ys) = true) :
    ∀ (G : Bool) (L : List Int), G = opN (okB na xs && okB nb ys) (Nm.wv na xs + Nm.wv nb ys) → L = opL (okB na xs && okB nb ys) (Nm.wv na xs + Nm.wv nb ys) →
    opO (okB G L && okB (negN nb ys) (negL nb ys)) (Nm.wv G L + Nm.wv (negN nb ys) (negL nb ys)) = true ∧ opN (okB G L && okB (negN nb ys) (negL nb ys)) (Nm.wv G L + Nm.wv (negN nb ys) (negL nb ys)) = na ∧ opL (okB G L && okB (negN nb ys) (negL nb ys)) (Nm.wv G L + Nm.wv (negN nb ys) (negL nb ys)) = xs ∧ okB G L = true ∧ negN (negN na xs) (negL na xs) = na ∧ negL (negN na xs) (negL na xs) = xs := by
  intro G L hG hL
  obtain ⟨hk, hf, h1, h2⟩ := opO_yes hO
  have ka : okB na xs = true := by cases h : okB na xs <;> simp_all
  have kb : okB nb ys = true := by rw [ka] at hk; simpa using hk
  rw [h2] at hG
  rw [h1] at hL
  subst hG hL
  have hok := ok_out hf
  obtain ⟨n1, n2, n3⟩ := neg_is dy kb
  obtain ⟨m1, m2, m3⟩ := neg_is dx ka
  obtain ⟨i1, i2⟩ := ok_is dx ka
  have hokn := ok_out n3
  have fx := ok_fits dx ka na
  rw [n1, n2, Nm.wv_out, Nm.wv_out, hok, hokn, show Nm.wv na xs + Nm.wv nb ys + -Nm.wv nb ys = Nm.wv na xs by omega]
  have ho : (true && true) = true := rfl
  obtain ⟨o1, o2⟩ := out_fits fx
  refine ⟨by unfold opO; rw [fx]; rfl, ?_, ?_, rfl, ?_, ?_⟩
  · show Nm.outN _ = _; rw [o2, i1]
  · show Nm.outL _ = _; rw [o1, i2]
  · rw [m1, m2]
    obtain ⟨q1, q2, _⟩ := neg_is (ng := Nm.wn (-Nm.wv na xs)) (zs := Nm.wl (-Nm.wv na xs)) (Nm.wl_dg _) (ok_out m3)
    rw [q1, Nm.wv_out, Int.neg_neg, i1]
  · rw [m1, m2]
    obtain ⟨q1, q2, _⟩ := neg_is (ng := Nm.wn (-Nm.wv na xs)) (zs := Nm.wl (-Nm.wv na xs)) (Nm.wl_dg _) (ok_out m3)
    rw [q2, Nm.wv_out, Int.neg_neg, i2]
theorem short_2000 {L : List Int} (h : L.length ≤ 2000) : L.length ≤ 1048576 := by omega
theorem law_in (ca : Option Addr) (cc : Nat) (cs : List Int) (w : World) (hs : Sl .u8 w (.slice ca cs.length cc) cs) (hby : ∀ i, 0 ≤ cs.getD i 0 ∧ cs.getD i 0 ≤ 255) (hl : cs.length ≤ 1048576) :
    Calls Try.prog 3 #[.slice ca cs.length cc] w fun e w' => e = .returned (.bool true) ∧ Below w.heap.size w w' := by
  refine law ca cc cs w hs hby hl (fun na nb xs ys lx ly dx dy => ?_)
  have g200 := op_200 (okB na xs && okB nb ys) (Nm.wv na xs + Nm.wv nb ys)
  have ny := neg_200 nb dy
  have nx := neg_200 na dx
  refine ⟨opN (okB na xs && okB nb ys) (Nm.wv na xs + Nm.wv nb ys), _, opL (okB na xs && okB nb ys) (Nm.wv na xs + Nm.wv nb ys), _, negL nb ys, negL na xs, negL (negN na xs) (negL na xs), opO (okB na xs && okB nb ys) (Nm.wv na xs + Nm.wv nb ys), _, negN nb ys, negN na xs, negN (negN na xs) (negL na xs), g200.1, ?_,
    fun w a b cap cap' h h' => wadd_impl na nb a b cap cap' xs ys w h h' dx dy (short_2000 lx) (short_2000 ly) _ rfl,
    fun w a b cap cap' h h' => wadd_spec na nb a b cap cap' xs ys w h h' dx dy (short_2000 lx) (short_2000 ly) _ rfl,
    fun w a b cap cap' h h' => ?_,
    fun w a cap h => wneg_impl nb a cap ys w h dy (short_2000 ly),
    fun w a b cap cap' h h' => wadd_impl _ _ a b cap cap' _ _ w h h' g200.2 ny.2 (by omega) (by omega) _ rfl,
    fun w a cap h => wneg_impl na a cap xs w h dx (short_2000 lx),
    fun w a cap h => wneg_impl _ a cap _ w h nx.2 (by omega),
    fun hO => fin na nb xs ys dx dy hO _ _ rfl rfl⟩
  · exact (op_200 _ _).1
  · have := wadd_impl nb na a b cap cap' ys xs w h h' dy dx (short_2000 ly) (short_2000 lx) _ rfl
    rwa [Bool.and_comm, Int.add_comm] at this
end PAdd
set_option maxHeartbeats 400000 in
theorem law_FnWideAdd (ca : Option Addr) (cc : Nat) (cs : List Int) (w : World) (hs : Sl .u8 w (.slice ca cs.length cc) cs) (hby : ∀ i, 0 ≤ cs.getD i 0 ∧ cs.getD i 0 ≤ 255) :
    Calls Try.prog 3 #[.slice ca cs.length cc] w fun e w' => e = .returned (.bool true) ∧ Below w.heap.size w w' := by
  by_cases hl : cs.length ≤ 1048576
  · exact PAdd.law_in ca cc cs w hs hby hl
  · have hlm : cs.length ≤ 9223372036854775807 := by obtain ⟨_, h1, h2, _⟩ := hs.cells; unfold maxLen at h2; omega
    go_enter Try.func3, Try.ntmps3
    go_wp2_with fail
    refine (big_any ca cs.length cc _ hlm true (by simp; omega)).mono ?_
    rintro e w0 ⟨rfl, rfl⟩
    go_wp2
    go_ret
    exact ⟨rfl, Below.refl _ _⟩
end Go.Proofs.Ytlifpkdmcpjhpaa
