/-
  The law laws.FnWideMul.
-/
import Derived.Test.YtlifpkdmcpjhpaaPMulA
import Derived.Test.YtlifpkdmcpjhpaaWideY
import Derived.Test.YtlifpkdmcpjhpaaWideU
namespace Go.Proofs.Ytlifpkdmcpjhpaa
set_option linter.unusedVariables false
set_option linter.unusedSimpArgs false
open Go.RowKit Go.Deep
theorem opO_yes {ok : Bool} {x : Int} (h : opO ok x = true) : ok = true ∧ opL ok x = Nm.wl x ∧ opN ok x = Nm.wn x := by
  unfold opO at h
  cases ok
  · simp at h
  · have hf : Nm.fits x = true := by simpa using h
    obtain ⟨h1, h2⟩ := out_fits hf
    exact ⟨rfl, h1, h2⟩
theorem opO_wv {ok : Bool} {x : Int} (h : opO ok x = true) : Nm.wv (opN ok x) (opL ok x) = x := by
  obtain ⟨_, h1, h2⟩ := opO_yes h
  rw [h1, h2, Nm.wv_out]
theorem short_2000 {L : List Int} (h : L.length ≤ 2000) : L.length ≤ 1048576 := by omega
theorem law_all (na nb : Bool) (xs ys : List Int) (lx : xs.length ≤ 2000) (ly : ys.length ≤ 2000) (dx : Nm.Dg xs) (dy : Nm.Dg ys) :
    opO (okB na xs && okB nb ys) (Nm.wv na xs * Nm.wv nb ys) = true →
    opO (okB nb ys && okB (Nm.wn 1) (Nm.wl 1)) (Nm.wv nb ys + Nm.wv (Nm.wn 1) (Nm.wl 1)) = true →
    ∀ (Gc : Bool) (Lc : List Int), Gc = opN (okB nb ys && okB (Nm.wn 1) (Nm.wl 1)) (Nm.wv nb ys + Nm.wv (Nm.wn 1) (Nm.wl 1)) → Lc = opL (okB nb ys && okB (Nm.wn 1) (Nm.wl 1)) (Nm.wv nb ys + Nm.wv (Nm.wn 1) (Nm.wl 1)) →
    ∀ (G : Bool) (L : List Int), G = opN (okB na xs && okB nb ys) (Nm.wv na xs * Nm.wv nb ys) → L = opL (okB na xs && okB nb ys) (Nm.wv na xs * Nm.wv nb ys) →
    opO (okB na xs && okB Gc Lc) (Nm.wv na xs * Nm.wv Gc Lc) = true →
    opO (okB G L && okB na xs) (Nm.wv G L + Nm.wv na xs) = true →
    opN (okB na xs && okB Gc Lc) (Nm.wv na xs * Nm.wv Gc Lc) = opN (okB G L && okB na xs) (Nm.wv G L + Nm.wv na xs) ∧ opL (okB na xs && okB Gc Lc) (Nm.wv na xs * Nm.wv Gc Lc) = opL (okB G L && okB na xs) (Nm.wv G L + Nm.wv na xs) := by
  intro h1 h2 Gc Lc hGc hLc G L hG hL h3 h4
  obtain ⟨_, r1, r2⟩ := opO_yes h3
  obtain ⟨_, s1, s2⟩ := opO_yes h4
  have e1 : Nm.wv Gc Lc = Nm.wv nb ys + 1 := by rw [hGc, hLc, opO_wv h2, Nm.wv_out]
  have e2 : Nm.wv G L = Nm.wv na xs * Nm.wv nb ys := by rw [hG, hL, opO_wv h1]
  rw [r1, r2, s1, s2, e1, e2]
  have e3 : Nm.wv na xs * (Nm.wv nb ys + 1) = Nm.wv na xs * Nm.wv nb ys + Nm.wv na xs := by rw [Int.mul_add, Int.mul_one]
  rw [e3]
  exact ⟨rfl, rfl⟩
theorem law_FnWideMul_in (ca : Option Addr) (cc : Nat) (cs : List Int) (w : World) (hs : Sl .u8 w (.slice ca cs.length cc) cs) (hby : ∀ i, 0 ≤ cs.getD i 0 ∧ cs.getD i 0 ≤ 255) (hl : cs.length ≤ 1048576) :
    Calls Try.prog 4 #[.slice ca cs.length cc] w fun e w' => e = .returned (.bool true) ∧ Below w.heap.size w w' := by
  refine PMul.law ca cc cs w hs hby hl (fun na nb xs ys lx ly dx dy => ?_)
  have l1 : (Nm.wl 1).length ≤ 1048576 := by have := wl_64 (n := 1) (by decide) (by decide); omega
  refine ⟨opN (okB na xs && okB nb ys) (Nm.wv na xs * Nm.wv nb ys), opN (okB nb ys && okB (Nm.wn 1) (Nm.wl 1)) (Nm.wv nb ys + Nm.wv (Nm.wn 1) (Nm.wl 1)), _, _, opL (okB na xs && okB nb ys) (Nm.wv na xs * Nm.wv nb ys), opL (okB nb ys && okB (Nm.wn 1) (Nm.wl 1)) (Nm.wv nb ys + Nm.wv (Nm.wn 1) (Nm.wl 1)), _, _, opO (okB na xs && okB nb ys) (Nm.wv na xs * Nm.wv nb ys), opO (okB nb ys && okB (Nm.wn 1) (Nm.wl 1)) (Nm.wv nb ys + Nm.wv (Nm.wn 1) (Nm.wl 1)), _, _, Nm.wn 1, Nm.wl 1, (op_200 _ _).1, (op_200 _ _).1, ?_, ?_,
    fun w a b cap cap' h h' => wmul_impl na nb a b cap cap' xs ys w h h' dx dy (short_2000 lx) (short_2000 ly) _ rfl,
    fun w a b cap cap' h h' => wmul_spec na nb a b cap cap' xs ys w h h' dx dy (short_2000 lx) (short_2000 ly) _ rfl,
    fun w a b cap cap' h h' => ?_,
    fun w => wof_impl 1 w (by decide) (by decide),
    fun w a b cap cap' h h' => wadd_impl nb (Nm.wn 1) a b cap cap' ys (Nm.wl 1) w h h' dy (Nm.wl_dg 1) (short_2000 ly) l1 _ rfl,
    fun w a b cap cap' h h' => wmul_impl na _ a b cap cap' xs _ w h h' dx (op_200 _ _).2 (short_2000 lx) (by have := (op_200 (okB nb ys && okB (Nm.wn 1) (Nm.wl 1)) (Nm.wv nb ys + Nm.wv (Nm.wn 1) (Nm.wl 1))).1; omega) _ rfl,
    fun w a b cap cap' h h' => wadd_impl _ na a b cap cap' _ xs w h h' (op_200 _ _).2 dx (by have := (op_200 (okB na xs && okB nb ys) (Nm.wv na xs * Nm.wv nb ys)).1; omega) (short_2000 lx) _ rfl,
    fun h1 h2 h3 h4 => law_all na nb xs ys lx ly dx dy h1 h2 _ _ rfl rfl _ _ rfl rfl h3 h4⟩
  · exact (op_200 _ _).1
  · exact (op_200 _ _).1
  · have := wmul_impl nb na a b cap cap' ys xs w h h' dy dx (short_2000 ly) (short_2000 lx) _ rfl
    rwa [Bool.and_comm, Int.mul_comm] at this
set_option maxHeartbeats 400000 in
theorem law_FnWideMul (ca : Option Addr) (cc : Nat) (cs : List Int) (w : World) (hs : Sl .u8 w (.slice ca cs.length cc) cs) (hby : ∀ i, 0 ≤ cs.getD i 0 ∧ cs.getD i 0 ≤ 255) :
    Calls Try.prog 4 #[.slice ca cs.length cc] w fun e w' => e = .returned (.bool true) ∧ Below w.heap.size w w' := by
  by_cases hl : cs.length ≤ 1048576
  · exact law_FnWideMul_in ca cc cs w hs hby hl
  · have hlm : cs.length ≤ 9223372036854775807 := by obtain ⟨_, h1, h2, _⟩ := hs.cells; unfold maxLen at h2; omega
    go_enter Try.func4, Try.ntmps4
    go_wp2_with fail
    refine (big_any ca cs.length cc _ hlm true (by simp; omega)).mono ?_
    rintro e w0 ⟨rfl, rfl⟩
    go_wp2
    go_ret
    exact ⟨rfl, Below.refl _ _⟩
end Go.Proofs.Ytlifpkdmcpjhpaa
