/-
  What is needed of MG.
-/
import Derived.Test.YtnliofakkkjpoaaGreatDoorA19
import Derived.Test.YtnliofakkkjpoaaGreatDoorA46
set_option maxHeartbeats 16000000
set_option maxRecDepth 1000000
namespace Go.Proofs.YtnliofakkkjpoaaGreatDoor
set_option linter.unusedVariables false
set_option linter.unusedSimpArgs false
open Go.RowKit Go.Deep
theorem tmM_odd {fm x y : Int} (hx : okF fm x = true) (hy : okF fm y = true) (h : (finB fm x && finB fm y) = false) : tmM fm x y = ⟨0, nanB fm x || nanB fm y || oddX fm x y, nB fm x || nB fm y || oddX fm x y, !(nanB fm x || nanB fm y || oddX fm x y) && !(sigB fm x != sigB fm y), !(nanB fm x || nanB fm y || oddX fm x y) && (sigB fm x != sigB fm y), false⟩ := by
  unfold tmM
  cases hn : (nanB fm x || nanB fm y || oddX fm x y)
  · have hb : (nB fm x || nB fm y || oddX fm x y) = false := by
      cases hb : (nB fm x || nB fm y || oddX fm x y)
      · rfl
      · rw [odd_nan hx hy hb] at hn; cases hn
    obtain ⟨⟨nx, ny⟩, -⟩ : (nanB fm x = false ∧ nanB fm y = false) ∧ oddX fm x y = false := by simpa [Bool.or_eq_false_iff] using hn
    have hi : (nI fm x || nI fm y) = true := by
      rcases nan_cases hx nx with fx | ix
      · rcases nan_cases hy ny with fy | iy
        · rw [fx, fy] at h; cases h
        · rw [iy]; simp
      · rw [ix]; rfl
    rw [hb, hi]; rfl
  · rfl
theorem tmM_fin {fm x y : Int} (hx : okF fm x = true) (hy : okF fm y = true) (fx : finB fm x = true) (fy : finB fm y = true) : tmM fm x y = ⟨tpV fm x y, false, false, false, false, decide (nZ fm x * nZ fm y = 0) && (sigB fm x != sigB fm y)⟩ := by
  obtain ⟨-, ix, -, -, nx, -⟩ := fin_facts hx fx
  obtain ⟨-, iy, -, -, ny, -⟩ := fin_facts hy fy
  unfold tmM oddX; rw [nx, ny, ix, iy]; rfl
theorem accMS (fm : Int) (s : St) (x y : Int) (p : Option Addr) (cap : Nat) (w : World) (hR : Rt fm s) (hx : okF fm x = true) (x0 : 0 ≤ x) (x1 : x < 18446744073709551616) (hy : okF fm y = true) (y0 : 0 ≤ y) (y1 : y < 18446744073709551616) (hT : s.T ≠ 1000000) (hs : Sl .u32 w (.slice p (Nm.wl s.z).length cap) (Nm.wl s.z)) (s' : St) (hs' : s' = s.add (tmM fm x y)) :
    Calls Tryz.prog 16 #[.agg #[.int .i64 fm, .bool (Nm.wn s.z), .slice p (Nm.wl s.z).length cap, .int .i64 s.T, .bool s.nn, .bool s.bd, .bool s.pl, .bool s.mi, .bool s.am], .int .u64 x, .int .u64 y] w fun r w' => ∃ a' c', r = .returned (.tuple #[.agg #[.int .i64 fm, .bool (Nm.wn s'.z), .slice a' (Nm.wl s'.z).length c', .int .i64 s'.T, .bool s'.nn, .bool s'.bd, .bool s'.pl, .bool s'.mi, .bool s'.am], .int .i64 0]) ∧ Own w' w.heap.size a' c' (Nm.wl s'.z) ∧ Below w.heap.size w w' := by
  subst hs'
  have hwv := Nm.wv_out s.z
  cases hf : (finB fm x && finB fm y)
  · rw [tmM_odd hx hy hf]
    have h := mulS_odd fm (Nm.wn s.z) s.T s.nn s.bd s.pl s.mi s.am p cap (Nm.wl s.z) x y w hs (Nm.wl_dg _) hR hx hy x0 x1 y0 y1 hT hf _ _ _ _ rfl rfl rfl rfl
    simpa [St.add] using h
  · obtain ⟨fx, fy⟩ : finB fm x = true ∧ finB fm y = true := by simpa using hf
    rw [tmM_fin hx hy fx fy]
    obtain ⟨-, -, hb⟩ := tp_eq hx hy fx fy
    have hfe : farE fm ≤ 4196 := by unfold farE; split <;> omega
    have hl := wl_len (V := tpV fm x y) (by omega)
    have h := mulS_fin fm (Nm.wn s.z) s.T s.nn s.bd s.pl s.mi s.am p cap (Nm.wl s.z) x y w hs (Nm.wl_dg _) hR hx hy x0 x1 y0 y1 hT fx fy (tpV fm x y) rfl hl (s.z + tpV fm x y) (by rw [hwv])
    simpa [St.add] using h
end Go.Proofs.YtnliofakkkjpoaaGreatDoor
