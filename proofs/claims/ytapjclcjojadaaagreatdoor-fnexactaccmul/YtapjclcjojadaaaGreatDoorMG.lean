/-
  One term more, a product: all put together; the law.
-/
import Derived.Test.YtapjclcjojadaaaGreatDoorME
import Derived.Test.YtapjclcjojadaaaGreatDoorLAccMul
namespace Go.Proofs.YtapjclcjojadaaaGreatDoor
set_option linter.unusedVariables false
set_option linter.unusedSimpArgs false
open Go.RowKit Go.Deep
theorem tmM_odd {fm x y : Int} (hx : okF fm x = true) (hy : okF fm y = true) (h : (finB fm x && finB fm y) = false) : tmM fm x y = ⟨0, nanB fm x || nanB fm y || oddX fm x y, nB fm x || nB fm y || oddX fm x y, !(nanB fm x || nanB fm y || oddX fm x y) && !(sigB fm x != sigB fm y), !(nanB fm x || nanB fm y || oddX fm x y) && (sigB fm x != sigB fm y), false⟩ := by
  unfold tmM
  cases hn : (nanB fm x || nanB fm y || oddX fm x y)
  · have hb : (nB fm x || nB fm y || oddX fm x y) = false := by
      cases hb : (nB fm x || nB fm y || oddX fm x y)
      · rfl
      · rw [odd_nan hx hy hb] at hn; cases hn
    obtain ⟨⟨nx, ny⟩, -⟩ : (nanB fm x = false ∧ nanB fm y = false) ∧ oddX fm x y = false := by simpa [Bool.or_eq_false_iff] using hn
    have hi : (nI fm x || nI fm y) = true := by
      rcases nan_cases hx nx with fx | ix
      · rcases nan_cases hy ny with fy | iy
        · rw [fx, fy] at h; cases h
        · rw [iy]; simp
      · rw [ix]; rfl
    rw [hb, hi]; rfl
  · rfl
theorem tmM_fin {fm x y : Int} (hx : okF fm x = true) (hy : okF fm y = true) (fx : finB fm x = true) (fy : finB fm y = true) : tmM fm x y = ⟨tpV fm x y, false, false, false, false, decide (nZ fm x * nZ fm y = 0) && (sigB fm x != sigB fm y)⟩ := by
  obtain ⟨-, ix, -, -, nx, -⟩ := fin_facts hx fx
  obtain ⟨-, iy, -, -, ny, -⟩ := fin_facts hy fy
  unfold tmM oddX; rw [nx, ny, ix, iy]; rfl
theorem accMS (fm : Int) (s : St) (x y : Int) (p : Option Addr) (cap : Nat) (w : World) (hR : Rt fm s) (hx : okF fm x = true) (x0 : 0 ≤ x) (x1 : x < 18446744073709551616) (hy : okF fm y = true) (y0 : 0 ≤ y) (y1 : y < 18446744073709551616) (hT : s.T ≠ 1000000) (hs : Sl .u32 w (.slice p (Nm.wl s.z).length cap) (Nm.wl s.z)) (s' : St) (hs' : s' = s.add (tmM fm x y)) :
    Calls Tryz.prog 16 #[.agg #[.int .i64 fm, .bool (Nm.wn s.z), .slice p (Nm.wl s.z).length cap, .int .i64 s.T, .bool s.nn, .bool s.bd, .bool s.pl, .bool s.mi, .bool s.am], .int .u64 x, .int .u64 y] w fun r w' => ∃ a' c', r = .returned (.tuple #[.agg #[.int .i64 fm, .bool (Nm.wn s'.z), .slice a' (Nm.wl s'.z).length c', .int .i64 s'.T, .bool s'.nn, .bool s'.bd, .bool s'.pl, .bool s'.mi, .bool s'.am], .int .i64 0]) ∧ Own w' w.heap.size a' c' (Nm.wl s'.z) ∧ Below w.heap.size w w' := by
  subst hs'
  have hwv := Nm.wv_out s.z
  cases hf : (finB fm x && finB fm y)
  · rw [tmM_odd hx hy hf]
    have h := mulS_odd fm (Nm.wn s.z) s.T s.nn s.bd s.pl s.mi s.am p cap (Nm.wl s.z) x y w hs (Nm.wl_dg _) hR hx hy x0 x1 y0 y1 hT hf _ _ _ _ rfl rfl rfl rfl
    simpa [St.add] using h
  · obtain ⟨fx, fy⟩ : finB fm x = true ∧ finB fm y = true := by simpa using hf
    rw [tmM_fin hx hy fx fy]
    obtain ⟨-, -, hb⟩ := tp_eq hx hy fx fy
    have hfe : farE fm ≤ 4196 := by unfold farE; split <;> omega
    have hl := wl_len (V := tpV fm x y) (by omega)
    have h := mulS_fin fm (Nm.wn s.z) s.T s.nn s.bd s.pl s.mi s.am p cap (Nm.wl s.z) x y w hs (Nm.wl_dg _) hR hx hy x0 x1 y0 y1 hT fx fy (tpV fm x y) rfl hl (s.z + tpV fm x y) (by rw [hwv])
    simpa [St.add] using h
theorem law_AccMul (fm : Int) (ng : Bool) (T : Int) (nn bd pl mi am : Bool) (a : Option Addr) (cap : Nat) (zs : List Int) (x y : Int) (w : World) (hE : EX w) (hs : Sl .u32 w (.slice a zs.length cap) zs) (hz : Nm.Dg zs) (x0 : 0 ≤ x) (x1 : x < 18446744073709551616) (y0 : 0 ≤ y) (y1 : y < 18446744073709551616) :
    Calls Tryz.prog 3 #[.agg #[.int .i64 fm, .bool ng, .slice a zs.length cap, .int .i64 T, .bool nn, .bool bd, .bool pl, .bool mi, .bool am], .int .u64 x, .int .u64 y] w fun e w' => e = .returned (.bool true) ∧ Below w.heap.size w w' := by
  obtain ⟨c, hc⟩ : ∃ c, c = tcC (accB fm ng zs T nn bd pl mi am) (okF fm x && okF fm y) T := ⟨_, rfl⟩
  by_cases hc0 : c ≠ 0
  · exact LAccMul.law fm ng T nn bd pl mi am a cap zs x y w hE hs 0 false 0 false false false false false [] c (by simp) Nm.Dg.nil
      (fun hl w a cap h => (mulS_no fm ng T nn bd pl mi am a cap zs x y w h hl c hc hc0).mono fun e w' ⟨he, hb⟩ => ⟨none, 0, he, Own.nil _ _, hb⟩)
      (fun hl w a cap hE h => by
        obtain ⟨u, hE⟩ := hE
        exact (mulA_no fm ng T nn bd pl mi am a cap zs x y w hE.t h hl x0 x1 y0 y1 c hc hc0).mono fun e w' ⟨he, hb⟩ => ⟨none, 0, he, Own.nil _ _, hb⟩)
  have hc1 : c = 0 := by omega
  rw [hc1] at hc
  unfold tcC at hc
  cases hk : accB fm ng zs T nn bd pl mi am
  · rw [hk] at hc; simp at hc
  rw [hk] at hc
  cases hxy : (okF fm x && okF fm y)
  · rw [hxy] at hc; simp at hc
  rw [hxy] at hc
  have hTm : T ≠ 1000000 := by intro e; rw [if_pos rfl, if_pos rfl, if_pos e] at hc; cases hc
  obtain ⟨hx, hy⟩ : okF fm x = true ∧ okF fm y = true := by simpa using hxy
  obtain ⟨hfm, hk1, ho, -⟩ := acc_parts hk
  obtain ⟨e1, e2⟩ := okis hz ho
  obtain ⟨s, hs0⟩ : ∃ s : St, s = ⟨Nm.wv ng zs, T, nn, bd, pl, mi, am⟩ := ⟨_, rfl⟩
  have hR : Rt fm s := by rw [hs0]; unfold Rt; rw [e1, e2]; exact hk
  obtain ⟨s', hs'⟩ : ∃ s', s' = s.add (tmM fm x y) := ⟨_, rfl⟩
  have hR' : Rt fm s' := by rw [hs']; exact hR.add (tmM_ok hx hy) (by rw [hs0]; exact hTm)
  refine LAccMul.law fm ng T nn bd pl mi am a cap zs x y w hE hs fm (Nm.wn s'.z) s'.T s'.nn s'.bd s'.pl s'.mi s'.am (Nm.wl s'.z) 0 (okB_nz (acc_parts hR').2.2.1).2 (Nm.wl_dg _) ?_ ?_
  · intro hl' w a cap h
    have := accMS fm s x y a cap w hR hx x0 x1 hy y0 y1 (by rw [hs0]; exact hTm) (by rw [hs0]; show Sl .u32 w (.slice a (Nm.wl (Nm.wv ng zs)).length cap) (Nm.wl (Nm.wv ng zs)); rw [e2]; exact h) s' hs'
    rw [hs0] at this
    dsimp only at this
    rw [e1, e2] at this
    exact this
  · intro hl' w a cap hE h
    obtain ⟨u, hE⟩ := hE
    have := accMI fm s x y a cap u w hE hR hx x0 x1 hy y0 y1 (by rw [hs0]; exact hTm) (by rw [hs0]; show Sl .u32 w (.slice a (Nm.wl (Nm.wv ng zs)).length cap) (Nm.wl (Nm.wv ng zs)); rw [e2]; exact h) s' hs'
    rw [hs0] at this
    dsimp only at this
    rw [e1, e2] at this
    exact this
end Go.Proofs.YtapjclcjojadaaaGreatDoor
