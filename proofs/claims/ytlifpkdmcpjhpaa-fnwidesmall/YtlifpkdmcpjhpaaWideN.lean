/-
  0 less a wide, by the specification; the law.
-/
import Derived.Test.YtlifpkdmcpjhpaaLNeg
namespace Go.Proofs.Ytlifpkdmcpjhpaa
set_option linter.unusedVariables false
set_option linter.unusedSimpArgs false
open Go.RowKit Go.Deep
set_option maxHeartbeats 1000000 in
theorem l1neg_any (ng : Bool) (a : Option Addr) (cap : Nat) (zs : List Int) (w : World) (hs : Sl .u32 w (.slice a zs.length cap) zs) (hz : Nm.Dg zs) (hl : zs.length ≤ 1048576) (x : Int) (hx : x = Nm.wv (!ng) zs) :
    Calls Try.prog 63 #[.agg #[.bool ng, .slice a zs.length cap]] w fun e w' => ∃ a' c', e = .returned (.agg #[.bool (Nm.wn x), .slice a' (Nm.wl x).length c']) ∧ Own w' w.heap.size a' c' (Nm.wl x) ∧ Below w.heap.size w w' := by
  have HX := hid hx
  clear hx
  go_enter Try.func63, Try.ntmps63
  go_wp2_with fail
  refine (made_v (!ng) a cap zs _ ((hs.alloc _).alloc _) hz hl x HX.out).mono ?_
  rintro e w1 ⟨a', c', rfl, ho, hb⟩
  obtain ⟨r0, r1, f0, f1⟩ := (R2.new2 w (.cells #[.bool ng, .slice a zs.length cap] 26) (.bool false) (.slice none 0 0) 26).below hb
  have ho : Own w1 (w.heap.size + 1 + 1) a' c' (Nm.wl x) := by simpa using ho
  go_wp2
  refine bodyPost_ret (v := .agg #[.bool (Nm.wn x), .slice a' (Nm.wl x).length c']) (by simp [results, Try.results63, go_sem, r0, r1]) rfl ⟨a', c', rfl, ?_, (by repeat (first | exact Below.refl _ _ | refine Below.drew ?_ | refine bel_dn ?_ _ | refine bel_al ?_ _ | refine bel_go ?_ hb | refine Below.setCell ?_ (by first | omega | (simp; done) | (simp; omega)) _ | refine Below.alloc ?_ (by first | omega | (simp; done) | (simp; omega)) _ | refine Below.trans ?_ (Below.mono hb (by first | omega | (simp; done) | (simp; omega)))))⟩
  exact Own.base ((ho.setBelow (by simp) _).setBelow (by simp) _) (by omega)
set_option maxHeartbeats 1000000 in
theorem wneg_spec (ng : Bool) (a : Option Addr) (cap : Nat) (zs : List Int) (w : World) (hs : Sl .u32 w (.slice a zs.length cap) zs) (hz : Nm.Dg zs) (hl : zs.length ≤ 1048576) :
    Calls Try.prog 56 #[.agg #[.bool ng, .slice a zs.length cap]] w fun e w' => ∃ a' c', e = .returned (.agg #[.bool (negN ng zs), .slice a' (negL ng zs).length c']) ∧ Own w' w.heap.size a' c' (negL ng zs) ∧ Below w.heap.size w w' := by
  have hl' : zs.length ≤ 140737488355328 := by omega
  cases h1 : okB ng zs
  · have HR : Hid (negN ng zs = false ∧ negL ng zs = []) := hid (by unfold negN negL; rw [h1]; exact ⟨rfl, rfl⟩)
    go_enter Try.func56, Try.ntmps56
    go_wp2_with fail
    refine (ok_spec ng a cap zs _ ((hs.alloc _).alloc _) hl').mono ?_
    rintro e w1 ⟨rfl, hb1⟩
    obtain ⟨r10, r11, f10, f11⟩ := (R2.new2 w _ (.bool false) (.slice none 0 0) 26).below hb1
    go_wp2
    refine bodyPost_ret (v := .agg #[.bool false, .slice none 0 0]) (by simp [results, Try.results56, go_sem, r10, r11]) rfl ⟨none, 0, ?_, ?_, (by repeat (first | exact Below.refl _ _ | refine Below.drew ?_ | refine bel_dn ?_ _ | refine bel_al ?_ _ | refine bel_go ?_ hb1 | refine Below.setCell ?_ (by first | omega | (simp; done) | (simp; omega)) _ | refine Below.alloc ?_ (by first | omega | (simp; done) | (simp; omega)) _ | refine Below.trans ?_ (Below.mono hb1 (by first | omega | (simp; done) | (simp; omega)))))⟩
    · rw [HR.out.1, HR.out.2]; rfl
    · rw [HR.out.2]; exact Own.nil _ _
  · have HR : Hid (negN ng zs = Nm.wn (Nm.wv (!ng) zs) ∧ negL ng zs = Nm.wl (Nm.wv (!ng) zs)) := hid (by unfold negN negL; rw [h1]; exact ⟨rfl, rfl⟩)
    go_enter Try.func56, Try.ntmps56
    go_wp2_with fail
    refine (ok_spec ng a cap zs _ ((hs.alloc _).alloc _) hl').mono ?_
    rintro e w1 ⟨rfl, hb1⟩
    have r1 := (R2.new2 w (.cells #[.bool ng, .slice a zs.length cap] 26) (.bool false) (.slice none 0 0) 26).below hb1
    obtain ⟨x10, x11⟩ := ((Box.new w (.bool ng) (.slice a zs.length cap) 26).alloc _).below hb1
    have s1 := ((hs.alloc _).alloc _).below hb1
    have hbw1 : w.heap.size + 1 < w1.heap.size := World.block_lt_of_cell? w1 _ r1.c0
    go_wp2_with fail
    refine (l1neg_any ng a cap zs _ s1 hz hl _ rfl).mono ?_
    rintro e w2 ⟨a', c', rfl, ho, hb2⟩
    obtain ⟨r20, r21, f20, f21⟩ := r1.below hb2
    obtain ⟨e1, e2⟩ := HR.out
    go_wp2
    refine bodyPost_ret (v := .agg #[.bool (negN ng zs), .slice a' (negL ng zs).length c']) (by simp [results, Try.results56, go_sem, r20, r21, e1, e2]) rfl ⟨a', c', rfl, ?_, (by repeat (first | exact Below.refl _ _ | refine Below.drew ?_ | refine bel_dn ?_ _ | refine bel_al ?_ _ | refine bel_go ?_ hb2 | refine bel_go ?_ hb1 | refine Below.setCell ?_ (by first | omega | (simp; done) | (simp; omega)) _ | refine Below.alloc ?_ (by first | omega | (simp; done) | (simp; omega)) _ | refine Below.trans ?_ (Below.mono hb2 (by first | omega | (simp; done) | (simp; omega))) | refine Below.trans ?_ (Below.mono hb1 (by first | omega | (simp; done) | (simp; omega)))))⟩
    rw [e2]
    exact Own.base ((ho.setBelow (by simp; omega) _).setBelow (by simp; omega) _) (by omega)
theorem neg_200 (ng : Bool) {zs : List Int} (hd : Nm.Dg zs) : (negL ng zs).length ≤ 200 ∧ Nm.Dg (negL ng zs) := by
  unfold negL
  split
  · rename_i h
    have := ok_fits hd h (!ng)
    exact ⟨by simpa [Nm.fits] using this, Nm.wl_dg _⟩
  · exact ⟨by simp, Nm.Dg.nil⟩
theorem law_WideNegated (ng : Bool) (a : Option Addr) (cap : Nat) (zs : List Int) (w : World) (hs : Sl .u32 w (.slice a zs.length cap) zs) (hz : Nm.Dg zs) :
    Calls Try.prog 14 #[.agg #[.bool ng, .slice a zs.length cap]] w fun e w' => e = .returned (.bool true) ∧ Below w.heap.size w w' :=
  LWideNegated.law ng a cap zs w hs hz (negN ng zs) (negL ng zs) true (neg_200 ng hz).1 (neg_200 ng hz).2
    (fun hl w a cap h => wneg_spec ng a cap zs w h hz hl) (fun hl w a cap h => wneg_impl ng a cap zs w h hz hl)
end Go.Proofs.Ytlifpkdmcpjhpaa
