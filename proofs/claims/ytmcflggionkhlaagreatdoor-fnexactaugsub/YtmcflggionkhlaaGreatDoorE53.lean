/-
  What is needed of FB, AW, AX, AZ.
-/
import Derived.Test.YtmcflggionkhlaaGreatDoorE51
set_option maxHeartbeats 16000000
set_option maxRecDepth 1000000
namespace Go.Proofs.YtmcflggionkhlaaGreatDoor
set_option linter.unusedVariables false
set_option linter.unusedSimpArgs false
open Go.RowKit Go.Deep
theorem sign_s (fm : Int) (w : World) (h : fmtB fm = true) :
    Calls Tryz.prog 63 #[.int .i64 fm] w fun e w' => e = .returned (.int .u64 (sgOf fm)) ∧ Below w.heap.size w w' := by
  rcases fmt_cases h with rfl | rfl
  all_goals
    go_enter Tryz.func63, Tryz.ntmps63
    go_wp2
    go_ret
    exact ⟨rfl, (by repeat (first | exact bz0 _ _ | refine bz1 ?_ | refine bz2 ?_ _ | refine bz3 ?_ _ | refine bz5 ?_ _ | refine bz6 ?_ _))⟩
theorem xor_negB {fm x : Int} (h : okF fm x = true) (h0 : 0 ≤ x) (h1 : x < 18446744073709551616) : bits .xor .u64 x (sgOf fm) = negF fm x := by
  rcases okF_cases h with ⟨rfl, hx⟩ | rfl
  · rw [neg32 hx, show sgOf 32 = 2147483648 from rfl, Bt.xor31 x h0 h1]; split <;> split <;> omega
  · rw [neg64, show sgOf 64 = 9223372036854775808 from rfl, Bt.xor63 x h0 h1]; split <;> split <;> omega
def asO (fm a b : Int) : Bool := okF fm b && muO fm 5 a (negF fm b)
def asB (fm a b : Int) : Int := if okF fm b then aaB fm a (negF fm b) else 0
def asT (fm a b : Int) : Int := if okF fm b then aaT fm a (negF fm b) else 0
def asF (fm a b : Int) : Int := if okF fm b then aaF fm a (negF fm b) else 0
theorem asub_spec (fm x y : Int) (w : World) (x0 : 0 ≤ x) (x1 : x < 18446744073709551616) (y0 : 0 ≤ y) (y1 : y < 18446744073709551616) (H T F : Int) (O : Bool) (hH : H = asB fm x y) (hT : T = asT fm x y) (hF : F = asF fm x y) (hO : O = asO fm x y) :
    Calls Tryz.prog 41 #[.int .i64 fm, .int .u64 x, .int .u64 y] w fun r w' => r = .returned (.tuple #[.agg #[.int .u64 H, .int .u64 T], .int .i64 F, .bool O]) ∧ Below w.heap.size w w' := by
  have CK := hid (fun w' => spec_ok fm y w')
  cases hy : okF fm y
  · rw [hy] at CK
    have h1 : H = 0 := by rw [hH]; unfold asB; rw [hy]; rfl
    have h2 : T = 0 := by rw [hT]; unfold asT; rw [hy]; rfl
    have h3 : F = 0 := by rw [hF]; unfold asF; rw [hy]; rfl
    have h4 : O = false := by rw [hO]; unfold asO; rw [hy]; rfl
    rw [h1, h2, h3, h4]
    clear h1 h2 h3 h4 hH hT hF hO hy
    have bel := Below.refl w.heap.size w
    go_enter Tryz.func41, Tryz.ntmps41
    replace bel := bel_al bel (.cells #[.int .u64 0, .int .u64 0] 54)
    have Br := R2.new w (.int .u64 0) (.int .u64 0) 54
    obtain ⟨kr0, kr1, -, -⟩ := id Br
    go_wp2_with fail
    refine (CK.out _).mono ?_
    rintro r w1 ⟨rfl, hb⟩
    clear kr0 kr1
    replace bel := bel_go bel hb
    replace Br := Br.below hb
    clear hb
    obtain ⟨kr0, kr1, -, -⟩ := id Br
    obtain ⟨-, -, lr0, lr1⟩ := id Br
    go_wp2
    refine bodyPost_ret (v := .tuple #[.agg #[.int .u64 0, .int .u64 0], .int .i64 0, .bool false]) (by simp [results, Tryz.results41, go_sem, kr0, kr1, lr0, lr1]) rfl ⟨rfl, ((bel.setCell (by simp) _).setCell (by simp) _)⟩
  · rw [hy] at CK
    obtain ⟨n1, n2, n3⟩ := neg_ok hy y0 y1
    have h1 : H = aaB fm x (negF fm y) := by rw [hH]; unfold asB; rw [if_pos hy]
    have h2 : T = aaT fm x (negF fm y) := by rw [hT]; unfold asT; rw [if_pos hy]
    have h3 : F = aaF fm x (negF fm y) := by rw [hF]; unfold asF; rw [if_pos hy]
    have h4 : O = muO fm 5 x (negF fm y) := by rw [hO]; unfold asO; rw [hy]; rfl
    have CA := hid (fun w' => aas_spec fm x (negF fm y) w' x0 x1 n2 n3 H T F O h1 h2 h3 h4)
    have CS := hid (fun w' => sign_s fm w' (ok_fmt hy))
    have hxr := xor_negB hy y0 y1
    obtain ⟨S, h_S⟩ : ∃ q, q = sgOf fm := ⟨_, rfl⟩
    obtain ⟨ny, h_ny⟩ : ∃ q, q = negF fm y := ⟨_, rfl⟩
    rw [← h_S] at CS hxr
    rw [← h_ny] at hxr CA
    clear h1 h2 h3 h4 hH hT hF hO hy n1 n2 n3 h_S h_ny
    have bel := Below.refl w.heap.size w
    go_enter Tryz.func41, Tryz.ntmps41
    replace bel := bel_al bel (.cells #[.int .u64 0, .int .u64 0] 54)
    have Br := R2.new w (.int .u64 0) (.int .u64 0) 54
    obtain ⟨kr0, kr1, -, -⟩ := id Br
    go_wp2_with fail
    refine (CK.out _).mono ?_
    rintro r w1 ⟨rfl, hb⟩
    clear kr0 kr1
    replace bel := bel_go bel hb
    replace Br := Br.below hb
    clear hb
    obtain ⟨kr0, kr1, -, -⟩ := id Br
    go_wp2_with fail
    refine (CS.out _).mono ?_
    rintro r w2 ⟨rfl, hb⟩
    clear kr0 kr1
    replace bel := bel_go bel hb
    replace Br := Br.below hb
    clear hb

    obtain ⟨kr0, kr1, -, -⟩ := id Br
    go_wp2_with fail
    try rw [hxr]
    clear kr0 kr1
    obtain ⟨kr0, kr1, -, -⟩ := id Br
    refine (CA.out _).mono ?_
    rintro r w3 ⟨rfl, hb⟩
    clear kr0 kr1
    replace bel := bel_go bel hb
    replace Br := Br.below hb
    clear hb
    obtain ⟨kr0, kr1, -, -⟩ := id Br
    obtain ⟨-, -, lr0, lr1⟩ := id Br
    go_wp2
    refine bodyPost_ret (v := .tuple #[.agg #[.int .u64 H, .int .u64 T], .int .i64 F, .bool O]) (by simp [results, Tryz.results41, go_sem, kr0, kr1, lr0, lr1]) rfl ⟨rfl, ((bel.setCell (by simp) _).setCell (by simp) _)⟩
theorem asi_impl (fm x y : Int) (u : Value) (w : World) (hE : E3 u w) (x0 : 0 ≤ x) (x1 : x < 18446744073709551616) (y0 : 0 ≤ y) (y1 : y < 18446744073709551616) (H T F : Int) (O : Bool) (hH : H = asB fm x y) (hT : T = asT fm x y) (hF : F = asF fm x y) (hO : O = asO fm x y) :
    Calls Tryz.prog 42 #[.int .i64 fm, .int .u64 x, .int .u64 y] w fun r w' => r = .returned (.tuple #[.agg #[.int .u64 H, .int .u64 T], .int .i64 F, .bool O]) ∧ Below w.heap.size w w' := by
  have CK := hid (fun w' k => impl_ok fm y w' k y0 y1)
  cases hy : okF fm y
  · rw [hy] at CK
    have g1 : H = 0 := by rw [hH]; unfold asB; rw [hy]; rfl
    have g2 : T = 0 := by rw [hT]; unfold asT; rw [hy]; rfl
    have g3 : F = 0 := by rw [hF]; unfold asF; rw [hy]; rfl
    have g4 : O = false := by rw [hO]; unfold asO; rw [hy]; rfl
    rw [g1, g2, g3, g4]
    clear g1 g2 g3 g4 hH hT hF hO hy
    have bel := Below.refl w.heap.size w
    go_enter Tryz.func42, Tryz.ntmps42
    replace hE := hE.below (al_b _ (.cells #[.int .u64 0, .int .u64 0] 54))
    replace bel := bel_al bel (.cells #[.int .u64 0, .int .u64 0] 54)
    have Br := R2.new w (.int .u64 0) (.int .u64 0) 54
    obtain ⟨kr0, kr1, -, -⟩ := id Br
    go_wp2_with fail
    refine (CK.out _ hE.t.s.f).mono ?_
    rintro r w1 ⟨rfl, hb⟩
    clear kr0 kr1
    replace bel := bel_go bel hb
    replace hE := hE.below hb
    replace Br := Br.below hb
    clear hb
    obtain ⟨kr0, kr1, -, -⟩ := id Br
    obtain ⟨-, -, lr0, lr1⟩ := id Br
    go_wp2
    refine bodyPost_ret (v := .tuple #[.agg #[.int .u64 0, .int .u64 0], .int .i64 0, .bool false]) (by simp [results, Tryz.results42, go_sem, kr0, kr1, lr0, lr1]) rfl ⟨rfl, ((bel.setCell (by simp) _).setCell (by simp) _)⟩
  · rw [hy] at CK
    obtain ⟨n1, n2, n3⟩ := neg_ok hy y0 y1
    have g1 : H = aaB fm x (negF fm y) := by rw [hH]; unfold asB; rw [if_pos hy]
    have g2 : T = aaT fm x (negF fm y) := by rw [hT]; unfold asT; rw [if_pos hy]
    have g3 : F = aaF fm x (negF fm y) := by rw [hF]; unfold asF; rw [if_pos hy]
    have g4 : O = muO fm 5 x (negF fm y) := by rw [hO]; unfold asO; rw [hy]; rfl
    have CG := hid (fun w' k => neg_i fm y w' k hy y0 y1)
    have CA := hid (fun w' k => aai_impl fm x (negF fm y) u w' k x0 x1 n2 n3 H T F O g1 g2 g3 g4)
    obtain ⟨ny, h_ny⟩ : ∃ q, q = negF fm y := ⟨_, rfl⟩
    rw [← h_ny] at CG CA
    clear g1 g2 g3 g4 hH hT hF hO hy n1 n2 n3 h_ny
    have bel := Below.refl w.heap.size w
    go_enter Tryz.func42, Tryz.ntmps42
    replace hE := hE.below (al_b _ (.cells #[.int .u64 0, .int .u64 0] 54))
    replace bel := bel_al bel (.cells #[.int .u64 0, .int .u64 0] 54)
    have Br := R2.new w (.int .u64 0) (.int .u64 0) 54
    obtain ⟨kr0, kr1, -, -⟩ := id Br
    go_wp2_with fail
    refine (CK.out _ hE.t.s.f).mono ?_
    rintro r w1 ⟨rfl, hb⟩
    clear kr0 kr1
    replace bel := bel_go bel hb
    replace hE := hE.below hb
    replace Br := Br.below hb
    clear hb
    obtain ⟨kr0, kr1, -, -⟩ := id Br
    go_wp2_with fail
    refine (CG.out _ hE.t.s.f).mono ?_
    rintro r w2 ⟨rfl, hb⟩
    clear kr0 kr1
    replace bel := bel_go bel hb
    replace hE := hE.below hb
    replace Br := Br.below hb
    clear hb
    obtain ⟨kr0, kr1, -, -⟩ := id Br
    go_wp2_with fail
    refine (CA.out _ hE).mono ?_
    rintro r w3 ⟨rfl, hb⟩
    clear kr0 kr1
    replace bel := bel_go bel hb
    replace hE := hE.below hb
    replace Br := Br.below hb
    clear hb
    obtain ⟨kr0, kr1, -, -⟩ := id Br
    obtain ⟨-, -, lr0, lr1⟩ := id Br
    go_wp2
    refine bodyPost_ret (v := .tuple #[.agg #[.int .u64 H, .int .u64 T], .int .i64 F, .bool O]) (by simp [results, Tryz.results42, go_sem, kr0, kr1, lr0, lr1]) rfl ⟨rfl, ((bel.setCell (by simp) _).setCell (by simp) _)⟩
theorem law_AugSub (fm x y : Int) (w : World) (hT : EX3 w) (x0 : 0 ≤ x) (x1 : x < 18446744073709551616) (y0 : 0 ≤ y) (y1 : y < 18446744073709551616) :
    Calls Tryz.prog 9 #[.int .i64 fm, .int .u64 x, .int .u64 y] w fun e w' => e = .returned (.bool true) ∧ Below w.heap.size w w' := by
  obtain ⟨u, hE⟩ := hT
  obtain ⟨H, h_H⟩ : ∃ q, q = asB fm x y := ⟨_, rfl⟩
  obtain ⟨T, h_T⟩ : ∃ q, q = asT fm x y := ⟨_, rfl⟩
  obtain ⟨F, h_F⟩ : ∃ q, q = asF fm x y := ⟨_, rfl⟩
  obtain ⟨O, h_O⟩ : ∃ q, q = asO fm x y := ⟨_, rfl⟩
  have CS := hid (fun w' => asub_spec fm x y w' x0 x1 y0 y1 H T F O h_H h_T h_F h_O)
  have CI := hid (fun w' k => asi_impl fm x y u w' k x0 x1 y0 y1 H T F O h_H h_T h_F h_O)
  clear h_H h_T h_F h_O
  have bel := Below.refl w.heap.size w
  go_enter Tryz.func9, Tryz.ntmps9
  go_wp2_with fail
  refine (CS.out _).mono ?_
  rintro r w1 ⟨rfl, hb⟩
  replace bel := bel_go bel hb
  replace hE := hE.below hb
  clear hb
  replace hE := hE.below (al_b _ (.cells #[.int .u64 H, .int .u64 T] 54))
  replace bel := bel_al bel (.cells #[.int .u64 H, .int .u64 T] 54)
  have Bs := R2.new w1 (.int .u64 H) (.int .u64 T) 54
  obtain ⟨ks0, ks1, -, -⟩ := id Bs
  go_wp2_with fail
  refine (CI.out _ hE).mono ?_
  rintro r w2 ⟨rfl, hb⟩
  clear ks0 ks1
  replace bel := bel_go bel hb
  replace hE := hE.below hb
  replace Bs := Bs.below hb
  clear hb
  replace hE := hE.below (al_b _ (.cells #[.int .u64 H, .int .u64 T] 54))
  replace Bs := Bs.below (al_b _ (.cells #[.int .u64 H, .int .u64 T] 54))
  replace bel := bel_al bel (.cells #[.int .u64 H, .int .u64 T] 54)
  have Bi := R2.new w2 (.int .u64 H) (.int .u64 T) 54
  obtain ⟨ks0, ks1, -, -⟩ := id Bs
  obtain ⟨ki0, ki1, -, -⟩ := id Bi
  go_wp2_with fail
  refine (eqp H T _).mono ?_
  rintro r w3 ⟨rfl, hb⟩
  clear ks0 ks1 ki0 ki1
  replace bel := bel_go bel hb
  replace hE := hE.below hb
  replace Bs := Bs.below hb
  replace Bi := Bi.below hb
  clear hb
  obtain ⟨ks0, ks1, -, -⟩ := id Bs
  obtain ⟨ki0, ki1, -, -⟩ := id Bi
  go_wp2
  all_goals go_ret
  all_goals exact ⟨rfl, bel⟩
end Go.Proofs.YtmcflggionkhlaaGreatDoor
