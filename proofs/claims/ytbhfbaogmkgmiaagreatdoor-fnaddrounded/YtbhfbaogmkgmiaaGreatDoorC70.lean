/-
  What is needed of FloatG, FP, WI, ZAr.
-/
import Derived.Test.YtbhfbaogmkgmiaaGreatDoorC29
import Derived.Test.YtbhfbaogmkgmiaaGreatDoorC45
import Derived.Test.YtbhfbaogmkgmiaaGreatDoorC65
set_option maxHeartbeats 16000000
set_option maxRecDepth 1000000
namespace Go.Proofs.YtbhfbaogmkgmiaaGreatDoor
set_option linter.unusedVariables false
set_option linter.unusedSimpArgs false
open Go.RowKit
theorem neg_no {fm x : Int} (h : okF fm x = false) : negF fm x = 0 := by unfold negF; rw [h]; rfl
end Go.Proofs.YtbhfbaogmkgmiaaGreatDoor
namespace Go.Proofs.YtbhfbaogmkgmiaaGreatDoor
set_option linter.unusedVariables false
set_option linter.unusedSimpArgs false
open Go.RowKit Go.Deep
namespace Fd
theorem iNegated (fm x : Int) (w : World) (hT : Tab w) (x0 : 0 ≤ x) (x1 : x < 18446744073709551616) :
    Calls Tryz.prog 32 #[.int .i64 fm, .int .u64 x] w fun e w' => e = .returned (.int .u64 (negF fm x)) ∧ Below w.heap.size w w' := by
  cases ho : okF fm x
  · have C := hid (fun w' h => impl_ok fm x w' h x0 x1)
    have HR := hid (neg_no ho)
    rw [ho] at C
    clear ho
    go_enter Tryz.func32, Tryz.ntmps32
    go_wp2_with fail
    refine (C.out _ hT).mono ?_
    rintro e w1 ⟨rfl, hb1⟩
    go_wp2
    go_ret
    exact ⟨ret_int HR.out.symm, (by repeat (first | exact bz0 _ _ | refine bz1 ?_ | refine bz2 ?_ _ | refine bz3 ?_ _ | refine bz4 ?_ hb1 | refine bz5 ?_ _ | refine bz6 ?_ _ | refine bz7 ?_ hb1))⟩
  · rcases okF_cases ho with ⟨rfl, h⟩ | rfl
    · rw [neg32 h]; exact impl_neg32 x w hT x0 h
    · rw [neg64]; exact impl_neg64 x w hT x0 x1
/-- The units of two floats together. -/
theorem sumOf_x (fm x y : Int) (w : World) (hT : Tab w) (x0 : 0 ≤ x) (x1 : x < 18446744073709551616) (y0 : 0 ≤ y) (y1 : y < 18446744073709551616) :
    Calls Tryz.prog 28 #[.int .i64 fm, .int .u64 x, .int .u64 y] w fun e w' => ∃ a' c', e = .returned (.tuple #[.agg #[.bool (Nm.wn (unI fm x + unI fm y)), .slice a' (Nm.wl (unI fm x + unI fm y)).length c'], .bool (finB fm x && finB fm y)]) ∧ Sl .u32 w' (.slice a' (Nm.wl (unI fm x + unI fm y)).length c') (Nm.wl (unI fm x + unI fm y)) ∧ Below w.heap.size w w' := by
  have UX := hid (fun w' h => units_impl fm x w' h x0 x1)
  have UY := hid (fun w' h => units_impl fm y w' h y0 y1)
  unfold Ans at UX UY
  have CA := hid (fun a b c d w' h h' => eadd_impl (unI fm x) (unI fm y) a b c d w' h h' (un_lenA fm x) (un_lenA fm y) (uu_len fm x y))
  obtain ⟨gx, hgx⟩ : ∃ g, g = Nm.wn (unI fm x) := ⟨_, rfl⟩
  obtain ⟨gy, hgy⟩ : ∃ g, g = Nm.wn (unI fm y) := ⟨_, rfl⟩
  obtain ⟨gz, hgz⟩ : ∃ g, g = Nm.wn (unI fm x + unI fm y) := ⟨_, rfl⟩
  obtain ⟨X, hX⟩ : ∃ g, g = Nm.wl (unI fm x) := ⟨_, rfl⟩
  obtain ⟨Y, hY⟩ : ∃ g, g = Nm.wl (unI fm y) := ⟨_, rfl⟩
  obtain ⟨Z, hZ⟩ : ∃ g, g = Nm.wl (unI fm x + unI fm y) := ⟨_, rfl⟩
  obtain ⟨fx, hfx⟩ : ∃ g, g = finB fm x := ⟨_, rfl⟩
  obtain ⟨fy, hfy⟩ : ∃ g, g = finB fm y := ⟨_, rfl⟩
  rw [← hgx, ← hX, ← hfx] at UX
  rw [← hgy, ← hY, ← hfy] at UY
  rw [← hgx, ← hX, ← hgy, ← hY, ← hgz, ← hZ] at CA
  rw [← hgz, ← hZ, ← hfx, ← hfy]
  clear hgx hgy hgz hX hY hZ hfx hfy x0 x1 y0 y1
  cases fx <;> cases fy
  · 
    go_enter Tryz.func28, Tryz.ntmps28
    have bel := Below.refl w.heap.size w
    replace hT := hT.below (al_b _ (.cells #[.bool false, .slice none 0 0] 26))
    replace bel := bel_al bel (.cells #[.bool false, .slice none 0 0] 26)
    have Br := R2.new w (.bool false) (.slice none 0 0) 26
    obtain ⟨kr0, kr1, -, -⟩ := id Br
    go_wp2_with fail
    refine (UX.out _ hT).mono ?_
    rintro r w1 ⟨ax, cx, rfl, ox, hb⟩
    clear kr0 kr1
    replace bel := bel_go bel hb
    replace hT := hT.below hb
    replace Br := Br.below hb
    clear hb
    have sx := ox.sl
    clear ox
    replace hT := hT.below (al_b _ (.cells #[.bool gx, .slice ax X.length cx] 26))
    replace Br := Br.below (al_b _ (.cells #[.bool gx, .slice ax X.length cx] 26))
    replace sx := sx.below (al_b _ (.cells #[.bool gx, .slice ax X.length cx] 26))
    replace bel := bel_al bel (.cells #[.bool gx, .slice ax X.length cx] 26)
    have Bx := R2.new w1 (.bool gx) (.slice ax X.length cx) 26
    obtain ⟨kr0, kr1, -, -⟩ := id Br
    obtain ⟨kx0, kx1, -, -⟩ := id Bx
    go_wp2_with fail
    refine (UY.out _ hT).mono ?_
    rintro r w2 ⟨ay, cy, rfl, oy, hb⟩
    clear kr0 kr1 kx0 kx1
    replace bel := bel_go bel hb
    replace hT := hT.below hb
    replace Br := Br.below hb
    replace sx := sx.below hb
    replace Bx := Bx.below hb
    clear hb
    have sy := oy.sl
    clear oy
    replace hT := hT.below (al_b _ (.cells #[.bool gy, .slice ay Y.length cy] 26))
    replace Br := Br.below (al_b _ (.cells #[.bool gy, .slice ay Y.length cy] 26))
    replace sx := sx.below (al_b _ (.cells #[.bool gy, .slice ay Y.length cy] 26))
    replace Bx := Bx.below (al_b _ (.cells #[.bool gy, .slice ay Y.length cy] 26))
    replace sy := sy.below (al_b _ (.cells #[.bool gy, .slice ay Y.length cy] 26))
    replace bel := bel_al bel (.cells #[.bool gy, .slice ay Y.length cy] 26)
    have By := R2.new w2 (.bool gy) (.slice ay Y.length cy) 26
    obtain ⟨kr0, kr1, -, -⟩ := id Br
    obtain ⟨kx0, kx1, -, -⟩ := id Bx
    obtain ⟨ky0, ky1, -, -⟩ := id By
    go_wp2_with fail
    have hlr := World.block_lt_of_cell? _ _ Br.c0
    refine (CA.out ax ay cx cy _ sx sy).mono ?_
    rintro r w3 ⟨az, cz, rfl, oz, hb⟩
    clear kr0 kr1 kx0 kx1 ky0 ky1
    have ngz_r : ∀ g, az = some ⟨g, 0, none⟩ → g ≠ w.heap.size := fun g h => by have := (own_at oz g h).1; simp only [] at hlr; omega
    clear hlr
    replace bel := bel_go bel hb
    replace hT := hT.below hb
    replace Br := Br.below hb
    replace sx := sx.below hb
    replace Bx := Bx.below hb
    replace sy := sy.below hb
    replace By := By.below hb
    clear hb
    replace hT := hT.below (al_b _ (.cells #[.bool gz, .slice az Z.length cz] 26))
    replace Br := Br.below (al_b _ (.cells #[.bool gz, .slice az Z.length cz] 26))
    replace sx := sx.below (al_b _ (.cells #[.bool gz, .slice az Z.length cz] 26))
    replace Bx := Bx.below (al_b _ (.cells #[.bool gz, .slice az Z.length cz] 26))
    replace sy := sy.below (al_b _ (.cells #[.bool gz, .slice az Z.length cz] 26))
    replace By := By.below (al_b _ (.cells #[.bool gz, .slice az Z.length cz] 26))
    replace oz := oz.below (al_b _ (.cells #[.bool gz, .slice az Z.length cz] 26))
    replace bel := bel_al bel (.cells #[.bool gz, .slice az Z.length cz] 26)
    have Bz := R2.new w3 (.bool gz) (.slice az Z.length cz) 26
    obtain ⟨kr0, kr1, -, -⟩ := id Br
    obtain ⟨kx0, kx1, -, -⟩ := id Bx
    obtain ⟨ky0, ky1, -, -⟩ := id By
    obtain ⟨kz0, kz1, -, -⟩ := id Bz
    obtain ⟨-, -, lr0, lr1⟩ := id Br
    go_wp2
    refine bodyPost_ret (v := .tuple #[.agg #[.bool gz, .slice az Z.length cz], .bool false]) (by simp [results, Tryz.results28, go_sem, kr0, kr1, kx0, kx1, ky0, ky1, kz0, kz1, lr0, lr1]) rfl ⟨az, cz, rfl, ((oz.setOther ngz_r _).setOther ngz_r _).sl, ((bel.setCell (by simp) _).setCell (by simp) _)⟩
  · 
    go_enter Tryz.func28, Tryz.ntmps28
    have bel := Below.refl w.heap.size w
    replace hT := hT.below (al_b _ (.cells #[.bool false, .slice none 0 0] 26))
    replace bel := bel_al bel (.cells #[.bool false, .slice none 0 0] 26)
    have Br := R2.new w (.bool false) (.slice none 0 0) 26
    obtain ⟨kr0, kr1, -, -⟩ := id Br
    go_wp2_with fail
    refine (UX.out _ hT).mono ?_
    rintro r w1 ⟨ax, cx, rfl, ox, hb⟩
    clear kr0 kr1
    replace bel := bel_go bel hb
    replace hT := hT.below hb
    replace Br := Br.below hb
    clear hb
    have sx := ox.sl
    clear ox
    replace hT := hT.below (al_b _ (.cells #[.bool gx, .slice ax X.length cx] 26))
    replace Br := Br.below (al_b _ (.cells #[.bool gx, .slice ax X.length cx] 26))
    replace sx := sx.below (al_b _ (.cells #[.bool gx, .slice ax X.length cx] 26))
    replace bel := bel_al bel (.cells #[.bool gx, .slice ax X.length cx] 26)
    have Bx := R2.new w1 (.bool gx) (.slice ax X.length cx) 26
    obtain ⟨kr0, kr1, -, -⟩ := id Br
    obtain ⟨kx0, kx1, -, -⟩ := id Bx
    go_wp2_with fail
    refine (UY.out _ hT).mono ?_
    rintro r w2 ⟨ay, cy, rfl, oy, hb⟩
    clear kr0 kr1 kx0 kx1
    replace bel := bel_go bel hb
    replace hT := hT.below hb
    replace Br := Br.below hb
    replace sx := sx.below hb
    replace Bx := Bx.below hb
    clear hb
    have sy := oy.sl
    clear oy
    replace hT := hT.below (al_b _ (.cells #[.bool gy, .slice ay Y.length cy] 26))
    replace Br := Br.below (al_b _ (.cells #[.bool gy, .slice ay Y.length cy] 26))
    replace sx := sx.below (al_b _ (.cells #[.bool gy, .slice ay Y.length cy] 26))
    replace Bx := Bx.below (al_b _ (.cells #[.bool gy, .slice ay Y.length cy] 26))
    replace sy := sy.below (al_b _ (.cells #[.bool gy, .slice ay Y.length cy] 26))
    replace bel := bel_al bel (.cells #[.bool gy, .slice ay Y.length cy] 26)
    have By := R2.new w2 (.bool gy) (.slice ay Y.length cy) 26
    obtain ⟨kr0, kr1, -, -⟩ := id Br
    obtain ⟨kx0, kx1, -, -⟩ := id Bx
    obtain ⟨ky0, ky1, -, -⟩ := id By
    go_wp2_with fail
    have hlr := World.block_lt_of_cell? _ _ Br.c0
    refine (CA.out ax ay cx cy _ sx sy).mono ?_
    rintro r w3 ⟨az, cz, rfl, oz, hb⟩
    clear kr0 kr1 kx0 kx1 ky0 ky1
    have ngz_r : ∀ g, az = some ⟨g, 0, none⟩ → g ≠ w.heap.size := fun g h => by have := (own_at oz g h).1; simp only [] at hlr; omega
    clear hlr
    replace bel := bel_go bel hb
    replace hT := hT.below hb
    replace Br := Br.below hb
    replace sx := sx.below hb
    replace Bx := Bx.below hb
    replace sy := sy.below hb
    replace By := By.below hb
    clear hb
    replace hT := hT.below (al_b _ (.cells #[.bool gz, .slice az Z.length cz] 26))
    replace Br := Br.below (al_b _ (.cells #[.bool gz, .slice az Z.length cz] 26))
    replace sx := sx.below (al_b _ (.cells #[.bool gz, .slice az Z.length cz] 26))
    replace Bx := Bx.below (al_b _ (.cells #[.bool gz, .slice az Z.length cz] 26))
    replace sy := sy.below (al_b _ (.cells #[.bool gz, .slice az Z.length cz] 26))
    replace By := By.below (al_b _ (.cells #[.bool gz, .slice az Z.length cz] 26))
    replace oz := oz.below (al_b _ (.cells #[.bool gz, .slice az Z.length cz] 26))
    replace bel := bel_al bel (.cells #[.bool gz, .slice az Z.length cz] 26)
    have Bz := R2.new w3 (.bool gz) (.slice az Z.length cz) 26
    obtain ⟨kr0, kr1, -, -⟩ := id Br
    obtain ⟨kx0, kx1, -, -⟩ := id Bx
    obtain ⟨ky0, ky1, -, -⟩ := id By
    obtain ⟨kz0, kz1, -, -⟩ := id Bz
    obtain ⟨-, -, lr0, lr1⟩ := id Br
    go_wp2
    refine bodyPost_ret (v := .tuple #[.agg #[.bool gz, .slice az Z.length cz], .bool false]) (by simp [results, Tryz.results28, go_sem, kr0, kr1, kx0, kx1, ky0, ky1, kz0, kz1, lr0, lr1]) rfl ⟨az, cz, rfl, ((oz.setOther ngz_r _).setOther ngz_r _).sl, ((bel.setCell (by simp) _).setCell (by simp) _)⟩
  · 
    go_enter Tryz.func28, Tryz.ntmps28
    have bel := Below.refl w.heap.size w
    replace hT := hT.below (al_b _ (.cells #[.bool false, .slice none 0 0] 26))
    replace bel := bel_al bel (.cells #[.bool false, .slice none 0 0] 26)
    have Br := R2.new w (.bool false) (.slice none 0 0) 26
    obtain ⟨kr0, kr1, -, -⟩ := id Br
    go_wp2_with fail
    refine (UX.out _ hT).mono ?_
    rintro r w1 ⟨ax, cx, rfl, ox, hb⟩
    clear kr0 kr1
    replace bel := bel_go bel hb
    replace hT := hT.below hb
    replace Br := Br.below hb
    clear hb
    have sx := ox.sl
    clear ox
    replace hT := hT.below (al_b _ (.cells #[.bool gx, .slice ax X.length cx] 26))
    replace Br := Br.below (al_b _ (.cells #[.bool gx, .slice ax X.length cx] 26))
    replace sx := sx.below (al_b _ (.cells #[.bool gx, .slice ax X.length cx] 26))
    replace bel := bel_al bel (.cells #[.bool gx, .slice ax X.length cx] 26)
    have Bx := R2.new w1 (.bool gx) (.slice ax X.length cx) 26
    obtain ⟨kr0, kr1, -, -⟩ := id Br
    obtain ⟨kx0, kx1, -, -⟩ := id Bx
    go_wp2_with fail
    refine (UY.out _ hT).mono ?_
    rintro r w2 ⟨ay, cy, rfl, oy, hb⟩
    clear kr0 kr1 kx0 kx1
    replace bel := bel_go bel hb
    replace hT := hT.below hb
    replace Br := Br.below hb
    replace sx := sx.below hb
    replace Bx := Bx.below hb
    clear hb
    have sy := oy.sl
    clear oy
    replace hT := hT.below (al_b _ (.cells #[.bool gy, .slice ay Y.length cy] 26))
    replace Br := Br.below (al_b _ (.cells #[.bool gy, .slice ay Y.length cy] 26))
    replace sx := sx.below (al_b _ (.cells #[.bool gy, .slice ay Y.length cy] 26))
    replace Bx := Bx.below (al_b _ (.cells #[.bool gy, .slice ay Y.length cy] 26))
    replace sy := sy.below (al_b _ (.cells #[.bool gy, .slice ay Y.length cy] 26))
    replace bel := bel_al bel (.cells #[.bool gy, .slice ay Y.length cy] 26)
    have By := R2.new w2 (.bool gy) (.slice ay Y.length cy) 26
    obtain ⟨kr0, kr1, -, -⟩ := id Br
    obtain ⟨kx0, kx1, -, -⟩ := id Bx
    obtain ⟨ky0, ky1, -, -⟩ := id By
    go_wp2_with fail
    have hlr := World.block_lt_of_cell? _ _ Br.c0
    refine (CA.out ax ay cx cy _ sx sy).mono ?_
    rintro r w3 ⟨az, cz, rfl, oz, hb⟩
    clear kr0 kr1 kx0 kx1 ky0 ky1
    have ngz_r : ∀ g, az = some ⟨g, 0, none⟩ → g ≠ w.heap.size := fun g h => by have := (own_at oz g h).1; simp only [] at hlr; omega
    clear hlr
    replace bel := bel_go bel hb
    replace hT := hT.below hb
    replace Br := Br.below hb
    replace sx := sx.below hb
    replace Bx := Bx.below hb
    replace sy := sy.below hb
    replace By := By.below hb
    clear hb
    replace hT := hT.below (al_b _ (.cells #[.bool gz, .slice az Z.length cz] 26))
    replace Br := Br.below (al_b _ (.cells #[.bool gz, .slice az Z.length cz] 26))
    replace sx := sx.below (al_b _ (.cells #[.bool gz, .slice az Z.length cz] 26))
    replace Bx := Bx.below (al_b _ (.cells #[.bool gz, .slice az Z.length cz] 26))
    replace sy := sy.below (al_b _ (.cells #[.bool gz, .slice az Z.length cz] 26))
    replace By := By.below (al_b _ (.cells #[.bool gz, .slice az Z.length cz] 26))
    replace oz := oz.below (al_b _ (.cells #[.bool gz, .slice az Z.length cz] 26))
    replace bel := bel_al bel (.cells #[.bool gz, .slice az Z.length cz] 26)
    have Bz := R2.new w3 (.bool gz) (.slice az Z.length cz) 26
    obtain ⟨kr0, kr1, -, -⟩ := id Br
    obtain ⟨kx0, kx1, -, -⟩ := id Bx
    obtain ⟨ky0, ky1, -, -⟩ := id By
    obtain ⟨kz0, kz1, -, -⟩ := id Bz
    obtain ⟨-, -, lr0, lr1⟩ := id Br
    go_wp2
    refine bodyPost_ret (v := .tuple #[.agg #[.bool gz, .slice az Z.length cz], .bool false]) (by simp [results, Tryz.results28, go_sem, kr0, kr1, kx0, kx1, ky0, ky1, kz0, kz1, lr0, lr1]) rfl ⟨az, cz, rfl, ((oz.setOther ngz_r _).setOther ngz_r _).sl, ((bel.setCell (by simp) _).setCell (by simp) _)⟩
  · 
    go_enter Tryz.func28, Tryz.ntmps28
    have bel := Below.refl w.heap.size w
    replace hT := hT.below (al_b _ (.cells #[.bool false, .slice none 0 0] 26))
    replace bel := bel_al bel (.cells #[.bool false, .slice none 0 0] 26)
    have Br := R2.new w (.bool false) (.slice none 0 0) 26
    obtain ⟨kr0, kr1, -, -⟩ := id Br
    go_wp2_with fail
    refine (UX.out _ hT).mono ?_
    rintro r w1 ⟨ax, cx, rfl, ox, hb⟩
    clear kr0 kr1
    replace bel := bel_go bel hb
    replace hT := hT.below hb
    replace Br := Br.below hb
    clear hb
    have sx := ox.sl
    clear ox
    replace hT := hT.below (al_b _ (.cells #[.bool gx, .slice ax X.length cx] 26))
    replace Br := Br.below (al_b _ (.cells #[.bool gx, .slice ax X.length cx] 26))
    replace sx := sx.below (al_b _ (.cells #[.bool gx, .slice ax X.length cx] 26))
    replace bel := bel_al bel (.cells #[.bool gx, .slice ax X.length cx] 26)
    have Bx := R2.new w1 (.bool gx) (.slice ax X.length cx) 26
    obtain ⟨kr0, kr1, -, -⟩ := id Br
    obtain ⟨kx0, kx1, -, -⟩ := id Bx
    go_wp2_with fail
    refine (UY.out _ hT).mono ?_
    rintro r w2 ⟨ay, cy, rfl, oy, hb⟩
    clear kr0 kr1 kx0 kx1
    replace bel := bel_go bel hb
    replace hT := hT.below hb
    replace Br := Br.below hb
    replace sx := sx.below hb
    replace Bx := Bx.below hb
    clear hb
    have sy := oy.sl
    clear oy
    replace hT := hT.below (al_b _ (.cells #[.bool gy, .slice ay Y.length cy] 26))
    replace Br := Br.below (al_b _ (.cells #[.bool gy, .slice ay Y.length cy] 26))
    replace sx := sx.below (al_b _ (.cells #[.bool gy, .slice ay Y.length cy] 26))
    replace Bx := Bx.below (al_b _ (.cells #[.bool gy, .slice ay Y.length cy] 26))
    replace sy := sy.below (al_b _ (.cells #[.bool gy, .slice ay Y.length cy] 26))
    replace bel := bel_al bel (.cells #[.bool gy, .slice ay Y.length cy] 26)
    have By := R2.new w2 (.bool gy) (.slice ay Y.length cy) 26
    obtain ⟨kr0, kr1, -, -⟩ := id Br
    obtain ⟨kx0, kx1, -, -⟩ := id Bx
    obtain ⟨ky0, ky1, -, -⟩ := id By
    go_wp2_with fail
    have hlr := World.block_lt_of_cell? _ _ Br.c0
    refine (CA.out ax ay cx cy _ sx sy).mono ?_
    rintro r w3 ⟨az, cz, rfl, oz, hb⟩
    clear kr0 kr1 kx0 kx1 ky0 ky1
    have ngz_r : ∀ g, az = some ⟨g, 0, none⟩ → g ≠ w.heap.size := fun g h => by have := (own_at oz g h).1; simp only [] at hlr; omega
    clear hlr
    replace bel := bel_go bel hb
    replace hT := hT.below hb
    replace Br := Br.below hb
    replace sx := sx.below hb
    replace Bx := Bx.below hb
    replace sy := sy.below hb
    replace By := By.below hb
    clear hb
    replace hT := hT.below (al_b _ (.cells #[.bool gz, .slice az Z.length cz] 26))
    replace Br := Br.below (al_b _ (.cells #[.bool gz, .slice az Z.length cz] 26))
    replace sx := sx.below (al_b _ (.cells #[.bool gz, .slice az Z.length cz] 26))
    replace Bx := Bx.below (al_b _ (.cells #[.bool gz, .slice az Z.length cz] 26))
    replace sy := sy.below (al_b _ (.cells #[.bool gz, .slice az Z.length cz] 26))
    replace By := By.below (al_b _ (.cells #[.bool gz, .slice az Z.length cz] 26))
    replace oz := oz.below (al_b _ (.cells #[.bool gz, .slice az Z.length cz] 26))
    replace bel := bel_al bel (.cells #[.bool gz, .slice az Z.length cz] 26)
    have Bz := R2.new w3 (.bool gz) (.slice az Z.length cz) 26
    obtain ⟨kr0, kr1, -, -⟩ := id Br
    obtain ⟨kx0, kx1, -, -⟩ := id Bx
    obtain ⟨ky0, ky1, -, -⟩ := id By
    obtain ⟨kz0, kz1, -, -⟩ := id Bz
    obtain ⟨-, -, lr0, lr1⟩ := id Br
    go_wp2
    refine bodyPost_ret (v := .tuple #[.agg #[.bool gz, .slice az Z.length cz], .bool true]) (by simp [results, Tryz.results28, go_sem, kr0, kr1, kx0, kx1, ky0, ky1, kz0, kz1, lr0, lr1]) rfl ⟨az, cz, rfl, ((oz.setOther ngz_r _).setOther ngz_r _).sl, ((bel.setCell (by simp) _).setCell (by simp) _)⟩
theorem unit_x2 {fm : Int} (h : fmtB fm = true) (w : World) :
    Calls Tryz.prog 30 #[.int .i64 fm] w fun e w' => e = .returned (.int .i64 (unQ fm)) ∧ Below w.heap.size w w' := by
  rcases fmt_cases h with rfl | rfl
  · exact unit32 w
  · exact unit64 w
theorem negF_twice {fm y : Int} (hy : okF fm y = true) (y0 : 0 ≤ y) (y1 : y < 18446744073709551616) : okF fm (negF fm y) = true ∧ 0 ≤ negF fm y ∧ negF fm y < 18446744073709551616 ∧ negF fm (negF fm y) = y := by
  rcases okF_cases hy with ⟨rfl, hb⟩ | rfl
  · rw [neg32 hb]
    have h2 : (if y < 2147483648 then y + 2147483648 else y - 2147483648) < 4294967296 := by split <;> omega
    refine ⟨okF32 h2, by split <;> omega, by split <;> omega, ?_⟩
    rw [neg32 h2]
    repeat' split
    all_goals omega
  · rw [neg64]
    refine ⟨okF64, by split <;> omega, by split <;> omega, ?_⟩
    rw [neg64]
    repeat' split
    all_goals omega
/-- A sum of finite floats that is not 0 is rounded once; so is what is taken away when it is turned. -/
theorem ar_main {fm mode a b : Int} (a0 : 0 ≤ a) (a1 : a < 18446744073709551616) (b0 : 0 ≤ b) (b1 : b < 18446744073709551616) (hO : muO fm mode a b = true) (hf : (finB fm a && finB fm b) = true) (hz : unI fm a + unI fm b ≠ 0) :
    fmtB fm = true ∧ RdO fm mode (Nm.wn (unI fm a + unI fm b)) (Nm.wl (unI fm a + unI fm b)) (unQ fm) = true ∧ RdB fm mode (Nm.wn (unI fm a + unI fm b)) (Nm.wl (unI fm a + unI fm b)) (unQ fm) = adB fm mode a b ∧ RdF fm mode (Nm.wn (unI fm a + unI fm b)) (Nm.wl (unI fm a + unI fm b)) (unQ fm) = adF fm mode a b ∧ 0 ≤ negF fm b ∧ negF fm b < 18446744073709551616 ∧ suB fm mode a (negF fm b) = adB fm mode a b ∧ suF fm mode a (negF fm b) = adF fm mode a b ∧ muO fm mode a (negF fm b) = true := by
  simp only [Bool.and_eq_true] at hf
  obtain ⟨fa, fb⟩ := hf
  have hO' := hO
  unfold muO at hO'
  simp only [Bool.and_eq_true] at hO'
  obtain ⟨hm, hall⟩ := hO'
  obtain ⟨oa, ob⟩ := all2 hall
  have hfm := ok_fmt oa
  obtain ⟨-, ia, -, -, na, -⟩ := fin_facts oa fa
  obtain ⟨-, ib, -, -, nb, -⟩ := fin_facts ob fb
  obtain ⟨n1, n2, n3, n4⟩ := negF_twice ob b0 b1
  have hRO := rdo_any (fm := fm) (mode := mode) (z := unI fm a + unI fm b) (e := unQ fm) hfm hm (uu_len fm a b) (by have := unq_bd fm; omega) (by have := unq_bd fm; omega)
  have hmO : muO fm mode a (negF fm b) = true := by rw [su_O ob b0 b1]; exact hO
  refine ⟨hfm, hRO, ?_, ?_, n2, n3, ?_, ?_, hmO⟩
  · unfold adB aB
    rw [hO, if_pos rfl, na, nb, ia, ib]
    simp only [Bool.or_self, Bool.and_self, Bool.false_and, Bool.false_eq_true, if_false]
    rw [if_neg hz]
  · unfold adF aF
    rw [hO, if_pos rfl, na, nb, ia, ib]
    simp only [Bool.or_self, Bool.and_self, Bool.false_and, Bool.false_eq_true, if_false]
    rw [if_neg hz]
  · unfold suB; rw [hmO, if_pos rfl, n4]
  · unfold suF; rw [hmO, if_pos rfl, n4]
theorem arlaw (ca : Option Addr) (cc : Nat) (cs : List Int) (w : World) (hT : EX3 w) (hs : Sl .u8 w (.slice ca cs.length cc) cs) (hby : ∀ i, 0 ≤ cs.getD i 0 ∧ cs.getD i 0 ≤ 255) (hl : cs.length ≤ 1048576) :
    Calls Tryz.prog 6 #[.slice ca cs.length cc] w fun e w' => e = .returned (.bool true) ∧ Below w.heap.size w w' := by
  go_enter Tryz.func6, Tryz.ntmps6
  go_wp2_with fail
  refine (big_any ca cs.length cc _ (by omega) false (by simp; omega)).mono ?_
  rintro r w0 ⟨rfl, rfl⟩
  go_wp2_with fail
  refine (drawAdd_x ca cc cs _ hs hby hl).mono ?_
  rintro r w1 ⟨fm, mode, a, b, rfl, a0, a1, b0, b1, bel⟩
  obtain ⟨u, T⟩ := hT.below bel
  clear hs hby hl hT
  have AI := hid (fun w' h => addf_all fm mode a b u w' h a0 a1 b0 b1 _ _ _ rfl rfl rfl)
  have AS := hid (fun w' => add_spec fm mode a b w' a0 a1 b0 b1 _ _ _ rfl rfl rfl)
  have SO := hid (fun w' h => sumOf_x fm a b w' h a0 a1 b0 b1)
  have MN := hid (ar_main (fm := fm) (mode := mode) a0 a1 b0 b1)
  have RI := hid (fun p c w' h h' => rounded_impl fm mode (Nm.wn (unI fm a + unI fm b)) (Nm.wl (unI fm a + unI fm b)) (unQ fm) p c w' h h' (Nm.wl_dg _) (by have := uu_len fm a b; omega))
  have UN := hid (fun (h : fmtB fm = true) w' => unit_x2 h w')
  have NI := hid (fun w' h => iNegated fm b w' h b0 b1)
  have SB := hid (fun h0 h1 w' h => subi_all fm mode a (negF fm b) u w' h a0 a1 h0 h1 _ _ _ rfl rfl rfl)
  have LZ := hid (wl_zero' (unI fm a + unI fm b))
  obtain ⟨B, h_B⟩ : ∃ q, q = adB fm mode a b := ⟨_, rfl⟩
  obtain ⟨F, h_F⟩ : ∃ q, q = adF fm mode a b := ⟨_, rfl⟩
  obtain ⟨O, h_O⟩ : ∃ q, q = muO fm mode a b := ⟨_, rfl⟩
  obtain ⟨s, h_s⟩ : ∃ q, q = unI fm a + unI fm b := ⟨_, rfl⟩
  obtain ⟨ff, h_ff⟩ : ∃ q, q = (finB fm a && finB fm b) := ⟨_, rfl⟩
  obtain ⟨q0, h_q0⟩ : ∃ q, q = unQ fm := ⟨_, rfl⟩
  rw [← h_B, ← h_F, ← h_O] at AI AS
  rw [← h_s, ← h_ff] at SO
  rw [← h_B, ← h_F, ← h_O, ← h_s, ← h_ff, ← h_q0] at MN
  rw [← h_s, ← h_q0] at RI
  rw [← h_s] at LZ
  rw [← h_q0] at UN
  clear h_B h_F h_O h_s h_ff h_q0
  have ne_B : (B != B) = false := by simp
  have eq_B : (B == B) = true := by simp
  have ne_F : (F != F) = false := by simp
  have eq_F : (F == F) = true := by simp
  have ne_O : (O != O) = false := by simp
  have eq_O : (O == O) = true := by simp
  obtain ⟨g, h_g⟩ : ∃ q, q = Nm.wn s := ⟨_, rfl⟩
  obtain ⟨L, h_L⟩ : ∃ q, q = Nm.wl s := ⟨_, rfl⟩
  obtain ⟨nb, h_nb⟩ : ∃ q, q = negF fm b := ⟨_, rfl⟩
  rw [← h_g, ← h_L] at SO RI MN
  rw [← h_L] at LZ
  rw [← h_nb] at NI SB MN
  clear h_g h_L h_nb
  cases O
  · clear MN RI UN NI SB LZ
    go_wp2_with fail
    refine (AI.out _ T).mono ?_
    rintro r w2 ⟨rfl, hb⟩
    replace bel := bel_go bel hb
    replace T := T.below hb
    clear hb
    go_wp2_with fail
    refine (AS.out _).mono ?_
    rintro r w3 ⟨rfl, hb⟩
    replace bel := bel_go bel hb
    replace T := T.below hb
    clear hb
    go_wp2_with fail
    refine (SO.out _ T.t.s.f).mono ?_
    rintro r w4 ⟨aS, cS, rfl, sS, hb⟩
    replace bel := bel_go bel hb
    replace T := T.below hb
    clear hb
    replace T := T.below (al_b _ (.cells #[.bool g, .slice aS L.length cS] 26))
    replace sS := sS.below (al_b _ (.cells #[.bool g, .slice aS L.length cS] 26))
    replace bel := bel_al bel (.cells #[.bool g, .slice aS L.length cS] 26)
    have Bs := R2.new w4 (.bool g) (.slice aS L.length cS) 26
    obtain ⟨ks0, ks1, -, -⟩ := id Bs
    go_wp2
    all_goals go_ret
    all_goals exact ⟨rfl, bel⟩
  · cases ff
    · clear MN RI UN NI SB LZ
      go_wp2_with fail
      refine (AI.out _ T).mono ?_
      rintro r w2 ⟨rfl, hb⟩
      replace bel := bel_go bel hb
      replace T := T.below hb
      clear hb
      go_wp2_with fail
      refine (AS.out _).mono ?_
      rintro r w3 ⟨rfl, hb⟩
      replace bel := bel_go bel hb
      replace T := T.below hb
      clear hb
      go_wp2_with fail
      refine (SO.out _ T.t.s.f).mono ?_
      rintro r w4 ⟨aS, cS, rfl, sS, hb⟩
      replace bel := bel_go bel hb
      replace T := T.below hb
      clear hb
      replace T := T.below (al_b _ (.cells #[.bool g, .slice aS L.length cS] 26))
      replace sS := sS.below (al_b _ (.cells #[.bool g, .slice aS L.length cS] 26))
      replace bel := bel_al bel (.cells #[.bool g, .slice aS L.length cS] 26)
      have Bs := R2.new w4 (.bool g) (.slice aS L.length cS) 26
      obtain ⟨ks0, ks1, -, -⟩ := id Bs
      go_wp2
      all_goals go_ret
      all_goals exact ⟨rfl, bel⟩
    · by_cases hz : L.length = 0
      · have hz' : ((L.length : Int) == 0) = true := by rw [beq_iff_eq]; omega
        clear hz
        clear MN RI UN NI SB LZ
        go_wp2_with fail
        refine (AI.out _ T).mono ?_
        rintro r w2 ⟨rfl, hb⟩
        replace bel := bel_go bel hb
        replace T := T.below hb
        clear hb
        go_wp2_with fail
        refine (AS.out _).mono ?_
        rintro r w3 ⟨rfl, hb⟩
        replace bel := bel_go bel hb
        replace T := T.below hb
        clear hb
        go_wp2_with fail
        refine (SO.out _ T.t.s.f).mono ?_
        rintro r w4 ⟨aS, cS, rfl, sS, hb⟩
        replace bel := bel_go bel hb
        replace T := T.below hb
        clear hb
        replace T := T.below (al_b _ (.cells #[.bool g, .slice aS L.length cS] 26))
        replace sS := sS.below (al_b _ (.cells #[.bool g, .slice aS L.length cS] 26))
        replace bel := bel_al bel (.cells #[.bool g, .slice aS L.length cS] 26)
        have Bs := R2.new w4 (.bool g) (.slice aS L.length cS) 26
        obtain ⟨ks0, ks1, -, -⟩ := id Bs
        go_wp2
        all_goals go_ret
        all_goals exact ⟨rfl, bel⟩
      · obtain ⟨hfm, m1, m2, m3, m4, m5, m6, m7, m8⟩ := MN.out rfl rfl (fun h => hz (LZ.out.2 h))
        have hz' : ((L.length : Int) == 0) = false := by rw [beq_eq_false_iff_ne]; omega
        have UN2 := hid (fun w' => UN.out hfm w')
        have SB2 := hid (fun w' h => SB.out m4 m5 w' h)
        rw [m6, m7, m8] at SB2
        rw [m1, m2, m3] at RI
        clear hz MN UN SB LZ hfm m1 m2 m3 m4 m5 m6 m7 m8
        go_wp2_with fail
        refine (AI.out _ T).mono ?_
        rintro r w2 ⟨rfl, hb⟩
        replace bel := bel_go bel hb
        replace T := T.below hb
        clear hb
        go_wp2_with fail
        refine (AS.out _).mono ?_
        rintro r w3 ⟨rfl, hb⟩
        replace bel := bel_go bel hb
        replace T := T.below hb
        clear hb
        go_wp2_with fail
        refine (SO.out _ T.t.s.f).mono ?_
        rintro r w4 ⟨aS, cS, rfl, sS, hb⟩
        replace bel := bel_go bel hb
        replace T := T.below hb
        clear hb
        replace T := T.below (al_b _ (.cells #[.bool g, .slice aS L.length cS] 26))
        replace sS := sS.below (al_b _ (.cells #[.bool g, .slice aS L.length cS] 26))
        replace bel := bel_al bel (.cells #[.bool g, .slice aS L.length cS] 26)
        have Bs := R2.new w4 (.bool g) (.slice aS L.length cS) 26
        go_upto_region 9 with fail
        generalize w4.alloc (.cells #[.bool g, .slice aS L.length cS] 26) = W at bel T Bs sS ⊢
        obtain ⟨ks0, ks1, -, -⟩ := id Bs
        have belR := Below.drew (Below.refl W.heap.size W)
        refine wp_region_held_drew (S := fun w' => w'.cell? ⟨w4.heap.size, 0, none⟩ = some (.bool g) ∧ w'.cell? ⟨w4.heap.size, 1, none⟩ = some (.slice aS L.length cS)) (by kernel_rfl) ?_ (fun hHeld => ?_)
        · exact ⟨Bs.c0, Bs.c1⟩
        generalize W.drew = v0 at belR hHeld ⊢
        refine tk 0 ?_ rfl (Or.inl ⟨by rfl, ?_⟩) ?_
        rotate_left
        · (intro w hSw; go_simp; try (with_reducible rfl))
        try simp only [Act.put, Ls]
        refine tk 1 ?_ rfl (Or.inl ⟨by rfl, ?_⟩) ?_
        rotate_left
        · (intro w hSw; go_simp; try (with_reducible rfl))
        try simp only [Act.put, Ls]
        refine tk 2 ?_ rfl (Or.inl ⟨by rfl, ?_⟩) ?_
        rotate_left
        · (intro w hSw; (try dsimp only at hSw); obtain ⟨hS0, hS1⟩ := hSw; go_simp; try (with_reducible rfl))
        try simp only [Act.put, Ls]
        refine tk 3 ?_ rfl (Or.inl ⟨by rfl, ?_⟩) ?_
        rotate_left
        · (intro w hSw; go_simp; try (with_reducible rfl))
        try simp only [Act.put, Ls]
        refine rdy 4 rfl (fun K hK => ?_)
        go_simp
        go_at_call 30
        refine (UN2.out _).mono ?_
        rintro r v1 ⟨rfl, hb'⟩
        have hz' := belR.size
        replace belR := bel_go belR hb'
        clear hb' hz'
        refine hK.out _ _ ?_ (fun hHeld => ?_)
        · exact ⟨(Bs.below belR).c0, (Bs.below belR).c1⟩
        clear hK K
        try simp only [Act.put, Ls]
        refine rdy 5 rfl (fun K hK => ?_)
        go_simp
        go_at_call 29
        refine (RI.out aS cS _ (T.below belR).t (sS.below belR)).mono ?_
        rintro r v2 ⟨rfl, hb'⟩
        have hz' := belR.size
        replace belR := bel_go belR hb'
        clear hb' hz'
        refine hK.out _ _ ?_ (fun hHeld => ?_)
        · exact ⟨(Bs.below belR).c0, (Bs.below belR).c1⟩
        clear hK K
        try simp only [Act.put, Ls]
        refine tk 6 ?_ rfl (Or.inl ⟨by rfl, ?_⟩) ?_
        rotate_left
        · (intro w hSw; go_simp; try (with_reducible rfl))
        try simp only [Act.put, Ls]
        refine tk 7 ?_ rfl (Or.inl ⟨by rfl, ?_⟩) ?_
        rotate_left
        · (intro w hSw; go_simp; try (with_reducible rfl))
        try simp only [Act.put, Ls]
        refine tk 8 ?_ rfl (Or.inl ⟨by rfl, ?_⟩) ?_
        rotate_left
        · (intro w hSw; go_simp; try (with_reducible rfl))
        try simp only [Act.put, Ls]
        refine tk 9 ?_ rfl (Or.inl ⟨by rfl, ?_⟩) ?_
        rotate_left
        · (intro w hSw; go_simp; try (with_reducible rfl))
        try simp only [Act.put, Ls]
        refine rdy 10 rfl (fun K hK => ?_)
        go_simp
        refine hK.out _ _ ?_ (fun hHeld => ?_)
        · exact ⟨(Bs.below belR).c0, (Bs.below belR).c1⟩
        clear hK K
        try simp only [Act.put, Ls]
        refine rdy 11 rfl (fun K hK => ?_)
        go_simp
        refine hK.out _ _ ?_ (fun hHeld => ?_)
        · exact ⟨(Bs.below belR).c0, (Bs.below belR).c1⟩
        clear hK K
        try simp only [Act.put, Ls]
        refine rdy 12 rfl (fun K hK => ?_)
        go_simp
        refine hK.out _ _ ?_ (fun hHeld => ?_)
        · exact ⟨(Bs.below belR).c0, (Bs.below belR).c1⟩
        clear hK K
        try simp only [Act.put, Ls]
        refine wpAnyH_done (by kernel_rfl) ?_ _
        replace bel := bel.trans (belR.mono bel.size)
        replace T := T.below belR
        clear belR Bs sS
        go_wp2_with fail
        refine (NI.out _ T.t.s.f).mono ?_
        rintro r w10 ⟨rfl, hb⟩
        replace bel := bel_go bel hb
        replace T := T.below hb
        clear hb
        go_wp2_with fail
        refine (SB2.out _ T).mono ?_
        rintro r w11 ⟨rfl, hb⟩
        replace bel := bel_go bel hb
        replace T := T.below hb
        clear hb
        go_wp2
        all_goals go_ret
        all_goals exact ⟨rfl, bel⟩
theorem arlaw_all (ca : Option Addr) (cc : Nat) (cs : List Int) (w : World) (hT : EX3 w) (hs : Sl .u8 w (.slice ca cs.length cc) cs) (hby : ∀ i, 0 ≤ cs.getD i 0 ∧ cs.getD i 0 ≤ 255) :
    Calls Tryz.prog 6 #[.slice ca cs.length cc] w fun e w' => e = .returned (.bool true) ∧ Below w.heap.size w w' := by
  by_cases h : cs.length ≤ 1048576
  · exact arlaw ca cc cs w hT hs hby h
  · have hn : cs.length ≤ 9223372036854775807 := by obtain ⟨_, h1, h2, _⟩ := hs.cells; unfold maxLen at h2; omega
    have CB := hid (big_any ca cs.length cc w hn true (by simp; omega))
    clear hs hby h hn
    go_enter Tryz.func6, Tryz.ntmps6
    go_wp2_with fail
    refine CB.out.mono ?_
    rintro e w0 ⟨rfl, rfl⟩
    go_wp2
    go_ret
    exact ⟨rfl, Below.refl _ _⟩
end Fd
end Go.Proofs.YtbhfbaogmkgmiaaGreatDoor
