/-
  What is needed of BW.
-/
import Derived.Test.YtbhfbaogmkgmiaaGreatDoorC55
set_option maxHeartbeats 16000000
set_option maxRecDepth 1000000
namespace Go.Proofs.YtbhfbaogmkgmiaaGreatDoor
set_option linter.unusedVariables false
set_option linter.unusedSimpArgs false
open Go.RowKit Go.Deep
namespace Fd
theorem rd_two {W : World} {rb : Nat} {ca : Option Addr} {cc : Nat} {cs : List Int} (h : RD W rb ca cc cs) {q : Nat} (hq : rb < q) (u v : Value) : RD ((W.setCell ⟨q, 0, none⟩ u).setCell ⟨q, 1, none⟩ v) rb ca cc cs := (h.other hq _).other hq _
theorem grown_set {w W : World} {rb : Nat} (h : w.grownBy W (some rb)) {p : Addr} (hp : w.heap.size ≤ p.block) (v : Value) : w.grownBy (W.setCell p v) (some rb) :=
  ⟨by simpa [World.setCell] using h.os, by simpa [World.setCell] using h.tape, by simpa [World.setCell] using h.output, by simpa [World.setCell] using h.size, fun i hi hne => by
    rw [Below.heap_setCell W p v i (by omega)]; exact h.block i hi hne⟩
theorem grown_two' {w W : World} {rb : Nat} (h : w.grownBy W (some rb)) {q : Nat} (hq : w.heap.size ≤ q) (u v : Value) : w.grownBy ((W.setCell ⟨q, 0, none⟩ u).setCell ⟨q, 1, none⟩ v) (some rb) := grown_set (grown_set h (p := ⟨q, 0, none⟩) hq u) (p := ⟨q, 1, none⟩) hq v
theorem between_x (fm : Int) (hf : fmtB fm = true) (rb : Nat) (ca : Option Addr) (cc : Nat) (cs : List Int) (w : World) (hr : RD w rb ca cc cs) :
    Calls Tryz.prog 63 #[.pointer (some ⟨rb, 0, none⟩), .int .i64 fm] w fun e w' => ∃ x : Int, ∃ a c, ∃ q : Int, e = .returned (.tuple #[.agg #[.bool (Nm.wn x), .slice a (Nm.wl x).length c], .int .i64 q]) ∧ bitLen x.natAbs ≤ 3000 ∧ Own w' (rb + 1) a c (Nm.wl x) ∧ RD w' rb ca cc cs ∧ w.grownBy w' (some rb) := by
  have HF := hid hf
  have hg := grown_refl w (some rb)
  have hlt := hr.lt
  go_enter Tryz.func63, Tryz.ntmps63
  go_wp2_with fail
  have Z : WZ (w.alloc (.cells #[.bool false, .slice none 0 0] 26)) rb w.heap.size := ⟨R2.new w _ _ _, hlt⟩
  replace hr := hr.alloc (.cells #[.bool false, .slice none 0 0] 26)
  replace hg := grown_alloc hg (.cells #[.bool false, .slice none 0 0] 26)
  generalize w.alloc (.cells #[.bool false, .slice none 0 0] 26) = W0 at Z hr hg ⊢
  refine (finite_x fm HF.out rb ca cc cs _ hr).mono ?_
  rintro r W1 ⟨v, rfl, v0, v1, vf, hr', hg'⟩
  replace Z := Z.rd hg'
  replace hr := hr'
  replace hg := grown_trans hg hg'
  clear hr' hg'
  go_wp2_with fail
  have hg1 : w.heap.size + 1 ≤ W1.heap.size := World.block_lt_of_cell? _ _ Z.r.c0
  refine (unit_x fm v _ vf v0 v1).mono ?_
  rintro r W2 ⟨u, au, cu, rfl, bu, ou, hb⟩
  replace Z := Z.below hb
  have lw := hr.lt
  replace hr := hr.below hb
  replace hg := grown_trans hg (grown_below hb _)
  clear hb
  replace ou := WO.of (rb := rb) (m := w.heap.size + 1) ou (by omega) (by have := hg1; omega)
  clear hg1
  clear v0 v1 vf
  go_wp2_with fail
  have hg1 : w.heap.size + 1 ≤ W2.heap.size := World.block_lt_of_cell? _ _ Z.r.c0
  refine (shift_x u au cu 3 _ ou.sl 2200 bu (by decide) (by decide) (by decide)).mono ?_
  rintro r W3 ⟨x, ax, cx, rfl, bx, ox, hb⟩
  replace Z := Z.below hb
  have lw := hr.lt
  replace hr := hr.below hb
  replace hg := grown_trans hg (grown_below hb _)
  clear hb
  replace ox := WO.of (rb := rb) (m := w.heap.size + 1) ox (by omega) (by have := hg1; omega)
  clear hg1
  clear ou bu
  go_upto_region 10 with fail
  obtain ⟨b1, hb1⟩ : ∃ q, q = W3.heap.size := ⟨_, rfl⟩
  have X := WX.new ox (show rb < W3.heap.size from hr.lt) 26
  rw [← hb1] at X ⊢
  clear hb1 ox
  replace Z := Z.alloc (.cells #[.bool (Nm.wn x), .slice ax (Nm.wl x).length cx] 26)
  replace hr := hr.alloc (.cells #[.bool (Nm.wn x), .slice ax (Nm.wl x).length cx] 26)
  replace hg := grown_alloc hg (.cells #[.bool (Nm.wn x), .slice ax (Nm.wl x).length cx] 26)
  generalize W3.alloc (.cells #[.bool (Nm.wn x), .slice ax (Nm.wl x).length cx] 26) = W4 at Z X hr hg ⊢
  go_cut [7] (fun s wx => ∃ (b2 : Nat) (z : Int) (az : Option Addr) (cz : Nat), s = .pointer (some ⟨b2, 0, none⟩) ∧ bitLen z.natAbs ≤ 2204 ∧ w.heap.size < b2 ∧ WX wx rb (w.heap.size + 1) b2 z az cz ∧ WZ wx rb w.heap.size ∧ RD wx rb ca cc cs ∧ w.grownBy wx (some rb))
  case first =>
    replace Z := Z.drew 
    replace X := X.drew 
    replace hr := hr.drew
    replace hg := grown_trans hg (grown_below (Below.drew (Below.refl _ _)) _)
    refine wp_region_held_drew (S := fun w' => w'.cell? ⟨b1, 0, none⟩ = some (.bool (Nm.wn x)) ∧ w'.cell? ⟨b1, 1, none⟩ = some (.slice ax (Nm.wl x).length cx)) (by kernel_rfl) ?_ (fun hHeld => ?_)
    · exact ⟨X.r.c0, X.r.c1⟩
    generalize W4.drew = W5 at Z X hr hg hHeld ⊢
    refine tk 0 ?_ rfl (Or.inl ⟨by rfl, ?_⟩) ?_
    rotate_left
    · (intro w hSw; (try dsimp only at hSw); obtain ⟨hS0, hS1⟩ := hSw; go_simp; try (with_reducible rfl))
    try simp only [Act.put, Ls]
    refine tk 2 ?_ rfl (Or.inl ⟨by rfl, ?_⟩) ?_
    rotate_left
    · (intro w hSw; go_simp; try (with_reducible rfl))
    try simp only [Act.put, Ls]
    refine wpAnyH_ready (rs := [1, 3, 8]) (by kernel_rfl) (by simp) ?_
    refine AllReadyH.cons (o := _) rfl (fun K hK => ?_) (AllReadyH.cons (o := _) rfl (fun K hK => ?_) (AllReadyH.cons (o := _) rfl (fun K hK => ?_) AllReadyH.nil))
    · go_simp
      refine hK.out _ _ ?_ (fun hHeld => ?_)
      · exact ⟨(X.alloc (.cells #[.int .i64 0, .int .i64 1, .int .i64 3, .int .i64 4, .int .i64 5, .int .i64 7] 3)).r.c0, (X.alloc (.cells #[.int .i64 0, .int .i64 1, .int .i64 3, .int .i64 4, .int .i64 5, .int .i64 7] 3)).r.c1⟩
      clear hK K
      try simp only [Act.put, Ls]
      have lB : rb < W5.heap.size := hr.lt
      have hc := Row7.new W5 3
      have lB' : W5.heap.size < (W5.alloc (.cells #[.int .i64 0, .int .i64 1, .int .i64 3, .int .i64 4, .int .i64 5, .int .i64 7] 3)).heap.size := by simp
      replace Z := Z.alloc (.cells #[.int .i64 0, .int .i64 1, .int .i64 3, .int .i64 4, .int .i64 5, .int .i64 7] 3)
      replace X := X.alloc (.cells #[.int .i64 0, .int .i64 1, .int .i64 3, .int .i64 4, .int .i64 5, .int .i64 7] 3)
      replace hr := hr.alloc (.cells #[.int .i64 0, .int .i64 1, .int .i64 3, .int .i64 4, .int .i64 5, .int .i64 7] 3)
      replace hg := grown_alloc hg (.cells #[.int .i64 0, .int .i64 1, .int .i64 3, .int .i64 4, .int .i64 5, .int .i64 7] 3)
      generalize W5.alloc (.cells #[.int .i64 0, .int .i64 1, .int .i64 3, .int .i64 4, .int .i64 5, .int .i64 7] 3) = W6 at Z X hc lB' hHeld hr hg ⊢
      refine wpAnyH_ready (rs := [3, 8]) (by kernel_rfl) (by simp) ?_
      refine AllReadyH.cons (o := _) rfl (fun K hK => ?_) (AllReadyH.cons (o := _) rfl (fun K hK => ?_) AllReadyH.nil)
      · go_simp
        go_at_call 64; refine (below_any rb ca cc cs 6 _ hr (by decide) (by decide)).mono ?_
        rintro r W7 ⟨kz, rfl, k0, k1, hr', hg'⟩
        replace Z := Z.rd hg'
        replace X := X.rd hg'
        replace hc := hc.rd hg' lB lB'
        replace lB' := Nat.lt_of_lt_of_le lB' hg'.size
        replace hr := hr'
        replace hg := grown_trans hg hg'
        clear hr' hg'
        obtain ⟨kn, rfl⟩ := Int.eq_ofNat_of_zero_le k0
        refine hK.out _ _ ?_ (fun hHeld => ?_)
        · exact ⟨X.r.c0, X.r.c1⟩
        clear hK K
        try simp only [Act.put, Ls]
        refine tk 4 ?_ rfl (Or.inl ⟨by rfl, ?_⟩) ?_
        rotate_left
        · (intro w hSw; go_simp; try (with_reducible rfl))
        try simp only [Act.put, Ls]
        refine wpAnyH_ready (rs := [5, 8]) (by kernel_rfl) (by simp) ?_
        refine AllReadyH.cons (o := _) rfl (fun K hK => ?_) (AllReadyH.cons (o := _) rfl (fun K hK => ?_) AllReadyH.nil)
        · obtain ⟨d, hd, d0, d1⟩ := hc kn (by omega)
          go_simp
          refine hK.out _ _ ?_ (fun hHeld => ?_)
          · exact ⟨X.r.c0, X.r.c1⟩
          clear hK K
          try simp only [Act.put, Ls]
          clear hc lB' lB
          refine wpAnyH_ready (rs := [6, 8]) (by kernel_rfl) (by simp) ?_
          refine AllReadyH.cons (o := _) rfl (fun K hK => ?_) (AllReadyH.cons (o := _) rfl (fun K hK => ?_) AllReadyH.nil)
          · go_simp
            go_at_call 70
            have hg1 : w.heap.size + 1 ≤ W7.heap.size := World.block_lt_of_cell? _ _ Z.r.c0
            refine (of_x d _ (by omega) (by omega)).mono ?_
            rintro r W8 ⟨y, ay, cy, rfl, yb, oy, hb⟩
            replace Z := Z.below hb
            replace X := X.below hb
            have lw := hr.lt
            replace hr := hr.below hb
            replace hg := grown_trans hg (grown_below hb _)
            clear hb
            replace oy := WO.of (rb := rb) (m := w.heap.size + 1) oy (by omega) (by have := hg1; omega)
            clear hg1
            refine hK.out _ _ ?_ (fun hHeld => ?_)
            · exact ⟨X.r.c0, X.r.c1⟩
            clear hK K
            try simp only [Act.put, Ls]
            refine wpAnyH_ready (rs := [7, 8]) (by kernel_rfl) (by simp) ?_
            refine AllReadyH.cons (o := _) rfl (fun K hK => ?_) (AllReadyH.cons (o := _) rfl (fun K hK => ?_) AllReadyH.nil)
            · go_simp
              go_at_call 68
              have hg1 : w.heap.size + 1 ≤ W8.heap.size := World.block_lt_of_cell? _ _ Z.r.c0
              refine (add_x x y ax ay cx cy _ X.sl oy.sl 2203 bx (by omega) (by decide)).mono ?_
              rintro r W9 ⟨z, az, cz, rfl, bz, oz, hb⟩
              replace Z := Z.below hb
              replace X := X.below hb
              replace oy := oy.below hb
              have lw := hr.lt
              replace hr := hr.below hb
              replace hg := grown_trans hg (grown_below hb _)
              clear hb
              replace oz := WO.of (rb := rb) (m := w.heap.size + 1) oz (by omega) (by have := hg1; omega)
              clear hg1
              refine hK.out _ _ ?_ (fun hHeld => ?_)
              · exact ⟨X.r.c0, X.r.c1⟩
              clear hK K
              try simp only [Act.put, Ls]
              refine rdy 8 rfl (fun K hK => ?_)
              go_simp
              refine hK.out _ _ ?_ (fun hHeld => ?_)
              · exact ⟨(X.alloc (.cells #[.bool false, .slice none 0 0] 26)).r.c0, (X.alloc (.cells #[.bool false, .slice none 0 0] 26)).r.c1⟩
              clear hK K
              try simp only [Act.put, Ls]
              obtain ⟨b2, h2⟩ : ∃ q, q = W9.heap.size := ⟨_, rfl⟩
              have n12 : b1 ≠ b2 := by have h : b1 < W9.heap.size := World.block_lt_of_cell? _ _ X.r.c0; omega
              have nz2 : w.heap.size < b2 := by have h : w.heap.size < W9.heap.size := World.block_lt_of_cell? _ _ Z.r.c0; omega
              have ng : ∀ g, az = some ⟨g, 0, none⟩ → g ≠ b2 := fun g h => by have := (own_at oz.o g h).2; omega
              rw [← h2]
              have Y : WZ (W9.alloc (.cells #[.bool false, .slice none 0 0] 26)) rb b2 := ⟨by rw [h2]; exact R2.new _ _ _ _, by have := hr.lt; omega⟩
              clear h2
              replace Z := Z.alloc (.cells #[.bool false, .slice none 0 0] 26)
              replace X := X.alloc (.cells #[.bool false, .slice none 0 0] 26)
              replace oy := oy.alloc (.cells #[.bool false, .slice none 0 0] 26)
              replace oz := oz.alloc (.cells #[.bool false, .slice none 0 0] 26)
              replace hr := hr.alloc (.cells #[.bool false, .slice none 0 0] 26)
              replace hg := grown_alloc hg (.cells #[.bool false, .slice none 0 0] 26)
              generalize W9.alloc (.cells #[.bool false, .slice none 0 0] 26) = W10 at Z X oy oz Y hHeld hr hg ⊢
              refine rdy 9 rfl (fun K hK => ?_)
              have ⟨yc0, yc1, yf0, yf1⟩ := Y.r
              go_simp
              refine hK.out _ _ ?_ (fun hHeld => ?_)
              · exact ⟨((X.r.other (p := ⟨b2, 0, none⟩) (by simpa using n12) _).other (p := ⟨b2, 1, none⟩) (by simpa using n12) _).c0, ((X.r.other (p := ⟨b2, 0, none⟩) (by simpa using n12) _).other (p := ⟨b2, 1, none⟩) (by simpa using n12) _).c1⟩
              clear hK K
              try simp only [Act.put, Ls]
              refine wpAnyH_done (by kernel_rfl) ?_ _
              go_wp2_with fail
              go_meet
              exact ⟨b2, z, az, cz, rfl, bz, nz2, WX.put Y.r oz Y.lt ng, Z.two (by omega) _ _, rd_two hr Y.lt _ _, grown_two' hg (by omega) _ _⟩
            · go_simp
              refine hK.out _ _ ?_ (fun hHeld => ?_)
              · exact ⟨(X.alloc (.cells #[.bool false, .slice none 0 0] 26)).r.c0, (X.alloc (.cells #[.bool false, .slice none 0 0] 26)).r.c1⟩
              clear hK K
              try simp only [Act.put, Ls]
              obtain ⟨b2, h2⟩ : ∃ q, q = W8.heap.size := ⟨_, rfl⟩
              have n12 : b1 ≠ b2 := by have h : b1 < W8.heap.size := World.block_lt_of_cell? _ _ X.r.c0; omega
              have nz2 : w.heap.size < b2 := by have h : w.heap.size < W8.heap.size := World.block_lt_of_cell? _ _ Z.r.c0; omega
              rw [← h2]
              have Y : WZ (W8.alloc (.cells #[.bool false, .slice none 0 0] 26)) rb b2 := ⟨by rw [h2]; exact R2.new _ _ _ _, by have := hr.lt; omega⟩
              clear h2
              replace Z := Z.alloc (.cells #[.bool false, .slice none 0 0] 26)
              replace X := X.alloc (.cells #[.bool false, .slice none 0 0] 26)
              replace oy := oy.alloc (.cells #[.bool false, .slice none 0 0] 26)
              replace hr := hr.alloc (.cells #[.bool false, .slice none 0 0] 26)
              replace hg := grown_alloc hg (.cells #[.bool false, .slice none 0 0] 26)
              generalize W8.alloc (.cells #[.bool false, .slice none 0 0] 26) = W9 at Z X oy Y hHeld hr hg ⊢
              refine rdy 7 rfl (fun K hK => ?_)
              go_simp
              go_at_call 68
              have hg1 : w.heap.size + 1 ≤ W9.heap.size := World.block_lt_of_cell? _ _ Z.r.c0
              have hY : b2 < W9.heap.size := World.block_lt_of_cell? _ _ Y.r.c0
              refine (add_x x y ax ay cx cy _ X.sl oy.sl 2203 bx (by omega) (by decide)).mono ?_
              rintro r W10 ⟨z, az, cz, rfl, bz, oz, hb⟩
              replace Z := Z.below hb
              replace X := X.below hb
              replace oy := oy.below hb
              replace Y := Y.below hb
              have lw := hr.lt
              replace hr := hr.below hb
              replace hg := grown_trans hg (grown_below hb _)
              clear hb
              have ng : ∀ g, az = some ⟨g, 0, none⟩ → g ≠ b2 := fun g h => by have := (own_at oz g h).1; omega
              clear hY
              replace oz := WO.of (rb := rb) (m := w.heap.size + 1) oz (by omega) (by have := hg1; omega)
              clear hg1
              refine hK.out _ _ ?_ (fun hHeld => ?_)
              · exact ⟨X.r.c0, X.r.c1⟩
              clear hK K
              try simp only [Act.put, Ls]
              refine rdy 9 rfl (fun K hK => ?_)
              have ⟨yc0, yc1, yf0, yf1⟩ := Y.r
              go_simp
              refine hK.out _ _ ?_ (fun hHeld => ?_)
              · exact ⟨((X.r.other (p := ⟨b2, 0, none⟩) (by simpa using n12) _).other (p := ⟨b2, 1, none⟩) (by simpa using n12) _).c0, ((X.r.other (p := ⟨b2, 0, none⟩) (by simpa using n12) _).other (p := ⟨b2, 1, none⟩) (by simpa using n12) _).c1⟩
              clear hK K
              try simp only [Act.put, Ls]
              refine wpAnyH_done (by kernel_rfl) ?_ _
              go_wp2_with fail
              go_meet
              exact ⟨b2, z, az, cz, rfl, bz, nz2, WX.put Y.r oz Y.lt ng, Z.two (by omega) _ _, rd_two hr Y.lt _ _, grown_two' hg (by omega) _ _⟩
          · go_simp
            refine hK.out _ _ ?_ (fun hHeld => ?_)
            · exact ⟨(X.alloc (.cells #[.bool false, .slice none 0 0] 26)).r.c0, (X.alloc (.cells #[.bool false, .slice none 0 0] 26)).r.c1⟩
            clear hK K
            try simp only [Act.put, Ls]
            obtain ⟨b2, h2⟩ : ∃ q, q = W7.heap.size := ⟨_, rfl⟩
            have n12 : b1 ≠ b2 := by have h : b1 < W7.heap.size := World.block_lt_of_cell? _ _ X.r.c0; omega
            have nz2 : w.heap.size < b2 := by have h : w.heap.size < W7.heap.size := World.block_lt_of_cell? _ _ Z.r.c0; omega
            rw [← h2]
            have Y : WZ (W7.alloc (.cells #[.bool false, .slice none 0 0] 26)) rb b2 := ⟨by rw [h2]; exact R2.new _ _ _ _, by have := hr.lt; omega⟩
            clear h2
            replace Z := Z.alloc (.cells #[.bool false, .slice none 0 0] 26)
            replace X := X.alloc (.cells #[.bool false, .slice none 0 0] 26)
            replace hr := hr.alloc (.cells #[.bool false, .slice none 0 0] 26)
            replace hg := grown_alloc hg (.cells #[.bool false, .slice none 0 0] 26)
            generalize W7.alloc (.cells #[.bool false, .slice none 0 0] 26) = W8 at Z X Y hHeld hr hg ⊢
            refine rdy 6 rfl (fun K hK => ?_)
            go_simp
            go_at_call 70
            have hg1 : w.heap.size + 1 ≤ W8.heap.size := World.block_lt_of_cell? _ _ Z.r.c0
            refine (of_x d _ (by omega) (by omega)).mono ?_
            rintro r W9 ⟨y, ay, cy, rfl, yb, oy, hb⟩
            replace Z := Z.below hb
            replace X := X.below hb
            replace Y := Y.below hb
            have lw := hr.lt
            replace hr := hr.below hb
            replace hg := grown_trans hg (grown_below hb _)
            clear hb
            replace oy := WO.of (rb := rb) (m := w.heap.size + 1) oy (by omega) (by have := hg1; omega)
            clear hg1
            refine hK.out _ _ ?_ (fun hHeld => ?_)
            · exact ⟨X.r.c0, X.r.c1⟩
            clear hK K
            try simp only [Act.put, Ls]
            refine rdy 7 rfl (fun K hK => ?_)
            go_simp
            go_at_call 68
            have hg1 : w.heap.size + 1 ≤ W9.heap.size := World.block_lt_of_cell? _ _ Z.r.c0
            have hY : b2 < W9.heap.size := World.block_lt_of_cell? _ _ Y.r.c0
            refine (add_x x y ax ay cx cy _ X.sl oy.sl 2203 bx (by omega) (by decide)).mono ?_
            rintro r W10 ⟨z, az, cz, rfl, bz, oz, hb⟩
            replace Z := Z.below hb
            replace X := X.below hb
            replace Y := Y.below hb
            replace oy := oy.below hb
            have lw := hr.lt
            replace hr := hr.below hb
            replace hg := grown_trans hg (grown_below hb _)
            clear hb
            have ng : ∀ g, az = some ⟨g, 0, none⟩ → g ≠ b2 := fun g h => by have := (own_at oz g h).1; omega
            clear hY
            replace oz := WO.of (rb := rb) (m := w.heap.size + 1) oz (by omega) (by have := hg1; omega)
            clear hg1
            refine hK.out _ _ ?_ (fun hHeld => ?_)
            · exact ⟨X.r.c0, X.r.c1⟩
            clear hK K
            try simp only [Act.put, Ls]
            refine rdy 9 rfl (fun K hK => ?_)
            have ⟨yc0, yc1, yf0, yf1⟩ := Y.r
            go_simp
            refine hK.out _ _ ?_ (fun hHeld => ?_)
            · exact ⟨((X.r.other (p := ⟨b2, 0, none⟩) (by simpa using n12) _).other (p := ⟨b2, 1, none⟩) (by simpa using n12) _).c0, ((X.r.other (p := ⟨b2, 0, none⟩) (by simpa using n12) _).other (p := ⟨b2, 1, none⟩) (by simpa using n12) _).c1⟩
            clear hK K
            try simp only [Act.put, Ls]
            refine wpAnyH_done (by kernel_rfl) ?_ _
            go_wp2_with fail
            go_meet
            exact ⟨b2, z, az, cz, rfl, bz, nz2, WX.put Y.r oz Y.lt ng, Z.two (by omega) _ _, rd_two hr Y.lt _ _, grown_two' hg (by omega) _ _⟩
        · go_simp
          refine hK.out _ _ ?_ (fun hHeld => ?_)
          · exact ⟨(X.alloc (.cells #[.bool false, .slice none 0 0] 26)).r.c0, (X.alloc (.cells #[.bool false, .slice none 0 0] 26)).r.c1⟩
          clear hK K
          try simp only [Act.put, Ls]
          obtain ⟨b2, h2⟩ : ∃ q, q = W7.heap.size := ⟨_, rfl⟩
          have n12 : b1 ≠ b2 := by have h : b1 < W7.heap.size := World.block_lt_of_cell? _ _ X.r.c0; omega
          have nz2 : w.heap.size < b2 := by have h : w.heap.size < W7.heap.size := World.block_lt_of_cell? _ _ Z.r.c0; omega
          rw [← h2]
          have Y : WZ (W7.alloc (.cells #[.bool false, .slice none 0 0] 26)) rb b2 := ⟨by rw [h2]; exact R2.new _ _ _ _, by have := hr.lt; omega⟩
          clear h2
          replace Z := Z.alloc (.cells #[.bool false, .slice none 0 0] 26)
          replace X := X.alloc (.cells #[.bool false, .slice none 0 0] 26)
          replace hc := hc.below ((Below.refl _ _).alloc (Nat.le_refl _) ((.cells #[.bool false, .slice none 0 0] 26))) lB'
          replace lB' : W5.heap.size < (W7.alloc ((.cells #[.bool false, .slice none 0 0] 26))).heap.size := by simp; omega
          replace hr := hr.alloc (.cells #[.bool false, .slice none 0 0] 26)
          replace hg := grown_alloc hg (.cells #[.bool false, .slice none 0 0] 26)
          generalize W7.alloc (.cells #[.bool false, .slice none 0 0] 26) = W8 at Z X hc Y hHeld lB' hr hg ⊢
          refine rdy 5 rfl (fun K hK => ?_)
          obtain ⟨d, hd, d0, d1⟩ := hc kn (by omega)
          go_simp
          refine hK.out _ _ ?_ (fun hHeld => ?_)
          · exact ⟨X.r.c0, X.r.c1⟩
          clear hK K
          try simp only [Act.put, Ls]
          clear hc lB' lB
          refine rdy 6 rfl (fun K hK => ?_)
          go_simp
          go_at_call 70
          have hg1 : w.heap.size + 1 ≤ W8.heap.size := World.block_lt_of_cell? _ _ Z.r.c0
          refine (of_x d _ (by omega) (by omega)).mono ?_
          rintro r W9 ⟨y, ay, cy, rfl, yb, oy, hb⟩
          replace Z := Z.below hb
          replace X := X.below hb
          replace Y := Y.below hb
          have lw := hr.lt
          replace hr := hr.below hb
          replace hg := grown_trans hg (grown_below hb _)
          clear hb
          replace oy := WO.of (rb := rb) (m := w.heap.size + 1) oy (by omega) (by have := hg1; omega)
          clear hg1
          refine hK.out _ _ ?_ (fun hHeld => ?_)
          · exact ⟨X.r.c0, X.r.c1⟩
          clear hK K
          try simp only [Act.put, Ls]
          refine rdy 7 rfl (fun K hK => ?_)
          go_simp
          go_at_call 68
          have hg1 : w.heap.size + 1 ≤ W9.heap.size := World.block_lt_of_cell? _ _ Z.r.c0
          have hY : b2 < W9.heap.size := World.block_lt_of_cell? _ _ Y.r.c0
          refine (add_x x y ax ay cx cy _ X.sl oy.sl 2203 bx (by omega) (by decide)).mono ?_
          rintro r W10 ⟨z, az, cz, rfl, bz, oz, hb⟩
          replace Z := Z.below hb
          replace X := X.below hb
          replace Y := Y.below hb
          replace oy := oy.below hb
          have lw := hr.lt
          replace hr := hr.below hb
          replace hg := grown_trans hg (grown_below hb _)
          clear hb
          have ng : ∀ g, az = some ⟨g, 0, none⟩ → g ≠ b2 := fun g h => by have := (own_at oz g h).1; omega
          clear hY
          replace oz := WO.of (rb := rb) (m := w.heap.size + 1) oz (by omega) (by have := hg1; omega)
          clear hg1
          refine hK.out _ _ ?_ (fun hHeld => ?_)
          · exact ⟨X.r.c0, X.r.c1⟩
          clear hK K
          try simp only [Act.put, Ls]
          refine rdy 9 rfl (fun K hK => ?_)
          have ⟨yc0, yc1, yf0, yf1⟩ := Y.r
          go_simp
          refine hK.out _ _ ?_ (fun hHeld => ?_)
          · exact ⟨((X.r.other (p := ⟨b2, 0, none⟩) (by simpa using n12) _).other (p := ⟨b2, 1, none⟩) (by simpa using n12) _).c0, ((X.r.other (p := ⟨b2, 0, none⟩) (by simpa using n12) _).other (p := ⟨b2, 1, none⟩) (by simpa using n12) _).c1⟩
          clear hK K
          try simp only [Act.put, Ls]
          refine wpAnyH_done (by kernel_rfl) ?_ _
          go_wp2_with fail
          go_meet
          exact ⟨b2, z, az, cz, rfl, bz, nz2, WX.put Y.r oz Y.lt ng, Z.two (by omega) _ _, rd_two hr Y.lt _ _, grown_two' hg (by omega) _ _⟩
      · go_simp
        refine hK.out _ _ ?_ (fun hHeld => ?_)
        · exact ⟨(X.alloc (.cells #[.bool false, .slice none 0 0] 26)).r.c0, (X.alloc (.cells #[.bool false, .slice none 0 0] 26)).r.c1⟩
        clear hK K
        try simp only [Act.put, Ls]
        obtain ⟨b2, h2⟩ : ∃ q, q = W6.heap.size := ⟨_, rfl⟩
        have n12 : b1 ≠ b2 := by have h : b1 < W6.heap.size := World.block_lt_of_cell? _ _ X.r.c0; omega
        have nz2 : w.heap.size < b2 := by have h : w.heap.size < W6.heap.size := World.block_lt_of_cell? _ _ Z.r.c0; omega
        rw [← h2]
        have Y : WZ (W6.alloc (.cells #[.bool false, .slice none 0 0] 26)) rb b2 := ⟨by rw [h2]; exact R2.new _ _ _ _, by have := hr.lt; omega⟩
        clear h2
        replace Z := Z.alloc (.cells #[.bool false, .slice none 0 0] 26)
        replace X := X.alloc (.cells #[.bool false, .slice none 0 0] 26)
        replace hc := hc.below ((Below.refl _ _).alloc (Nat.le_refl _) ((.cells #[.bool false, .slice none 0 0] 26))) lB'
        replace lB' : W5.heap.size < (W6.alloc ((.cells #[.bool false, .slice none 0 0] 26))).heap.size := by simp; omega
        replace hr := hr.alloc (.cells #[.bool false, .slice none 0 0] 26)
        replace hg := grown_alloc hg (.cells #[.bool false, .slice none 0 0] 26)
        generalize W6.alloc (.cells #[.bool false, .slice none 0 0] 26) = W7 at Z X hc Y hHeld lB' hr hg ⊢
        refine rdy 3 rfl (fun K hK => ?_)
        go_simp
        go_at_call 64; refine (below_any rb ca cc cs 6 _ hr (by decide) (by decide)).mono ?_
        rintro r W8 ⟨kz, rfl, k0, k1, hr', hg'⟩
        replace Z := Z.rd hg'
        replace X := X.rd hg'
        replace hc := hc.rd hg' lB lB'
        replace lB' := Nat.lt_of_lt_of_le lB' hg'.size
        replace Y := Y.rd hg'
        replace hr := hr'
        replace hg := grown_trans hg hg'
        clear hr' hg'
        obtain ⟨kn, rfl⟩ := Int.eq_ofNat_of_zero_le k0
        refine hK.out _ _ ?_ (fun hHeld => ?_)
        · exact ⟨X.r.c0, X.r.c1⟩
        clear hK K
        try simp only [Act.put, Ls]
        refine tk 4 ?_ rfl (Or.inl ⟨by rfl, ?_⟩) ?_
        rotate_left
        · (intro w hSw; go_simp; try (with_reducible rfl))
        try simp only [Act.put, Ls]
        refine rdy 5 rfl (fun K hK => ?_)
        obtain ⟨d, hd, d0, d1⟩ := hc kn (by omega)
        go_simp
        refine hK.out _ _ ?_ (fun hHeld => ?_)
        · exact ⟨X.r.c0, X.r.c1⟩
        clear hK K
        try simp only [Act.put, Ls]
        clear hc lB' lB
        refine rdy 6 rfl (fun K hK => ?_)
        go_simp
        go_at_call 70
        have hg1 : w.heap.size + 1 ≤ W8.heap.size := World.block_lt_of_cell? _ _ Z.r.c0
        refine (of_x d _ (by omega) (by omega)).mono ?_
        rintro r W9 ⟨y, ay, cy, rfl, yb, oy, hb⟩
        replace Z := Z.below hb
        replace X := X.below hb
        replace Y := Y.below hb
        have lw := hr.lt
        replace hr := hr.below hb
        replace hg := grown_trans hg (grown_below hb _)
        clear hb
        replace oy := WO.of (rb := rb) (m := w.heap.size + 1) oy (by omega) (by have := hg1; omega)
        clear hg1
        refine hK.out _ _ ?_ (fun hHeld => ?_)
        · exact ⟨X.r.c0, X.r.c1⟩
        clear hK K
        try simp only [Act.put, Ls]
        refine rdy 7 rfl (fun K hK => ?_)
        go_simp
        go_at_call 68
        have hg1 : w.heap.size + 1 ≤ W9.heap.size := World.block_lt_of_cell? _ _ Z.r.c0
        have hY : b2 < W9.heap.size := World.block_lt_of_cell? _ _ Y.r.c0
        refine (add_x x y ax ay cx cy _ X.sl oy.sl 2203 bx (by omega) (by decide)).mono ?_
        rintro r W10 ⟨z, az, cz, rfl, bz, oz, hb⟩
        replace Z := Z.below hb
        replace X := X.below hb
        replace Y := Y.below hb
        replace oy := oy.below hb
        have lw := hr.lt
        replace hr := hr.below hb
        replace hg := grown_trans hg (grown_below hb _)
        clear hb
        have ng : ∀ g, az = some ⟨g, 0, none⟩ → g ≠ b2 := fun g h => by have := (own_at oz g h).1; omega
        clear hY
        replace oz := WO.of (rb := rb) (m := w.heap.size + 1) oz (by omega) (by have := hg1; omega)
        clear hg1
        refine hK.out _ _ ?_ (fun hHeld => ?_)
        · exact ⟨X.r.c0, X.r.c1⟩
        clear hK K
        try simp only [Act.put, Ls]
        refine rdy 9 rfl (fun K hK => ?_)
        have ⟨yc0, yc1, yf0, yf1⟩ := Y.r
        go_simp
        refine hK.out _ _ ?_ (fun hHeld => ?_)
        · exact ⟨((X.r.other (p := ⟨b2, 0, none⟩) (by simpa using n12) _).other (p := ⟨b2, 1, none⟩) (by simpa using n12) _).c0, ((X.r.other (p := ⟨b2, 0, none⟩) (by simpa using n12) _).other (p := ⟨b2, 1, none⟩) (by simpa using n12) _).c1⟩
        clear hK K
        try simp only [Act.put, Ls]
        refine wpAnyH_done (by kernel_rfl) ?_ _
        go_wp2_with fail
        go_meet
        exact ⟨b2, z, az, cz, rfl, bz, nz2, WX.put Y.r oz Y.lt ng, Z.two (by omega) _ _, rd_two hr Y.lt _ _, grown_two' hg (by omega) _ _⟩
    · go_simp
      go_at_call 64; refine (below_any rb ca cc cs 6 _ hr (by decide) (by decide)).mono ?_
      rintro r W6 ⟨kz, rfl, k0, k1, hr', hg'⟩
      replace Z := Z.rd hg'
      replace X := X.rd hg'
      replace hr := hr'
      replace hg := grown_trans hg hg'
      clear hr' hg'
      obtain ⟨kn, rfl⟩ := Int.eq_ofNat_of_zero_le k0
      refine hK.out _ _ ?_ (fun hHeld => ?_)
      · exact ⟨X.r.c0, X.r.c1⟩
      clear hK K
      try simp only [Act.put, Ls]
      refine wpAnyH_ready (rs := [1, 8]) (by kernel_rfl) (by simp) ?_
      refine AllReadyH.cons (o := _) rfl (fun K hK => ?_) (AllReadyH.cons (o := _) rfl (fun K hK => ?_) AllReadyH.nil)
      · go_simp
        refine hK.out _ _ ?_ (fun hHeld => ?_)
        · exact ⟨(X.alloc (.cells #[.int .i64 0, .int .i64 1, .int .i64 3, .int .i64 4, .int .i64 5, .int .i64 7] 3)).r.c0, (X.alloc (.cells #[.int .i64 0, .int .i64 1, .int .i64 3, .int .i64 4, .int .i64 5, .int .i64 7] 3)).r.c1⟩
        clear hK K
        try simp only [Act.put, Ls]
        have lB : rb < W6.heap.size := hr.lt
        have hc := Row7.new W6 3
        have lB' : W6.heap.size < (W6.alloc (.cells #[.int .i64 0, .int .i64 1, .int .i64 3, .int .i64 4, .int .i64 5, .int .i64 7] 3)).heap.size := by simp
        replace Z := Z.alloc (.cells #[.int .i64 0, .int .i64 1, .int .i64 3, .int .i64 4, .int .i64 5, .int .i64 7] 3)
        replace X := X.alloc (.cells #[.int .i64 0, .int .i64 1, .int .i64 3, .int .i64 4, .int .i64 5, .int .i64 7] 3)
        replace hr := hr.alloc (.cells #[.int .i64 0, .int .i64 1, .int .i64 3, .int .i64 4, .int .i64 5, .int .i64 7] 3)
        replace hg := grown_alloc hg (.cells #[.int .i64 0, .int .i64 1, .int .i64 3, .int .i64 4, .int .i64 5, .int .i64 7] 3)
        generalize W6.alloc (.cells #[.int .i64 0, .int .i64 1, .int .i64 3, .int .i64 4, .int .i64 5, .int .i64 7] 3) = W7 at Z X hc lB' hHeld hr hg ⊢
        refine tk 4 ?_ rfl (Or.inl ⟨by rfl, ?_⟩) ?_
        rotate_left
        · (intro w hSw; go_simp; try (with_reducible rfl))
        try simp only [Act.put, Ls]
        refine wpAnyH_ready (rs := [5, 8]) (by kernel_rfl) (by simp) ?_
        refine AllReadyH.cons (o := _) rfl (fun K hK => ?_) (AllReadyH.cons (o := _) rfl (fun K hK => ?_) AllReadyH.nil)
        · obtain ⟨d, hd, d0, d1⟩ := hc kn (by omega)
          go_simp
          refine hK.out _ _ ?_ (fun hHeld => ?_)
          · exact ⟨X.r.c0, X.r.c1⟩
          clear hK K
          try simp only [Act.put, Ls]
          clear hc lB' lB
          refine wpAnyH_ready (rs := [6, 8]) (by kernel_rfl) (by simp) ?_
          refine AllReadyH.cons (o := _) rfl (fun K hK => ?_) (AllReadyH.cons (o := _) rfl (fun K hK => ?_) AllReadyH.nil)
          · go_simp
            go_at_call 70
            have hg1 : w.heap.size + 1 ≤ W7.heap.size := World.block_lt_of_cell? _ _ Z.r.c0
            refine (of_x d _ (by omega) (by omega)).mono ?_
            rintro r W8 ⟨y, ay, cy, rfl, yb, oy, hb⟩
            replace Z := Z.below hb
            replace X := X.below hb
            have lw := hr.lt
            replace hr := hr.below hb
            replace hg := grown_trans hg (grown_below hb _)
            clear hb
            replace oy := WO.of (rb := rb) (m := w.heap.size + 1) oy (by omega) (by have := hg1; omega)
            clear hg1
            refine hK.out _ _ ?_ (fun hHeld => ?_)
            · exact ⟨X.r.c0, X.r.c1⟩
            clear hK K
            try simp only [Act.put, Ls]
            refine wpAnyH_ready (rs := [7, 8]) (by kernel_rfl) (by simp) ?_
            refine AllReadyH.cons (o := _) rfl (fun K hK => ?_) (AllReadyH.cons (o := _) rfl (fun K hK => ?_) AllReadyH.nil)
            · go_simp
              go_at_call 68
              have hg1 : w.heap.size + 1 ≤ W8.heap.size := World.block_lt_of_cell? _ _ Z.r.c0
              refine (add_x x y ax ay cx cy _ X.sl oy.sl 2203 bx (by omega) (by decide)).mono ?_
              rintro r W9 ⟨z, az, cz, rfl, bz, oz, hb⟩
              replace Z := Z.below hb
              replace X := X.below hb
              replace oy := oy.below hb
              have lw := hr.lt
              replace hr := hr.below hb
              replace hg := grown_trans hg (grown_below hb _)
              clear hb
              replace oz := WO.of (rb := rb) (m := w.heap.size + 1) oz (by omega) (by have := hg1; omega)
              clear hg1
              refine hK.out _ _ ?_ (fun hHeld => ?_)
              · exact ⟨X.r.c0, X.r.c1⟩
              clear hK K
              try simp only [Act.put, Ls]
              refine rdy 8 rfl (fun K hK => ?_)
              go_simp
              refine hK.out _ _ ?_ (fun hHeld => ?_)
              · exact ⟨(X.alloc (.cells #[.bool false, .slice none 0 0] 26)).r.c0, (X.alloc (.cells #[.bool false, .slice none 0 0] 26)).r.c1⟩
              clear hK K
              try simp only [Act.put, Ls]
              obtain ⟨b2, h2⟩ : ∃ q, q = W9.heap.size := ⟨_, rfl⟩
              have n12 : b1 ≠ b2 := by have h : b1 < W9.heap.size := World.block_lt_of_cell? _ _ X.r.c0; omega
              have nz2 : w.heap.size < b2 := by have h : w.heap.size < W9.heap.size := World.block_lt_of_cell? _ _ Z.r.c0; omega
              have ng : ∀ g, az = some ⟨g, 0, none⟩ → g ≠ b2 := fun g h => by have := (own_at oz.o g h).2; omega
              rw [← h2]
              have Y : WZ (W9.alloc (.cells #[.bool false, .slice none 0 0] 26)) rb b2 := ⟨by rw [h2]; exact R2.new _ _ _ _, by have := hr.lt; omega⟩
              clear h2
              replace Z := Z.alloc (.cells #[.bool false, .slice none 0 0] 26)
              replace X := X.alloc (.cells #[.bool false, .slice none 0 0] 26)
              replace oy := oy.alloc (.cells #[.bool false, .slice none 0 0] 26)
              replace oz := oz.alloc (.cells #[.bool false, .slice none 0 0] 26)
              replace hr := hr.alloc (.cells #[.bool false, .slice none 0 0] 26)
              replace hg := grown_alloc hg (.cells #[.bool false, .slice none 0 0] 26)
              generalize W9.alloc (.cells #[.bool false, .slice none 0 0] 26) = W10 at Z X oy oz Y hHeld hr hg ⊢
              refine rdy 9 rfl (fun K hK => ?_)
              have ⟨yc0, yc1, yf0, yf1⟩ := Y.r
              go_simp
              refine hK.out _ _ ?_ (fun hHeld => ?_)
              · exact ⟨((X.r.other (p := ⟨b2, 0, none⟩) (by simpa using n12) _).other (p := ⟨b2, 1, none⟩) (by simpa using n12) _).c0, ((X.r.other (p := ⟨b2, 0, none⟩) (by simpa using n12) _).other (p := ⟨b2, 1, none⟩) (by simpa using n12) _).c1⟩
              clear hK K
              try simp only [Act.put, Ls]
              refine wpAnyH_done (by kernel_rfl) ?_ _
              go_wp2_with fail
              go_meet
              exact ⟨b2, z, az, cz, rfl, bz, nz2, WX.put Y.r oz Y.lt ng, Z.two (by omega) _ _, rd_two hr Y.lt _ _, grown_two' hg (by omega) _ _⟩
            · go_simp
              refine hK.out _ _ ?_ (fun hHeld => ?_)
              · exact ⟨(X.alloc (.cells #[.bool false, .slice none 0 0] 26)).r.c0, (X.alloc (.cells #[.bool false, .slice none 0 0] 26)).r.c1⟩
              clear hK K
              try simp only [Act.put, Ls]
              obtain ⟨b2, h2⟩ : ∃ q, q = W8.heap.size := ⟨_, rfl⟩
              have n12 : b1 ≠ b2 := by have h : b1 < W8.heap.size := World.block_lt_of_cell? _ _ X.r.c0; omega
              have nz2 : w.heap.size < b2 := by have h : w.heap.size < W8.heap.size := World.block_lt_of_cell? _ _ Z.r.c0; omega
              rw [← h2]
              have Y : WZ (W8.alloc (.cells #[.bool false, .slice none 0 0] 26)) rb b2 := ⟨by rw [h2]; exact R2.new _ _ _ _, by have := hr.lt; omega⟩
              clear h2
              replace Z := Z.alloc (.cells #[.bool false, .slice none 0 0] 26)
              replace X := X.alloc (.cells #[.bool false, .slice none 0 0] 26)
              replace oy := oy.alloc (.cells #[.bool false, .slice none 0 0] 26)
              replace hr := hr.alloc (.cells #[.bool false, .slice none 0 0] 26)
              replace hg := grown_alloc hg (.cells #[.bool false, .slice none 0 0] 26)
              generalize W8.alloc (.cells #[.bool false, .slice none 0 0] 26) = W9 at Z X oy Y hHeld hr hg ⊢
              refine rdy 7 rfl (fun K hK => ?_)
              go_simp
              go_at_call 68
              have hg1 : w.heap.size + 1 ≤ W9.heap.size := World.block_lt_of_cell? _ _ Z.r.c0
              have hY : b2 < W9.heap.size := World.block_lt_of_cell? _ _ Y.r.c0
              refine (add_x x y ax ay cx cy _ X.sl oy.sl 2203 bx (by omega) (by decide)).mono ?_
              rintro r W10 ⟨z, az, cz, rfl, bz, oz, hb⟩
              replace Z := Z.below hb
              replace X := X.below hb
              replace oy := oy.below hb
              replace Y := Y.below hb
              have lw := hr.lt
              replace hr := hr.below hb
              replace hg := grown_trans hg (grown_below hb _)
              clear hb
              have ng : ∀ g, az = some ⟨g, 0, none⟩ → g ≠ b2 := fun g h => by have := (own_at oz g h).1; omega
              clear hY
              replace oz := WO.of (rb := rb) (m := w.heap.size + 1) oz (by omega) (by have := hg1; omega)
              clear hg1
              refine hK.out _ _ ?_ (fun hHeld => ?_)
              · exact ⟨X.r.c0, X.r.c1⟩
              clear hK K
              try simp only [Act.put, Ls]
              refine rdy 9 rfl (fun K hK => ?_)
              have ⟨yc0, yc1, yf0, yf1⟩ := Y.r
              go_simp
              refine hK.out _ _ ?_ (fun hHeld => ?_)
              · exact ⟨((X.r.other (p := ⟨b2, 0, none⟩) (by simpa using n12) _).other (p := ⟨b2, 1, none⟩) (by simpa using n12) _).c0, ((X.r.other (p := ⟨b2, 0, none⟩) (by simpa using n12) _).other (p := ⟨b2, 1, none⟩) (by simpa using n12) _).c1⟩
              clear hK K
              try simp only [Act.put, Ls]
              refine wpAnyH_done (by kernel_rfl) ?_ _
              go_wp2_with fail
              go_meet
              exact ⟨b2, z, az, cz, rfl, bz, nz2, WX.put Y.r oz Y.lt ng, Z.two (by omega) _ _, rd_two hr Y.lt _ _, grown_two' hg (by omega) _ _⟩
          · go_simp
            refine hK.out _ _ ?_ (fun hHeld => ?_)
            · exact ⟨(X.alloc (.cells #[.bool false, .slice none 0 0] 26)).r.c0, (X.alloc (.cells #[.bool false, .slice none 0 0] 26)).r.c1⟩
            clear hK K
            try simp only [Act.put, Ls]
            obtain ⟨b2, h2⟩ : ∃ q, q = W7.heap.size := ⟨_, rfl⟩
            have n12 : b1 ≠ b2 := by have h : b1 < W7.heap.size := World.block_lt_of_cell? _ _ X.r.c0; omega
            have nz2 : w.heap.size < b2 := by have h : w.heap.size < W7.heap.size := World.block_lt_of_cell? _ _ Z.r.c0; omega
            rw [← h2]
            have Y : WZ (W7.alloc (.cells #[.bool false, .slice none 0 0] 26)) rb b2 := ⟨by rw [h2]; exact R2.new _ _ _ _, by have := hr.lt; omega⟩
            clear h2
            replace Z := Z.alloc (.cells #[.bool false, .slice none 0 0] 26)
            replace X := X.alloc (.cells #[.bool false, .slice none 0 0] 26)
            replace hr := hr.alloc (.cells #[.bool false, .slice none 0 0] 26)
            replace hg := grown_alloc hg (.cells #[.bool false, .slice none 0 0] 26)
            generalize W7.alloc (.cells #[.bool false, .slice none 0 0] 26) = W8 at Z X Y hHeld hr hg ⊢
            refine rdy 6 rfl (fun K hK => ?_)
            go_simp
            go_at_call 70
            have hg1 : w.heap.size + 1 ≤ W8.heap.size := World.block_lt_of_cell? _ _ Z.r.c0
            refine (of_x d _ (by omega) (by omega)).mono ?_
            rintro r W9 ⟨y, ay, cy, rfl, yb, oy, hb⟩
            replace Z := Z.below hb
            replace X := X.below hb
            replace Y := Y.below hb
            have lw := hr.lt
            replace hr := hr.below hb
            replace hg := grown_trans hg (grown_below hb _)
            clear hb
            replace oy := WO.of (rb := rb) (m := w.heap.size + 1) oy (by omega) (by have := hg1; omega)
            clear hg1
            refine hK.out _ _ ?_ (fun hHeld => ?_)
            · exact ⟨X.r.c0, X.r.c1⟩
            clear hK K
            try simp only [Act.put, Ls]
            refine rdy 7 rfl (fun K hK => ?_)
            go_simp
            go_at_call 68
            have hg1 : w.heap.size + 1 ≤ W9.heap.size := World.block_lt_of_cell? _ _ Z.r.c0
            have hY : b2 < W9.heap.size := World.block_lt_of_cell? _ _ Y.r.c0
            refine (add_x x y ax ay cx cy _ X.sl oy.sl 2203 bx (by omega) (by decide)).mono ?_
            rintro r W10 ⟨z, az, cz, rfl, bz, oz, hb⟩
            replace Z := Z.below hb
            replace X := X.below hb
            replace Y := Y.below hb
            replace oy := oy.below hb
            have lw := hr.lt
            replace hr := hr.below hb
            replace hg := grown_trans hg (grown_below hb _)
            clear hb
            have ng : ∀ g, az = some ⟨g, 0, none⟩ → g ≠ b2 := fun g h => by have := (own_at oz g h).1; omega
            clear hY
            replace oz := WO.of (rb := rb) (m := w.heap.size + 1) oz (by omega) (by have := hg1; omega)
            clear hg1
            refine hK.out _ _ ?_ (fun hHeld => ?_)
            · exact ⟨X.r.c0, X.r.c1⟩
            clear hK K
            try simp only [Act.put, Ls]
            refine rdy 9 rfl (fun K hK => ?_)
            have ⟨yc0, yc1, yf0, yf1⟩ := Y.r
            go_simp
            refine hK.out _ _ ?_ (fun hHeld => ?_)
            · exact ⟨((X.r.other (p := ⟨b2, 0, none⟩) (by simpa using n12) _).other (p := ⟨b2, 1, none⟩) (by simpa using n12) _).c0, ((X.r.other (p := ⟨b2, 0, none⟩) (by simpa using n12) _).other (p := ⟨b2, 1, none⟩) (by simpa using n12) _).c1⟩
            clear hK K
            try simp only [Act.put, Ls]
            refine wpAnyH_done (by kernel_rfl) ?_ _
            go_wp2_with fail
            go_meet
            exact ⟨b2, z, az, cz, rfl, bz, nz2, WX.put Y.r oz Y.lt ng, Z.two (by omega) _ _, rd_two hr Y.lt _ _, grown_two' hg (by omega) _ _⟩
        · go_simp
          refine hK.out _ _ ?_ (fun hHeld => ?_)
          · exact ⟨(X.alloc (.cells #[.bool false, .slice none 0 0] 26)).r.c0, (X.alloc (.cells #[.bool false, .slice none 0 0] 26)).r.c1⟩
          clear hK K
          try simp only [Act.put, Ls]
          obtain ⟨b2, h2⟩ : ∃ q, q = W7.heap.size := ⟨_, rfl⟩
          have n12 : b1 ≠ b2 := by have h : b1 < W7.heap.size := World.block_lt_of_cell? _ _ X.r.c0; omega
          have nz2 : w.heap.size < b2 := by have h : w.heap.size < W7.heap.size := World.block_lt_of_cell? _ _ Z.r.c0; omega
          rw [← h2]
          have Y : WZ (W7.alloc (.cells #[.bool false, .slice none 0 0] 26)) rb b2 := ⟨by rw [h2]; exact R2.new _ _ _ _, by have := hr.lt; omega⟩
          clear h2
          replace Z := Z.alloc (.cells #[.bool false, .slice none 0 0] 26)
          replace X := X.alloc (.cells #[.bool false, .slice none 0 0] 26)
          replace hc := hc.below ((Below.refl _ _).alloc (Nat.le_refl _) ((.cells #[.bool false, .slice none 0 0] 26))) lB'
          replace lB' : W6.heap.size < (W7.alloc ((.cells #[.bool false, .slice none 0 0] 26))).heap.size := by simp; omega
          replace hr := hr.alloc (.cells #[.bool false, .slice none 0 0] 26)
          replace hg := grown_alloc hg (.cells #[.bool false, .slice none 0 0] 26)
          generalize W7.alloc (.cells #[.bool false, .slice none 0 0] 26) = W8 at Z X hc Y hHeld lB' hr hg ⊢
          refine rdy 5 rfl (fun K hK => ?_)
          obtain ⟨d, hd, d0, d1⟩ := hc kn (by omega)
          go_simp
          refine hK.out _ _ ?_ (fun hHeld => ?_)
          · exact ⟨X.r.c0, X.r.c1⟩
          clear hK K
          try simp only [Act.put, Ls]
          clear hc lB' lB
          refine rdy 6 rfl (fun K hK => ?_)
          go_simp
          go_at_call 70
          have hg1 : w.heap.size + 1 ≤ W8.heap.size := World.block_lt_of_cell? _ _ Z.r.c0
          refine (of_x d _ (by omega) (by omega)).mono ?_
          rintro r W9 ⟨y, ay, cy, rfl, yb, oy, hb⟩
          replace Z := Z.below hb
          replace X := X.below hb
          replace Y := Y.below hb
          have lw := hr.lt
          replace hr := hr.below hb
          replace hg := grown_trans hg (grown_below hb _)
          clear hb
          replace oy := WO.of (rb := rb) (m := w.heap.size + 1) oy (by omega) (by have := hg1; omega)
          clear hg1
          refine hK.out _ _ ?_ (fun hHeld => ?_)
          · exact ⟨X.r.c0, X.r.c1⟩
          clear hK K
          try simp only [Act.put, Ls]
          refine rdy 7 rfl (fun K hK => ?_)
          go_simp
          go_at_call 68
          have hg1 : w.heap.size + 1 ≤ W9.heap.size := World.block_lt_of_cell? _ _ Z.r.c0
          have hY : b2 < W9.heap.size := World.block_lt_of_cell? _ _ Y.r.c0
          refine (add_x x y ax ay cx cy _ X.sl oy.sl 2203 bx (by omega) (by decide)).mono ?_
          rintro r W10 ⟨z, az, cz, rfl, bz, oz, hb⟩
          replace Z := Z.below hb
          replace X := X.below hb
          replace Y := Y.below hb
          replace oy := oy.below hb
          have lw := hr.lt
          replace hr := hr.below hb
          replace hg := grown_trans hg (grown_below hb _)
          clear hb
          have ng : ∀ g, az = some ⟨g, 0, none⟩ → g ≠ b2 := fun g h => by have := (own_at oz g h).1; omega
          clear hY
          replace oz := WO.of (rb := rb) (m := w.heap.size + 1) oz (by omega) (by have := hg1; omega)
          clear hg1
          refine hK.out _ _ ?_ (fun hHeld => ?_)
          · exact ⟨X.r.c0, X.r.c1⟩
          clear hK K
          try simp only [Act.put, Ls]
          refine rdy 9 rfl (fun K hK => ?_)
          have ⟨yc0, yc1, yf0, yf1⟩ := Y.r
          go_simp
          refine hK.out _ _ ?_ (fun hHeld => ?_)
          · exact ⟨((X.r.other (p := ⟨b2, 0, none⟩) (by simpa using n12) _).other (p := ⟨b2, 1, none⟩) (by simpa using n12) _).c0, ((X.r.other (p := ⟨b2, 0, none⟩) (by simpa using n12) _).other (p := ⟨b2, 1, none⟩) (by simpa using n12) _).c1⟩
          clear hK K
          try simp only [Act.put, Ls]
          refine wpAnyH_done (by kernel_rfl) ?_ _
          go_wp2_with fail
          go_meet
          exact ⟨b2, z, az, cz, rfl, bz, nz2, WX.put Y.r oz Y.lt ng, Z.two (by omega) _ _, rd_two hr Y.lt _ _, grown_two' hg (by omega) _ _⟩
      · go_simp
        refine hK.out _ _ ?_ (fun hHeld => ?_)
        · exact ⟨(X.alloc (.cells #[.bool false, .slice none 0 0] 26)).r.c0, (X.alloc (.cells #[.bool false, .slice none 0 0] 26)).r.c1⟩
        clear hK K
        try simp only [Act.put, Ls]
        obtain ⟨b2, h2⟩ : ∃ q, q = W6.heap.size := ⟨_, rfl⟩
        have n12 : b1 ≠ b2 := by have h : b1 < W6.heap.size := World.block_lt_of_cell? _ _ X.r.c0; omega
        have nz2 : w.heap.size < b2 := by have h : w.heap.size < W6.heap.size := World.block_lt_of_cell? _ _ Z.r.c0; omega
        rw [← h2]
        have Y : WZ (W6.alloc (.cells #[.bool false, .slice none 0 0] 26)) rb b2 := ⟨by rw [h2]; exact R2.new _ _ _ _, by have := hr.lt; omega⟩
        clear h2
        replace Z := Z.alloc (.cells #[.bool false, .slice none 0 0] 26)
        replace X := X.alloc (.cells #[.bool false, .slice none 0 0] 26)
        replace hr := hr.alloc (.cells #[.bool false, .slice none 0 0] 26)
        replace hg := grown_alloc hg (.cells #[.bool false, .slice none 0 0] 26)
        generalize W6.alloc (.cells #[.bool false, .slice none 0 0] 26) = W7 at Z X Y hHeld hr hg ⊢
        refine rdy 1 rfl (fun K hK => ?_)
        go_simp
        refine hK.out _ _ ?_ (fun hHeld => ?_)
        · exact ⟨(X.alloc (.cells #[.int .i64 0, .int .i64 1, .int .i64 3, .int .i64 4, .int .i64 5, .int .i64 7] 3)).r.c0, (X.alloc (.cells #[.int .i64 0, .int .i64 1, .int .i64 3, .int .i64 4, .int .i64 5, .int .i64 7] 3)).r.c1⟩
        clear hK K
        try simp only [Act.put, Ls]
        have lB : rb < W7.heap.size := hr.lt
        have hc := Row7.new W7 3
        have lB' : W7.heap.size < (W7.alloc (.cells #[.int .i64 0, .int .i64 1, .int .i64 3, .int .i64 4, .int .i64 5, .int .i64 7] 3)).heap.size := by simp
        replace Z := Z.alloc (.cells #[.int .i64 0, .int .i64 1, .int .i64 3, .int .i64 4, .int .i64 5, .int .i64 7] 3)
        replace X := X.alloc (.cells #[.int .i64 0, .int .i64 1, .int .i64 3, .int .i64 4, .int .i64 5, .int .i64 7] 3)
        replace Y := Y.alloc (.cells #[.int .i64 0, .int .i64 1, .int .i64 3, .int .i64 4, .int .i64 5, .int .i64 7] 3)
        replace hr := hr.alloc (.cells #[.int .i64 0, .int .i64 1, .int .i64 3, .int .i64 4, .int .i64 5, .int .i64 7] 3)
        replace hg := grown_alloc hg (.cells #[.int .i64 0, .int .i64 1, .int .i64 3, .int .i64 4, .int .i64 5, .int .i64 7] 3)
        generalize W7.alloc (.cells #[.int .i64 0, .int .i64 1, .int .i64 3, .int .i64 4, .int .i64 5, .int .i64 7] 3) = W8 at Z X Y hc lB' hHeld hr hg ⊢
        refine tk 4 ?_ rfl (Or.inl ⟨by rfl, ?_⟩) ?_
        rotate_left
        · (intro w hSw; go_simp; try (with_reducible rfl))
        try simp only [Act.put, Ls]
        refine rdy 5 rfl (fun K hK => ?_)
        obtain ⟨d, hd, d0, d1⟩ := hc kn (by omega)
        go_simp
        refine hK.out _ _ ?_ (fun hHeld => ?_)
        · exact ⟨X.r.c0, X.r.c1⟩
        clear hK K
        try simp only [Act.put, Ls]
        clear hc lB' lB
        refine rdy 6 rfl (fun K hK => ?_)
        go_simp
        go_at_call 70
        have hg1 : w.heap.size + 1 ≤ W8.heap.size := World.block_lt_of_cell? _ _ Z.r.c0
        refine (of_x d _ (by omega) (by omega)).mono ?_
        rintro r W9 ⟨y, ay, cy, rfl, yb, oy, hb⟩
        replace Z := Z.below hb
        replace X := X.below hb
        replace Y := Y.below hb
        have lw := hr.lt
        replace hr := hr.below hb
        replace hg := grown_trans hg (grown_below hb _)
        clear hb
        replace oy := WO.of (rb := rb) (m := w.heap.size + 1) oy (by omega) (by have := hg1; omega)
        clear hg1
        refine hK.out _ _ ?_ (fun hHeld => ?_)
        · exact ⟨X.r.c0, X.r.c1⟩
        clear hK K
        try simp only [Act.put, Ls]
        refine rdy 7 rfl (fun K hK => ?_)
        go_simp
        go_at_call 68
        have hg1 : w.heap.size + 1 ≤ W9.heap.size := World.block_lt_of_cell? _ _ Z.r.c0
        have hY : b2 < W9.heap.size := World.block_lt_of_cell? _ _ Y.r.c0
        refine (add_x x y ax ay cx cy _ X.sl oy.sl 2203 bx (by omega) (by decide)).mono ?_
        rintro r W10 ⟨z, az, cz, rfl, bz, oz, hb⟩
        replace Z := Z.below hb
        replace X := X.below hb
        replace Y := Y.below hb
        replace oy := oy.below hb
        have lw := hr.lt
        replace hr := hr.below hb
        replace hg := grown_trans hg (grown_below hb _)
        clear hb
        have ng : ∀ g, az = some ⟨g, 0, none⟩ → g ≠ b2 := fun g h => by have := (own_at oz g h).1; omega
        clear hY
        replace oz := WO.of (rb := rb) (m := w.heap.size + 1) oz (by omega) (by have := hg1; omega)
        clear hg1
        refine hK.out _ _ ?_ (fun hHeld => ?_)
        · exact ⟨X.r.c0, X.r.c1⟩
        clear hK K
        try simp only [Act.put, Ls]
        refine rdy 9 rfl (fun K hK => ?_)
        have ⟨yc0, yc1, yf0, yf1⟩ := Y.r
        go_simp
        refine hK.out _ _ ?_ (fun hHeld => ?_)
        · exact ⟨((X.r.other (p := ⟨b2, 0, none⟩) (by simpa using n12) _).other (p := ⟨b2, 1, none⟩) (by simpa using n12) _).c0, ((X.r.other (p := ⟨b2, 0, none⟩) (by simpa using n12) _).other (p := ⟨b2, 1, none⟩) (by simpa using n12) _).c1⟩
        clear hK K
        try simp only [Act.put, Ls]
        refine wpAnyH_done (by kernel_rfl) ?_ _
        go_wp2_with fail
        go_meet
        exact ⟨b2, z, az, cz, rfl, bz, nz2, WX.put Y.r oz Y.lt ng, Z.two (by omega) _ _, rd_two hr Y.lt _ _, grown_two' hg (by omega) _ _⟩
    · go_simp
      refine hK.out _ _ ?_ (fun hHeld => ?_)
      · exact ⟨(X.alloc (.cells #[.bool false, .slice none 0 0] 26)).r.c0, (X.alloc (.cells #[.bool false, .slice none 0 0] 26)).r.c1⟩
      clear hK K
      try simp only [Act.put, Ls]
      obtain ⟨b2, h2⟩ : ∃ q, q = W5.heap.size := ⟨_, rfl⟩
      have n12 : b1 ≠ b2 := by have h : b1 < W5.heap.size := World.block_lt_of_cell? _ _ X.r.c0; omega
      have nz2 : w.heap.size < b2 := by have h : w.heap.size < W5.heap.size := World.block_lt_of_cell? _ _ Z.r.c0; omega
      rw [← h2]
      have Y : WZ (W5.alloc (.cells #[.bool false, .slice none 0 0] 26)) rb b2 := ⟨by rw [h2]; exact R2.new _ _ _ _, by have := hr.lt; omega⟩
      clear h2
      replace Z := Z.alloc (.cells #[.bool false, .slice none 0 0] 26)
      replace X := X.alloc (.cells #[.bool false, .slice none 0 0] 26)
      replace hr := hr.alloc (.cells #[.bool false, .slice none 0 0] 26)
      replace hg := grown_alloc hg (.cells #[.bool false, .slice none 0 0] 26)
      generalize W5.alloc (.cells #[.bool false, .slice none 0 0] 26) = W6 at Z X Y hHeld hr hg ⊢
      refine wpAnyH_ready (rs := [1, 3]) (by kernel_rfl) (by simp) ?_
      refine AllReadyH.cons (o := _) rfl (fun K hK => ?_) (AllReadyH.cons (o := _) rfl (fun K hK => ?_) AllReadyH.nil)
      · go_simp
        refine hK.out _ _ ?_ (fun hHeld => ?_)
        · exact ⟨(X.alloc (.cells #[.int .i64 0, .int .i64 1, .int .i64 3, .int .i64 4, .int .i64 5, .int .i64 7] 3)).r.c0, (X.alloc (.cells #[.int .i64 0, .int .i64 1, .int .i64 3, .int .i64 4, .int .i64 5, .int .i64 7] 3)).r.c1⟩
        clear hK K
        try simp only [Act.put, Ls]
        have lB : rb < W6.heap.size := hr.lt
        have hc := Row7.new W6 3
        have lB' : W6.heap.size < (W6.alloc (.cells #[.int .i64 0, .int .i64 1, .int .i64 3, .int .i64 4, .int .i64 5, .int .i64 7] 3)).heap.size := by simp
        replace Z := Z.alloc (.cells #[.int .i64 0, .int .i64 1, .int .i64 3, .int .i64 4, .int .i64 5, .int .i64 7] 3)
        replace X := X.alloc (.cells #[.int .i64 0, .int .i64 1, .int .i64 3, .int .i64 4, .int .i64 5, .int .i64 7] 3)
        replace Y := Y.alloc (.cells #[.int .i64 0, .int .i64 1, .int .i64 3, .int .i64 4, .int .i64 5, .int .i64 7] 3)
        replace hr := hr.alloc (.cells #[.int .i64 0, .int .i64 1, .int .i64 3, .int .i64 4, .int .i64 5, .int .i64 7] 3)
        replace hg := grown_alloc hg (.cells #[.int .i64 0, .int .i64 1, .int .i64 3, .int .i64 4, .int .i64 5, .int .i64 7] 3)
        generalize W6.alloc (.cells #[.int .i64 0, .int .i64 1, .int .i64 3, .int .i64 4, .int .i64 5, .int .i64 7] 3) = W7 at Z X Y hc lB' hHeld hr hg ⊢
        refine rdy 3 rfl (fun K hK => ?_)
        go_simp
        go_at_call 64; refine (below_any rb ca cc cs 6 _ hr (by decide) (by decide)).mono ?_
        rintro r W8 ⟨kz, rfl, k0, k1, hr', hg'⟩
        replace Z := Z.rd hg'
        replace X := X.rd hg'
        replace Y := Y.rd hg'
        replace hc := hc.rd hg' lB lB'
        replace lB' := Nat.lt_of_lt_of_le lB' hg'.size
        replace hr := hr'
        replace hg := grown_trans hg hg'
        clear hr' hg'
        obtain ⟨kn, rfl⟩ := Int.eq_ofNat_of_zero_le k0
        refine hK.out _ _ ?_ (fun hHeld => ?_)
        · exact ⟨X.r.c0, X.r.c1⟩
        clear hK K
        try simp only [Act.put, Ls]
        refine tk 4 ?_ rfl (Or.inl ⟨by rfl, ?_⟩) ?_
        rotate_left
        · (intro w hSw; go_simp; try (with_reducible rfl))
        try simp only [Act.put, Ls]
        refine rdy 5 rfl (fun K hK => ?_)
        obtain ⟨d, hd, d0, d1⟩ := hc kn (by omega)
        go_simp
        refine hK.out _ _ ?_ (fun hHeld => ?_)
        · exact ⟨X.r.c0, X.r.c1⟩
        clear hK K
        try simp only [Act.put, Ls]
        clear hc lB' lB
        refine rdy 6 rfl (fun K hK => ?_)
        go_simp
        go_at_call 70
        have hg1 : w.heap.size + 1 ≤ W8.heap.size := World.block_lt_of_cell? _ _ Z.r.c0
        refine (of_x d _ (by omega) (by omega)).mono ?_
        rintro r W9 ⟨y, ay, cy, rfl, yb, oy, hb⟩
        replace Z := Z.below hb
        replace X := X.below hb
        replace Y := Y.below hb
        have lw := hr.lt
        replace hr := hr.below hb
        replace hg := grown_trans hg (grown_below hb _)
        clear hb
        replace oy := WO.of (rb := rb) (m := w.heap.size + 1) oy (by omega) (by have := hg1; omega)
        clear hg1
        refine hK.out _ _ ?_ (fun hHeld => ?_)
        · exact ⟨X.r.c0, X.r.c1⟩
        clear hK K
        try simp only [Act.put, Ls]
        refine rdy 7 rfl (fun K hK => ?_)
        go_simp
        go_at_call 68
        have hg1 : w.heap.size + 1 ≤ W9.heap.size := World.block_lt_of_cell? _ _ Z.r.c0
        have hY : b2 < W9.heap.size := World.block_lt_of_cell? _ _ Y.r.c0
        refine (add_x x y ax ay cx cy _ X.sl oy.sl 2203 bx (by omega) (by decide)).mono ?_
        rintro r W10 ⟨z, az, cz, rfl, bz, oz, hb⟩
        replace Z := Z.below hb
        replace X := X.below hb
        replace Y := Y.below hb
        replace oy := oy.below hb
        have lw := hr.lt
        replace hr := hr.below hb
        replace hg := grown_trans hg (grown_below hb _)
        clear hb
        have ng : ∀ g, az = some ⟨g, 0, none⟩ → g ≠ b2 := fun g h => by have := (own_at oz g h).1; omega
        clear hY
        replace oz := WO.of (rb := rb) (m := w.heap.size + 1) oz (by omega) (by have := hg1; omega)
        clear hg1
        refine hK.out _ _ ?_ (fun hHeld => ?_)
        · exact ⟨X.r.c0, X.r.c1⟩
        clear hK K
        try simp only [Act.put, Ls]
        refine rdy 9 rfl (fun K hK => ?_)
        have ⟨yc0, yc1, yf0, yf1⟩ := Y.r
        go_simp
        refine hK.out _ _ ?_ (fun hHeld => ?_)
        · exact ⟨((X.r.other (p := ⟨b2, 0, none⟩) (by simpa using n12) _).other (p := ⟨b2, 1, none⟩) (by simpa using n12) _).c0, ((X.r.other (p := ⟨b2, 0, none⟩) (by simpa using n12) _).other (p := ⟨b2, 1, none⟩) (by simpa using n12) _).c1⟩
        clear hK K
        try simp only [Act.put, Ls]
        refine wpAnyH_done (by kernel_rfl) ?_ _
        go_wp2_with fail
        go_meet
        exact ⟨b2, z, az, cz, rfl, bz, nz2, WX.put Y.r oz Y.lt ng, Z.two (by omega) _ _, rd_two hr Y.lt _ _, grown_two' hg (by omega) _ _⟩
      · go_simp
        go_at_call 64; refine (below_any rb ca cc cs 6 _ hr (by decide) (by decide)).mono ?_
        rintro r W7 ⟨kz, rfl, k0, k1, hr', hg'⟩
        replace Z := Z.rd hg'
        replace X := X.rd hg'
        replace Y := Y.rd hg'
        replace hr := hr'
        replace hg := grown_trans hg hg'
        clear hr' hg'
        obtain ⟨kn, rfl⟩ := Int.eq_ofNat_of_zero_le k0
        refine hK.out _ _ ?_ (fun hHeld => ?_)
        · exact ⟨X.r.c0, X.r.c1⟩
        clear hK K
        try simp only [Act.put, Ls]
        refine rdy 1 rfl (fun K hK => ?_)
        go_simp
        refine hK.out _ _ ?_ (fun hHeld => ?_)
        · exact ⟨(X.alloc (.cells #[.int .i64 0, .int .i64 1, .int .i64 3, .int .i64 4, .int .i64 5, .int .i64 7] 3)).r.c0, (X.alloc (.cells #[.int .i64 0, .int .i64 1, .int .i64 3, .int .i64 4, .int .i64 5, .int .i64 7] 3)).r.c1⟩
        clear hK K
        try simp only [Act.put, Ls]
        have lB : rb < W7.heap.size := hr.lt
        have hc := Row7.new W7 3
        have lB' : W7.heap.size < (W7.alloc (.cells #[.int .i64 0, .int .i64 1, .int .i64 3, .int .i64 4, .int .i64 5, .int .i64 7] 3)).heap.size := by simp
        replace Z := Z.alloc (.cells #[.int .i64 0, .int .i64 1, .int .i64 3, .int .i64 4, .int .i64 5, .int .i64 7] 3)
        replace X := X.alloc (.cells #[.int .i64 0, .int .i64 1, .int .i64 3, .int .i64 4, .int .i64 5, .int .i64 7] 3)
        replace Y := Y.alloc (.cells #[.int .i64 0, .int .i64 1, .int .i64 3, .int .i64 4, .int .i64 5, .int .i64 7] 3)
        replace hr := hr.alloc (.cells #[.int .i64 0, .int .i64 1, .int .i64 3, .int .i64 4, .int .i64 5, .int .i64 7] 3)
        replace hg := grown_alloc hg (.cells #[.int .i64 0, .int .i64 1, .int .i64 3, .int .i64 4, .int .i64 5, .int .i64 7] 3)
        generalize W7.alloc (.cells #[.int .i64 0, .int .i64 1, .int .i64 3, .int .i64 4, .int .i64 5, .int .i64 7] 3) = W8 at Z X Y hc lB' hHeld hr hg ⊢
        refine tk 4 ?_ rfl (Or.inl ⟨by rfl, ?_⟩) ?_
        rotate_left
        · (intro w hSw; go_simp; try (with_reducible rfl))
        try simp only [Act.put, Ls]
        refine rdy 5 rfl (fun K hK => ?_)
        obtain ⟨d, hd, d0, d1⟩ := hc kn (by omega)
        go_simp
        refine hK.out _ _ ?_ (fun hHeld => ?_)
        · exact ⟨X.r.c0, X.r.c1⟩
        clear hK K
        try simp only [Act.put, Ls]
        clear hc lB' lB
        refine rdy 6 rfl (fun K hK => ?_)
        go_simp
        go_at_call 70
        have hg1 : w.heap.size + 1 ≤ W8.heap.size := World.block_lt_of_cell? _ _ Z.r.c0
        refine (of_x d _ (by omega) (by omega)).mono ?_
        rintro r W9 ⟨y, ay, cy, rfl, yb, oy, hb⟩
        replace Z := Z.below hb
        replace X := X.below hb
        replace Y := Y.below hb
        have lw := hr.lt
        replace hr := hr.below hb
        replace hg := grown_trans hg (grown_below hb _)
        clear hb
        replace oy := WO.of (rb := rb) (m := w.heap.size + 1) oy (by omega) (by have := hg1; omega)
        clear hg1
        refine hK.out _ _ ?_ (fun hHeld => ?_)
        · exact ⟨X.r.c0, X.r.c1⟩
        clear hK K
        try simp only [Act.put, Ls]
        refine rdy 7 rfl (fun K hK => ?_)
        go_simp
        go_at_call 68
        have hg1 : w.heap.size + 1 ≤ W9.heap.size := World.block_lt_of_cell? _ _ Z.r.c0
        have hY : b2 < W9.heap.size := World.block_lt_of_cell? _ _ Y.r.c0
        refine (add_x x y ax ay cx cy _ X.sl oy.sl 2203 bx (by omega) (by decide)).mono ?_
        rintro r W10 ⟨z, az, cz, rfl, bz, oz, hb⟩
        replace Z := Z.below hb
        replace X := X.below hb
        replace Y := Y.below hb
        replace oy := oy.below hb
        have lw := hr.lt
        replace hr := hr.below hb
        replace hg := grown_trans hg (grown_below hb _)
        clear hb
        have ng : ∀ g, az = some ⟨g, 0, none⟩ → g ≠ b2 := fun g h => by have := (own_at oz g h).1; omega
        clear hY
        replace oz := WO.of (rb := rb) (m := w.heap.size + 1) oz (by omega) (by have := hg1; omega)
        clear hg1
        refine hK.out _ _ ?_ (fun hHeld => ?_)
        · exact ⟨X.r.c0, X.r.c1⟩
        clear hK K
        try simp only [Act.put, Ls]
        refine rdy 9 rfl (fun K hK => ?_)
        have ⟨yc0, yc1, yf0, yf1⟩ := Y.r
        go_simp
        refine hK.out _ _ ?_ (fun hHeld => ?_)
        · exact ⟨((X.r.other (p := ⟨b2, 0, none⟩) (by simpa using n12) _).other (p := ⟨b2, 1, none⟩) (by simpa using n12) _).c0, ((X.r.other (p := ⟨b2, 0, none⟩) (by simpa using n12) _).other (p := ⟨b2, 1, none⟩) (by simpa using n12) _).c1⟩
        clear hK K
        try simp only [Act.put, Ls]
        refine wpAnyH_done (by kernel_rfl) ?_ _
        go_wp2_with fail
        go_meet
        exact ⟨b2, z, az, cz, rfl, bz, nz2, WX.put Y.r oz Y.lt ng, Z.two (by omega) _ _, rd_two hr Y.lt _ _, grown_two' hg (by omega) _ _⟩
  case rest =>
  obtain ⟨b2, z, az, cz, rfl, bz, nz2, Y, Z, hr, hg⟩ := hcut
  clear X
  clear bx
  go_wp2_with fail
  refine (once_any rb ca cc cs 2 _ hr (by decide) (by decide)).mono ?_
  rintro r W21 ⟨e1, rfl, hr', hg'⟩
  replace Z := Z.rd hg'
  replace Y := Y.rd hg'
  replace hr := hr'
  replace hg := grown_trans hg hg'
  clear hr' hg'
  cases e1
  · go_upto_region 6 with fail
    replace Z := Z.drew 
    replace Y := Y.drew 
    replace hr := hr.drew
    replace hg := grown_trans hg (grown_below (Below.drew (Below.refl _ _)) _)
    refine wp_region_held_drew (S := fun w' => w'.cell? ⟨b2, 0, none⟩ = some (.bool (Nm.wn z)) ∧ w'.cell? ⟨b2, 1, none⟩ = some (.slice az (Nm.wl z).length cz)) (by kernel_rfl) ?_ (fun hHeld => ?_)
    · exact ⟨Y.r.c0, Y.r.c1⟩
    generalize W21.drew = W22 at Z Y hr hg hHeld ⊢
    refine tk 0 ?_ rfl (Or.inl ⟨by rfl, ?_⟩) ?_
    rotate_left
    · (intro w hSw; (try dsimp only at hSw); obtain ⟨hS0, hS1⟩ := hSw; go_simp; try (with_reducible rfl))
    try simp only [Act.put, Ls]
    refine tk 1 ?_ rfl (Or.inl ⟨by rfl, ?_⟩) ?_
    rotate_left
    · (intro w hSw; go_simp; try (with_reducible rfl))
    try simp only [Act.put, Ls]
    refine rdy 2 rfl (fun K hK => ?_)
    go_simp
    go_at_call 71
    refine (sQ_any fm _ HF.out).mono ?_
    rintro r W' ⟨rfl, rfl⟩
    refine hK.out _ _ ?_ (fun hHeld => ?_)
    · exact ⟨Y.r.c0, Y.r.c1⟩
    clear hK K
    try simp only [Act.put, Ls]
    refine tk 3 ?_ rfl (Or.inl ⟨by rfl, ?_⟩) ?_
    rotate_left
    · (intro w hSw; go_simp; try (with_reducible rfl))
    try simp only [Act.put, Ls]
    refine rdy 4 rfl (fun K hK => ?_)
    have ⟨zc0, zc1, zf0, zf1⟩ := Z.r
    go_simp
    refine hK.out _ _ ?_ (fun hHeld => ?_)
    · exact ⟨((Y.r.other (p := ⟨w.heap.size, 0, none⟩) (by simp; omega) _).other (p := ⟨w.heap.size, 1, none⟩) (by simp; omega) _).c0, ((Y.r.other (p := ⟨w.heap.size, 0, none⟩) (by simp; omega) _).other (p := ⟨w.heap.size, 1, none⟩) (by simp; omega) _).c1⟩
    clear hK K
    try simp only [Act.put, Ls]
    refine rdy 5 rfl (fun K hK => ?_)
    go_simp
    refine hK.out _ _ ?_ (fun hHeld => ?_)
    · exact ⟨((Y.r.other (p := ⟨w.heap.size, 0, none⟩) (by simp; omega) _).other (p := ⟨w.heap.size, 1, none⟩) (by simp; omega) _).c0, ((Y.r.other (p := ⟨w.heap.size, 0, none⟩) (by simp; omega) _).other (p := ⟨w.heap.size, 1, none⟩) (by simp; omega) _).c1⟩
    clear hK K
    try simp only [Act.put, Ls]
    refine wpAnyH_done (by kernel_rfl) ?_ _
    have hzz : ∀ g, az = some ⟨g, 0, none⟩ → g ≠ w.heap.size := fun g h => by have := (own_at Y.o.o g h).1; omega
    have F := WX.put (m := w.heap.size + 1) Z.r Y.o Z.lt hzz
    obtain ⟨f0, f1, -, -⟩ := F.r
    go_wp2
    exact bodyPost_ret (v := .tuple #[.agg #[.bool (Nm.wn z), .slice az (Nm.wl z).length cz], .int .i64 _]) (by simp [results, Tryz.results63, go_sem, f0, f1]; rfl) rfl ⟨z, az, cz, _, rfl, by omega, F.o.o.base (by omega), rd_two hr hlt _ _, grown_two' hg (Nat.le_refl _) _ _⟩
  · go_wp2_with fail
    refine (finite_x fm HF.out rb ca cc cs _ hr).mono ?_
    rintro r W22 ⟨v, rfl, v0, v1, vf, hr', hg'⟩
    replace Z := Z.rd hg'
    replace Y := Y.rd hg'
    replace hr := hr'
    replace hg := grown_trans hg hg'
    clear hr' hg'
    go_wp2_with fail
    have hg1 : w.heap.size + 1 ≤ W22.heap.size := World.block_lt_of_cell? _ _ Z.r.c0
    refine (unit_x fm v _ vf v0 v1).mono ?_
    rintro r W23 ⟨u, au, cu, rfl, bu, ou, hb⟩
    replace Z := Z.below hb
    replace Y := Y.below hb
    have lw := hr.lt
    replace hr := hr.below hb
    replace hg := grown_trans hg (grown_below hb _)
    clear hb
    replace ou := WO.of (rb := rb) (m := w.heap.size + 1) ou (by omega) (by have := hg1; omega)
    clear hg1
    clear v0 v1 vf
    go_wp2_with fail
    obtain ⟨b3, hb3⟩ : ∃ q, q = W23.heap.size := ⟨_, rfl⟩
    have nb2b3 : b2 < b3 := by have h : b2 < W23.heap.size := World.block_lt_of_cell? _ _ Y.r.c0; omega
    have U := WX.new ou (show rb < W23.heap.size from hr.lt) 26
    rw [← hb3] at U ⊢
    clear hb3 ou
    replace Z := Z.alloc (.cells #[.bool (Nm.wn u), .slice au (Nm.wl u).length cu] 26)
    replace Y := Y.alloc (.cells #[.bool (Nm.wn u), .slice au (Nm.wl u).length cu] 26)
    replace hr := hr.alloc (.cells #[.bool (Nm.wn u), .slice au (Nm.wl u).length cu] 26)
    replace hg := grown_alloc hg (.cells #[.bool (Nm.wn u), .slice au (Nm.wl u).length cu] 26)
    generalize W23.alloc (.cells #[.bool (Nm.wn u), .slice au (Nm.wl u).length cu] 26) = W24 at Z Y U hr hg ⊢
    refine (finite_x fm HF.out rb ca cc cs _ hr).mono ?_
    rintro r W25 ⟨v, rfl, v0, v1, vf, hr', hg'⟩
    replace Z := Z.rd hg'
    replace Y := Y.rd hg'
    replace U := U.rd hg'
    replace hr := hr'
    replace hg := grown_trans hg hg'
    clear hr' hg'
    have hup := up_bounds (fm := fm) v0 v1
    have SU := hid (fun w' => spec_up fm v w' v0 v1)
    obtain ⟨up, eup⟩ : ∃ q, q = upF fm v := ⟨_, rfl⟩
    rw [← eup] at hup SU
    clear eup vf v0 v1
    go_wp2_with fail
    refine (SU.out _).mono ?_
    rintro r W26 ⟨rfl, hb⟩
    replace Z := Z.below hb
    replace Y := Y.below hb
    replace U := U.below hb
    have lw := hr.lt
    replace hr := hr.below hb
    replace hg := grown_trans hg (grown_below hb _)
    clear hb
    clear SU
    go_wp2_with fail
    have SI := hid (fun w' => inf_x fm HF.out w')
    have hmod := fin_mod HF.out hup.1
    obtain ⟨I, eI⟩ : ∃ q, q = infOf fm := ⟨_, rfl⟩
    have hI : 0 < I := by rw [eI]; unfold infOf; split <;> decide
    rw [← eI] at SI hmod
    clear eI
    refine (SI.out _).mono ?_
    rintro r W27 ⟨rfl, hb⟩
    replace Z := Z.below hb
    replace Y := Y.below hb
    replace U := U.below hb
    have lw := hr.lt
    replace hr := hr.below hb
    replace hg := grown_trans hg (grown_below hb _)
    clear hb
    clear SI
    have hI' : ¬ I = 0 := by omega
    have hI2 : (I == 0) = false := by simp; omega
    rw [Int.tmod_eq_emod_of_nonneg hup.1] at hmod
    obtain ⟨m0, m1, mf⟩ := hmod
    go_wp2_with fail
    have hg1 : w.heap.size + 1 ≤ W27.heap.size := World.block_lt_of_cell? _ _ Z.r.c0
    refine (unit_x fm (up % I) _ mf m0 m1).mono ?_
    rintro r W28 ⟨v2, av, cv, rfl, bv, ov, hb⟩
    replace Z := Z.below hb
    replace Y := Y.below hb
    replace U := U.below hb
    have lw := hr.lt
    replace hr := hr.below hb
    replace hg := grown_trans hg (grown_below hb _)
    clear hb
    replace ov := WO.of (rb := rb) (m := w.heap.size + 1) ov (by omega) (by have := hg1; omega)
    clear hg1
    clear m0 m1 mf hI hI' hI2 hup
    go_upto_region 11 with fail
    obtain ⟨b4, hb4⟩ : ∃ q, q = W28.heap.size := ⟨_, rfl⟩
    have nb2b4 : b2 < b4 := by have h : b2 < W28.heap.size := World.block_lt_of_cell? _ _ Y.r.c0; omega
    have V := WX.new ov (show rb < W28.heap.size from hr.lt) 26
    rw [← hb4] at V ⊢
    clear hb4 ov
    replace Z := Z.alloc (.cells #[.bool (Nm.wn v2), .slice av (Nm.wl v2).length cv] 26)
    replace Y := Y.alloc (.cells #[.bool (Nm.wn v2), .slice av (Nm.wl v2).length cv] 26)
    replace U := U.alloc (.cells #[.bool (Nm.wn v2), .slice av (Nm.wl v2).length cv] 26)
    replace hr := hr.alloc (.cells #[.bool (Nm.wn v2), .slice av (Nm.wl v2).length cv] 26)
    replace hg := grown_alloc hg (.cells #[.bool (Nm.wn v2), .slice av (Nm.wl v2).length cv] 26)
    generalize W28.alloc (.cells #[.bool (Nm.wn v2), .slice av (Nm.wl v2).length cv] 26) = W29 at Z Y U V hr hg ⊢
    replace Z := Z.drew 
    replace Y := Y.drew 
    replace U := U.drew 
    replace V := V.drew 
    replace hr := hr.drew
    replace hg := grown_trans hg (grown_below (Below.drew (Below.refl _ _)) _)
    refine wp_region_held_drew (S := fun w' => (w'.cell? ⟨b3, 0, none⟩ = some (.bool (Nm.wn u)) ∧ w'.cell? ⟨b3, 1, none⟩ = some (.slice au (Nm.wl u).length cu)) ∧ (w'.cell? ⟨b4, 0, none⟩ = some (.bool (Nm.wn v2)) ∧ w'.cell? ⟨b4, 1, none⟩ = some (.slice av (Nm.wl v2).length cv))) (by kernel_rfl) ?_ (fun hHeld => ?_)
    · exact ⟨⟨U.r.c0, U.r.c1⟩, V.r.c0, V.r.c1⟩
    generalize W29.drew = W30 at Z Y U V hr hg hHeld ⊢
    refine tk 0 ?_ rfl (Or.inl ⟨by rfl, ?_⟩) ?_
    rotate_left
    · (intro w hSw; (try dsimp only at hSw); obtain ⟨⟨hS0, hS1⟩, hS2, hS3⟩ := hSw; go_simp; try (with_reducible rfl))
    try simp only [Act.put, Ls]
    refine tk 2 ?_ rfl (Or.inl ⟨by rfl, ?_⟩) ?_
    rotate_left
    · (intro w hSw; (try dsimp only at hSw); obtain ⟨⟨hS0, hS1⟩, hS2, hS3⟩ := hSw; go_simp; try (with_reducible rfl))
    try simp only [Act.put, Ls]
    refine tk 4 ?_ rfl (Or.inl ⟨by rfl, ?_⟩) ?_
    rotate_left
    · (intro w hSw; go_simp; try (with_reducible rfl))
    try simp only [Act.put, Ls]
    refine rdy 1 rfl (fun K hK => ?_)
    go_simp
    go_at_call 69
    have hg1 : w.heap.size + 1 ≤ W30.heap.size := World.block_lt_of_cell? _ _ Z.r.c0
    refine (shift_x u au cu 2 _ U.sl 2200 bu (by decide) (by decide) (by decide)).mono ?_
    rintro r W31 ⟨p, ap, cp, rfl, bp, op, hb⟩
    replace Z := Z.below hb
    replace Y := Y.below hb
    replace U := U.below hb
    replace V := V.below hb
    have lw := hr.lt
    replace hr := hr.below hb
    replace hg := grown_trans hg (grown_below hb _)
    clear hb
    replace op := WO.of (rb := rb) (m := w.heap.size + 1) op (by omega) (by have := hg1; omega)
    clear hg1
    refine hK.out _ _ ?_ (fun hHeld => ?_)
    · exact ⟨⟨U.r.c0, U.r.c1⟩, V.r.c0, V.r.c1⟩
    clear hK K
    try simp only [Act.put, Ls]
    refine rdy 3 rfl (fun K hK => ?_)
    go_simp
    go_at_call 69
    have hg1 : w.heap.size + 1 ≤ W31.heap.size := World.block_lt_of_cell? _ _ Z.r.c0
    refine (shift_x v2 av cv 2 _ V.sl 2200 bv (by decide) (by decide) (by decide)).mono ?_
    rintro r W32 ⟨q, aq, cq, rfl, bq, oq, hb⟩
    replace Z := Z.below hb
    replace Y := Y.below hb
    replace U := U.below hb
    replace V := V.below hb
    replace op := op.below hb
    have lw := hr.lt
    replace hr := hr.below hb
    replace hg := grown_trans hg (grown_below hb _)
    clear hb
    replace oq := WO.of (rb := rb) (m := w.heap.size + 1) oq (by omega) (by have := hg1; omega)
    clear hg1
    refine hK.out _ _ ?_ (fun hHeld => ?_)
    · exact ⟨⟨U.r.c0, U.r.c1⟩, V.r.c0, V.r.c1⟩
    clear hK K
    try simp only [Act.put, Ls]
    refine rdy 5 rfl (fun K hK => ?_)
    go_simp
    go_at_call 64
    refine (below_any rb ca cc cs 3 _ hr (by decide) (by decide)).mono ?_
    rintro r W33 ⟨k, rfl, k0, k1, hr', hg'⟩
    replace Z := Z.rd hg'
    replace Y := Y.rd hg'
    replace U := U.rd hg'
    replace V := V.rd hg'
    replace op := op.rd hg'
    replace oq := oq.rd hg'
    replace hr := hr'
    replace hg := grown_trans hg hg'
    clear hr' hg'
    refine hK.out _ _ ?_ (fun hHeld => ?_)
    · exact ⟨⟨U.r.c0, U.r.c1⟩, V.r.c0, V.r.c1⟩
    clear hK K
    try simp only [Act.put, Ls]
    have hkw : wrap64 (k - 1) = k - 1 := by unfold wrap64; omega
    refine tk 6 ?_ rfl (Or.inl ⟨by rfl, ?_⟩) ?_
    rotate_left
    · (intro w hSw; go_simp; try (with_reducible rfl))
    try simp only [Act.put, Ls]
    refine rdy 7 rfl (fun K hK => ?_)
    go_simp
    go_at_call 70
    have hg1 : w.heap.size + 1 ≤ W33.heap.size := World.block_lt_of_cell? _ _ Z.r.c0
    refine (of_x _ _ (by first | omega | (rw [IntKind.wrap_i64]; omega) | (unfold wrap64; omega)) (by first | omega | (rw [IntKind.wrap_i64]; omega) | (unfold wrap64; omega))).mono ?_
    rintro r W34 ⟨s, as', cs', rfl, bs, os, hb⟩
    replace Z := Z.below hb
    replace Y := Y.below hb
    replace U := U.below hb
    replace V := V.below hb
    replace op := op.below hb
    replace oq := oq.below hb
    have lw := hr.lt
    replace hr := hr.below hb
    replace hg := grown_trans hg (grown_below hb _)
    clear hb
    replace os := WO.of (rb := rb) (m := w.heap.size + 1) os (by omega) (by have := hg1; omega)
    clear hg1
    refine hK.out _ _ ?_ (fun hHeld => ?_)
    · exact ⟨⟨U.r.c0, U.r.c1⟩, V.r.c0, V.r.c1⟩
    clear hK K
    try simp only [Act.put, Ls]
    refine rdy 8 rfl (fun K hK => ?_)
    go_simp
    go_at_call 68
    have hg1 : w.heap.size + 1 ≤ W34.heap.size := World.block_lt_of_cell? _ _ Z.r.c0
    refine (add_x q s aq as' cq cs' _ oq.sl os.sl 2202 bq (by omega) (by decide)).mono ?_
    rintro r W35 ⟨r1, ar, cr, rfl, br, orr, hb⟩
    replace Z := Z.below hb
    replace Y := Y.below hb
    replace U := U.below hb
    replace V := V.below hb
    replace op := op.below hb
    replace oq := oq.below hb
    replace os := os.below hb
    have lw := hr.lt
    replace hr := hr.below hb
    replace hg := grown_trans hg (grown_below hb _)
    clear hb
    replace orr := WO.of (rb := rb) (m := w.heap.size + 1) orr (by omega) (by have := hg1; omega)
    clear hg1
    refine hK.out _ _ ?_ (fun hHeld => ?_)
    · exact ⟨⟨U.r.c0, U.r.c1⟩, V.r.c0, V.r.c1⟩
    clear hK K
    try simp only [Act.put, Ls]
    refine rdy 9 rfl (fun K hK => ?_)
    go_simp
    go_at_call 68
    have hg1 : w.heap.size + 1 ≤ W35.heap.size := World.block_lt_of_cell? _ _ Z.r.c0
    have hY : b2 < W35.heap.size := World.block_lt_of_cell? _ _ Y.r.c0
    refine (add_x p r1 ap ar cp cr _ op.sl orr.sl 2203 (by omega) br (by decide)).mono ?_
    rintro r W36 ⟨y, ay, cy, rfl, yb, oy, hb⟩
    replace Z := Z.below hb
    replace Y := Y.below hb
    replace U := U.below hb
    replace V := V.below hb
    replace op := op.below hb
    replace oq := oq.below hb
    replace os := os.below hb
    replace orr := orr.below hb
    have lw := hr.lt
    replace hr := hr.below hb
    replace hg := grown_trans hg (grown_below hb _)
    clear hb
    have ng : ∀ g, ay = some ⟨g, 0, none⟩ → g ≠ b2 := fun g h => by have := (own_at oy g h).1; omega
    clear hY
    replace oy := WO.of (rb := rb) (m := w.heap.size + 1) oy (by omega) (by have := hg1; omega)
    clear hg1
    refine hK.out _ _ ?_ (fun hHeld => ?_)
    · exact ⟨⟨U.r.c0, U.r.c1⟩, V.r.c0, V.r.c1⟩
    clear hK K
    try simp only [Act.put, Ls]
    refine rdy 10 rfl (fun K hK => ?_)
    have ⟨yc0, yc1, yf0, yf1⟩ := Y.r
    go_simp
    refine hK.out _ _ ?_ (fun hHeld => ?_)
    · exact ⟨⟨((U.r.other (p := ⟨b2, 0, none⟩) (by simp; omega) _).other (p := ⟨b2, 1, none⟩) (by simp; omega) _).c0, ((U.r.other (p := ⟨b2, 0, none⟩) (by simp; omega) _).other (p := ⟨b2, 1, none⟩) (by simp; omega) _).c1⟩, ((V.r.other (p := ⟨b2, 0, none⟩) (by simp; omega) _).other (p := ⟨b2, 1, none⟩) (by simp; omega) _).c0, ((V.r.other (p := ⟨b2, 0, none⟩) (by simp; omega) _).other (p := ⟨b2, 1, none⟩) (by simp; omega) _).c1⟩
    clear hK K
    try simp only [Act.put, Ls]
    refine wpAnyH_done (by kernel_rfl) ?_ _
    replace Y := WX.put Y.r oy Y.lt ng
    replace Z := Z.two (q := b2) (by omega) (.bool (Nm.wn y)) (.slice ay (Nm.wl y).length cy)
    replace hr := rd_two hr (q := b2) (by omega) (.bool (Nm.wn y)) (.slice ay (Nm.wl y).length cy)
    replace hg := grown_two' hg (q := b2) (by omega) (.bool (Nm.wn y)) (.slice ay (Nm.wl y).length cy)
    clear U V op oq os orr oy hHeld
    generalize (W36.setCell ⟨b2, 0, none⟩ (.bool (Nm.wn y))).setCell ⟨b2, 1, none⟩ (.slice ay (Nm.wl y).length cy) = W50 at Y Z hr hg ⊢
    go_upto_region 6 with fail
    replace Y := Y.drew 
    replace Z := Z.drew 
    replace hr := hr.drew
    replace hg := grown_trans hg (grown_below (Below.drew (Below.refl _ _)) _)
    refine wp_region_held_drew (S := fun w' => w'.cell? ⟨b2, 0, none⟩ = some (.bool (Nm.wn y)) ∧ w'.cell? ⟨b2, 1, none⟩ = some (.slice ay (Nm.wl y).length cy)) (by kernel_rfl) ?_ (fun hHeld => ?_)
    · exact ⟨Y.r.c0, Y.r.c1⟩
    generalize W50.drew = W51 at Y Z hr hg hHeld ⊢
    refine tk 0 ?_ rfl (Or.inl ⟨by rfl, ?_⟩) ?_
    rotate_left
    · (intro w hSw; (try dsimp only at hSw); obtain ⟨hS0, hS1⟩ := hSw; go_simp; try (with_reducible rfl))
    try simp only [Act.put, Ls]
    refine tk 1 ?_ rfl (Or.inl ⟨by rfl, ?_⟩) ?_
    rotate_left
    · (intro w hSw; go_simp; try (with_reducible rfl))
    try simp only [Act.put, Ls]
    refine rdy 2 rfl (fun K hK => ?_)
    go_simp
    go_at_call 71
    refine (sQ_any fm _ HF.out).mono ?_
    rintro r W' ⟨rfl, rfl⟩
    refine hK.out _ _ ?_ (fun hHeld => ?_)
    · exact ⟨Y.r.c0, Y.r.c1⟩
    clear hK K
    try simp only [Act.put, Ls]
    refine tk 3 ?_ rfl (Or.inl ⟨by rfl, ?_⟩) ?_
    rotate_left
    · (intro w hSw; go_simp; try (with_reducible rfl))
    try simp only [Act.put, Ls]
    refine rdy 4 rfl (fun K hK => ?_)
    have ⟨zc0, zc1, zf0, zf1⟩ := Z.r
    go_simp
    refine hK.out _ _ ?_ (fun hHeld => ?_)
    · exact ⟨((Y.r.other (p := ⟨w.heap.size, 0, none⟩) (by simp; omega) _).other (p := ⟨w.heap.size, 1, none⟩) (by simp; omega) _).c0, ((Y.r.other (p := ⟨w.heap.size, 0, none⟩) (by simp; omega) _).other (p := ⟨w.heap.size, 1, none⟩) (by simp; omega) _).c1⟩
    clear hK K
    try simp only [Act.put, Ls]
    refine rdy 5 rfl (fun K hK => ?_)
    go_simp
    refine hK.out _ _ ?_ (fun hHeld => ?_)
    · exact ⟨((Y.r.other (p := ⟨w.heap.size, 0, none⟩) (by simp; omega) _).other (p := ⟨w.heap.size, 1, none⟩) (by simp; omega) _).c0, ((Y.r.other (p := ⟨w.heap.size, 0, none⟩) (by simp; omega) _).other (p := ⟨w.heap.size, 1, none⟩) (by simp; omega) _).c1⟩
    clear hK K
    try simp only [Act.put, Ls]
    refine wpAnyH_done (by kernel_rfl) ?_ _
    have hzz : ∀ g, ay = some ⟨g, 0, none⟩ → g ≠ w.heap.size := fun g h => by have := (own_at Y.o.o g h).1; omega
    have F := WX.put (m := w.heap.size + 1) Z.r Y.o Z.lt hzz
    obtain ⟨f0, f1, -, -⟩ := F.r
    go_wp2
    exact bodyPost_ret (v := .tuple #[.agg #[.bool (Nm.wn y), .slice ay (Nm.wl y).length cy], .int .i64 _]) (by simp [results, Tryz.results63, go_sem, f0, f1]; rfl) rfl ⟨y, ay, cy, _, rfl, by omega, F.o.o.base (by omega), rd_two hr hlt _ _, grown_two' hg (Nat.le_refl _) _ _⟩
end Fd
end Go.Proofs.YtbhfbaogmkgmiaaGreatDoor
