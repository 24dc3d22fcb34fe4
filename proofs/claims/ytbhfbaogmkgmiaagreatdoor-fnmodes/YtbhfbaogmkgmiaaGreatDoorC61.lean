/-
  What is needed of DQ.
-/
import Derived.Test.YtbhfbaogmkgmiaaGreatDoorC59
set_option maxHeartbeats 16000000
set_option maxRecDepth 1000000
namespace Go.Proofs.YtbhfbaogmkgmiaaGreatDoor
set_option linter.unusedVariables false
set_option linter.unusedSimpArgs false
open Go.RowKit Go.Deep
namespace Fd
theorem bel_hurt {w W w' : World} {rb : Nat} {a : Option Addr} (h : Below w.heap.size w W) (hG : Gr2 W w' rb a) (h1 : w.heap.size ≤ rb) (h2 : ∀ g, a = some ⟨g, 0, none⟩ → w.heap.size ≤ g) : Below w.heap.size w w' :=
  ⟨hG.os.trans h.os, hG.tape.trans h.tape, hG.output.trans h.output, Nat.le_trans h.size hG.size, fun i hi => (hG.block i (Nat.lt_of_lt_of_le hi h.size) (by omega) (fun g hg => by have := h2 g hg; omega)).trans (h.block i hi)⟩
theorem mode_x (rb : Nat) (ca : Option Addr) (cc : Nat) (cs : List Int) (w : World) (hr : RD w rb ca cc cs) :
    Calls Tryz.prog 62 #[.pointer (some ⟨rb, 0, none⟩)] w fun e w' => ∃ v : Int, e = .returned (.int .i64 v) ∧ 0 ≤ v ∧ v < 6 ∧ RD w' rb ca cc cs ∧ w.grownBy w' (some rb) := by
  go_enter Tryz.func62, Tryz.ntmps62
  go_wp2_with fail
  refine (below_any rb ca cc cs 6 _ hr (by decide) (by decide)).mono ?_
  rintro e w1 ⟨v, rfl, v0, v1, hr1, hg1⟩
  go_wp2
  go_ret
  exact ⟨v, rfl, v0, v1, hr1, hg1⟩
/-- The answer of the draw. -/
def DrP (w w' : World) (e : Ending) : Prop := ∃ (fm mode : Int) (ng : Bool) (L : List Int) (a : Option Addr) (c : Nat) (x : Int), e = .returned (.tuple #[.int .i64 fm, .int .i64 mode, .agg #[.bool ng, .slice a L.length c], .int .i64 x]) ∧ fmtB fm = true ∧ L.length ≤ 2000 ∧ Nm.Dg L ∧ Sl .u32 w' (.slice a L.length c) L ∧ Below w.heap.size w w'
theorem drp_mk {w W : World} {m z : Nat} {fm mode : Int} {ng : Bool} {L : List Int} {a : Option Addr} {c : Nat} {x : Int} (hf : fmtB fm = true) (hl : L.length ≤ 2000) (hd : Nm.Dg L) (ho : Own W m a c L) (hz : z < m) (hb : Below w.heap.size w W) (hw : w.heap.size ≤ z) :
    DrP w ((W.setCell ⟨z, 0, none⟩ (.bool ng)).setCell ⟨z, 1, none⟩ (.slice a L.length c)) (.returned (.tuple #[.int .i64 fm, .int .i64 mode, .agg #[.bool ng, .slice a L.length c], .int .i64 x])) :=
  ⟨fm, mode, ng, L, a, c, x, rfl, hf, hl, hd, ((ho.setBelow (p := ⟨z, 0, none⟩) (by simpa using hz) _).setBelow (p := ⟨z, 1, none⟩) (by simpa using hz) _).sl, (hb.setCell (p := ⟨z, 0, none⟩) (by simpa using hw) _).setCell (p := ⟨z, 1, none⟩) (by simpa using hw) _⟩
theorem drawRounded_x (ca : Option Addr) (cc : Nat) (cs : List Int) (w : World) (hs : Sl .u8 w (.slice ca cs.length cc) cs) (hby : ∀ i, 0 ≤ cs.getD i 0 ∧ cs.getD i 0 ≤ 255) (hl : cs.length ≤ 1048576) :
    Calls Tryz.prog 16 #[.slice ca cs.length cc] w fun e w' => DrP w w' e := by
  go_enter Tryz.func16, Tryz.ntmps16
  go_wp2_with fail
  refine (open_any ca cc cs _ (hs.alloc _) hby hl).mono ?_
  rintro r W1 ⟨rfl, hr, hb⟩
  have hsz : (w.alloc (.cells #[.bool false, .slice none 0 0] 26)).heap.size = (w.heap.size + 1) := by simp
  rw [hsz] at hr
  have bel : Below w.heap.size w W1 := bel_go (bel_al (Below.refl _ _) (.cells #[.bool false, .slice none 0 0] 26)) hb
  have hrb : w.heap.size ≤ (w.heap.size + 1) := by omega
  have Z : WB0 W1 (w.heap.size + 1) w.heap.size := ⟨(R2.new w (.bool false) (.slice none 0 0) 26).below hb, by omega⟩
  clear hb hsz hs hby hl
  go_wp2_with fail
  refine (format_any (w.heap.size + 1) ca cc cs _ hr).mono ?_
  rintro r W2 ⟨fm, rfl, hfm, hr', hg'⟩
  replace Z := Z.rd hg'
  replace hr := hr'
  replace bel := bel_rd bel hg' hrb
  clear hr' hg'
  have HF := hid hfm
  clear hfm
  go_wp2_with fail
  refine (mode_x (w.heap.size + 1) ca cc cs _ hr).mono ?_
  rintro r W3 ⟨md, rfl, md0, md1, hr', hg'⟩
  replace Z := Z.rd hg'
  replace hr := hr'
  replace bel := bel_rd bel hg' hrb
  clear hr' hg'
  go_wp2_with fail
  refine (between_x fm HF.out (w.heap.size + 1) ca cc cs _ hr).mono ?_
  rintro r W4 ⟨x, ax, cx, ex, rfl, bx, ox, hr', hg'⟩
  replace Z := Z.rd hg'
  replace hr := hr'
  replace bel := bel_rd bel hg' hrb
  clear hr' hg'
  replace ox : WO W4 (w.heap.size + 1) ((w.heap.size + 1) + 1) x ax cx := ⟨ox, by omega⟩
  go_wp2_with fail
  obtain ⟨b1, hb1⟩ : ∃ q, q = W4.heap.size := ⟨_, rfl⟩
  have X := WX.new ox (show (w.heap.size + 1) < W4.heap.size from hr.lt) 26
  rw [← hb1] at X ⊢
  clear hb1 ox
  replace Z := Z.alloc (.cells #[.bool (Nm.wn x), .slice ax (Nm.wl x).length cx] 26)
  replace hr := hr.alloc (.cells #[.bool (Nm.wn x), .slice ax (Nm.wl x).length cx] 26)
  replace bel := bel_al bel (.cells #[.bool (Nm.wn x), .slice ax (Nm.wl x).length cx] 26)
  generalize W4.alloc (.cells #[.bool (Nm.wn x), .slice ax (Nm.wl x).length cx] 26) = W5 at Z X hr bel ⊢
  refine (below_any (w.heap.size + 1) ca cc cs 8 _ hr (by decide) (by decide)).mono ?_
  rintro r W6 ⟨k, rfl, k0, k1, hr', hg'⟩
  replace Z := Z.rd hg'
  replace X := X.rd hg'
  replace hr := hr'
  replace bel := bel_rd bel hg' hrb
  clear hr' hg'
  have hnb : X = X := rfl
  clear hnb
  rcases (show k = 0 ∨ k = 1 ∨ k = 2 ∨ k = 3 ∨ k = 4 ∨ 4 < k by omega) with rfl | rfl | rfl | rfl | rfl | hk
  · clear X
    go_wp2_with fail
    refine (off_z (w.heap.size + 1) ca cc cs 0 5 _ hr (by decide) (by decide) (by decide)).mono ?_
    rintro r W7 ⟨m2, rfl, hr', hg'⟩
    replace Z := Z.rd hg'
    replace hr := hr'
    replace bel := bel_rd bel hg' hrb
    clear hr' hg'
    go_wp2_with fail
    have lz : w.heap.size < W7.heap.size := World.block_lt_of_cell? _ _ Z.r.c0
    have lr := hr.lt
    refine (wide_any (w.heap.size + 1) ca cc cs _ hr).mono ?_
    rintro r W8 ⟨y, ay, cy, rfl, ly, oy, hr', hg'⟩
    replace Z := Z.rd hg'
    replace hr := hr'
    replace bel := bel_rd bel hg' hrb
    clear hr' hg'
    have hat := own_at oy
    go_wp2_with fail
    refine (hurt_any (w.heap.size + 1) ca cc cs (Nm.wn y) ay cy (Nm.wl y) ((w.heap.size + 1) + 1) _ hr (oy.base (by omega)) (by omega) (Nm.wl_dg y) (by omega) (by have := hr.lt; omega)).mono ?_
    rintro r W9 ⟨ng, L, a, c, rfl, hL, hd, ho, hr', hG, hwh⟩
    replace Z : WB0 W9 (w.heap.size + 1) w.heap.size := ⟨hG.r2 Z.r Z.ne (fun g h => by have := (hat g h).1; omega), Z.ne⟩
    replace bel := bel_hurt bel hG hrb (fun g h => by have := (hat g h).1; omega)
    replace hr := hr'
    clear hr' hG hwh hat oy lz lr
    go_wp2_with fail
    refine (off_z (w.heap.size + 1) ca cc cs (-10000) 10000 _ hr (by decide) (by decide) (by decide)).mono ?_
    rintro r W10 ⟨e2, rfl, hr', hg'⟩
    replace Z := Z.rd hg'
    replace ho := ho.rd hg' (by omega)
    replace bel := bel_rd bel hg' hrb
    clear hr hr' hg'
    have ⟨z0, z1, zf0, zf1⟩ := Z.r
    go_wp2
    have FZ := (R2.set Z.r (.bool (ng)) (.slice a (L).length c))
    obtain ⟨f0, f1, -, -⟩ := FZ
    refine bodyPost_ret (v := .tuple #[.int .i64 fm, .int .i64 (m2), .agg #[.bool (ng), .slice a (L).length c], .int .i64 (e2)]) (by simp [results, Tryz.results16, go_sem, f0, f1]) rfl (drp_mk (m := (w.heap.size + 1) + 1) (z := w.heap.size) HF.out (hL) (hd) (ho) (by omega) bel (Nat.le_refl _))
  · clear X
    go_wp2_with fail
    have lr0 := hr.lt
    refine (wide_any (w.heap.size + 1) ca cc cs _ hr).mono ?_
    rintro r W7 ⟨y, ay, cy, rfl, ly, oy, hr', hg'⟩
    replace Z := Z.rd hg'
    replace hr := hr'
    replace bel := bel_rd bel hg' hrb
    clear hr' hg'
    replace oy : WO W7 (w.heap.size + 1) ((w.heap.size + 1) + 1) y ay cy := ⟨oy.base (by have := lr0; omega), by omega⟩
    go_wp2_with fail
    refine (below_any (w.heap.size + 1) ca cc cs 400 _ hr (by decide) (by decide)).mono ?_
    rintro r W8 ⟨e2, rfl, e0, e1, hr', hg'⟩
    replace Z := Z.rd hg'
    replace oy := oy.rd hg'
    replace hr := hr'
    replace bel := bel_rd bel hg' hrb
    clear hr' hg'
    have ⟨z0, z1, zf0, zf1⟩ := Z.r
    go_wp2
    have FZ := (R2.set Z.r (.bool (Nm.wn y)) (.slice ay (Nm.wl y).length cy))
    obtain ⟨f0, f1, -, -⟩ := FZ
    refine bodyPost_ret (v := .tuple #[.int .i64 fm, .int .i64 (md), .agg #[.bool (Nm.wn y), .slice ay (Nm.wl y).length cy], .int .i64 (e2 - 200)]) (by simp [results, Tryz.results16, go_sem, f0, f1]) rfl (drp_mk (m := (w.heap.size + 1) + 1) (z := w.heap.size) HF.out (by omega) (Nm.wl_dg y) (oy.o) (by omega) bel (Nat.le_refl _))
  · clear X
    go_wp2_with fail
    have lr0 := hr.lt
    refine (wide_any (w.heap.size + 1) ca cc cs _ hr).mono ?_
    rintro r W7 ⟨y, ay, cy, rfl, ly, oy, hr', hg'⟩
    replace Z := Z.rd hg'
    replace hr := hr'
    replace bel := bel_rd bel hg' hrb
    clear hr' hg'
    replace oy : WO W7 (w.heap.size + 1) ((w.heap.size + 1) + 1) y ay cy := ⟨oy.base (by have := lr0; omega), by omega⟩
    go_wp2_with fail
    refine (below_any (w.heap.size + 1) ca cc cs 400 _ hr (by decide) (by decide)).mono ?_
    rintro r W8 ⟨e2, rfl, e0, e1, hr', hg'⟩
    replace Z := Z.rd hg'
    replace oy := oy.rd hg'
    replace hr := hr'
    replace bel := bel_rd bel hg' hrb
    clear hr' hg'
    have ⟨z0, z1, zf0, zf1⟩ := Z.r
    go_wp2
    have FZ := (R2.set Z.r (.bool (Nm.wn y)) (.slice ay (Nm.wl y).length cy))
    obtain ⟨f0, f1, -, -⟩ := FZ
    refine bodyPost_ret (v := .tuple #[.int .i64 fm, .int .i64 (md), .agg #[.bool (Nm.wn y), .slice ay (Nm.wl y).length cy], .int .i64 (e2 - 200)]) (by simp [results, Tryz.results16, go_sem, f0, f1]) rfl (drp_mk (m := (w.heap.size + 1) + 1) (z := w.heap.size) HF.out (by omega) (Nm.wl_dg y) (oy.o) (by omega) bel (Nat.le_refl _))
  · clear X
    go_wp2_with fail
    refine (below_any (w.heap.size + 1) ca cc cs 3 _ hr (by decide) (by decide)).mono ?_
    rintro r W7 ⟨v, rfl, v0, v1, hr', hg'⟩
    replace Z := Z.rd hg'
    replace hr := hr'
    replace bel := bel_rd bel hg' hrb
    clear hr' hg'
    go_wp2_with fail
    refine (of_x _ _ (by omega) (by omega)).mono ?_
    rintro r W8 ⟨y, ay, cy, rfl, yb, oy, hb⟩
    replace Z := Z.below hb
    have lw := hr.lt
    replace hr := hr.below hb
    replace bel := bel_go bel hb
    clear hb
    replace oy := WO.of (rb := (w.heap.size + 1)) (m := (w.heap.size + 1) + 1) oy (by omega) (by omega)
    go_wp2_with fail
    refine (shift_x y ay cy 60 _ oy.sl 20 yb (by decide) (by decide) (by decide)).mono ?_
    rintro r W9 ⟨p, ap, cp, rfl, bp, op, hb⟩
    replace Z := Z.below hb
    replace oy := oy.below hb
    have lw := hr.lt
    replace hr := hr.below hb
    replace bel := bel_go bel hb
    clear hb
    replace op := WO.of (rb := (w.heap.size + 1)) (m := (w.heap.size + 1) + 1) op (by omega) (by omega)
    go_wp2_with fail
    refine (below_any (w.heap.size + 1) ca cc cs 5 _ hr (by decide) (by decide)).mono ?_
    rintro r W10 ⟨v2, rfl, u0, u1, hr', hg'⟩
    replace Z := Z.rd hg'
    replace oy := oy.rd hg'
    replace op := op.rd hg'
    replace hr := hr'
    replace bel := bel_rd bel hg' hrb
    clear hr' hg'
    go_wp2_with fail
    refine (of_x _ _ (by omega) (by omega)).mono ?_
    rintro r W11 ⟨q, aq, cq, rfl, bq, oq, hb⟩
    replace Z := Z.below hb
    replace oy := oy.below hb
    replace op := op.below hb
    have lw := hr.lt
    replace hr := hr.below hb
    replace bel := bel_go bel hb
    clear hb
    replace oq := WO.of (rb := (w.heap.size + 1)) (m := (w.heap.size + 1) + 1) oq (by omega) (by omega)
    go_wp2_with fail
    refine (add_x p q ap aq cp cq _ op.sl oq.sl 80 bp (by omega) (by decide)).mono ?_
    rintro r W12 ⟨z, az, cz, rfl, bz, oz, hb⟩
    replace Z := Z.below hb
    replace oy := oy.below hb
    replace op := op.below hb
    replace oq := oq.below hb
    have lw := hr.lt
    replace hr := hr.below hb
    replace bel := bel_go bel hb
    clear hb
    replace oz := WO.of (rb := (w.heap.size + 1)) (m := (w.heap.size + 1) + 1) oz (by omega) (by omega)
    go_wp2_with fail
    refine (sQ_any fm _ HF.out).mono ?_
    rintro r W' ⟨rfl, rfl⟩
    have hQ : -1074 ≤ unQ fm ∧ unQ fm ≤ -149 := by unfold unQ; split <;> omega
    obtain ⟨Q, eQ⟩ : ∃ q, q = unQ fm := ⟨_, rfl⟩
    rw [← eQ] at hQ ⊢
    clear eQ
    go_wp2_with fail
    refine (below_any (w.heap.size + 1) ca cc cs 130 _ hr (by decide) (by decide)).mono ?_
    rintro r W13 ⟨v3, rfl, t0, t1, hr', hg'⟩
    replace Z := Z.rd hg'
    replace oy := oy.rd hg'
    replace op := op.rd hg'
    replace oq := oq.rd hg'
    replace oz := oz.rd hg'
    replace hr := hr'
    replace bel := bel_rd bel hg' hrb
    clear hr' hg'
    have ⟨z0, z1, zf0, zf1⟩ := Z.r
    go_wp2
    have FZ := (R2.set Z.r (.bool (Nm.wn z)) (.slice az (Nm.wl z).length cz))
    obtain ⟨f0, f1, -, -⟩ := FZ
    refine bodyPost_ret (v := .tuple #[.int .i64 fm, .int .i64 (md), .agg #[.bool (Nm.wn z), .slice az (Nm.wl z).length cz], .int .i64 (Q + v3 - 120)]) (by simp [results, Tryz.results16, go_sem, f0, f1]) rfl (drp_mk (m := (w.heap.size + 1) + 1) (z := w.heap.size) HF.out (by have := wl_k (x := z) (k := 2000) (by omega); omega) (Nm.wl_dg z) (oz.o) (by omega) bel (Nat.le_refl _))
  · clear X
    go_wp2_with fail
    refine (once_any (w.heap.size + 1) ca cc cs 2 _ hr (by decide) (by decide)).mono ?_
    rintro r W7 ⟨sg, rfl, hr', hg'⟩
    replace Z := Z.rd hg'
    replace hr := hr'
    replace bel := bel_rd bel hg' hrb
    clear hr' hg'
    go_wp2_with fail
    refine (great_x fm HF.out sg _).mono ?_
    rintro r W8 ⟨g, rfl, g0, g1, gf, hb⟩
    replace Z := Z.below hb
    have lw := hr.lt
    replace hr := hr.below hb
    replace bel := bel_go bel hb
    clear hb
    go_wp2_with fail
    refine (unit_x fm g _ gf g0 g1).mono ?_
    rintro r W9 ⟨u, au, cu, rfl, bu, ou, hb⟩
    replace Z := Z.below hb
    have lw := hr.lt
    replace hr := hr.below hb
    replace bel := bel_go bel hb
    clear hb
    replace ou := WO.of (rb := (w.heap.size + 1)) (m := (w.heap.size + 1) + 1) ou (by omega) (by omega)
    go_wp2_with fail
    refine (shift_x u au cu 2 _ ou.sl 2200 bu (by decide) (by decide) (by decide)).mono ?_
    rintro r W10 ⟨p, ap, cp, rfl, bp, op, hb⟩
    replace Z := Z.below hb
    replace ou := ou.below hb
    have lw := hr.lt
    replace hr := hr.below hb
    replace bel := bel_go bel hb
    clear hb
    replace op := WO.of (rb := (w.heap.size + 1)) (m := (w.heap.size + 1) + 1) op (by omega) (by omega)
    clear ou
    go_upto_region 22 with fail
    obtain ⟨b5, hb5⟩ : ∃ q, q = W10.heap.size := ⟨_, rfl⟩
    have P := WX.new op (show (w.heap.size + 1) < W10.heap.size from hr.lt) 26
    rw [← hb5] at P ⊢
    clear hb5 op
    replace Z := Z.alloc (.cells #[.bool (Nm.wn p), .slice ap (Nm.wl p).length cp] 26)
    replace hr := hr.alloc (.cells #[.bool (Nm.wn p), .slice ap (Nm.wl p).length cp] 26)
    replace bel := bel_al bel (.cells #[.bool (Nm.wn p), .slice ap (Nm.wl p).length cp] 26)
    generalize W10.alloc (.cells #[.bool (Nm.wn p), .slice ap (Nm.wl p).length cp] 26) = W11 at Z P hr bel ⊢
    replace Z := Z.drew 
    replace P := P.drew 
    replace hr := hr.drew
    replace bel := Below.drew bel
    refine wp_region_held_drew (S := fun w' => w'.cell? ⟨b5, 0, none⟩ = some (.bool (Nm.wn p)) ∧ w'.cell? ⟨b5, 1, none⟩ = some (.slice ap (Nm.wl p).length cp)) (by kernel_rfl) ?_ (fun hHeld => ?_)
    · exact ⟨P.r.c0, P.r.c1⟩
    generalize W11.drew = W12 at Z P hr bel hHeld ⊢
    refine tk 0 ?_ rfl (Or.inl ⟨by rfl, ?_⟩) ?_
    rotate_left
    · (intro w hSw; go_simp; try (with_reducible rfl))
    try simp only [Act.put, Ls]
    refine tk 1 ?_ rfl (Or.inl ⟨by rfl, ?_⟩) ?_
    rotate_left
    · (intro w hSw; go_simp; try (with_reducible rfl))
    try simp only [Act.put, Ls]
    refine tk 2 ?_ rfl (Or.inl ⟨by rfl, ?_⟩) ?_
    rotate_left
    · (intro w hSw; (try dsimp only at hSw); obtain ⟨hS0, hS1⟩ := hSw; go_simp; try (with_reducible rfl))
    try simp only [Act.put, Ls]
    refine tk 3 ?_ rfl (Or.inl ⟨by rfl, ?_⟩) ?_
    rotate_left
    · (intro w hSw; go_simp; try (with_reducible rfl))
    try simp only [Act.put, Ls]
    refine tk 7 ?_ rfl (Or.inl ⟨by rfl, ?_⟩) ?_
    rotate_left
    · (intro w hSw; (try dsimp only at hSw); obtain ⟨hS0, hS1⟩ := hSw; go_simp; try (with_reducible rfl))
    try simp only [Act.put, Ls]
    refine tk 9 ?_ rfl (Or.inl ⟨by rfl, ?_⟩) ?_
    rotate_left
    · (intro w hSw; go_simp; try (with_reducible rfl))
    try simp only [Act.put, Ls]
    refine tk 15 ?_ rfl (Or.inl ⟨by rfl, ?_⟩) ?_
    rotate_left
    · (intro w hSw; go_simp; try (with_reducible rfl))
    try simp only [Act.put, Ls]
    refine rdy 4 rfl (fun K hK => ?_)
    go_simp
    go_at_call 64
    refine (below_any (w.heap.size + 1) ca cc cs 9 _ hr (by decide) (by decide)).mono ?_
    rintro r W13 ⟨v, rfl, v0, v1, hr', hg'⟩
    replace Z := Z.rd hg'
    replace P := P.rd hg'
    replace hr := hr'
    replace bel := bel_rd bel hg' hrb
    clear hr' hg'
    refine hK.out _ _ ?_ (fun hHeld => ?_)
    · exact ⟨P.r.c0, P.r.c1⟩
    clear hK K
    try simp only [Act.put, Ls]
    refine tk 5 ?_ rfl (Or.inl ⟨by rfl, ?_⟩) ?_
    rotate_left
    · (intro w hSw; go_simp; try (with_reducible rfl))
    try simp only [Act.put, Ls]
    refine rdy 6 rfl (fun K hK => ?_)
    go_simp
    go_at_call 70
    refine (of_x _ _ (by first | omega | (rw [IntKind.wrap_i64]; omega)) (by first | omega | (rw [IntKind.wrap_i64]; omega))).mono ?_
    rintro r W14 ⟨y, ay, cy, rfl, yb, oy, hb⟩
    replace Z := Z.below hb
    replace P := P.below hb
    have lw := hr.lt
    replace hr := hr.below hb
    replace bel := bel_go bel hb
    clear hb
    replace oy := WO.of (rb := (w.heap.size + 1)) (m := (w.heap.size + 1) + 1) oy (by omega) (by omega)
    refine hK.out _ _ ?_ (fun hHeld => ?_)
    · exact ⟨P.r.c0, P.r.c1⟩
    clear hK K
    try simp only [Act.put, Ls]
    refine rdy 8 rfl (fun K hK => ?_)
    go_simp
    go_at_call 75
    refine (bits_x p ap cp _ P.sl 2202 bp (by decide)).mono ?_
    rintro r W15 ⟨n, rfl, n0, n1, hb⟩
    replace Z := Z.below hb
    replace P := P.below hb
    replace oy := oy.below hb
    have lw := hr.lt
    replace hr := hr.below hb
    replace bel := bel_go bel hb
    clear hb
    refine hK.out _ _ ?_ (fun hHeld => ?_)
    · exact ⟨P.r.c0, P.r.c1⟩
    clear hK K
    try simp only [Act.put, Ls]
    refine rdy 10 rfl (fun K hK => ?_)
    go_simp
    go_at_call 76
    refine (p_x fm HF.out _).mono ?_
    rintro r W16 ⟨pp, rfl, pp0, pp1, hb⟩
    replace Z := Z.below hb
    replace P := P.below hb
    replace oy := oy.below hb
    have lw := hr.lt
    replace hr := hr.below hb
    replace bel := bel_go bel hb
    clear hb
    refine hK.out _ _ ?_ (fun hHeld => ?_)
    · exact ⟨P.r.c0, P.r.c1⟩
    clear hK K
    try simp only [Act.put, Ls]
    refine tk 11 ?_ rfl (Or.inl ⟨by rfl, ?_⟩) ?_
    rotate_left
    · (intro w hSw; go_simp; try (with_reducible rfl))
    try simp only [Act.put, Ls]
    refine tk 12 ?_ rfl (Or.inl ⟨by rfl, ?_⟩) ?_
    rotate_left
    · (intro w hSw; go_simp; try (with_reducible rfl))
    try simp only [Act.put, Ls]
    refine rdy 13 rfl (fun K hK => ?_)
    go_simp
    go_at_call 69
    refine (shift_x y ay cy _ _ oy.sl 20 yb (by decide) (by first | omega | (simp only [IntKind.wrap_i64]; omega)) (by first | omega | (simp only [IntKind.wrap_i64]; omega))).mono ?_
    rintro r W17 ⟨s, as', cs', rfl, bs, os, hb⟩
    replace Z := Z.below hb
    replace P := P.below hb
    replace oy := oy.below hb
    have lw := hr.lt
    replace hr := hr.below hb
    replace bel := bel_go bel hb
    clear hb
    replace os := WO.of (rb := (w.heap.size + 1)) (m := (w.heap.size + 1) + 1) os (by omega) (by omega)
    have hbs : bitLen s.natAbs ≤ 3000 := by first | (simp only [IntKind.wrap_i64] at bs; omega) | omega
    refine hK.out _ _ ?_ (fun hHeld => ?_)
    · exact ⟨P.r.c0, P.r.c1⟩
    clear hK K
    try simp only [Act.put, Ls]
    refine rdy 14 rfl (fun K hK => ?_)
    go_simp
    go_at_call 68
    refine (add_x p s ap as' cp cs' _ P.sl os.sl 3000 (by omega) hbs (by decide)).mono ?_
    rintro r W18 ⟨z, az, cz, rfl, bz, oz, hb⟩
    replace Z := Z.below hb
    replace P := P.below hb
    replace oy := oy.below hb
    replace os := os.below hb
    have lw := hr.lt
    replace hr := hr.below hb
    replace bel := bel_go bel hb
    clear hb
    replace oz := WO.of (rb := (w.heap.size + 1)) (m := (w.heap.size + 1) + 1) oz (by omega) (by omega)
    refine hK.out _ _ ?_ (fun hHeld => ?_)
    · exact ⟨P.r.c0, P.r.c1⟩
    clear hK K
    try simp only [Act.put, Ls]
    refine rdy 16 rfl (fun K hK => ?_)
    go_simp
    go_at_call 71
    refine (sQ_any fm _ HF.out).mono ?_
    rintro r W' ⟨rfl, rfl⟩
    refine hK.out _ _ ?_ (fun hHeld => ?_)
    · exact ⟨P.r.c0, P.r.c1⟩
    clear hK K
    try simp only [Act.put, Ls]
    refine tk 17 ?_ rfl (Or.inl ⟨by rfl, ?_⟩) ?_
    rotate_left
    · (intro w hSw; go_simp; try (with_reducible rfl))
    try simp only [Act.put, Ls]
    refine rdy 18 rfl (fun K hK => ?_)
    go_simp
    refine hK.out _ _ ?_ (fun hHeld => ?_)
    · exact ⟨P.r.c0, P.r.c1⟩
    clear hK K
    try simp only [Act.put, Ls]
    refine rdy 19 rfl (fun K hK => ?_)
    go_simp
    refine hK.out _ _ ?_ (fun hHeld => ?_)
    · exact ⟨P.r.c0, P.r.c1⟩
    clear hK K
    try simp only [Act.put, Ls]
    refine rdy 20 rfl (fun K hK => ?_)
    have ⟨z0, z1, zf0, zf1⟩ := Z.r
    have hPb := P.lt
    go_simp
    refine hK.out _ _ ?_ (fun hHeld => ?_)
    · exact ⟨((P.r.other (p := ⟨w.heap.size, 0, none⟩) (by simp; omega) _).other (p := ⟨w.heap.size, 1, none⟩) (by simp; omega) _).c0, ((P.r.other (p := ⟨w.heap.size, 0, none⟩) (by simp; omega) _).other (p := ⟨w.heap.size, 1, none⟩) (by simp; omega) _).c1⟩
    clear hK K
    try simp only [Act.put, Ls]
    refine rdy 21 rfl (fun K hK => ?_)
    go_simp
    refine hK.out _ _ ?_ (fun hHeld => ?_)
    · exact ⟨((P.r.other (p := ⟨w.heap.size, 0, none⟩) (by simp; omega) _).other (p := ⟨w.heap.size, 1, none⟩) (by simp; omega) _).c0, ((P.r.other (p := ⟨w.heap.size, 0, none⟩) (by simp; omega) _).other (p := ⟨w.heap.size, 1, none⟩) (by simp; omega) _).c1⟩
    clear hK K
    try simp only [Act.put, Ls]
    refine wpAnyH_done (by kernel_rfl) ?_ _
    go_wp2
    have FZ := (R2.set Z.r (.bool (Nm.wn z)) (.slice az (Nm.wl z).length cz))
    obtain ⟨f0, f1, -, -⟩ := FZ
    refine bodyPost_ret (v := .tuple #[.int .i64 fm, .int .i64 (md), .agg #[.bool (Nm.wn z), .slice az (Nm.wl z).length cz], .int .i64 (IntKind.i64.wrap (unQ fm - 2))]) (by simp [results, Tryz.results16, go_sem, f0, f1]) rfl (drp_mk (m := (w.heap.size + 1) + 1) (z := w.heap.size) HF.out (by have := wl_k (x := z) (k := 2000) (by omega); omega) (Nm.wl_dg z) (oz.o) (by omega) bel (Nat.le_refl _))
  · have e0 : (k == 0) = false := by rw [beq_eq_false_iff_ne]; omega
    have e1 : (k == 1) = false := by rw [beq_eq_false_iff_ne]; omega
    have e2 : (k == 2) = false := by rw [beq_eq_false_iff_ne]; omega
    have e3 : (k == 3) = false := by rw [beq_eq_false_iff_ne]; omega
    have e4 : (k == 4) = false := by rw [beq_eq_false_iff_ne]; omega
    go_upto_region 16 with fail
    replace Z := Z.drew 
    replace X := X.drew 
    replace hr := hr.drew
    replace bel := Below.drew bel
    refine wp_region_held_drew (S := fun w' => w'.cell? ⟨b1, 0, none⟩ = some (.bool (Nm.wn x)) ∧ w'.cell? ⟨b1, 1, none⟩ = some (.slice ax (Nm.wl x).length cx)) (by kernel_rfl) ?_ (fun hHeld => ?_)
    · exact ⟨X.r.c0, X.r.c1⟩
    generalize W6.drew = W7 at Z X hr bel hHeld ⊢
    have hXb := X.lt
    refine tk 0 ?_ rfl (Or.inl ⟨by rfl, ?_⟩) ?_
    rotate_left
    · (intro w hSw; go_simp; try (with_reducible rfl))
    try simp only [Act.put, Ls]
    refine tk 1 ?_ rfl (Or.inl ⟨by rfl, ?_⟩) ?_
    rotate_left
    · (intro w hSw; go_simp; try (with_reducible rfl))
    try simp only [Act.put, Ls]
    refine tk 2 ?_ rfl (Or.inl ⟨by rfl, ?_⟩) ?_
    rotate_left
    · (intro w hSw; (try dsimp only at hSw); obtain ⟨hS0, hS1⟩ := hSw; go_simp; try (with_reducible rfl))
    try simp only [Act.put, Ls]
    refine tk 3 ?_ rfl (Or.inl ⟨by rfl, ?_⟩) ?_
    rotate_left
    · (intro w hSw; go_simp; try (with_reducible rfl))
    try simp only [Act.put, Ls]
    refine rdy 4 rfl (fun K hK => ?_)
    go_simp
    refine hK.out _ _ ?_ (fun hHeld => ?_)
    · exact ⟨X.r.c0, X.r.c1⟩
    clear hK K
    try simp only [Act.put, Ls]
    refine rdy 5 rfl (fun K hK => ?_)
    go_simp
    refine hK.out _ _ ?_ (fun hHeld => ?_)
    · exact ⟨X.r.c0, X.r.c1⟩
    clear hK K
    try simp only [Act.put, Ls]
    refine rdy 6 rfl (fun K hK => ?_)
    have ⟨z0, z1, zf0, zf1⟩ := Z.r
    go_simp
    refine hK.out _ _ ?_ (fun hHeld => ?_)
    · exact ⟨((X.r.other (p := ⟨w.heap.size, 0, none⟩) (by simp; omega) _).other (p := ⟨w.heap.size, 1, none⟩) (by simp; omega) _).c0, ((X.r.other (p := ⟨w.heap.size, 0, none⟩) (by simp; omega) _).other (p := ⟨w.heap.size, 1, none⟩) (by simp; omega) _).c1⟩
    clear hK K
    try simp only [Act.put, Ls]
    refine rdy 7 rfl (fun K hK => ?_)
    go_simp
    refine hK.out _ _ ?_ (fun hHeld => ?_)
    · exact ⟨((X.r.other (p := ⟨w.heap.size, 0, none⟩) (by simp; omega) _).other (p := ⟨w.heap.size, 1, none⟩) (by simp; omega) _).c0, ((X.r.other (p := ⟨w.heap.size, 0, none⟩) (by simp; omega) _).other (p := ⟨w.heap.size, 1, none⟩) (by simp; omega) _).c1⟩
    clear hK K
    try simp only [Act.put, Ls]
    refine wpAnyH_done (by kernel_rfl) ?_ _
    go_wp2
    have FZ := (R2.set Z.r (.bool (Nm.wn x)) (.slice ax (Nm.wl x).length cx))
    obtain ⟨f0, f1, -, -⟩ := FZ
    refine bodyPost_ret (v := .tuple #[.int .i64 fm, .int .i64 (md), .agg #[.bool (Nm.wn x), .slice ax (Nm.wl x).length cx], .int .i64 (ex)]) (by simp [results, Tryz.results16, go_sem, f0, f1]) rfl (drp_mk (m := (w.heap.size + 1) + 1) (z := w.heap.size) HF.out (by have := wl_k (x := x) (k := 2000) (by omega); omega) (Nm.wl_dg x) (X.o.o) (by omega) bel (Nat.le_refl _))
end Fd
end Go.Proofs.YtbhfbaogmkgmiaaGreatDoor
