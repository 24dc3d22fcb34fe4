/-
  What is needed of WJ.
-/
import Derived.Test.YtbhfbaogmkgmiaaGreatDoorC38
import Derived.Test.YtbhfbaogmkgmiaaGreatDoorC62
set_option maxHeartbeats 16000000
set_option maxRecDepth 1000000
namespace Go.Proofs.YtbhfbaogmkgmiaaGreatDoor
set_option linter.unusedVariables false
set_option linter.unusedSimpArgs false
open Go.RowKit Go.Deep
namespace Fd
theorem offD_bl {fm x z e : Int} (hq : -1074 ≤ unQ fm ∧ unQ fm ≤ 0) (hz : bitLen z.natAbs ≤ 1920) (e0 : -2500 ≤ e) (e1 : e ≤ 1200) :
    bitLen (unI fm x * 2 ^ (unQ fm - min e (unQ fm)).toNat).natAbs ≤ 4700 ∧ bitLen (z * 2 ^ (e - min e (unQ fm)).toNat).natAbs ≤ 4700 ∧ bitLen (offD fm x z e).natAbs ≤ 4701 := by
  have h1 := bl_shl (unI fm x) (unQ fm - min e (unQ fm)).toNat
  have h2 := bl_shl z (e - min e (unQ fm)).toNat
  have h3 := un_bl fm x
  have a : bitLen (unI fm x * 2 ^ (unQ fm - min e (unQ fm)).toNat).natAbs ≤ 4700 := by omega
  have b : bitLen (z * 2 ^ (e - min e (unQ fm)).toNat).natAbs ≤ 4700 := by omega
  exact ⟨a, b, bl_sub a b⟩
theorem bl_len {z : Int} {k : Nat} (h : (Nm.wl z).length ≤ k) : bitLen z.natAbs ≤ 32 * k := by
  rw [Nm.bl_le_iff]
  have h1 : Nm.lim z.natAbs = Nm.wl z := rfl
  rw [← h1, Nm.lim_length] at h
  have h2 : ∀ k : Nat, Nm.pw k = ((2 ^ (32 * k) : Nat) : Int) := fun k => by
    induction k with
    | zero => rfl
    | succ n ih => rw [Nm.pw, ih, Nat.mul_add, Nat.pow_add]; omega
  have h3 := h2 k
  omega
/-- What is told of a distance. -/
def OffP (fm x z e : Int) (w w' : World) (r : Ending) : Prop := ∃ (D : Int) (O : Bool) (a' : Option Addr) (c' : Nat), r = .returned (.tuple #[.agg #[.bool (Nm.wn D), .slice a' (Nm.wl D).length c'], .bool O]) ∧ (O = true → finB fm x = true ∧ D = offD fm x z e) ∧ bitLen D.natAbs ≤ 4701 ∧ Sl .u32 w' (.slice a' (Nm.wl D).length c') (Nm.wl D) ∧ Below w.heap.size w w'
/-- How far a float is from z times 2 to the e, where that is told. -/
theorem off_32 (x z e : Int) (p : Option Addr) (c : Nat) (w : World) (hT : Tab w) (x0 : 0 ≤ x) (x1 : x < 18446744073709551616) (hl : (Nm.wl z).length ≤ 200) (hs : Sl .u32 w (.slice p (Nm.wl z).length c) (Nm.wl z)) (e0 : -10000 ≤ e) (e1 : e ≤ 10000) :
    Calls Tryz.prog 19 #[.int .i64 32, .int .u64 x, .agg #[.bool (Nm.wn z), .slice p (Nm.wl z).length c], .int .i64 e] w fun r w' => OffP 32 x z e w w' r := by
  have UX := hid (fun w' h => units_impl 32 x w' h x0 x1)
  unfold Ans at UX
  have UN := hid (fun w' => unit32 w')
  have b1 := hid (offD_bl (fm := 32) (x := x) (z := z) (e := e) (by decide))
  have HZ := hid (bl_len (z := z) (k := 60))
  have NO : Hid (∀ (w' : World), Below w.heap.size w w' → OffP 32 x z e w w' (.returned (.tuple #[.agg #[.bool false, .slice none 0 0], .bool false]))) := hid (fun w' hb => ⟨0, false, none, 0, by rw [wl_zero, wn_zero]; rfl, fun h => absurd h (by decide), by decide, by rw [wl_zero]; exact Sl.nil _ _, hb⟩)
  have HL := hid hl
  have hlt : decide ((Nm.wl z).length < 61) = decide ((Nm.wl z).length ≤ 60) := by rw [Bool.eq_iff_iff]; simp only [decide_eq_true_eq]; omega
  clear hlt
  obtain ⟨fx, hfx⟩ : ∃ g, g = finB 32 x := ⟨_, rfl⟩
  rw [← hfx] at UX
  have HF := hid hfx
  clear hfx x0 x1
  -- the ways on which nothing is told
  by_cases hno : fx = false ∨ e < -2500 ∨ 1200 < e ∨ 60 < (Nm.wl z).length
  · obtain ⟨gx, hgx⟩ : ∃ g, g = Nm.wn (unI 32 x) := ⟨_, rfl⟩
    obtain ⟨X, hX⟩ : ∃ g, g = Nm.wl (unI 32 x) := ⟨_, rfl⟩
    rw [← hgx, ← hX] at UX
    obtain ⟨gz, hgz⟩ : ∃ g, g = Nm.wn z := ⟨_, rfl⟩
    obtain ⟨Z, hZ⟩ : ∃ g, g = Nm.wl z := ⟨_, rfl⟩
    rw [← hgz, ← hZ]
    rw [← hZ] at hs hno
    clear hgx hX hgz hZ HF HL HZ b1 hl
    have bel := Below.refl w.heap.size w
    go_enter Tryz.func19, Tryz.ntmps19
    replace hT := hT.below (al_b _ (.cells #[.bool gz, .slice p Z.length c] 26))
    replace hs := hs.below (al_b _ (.cells #[.bool gz, .slice p Z.length c] 26))
    replace bel := bel_al bel (.cells #[.bool gz, .slice p Z.length c] 26)
    have Bw := R2.new w (.bool gz) (.slice p Z.length c) 26
    replace hT := hT.below (al_b _ (.cells #[.bool false, .slice none 0 0] 26))
    replace hs := hs.below (al_b _ (.cells #[.bool false, .slice none 0 0] 26))
    replace Bw := Bw.below (al_b _ (.cells #[.bool false, .slice none 0 0] 26))
    replace bel := bel_al bel (.cells #[.bool false, .slice none 0 0] 26)
    have Br := R2.new (w.alloc (.cells #[.bool gz, .slice p Z.length c] 26)) (.bool false) (.slice none 0 0) 26
    have hsz : (w.alloc (.cells #[.bool gz, .slice p Z.length c] 26)).heap.size = w.heap.size + 1 := by simp
    rw [hsz] at Br
    clear hsz
    obtain ⟨kw0, kw1, -, -⟩ := id Bw
    obtain ⟨kr0, kr1, -, -⟩ := id Br
    go_wp2_with fail
    refine (UN.out _).mono ?_
    rintro r w1 ⟨rfl, hb⟩
    clear kw0 kw1 kr0 kr1
    replace bel := bel_go bel hb
    replace hT := hT.below hb
    replace hs := hs.below hb
    replace Bw := Bw.below hb
    replace Br := Br.below hb
    clear hb
    obtain ⟨kw0, kw1, -, -⟩ := id Bw
    obtain ⟨kr0, kr1, -, -⟩ := id Br
    go_wp2_with fail
    refine (UX.out _ hT).mono ?_
    rintro r w2 ⟨ax, cx, rfl, ox, hb⟩
    clear kw0 kw1 kr0 kr1
    replace bel := bel_go bel hb
    replace hT := hT.below hb
    replace hs := hs.below hb
    replace Bw := Bw.below hb
    replace Br := Br.below hb
    clear hb
    have sx := ox.sl
    clear ox
    replace hT := hT.below (al_b _ (.cells #[.bool gx, .slice ax X.length cx] 26))
    replace hs := hs.below (al_b _ (.cells #[.bool gx, .slice ax X.length cx] 26))
    replace Bw := Bw.below (al_b _ (.cells #[.bool gx, .slice ax X.length cx] 26))
    replace Br := Br.below (al_b _ (.cells #[.bool gx, .slice ax X.length cx] 26))
    replace sx := sx.below (al_b _ (.cells #[.bool gx, .slice ax X.length cx] 26))
    replace bel := bel_al bel (.cells #[.bool gx, .slice ax X.length cx] 26)
    have Bu := R2.new w2 (.bool gx) (.slice ax X.length cx) 26
    go_upto_region 3 with fail
    generalize hWW : w2.alloc (.cells #[.bool gx, .slice ax X.length cx] 26) = W1 at bel hs hT Bw Br Bu sx ⊢
    clear hWW
    go_cut [13] (fun s wx => (∃ low : Int, s = .int .i64 low) ∧ wx = W1)
    case first =>
      by_cases hc : e < (-149)
      all_goals go_wp2_with fail
      all_goals go_meet
      all_goals exact ⟨⟨_, rfl⟩, rfl⟩
    case rest =>
    obtain ⟨⟨low, rfl⟩, rfl⟩ := hcut
    cases fx
    · obtain ⟨kw0, kw1, -, -⟩ := id Bw
      obtain ⟨kr0, kr1, -, -⟩ := id Br
      obtain ⟨ku0, ku1, -, -⟩ := id Bu
      obtain ⟨-, -, lr0, lr1⟩ := id Br
      go_wp2
      refine bodyPost_ret (v := .tuple #[.agg #[.bool false, .slice none 0 0], .bool false]) (by simp [results, Tryz.results19, go_sem, kw0, kw1, kr0, kr1, ku0, ku1, lr0, lr1]) rfl (NO.out _ ((bel.setCell (by simp) _).setCell (by simp) _))
    · have hno' : e < -2500 ∨ 1200 < e ∨ 60 < Z.length := by simpa using hno
      clear hno
      by_cases h1 : e < -2500
      · clear hno'
        obtain ⟨kw0, kw1, -, -⟩ := id Bw
        obtain ⟨kr0, kr1, -, -⟩ := id Br
        obtain ⟨ku0, ku1, -, -⟩ := id Bu
        obtain ⟨-, -, lr0, lr1⟩ := id Br
        go_wp2
        refine bodyPost_ret (v := .tuple #[.agg #[.bool false, .slice none 0 0], .bool false]) (by simp [results, Tryz.results19, go_sem, kw0, kw1, kr0, kr1, ku0, ku1, lr0, lr1]) rfl (NO.out _ ((bel.setCell (by simp) _).setCell (by simp) _))
      · by_cases h2 : 1200 < e
        · clear hno'
          obtain ⟨kw0, kw1, -, -⟩ := id Bw
          obtain ⟨kr0, kr1, -, -⟩ := id Br
          obtain ⟨ku0, ku1, -, -⟩ := id Bu
          obtain ⟨-, -, lr0, lr1⟩ := id Br
          go_wp2
          refine bodyPost_ret (v := .tuple #[.agg #[.bool false, .slice none 0 0], .bool false]) (by simp [results, Tryz.results19, go_sem, kw0, kw1, kr0, kr1, ku0, ku1, lr0, lr1]) rfl (NO.out _ ((bel.setCell (by simp) _).setCell (by simp) _))
        · have h3 : 60 < Z.length := by omega
          clear hno'
          obtain ⟨kw0, kw1, -, -⟩ := id Bw
          obtain ⟨kr0, kr1, -, -⟩ := id Br
          obtain ⟨ku0, ku1, -, -⟩ := id Bu
          obtain ⟨-, -, lr0, lr1⟩ := id Br
          go_wp2
          refine bodyPost_ret (v := .tuple #[.agg #[.bool false, .slice none 0 0], .bool false]) (by simp [results, Tryz.results19, go_sem, kw0, kw1, kr0, kr1, ku0, ku1, lr0, lr1]) rfl (NO.out _ ((bel.setCell (by simp) _).setCell (by simp) _))
  · have h0 : fx = true := by cases fx <;> simp at hno ⊢
    have h1 : ¬ e < -2500 := by omega
    have h2 : ¬ 1200 < e := by omega
    have h3 : ¬ 60 < (Nm.wl z).length := by omega
    clear hno
    subst h0
    obtain ⟨b2, b3, b4⟩ := b1.out (by have := HZ.out (by omega); omega) (by omega) (by omega)
    have hu := un_bl 32 x
    have hz' : bitLen z.natAbs ≤ 1920 := by have := HZ.out (by omega); omega
    clear HZ b1 HL
    obtain ⟨low, hlow⟩ : ∃ l, l = min e (-149) := ⟨_, rfl⟩
    have hq : unQ 32 = (-149) := rfl
    rw [hq, ← hlow] at b2 b3
    have S1 := hid (fun a c w' h => shl_w (unI 32 x) ((-149) - low) a c w' h (by omega) (by omega))
    have S2 := hid (fun a c w' h => shl_w z (e - low) a c w' h (by omega) (by omega))
    have eo : offD 32 x z e = unI 32 x * 2 ^ ((-149) - low).toNat - z * 2 ^ (e - low).toNat := by unfold offD; rw [hq, hlow]
    obtain ⟨D, hD⟩ : ∃ D, D = offD 32 x z e := ⟨_, rfl⟩
    rw [← hD] at eo b4
    obtain ⟨U, hU⟩ : ∃ U, U = unI 32 x * 2 ^ ((-149) - low).toNat := ⟨_, rfl⟩
    obtain ⟨V, hV⟩ : ∃ V, V = z * 2 ^ (e - low).toNat := ⟨_, rfl⟩
    rw [← hU] at S1 b2 eo
    rw [← hV] at S2 b3 eo
    have CN := hid (fun a c w' h => eneg_impl V a c w' h (fit_k (by omega)))
    have CA := hid (fun a b c d w' h h' => eadd_impl U (-V) a b c d w' h h' (fit_k (by omega)) (fit_k (by rw [bl_neg]; omega)) (fit_k (by rw [← Int.sub_eq_add_neg, ← eo]; omega)))
    have eV : U + -V = D := by omega
    rw [eV] at CA
    have YES : Hid (∀ (w' : World) (a' : Option Addr) (c' : Nat), Sl .u32 w' (.slice a' (Nm.wl D).length c') (Nm.wl D) → Below w.heap.size w w' → OffP 32 x z e w w' (.returned (.tuple #[.agg #[.bool (Nm.wn D), .slice a' (Nm.wl D).length c'], .bool true]))) := hid (fun w' a' c' hs' hb => ⟨D, true, a', c', rfl, fun _ => ⟨HF.out.symm, hD⟩, b4, hs', hb⟩)
    clear b2 b3 b4 eo eV hD hU hV hu hz'
    obtain ⟨gx, hgx⟩ : ∃ g, g = Nm.wn (unI 32 x) := ⟨_, rfl⟩
    obtain ⟨X, hX⟩ : ∃ g, g = Nm.wl (unI 32 x) := ⟨_, rfl⟩
    rw [← hgx, ← hX] at UX S1
    obtain ⟨gU, hgU⟩ : ∃ g, g = Nm.wn (U) := ⟨_, rfl⟩
    obtain ⟨LU, hLU⟩ : ∃ g, g = Nm.wl (U) := ⟨_, rfl⟩
    obtain ⟨gV, hgV⟩ : ∃ g, g = Nm.wn (V) := ⟨_, rfl⟩
    obtain ⟨LV, hLV⟩ : ∃ g, g = Nm.wl (V) := ⟨_, rfl⟩
    obtain ⟨gN, hgN⟩ : ∃ g, g = Nm.wn (-V) := ⟨_, rfl⟩
    obtain ⟨LN, hLN⟩ : ∃ g, g = Nm.wl (-V) := ⟨_, rfl⟩
    obtain ⟨gD, hgD⟩ : ∃ g, g = Nm.wn (D) := ⟨_, rfl⟩
    obtain ⟨LD, hLD⟩ : ∃ g, g = Nm.wl (D) := ⟨_, rfl⟩
    rw [← hgU, ← hLU] at S1
    rw [← hgV, ← hLV] at S2 CN
    rw [← hgN, ← hLN] at CN
    rw [← hgU, ← hLU, ← hgN, ← hLN, ← hgD, ← hLD] at CA
    rw [← hgD, ← hLD] at YES
    clear hgU hLU hgV hLV hgN hLN hgD hLD
    obtain ⟨gz, hgz⟩ : ∃ g, g = Nm.wn z := ⟨_, rfl⟩
    obtain ⟨Z, hZ⟩ : ∃ g, g = Nm.wl z := ⟨_, rfl⟩
    rw [← hgz, ← hZ] at S2 ⊢
    rw [← hZ] at hs h3
    clear hgx hX hgz hZ HF hl hq
    have hW1 : IntKind.i64.wrap ((-149) - low) = (-149) - low := by rw [IntKind.wrap_i64]; omega
    have hW2 : IntKind.i64.wrap (e - low) = e - low := by rw [IntKind.wrap_i64]; omega
    have hW3 : wrap64 ((-149) - low) = (-149) - low := by unfold wrap64; omega
    have hW4 : wrap64 (e - low) = e - low := by unfold wrap64; omega
    have HLO := hid hlow
    clear hlow
    have bel := Below.refl w.heap.size w
    go_enter Tryz.func19, Tryz.ntmps19
    replace hT := hT.below (al_b _ (.cells #[.bool gz, .slice p Z.length c] 26))
    replace hs := hs.below (al_b _ (.cells #[.bool gz, .slice p Z.length c] 26))
    replace bel := bel_al bel (.cells #[.bool gz, .slice p Z.length c] 26)
    have Bw := R2.new w (.bool gz) (.slice p Z.length c) 26
    replace hT := hT.below (al_b _ (.cells #[.bool false, .slice none 0 0] 26))
    replace hs := hs.below (al_b _ (.cells #[.bool false, .slice none 0 0] 26))
    replace Bw := Bw.below (al_b _ (.cells #[.bool false, .slice none 0 0] 26))
    replace bel := bel_al bel (.cells #[.bool false, .slice none 0 0] 26)
    have Br := R2.new (w.alloc (.cells #[.bool gz, .slice p Z.length c] 26)) (.bool false) (.slice none 0 0) 26
    have hsz : (w.alloc (.cells #[.bool gz, .slice p Z.length c] 26)).heap.size = w.heap.size + 1 := by simp
    rw [hsz] at Br
    clear hsz
    obtain ⟨kw0, kw1, -, -⟩ := id Bw
    obtain ⟨kr0, kr1, -, -⟩ := id Br
    go_wp2_with fail
    refine (UN.out _).mono ?_
    rintro r w1 ⟨rfl, hb⟩
    clear kw0 kw1 kr0 kr1
    replace bel := bel_go bel hb
    replace hT := hT.below hb
    replace hs := hs.below hb
    replace Bw := Bw.below hb
    replace Br := Br.below hb
    clear hb
    obtain ⟨kw0, kw1, -, -⟩ := id Bw
    obtain ⟨kr0, kr1, -, -⟩ := id Br
    go_wp2_with fail
    refine (UX.out _ hT).mono ?_
    rintro r w2 ⟨ax, cx, rfl, ox, hb⟩
    clear kw0 kw1 kr0 kr1
    replace bel := bel_go bel hb
    replace hT := hT.below hb
    replace hs := hs.below hb
    replace Bw := Bw.below hb
    replace Br := Br.below hb
    clear hb
    have sx := ox.sl
    clear ox
    replace hT := hT.below (al_b _ (.cells #[.bool gx, .slice ax X.length cx] 26))
    replace hs := hs.below (al_b _ (.cells #[.bool gx, .slice ax X.length cx] 26))
    replace Bw := Bw.below (al_b _ (.cells #[.bool gx, .slice ax X.length cx] 26))
    replace Br := Br.below (al_b _ (.cells #[.bool gx, .slice ax X.length cx] 26))
    replace sx := sx.below (al_b _ (.cells #[.bool gx, .slice ax X.length cx] 26))
    replace bel := bel_al bel (.cells #[.bool gx, .slice ax X.length cx] 26)
    have Bu := R2.new w2 (.bool gx) (.slice ax X.length cx) 26
    go_upto_region 3 with fail
    generalize hWW : w2.alloc (.cells #[.bool gx, .slice ax X.length cx] 26) = W1 at bel hs hT Bw Br Bu sx ⊢
    clear hWW
    go_cut [13] (fun s wx => s = .int .i64 low ∧ wx = W1)
    case first =>
      by_cases hc : e < (-149)
      all_goals go_wp2_with fail
      all_goals go_meet
      all_goals exact ⟨by rw [HLO.out]; congr 1; omega, rfl⟩
    case rest =>
    obtain ⟨rfl, rfl⟩ := hcut
    obtain ⟨kw0, kw1, -, -⟩ := id Bw
    obtain ⟨kr0, kr1, -, -⟩ := id Br
    obtain ⟨ku0, ku1, -, -⟩ := id Bu
    go_wp2_with fail
    refine (S1.out ax cx _ sx).mono ?_
    rintro r w3 ⟨a1, c1, rfl, o1, hb⟩
    clear kw0 kw1 kr0 kr1 ku0 ku1
    replace bel := bel_go bel hb
    replace hT := hT.below hb
    replace hs := hs.below hb
    replace Bw := Bw.below hb
    replace Br := Br.below hb
    replace sx := sx.below hb
    replace Bu := Bu.below hb
    clear hb
    have s1 := o1.sl
    clear o1
    replace hT := hT.below (al_b _ (.cells #[.bool gU, .slice a1 LU.length c1] 26))
    replace hs := hs.below (al_b _ (.cells #[.bool gU, .slice a1 LU.length c1] 26))
    replace Bw := Bw.below (al_b _ (.cells #[.bool gU, .slice a1 LU.length c1] 26))
    replace Br := Br.below (al_b _ (.cells #[.bool gU, .slice a1 LU.length c1] 26))
    replace sx := sx.below (al_b _ (.cells #[.bool gU, .slice a1 LU.length c1] 26))
    replace Bu := Bu.below (al_b _ (.cells #[.bool gU, .slice a1 LU.length c1] 26))
    replace s1 := s1.below (al_b _ (.cells #[.bool gU, .slice a1 LU.length c1] 26))
    replace bel := bel_al bel (.cells #[.bool gU, .slice a1 LU.length c1] 26)
    have Ba := R2.new w3 (.bool gU) (.slice a1 LU.length c1) 26
    obtain ⟨kw0, kw1, -, -⟩ := id Bw
    obtain ⟨kr0, kr1, -, -⟩ := id Br
    obtain ⟨ku0, ku1, -, -⟩ := id Bu
    obtain ⟨ka0, ka1, -, -⟩ := id Ba
    go_wp2_with fail
    refine (S2.out p c _ hs).mono ?_
    rintro r w4 ⟨a2, c2, rfl, o2, hb⟩
    clear kw0 kw1 kr0 kr1 ku0 ku1 ka0 ka1
    replace bel := bel_go bel hb
    replace hT := hT.below hb
    replace hs := hs.below hb
    replace Bw := Bw.below hb
    replace Br := Br.below hb
    replace sx := sx.below hb
    replace Bu := Bu.below hb
    replace s1 := s1.below hb
    replace Ba := Ba.below hb
    clear hb
    have s2 := o2.sl
    clear o2
    replace hT := hT.below (al_b _ (.cells #[.bool gV, .slice a2 LV.length c2] 26))
    replace hs := hs.below (al_b _ (.cells #[.bool gV, .slice a2 LV.length c2] 26))
    replace Bw := Bw.below (al_b _ (.cells #[.bool gV, .slice a2 LV.length c2] 26))
    replace Br := Br.below (al_b _ (.cells #[.bool gV, .slice a2 LV.length c2] 26))
    replace sx := sx.below (al_b _ (.cells #[.bool gV, .slice a2 LV.length c2] 26))
    replace Bu := Bu.below (al_b _ (.cells #[.bool gV, .slice a2 LV.length c2] 26))
    replace s1 := s1.below (al_b _ (.cells #[.bool gV, .slice a2 LV.length c2] 26))
    replace Ba := Ba.below (al_b _ (.cells #[.bool gV, .slice a2 LV.length c2] 26))
    replace s2 := s2.below (al_b _ (.cells #[.bool gV, .slice a2 LV.length c2] 26))
    replace bel := bel_al bel (.cells #[.bool gV, .slice a2 LV.length c2] 26)
    have Bb := R2.new w4 (.bool gV) (.slice a2 LV.length c2) 26
    go_upto_region 8 with fail
    generalize hWW : w4.alloc (.cells #[.bool gV, .slice a2 LV.length c2] 26) = W at bel hs hT Bw Br Bu Ba Bb s1 s2 ⊢
    clear hWW hs hT Bw Bu
    have belR := Below.drew (Below.refl W.heap.size W)
    refine wp_region_held_drew (S := fun w' => (w'.cell? ⟨w3.heap.size, 0, none⟩ = some (.bool gU) ∧ w'.cell? ⟨w3.heap.size, 1, none⟩ = some (.slice a1 LU.length c1)) ∧ w'.cell? ⟨w4.heap.size, 0, none⟩ = some (.bool gV) ∧ w'.cell? ⟨w4.heap.size, 1, none⟩ = some (.slice a2 LV.length c2)) (by kernel_rfl) ?_ (fun hHeld => ?_)
    · exact ⟨⟨Ba.c0, Ba.c1⟩, Bb.c0, Bb.c1⟩
    generalize W.drew = v0 at belR hHeld ⊢
    refine tk 0 ?_ rfl (Or.inl ⟨by rfl, ?_⟩) ?_
    rotate_left
    · (intro w hSw; (try dsimp only at hSw); obtain ⟨⟨hS0, hS1⟩, hS2, hS3⟩ := hSw; go_simp; try (with_reducible rfl))
    try simp only [Act.put, Ls]
    refine tk 1 ?_ rfl (Or.inl ⟨by rfl, ?_⟩) ?_
    rotate_left
    · (intro w hSw; (try dsimp only at hSw); obtain ⟨⟨hS0, hS1⟩, hS2, hS3⟩ := hSw; go_simp; try (with_reducible rfl))
    try simp only [Act.put, Ls]
    refine wpAnyH_ready (rs := [2, 7]) (by kernel_rfl) (by simp) ?_
    refine AllReadyH.cons (o := _) rfl (fun K hK => ?_) (AllReadyH.cons (o := _) rfl (fun K hK => ?_) AllReadyH.nil)
    · go_simp
      go_at_call 79
      refine (CN.out a2 c2 _ (s2.below belR)).mono ?_
      rintro r v1 ⟨a7, c7, rfl, o7, hb'⟩
      have hz' := belR.size
      replace belR := bel_go belR hb'
      replace o7 := Own.base o7 (B' := W.heap.size) (by omega)
      clear hb' hz'
      refine hK.out _ _ ?_ (fun hHeld => ?_)
      · exact ⟨⟨(Ba.below belR).c0, (Ba.below belR).c1⟩, (Bb.below belR).c0, (Bb.below belR).c1⟩
      clear hK K
      try simp only [Act.put, Ls]
      refine wpAnyH_ready (rs := [3, 7]) (by kernel_rfl) (by simp) ?_
      refine AllReadyH.cons (o := _) rfl (fun K hK => ?_) (AllReadyH.cons (o := _) rfl (fun K hK => ?_) AllReadyH.nil)
      · go_simp
        go_at_call 78
        refine (CA.out a1 a7 c1 c7 _ (s1.below belR) o7.sl).mono ?_
        rintro r v2 ⟨a8, c8, rfl, o8, hb'⟩
        replace o7 := o7.below hb'
        have hz' := belR.size
        replace belR := bel_go belR hb'
        replace o8 := Own.base o8 (B' := W.heap.size) (by omega)
        clear hb' hz'
        refine hK.out _ _ ?_ (fun hHeld => ?_)
        · exact ⟨⟨(Ba.below belR).c0, (Ba.below belR).c1⟩, (Bb.below belR).c0, (Bb.below belR).c1⟩
        clear hK K
        try simp only [Act.put, Ls]
        refine tk 4 ?_ rfl (Or.inl ⟨by rfl, ?_⟩) ?_
        rotate_left
        · (intro w hSw; go_simp; try (with_reducible rfl))
        try simp only [Act.put, Ls]
        refine tk 5 ?_ rfl (Or.inl ⟨by rfl, ?_⟩) ?_
        rotate_left
        · (intro w hSw; go_simp; try (with_reducible rfl))
        try simp only [Act.put, Ls]
        refine tk 6 ?_ rfl (Or.inl ⟨by rfl, ?_⟩) ?_
        rotate_left
        · (intro w hSw; go_simp; try (with_reducible rfl))
        try simp only [Act.put, Ls]
        refine rdy 7 rfl (fun K hK => ?_)
        go_simp
        refine hK.out _ _ ?_ (fun hHeld => ?_)
        · exact ⟨⟨(Ba.below (bel_al belR (.cells #[.bool false, .slice none 0 0] 26))).c0, (Ba.below (bel_al belR (.cells #[.bool false, .slice none 0 0] 26))).c1⟩, (Bb.below (bel_al belR (.cells #[.bool false, .slice none 0 0] 26))).c0, (Bb.below (bel_al belR (.cells #[.bool false, .slice none 0 0] 26))).c1⟩
        clear hK K
        try simp only [Act.put, Ls]
        obtain ⟨b9, h2⟩ : ∃ q, q = v2.heap.size := ⟨_, rfl⟩
        have hb9 : W.heap.size ≤ b9 := by have := belR.size; omega
        have B9 := R2.new v2 (.bool false) (.slice none 0 0) 26
        rw [← h2] at B9 ⊢
        have ng7_9 : ∀ g, a7 = some ⟨g, 0, none⟩ → g ≠ b9 := fun g h => by have := (own_at o7 g h).2; omega
        have ng8_9 : ∀ g, a8 = some ⟨g, 0, none⟩ → g ≠ b9 := fun g h => by have := (own_at o8 g h).2; omega
        replace o7 := o7.below (al_b _ (.cells #[.bool false, .slice none 0 0] 26))
        replace o8 := o8.below (al_b _ (.cells #[.bool false, .slice none 0 0] 26))
        replace belR := bel_al belR (.cells #[.bool false, .slice none 0 0] 26)
        clear h2
        generalize v2.alloc (.cells #[.bool false, .slice none 0 0] 26) = v3 at B9 belR hHeld o7 o8 ⊢
        refine rdy 8 rfl (fun K hK => ?_)
        have ⟨y90, y91, y92, y93⟩ := B9
        go_simp
        have belS := ((belR.setCell (p := ⟨b9, 0, none⟩) (by simpa using hb9) (.bool gD)).setCell (p := ⟨b9, 1, none⟩) (by simpa using hb9) (.slice a8 LD.length c8))
        refine hK.out _ _ ?_ (fun hHeld => ?_)
        · exact ⟨⟨(Ba.below belS).c0, (Ba.below belS).c1⟩, (Bb.below belS).c0, (Bb.below belS).c1⟩
        clear hK K
        try simp only [Act.put, Ls]
        refine rdy 9 rfl (fun K hK => ?_)
        go_simp
        refine hK.out _ _ ?_ (fun hHeld => ?_)
        · exact ⟨⟨(Ba.below belS).c0, (Ba.below belS).c1⟩, (Bb.below belS).c0, (Bb.below belS).c1⟩
        clear hK K
        try simp only [Act.put, Ls]
        refine wpAnyH_done (by kernel_rfl) ?_ _
        have Br' := Br.below belS
        obtain ⟨kr0, kr1, lr0, lr1⟩ := id Br'
        obtain ⟨kx0, kx1, -, -⟩ := id (R2.set B9 (.bool gD) (.slice a8 LD.length c8))
        have hr := World.block_lt_of_cell? _ _ Br.c0
        simp only [] at hr
        go_wp2
        refine bodyPost_ret (v := .tuple #[.agg #[.bool gD, .slice a8 LD.length c8], .bool true]) (by simp [results, Tryz.results19, go_sem, kr0, kr1, lr0, lr1, kx0, kx1]) rfl (YES.out _ a8 c8 ?_ ?_)
        · exact ((((o8.setOther ng8_9 _).setOther ng8_9 _).setOther (fun g h => by have := (own_at o8 g h).1; simp; omega) _).setOther (fun g h => by have := (own_at o8 g h).1; simp; omega) _).sl
        · exact ((bel.trans (belS.mono bel.size)).setCell (by simp) _).setCell (by simp) _
      · go_simp
        refine hK.out _ _ ?_ (fun hHeld => ?_)
        · exact ⟨⟨(Ba.below (bel_al belR (.cells #[.bool false, .slice none 0 0] 26))).c0, (Ba.below (bel_al belR (.cells #[.bool false, .slice none 0 0] 26))).c1⟩, (Bb.below (bel_al belR (.cells #[.bool false, .slice none 0 0] 26))).c0, (Bb.below (bel_al belR (.cells #[.bool false, .slice none 0 0] 26))).c1⟩
        clear hK K
        try simp only [Act.put, Ls]
        obtain ⟨b9, h2⟩ : ∃ q, q = v1.heap.size := ⟨_, rfl⟩
        have hb9 : W.heap.size ≤ b9 := by have := belR.size; omega
        have B9 := R2.new v1 (.bool false) (.slice none 0 0) 26
        rw [← h2] at B9 ⊢
        have ng7_9 : ∀ g, a7 = some ⟨g, 0, none⟩ → g ≠ b9 := fun g h => by have := (own_at o7 g h).2; omega
        replace o7 := o7.below (al_b _ (.cells #[.bool false, .slice none 0 0] 26))
        replace belR := bel_al belR (.cells #[.bool false, .slice none 0 0] 26)
        clear h2
        generalize v1.alloc (.cells #[.bool false, .slice none 0 0] 26) = v2 at B9 belR hHeld o7 ⊢
        refine rdy 3 rfl (fun K hK => ?_)
        go_simp
        go_at_call 78
        refine (CA.out a1 a7 c1 c7 _ (s1.below belR) o7.sl).mono ?_
        have hl9 : b9 < v2.heap.size := World.block_lt_of_cell? _ _ B9.c0
        rintro r v3 ⟨a8, c8, rfl, o8, hb'⟩
        replace o7 := o7.below hb'
        replace B9 := B9.below hb'
        have hz' := belR.size
        replace belR := bel_go belR hb'
        have ng8_9 : ∀ g, a8 = some ⟨g, 0, none⟩ → g ≠ b9 := fun g h => by have := (own_at o8 g h).1; omega
        replace o8 := Own.base o8 (B' := W.heap.size) (by omega)
        clear hl9
        clear hb' hz'
        refine hK.out _ _ ?_ (fun hHeld => ?_)
        · exact ⟨⟨(Ba.below belR).c0, (Ba.below belR).c1⟩, (Bb.below belR).c0, (Bb.below belR).c1⟩
        clear hK K
        try simp only [Act.put, Ls]
        refine tk 4 ?_ rfl (Or.inl ⟨by rfl, ?_⟩) ?_
        rotate_left
        · (intro w hSw; go_simp; try (with_reducible rfl))
        try simp only [Act.put, Ls]
        refine tk 5 ?_ rfl (Or.inl ⟨by rfl, ?_⟩) ?_
        rotate_left
        · (intro w hSw; go_simp; try (with_reducible rfl))
        try simp only [Act.put, Ls]
        refine tk 6 ?_ rfl (Or.inl ⟨by rfl, ?_⟩) ?_
        rotate_left
        · (intro w hSw; go_simp; try (with_reducible rfl))
        try simp only [Act.put, Ls]
        refine rdy 8 rfl (fun K hK => ?_)
        have ⟨y90, y91, y92, y93⟩ := B9
        go_simp
        have belS := ((belR.setCell (p := ⟨b9, 0, none⟩) (by simpa using hb9) (.bool gD)).setCell (p := ⟨b9, 1, none⟩) (by simpa using hb9) (.slice a8 LD.length c8))
        refine hK.out _ _ ?_ (fun hHeld => ?_)
        · exact ⟨⟨(Ba.below belS).c0, (Ba.below belS).c1⟩, (Bb.below belS).c0, (Bb.below belS).c1⟩
        clear hK K
        try simp only [Act.put, Ls]
        refine rdy 9 rfl (fun K hK => ?_)
        go_simp
        refine hK.out _ _ ?_ (fun hHeld => ?_)
        · exact ⟨⟨(Ba.below belS).c0, (Ba.below belS).c1⟩, (Bb.below belS).c0, (Bb.below belS).c1⟩
        clear hK K
        try simp only [Act.put, Ls]
        refine wpAnyH_done (by kernel_rfl) ?_ _
        have Br' := Br.below belS
        obtain ⟨kr0, kr1, lr0, lr1⟩ := id Br'
        obtain ⟨kx0, kx1, -, -⟩ := id (R2.set B9 (.bool gD) (.slice a8 LD.length c8))
        have hr := World.block_lt_of_cell? _ _ Br.c0
        simp only [] at hr
        go_wp2
        refine bodyPost_ret (v := .tuple #[.agg #[.bool gD, .slice a8 LD.length c8], .bool true]) (by simp [results, Tryz.results19, go_sem, kr0, kr1, lr0, lr1, kx0, kx1]) rfl (YES.out _ a8 c8 ?_ ?_)
        · exact ((((o8.setOther ng8_9 _).setOther ng8_9 _).setOther (fun g h => by have := (own_at o8 g h).1; simp; omega) _).setOther (fun g h => by have := (own_at o8 g h).1; simp; omega) _).sl
        · exact ((bel.trans (belS.mono bel.size)).setCell (by simp) _).setCell (by simp) _
    · go_simp
      refine hK.out _ _ ?_ (fun hHeld => ?_)
      · exact ⟨⟨(Ba.below (bel_al belR (.cells #[.bool false, .slice none 0 0] 26))).c0, (Ba.below (bel_al belR (.cells #[.bool false, .slice none 0 0] 26))).c1⟩, (Bb.below (bel_al belR (.cells #[.bool false, .slice none 0 0] 26))).c0, (Bb.below (bel_al belR (.cells #[.bool false, .slice none 0 0] 26))).c1⟩
      clear hK K
      try simp only [Act.put, Ls]
      obtain ⟨b9, h2⟩ : ∃ q, q = v0.heap.size := ⟨_, rfl⟩
      have hb9 : W.heap.size ≤ b9 := by have := belR.size; omega
      have B9 := R2.new v0 (.bool false) (.slice none 0 0) 26
      rw [← h2] at B9 ⊢
      replace belR := bel_al belR (.cells #[.bool false, .slice none 0 0] 26)
      clear h2
      generalize v0.alloc (.cells #[.bool false, .slice none 0 0] 26) = v1 at B9 belR hHeld ⊢
      refine rdy 2 rfl (fun K hK => ?_)
      go_simp
      go_at_call 79
      refine (CN.out a2 c2 _ (s2.below belR)).mono ?_
      have hl9 : b9 < v1.heap.size := World.block_lt_of_cell? _ _ B9.c0
      rintro r v2 ⟨a7, c7, rfl, o7, hb'⟩
      replace B9 := B9.below hb'
      have hz' := belR.size
      replace belR := bel_go belR hb'
      have ng7_9 : ∀ g, a7 = some ⟨g, 0, none⟩ → g ≠ b9 := fun g h => by have := (own_at o7 g h).1; omega
      replace o7 := Own.base o7 (B' := W.heap.size) (by omega)
      clear hl9
      clear hb' hz'
      refine hK.out _ _ ?_ (fun hHeld => ?_)
      · exact ⟨⟨(Ba.below belR).c0, (Ba.below belR).c1⟩, (Bb.below belR).c0, (Bb.below belR).c1⟩
      clear hK K
      try simp only [Act.put, Ls]
      refine rdy 3 rfl (fun K hK => ?_)
      go_simp
      go_at_call 78
      refine (CA.out a1 a7 c1 c7 _ (s1.below belR) o7.sl).mono ?_
      have hl9 : b9 < v2.heap.size := World.block_lt_of_cell? _ _ B9.c0
      rintro r v3 ⟨a8, c8, rfl, o8, hb'⟩
      replace o7 := o7.below hb'
      replace B9 := B9.below hb'
      have hz' := belR.size
      replace belR := bel_go belR hb'
      have ng8_9 : ∀ g, a8 = some ⟨g, 0, none⟩ → g ≠ b9 := fun g h => by have := (own_at o8 g h).1; omega
      replace o8 := Own.base o8 (B' := W.heap.size) (by omega)
      clear hl9
      clear hb' hz'
      refine hK.out _ _ ?_ (fun hHeld => ?_)
      · exact ⟨⟨(Ba.below belR).c0, (Ba.below belR).c1⟩, (Bb.below belR).c0, (Bb.below belR).c1⟩
      clear hK K
      try simp only [Act.put, Ls]
      refine tk 4 ?_ rfl (Or.inl ⟨by rfl, ?_⟩) ?_
      rotate_left
      · (intro w hSw; go_simp; try (with_reducible rfl))
      try simp only [Act.put, Ls]
      refine tk 5 ?_ rfl (Or.inl ⟨by rfl, ?_⟩) ?_
      rotate_left
      · (intro w hSw; go_simp; try (with_reducible rfl))
      try simp only [Act.put, Ls]
      refine tk 6 ?_ rfl (Or.inl ⟨by rfl, ?_⟩) ?_
      rotate_left
      · (intro w hSw; go_simp; try (with_reducible rfl))
      try simp only [Act.put, Ls]
      refine rdy 8 rfl (fun K hK => ?_)
      have ⟨y90, y91, y92, y93⟩ := B9
      go_simp
      have belS := ((belR.setCell (p := ⟨b9, 0, none⟩) (by simpa using hb9) (.bool gD)).setCell (p := ⟨b9, 1, none⟩) (by simpa using hb9) (.slice a8 LD.length c8))
      refine hK.out _ _ ?_ (fun hHeld => ?_)
      · exact ⟨⟨(Ba.below belS).c0, (Ba.below belS).c1⟩, (Bb.below belS).c0, (Bb.below belS).c1⟩
      clear hK K
      try simp only [Act.put, Ls]
      refine rdy 9 rfl (fun K hK => ?_)
      go_simp
      refine hK.out _ _ ?_ (fun hHeld => ?_)
      · exact ⟨⟨(Ba.below belS).c0, (Ba.below belS).c1⟩, (Bb.below belS).c0, (Bb.below belS).c1⟩
      clear hK K
      try simp only [Act.put, Ls]
      refine wpAnyH_done (by kernel_rfl) ?_ _
      have Br' := Br.below belS
      obtain ⟨kr0, kr1, lr0, lr1⟩ := id Br'
      obtain ⟨kx0, kx1, -, -⟩ := id (R2.set B9 (.bool gD) (.slice a8 LD.length c8))
      have hr := World.block_lt_of_cell? _ _ Br.c0
      simp only [] at hr
      go_wp2
      refine bodyPost_ret (v := .tuple #[.agg #[.bool gD, .slice a8 LD.length c8], .bool true]) (by simp [results, Tryz.results19, go_sem, kr0, kr1, lr0, lr1, kx0, kx1]) rfl (YES.out _ a8 c8 ?_ ?_)
      · exact ((((o8.setOther ng8_9 _).setOther ng8_9 _).setOther (fun g h => by have := (own_at o8 g h).1; simp; omega) _).setOther (fun g h => by have := (own_at o8 g h).1; simp; omega) _).sl
      · exact ((bel.trans (belS.mono bel.size)).setCell (by simp) _).setCell (by simp) _
/-- How far a float is from z times 2 to the e, where that is told. -/
theorem off_64 (x z e : Int) (p : Option Addr) (c : Nat) (w : World) (hT : Tab w) (x0 : 0 ≤ x) (x1 : x < 18446744073709551616) (hl : (Nm.wl z).length ≤ 200) (hs : Sl .u32 w (.slice p (Nm.wl z).length c) (Nm.wl z)) (e0 : -10000 ≤ e) (e1 : e ≤ 10000) :
    Calls Tryz.prog 19 #[.int .i64 64, .int .u64 x, .agg #[.bool (Nm.wn z), .slice p (Nm.wl z).length c], .int .i64 e] w fun r w' => OffP 64 x z e w w' r := by
  have UX := hid (fun w' h => units_impl 64 x w' h x0 x1)
  unfold Ans at UX
  have UN := hid (fun w' => unit64 w')
  have b1 := hid (offD_bl (fm := 64) (x := x) (z := z) (e := e) (by decide))
  have HZ := hid (bl_len (z := z) (k := 60))
  have NO : Hid (∀ (w' : World), Below w.heap.size w w' → OffP 64 x z e w w' (.returned (.tuple #[.agg #[.bool false, .slice none 0 0], .bool false]))) := hid (fun w' hb => ⟨0, false, none, 0, by rw [wl_zero, wn_zero]; rfl, fun h => absurd h (by decide), by decide, by rw [wl_zero]; exact Sl.nil _ _, hb⟩)
  have HL := hid hl
  have hlt : decide ((Nm.wl z).length < 61) = decide ((Nm.wl z).length ≤ 60) := by rw [Bool.eq_iff_iff]; simp only [decide_eq_true_eq]; omega
  clear hlt
  obtain ⟨fx, hfx⟩ : ∃ g, g = finB 64 x := ⟨_, rfl⟩
  rw [← hfx] at UX
  have HF := hid hfx
  clear hfx x0 x1
  -- the ways on which nothing is told
  by_cases hno : fx = false ∨ e < -2500 ∨ 1200 < e ∨ 60 < (Nm.wl z).length
  · obtain ⟨gx, hgx⟩ : ∃ g, g = Nm.wn (unI 64 x) := ⟨_, rfl⟩
    obtain ⟨X, hX⟩ : ∃ g, g = Nm.wl (unI 64 x) := ⟨_, rfl⟩
    rw [← hgx, ← hX] at UX
    obtain ⟨gz, hgz⟩ : ∃ g, g = Nm.wn z := ⟨_, rfl⟩
    obtain ⟨Z, hZ⟩ : ∃ g, g = Nm.wl z := ⟨_, rfl⟩
    rw [← hgz, ← hZ]
    rw [← hZ] at hs hno
    clear hgx hX hgz hZ HF HL HZ b1 hl
    have bel := Below.refl w.heap.size w
    go_enter Tryz.func19, Tryz.ntmps19
    replace hT := hT.below (al_b _ (.cells #[.bool gz, .slice p Z.length c] 26))
    replace hs := hs.below (al_b _ (.cells #[.bool gz, .slice p Z.length c] 26))
    replace bel := bel_al bel (.cells #[.bool gz, .slice p Z.length c] 26)
    have Bw := R2.new w (.bool gz) (.slice p Z.length c) 26
    replace hT := hT.below (al_b _ (.cells #[.bool false, .slice none 0 0] 26))
    replace hs := hs.below (al_b _ (.cells #[.bool false, .slice none 0 0] 26))
    replace Bw := Bw.below (al_b _ (.cells #[.bool false, .slice none 0 0] 26))
    replace bel := bel_al bel (.cells #[.bool false, .slice none 0 0] 26)
    have Br := R2.new (w.alloc (.cells #[.bool gz, .slice p Z.length c] 26)) (.bool false) (.slice none 0 0) 26
    have hsz : (w.alloc (.cells #[.bool gz, .slice p Z.length c] 26)).heap.size = w.heap.size + 1 := by simp
    rw [hsz] at Br
    clear hsz
    obtain ⟨kw0, kw1, -, -⟩ := id Bw
    obtain ⟨kr0, kr1, -, -⟩ := id Br
    go_wp2_with fail
    refine (UN.out _).mono ?_
    rintro r w1 ⟨rfl, hb⟩
    clear kw0 kw1 kr0 kr1
    replace bel := bel_go bel hb
    replace hT := hT.below hb
    replace hs := hs.below hb
    replace Bw := Bw.below hb
    replace Br := Br.below hb
    clear hb
    obtain ⟨kw0, kw1, -, -⟩ := id Bw
    obtain ⟨kr0, kr1, -, -⟩ := id Br
    go_wp2_with fail
    refine (UX.out _ hT).mono ?_
    rintro r w2 ⟨ax, cx, rfl, ox, hb⟩
    clear kw0 kw1 kr0 kr1
    replace bel := bel_go bel hb
    replace hT := hT.below hb
    replace hs := hs.below hb
    replace Bw := Bw.below hb
    replace Br := Br.below hb
    clear hb
    have sx := ox.sl
    clear ox
    replace hT := hT.below (al_b _ (.cells #[.bool gx, .slice ax X.length cx] 26))
    replace hs := hs.below (al_b _ (.cells #[.bool gx, .slice ax X.length cx] 26))
    replace Bw := Bw.below (al_b _ (.cells #[.bool gx, .slice ax X.length cx] 26))
    replace Br := Br.below (al_b _ (.cells #[.bool gx, .slice ax X.length cx] 26))
    replace sx := sx.below (al_b _ (.cells #[.bool gx, .slice ax X.length cx] 26))
    replace bel := bel_al bel (.cells #[.bool gx, .slice ax X.length cx] 26)
    have Bu := R2.new w2 (.bool gx) (.slice ax X.length cx) 26
    go_upto_region 3 with fail
    generalize hWW : w2.alloc (.cells #[.bool gx, .slice ax X.length cx] 26) = W1 at bel hs hT Bw Br Bu sx ⊢
    clear hWW
    go_cut [13] (fun s wx => (∃ low : Int, s = .int .i64 low) ∧ wx = W1)
    case first =>
      by_cases hc : e < (-1074)
      all_goals go_wp2_with fail
      all_goals go_meet
      all_goals exact ⟨⟨_, rfl⟩, rfl⟩
    case rest =>
    obtain ⟨⟨low, rfl⟩, rfl⟩ := hcut
    cases fx
    · obtain ⟨kw0, kw1, -, -⟩ := id Bw
      obtain ⟨kr0, kr1, -, -⟩ := id Br
      obtain ⟨ku0, ku1, -, -⟩ := id Bu
      obtain ⟨-, -, lr0, lr1⟩ := id Br
      go_wp2
      refine bodyPost_ret (v := .tuple #[.agg #[.bool false, .slice none 0 0], .bool false]) (by simp [results, Tryz.results19, go_sem, kw0, kw1, kr0, kr1, ku0, ku1, lr0, lr1]) rfl (NO.out _ ((bel.setCell (by simp) _).setCell (by simp) _))
    · have hno' : e < -2500 ∨ 1200 < e ∨ 60 < Z.length := by simpa using hno
      clear hno
      by_cases h1 : e < -2500
      · clear hno'
        obtain ⟨kw0, kw1, -, -⟩ := id Bw
        obtain ⟨kr0, kr1, -, -⟩ := id Br
        obtain ⟨ku0, ku1, -, -⟩ := id Bu
        obtain ⟨-, -, lr0, lr1⟩ := id Br
        go_wp2
        refine bodyPost_ret (v := .tuple #[.agg #[.bool false, .slice none 0 0], .bool false]) (by simp [results, Tryz.results19, go_sem, kw0, kw1, kr0, kr1, ku0, ku1, lr0, lr1]) rfl (NO.out _ ((bel.setCell (by simp) _).setCell (by simp) _))
      · by_cases h2 : 1200 < e
        · clear hno'
          obtain ⟨kw0, kw1, -, -⟩ := id Bw
          obtain ⟨kr0, kr1, -, -⟩ := id Br
          obtain ⟨ku0, ku1, -, -⟩ := id Bu
          obtain ⟨-, -, lr0, lr1⟩ := id Br
          go_wp2
          refine bodyPost_ret (v := .tuple #[.agg #[.bool false, .slice none 0 0], .bool false]) (by simp [results, Tryz.results19, go_sem, kw0, kw1, kr0, kr1, ku0, ku1, lr0, lr1]) rfl (NO.out _ ((bel.setCell (by simp) _).setCell (by simp) _))
        · have h3 : 60 < Z.length := by omega
          clear hno'
          obtain ⟨kw0, kw1, -, -⟩ := id Bw
          obtain ⟨kr0, kr1, -, -⟩ := id Br
          obtain ⟨ku0, ku1, -, -⟩ := id Bu
          obtain ⟨-, -, lr0, lr1⟩ := id Br
          go_wp2
          refine bodyPost_ret (v := .tuple #[.agg #[.bool false, .slice none 0 0], .bool false]) (by simp [results, Tryz.results19, go_sem, kw0, kw1, kr0, kr1, ku0, ku1, lr0, lr1]) rfl (NO.out _ ((bel.setCell (by simp) _).setCell (by simp) _))
  · have h0 : fx = true := by cases fx <;> simp at hno ⊢
    have h1 : ¬ e < -2500 := by omega
    have h2 : ¬ 1200 < e := by omega
    have h3 : ¬ 60 < (Nm.wl z).length := by omega
    clear hno
    subst h0
    obtain ⟨b2, b3, b4⟩ := b1.out (by have := HZ.out (by omega); omega) (by omega) (by omega)
    have hu := un_bl 64 x
    have hz' : bitLen z.natAbs ≤ 1920 := by have := HZ.out (by omega); omega
    clear HZ b1 HL
    obtain ⟨low, hlow⟩ : ∃ l, l = min e (-1074) := ⟨_, rfl⟩
    have hq : unQ 64 = (-1074) := rfl
    rw [hq, ← hlow] at b2 b3
    have S1 := hid (fun a c w' h => shl_w (unI 64 x) ((-1074) - low) a c w' h (by omega) (by omega))
    have S2 := hid (fun a c w' h => shl_w z (e - low) a c w' h (by omega) (by omega))
    have eo : offD 64 x z e = unI 64 x * 2 ^ ((-1074) - low).toNat - z * 2 ^ (e - low).toNat := by unfold offD; rw [hq, hlow]
    obtain ⟨D, hD⟩ : ∃ D, D = offD 64 x z e := ⟨_, rfl⟩
    rw [← hD] at eo b4
    obtain ⟨U, hU⟩ : ∃ U, U = unI 64 x * 2 ^ ((-1074) - low).toNat := ⟨_, rfl⟩
    obtain ⟨V, hV⟩ : ∃ V, V = z * 2 ^ (e - low).toNat := ⟨_, rfl⟩
    rw [← hU] at S1 b2 eo
    rw [← hV] at S2 b3 eo
    have CN := hid (fun a c w' h => eneg_impl V a c w' h (fit_k (by omega)))
    have CA := hid (fun a b c d w' h h' => eadd_impl U (-V) a b c d w' h h' (fit_k (by omega)) (fit_k (by rw [bl_neg]; omega)) (fit_k (by rw [← Int.sub_eq_add_neg, ← eo]; omega)))
    have eV : U + -V = D := by omega
    rw [eV] at CA
    have YES : Hid (∀ (w' : World) (a' : Option Addr) (c' : Nat), Sl .u32 w' (.slice a' (Nm.wl D).length c') (Nm.wl D) → Below w.heap.size w w' → OffP 64 x z e w w' (.returned (.tuple #[.agg #[.bool (Nm.wn D), .slice a' (Nm.wl D).length c'], .bool true]))) := hid (fun w' a' c' hs' hb => ⟨D, true, a', c', rfl, fun _ => ⟨HF.out.symm, hD⟩, b4, hs', hb⟩)
    clear b2 b3 b4 eo eV hD hU hV hu hz'
    obtain ⟨gx, hgx⟩ : ∃ g, g = Nm.wn (unI 64 x) := ⟨_, rfl⟩
    obtain ⟨X, hX⟩ : ∃ g, g = Nm.wl (unI 64 x) := ⟨_, rfl⟩
    rw [← hgx, ← hX] at UX S1
    obtain ⟨gU, hgU⟩ : ∃ g, g = Nm.wn (U) := ⟨_, rfl⟩
    obtain ⟨LU, hLU⟩ : ∃ g, g = Nm.wl (U) := ⟨_, rfl⟩
    obtain ⟨gV, hgV⟩ : ∃ g, g = Nm.wn (V) := ⟨_, rfl⟩
    obtain ⟨LV, hLV⟩ : ∃ g, g = Nm.wl (V) := ⟨_, rfl⟩
    obtain ⟨gN, hgN⟩ : ∃ g, g = Nm.wn (-V) := ⟨_, rfl⟩
    obtain ⟨LN, hLN⟩ : ∃ g, g = Nm.wl (-V) := ⟨_, rfl⟩
    obtain ⟨gD, hgD⟩ : ∃ g, g = Nm.wn (D) := ⟨_, rfl⟩
    obtain ⟨LD, hLD⟩ : ∃ g, g = Nm.wl (D) := ⟨_, rfl⟩
    rw [← hgU, ← hLU] at S1
    rw [← hgV, ← hLV] at S2 CN
    rw [← hgN, ← hLN] at CN
    rw [← hgU, ← hLU, ← hgN, ← hLN, ← hgD, ← hLD] at CA
    rw [← hgD, ← hLD] at YES
    clear hgU hLU hgV hLV hgN hLN hgD hLD
    obtain ⟨gz, hgz⟩ : ∃ g, g = Nm.wn z := ⟨_, rfl⟩
    obtain ⟨Z, hZ⟩ : ∃ g, g = Nm.wl z := ⟨_, rfl⟩
    rw [← hgz, ← hZ] at S2 ⊢
    rw [← hZ] at hs h3
    clear hgx hX hgz hZ HF hl hq
    have hW1 : IntKind.i64.wrap ((-1074) - low) = (-1074) - low := by rw [IntKind.wrap_i64]; omega
    have hW2 : IntKind.i64.wrap (e - low) = e - low := by rw [IntKind.wrap_i64]; omega
    have hW3 : wrap64 ((-1074) - low) = (-1074) - low := by unfold wrap64; omega
    have hW4 : wrap64 (e - low) = e - low := by unfold wrap64; omega
    have HLO := hid hlow
    clear hlow
    have bel := Below.refl w.heap.size w
    go_enter Tryz.func19, Tryz.ntmps19
    replace hT := hT.below (al_b _ (.cells #[.bool gz, .slice p Z.length c] 26))
    replace hs := hs.below (al_b _ (.cells #[.bool gz, .slice p Z.length c] 26))
    replace bel := bel_al bel (.cells #[.bool gz, .slice p Z.length c] 26)
    have Bw := R2.new w (.bool gz) (.slice p Z.length c) 26
    replace hT := hT.below (al_b _ (.cells #[.bool false, .slice none 0 0] 26))
    replace hs := hs.below (al_b _ (.cells #[.bool false, .slice none 0 0] 26))
    replace Bw := Bw.below (al_b _ (.cells #[.bool false, .slice none 0 0] 26))
    replace bel := bel_al bel (.cells #[.bool false, .slice none 0 0] 26)
    have Br := R2.new (w.alloc (.cells #[.bool gz, .slice p Z.length c] 26)) (.bool false) (.slice none 0 0) 26
    have hsz : (w.alloc (.cells #[.bool gz, .slice p Z.length c] 26)).heap.size = w.heap.size + 1 := by simp
    rw [hsz] at Br
    clear hsz
    obtain ⟨kw0, kw1, -, -⟩ := id Bw
    obtain ⟨kr0, kr1, -, -⟩ := id Br
    go_wp2_with fail
    refine (UN.out _).mono ?_
    rintro r w1 ⟨rfl, hb⟩
    clear kw0 kw1 kr0 kr1
    replace bel := bel_go bel hb
    replace hT := hT.below hb
    replace hs := hs.below hb
    replace Bw := Bw.below hb
    replace Br := Br.below hb
    clear hb
    obtain ⟨kw0, kw1, -, -⟩ := id Bw
    obtain ⟨kr0, kr1, -, -⟩ := id Br
    go_wp2_with fail
    refine (UX.out _ hT).mono ?_
    rintro r w2 ⟨ax, cx, rfl, ox, hb⟩
    clear kw0 kw1 kr0 kr1
    replace bel := bel_go bel hb
    replace hT := hT.below hb
    replace hs := hs.below hb
    replace Bw := Bw.below hb
    replace Br := Br.below hb
    clear hb
    have sx := ox.sl
    clear ox
    replace hT := hT.below (al_b _ (.cells #[.bool gx, .slice ax X.length cx] 26))
    replace hs := hs.below (al_b _ (.cells #[.bool gx, .slice ax X.length cx] 26))
    replace Bw := Bw.below (al_b _ (.cells #[.bool gx, .slice ax X.length cx] 26))
    replace Br := Br.below (al_b _ (.cells #[.bool gx, .slice ax X.length cx] 26))
    replace sx := sx.below (al_b _ (.cells #[.bool gx, .slice ax X.length cx] 26))
    replace bel := bel_al bel (.cells #[.bool gx, .slice ax X.length cx] 26)
    have Bu := R2.new w2 (.bool gx) (.slice ax X.length cx) 26
    go_upto_region 3 with fail
    generalize hWW : w2.alloc (.cells #[.bool gx, .slice ax X.length cx] 26) = W1 at bel hs hT Bw Br Bu sx ⊢
    clear hWW
    go_cut [13] (fun s wx => s = .int .i64 low ∧ wx = W1)
    case first =>
      by_cases hc : e < (-1074)
      all_goals go_wp2_with fail
      all_goals go_meet
      all_goals exact ⟨by rw [HLO.out]; congr 1; omega, rfl⟩
    case rest =>
    obtain ⟨rfl, rfl⟩ := hcut
    obtain ⟨kw0, kw1, -, -⟩ := id Bw
    obtain ⟨kr0, kr1, -, -⟩ := id Br
    obtain ⟨ku0, ku1, -, -⟩ := id Bu
    go_wp2_with fail
    refine (S1.out ax cx _ sx).mono ?_
    rintro r w3 ⟨a1, c1, rfl, o1, hb⟩
    clear kw0 kw1 kr0 kr1 ku0 ku1
    replace bel := bel_go bel hb
    replace hT := hT.below hb
    replace hs := hs.below hb
    replace Bw := Bw.below hb
    replace Br := Br.below hb
    replace sx := sx.below hb
    replace Bu := Bu.below hb
    clear hb
    have s1 := o1.sl
    clear o1
    replace hT := hT.below (al_b _ (.cells #[.bool gU, .slice a1 LU.length c1] 26))
    replace hs := hs.below (al_b _ (.cells #[.bool gU, .slice a1 LU.length c1] 26))
    replace Bw := Bw.below (al_b _ (.cells #[.bool gU, .slice a1 LU.length c1] 26))
    replace Br := Br.below (al_b _ (.cells #[.bool gU, .slice a1 LU.length c1] 26))
    replace sx := sx.below (al_b _ (.cells #[.bool gU, .slice a1 LU.length c1] 26))
    replace Bu := Bu.below (al_b _ (.cells #[.bool gU, .slice a1 LU.length c1] 26))
    replace s1 := s1.below (al_b _ (.cells #[.bool gU, .slice a1 LU.length c1] 26))
    replace bel := bel_al bel (.cells #[.bool gU, .slice a1 LU.length c1] 26)
    have Ba := R2.new w3 (.bool gU) (.slice a1 LU.length c1) 26
    obtain ⟨kw0, kw1, -, -⟩ := id Bw
    obtain ⟨kr0, kr1, -, -⟩ := id Br
    obtain ⟨ku0, ku1, -, -⟩ := id Bu
    obtain ⟨ka0, ka1, -, -⟩ := id Ba
    go_wp2_with fail
    refine (S2.out p c _ hs).mono ?_
    rintro r w4 ⟨a2, c2, rfl, o2, hb⟩
    clear kw0 kw1 kr0 kr1 ku0 ku1 ka0 ka1
    replace bel := bel_go bel hb
    replace hT := hT.below hb
    replace hs := hs.below hb
    replace Bw := Bw.below hb
    replace Br := Br.below hb
    replace sx := sx.below hb
    replace Bu := Bu.below hb
    replace s1 := s1.below hb
    replace Ba := Ba.below hb
    clear hb
    have s2 := o2.sl
    clear o2
    replace hT := hT.below (al_b _ (.cells #[.bool gV, .slice a2 LV.length c2] 26))
    replace hs := hs.below (al_b _ (.cells #[.bool gV, .slice a2 LV.length c2] 26))
    replace Bw := Bw.below (al_b _ (.cells #[.bool gV, .slice a2 LV.length c2] 26))
    replace Br := Br.below (al_b _ (.cells #[.bool gV, .slice a2 LV.length c2] 26))
    replace sx := sx.below (al_b _ (.cells #[.bool gV, .slice a2 LV.length c2] 26))
    replace Bu := Bu.below (al_b _ (.cells #[.bool gV, .slice a2 LV.length c2] 26))
    replace s1 := s1.below (al_b _ (.cells #[.bool gV, .slice a2 LV.length c2] 26))
    replace Ba := Ba.below (al_b _ (.cells #[.bool gV, .slice a2 LV.length c2] 26))
    replace s2 := s2.below (al_b _ (.cells #[.bool gV, .slice a2 LV.length c2] 26))
    replace bel := bel_al bel (.cells #[.bool gV, .slice a2 LV.length c2] 26)
    have Bb := R2.new w4 (.bool gV) (.slice a2 LV.length c2) 26
    go_upto_region 8 with fail
    generalize hWW : w4.alloc (.cells #[.bool gV, .slice a2 LV.length c2] 26) = W at bel hs hT Bw Br Bu Ba Bb s1 s2 ⊢
    clear hWW hs hT Bw Bu
    have belR := Below.drew (Below.refl W.heap.size W)
    refine wp_region_held_drew (S := fun w' => (w'.cell? ⟨w3.heap.size, 0, none⟩ = some (.bool gU) ∧ w'.cell? ⟨w3.heap.size, 1, none⟩ = some (.slice a1 LU.length c1)) ∧ w'.cell? ⟨w4.heap.size, 0, none⟩ = some (.bool gV) ∧ w'.cell? ⟨w4.heap.size, 1, none⟩ = some (.slice a2 LV.length c2)) (by kernel_rfl) ?_ (fun hHeld => ?_)
    · exact ⟨⟨Ba.c0, Ba.c1⟩, Bb.c0, Bb.c1⟩
    generalize W.drew = v0 at belR hHeld ⊢
    refine tk 0 ?_ rfl (Or.inl ⟨by rfl, ?_⟩) ?_
    rotate_left
    · (intro w hSw; (try dsimp only at hSw); obtain ⟨⟨hS0, hS1⟩, hS2, hS3⟩ := hSw; go_simp; try (with_reducible rfl))
    try simp only [Act.put, Ls]
    refine tk 1 ?_ rfl (Or.inl ⟨by rfl, ?_⟩) ?_
    rotate_left
    · (intro w hSw; (try dsimp only at hSw); obtain ⟨⟨hS0, hS1⟩, hS2, hS3⟩ := hSw; go_simp; try (with_reducible rfl))
    try simp only [Act.put, Ls]
    refine wpAnyH_ready (rs := [2, 7]) (by kernel_rfl) (by simp) ?_
    refine AllReadyH.cons (o := _) rfl (fun K hK => ?_) (AllReadyH.cons (o := _) rfl (fun K hK => ?_) AllReadyH.nil)
    · go_simp
      go_at_call 79
      refine (CN.out a2 c2 _ (s2.below belR)).mono ?_
      rintro r v1 ⟨a7, c7, rfl, o7, hb'⟩
      have hz' := belR.size
      replace belR := bel_go belR hb'
      replace o7 := Own.base o7 (B' := W.heap.size) (by omega)
      clear hb' hz'
      refine hK.out _ _ ?_ (fun hHeld => ?_)
      · exact ⟨⟨(Ba.below belR).c0, (Ba.below belR).c1⟩, (Bb.below belR).c0, (Bb.below belR).c1⟩
      clear hK K
      try simp only [Act.put, Ls]
      refine wpAnyH_ready (rs := [3, 7]) (by kernel_rfl) (by simp) ?_
      refine AllReadyH.cons (o := _) rfl (fun K hK => ?_) (AllReadyH.cons (o := _) rfl (fun K hK => ?_) AllReadyH.nil)
      · go_simp
        go_at_call 78
        refine (CA.out a1 a7 c1 c7 _ (s1.below belR) o7.sl).mono ?_
        rintro r v2 ⟨a8, c8, rfl, o8, hb'⟩
        replace o7 := o7.below hb'
        have hz' := belR.size
        replace belR := bel_go belR hb'
        replace o8 := Own.base o8 (B' := W.heap.size) (by omega)
        clear hb' hz'
        refine hK.out _ _ ?_ (fun hHeld => ?_)
        · exact ⟨⟨(Ba.below belR).c0, (Ba.below belR).c1⟩, (Bb.below belR).c0, (Bb.below belR).c1⟩
        clear hK K
        try simp only [Act.put, Ls]
        refine tk 4 ?_ rfl (Or.inl ⟨by rfl, ?_⟩) ?_
        rotate_left
        · (intro w hSw; go_simp; try (with_reducible rfl))
        try simp only [Act.put, Ls]
        refine tk 5 ?_ rfl (Or.inl ⟨by rfl, ?_⟩) ?_
        rotate_left
        · (intro w hSw; go_simp; try (with_reducible rfl))
        try simp only [Act.put, Ls]
        refine tk 6 ?_ rfl (Or.inl ⟨by rfl, ?_⟩) ?_
        rotate_left
        · (intro w hSw; go_simp; try (with_reducible rfl))
        try simp only [Act.put, Ls]
        refine rdy 7 rfl (fun K hK => ?_)
        go_simp
        refine hK.out _ _ ?_ (fun hHeld => ?_)
        · exact ⟨⟨(Ba.below (bel_al belR (.cells #[.bool false, .slice none 0 0] 26))).c0, (Ba.below (bel_al belR (.cells #[.bool false, .slice none 0 0] 26))).c1⟩, (Bb.below (bel_al belR (.cells #[.bool false, .slice none 0 0] 26))).c0, (Bb.below (bel_al belR (.cells #[.bool false, .slice none 0 0] 26))).c1⟩
        clear hK K
        try simp only [Act.put, Ls]
        obtain ⟨b9, h2⟩ : ∃ q, q = v2.heap.size := ⟨_, rfl⟩
        have hb9 : W.heap.size ≤ b9 := by have := belR.size; omega
        have B9 := R2.new v2 (.bool false) (.slice none 0 0) 26
        rw [← h2] at B9 ⊢
        have ng7_9 : ∀ g, a7 = some ⟨g, 0, none⟩ → g ≠ b9 := fun g h => by have := (own_at o7 g h).2; omega
        have ng8_9 : ∀ g, a8 = some ⟨g, 0, none⟩ → g ≠ b9 := fun g h => by have := (own_at o8 g h).2; omega
        replace o7 := o7.below (al_b _ (.cells #[.bool false, .slice none 0 0] 26))
        replace o8 := o8.below (al_b _ (.cells #[.bool false, .slice none 0 0] 26))
        replace belR := bel_al belR (.cells #[.bool false, .slice none 0 0] 26)
        clear h2
        generalize v2.alloc (.cells #[.bool false, .slice none 0 0] 26) = v3 at B9 belR hHeld o7 o8 ⊢
        refine rdy 8 rfl (fun K hK => ?_)
        have ⟨y90, y91, y92, y93⟩ := B9
        go_simp
        have belS := ((belR.setCell (p := ⟨b9, 0, none⟩) (by simpa using hb9) (.bool gD)).setCell (p := ⟨b9, 1, none⟩) (by simpa using hb9) (.slice a8 LD.length c8))
        refine hK.out _ _ ?_ (fun hHeld => ?_)
        · exact ⟨⟨(Ba.below belS).c0, (Ba.below belS).c1⟩, (Bb.below belS).c0, (Bb.below belS).c1⟩
        clear hK K
        try simp only [Act.put, Ls]
        refine rdy 9 rfl (fun K hK => ?_)
        go_simp
        refine hK.out _ _ ?_ (fun hHeld => ?_)
        · exact ⟨⟨(Ba.below belS).c0, (Ba.below belS).c1⟩, (Bb.below belS).c0, (Bb.below belS).c1⟩
        clear hK K
        try simp only [Act.put, Ls]
        refine wpAnyH_done (by kernel_rfl) ?_ _
        have Br' := Br.below belS
        obtain ⟨kr0, kr1, lr0, lr1⟩ := id Br'
        obtain ⟨kx0, kx1, -, -⟩ := id (R2.set B9 (.bool gD) (.slice a8 LD.length c8))
        have hr := World.block_lt_of_cell? _ _ Br.c0
        simp only [] at hr
        go_wp2
        refine bodyPost_ret (v := .tuple #[.agg #[.bool gD, .slice a8 LD.length c8], .bool true]) (by simp [results, Tryz.results19, go_sem, kr0, kr1, lr0, lr1, kx0, kx1]) rfl (YES.out _ a8 c8 ?_ ?_)
        · exact ((((o8.setOther ng8_9 _).setOther ng8_9 _).setOther (fun g h => by have := (own_at o8 g h).1; simp; omega) _).setOther (fun g h => by have := (own_at o8 g h).1; simp; omega) _).sl
        · exact ((bel.trans (belS.mono bel.size)).setCell (by simp) _).setCell (by simp) _
      · go_simp
        refine hK.out _ _ ?_ (fun hHeld => ?_)
        · exact ⟨⟨(Ba.below (bel_al belR (.cells #[.bool false, .slice none 0 0] 26))).c0, (Ba.below (bel_al belR (.cells #[.bool false, .slice none 0 0] 26))).c1⟩, (Bb.below (bel_al belR (.cells #[.bool false, .slice none 0 0] 26))).c0, (Bb.below (bel_al belR (.cells #[.bool false, .slice none 0 0] 26))).c1⟩
        clear hK K
        try simp only [Act.put, Ls]
        obtain ⟨b9, h2⟩ : ∃ q, q = v1.heap.size := ⟨_, rfl⟩
        have hb9 : W.heap.size ≤ b9 := by have := belR.size; omega
        have B9 := R2.new v1 (.bool false) (.slice none 0 0) 26
        rw [← h2] at B9 ⊢
        have ng7_9 : ∀ g, a7 = some ⟨g, 0, none⟩ → g ≠ b9 := fun g h => by have := (own_at o7 g h).2; omega
        replace o7 := o7.below (al_b _ (.cells #[.bool false, .slice none 0 0] 26))
        replace belR := bel_al belR (.cells #[.bool false, .slice none 0 0] 26)
        clear h2
        generalize v1.alloc (.cells #[.bool false, .slice none 0 0] 26) = v2 at B9 belR hHeld o7 ⊢
        refine rdy 3 rfl (fun K hK => ?_)
        go_simp
        go_at_call 78
        refine (CA.out a1 a7 c1 c7 _ (s1.below belR) o7.sl).mono ?_
        have hl9 : b9 < v2.heap.size := World.block_lt_of_cell? _ _ B9.c0
        rintro r v3 ⟨a8, c8, rfl, o8, hb'⟩
        replace o7 := o7.below hb'
        replace B9 := B9.below hb'
        have hz' := belR.size
        replace belR := bel_go belR hb'
        have ng8_9 : ∀ g, a8 = some ⟨g, 0, none⟩ → g ≠ b9 := fun g h => by have := (own_at o8 g h).1; omega
        replace o8 := Own.base o8 (B' := W.heap.size) (by omega)
        clear hl9
        clear hb' hz'
        refine hK.out _ _ ?_ (fun hHeld => ?_)
        · exact ⟨⟨(Ba.below belR).c0, (Ba.below belR).c1⟩, (Bb.below belR).c0, (Bb.below belR).c1⟩
        clear hK K
        try simp only [Act.put, Ls]
        refine tk 4 ?_ rfl (Or.inl ⟨by rfl, ?_⟩) ?_
        rotate_left
        · (intro w hSw; go_simp; try (with_reducible rfl))
        try simp only [Act.put, Ls]
        refine tk 5 ?_ rfl (Or.inl ⟨by rfl, ?_⟩) ?_
        rotate_left
        · (intro w hSw; go_simp; try (with_reducible rfl))
        try simp only [Act.put, Ls]
        refine tk 6 ?_ rfl (Or.inl ⟨by rfl, ?_⟩) ?_
        rotate_left
        · (intro w hSw; go_simp; try (with_reducible rfl))
        try simp only [Act.put, Ls]
        refine rdy 8 rfl (fun K hK => ?_)
        have ⟨y90, y91, y92, y93⟩ := B9
        go_simp
        have belS := ((belR.setCell (p := ⟨b9, 0, none⟩) (by simpa using hb9) (.bool gD)).setCell (p := ⟨b9, 1, none⟩) (by simpa using hb9) (.slice a8 LD.length c8))
        refine hK.out _ _ ?_ (fun hHeld => ?_)
        · exact ⟨⟨(Ba.below belS).c0, (Ba.below belS).c1⟩, (Bb.below belS).c0, (Bb.below belS).c1⟩
        clear hK K
        try simp only [Act.put, Ls]
        refine rdy 9 rfl (fun K hK => ?_)
        go_simp
        refine hK.out _ _ ?_ (fun hHeld => ?_)
        · exact ⟨⟨(Ba.below belS).c0, (Ba.below belS).c1⟩, (Bb.below belS).c0, (Bb.below belS).c1⟩
        clear hK K
        try simp only [Act.put, Ls]
        refine wpAnyH_done (by kernel_rfl) ?_ _
        have Br' := Br.below belS
        obtain ⟨kr0, kr1, lr0, lr1⟩ := id Br'
        obtain ⟨kx0, kx1, -, -⟩ := id (R2.set B9 (.bool gD) (.slice a8 LD.length c8))
        have hr := World.block_lt_of_cell? _ _ Br.c0
        simp only [] at hr
        go_wp2
        refine bodyPost_ret (v := .tuple #[.agg #[.bool gD, .slice a8 LD.length c8], .bool true]) (by simp [results, Tryz.results19, go_sem, kr0, kr1, lr0, lr1, kx0, kx1]) rfl (YES.out _ a8 c8 ?_ ?_)
        · exact ((((o8.setOther ng8_9 _).setOther ng8_9 _).setOther (fun g h => by have := (own_at o8 g h).1; simp; omega) _).setOther (fun g h => by have := (own_at o8 g h).1; simp; omega) _).sl
        · exact ((bel.trans (belS.mono bel.size)).setCell (by simp) _).setCell (by simp) _
    · go_simp
      refine hK.out _ _ ?_ (fun hHeld => ?_)
      · exact ⟨⟨(Ba.below (bel_al belR (.cells #[.bool false, .slice none 0 0] 26))).c0, (Ba.below (bel_al belR (.cells #[.bool false, .slice none 0 0] 26))).c1⟩, (Bb.below (bel_al belR (.cells #[.bool false, .slice none 0 0] 26))).c0, (Bb.below (bel_al belR (.cells #[.bool false, .slice none 0 0] 26))).c1⟩
      clear hK K
      try simp only [Act.put, Ls]
      obtain ⟨b9, h2⟩ : ∃ q, q = v0.heap.size := ⟨_, rfl⟩
      have hb9 : W.heap.size ≤ b9 := by have := belR.size; omega
      have B9 := R2.new v0 (.bool false) (.slice none 0 0) 26
      rw [← h2] at B9 ⊢
      replace belR := bel_al belR (.cells #[.bool false, .slice none 0 0] 26)
      clear h2
      generalize v0.alloc (.cells #[.bool false, .slice none 0 0] 26) = v1 at B9 belR hHeld ⊢
      refine rdy 2 rfl (fun K hK => ?_)
      go_simp
      go_at_call 79
      refine (CN.out a2 c2 _ (s2.below belR)).mono ?_
      have hl9 : b9 < v1.heap.size := World.block_lt_of_cell? _ _ B9.c0
      rintro r v2 ⟨a7, c7, rfl, o7, hb'⟩
      replace B9 := B9.below hb'
      have hz' := belR.size
      replace belR := bel_go belR hb'
      have ng7_9 : ∀ g, a7 = some ⟨g, 0, none⟩ → g ≠ b9 := fun g h => by have := (own_at o7 g h).1; omega
      replace o7 := Own.base o7 (B' := W.heap.size) (by omega)
      clear hl9
      clear hb' hz'
      refine hK.out _ _ ?_ (fun hHeld => ?_)
      · exact ⟨⟨(Ba.below belR).c0, (Ba.below belR).c1⟩, (Bb.below belR).c0, (Bb.below belR).c1⟩
      clear hK K
      try simp only [Act.put, Ls]
      refine rdy 3 rfl (fun K hK => ?_)
      go_simp
      go_at_call 78
      refine (CA.out a1 a7 c1 c7 _ (s1.below belR) o7.sl).mono ?_
      have hl9 : b9 < v2.heap.size := World.block_lt_of_cell? _ _ B9.c0
      rintro r v3 ⟨a8, c8, rfl, o8, hb'⟩
      replace o7 := o7.below hb'
      replace B9 := B9.below hb'
      have hz' := belR.size
      replace belR := bel_go belR hb'
      have ng8_9 : ∀ g, a8 = some ⟨g, 0, none⟩ → g ≠ b9 := fun g h => by have := (own_at o8 g h).1; omega
      replace o8 := Own.base o8 (B' := W.heap.size) (by omega)
      clear hl9
      clear hb' hz'
      refine hK.out _ _ ?_ (fun hHeld => ?_)
      · exact ⟨⟨(Ba.below belR).c0, (Ba.below belR).c1⟩, (Bb.below belR).c0, (Bb.below belR).c1⟩
      clear hK K
      try simp only [Act.put, Ls]
      refine tk 4 ?_ rfl (Or.inl ⟨by rfl, ?_⟩) ?_
      rotate_left
      · (intro w hSw; go_simp; try (with_reducible rfl))
      try simp only [Act.put, Ls]
      refine tk 5 ?_ rfl (Or.inl ⟨by rfl, ?_⟩) ?_
      rotate_left
      · (intro w hSw; go_simp; try (with_reducible rfl))
      try simp only [Act.put, Ls]
      refine tk 6 ?_ rfl (Or.inl ⟨by rfl, ?_⟩) ?_
      rotate_left
      · (intro w hSw; go_simp; try (with_reducible rfl))
      try simp only [Act.put, Ls]
      refine rdy 8 rfl (fun K hK => ?_)
      have ⟨y90, y91, y92, y93⟩ := B9
      go_simp
      have belS := ((belR.setCell (p := ⟨b9, 0, none⟩) (by simpa using hb9) (.bool gD)).setCell (p := ⟨b9, 1, none⟩) (by simpa using hb9) (.slice a8 LD.length c8))
      refine hK.out _ _ ?_ (fun hHeld => ?_)
      · exact ⟨⟨(Ba.below belS).c0, (Ba.below belS).c1⟩, (Bb.below belS).c0, (Bb.below belS).c1⟩
      clear hK K
      try simp only [Act.put, Ls]
      refine rdy 9 rfl (fun K hK => ?_)
      go_simp
      refine hK.out _ _ ?_ (fun hHeld => ?_)
      · exact ⟨⟨(Ba.below belS).c0, (Ba.below belS).c1⟩, (Bb.below belS).c0, (Bb.below belS).c1⟩
      clear hK K
      try simp only [Act.put, Ls]
      refine wpAnyH_done (by kernel_rfl) ?_ _
      have Br' := Br.below belS
      obtain ⟨kr0, kr1, lr0, lr1⟩ := id Br'
      obtain ⟨kx0, kx1, -, -⟩ := id (R2.set B9 (.bool gD) (.slice a8 LD.length c8))
      have hr := World.block_lt_of_cell? _ _ Br.c0
      simp only [] at hr
      go_wp2
      refine bodyPost_ret (v := .tuple #[.agg #[.bool gD, .slice a8 LD.length c8], .bool true]) (by simp [results, Tryz.results19, go_sem, kr0, kr1, lr0, lr1, kx0, kx1]) rfl (YES.out _ a8 c8 ?_ ?_)
      · exact ((((o8.setOther ng8_9 _).setOther ng8_9 _).setOther (fun g h => by have := (own_at o8 g h).1; simp; omega) _).setOther (fun g h => by have := (own_at o8 g h).1; simp; omega) _).sl
      · exact ((bel.trans (belS.mono bel.size)).setCell (by simp) _).setCell (by simp) _
theorem off_x {fm : Int} (hfm : fmtB fm = true) (x z e : Int) (p : Option Addr) (c : Nat) (w : World) (hT : Tab w) (x0 : 0 ≤ x) (x1 : x < 18446744073709551616) (hl : (Nm.wl z).length ≤ 200) (hs : Sl .u32 w (.slice p (Nm.wl z).length c) (Nm.wl z)) (e0 : -10000 ≤ e) (e1 : e ≤ 10000) :
    Calls Tryz.prog 19 #[.int .i64 fm, .int .u64 x, .agg #[.bool (Nm.wn z), .slice p (Nm.wl z).length c], .int .i64 e] w fun r w' => OffP fm x z e w w' r := by
  rcases fmt_cases hfm with rfl | rfl
  · exact off_32 x z e p c w hT x0 x1 hl hs e0 e1
  · exact off_64 x z e p c w hT x0 x1 hl hs e0 e1
end Fd
end Go.Proofs.YtbhfbaogmkgmiaaGreatDoor
