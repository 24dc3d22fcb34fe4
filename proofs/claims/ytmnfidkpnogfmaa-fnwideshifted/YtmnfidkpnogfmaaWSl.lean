/-
  What is shifted up comes back: the law.
-/
import Derived.Test.YtmnfidkpnogfmaaK29
import Derived.Test.YtmnfidkpnogfmaaK28
import Derived.Test.YtmnfidkpnogfmaaK26
import Derived.Test.YtmnfidkpnogfmaaK25
import Derived.Test.YtmnfidkpnogfmaaK03
import Derived.Test.YtmnfidkpnogfmaaK15
namespace Go.Proofs.Ytmnfidkpnogfmaa
set_option linter.unusedVariables false
set_option linter.unusedSimpArgs false
open Go.RowKit Go.Deep
namespace Fw
open Go.Proofs.Ytmnfidkpnogfmaa.Fd (bl_shl fit_k wl_abs wn_abs byteOf_any)
theorem out_len (v : Int) : (Nm.outL v).length ≤ 200 := by
  unfold Nm.outL
  split
  · rename_i h; unfold Nm.fits at h; simpa using h
  · simp
theorem op_len (o : Bool) (v : Int) : (opL o v).length ≤ 200 := by
  unfold opL
  split
  · exact out_len v
  · simp
theorem ws_main (x n : Int) (hx : (Nm.wl x).length ≤ 100) (n0 : 0 ≤ n) (n1 : n ≤ 200) :
    bitLen x.natAbs + n.toNat ≤ 6400 ∧ (Nm.wl x).length ≤ 200 ∧ (Nm.wl (x * 2 ^ n.toNat)).length ≤ 200 ∧ (x * 2 ^ n.toNat).tdiv (2 ^ n.toNat) = x ∧ bitLen (1 : Int).natAbs + n.toNat ≤ 6400 ∧ (Nm.wl (2 ^ n.toNat)).length ≤ 200 ∧ (Nm.wl (x.tdiv (2 ^ n.toNat))).length ≤ 200 ∧ bitLen (x.tdiv (2 ^ n.toNat)).natAbs + n.toNat ≤ 6400 ∧ (Nm.wl (x.tdiv (2 ^ n.toNat) * 2 ^ n.toNat)).length ≤ 200 ∧ decide (cmpI ((x.tdiv (2 ^ n.toNat) * 2 ^ n.toNat).natAbs : Nat) (x.natAbs : Nat) ≤ 0) = true := by
  have b0 := len_bl hx
  have hp : (0 : Int) < 2 ^ n.toNat := Int.pow_pos (by decide)
  have e1 : (x * 2 ^ n.toNat).tdiv (2 ^ n.toNat) = x := Int.mul_tdiv_cancel x (Int.ne_of_gt hp)
  have b1 := bl_shl x n.toNat
  have b2 := bl_shl (1 : Int) n.toNat
  have o1 : bitLen (1 : Int).natAbs = 1 := by decide +kernel
  have h3 : (x.tdiv (2 ^ n.toNat)).natAbs ≤ x.natAbs := tdiv_bl x n.toNat
  have b3 : bitLen (x.tdiv (2 ^ n.toNat)).natAbs ≤ bitLen x.natAbs := ((Nm.bl_le_iff _ _).2 (Nat.lt_of_le_of_lt h3 ((Nm.bl_le_iff _ _).1 (Nat.le_refl _))))
  have b4 := bl_shl (x.tdiv (2 ^ n.toNat)) n.toNat
  have h5 : (x.tdiv (2 ^ n.toNat) * 2 ^ n.toNat).natAbs ≤ x.natAbs := by
    rw [Int.natAbs_mul, Int.natAbs_tdiv]; exact Nat.div_mul_le_self _ _
  refine ⟨by omega, by omega, fit_k (by omega), e1, by omega, fit_k (by rw [Int.one_mul] at b2; omega), wl_le h3 (by omega), by omega, wl_le h5 (by omega), ?_⟩
  unfold cmpI
  rw [decide_eq_true_eq]
  split
  · decide
  · rw [if_neg (by omega)]; decide
set_option maxHeartbeats 16000000 in
set_option maxRecDepth 100000 in
theorem wslaw (ca : Option Addr) (cc : Nat) (cs : List Int) (w : World) (hs : Sl .u8 w (.slice ca cs.length cc) cs) (hby : ∀ i, 0 ≤ cs.getD i 0 ∧ cs.getD i 0 ≤ 255) (hl : cs.length ≤ 1048576) :
    Calls Try.prog 11 #[.slice ca cs.length cc] w fun e w' => e = .returned (.bool true) ∧ Below w.heap.size w w' := by
  go_enter Try.func11, Try.ntmps11
  go_wp2_with fail
  refine (big_any ca cs.length cc _ (by omega) false (by simp; omega)).mono ?_
  rintro r w0 ⟨rfl, rfl⟩
  go_wp2_with fail
  refine (drawSh_any ca cc cs _ hs hby hl).mono ?_
  rintro r w1 ⟨na, xs, aa, cA, n, rfl, lx, dx, oa, bel⟩
  have sa := oa.sl
  clear oa
  have SI := hid (fun a c w' h => wsh_impl na a c xs n w' h dx (by omega))
  have SS := hid (fun a c w' h => wsh_spec na a c xs n w' h dx (by omega))
  have OK := hid (fun a c w' h => ok_spec na a c xs w' h (by omega))
  have BY := hid (fun w' h => byteOf_any ca cc cs 1 (by decide) (by decide) w' h hby hl)
  have LL := op_len (okB na xs && inZ n (-10000) 10000) (Nm.shV na (Nm.val xs) n)
  have hsB := hs.below bel
  obtain ⟨G, h_G⟩ : ∃ q, q = opN (okB na xs && inZ n (-10000) 10000) (Nm.shV na (Nm.val xs) n) := ⟨_, rfl⟩
  obtain ⟨L, h_L⟩ : ∃ q, q = opL (okB na xs && inZ n (-10000) 10000) (Nm.shV na (Nm.val xs) n) := ⟨_, rfl⟩
  obtain ⟨O, h_O⟩ : ∃ q, q = opO (okB na xs && inZ n (-10000) 10000) (Nm.shV na (Nm.val xs) n) := ⟨_, rfl⟩
  rw [← h_G, ← h_L, ← h_O] at SI SS
  rw [← h_L] at LL
  clear h_G h_L h_O hby
  have ne_O : (O != O) = false := by simp
  have eq_O : (O == O) = true := by simp
  have KX := hid (fun h : okB na xs = true => okB_is dx h)
  obtain ⟨ok, h_ok⟩ : ∃ q, q = okB na xs := ⟨_, rfl⟩
  rw [← h_ok] at OK
  cases ok
  · clear BY KX h_ok hsB
    replace sa := sa.below (al_b _ (.cells #[.bool na, .slice aa xs.length cA] 65))
    replace bel := bel_al bel (.cells #[.bool na, .slice aa xs.length cA] 65)
    have Ba := R2.new w1 (.bool na) (.slice aa xs.length cA) 65
    obtain ⟨ka0, ka1, -, -⟩ := id Ba
    go_wp2_with fail
    refine (SI.out aa cA _ sa).mono ?_
    rintro r w2 ⟨aS, cS, rfl, os, hb⟩
    clear ka0 ka1
    replace bel := bel_go bel hb
    replace sa := sa.below hb
    replace Ba := Ba.below hb
    clear hb
    have ss := os.sl
    clear os
    replace sa := sa.below (al_b _ (.cells #[.bool G, .slice aS L.length cS] 65))
    replace Ba := Ba.below (al_b _ (.cells #[.bool G, .slice aS L.length cS] 65))
    replace ss := ss.below (al_b _ (.cells #[.bool G, .slice aS L.length cS] 65))
    replace bel := bel_al bel (.cells #[.bool G, .slice aS L.length cS] 65)
    have Bs := R2.new w2 (.bool G) (.slice aS L.length cS) 65
    obtain ⟨ka0, ka1, -, -⟩ := id Ba
    obtain ⟨ks0, ks1, -, -⟩ := id Bs
    go_wp2_with fail
    refine (SS.out aa cA _ sa).mono ?_
    rintro r w3 ⟨at', cT, rfl, ot, hb⟩
    clear ka0 ka1 ks0 ks1
    replace bel := bel_go bel hb
    replace sa := sa.below hb
    replace Ba := Ba.below hb
    replace ss := ss.below hb
    replace Bs := Bs.below hb
    clear hb
    have st := ot.sl
    clear ot
    replace sa := sa.below (al_b _ (.cells #[.bool G, .slice at' L.length cT] 65))
    replace Ba := Ba.below (al_b _ (.cells #[.bool G, .slice at' L.length cT] 65))
    replace ss := ss.below (al_b _ (.cells #[.bool G, .slice at' L.length cT] 65))
    replace Bs := Bs.below (al_b _ (.cells #[.bool G, .slice at' L.length cT] 65))
    replace st := st.below (al_b _ (.cells #[.bool G, .slice at' L.length cT] 65))
    replace bel := bel_al bel (.cells #[.bool G, .slice at' L.length cT] 65)
    have Bt := R2.new w3 (.bool G) (.slice at' L.length cT) 65
    obtain ⟨ka0, ka1, -, -⟩ := id Ba
    obtain ⟨ks0, ks1, -, -⟩ := id Bs
    obtain ⟨kt0, kt1, -, -⟩ := id Bt
    go_wp2_with fail
    refine (same_yes G aS at' cS cT L _ ss st (by omega)).mono ?_
    rintro r w4 ⟨rfl, hb⟩
    clear ka0 ka1 ks0 ks1 kt0 kt1
    replace bel := bel_go bel hb
    replace sa := sa.below hb
    replace Ba := Ba.below hb
    replace ss := ss.below hb
    replace Bs := Bs.below hb
    replace st := st.below hb
    replace Bt := Bt.below hb
    clear hb
    obtain ⟨ka0, ka1, -, -⟩ := id Ba
    obtain ⟨ks0, ks1, -, -⟩ := id Bs
    obtain ⟨kt0, kt1, -, -⟩ := id Bt
    go_wp2_with fail
    refine (OK.out aa cA _ sa).mono ?_
    rintro r w5 ⟨rfl, hb⟩
    clear ka0 ka1 ks0 ks1 kt0 kt1
    replace bel := bel_go bel hb
    replace sa := sa.below hb
    replace Ba := Ba.below hb
    replace ss := ss.below hb
    replace Bs := Bs.below hb
    replace st := st.below hb
    replace Bt := Bt.below hb
    clear hb
    obtain ⟨ka0, ka1, -, -⟩ := id Ba
    obtain ⟨ks0, ks1, -, -⟩ := id Bs
    obtain ⟨kt0, kt1, -, -⟩ := id Bt
    go_wp2_with fail
    refine (same_yes G aS at' cS cT L _ ss st (by omega)).mono ?_
    rintro r w6 ⟨rfl, hb⟩
    clear ka0 ka1 ks0 ks1 kt0 kt1
    replace bel := bel_go bel hb
    replace sa := sa.below hb
    replace Ba := Ba.below hb
    replace ss := ss.below hb
    replace Bs := Bs.below hb
    replace st := st.below hb
    replace Bt := Bt.below hb
    clear hb
    obtain ⟨ka0, ka1, -, -⟩ := id Ba
    obtain ⟨ks0, ks1, -, -⟩ := id Bs
    obtain ⟨kt0, kt1, -, -⟩ := id Bt
    go_wp2
    all_goals go_ret
    all_goals exact ⟨rfl, bel⟩
  · by_cases hn : 100 < xs.length
    · have hn' : decide ((100 : Int) < (xs.length : Int)) = true := decide_eq_true (by omega)
      have hn2 : ((xs.length : Int) > 100) := by omega
      clear BY KX h_ok hsB hn
      replace sa := sa.below (al_b _ (.cells #[.bool na, .slice aa xs.length cA] 65))
      replace bel := bel_al bel (.cells #[.bool na, .slice aa xs.length cA] 65)
      have Ba := R2.new w1 (.bool na) (.slice aa xs.length cA) 65
      obtain ⟨ka0, ka1, -, -⟩ := id Ba
      go_wp2_with fail
      refine (SI.out aa cA _ sa).mono ?_
      rintro r w2 ⟨aS, cS, rfl, os, hb⟩
      clear ka0 ka1
      replace bel := bel_go bel hb
      replace sa := sa.below hb
      replace Ba := Ba.below hb
      clear hb
      have ss := os.sl
      clear os
      replace sa := sa.below (al_b _ (.cells #[.bool G, .slice aS L.length cS] 65))
      replace Ba := Ba.below (al_b _ (.cells #[.bool G, .slice aS L.length cS] 65))
      replace ss := ss.below (al_b _ (.cells #[.bool G, .slice aS L.length cS] 65))
      replace bel := bel_al bel (.cells #[.bool G, .slice aS L.length cS] 65)
      have Bs := R2.new w2 (.bool G) (.slice aS L.length cS) 65
      obtain ⟨ka0, ka1, -, -⟩ := id Ba
      obtain ⟨ks0, ks1, -, -⟩ := id Bs
      go_wp2_with fail
      refine (SS.out aa cA _ sa).mono ?_
      rintro r w3 ⟨at', cT, rfl, ot, hb⟩
      clear ka0 ka1 ks0 ks1
      replace bel := bel_go bel hb
      replace sa := sa.below hb
      replace Ba := Ba.below hb
      replace ss := ss.below hb
      replace Bs := Bs.below hb
      clear hb
      have st := ot.sl
      clear ot
      replace sa := sa.below (al_b _ (.cells #[.bool G, .slice at' L.length cT] 65))
      replace Ba := Ba.below (al_b _ (.cells #[.bool G, .slice at' L.length cT] 65))
      replace ss := ss.below (al_b _ (.cells #[.bool G, .slice at' L.length cT] 65))
      replace Bs := Bs.below (al_b _ (.cells #[.bool G, .slice at' L.length cT] 65))
      replace st := st.below (al_b _ (.cells #[.bool G, .slice at' L.length cT] 65))
      replace bel := bel_al bel (.cells #[.bool G, .slice at' L.length cT] 65)
      have Bt := R2.new w3 (.bool G) (.slice at' L.length cT) 65
      obtain ⟨ka0, ka1, -, -⟩ := id Ba
      obtain ⟨ks0, ks1, -, -⟩ := id Bs
      obtain ⟨kt0, kt1, -, -⟩ := id Bt
      go_wp2_with fail
      refine (same_yes G aS at' cS cT L _ ss st (by omega)).mono ?_
      rintro r w4 ⟨rfl, hb⟩
      clear ka0 ka1 ks0 ks1 kt0 kt1
      replace bel := bel_go bel hb
      replace sa := sa.below hb
      replace Ba := Ba.below hb
      replace ss := ss.below hb
      replace Bs := Bs.below hb
      replace st := st.below hb
      replace Bt := Bt.below hb
      clear hb
      obtain ⟨ka0, ka1, -, -⟩ := id Ba
      obtain ⟨ks0, ks1, -, -⟩ := id Bs
      obtain ⟨kt0, kt1, -, -⟩ := id Bt
      go_wp2_with fail
      refine (OK.out aa cA _ sa).mono ?_
      rintro r w5 ⟨rfl, hb⟩
      clear ka0 ka1 ks0 ks1 kt0 kt1
      replace bel := bel_go bel hb
      replace sa := sa.below hb
      replace Ba := Ba.below hb
      replace ss := ss.below hb
      replace Bs := Bs.below hb
      replace st := st.below hb
      replace Bt := Bt.below hb
      clear hb
      obtain ⟨ka0, ka1, -, -⟩ := id Ba
      obtain ⟨ks0, ks1, -, -⟩ := id Bs
      obtain ⟨kt0, kt1, -, -⟩ := id Bt
      go_wp2_with fail
      refine (same_yes G aS at' cS cT L _ ss st (by omega)).mono ?_
      rintro r w6 ⟨rfl, hb⟩
      clear ka0 ka1 ks0 ks1 kt0 kt1
      replace bel := bel_go bel hb
      replace sa := sa.below hb
      replace Ba := Ba.below hb
      replace ss := ss.below hb
      replace Bs := Bs.below hb
      replace st := st.below hb
      replace Bt := Bt.below hb
      clear hb
      obtain ⟨ka0, ka1, -, -⟩ := id Ba
      obtain ⟨ks0, ks1, -, -⟩ := id Bs
      obtain ⟨kt0, kt1, -, -⟩ := id Bt
      go_wp2
      all_goals go_ret
      all_goals exact ⟨rfl, bel⟩
    · replace h_ok := hid h_ok
      have hn' : decide ((100 : Int) < (xs.length : Int)) = false := decide_eq_false (by omega)
      have hn2 : ¬ ((xs.length : Int) > 100) := by omega
      replace sa := sa.below (al_b _ (.cells #[.bool na, .slice aa xs.length cA] 65))
      replace hsB := hsB.below (al_b _ (.cells #[.bool na, .slice aa xs.length cA] 65))
      replace bel := bel_al bel (.cells #[.bool na, .slice aa xs.length cA] 65)
      have Ba := R2.new w1 (.bool na) (.slice aa xs.length cA) 65
      obtain ⟨ka0, ka1, -, -⟩ := id Ba
      go_wp2_with fail
      refine (SI.out aa cA _ sa).mono ?_
      rintro r w2 ⟨aS, cS, rfl, os, hb⟩
      clear ka0 ka1
      replace bel := bel_go bel hb
      replace sa := sa.below hb
      replace hsB := hsB.below hb
      replace Ba := Ba.below hb
      clear hb
      have ss := os.sl
      clear os
      replace sa := sa.below (al_b _ (.cells #[.bool G, .slice aS L.length cS] 65))
      replace hsB := hsB.below (al_b _ (.cells #[.bool G, .slice aS L.length cS] 65))
      replace Ba := Ba.below (al_b _ (.cells #[.bool G, .slice aS L.length cS] 65))
      replace ss := ss.below (al_b _ (.cells #[.bool G, .slice aS L.length cS] 65))
      replace bel := bel_al bel (.cells #[.bool G, .slice aS L.length cS] 65)
      have Bs := R2.new w2 (.bool G) (.slice aS L.length cS) 65
      obtain ⟨ka0, ka1, -, -⟩ := id Ba
      obtain ⟨ks0, ks1, -, -⟩ := id Bs
      go_wp2_with fail
      refine (SS.out aa cA _ sa).mono ?_
      rintro r w3 ⟨at', cT, rfl, ot, hb⟩
      clear ka0 ka1 ks0 ks1
      replace bel := bel_go bel hb
      replace sa := sa.below hb
      replace hsB := hsB.below hb
      replace Ba := Ba.below hb
      replace ss := ss.below hb
      replace Bs := Bs.below hb
      clear hb
      have st := ot.sl
      clear ot
      replace sa := sa.below (al_b _ (.cells #[.bool G, .slice at' L.length cT] 65))
      replace hsB := hsB.below (al_b _ (.cells #[.bool G, .slice at' L.length cT] 65))
      replace Ba := Ba.below (al_b _ (.cells #[.bool G, .slice at' L.length cT] 65))
      replace ss := ss.below (al_b _ (.cells #[.bool G, .slice at' L.length cT] 65))
      replace Bs := Bs.below (al_b _ (.cells #[.bool G, .slice at' L.length cT] 65))
      replace st := st.below (al_b _ (.cells #[.bool G, .slice at' L.length cT] 65))
      replace bel := bel_al bel (.cells #[.bool G, .slice at' L.length cT] 65)
      have Bt := R2.new w3 (.bool G) (.slice at' L.length cT) 65
      obtain ⟨ka0, ka1, -, -⟩ := id Ba
      obtain ⟨ks0, ks1, -, -⟩ := id Bs
      obtain ⟨kt0, kt1, -, -⟩ := id Bt
      go_wp2_with fail
      refine (same_yes G aS at' cS cT L _ ss st (by omega)).mono ?_
      rintro r w4 ⟨rfl, hb⟩
      clear ka0 ka1 ks0 ks1 kt0 kt1
      replace bel := bel_go bel hb
      replace sa := sa.below hb
      replace hsB := hsB.below hb
      replace Ba := Ba.below hb
      replace ss := ss.below hb
      replace Bs := Bs.below hb
      replace st := st.below hb
      replace Bt := Bt.below hb
      clear hb
      obtain ⟨ka0, ka1, -, -⟩ := id Ba
      obtain ⟨ks0, ks1, -, -⟩ := id Bs
      obtain ⟨kt0, kt1, -, -⟩ := id Bt
      go_wp2_with fail
      refine (OK.out aa cA _ sa).mono ?_
      rintro r w5 ⟨rfl, hb⟩
      clear ka0 ka1 ks0 ks1 kt0 kt1
      replace bel := bel_go bel hb
      replace sa := sa.below hb
      replace hsB := hsB.below hb
      replace Ba := Ba.below hb
      replace ss := ss.below hb
      replace Bs := Bs.below hb
      replace st := st.below hb
      replace Bt := Bt.below hb
      clear hb
      clear Bs
      clear Bt
      clear ss
      clear st
      obtain ⟨ka0, ka1, -, -⟩ := id Ba
      go_wp2_with fail
      refine (BY.out _ hsB).mono ?_
      rintro r w6 ⟨v, rfl, v0, v1, hb⟩
      clear ka0 ka1
      replace bel := bel_go bel hb
      replace sa := sa.below hb
      replace hsB := hsB.below hb
      replace Ba := Ba.below hb
      clear hb
      obtain ⟨ka0, ka1, -, -⟩ := id Ba
      go_wp2_with fail
      clear ka0 ka1
      obtain ⟨x, hg, hxs, hx2⟩ := KX.out h_ok.out.symm
      obtain ⟨m, hm⟩ : ∃ m, m = v % 201 := ⟨_, rfl⟩
      rw [← hm]
      have m0 : 0 ≤ m ∧ m ≤ 200 := by omega
      have hW : IntKind.i64.wrap (-m) = -m := by rw [IntKind.wrap_i64]; omega
      have hW2 : wrap64 (-m) = -m := by unfold wrap64; omega
      obtain ⟨m1, m2, m3, m4, m5, m6, m7, m8, m9, m10⟩ := ws_main x m (by rw [← hxs]; omega) m0.1 m0.2
      have UP := hid (fun a c w' h => up_z x m a c w' h m0.1 m1)
      have BK := hid (fun a c w' h => dn_z (x * 2 ^ m.toNat) m a c w' h m0.1 (by omega) m3)
      have OF := hid (fun w' => wof_impl 1 w' (by decide) (by decide))
      have PU := hid (fun a c w' h => up_z 1 m a c w' h m0.1 m5)
      have MU := hid (fun a c b d w' h h' => mul_z x (2 ^ m.toNat) a b c d w' h h' m2 m6 m3)
      have DN := hid (fun a c w' h => dn_z x m a c w' h m0.1 (by omega) m2)
      have AG := hid (fun a c w' h => up_z (x.tdiv (2 ^ m.toNat)) m a c w' h m0.1 m8)
      have CM := hid (fun a c b d w' h h' => magc_z (x.tdiv (2 ^ m.toNat) * 2 ^ m.toNat) x a b c d w' h h' m9 m2)
      rw [m4] at BK
      rw [Int.one_mul] at PU
      rw [← hg, ← hxs] at UP BK MU DN
      rw [← hxs] at CM
      clear KX SI SS OK LL hsB m1 m2 m4 m5 m6 m7 m8 m9
      obtain ⟨gu, h_gu⟩ : ∃ q, q = Nm.wn (x * 2 ^ m.toNat) := ⟨_, rfl⟩
      obtain ⟨U, h_U⟩ : ∃ q, q = Nm.wl (x * 2 ^ m.toNat) := ⟨_, rfl⟩
      obtain ⟨g1, h_g1⟩ : ∃ q, q = Nm.wn 1 := ⟨_, rfl⟩
      obtain ⟨L1, h_L1⟩ : ∃ q, q = Nm.wl 1 := ⟨_, rfl⟩
      obtain ⟨gp, h_gp⟩ : ∃ q, q = Nm.wn (2 ^ m.toNat) := ⟨_, rfl⟩
      obtain ⟨P, h_P⟩ : ∃ q, q = Nm.wl (2 ^ m.toNat) := ⟨_, rfl⟩
      obtain ⟨gd, h_gd⟩ : ∃ q, q = Nm.wn (x.tdiv (2 ^ m.toNat)) := ⟨_, rfl⟩
      obtain ⟨Dn, h_Dn⟩ : ∃ q, q = Nm.wl (x.tdiv (2 ^ m.toNat)) := ⟨_, rfl⟩
      obtain ⟨ge, h_ge⟩ : ∃ q, q = Nm.wn (x.tdiv (2 ^ m.toNat) * 2 ^ m.toNat) := ⟨_, rfl⟩
      obtain ⟨E, h_E⟩ : ∃ q, q = Nm.wl (x.tdiv (2 ^ m.toNat) * 2 ^ m.toNat) := ⟨_, rfl⟩
      obtain ⟨k, h_k⟩ : ∃ q, q = cmpI ((x.tdiv (2 ^ m.toNat) * 2 ^ m.toNat).natAbs : Nat) (x.natAbs : Nat) := ⟨_, rfl⟩
      rw [← h_gu, ← h_U] at UP BK MU
      rw [← h_g1, ← h_L1] at OF PU
      rw [← h_gp, ← h_P] at PU MU
      rw [← h_gd, ← h_Dn] at DN AG
      rw [← h_ge, ← h_E] at AG
      rw [← h_E, ← h_k] at CM
      rw [← h_k] at m10
      rw [← h_U] at m3
      clear h_gu h_U h_g1 h_L1 h_gp h_P h_gd h_Dn h_ge h_E h_k hx2 hg hxs h_ok v0 v1 hm
      obtain ⟨ka0, ka1, -, -⟩ := id Ba
      refine (UP.out aa cA _ sa).mono ?_
      rintro r w7 ⟨au, cU, rfl, ou, hb⟩
      clear ka0 ka1
      replace bel := bel_go bel hb
      replace sa := sa.below hb
      replace Ba := Ba.below hb
      clear hb
      have su := ou.sl
      clear ou
      replace sa := sa.below (al_b _ (.cells #[.bool gu, .slice au U.length cU] 65))
      replace Ba := Ba.below (al_b _ (.cells #[.bool gu, .slice au U.length cU] 65))
      replace su := su.below (al_b _ (.cells #[.bool gu, .slice au U.length cU] 65))
      replace bel := bel_al bel (.cells #[.bool gu, .slice au U.length cU] 65)
      have Bu := R2.new w7 (.bool gu) (.slice au U.length cU) 65
      obtain ⟨ka0, ka1, -, -⟩ := id Ba
      obtain ⟨ku0, ku1, -, -⟩ := id Bu
      go_wp2_with fail
      refine (BK.out au cU _ su).mono ?_
      rintro r w8 ⟨ab, cB, rfl, ob, hb⟩
      clear ka0 ka1 ku0 ku1
      replace bel := bel_go bel hb
      replace sa := sa.below hb
      replace Ba := Ba.below hb
      replace su := su.below hb
      replace Bu := Bu.below hb
      clear hb
      have sb := ob.sl
      clear ob
      replace sa := sa.below (al_b _ (.cells #[.bool na, .slice ab xs.length cB] 65))
      replace Ba := Ba.below (al_b _ (.cells #[.bool na, .slice ab xs.length cB] 65))
      replace su := su.below (al_b _ (.cells #[.bool na, .slice ab xs.length cB] 65))
      replace Bu := Bu.below (al_b _ (.cells #[.bool na, .slice ab xs.length cB] 65))
      replace sb := sb.below (al_b _ (.cells #[.bool na, .slice ab xs.length cB] 65))
      replace bel := bel_al bel (.cells #[.bool na, .slice ab xs.length cB] 65)
      have Bb := R2.new w8 (.bool na) (.slice ab xs.length cB) 65
      obtain ⟨ka0, ka1, -, -⟩ := id Ba
      obtain ⟨ku0, ku1, -, -⟩ := id Bu
      obtain ⟨kb0, kb1, -, -⟩ := id Bb
      go_wp2_with fail
      refine (OF.out _).mono ?_
      rintro r w9 ⟨ao, cO, rfl, oo, hb⟩
      clear ka0 ka1 ku0 ku1 kb0 kb1
      replace bel := bel_go bel hb
      replace sa := sa.below hb
      replace Ba := Ba.below hb
      replace su := su.below hb
      replace Bu := Bu.below hb
      replace sb := sb.below hb
      replace Bb := Bb.below hb
      clear hb
      have so := oo.sl
      clear oo
      obtain ⟨ka0, ka1, -, -⟩ := id Ba
      obtain ⟨ku0, ku1, -, -⟩ := id Bu
      obtain ⟨kb0, kb1, -, -⟩ := id Bb
      go_wp2_with fail
      refine (PU.out ao cO _ so).mono ?_
      rintro r w10 ⟨ap, cP, rfl, op, hb⟩
      clear ka0 ka1 ku0 ku1 kb0 kb1
      replace bel := bel_go bel hb
      replace sa := sa.below hb
      replace Ba := Ba.below hb
      replace su := su.below hb
      replace Bu := Bu.below hb
      replace sb := sb.below hb
      replace Bb := Bb.below hb
      replace so := so.below hb
      clear hb
      have sp := op.sl
      clear op
      replace sa := sa.below (al_b _ (.cells #[.bool gp, .slice ap P.length cP] 65))
      replace Ba := Ba.below (al_b _ (.cells #[.bool gp, .slice ap P.length cP] 65))
      replace su := su.below (al_b _ (.cells #[.bool gp, .slice ap P.length cP] 65))
      replace Bu := Bu.below (al_b _ (.cells #[.bool gp, .slice ap P.length cP] 65))
      replace sb := sb.below (al_b _ (.cells #[.bool gp, .slice ap P.length cP] 65))
      replace Bb := Bb.below (al_b _ (.cells #[.bool gp, .slice ap P.length cP] 65))
      replace so := so.below (al_b _ (.cells #[.bool gp, .slice ap P.length cP] 65))
      replace sp := sp.below (al_b _ (.cells #[.bool gp, .slice ap P.length cP] 65))
      replace bel := bel_al bel (.cells #[.bool gp, .slice ap P.length cP] 65)
      have Bp := R2.new w10 (.bool gp) (.slice ap P.length cP) 65
      obtain ⟨ka0, ka1, -, -⟩ := id Ba
      obtain ⟨ku0, ku1, -, -⟩ := id Bu
      obtain ⟨kb0, kb1, -, -⟩ := id Bb
      obtain ⟨kp0, kp1, -, -⟩ := id Bp
      go_wp2_with fail
      refine (MU.out aa cA ap cP _ sa sp).mono ?_
      rintro r w11 ⟨am, cM, rfl, om, hb⟩
      clear ka0 ka1 ku0 ku1 kb0 kb1 kp0 kp1
      replace bel := bel_go bel hb
      replace sa := sa.below hb
      replace Ba := Ba.below hb
      replace su := su.below hb
      replace Bu := Bu.below hb
      replace sb := sb.below hb
      replace Bb := Bb.below hb
      replace so := so.below hb
      replace sp := sp.below hb
      replace Bp := Bp.below hb
      clear hb
      have sm := om.sl
      clear om
      replace sa := sa.below (al_b _ (.cells #[.bool gu, .slice am U.length cM] 65))
      replace Ba := Ba.below (al_b _ (.cells #[.bool gu, .slice am U.length cM] 65))
      replace su := su.below (al_b _ (.cells #[.bool gu, .slice am U.length cM] 65))
      replace Bu := Bu.below (al_b _ (.cells #[.bool gu, .slice am U.length cM] 65))
      replace sb := sb.below (al_b _ (.cells #[.bool gu, .slice am U.length cM] 65))
      replace Bb := Bb.below (al_b _ (.cells #[.bool gu, .slice am U.length cM] 65))
      replace so := so.below (al_b _ (.cells #[.bool gu, .slice am U.length cM] 65))
      replace sp := sp.below (al_b _ (.cells #[.bool gu, .slice am U.length cM] 65))
      replace Bp := Bp.below (al_b _ (.cells #[.bool gu, .slice am U.length cM] 65))
      replace sm := sm.below (al_b _ (.cells #[.bool gu, .slice am U.length cM] 65))
      replace bel := bel_al bel (.cells #[.bool gu, .slice am U.length cM] 65)
      have Bm := R2.new w11 (.bool gu) (.slice am U.length cM) 65
      obtain ⟨ka0, ka1, -, -⟩ := id Ba
      obtain ⟨ku0, ku1, -, -⟩ := id Bu
      obtain ⟨kb0, kb1, -, -⟩ := id Bb
      obtain ⟨kp0, kp1, -, -⟩ := id Bp
      obtain ⟨km0, km1, -, -⟩ := id Bm
      go_wp2_with fail
      refine (DN.out aa cA _ sa).mono ?_
      rintro r w12 ⟨ad, cD, rfl, od, hb⟩
      clear ka0 ka1 ku0 ku1 kb0 kb1 kp0 kp1 km0 km1
      replace bel := bel_go bel hb
      replace sa := sa.below hb
      replace Ba := Ba.below hb
      replace su := su.below hb
      replace Bu := Bu.below hb
      replace sb := sb.below hb
      replace Bb := Bb.below hb
      replace so := so.below hb
      replace sp := sp.below hb
      replace Bp := Bp.below hb
      replace sm := sm.below hb
      replace Bm := Bm.below hb
      clear hb
      have sd := od.sl
      clear od
      replace sa := sa.below (al_b _ (.cells #[.bool gd, .slice ad Dn.length cD] 65))
      replace Ba := Ba.below (al_b _ (.cells #[.bool gd, .slice ad Dn.length cD] 65))
      replace su := su.below (al_b _ (.cells #[.bool gd, .slice ad Dn.length cD] 65))
      replace Bu := Bu.below (al_b _ (.cells #[.bool gd, .slice ad Dn.length cD] 65))
      replace sb := sb.below (al_b _ (.cells #[.bool gd, .slice ad Dn.length cD] 65))
      replace Bb := Bb.below (al_b _ (.cells #[.bool gd, .slice ad Dn.length cD] 65))
      replace so := so.below (al_b _ (.cells #[.bool gd, .slice ad Dn.length cD] 65))
      replace sp := sp.below (al_b _ (.cells #[.bool gd, .slice ad Dn.length cD] 65))
      replace Bp := Bp.below (al_b _ (.cells #[.bool gd, .slice ad Dn.length cD] 65))
      replace sm := sm.below (al_b _ (.cells #[.bool gd, .slice ad Dn.length cD] 65))
      replace Bm := Bm.below (al_b _ (.cells #[.bool gd, .slice ad Dn.length cD] 65))
      replace sd := sd.below (al_b _ (.cells #[.bool gd, .slice ad Dn.length cD] 65))
      replace bel := bel_al bel (.cells #[.bool gd, .slice ad Dn.length cD] 65)
      have Bd := R2.new w12 (.bool gd) (.slice ad Dn.length cD) 65
      obtain ⟨ka0, ka1, -, -⟩ := id Ba
      obtain ⟨ku0, ku1, -, -⟩ := id Bu
      obtain ⟨kb0, kb1, -, -⟩ := id Bb
      obtain ⟨kp0, kp1, -, -⟩ := id Bp
      obtain ⟨km0, km1, -, -⟩ := id Bm
      obtain ⟨kd0, kd1, -, -⟩ := id Bd
      go_wp2_with fail
      refine (AG.out ad cD _ sd).mono ?_
      rintro r w13 ⟨ae, cE, rfl, oe, hb⟩
      clear ka0 ka1 ku0 ku1 kb0 kb1 kp0 kp1 km0 km1 kd0 kd1
      replace bel := bel_go bel hb
      replace sa := sa.below hb
      replace Ba := Ba.below hb
      replace su := su.below hb
      replace Bu := Bu.below hb
      replace sb := sb.below hb
      replace Bb := Bb.below hb
      replace so := so.below hb
      replace sp := sp.below hb
      replace Bp := Bp.below hb
      replace sm := sm.below hb
      replace Bm := Bm.below hb
      replace sd := sd.below hb
      replace Bd := Bd.below hb
      clear hb
      have se := oe.sl
      clear oe
      replace sa := sa.below (al_b _ (.cells #[.bool ge, .slice ae E.length cE] 65))
      replace Ba := Ba.below (al_b _ (.cells #[.bool ge, .slice ae E.length cE] 65))
      replace su := su.below (al_b _ (.cells #[.bool ge, .slice ae E.length cE] 65))
      replace Bu := Bu.below (al_b _ (.cells #[.bool ge, .slice ae E.length cE] 65))
      replace sb := sb.below (al_b _ (.cells #[.bool ge, .slice ae E.length cE] 65))
      replace Bb := Bb.below (al_b _ (.cells #[.bool ge, .slice ae E.length cE] 65))
      replace so := so.below (al_b _ (.cells #[.bool ge, .slice ae E.length cE] 65))
      replace sp := sp.below (al_b _ (.cells #[.bool ge, .slice ae E.length cE] 65))
      replace Bp := Bp.below (al_b _ (.cells #[.bool ge, .slice ae E.length cE] 65))
      replace sm := sm.below (al_b _ (.cells #[.bool ge, .slice ae E.length cE] 65))
      replace Bm := Bm.below (al_b _ (.cells #[.bool ge, .slice ae E.length cE] 65))
      replace sd := sd.below (al_b _ (.cells #[.bool ge, .slice ae E.length cE] 65))
      replace Bd := Bd.below (al_b _ (.cells #[.bool ge, .slice ae E.length cE] 65))
      replace se := se.below (al_b _ (.cells #[.bool ge, .slice ae E.length cE] 65))
      replace bel := bel_al bel (.cells #[.bool ge, .slice ae E.length cE] 65)
      have Be := R2.new w13 (.bool ge) (.slice ae E.length cE) 65
      clear Bp
      clear Bd
      clear so
      clear sp
      clear sd
      go_upto_region 15 with fail
      generalize (w13.alloc (.cells #[.bool ge, .slice ae E.length cE] 65)) = W at bel sa Ba su Bu sb Bb sm Bm se Be ⊢
      have belR := Below.drew (Below.refl W.heap.size W)
      refine wp_region_held_drew (S := fun w' => (w'.cell? ⟨w1.heap.size, 0, none⟩ = some (.bool na) ∧ w'.cell? ⟨w1.heap.size, 1, none⟩ = some (.slice aa xs.length cA)) ∧ (w'.cell? ⟨w7.heap.size, 0, none⟩ = some (.bool gu) ∧ w'.cell? ⟨w7.heap.size, 1, none⟩ = some (.slice au U.length cU)) ∧ (w'.cell? ⟨w8.heap.size, 0, none⟩ = some (.bool na) ∧ w'.cell? ⟨w8.heap.size, 1, none⟩ = some (.slice ab xs.length cB)) ∧ (w'.cell? ⟨w11.heap.size, 0, none⟩ = some (.bool gu) ∧ w'.cell? ⟨w11.heap.size, 1, none⟩ = some (.slice am U.length cM)) ∧ (w'.cell? ⟨w13.heap.size, 0, none⟩ = some (.bool ge) ∧ w'.cell? ⟨w13.heap.size, 1, none⟩ = some (.slice ae E.length cE))) (by kernel_rfl) ?_ (fun hHeld => ?_)
      · exact ⟨⟨(Ba).c0, (Ba).c1⟩, ⟨(Bu).c0, (Bu).c1⟩, ⟨(Bb).c0, (Bb).c1⟩, ⟨(Bm).c0, (Bm).c1⟩, ⟨(Be).c0, (Be).c1⟩⟩
      generalize W.drew = v0 at belR hHeld ⊢
      refine tk 0 ?_ rfl (Or.inl ⟨by rfl, ?_⟩) ?_
      rotate_left
      · (intro w hSw; go_simp; try (with_reducible rfl))
      try simp only [Act.put, Ls]
      refine tk 1 ?_ rfl (Or.inl ⟨by rfl, ?_⟩) ?_
      rotate_left
      · (intro w hSw; go_simp; try (with_reducible rfl))
      try simp only [Act.put, Ls]
      refine tk 2 ?_ rfl (Or.inl ⟨by rfl, ?_⟩) ?_
      rotate_left
      · (intro w hSw; go_simp; try (with_reducible rfl))
      try simp only [Act.put, Ls]
      refine tk 3 ?_ rfl (Or.inl ⟨by rfl, ?_⟩) ?_
      rotate_left
      · (intro w hSw; go_simp; try (with_reducible rfl))
      try simp only [Act.put, Ls]
      refine tk 4 ?_ rfl (Or.inl ⟨by rfl, ?_⟩) ?_
      rotate_left
      · (intro w hSw; go_simp; try (with_reducible rfl))
      try simp only [Act.put, Ls]
      refine tk 5 ?_ rfl (Or.inl ⟨by rfl, ?_⟩) ?_
      rotate_left
      · (intro w hSw; go_simp; try (with_reducible rfl))
      try simp only [Act.put, Ls]
      refine tk 6 ?_ rfl (Or.inl ⟨by rfl, ?_⟩) ?_
      rotate_left
      · (intro w hSw; go_simp; try (with_reducible rfl))
      try simp only [Act.put, Ls]
      refine tk 7 ?_ rfl (Or.inl ⟨by rfl, ?_⟩) ?_
      rotate_left
      · (intro w hSw; go_simp; try (with_reducible rfl))
      try simp only [Act.put, Ls]
      refine tk 8 ?_ rfl (Or.inl ⟨by rfl, ?_⟩) ?_
      rotate_left
      · (intro w hSw; go_simp; try (with_reducible rfl))
      try simp only [Act.put, Ls]
      refine tk 9 ?_ rfl (Or.inl ⟨by rfl, ?_⟩) ?_
      rotate_left
      · (intro w hSw; go_simp; try (with_reducible rfl))
      try simp only [Act.put, Ls]
      refine tk 10 ?_ rfl (Or.inl ⟨by rfl, ?_⟩) ?_
      rotate_left
      · (intro w hSw; go_simp; try (with_reducible rfl))
      try simp only [Act.put, Ls]
      refine tk 11 ?_ rfl (Or.inl ⟨by rfl, ?_⟩) ?_
      rotate_left
      · (intro w hSw; go_simp; try (with_reducible rfl))
      try simp only [Act.put, Ls]
      refine tk 12 ?_ rfl (Or.inl ⟨by rfl, ?_⟩) ?_
      rotate_left
      · (intro w hSw; go_simp; try (with_reducible rfl))
      try simp only [Act.put, Ls]
      refine tk 13 ?_ rfl (Or.inl ⟨by rfl, ?_⟩) ?_
      rotate_left
      · (intro w hSw; go_simp; try (with_reducible rfl))
      try simp only [Act.put, Ls]
      refine tk 14 ?_ rfl (Or.inl ⟨by rfl, ?_⟩) ?_
      rotate_left
      · (intro w hSw; go_simp; try (with_reducible rfl))
      try simp only [Act.put, Ls]
      refine tk 15 ?_ rfl (Or.inl ⟨by rfl, ?_⟩) ?_
      rotate_left
      · (intro w hSw; go_simp; try (with_reducible rfl))
      try simp only [Act.put, Ls]
      refine tk 16 ?_ rfl (Or.inl ⟨by rfl, ?_⟩) ?_
      rotate_left
      · (intro w hSw; go_simp; try (with_reducible rfl))
      try simp only [Act.put, Ls]
      refine tk 17 ?_ rfl (Or.inl ⟨by rfl, ?_⟩) ?_
      rotate_left
      · (intro w hSw; (try dsimp only at hSw); obtain ⟨⟨hS0, hS1⟩, ⟨hS2, hS3⟩, ⟨hS4, hS5⟩, ⟨hS6, hS7⟩, ⟨hS8, hS9⟩⟩ := hSw; go_simp; try (with_reducible rfl))
      try simp only [Act.put, Ls]
      refine tk 18 ?_ rfl (Or.inl ⟨by rfl, ?_⟩) ?_
      rotate_left
      · (intro w hSw; (try dsimp only at hSw); obtain ⟨⟨hS0, hS1⟩, ⟨hS2, hS3⟩, ⟨hS4, hS5⟩, ⟨hS6, hS7⟩, ⟨hS8, hS9⟩⟩ := hSw; go_simp; try (with_reducible rfl))
      try simp only [Act.put, Ls]
      refine rdy 19 rfl (fun K hK => ?_)
      go_simp
      go_at_call 50
      refine (same_yes na ab aa cB cA xs _ (sb.below belR) (sa.below belR) (by omega)).mono ?_
      rintro r v1 ⟨rfl, hb'⟩
      have hz' := belR.size
      replace belR := bel_go belR hb'
      clear hb' hz'
      refine hK.out _ _ ?_ (fun hHeld => ?_)
      · exact ⟨⟨(Ba.below belR).c0, (Ba.below belR).c1⟩, ⟨(Bu.below belR).c0, (Bu.below belR).c1⟩, ⟨(Bb.below belR).c0, (Bb.below belR).c1⟩, ⟨(Bm.below belR).c0, (Bm.below belR).c1⟩, ⟨(Be.below belR).c0, (Be.below belR).c1⟩⟩
      clear hK K
      try simp only [Act.put, Ls]
      refine tk 20 ?_ rfl (Or.inl ⟨by rfl, ?_⟩) ?_
      rotate_left
      · (intro w hSw; go_simp; try (with_reducible rfl))
      try simp only [Act.put, Ls]
      refine tk 21 ?_ rfl (Or.inl ⟨by rfl, ?_⟩) ?_
      rotate_left
      · (intro w hSw; go_simp; try (with_reducible rfl))
      try simp only [Act.put, Ls]
      refine tk 22 ?_ rfl (Or.inl ⟨by rfl, ?_⟩) ?_
      rotate_left
      · (intro w hSw; (try dsimp only at hSw); obtain ⟨⟨hS0, hS1⟩, ⟨hS2, hS3⟩, ⟨hS4, hS5⟩, ⟨hS6, hS7⟩, ⟨hS8, hS9⟩⟩ := hSw; go_simp; try (with_reducible rfl))
      try simp only [Act.put, Ls]
      refine tk 23 ?_ rfl (Or.inl ⟨by rfl, ?_⟩) ?_
      rotate_left
      · (intro w hSw; (try dsimp only at hSw); obtain ⟨⟨hS0, hS1⟩, ⟨hS2, hS3⟩, ⟨hS4, hS5⟩, ⟨hS6, hS7⟩, ⟨hS8, hS9⟩⟩ := hSw; go_simp; try (with_reducible rfl))
      try simp only [Act.put, Ls]
      refine rdy 24 rfl (fun K hK => ?_)
      go_simp
      go_at_call 50
      refine (same_yes gu am au cM cU U _ (sm.below belR) (su.below belR) (by omega)).mono ?_
      rintro r v2 ⟨rfl, hb'⟩
      have hz' := belR.size
      replace belR := bel_go belR hb'
      clear hb' hz'
      refine hK.out _ _ ?_ (fun hHeld => ?_)
      · exact ⟨⟨(Ba.below belR).c0, (Ba.below belR).c1⟩, ⟨(Bu.below belR).c0, (Bu.below belR).c1⟩, ⟨(Bb.below belR).c0, (Bb.below belR).c1⟩, ⟨(Bm.below belR).c0, (Bm.below belR).c1⟩, ⟨(Be.below belR).c0, (Be.below belR).c1⟩⟩
      clear hK K
      try simp only [Act.put, Ls]
      refine tk 25 ?_ rfl (Or.inl ⟨by rfl, ?_⟩) ?_
      rotate_left
      · (intro w hSw; go_simp; try (with_reducible rfl))
      try simp only [Act.put, Ls]
      refine tk 26 ?_ rfl (Or.inl ⟨by rfl, ?_⟩) ?_
      rotate_left
      · (intro w hSw; go_simp; try (with_reducible rfl))
      try simp only [Act.put, Ls]
      refine tk 27 ?_ rfl (Or.inl ⟨by rfl, ?_⟩) ?_
      rotate_left
      · (intro w hSw; (try dsimp only at hSw); obtain ⟨⟨hS0, hS1⟩, ⟨hS2, hS3⟩, ⟨hS4, hS5⟩, ⟨hS6, hS7⟩, ⟨hS8, hS9⟩⟩ := hSw; go_simp; try (with_reducible rfl))
      try simp only [Act.put, Ls]
      refine tk 29 ?_ rfl (Or.inl ⟨by rfl, ?_⟩) ?_
      rotate_left
      · (intro w hSw; (try dsimp only at hSw); obtain ⟨⟨hS0, hS1⟩, ⟨hS2, hS3⟩, ⟨hS4, hS5⟩, ⟨hS6, hS7⟩, ⟨hS8, hS9⟩⟩ := hSw; go_simp; try (with_reducible rfl))
      try simp only [Act.put, Ls]
      refine rdy 28 rfl (fun K hK => ?_)
      go_simp
      go_at_call 60
      refine (Fd.mag_w ge ae E.length cE _).mono ?_
      rintro r v3 ⟨rfl, hb'⟩
      have hz' := belR.size
      replace belR := bel_go belR hb'
      clear hb' hz'
      refine hK.out _ _ ?_ (fun hHeld => ?_)
      · exact ⟨⟨(Ba.below belR).c0, (Ba.below belR).c1⟩, ⟨(Bu.below belR).c0, (Bu.below belR).c1⟩, ⟨(Bb.below belR).c0, (Bb.below belR).c1⟩, ⟨(Bm.below belR).c0, (Bm.below belR).c1⟩, ⟨(Be.below belR).c0, (Be.below belR).c1⟩⟩
      clear hK K
      try simp only [Act.put, Ls]
      refine rdy 30 rfl (fun K hK => ?_)
      go_simp
      go_at_call 60
      refine (Fd.mag_w na aa xs.length cA _).mono ?_
      rintro r v4 ⟨rfl, hb'⟩
      have hz' := belR.size
      replace belR := bel_go belR hb'
      clear hb' hz'
      refine hK.out _ _ ?_ (fun hHeld => ?_)
      · exact ⟨⟨(Ba.below belR).c0, (Ba.below belR).c1⟩, ⟨(Bu.below belR).c0, (Bu.below belR).c1⟩, ⟨(Bb.below belR).c0, (Bb.below belR).c1⟩, ⟨(Bm.below belR).c0, (Bm.below belR).c1⟩, ⟨(Be.below belR).c0, (Be.below belR).c1⟩⟩
      clear hK K
      try simp only [Act.put, Ls]
      refine rdy 31 rfl (fun K hK => ?_)
      go_simp
      go_at_call 59
      refine (CM.out ae cE aa cA _ (se.below belR) (sa.below belR)).mono ?_
      rintro r v5 ⟨rfl, hb'⟩
      have hz' := belR.size
      replace belR := bel_go belR hb'
      clear hb' hz'
      refine hK.out _ _ ?_ (fun hHeld => ?_)
      · exact ⟨⟨(Ba.below belR).c0, (Ba.below belR).c1⟩, ⟨(Bu.below belR).c0, (Bu.below belR).c1⟩, ⟨(Bb.below belR).c0, (Bb.below belR).c1⟩, ⟨(Bm.below belR).c0, (Bm.below belR).c1⟩, ⟨(Be.below belR).c0, (Be.below belR).c1⟩⟩
      clear hK K
      try simp only [Act.put, Ls]
      refine tk 32 ?_ rfl (Or.inl ⟨by rfl, ?_⟩) ?_
      rotate_left
      · (intro w hSw; go_simp; try (with_reducible rfl))
      try simp only [Act.put, Ls]
      try rw [m10]
      refine tk 33 ?_ rfl (Or.inl ⟨by rfl, ?_⟩) ?_
      rotate_left
      · (intro w hSw; go_simp; try (with_reducible rfl))
      try simp only [Act.put, Ls]
      refine rdy 34 rfl (fun K hK => ?_)
      go_simp
      refine hK.out _ _ ?_ (fun hHeld => ?_)
      · exact ⟨⟨(Ba.below belR).c0, (Ba.below belR).c1⟩, ⟨(Bu.below belR).c0, (Bu.below belR).c1⟩, ⟨(Bb.below belR).c0, (Bb.below belR).c1⟩, ⟨(Bm.below belR).c0, (Bm.below belR).c1⟩, ⟨(Be.below belR).c0, (Be.below belR).c1⟩⟩
      clear hK K
      try simp only [Act.put, Ls]
      refine wpAnyH_done (by kernel_rfl) ?_ _
      replace bel := bel.trans (belR.mono bel.size)
      replace sa := sa.below belR
      replace Ba := Ba.below belR
      replace su := su.below belR
      replace Bu := Bu.below belR
      replace sb := sb.below belR
      replace Bb := Bb.below belR
      replace sm := sm.below belR
      replace Bm := Bm.below belR
      replace se := se.below belR
      replace Be := Be.below belR
      clear belR
      obtain ⟨ka0, ka1, -, -⟩ := id Ba
      obtain ⟨ku0, ku1, -, -⟩ := id Bu
      obtain ⟨kb0, kb1, -, -⟩ := id Bb
      obtain ⟨km0, km1, -, -⟩ := id Bm
      obtain ⟨ke0, ke1, -, -⟩ := id Be
      go_wp2
      all_goals go_ret
      all_goals exact ⟨rfl, bel⟩
theorem wslaw_all (ca : Option Addr) (cc : Nat) (cs : List Int) (w : World) (hs : Sl .u8 w (.slice ca cs.length cc) cs) (hby : ∀ i, 0 ≤ cs.getD i 0 ∧ cs.getD i 0 ≤ 255) :
    Calls Try.prog 11 #[.slice ca cs.length cc] w fun e w' => e = .returned (.bool true) ∧ Below w.heap.size w w' := by
  by_cases hl : cs.length ≤ 1048576
  · exact wslaw ca cc cs w hs hby hl
  · have hlm : cs.length ≤ 9223372036854775807 := by obtain ⟨_, h1, h2, _⟩ := hs.cells; unfold maxLen at h2; omega
    go_enter Try.func11, Try.ntmps11
    go_wp2_with fail
    refine (big_any ca cs.length cc _ hlm true (by simp; omega)).mono ?_
    rintro e w0 ⟨rfl, rfl⟩
    go_wp2
    go_ret
    exact ⟨rfl, Below.refl _ _⟩
end Fw
end Go.Proofs.Ytmnfidkpnogfmaa
