/-
  Vectors turned: by the program; the law.
-/
import Derived.Test.YtmnfidkpnogfmaaVT
import Derived.Test.YtmnfidkpnogfmaaVO
import Derived.Test.YtmnfidkpnogfmaaK28
import Derived.Test.YtmnfidkpnogfmaaK05
import Derived.Test.YtmnfidkpnogfmaaK10
namespace Go.Proofs.Ytmnfidkpnogfmaa
set_option linter.unusedVariables false
set_option linter.unusedSimpArgs false
open Go.RowKit Go.Deep
theorem row_lt {w : World} {g n : Nat} {t : TypeId} {f : Nat → Value} (h : w.rowIs g t n f) : g < w.heap.size := by
  obtain ⟨c, h1, h2, h3⟩ := h
  exact (Array.getElem?_eq_some_iff.1 h1).1
theorem row_bel {w w' : World} {g n : Nat} {t : TypeId} {f : Nat → Value} (h : w.rowIs g t n f) (hb : Below w.heap.size w w') : w'.rowIs g t n f := by
  have hlt := row_lt h
  obtain ⟨c, h1, h2, h3⟩ := h
  exact ⟨c, by rw [hb.block g hlt]; exact h1, h2, h3⟩
set_option maxHeartbeats 1000000 in
theorem toV_row (v : Value) (zs : List Int) (w : World) (hs : Sl .u64 w v zs) (hl : zs.length ≤ 1048576) :
    Calls Try.prog 14 #[v] w fun e w' => ∃ g, e = .returned (.slice (some ⟨g, 0, none⟩) zs.length zs.length) ∧ w.heap.size ≤ g ∧ g < w'.heap.size ∧ w'.rowIs g 37 zs.length (copV zs zs.length) ∧ Below w.heap.size w w' := by
  obtain ⟨a, cap, rfl, hc1, hc2, hz⟩ := hs
  have hmk := run_make_row' (P := Try.prog) 22 37 (.int .u64 0) 8 Try.underlying22 info64 rfl .i64 .i64 zs.length (by omega) (by omega)
  go_enter Try.func14, Try.ntmps14
  go_wp2
  go_loopw [4] (fun i wr => ∃ k : Nat, k ≤ zs.length ∧ i = .int .i64 k ∧ wr.rowIs w.heap.size 37 zs.length (copV zs k) ∧ Below w.heap.size w wr) (fun i _ => zs.length - (intOf i).toNat)
  case atStart => exact ⟨0, Nat.zero_le _, rfl, (World.rowIs_made w _ zs.length 37).congr (fun j _ => by simp [copV]), (Below.refl _ _).alloc (Nat.le_refl _) _⟩
  case round =>
    obtain ⟨k, hk, rfl, hrow, hb⟩ := hrel
    by_cases hlt : k < zs.length
    · obtain ⟨b, off, rfl, hcell⟩ : ∃ b off, a = some ⟨b, off, none⟩ ∧ ∀ i, i < zs.length → w.cell? ⟨b, off + i, none⟩ = some (.int .u64 (zs.getD i 0)) := by
        rcases hz with rfl | hz
        · simp at hlt
        · exact hz
      have hc0 := hcell k hlt
      have hc : wr.cell? ⟨b, off + k, none⟩ = some (.int .u64 (zs.getD k 0)) := (hb.cell (p := ⟨b, off + k, none⟩) (World.block_lt_of_cell? w _ hc0)).trans hc0
      have hold := hrow.cell hlt
      have hfr := hrow.frozen k
      clear hz hcell hc0
      go_wp2
      go_roundw
      case rel => exact ⟨k + 1, by omega, by go_num, copV_step hrow (by simp [hlt]), hb.setCell (Nat.le_refl _) _⟩
      case measure => simp [intOf]; omega
    · obtain rfl : k = zs.length := by omega
      clear hz
      go_wp2
      go_ret
      exact ⟨_, rfl, Nat.le_refl _, row_lt hrow, hrow, hb⟩
theorem O8.at {w : World} {B : Nat} {a : Option Addr} {cap : Nat} {zs : List Int} (h : O8 w B a cap zs) (n c g : Nat) (hg : (Value.slice a n c).ownBlock = some g) : B ≤ g ∧ g < w.heap.size := by
  rcases h.block with ⟨rfl, _⟩ | ⟨g', rfl, h1, h2⟩
  · cases hg
  · obtain rfl : g' = g := Option.some.inj hg
    exact ⟨h1, h2⟩
theorem bel_ob {w w1 w2 : World} {row : Option Nat} (h : Below w.heap.size w w1) (hg : w1.grownBy w2 row) (hge : ∀ g, row = some g → w.heap.size ≤ g) : Below w.heap.size w w2 :=
  ⟨hg.os.trans h.os, hg.tape.trans h.tape, hg.output.trans h.output, Nat.le_trans h.size hg.size, fun i hi => (hg.block i (Nat.lt_of_lt_of_le hi h.size) (by intro e; have h' := hge i e.symm; omega)).trans (h.block i hi)⟩
theorem toV_own (v : Value) (zs : List Int) (w : World) (hs : Sl .u64 w v zs) (hl : zs.length ≤ 1048576) :
    Calls Try.prog 14 #[v] w fun e w' => ∃ g, e = .returned (.slice (some ⟨g, 0, none⟩) zs.length zs.length) ∧ O8 w' w.heap.size (some ⟨g, 0, none⟩) zs.length zs ∧ Below w.heap.size w w' :=
  (toV_row v zs w hs hl).mono fun e w' ⟨g, he, h1, h2, h3, hb⟩ => ⟨g, he, O8.of_row h3 (fun i hi => by simp [copV, hi]) h1 (by unfold maxLen; omega), hb⟩
set_option maxHeartbeats 4000000 in
set_option maxRecDepth 100000 in
theorem turned_impl (a : Option Addr) (cap : Nat) (xs : List Int) (w : World) (hx : Sl .u64 w (.slice a xs.length cap) xs) (hl : xs.length ≤ 1048576) :
    Calls Try.prog 15 #[.slice a xs.length cap] w fun r w' => ∃ a' c, r = .returned (.slice a' (turnL xs).length c) ∧ O8 w' w.heap.size a' c (turnL xs) ∧ Below w.heap.size w w' := by
  by_cases hn : xs.length ≤ 300
  · have d3 : decide (300 < (xs.length : Int)) = false := decide_eq_false (by omega)
    have hT : turnL xs = xs.reverse := by unfold turnL; rw [if_pos hn]
    have CC := hid (clone_any a cap xs w hx hl)
    have CR := hid (fun a c w' B h => rev_any a c B xs w' h hl)
    have HT := hid hT
    have HL : Hid (xs.reverse.length = xs.length) := hid (by simp)
    clear hx hT
    go_enter Try.func15, Try.ntmps15
    go_wp2_with fail
    refine CC.out.mono ?_
    rintro r w1 ⟨a1, c1, rfl, o1, hb⟩
    go_wp2_with fail
    refine (CR.out a1 c1 _ _ o1).mono ?_
    rintro r w2 ⟨rfl, o2, hg⟩
    have bel := bel_ob hb hg (fun g e => (o1.at _ _ g e).1)
    clear hb hg o1
    go_wp2
    go_ret
    exact ⟨a1, c1, by rw [HT.out, HL.out]; rfl, by rw [HT.out]; exact o2, bel⟩
  · have d3 : decide (300 < (xs.length : Int)) = true := decide_eq_true (by omega)
    have HT := hid (show turnL xs = [] by unfold turnL; rw [if_neg hn])
    clear hx hn
    go_enter Try.func15, Try.ntmps15
    go_wp2
    go_ret
    exact ⟨none, 0, by rw [HT.out]; rfl, by rw [HT.out]; unfold O8; exact World.ownsRow_nil w _ _ _, Below.refl _ _⟩
theorem iot_d64 (n : Nat) (h : n ≤ 1048576) : D64 (iot 1 n) := by
  intro x hx
  unfold iot at hx
  rw [List.mem_map] at hx
  obtain ⟨i, hi, rfl⟩ := hx
  have := List.mem_range.1 hi
  omega
theorem heldR_iot8 (n : Nat) : heldR 1 (iot 1 n) = 1 + n := by unfold heldR; rw [iot_length, if_pos rfl]
theorem turnL_len (xs : List Int) : (turnL xs).length ≤ 300 := by unfold turnL; split <;> simp; omega
set_option maxHeartbeats 16000000 in
set_option maxRecDepth 100000 in
theorem law_Turned (a : Option Addr) (cap : Nat) (xs : List Int) (w : World) (hx : Sl .u64 w (.slice a xs.length cap) xs) :
    Calls Try.prog 3 #[.slice a xs.length cap] w fun e w' => e = .returned (.bool true) ∧ Below w.heap.size w w' := by
  have hlm : xs.length ≤ 9223372036854775807 := by obtain ⟨_, h1, h2, _⟩ := hx.cells; unfold maxLen at h2; omega
  by_cases hn : xs.length ≤ 1048576
  · have hsz : decide (1048576 < (xs.length : Int)) = false := decide_eq_false (by omega)
    have CS := hid (fun a c w' k => turned_spec a c xs w' k hn)
    have CI := hid (fun a c w' k => turned_impl a c xs w' k hn)
    have hR := turnL_len xs
    have HR := hid (heldR_iot8 (turnL xs).length)
    have HD := hid (iot_d64 (turnL xs).length (by omega))
    have HL := hid (iot_length 1 (turnL xs).length)
    have HLx := hid (iot_length 1 xs.length)
    obtain ⟨R, h_R⟩ : ∃ q, q = turnL xs := ⟨_, rfl⟩
    rw [← h_R] at CS CI hR HR HD HL
    clear h_R
    have bel := Below.refl w.heap.size w
    go_enter Try.func3, Try.ntmps3
    go_wp2_with fail
    refine (toV_any _ xs _ hx hn).mono ?_
    rintro e w1 ⟨a1, c1, rfl, s1, hb⟩
    replace bel := bel_go bel hb
    clear hb
    go_wp2_with fail
    refine (CS.out a1 c1 _ s1).mono ?_
    rintro e w2 ⟨g2, c2, rfl, o2, hb⟩
    have l1 := bel.size
    have b2 := o2.at R.length c2 g2 rfl
    replace o2 := o2.base (B' := w.heap.size) l1
    replace bel := bel_go bel hb
    clear hb s1 l1
    go_wp2_with fail
    refine (toV_own _ xs _ (hx.below bel) hn).mono ?_
    rintro e w3 ⟨g3, rfl, o3, hb⟩
    have b3 := o3.at xs.length xs.length g3 rfl
    have l3 := bel.size
    replace o2 := o2.below hb
    replace bel := bel_go bel hb
    clear hb
    go_wp2_with fail
    refine (CI.out _ _ _ o3.sl).mono ?_
    rintro e w4 ⟨a4, c4, rfl, o4, hb⟩
    have b4 : ∀ g, (Value.slice a4 R.length c4).ownBlock = some g → w3.heap.size ≤ g ∧ g < w4.heap.size := fun g e => o4.at R.length c4 g e
    have l4 := hb.size
    replace o2 := o2.below hb
    replace o3 := o3.below hb
    replace bel := bel_go bel hb
    clear hb
    go_wp2_with fail
    refine (eqV_same a4 (some ⟨g2, 0, none⟩) c4 c2 R _ o4.sl o2.sl (by omega)).mono ?_
    rintro e w5 ⟨rfl, hb⟩
    replace o2 := o2.below hb
    replace o3 := o3.below hb
    replace o4 := o4.below hb
    replace bel := bel_go bel hb
    clear hb
    go_wp2_with fail
    refine (toV_any _ xs _ (hx.below bel) hn).mono ?_
    rintro e w6 ⟨a6, c6, rfl, s6, hb⟩
    replace o2 := o2.below hb
    replace o3 := o3.below hb
    replace o4 := o4.below hb
    replace bel := bel_go bel hb
    clear hb
    go_wp2_with fail
    refine (eqV_same (some ⟨g3, 0, none⟩) a6 xs.length c6 xs _ o3.sl s6 (by omega)).mono ?_
    rintro e w7 ⟨rfl, hb⟩
    replace o2 := o2.below hb
    replace o3 := o3.below hb
    replace o4 := o4.below hb
    replace bel := bel_go bel hb
    clear hb s6
    go_wp2_with fail
    refine (mark8_any (some ⟨g3, 0, none⟩) xs.length xs 1 _ _ o3 hn (by decide) (by decide)).mono ?_
    rintro e w8 ⟨rfl, o3', hg⟩
    replace o2 := o2.kept hg (fun g e h => by have e1 : g2 = g := by simpa using e
                                              have e2 : g3 = g := Option.some.inj h
                                              omega)
    replace o4 := o4.kept hg (fun g e h => by have e1 := b4 g (by rw [e]; rfl)
                                              have e2 : g3 = g := Option.some.inj h
                                              omega)
    replace bel := bel_ob bel hg (fun g h => by have e2 : g3 = g := Option.some.inj h
                                                omega)
    clear hg o3 o3'
    go_wp2_with fail
    refine (eqV_same a4 (some ⟨g2, 0, none⟩) c4 c2 R _ o4.sl o2.sl (by omega)).mono ?_
    rintro e w9 ⟨rfl, hb⟩
    replace o2 := o2.below hb
    replace o4 := o4.below hb
    replace bel := bel_go bel hb
    clear hb
    go_wp2_with fail
    refine (mark8_any a4 c4 R 1 _ _ o4 (by omega) (by decide) (by decide)).mono ?_
    rintro e w10 ⟨rfl, o5, hg⟩
    replace o2 := o2.kept hg (fun g e h => by have e1 : g2 = g := by simpa using e
                                              have e2 := b4 g h
                                              omega)
    replace bel := bel_ob bel hg (fun g h => by have e2 := b4 g h
                                                omega)
    clear hg o4
    obtain ⟨I, h_I⟩ : ∃ q, q = iot 1 R.length := ⟨_, rfl⟩
    rw [← h_I] at o5 HR HD HL
    clear h_I
    have CH := hid (fun w' (k : Sl .u64 w' (.slice a4 I.length c4) I) => held8_any a4 c4 I 1 w' k HD.out (by rw [HL.out]; omega) (by decide) (by decide))
    rw [HR.out, HL.out] at CH
    have s5 : Sl .u64 w10 (.slice a4 R.length c4) I := by have := o5.sl; rwa [HL.out] at this
    clear o5
    go_wp2_with fail
    refine (CH.out _ s5).mono ?_
    rintro e w11 ⟨rfl, hb⟩
    replace s5 := s5.below hb
    replace o2 := o2.below hb
    replace bel := bel_go bel hb
    clear hb
    go_wp2_with fail
    refine (toV_any _ xs _ (hx.below bel) hn).mono ?_
    rintro e w12 ⟨a7, c7, rfl, s7, hb⟩
    replace s5 := s5.below hb
    replace o2 := o2.below hb
    replace bel := bel_go bel hb
    clear hb
    go_wp2_with fail
    refine (CI.out a7 c7 _ s7).mono ?_
    rintro e w13 ⟨a8, c8, rfl, o8, hb⟩
    replace s5 := s5.below hb
    replace o2 := o2.below hb
    replace bel := bel_go bel hb
    clear hb s7
    go_wp2_with fail
    refine (eqV_same a8 (some ⟨g2, 0, none⟩) c8 c2 R _ o8.sl o2.sl (by omega)).mono ?_
    rintro e w14 ⟨rfl, hb⟩
    replace s5 := s5.below hb
    replace bel := bel_go bel hb
    clear hb o8 o2
    go_wp2_with fail
    refine (CH.out _ s5).mono ?_
    rintro e w15 ⟨rfl, hb⟩
    replace bel := bel_go bel hb
    clear hb s5
    go_wp2
    go_ret
    exact ⟨rfl, bel⟩
  · have hsz : decide (1048576 < (xs.length : Int)) = true := decide_eq_true (by omega)
    clear hx hn
    go_enter Try.func3, Try.ntmps3
    go_wp2
    go_ret
    exact ⟨rfl, Below.refl _ _⟩
end Go.Proofs.Ytmnfidkpnogfmaa
