/-
  What is needed of AH, DAd.
-/
import Derived.Test.YtkfjmcdniohljaaGreatDoorE59
set_option maxHeartbeats 16000000
set_option maxRecDepth 1000000
namespace Go.Proofs.YtkfjmcdniohljaaGreatDoor
set_option linter.unusedVariables false
set_option linter.unusedSimpArgs false
open Go.RowKit Go.Deep
theorem accI (fm : Int) (s : St) (x : Int) (p : Option Addr) (cap : Nat) (u : Value) (w : World) (hE : EE u w) (hR : Rt fm s) (hx : okF fm x = true) (x0 : 0 ≤ x) (x1 : x < 18446744073709551616) (hT : s.T ≠ 1000000) (hs : Sl .u32 w (.slice p (Nm.wl s.z).length cap) (Nm.wl s.z)) (s' : St) (hs' : s' = s.add (tmF fm x)) :
    Calls Tryz.prog 33 #[.agg #[.int .i64 fm, .bool (Nm.wn s.z), .slice p (Nm.wl s.z).length cap, .int .i64 s.T, .bool s.nn, .bool s.bd, .bool s.pl, .bool s.mi, .bool s.am], .int .u64 x] w fun r w' => ∃ a' c', r = .returned (.tuple #[.agg #[.int .i64 fm, .bool (Nm.wn s'.z), .slice a' (Nm.wl s'.z).length c', .int .i64 s'.T, .bool s'.nn, .bool s'.bd, .bool s'.pl, .bool s'.mi, .bool s'.am], .int .i64 0]) ∧ Own w' w.heap.size a' c' (Nm.wl s'.z) ∧ Below w.heap.size w w' := by
  subst hs'
  have hwv := Nm.wv_out s.z
  obtain ⟨hfm, hk1, ho, -⟩ := acc_parts hR
  have hnan := nan_of hx
  have odd : finB fm x = false → ∀ (neg inf : Bool) (ev : Value), nanB fm x = nanB fm x →
      (∀ (w' : World), Tab w' → ErrQ w' u → Calls Tryz.prog 90 #[.int .i64 fm, .int .u64 x] w' fun r w'' => r = .returned (.tuple #[.agg #[.bool neg, .bool inf, .bool false, .slice none 0 0, .int .i64 0], ev]) ∧ Below w'.heap.size w' w'') →
      (∀ (p : Option Addr) (c : Nat) (q : World), EA.ErrT q → Calls Tryz.prog 203 #[.agg #[.bool neg, .bool inf, .bool false, .slice p 0 c, .int .i64 0], ev] q fun r q' => r = .returned (.agg #[.int .i64 1, .bool (nanB fm x), .bool (cls fm x == 5), .bool (!nanB fm x && !sigB fm x), .bool (!nanB fm x && sigB fm x), .bool false]) ∧ Below q.heap.size q q') →
      Calls Tryz.prog 33 #[.agg #[.int .i64 fm, .bool (Nm.wn s.z), .slice p (Nm.wl s.z).length cap, .int .i64 s.T, .bool s.nn, .bool s.bd, .bool s.pl, .bool s.mi, .bool s.am], .int .u64 x] w fun r w' => ∃ a' c', r = .returned (.tuple #[.agg #[.int .i64 fm, .bool (Nm.wn (s.add (tmF fm x)).z), .slice a' (Nm.wl (s.add (tmF fm x)).z).length c', .int .i64 (s.add (tmF fm x)).T, .bool (s.add (tmF fm x)).nn, .bool (s.add (tmF fm x)).bd, .bool (s.add (tmF fm x)).pl, .bool (s.add (tmF fm x)).mi, .bool (s.add (tmF fm x)).am], .int .i64 0]) ∧ Own w' w.heap.size a' c' (Nm.wl (s.add (tmF fm x)).z) ∧ Below w.heap.size w w' := by
    intro hf neg inf ev _ hn hm
    have e : tmF fm x = ⟨0, nanB fm x, cls fm x == 5, !nanB fm x && !sigB fm x, !nanB fm x && sigB fm x, false⟩ := by unfold tmF; rw [hf]; rfl
    rw [e]
    have hft : Nm.fits s.z = true := by have := ok_fits (Nm.wl_dg _) ho (Nm.wn s.z); rwa [hwv] at this
    have h := add_core fm (Nm.wn s.z) s.T s.nn s.bd s.pl s.mi s.am p cap (Nm.wl s.z) x u w hE.t hE.g hE.q hs (Nm.wl_dg _) hR hx x0 x1 hT neg inf false [] 0 ev (nanB fm x) (cls fm x == 5) (!nanB fm x && !sigB fm x) (!nanB fm x && sigB fm x) false false [] Nm.Dg.nil rfl s.z (by rw [hwv]; unfold Nm.wv Nm.val; simp) hft
      (fun w' t q => (hn w' t q).mono fun r w'' ⟨hr, hb⟩ => ⟨none, 0, hr, Sl.nil _ _, hb⟩)
      (fun a' c' w' t g h => one_odd fm hfm neg inf ev _ _ _ _ false w' t g a' c' h (fun q hq => hm a' c' q hq))
    rw [amW_no] at h
    simpa [St.add] using h
  rcases cls_six hx with hf | h3 | h4 | h5
  · have e : tmF fm x = ⟨tmV fm x, false, false, false, false, (absF fm x == 0) && sigB fm x⟩ := by unfold tmF; rw [hf]; rfl
    rw [e]
    obtain ⟨-, hb⟩ := tm_eq hf
    have hl := wl_len (V := tmV fm x) (by omega)
    have hft := add_fits (Nm.wl_dg _) hR hb
    rw [hwv] at hft
    have hps : pS fm x = sigB fm x := by unfold pS; rw [hf]; rfl
    obtain ⟨L, hL⟩ : ∃ L, L = Nm.wl (if pS fm x then -pM fm x else pM fm x) := ⟨_, rfl⟩
    have hlz : (absF fm x == 0) = decide (L.length = 0) := by rw [hL]; exact len_zero hx hf
    have h := add_core fm (Nm.wn s.z) s.T s.nn s.bd s.pl s.mi s.am p cap (Nm.wl s.z) x u w hE.t hE.g hE.q hs (Nm.wl_dg _) hR hx x0 x1 hT (pS fm x) false _ L (pE fm x) .nilIface false false false false (decide (L.length = 0) && pS fm x) (Nm.wn (tmV fm x)) (Nm.wl (tmV fm x)) (Nm.wl_dg _) (okB_wl hl) (s.z + tmV fm x) (by rw [Nm.wv_out, Nm.wv_out]) hft
      (fun w' t q => (num_fin fm x w' t x0 x1 hf _ L (pE fm x) rfl hL rfl).mono fun r w'' ⟨a', c', hr, ho, hb⟩ => ⟨a', c', hr, ho.sl, hb⟩)
      (fun a' c' w' t g h => by
        rcases fmt_cases hfm with rfl | rfl
        · exact one_fin_32 x hf _ L rfl hL _ rfl a' c' w' t g h
        · exact one_fin_64 x hf _ L rfl hL _ rfl a' c' w' t g h)
    have e5 : amW s.T s.am 1 (decide (L.length = 0) && pS fm x) = ((absF fm x == 0) && sigB fm x && (s.am || decide (s.T = 0))) := by
      rw [hlz, hps]; unfold amW
      rw [show decide ((1 : Int) = 0) = false from rfl]
      cases decide (L.length = 0) <;> cases sigB fm x <;> cases s.am <;> cases decide (s.T = 0) <;> rfl
    rw [e5] at h
    simpa [St.add] using h
  · have hfin : finB fm x = false := by unfold finB; rw [h3]; decide
    have hnb : nanB fm x = false := by rw [hnan, h3]; decide
    refine odd hfin (sigB fm x) true .nilIface rfl (fun w' t q => num_inf fm x w' t x0 x1 h3) (fun p c q hq => ?_)
    have := mk_inf (sigB fm x) false p 0 c 0 q hq (by decide)
    rw [hnb, h3]; simpa using this
  · have hfin : finB fm x = false := by unfold finB; rw [h4]; decide
    have hnb : nanB fm x = true := by rw [hnan, h4]; decide
    refine odd hfin false false (.iface 179 (.agg #[.iface 246 u])) rfl (fun w' t q => num_quiet fm x u w' t q x0 x1 h4) (fun p c q hq => ?_)
    have := mk_quiet u false p 0 c 0 q hq (by decide) rfl
    rw [hnb, h4]; simpa using this
  · have hfin : finB fm x = false := by unfold finB; rw [h5]; decide
    have hnb : nanB fm x = true := by rw [hnan, h5]; decide
    refine odd hfin false false (.iface 179 (.agg #[.iface 181 (.agg #[.string sgS])])) rfl (fun w' t q => num_sig2 fm x w' t x0 x1 h5) (fun p c q hq => ?_)
    have := mk_bad sgS false p 0 c 0 q hq (by decide) rfl
    rw [hnb, h5]; simpa using this
namespace Fd
/-- An accumulator and a float that were drawn. -/
def DrAA (w w' : World) (e : Ending) : Prop := ∃ (F : Int) (ng : Bool) (zs : List Int) (T : Int) (nn bd pl mi am : Bool) (a : Option Addr) (c : Nat) (x : Int), e = .returned (.tuple #[.agg #[.int .i64 F, .bool ng, .slice a zs.length c, .int .i64 T, .bool nn, .bool bd, .bool pl, .bool mi, .bool am], .int .u64 x]) ∧ 0 ≤ x ∧ x < 18446744073709551616 ∧ zs.length ≤ 2000 ∧ Nm.Dg zs ∧ Own w' w.heap.size a c zs ∧ Below w.heap.size w w'
theorem or_bd (x y : Int) : 0 ≤ bits .or .u64 x y ∧ bits .or .u64 x y < 18446744073709551616 := by
  have lo := bits_lo_u64 .or x y
  have hi := bits_hi_u64 .or x y
  omega
theorem drawAccAdd_x (ca : Option Addr) (cc : Nat) (cs : List Int) (w : World) (hs : Sl .u8 w (.slice ca cs.length cc) cs) (hby : ∀ i, 0 ≤ cs.getD i 0 ∧ cs.getD i 0 ≤ 255) (hl : cs.length ≤ 1048576) :
    Calls Tryz.prog 32 #[.slice ca cs.length cc] w fun e w' => DrAA w w' e := by
  have hs1 := hs
  have bel := Below.refl w.heap.size w
  have R4 := Q9.new w (.int .i64 0) (.bool false) (.slice none 0 0) (.int .i64 0) (.bool false) (.bool false) (.bool false) (.bool false) (.bool false) 50
  have hs1 := hs1.alloc (.cells #[.int .i64 0, .bool false, .slice none 0 0, .int .i64 0, .bool false, .bool false, .bool false, .bool false, .bool false] 50)
  have bel := bel_al bel (.cells #[.int .i64 0, .bool false, .slice none 0 0, .int .i64 0, .bool false, .bool false, .bool false, .bool false, .bool false] 50)
  go_enter Tryz.func32, Tryz.ntmps32
  go_wp2_with fail
  refine (open_any ca cc cs _ hs1 hby hl).mono ?_
  rintro e w4 ⟨rfl, r4, hb⟩
  have hlt : w.heap.size + 1 ≤ (w.alloc (.cells #[.int .i64 0, .bool false, .slice none 0 0, .int .i64 0, .bool false, .bool false, .bool false, .bool false, .bool false] 50)).heap.size := by simp
  generalize (w.alloc (.cells #[.int .i64 0, .bool false, .slice none 0 0, .int .i64 0, .bool false, .bool false, .bool false, .bool false, .bool false] 50)).heap.size = rb at r4 hlt ⊢
  have R4 := R4.below hb
  have bel := bel_go bel hb
  clear hb hs1
  go_wp2_with fail
  refine (format_any rb ca cc cs _ r4).mono ?_
  rintro e w4 ⟨fm, rfl, hf, r4', g4'⟩
  have R4 := R4.grown g4' (fun g e => by cases e; omega)
  have bel := bel_rd bel g4' (by omega)
  have r4 := r4'
  clear r4' g4'
  have CA := hid (fun w' h => acc_any fm hf rb ca cc cs w' h)
  have CF := hid (fun w' h => float_any fm hf rb ca cc cs w' h)
  go_wp2_with fail
  refine (CA.out _ r4).mono ?_
  rintro e w4 ⟨F, s, a, c, rfl, T0, T1, l1, o4, r4', g4'⟩
  have hB := r4.lt
  have hBw := g4'.size
  have R4 := R4.grown g4' (fun g e => by cases e; omega)
  have bel := bel_rd bel g4' (by omega)
  have r4 := r4'
  clear r4' g4'
  go_wp2_with fail
  refine (hurtAcc_any F (Nm.wn s.z) (Nm.wl s.z) s.T s.nn s.bd s.pl s.mi s.am a c _ rb ca cc cs _ r4 o4 hB hBw (Nm.wl_dg _) l1 T0 T1).mono ?_
  rintro e w4 ⟨F', ng', zs', T', nn', bd', pl', mi', am', a', c', rfl, l', d', o', r4', g4'⟩
  have R4 := R4.grown g4' (fun g e => by cases e; omega)
  have bel := bel_rd bel g4' (by omega)
  have r4 := r4'
  clear r4' g4'
  clear o4 T0 T1 l1 hBw
  have ho' := hB
  clear hB
  have A4 := Q9.new w4 (.int .i64 F') (.bool ng') (.slice a' zs'.length c') (.int .i64 T') (.bool nn') (.bool bd') (.bool pl') (.bool mi') (.bool am') 50
  have hA4 := r4.lt
  have R4 := R4.alloc (.cells #[.int .i64 F', .bool ng', .slice a' zs'.length c', .int .i64 T', .bool nn', .bool bd', .bool pl', .bool mi', .bool am'] 50)
  have o' := Own.alloc o' (.cells #[.int .i64 F', .bool ng', .slice a' zs'.length c', .int .i64 T', .bool nn', .bool bd', .bool pl', .bool mi', .bool am'] 50)
  have r4 := r4.alloc (.cells #[.int .i64 F', .bool ng', .slice a' zs'.length c', .int .i64 T', .bool nn', .bool bd', .bool pl', .bool mi', .bool am'] 50)
  have bel := bel_al bel (.cells #[.int .i64 F', .bool ng', .slice a' zs'.length c', .int .i64 T', .bool nn', .bool bd', .bool pl', .bool mi', .bool am'] 50)
  go_wp2_with fail
  refine (CF.out _ r4).mono ?_
  rintro e w4 ⟨x, rfl, x0, x1, r4', g4'⟩
  have R4 := R4.grown g4' (fun g e => by cases e; omega)
  have A4 := A4.grown g4' (fun g e => by cases e; exact Nat.ne_of_gt hA4)
  have o' := Own.rd o' g4' ho'
  have bel := bel_rd bel g4' (by omega)
  have r4 := r4'
  clear r4' g4'
  go_wp2_with fail
  refine (once_any rb ca cc cs 20 _ r4 (by decide) (by decide)).mono ?_
  rintro e w4 ⟨bb, rfl, r4', g4'⟩
  have R4 := R4.grown g4' (fun g e => by cases e; omega)
  have A4 := A4.grown g4' (fun g e => by cases e; exact Nat.ne_of_gt hA4)
  have o' := Own.rd o' g4' ho'
  have bel := bel_rd bel g4' (by omega)
  have r4 := r4'
  clear r4' g4'
  have hwb := Nat.lt_trans (Nat.lt_of_succ_le hlt) ho'
  cases bb
  · obtain ⟨y0, y1, y2, y3, y4, y5, y6, y7, y8, z0, z1, z2, z3, z4, z5, z6, z7, z8⟩ := R4
    obtain ⟨k0, k1, k2, k3, k4, k5, k6, k7, k8, -, -, -, -, -, -, -, -, -⟩ := A4
    go_wp2
    exact bodyPost_ret (v := .tuple #[.agg #[.int .i64 F', .bool ng', .slice a' zs'.length c', .int .i64 T', .bool nn', .bool bd', .bool pl', .bool mi', .bool am'], .int .u64 x]) (by simp [results, Tryz.results32, go_sem, y0, y1, y2, y3, y4, y5, y6, y7, y8, z0, z1, z2, z3, z4, z5, z6, z7, z8]) rfl ⟨F', ng', zs', T', nn', bd', pl', mi', am', a', c', x, rfl, x0, x1, l', d', Own.base (Own.setBelow (Own.setBelow (Own.setBelow (Own.setBelow (Own.setBelow (Own.setBelow (Own.setBelow (Own.setBelow (Own.setBelow o' (p := ⟨w.heap.size, 0, none⟩) hwb (.int .i64 F')) (p := ⟨w.heap.size, 1, none⟩) hwb (.bool ng')) (p := ⟨w.heap.size, 2, none⟩) hwb (.slice a' zs'.length c')) (p := ⟨w.heap.size, 3, none⟩) hwb (.int .i64 T')) (p := ⟨w.heap.size, 4, none⟩) hwb (.bool nn')) (p := ⟨w.heap.size, 5, none⟩) hwb (.bool bd')) (p := ⟨w.heap.size, 6, none⟩) hwb (.bool pl')) (p := ⟨w.heap.size, 7, none⟩) hwb (.bool mi')) (p := ⟨w.heap.size, 8, none⟩) hwb (.bool am')) (Nat.le_of_lt hwb), (Below.setCell (Below.setCell (Below.setCell (Below.setCell (Below.setCell (Below.setCell (Below.setCell (Below.setCell (Below.setCell bel (p := ⟨w.heap.size, 0, none⟩) (Nat.le_refl _) (.int .i64 F')) (p := ⟨w.heap.size, 1, none⟩) (Nat.le_refl _) (.bool ng')) (p := ⟨w.heap.size, 2, none⟩) (Nat.le_refl _) (.slice a' zs'.length c')) (p := ⟨w.heap.size, 3, none⟩) (Nat.le_refl _) (.int .i64 T')) (p := ⟨w.heap.size, 4, none⟩) (Nat.le_refl _) (.bool nn')) (p := ⟨w.heap.size, 5, none⟩) (Nat.le_refl _) (.bool bd')) (p := ⟨w.heap.size, 6, none⟩) (Nat.le_refl _) (.bool pl')) (p := ⟨w.heap.size, 7, none⟩) (Nat.le_refl _) (.bool mi')) (p := ⟨w.heap.size, 8, none⟩) (Nat.le_refl _) (.bool am'))⟩
  · obtain ⟨x2, x3⟩ := or_bd x 4294967296
    obtain ⟨y0, y1, y2, y3, y4, y5, y6, y7, y8, z0, z1, z2, z3, z4, z5, z6, z7, z8⟩ := R4
    obtain ⟨k0, k1, k2, k3, k4, k5, k6, k7, k8, -, -, -, -, -, -, -, -, -⟩ := A4
    go_wp2
    exact bodyPost_ret (v := .tuple #[.agg #[.int .i64 F', .bool ng', .slice a' zs'.length c', .int .i64 T', .bool nn', .bool bd', .bool pl', .bool mi', .bool am'], .int .u64 (bits .or .u64 x 4294967296)]) (by simp [results, Tryz.results32, go_sem, y0, y1, y2, y3, y4, y5, y6, y7, y8, z0, z1, z2, z3, z4, z5, z6, z7, z8]) rfl ⟨F', ng', zs', T', nn', bd', pl', mi', am', a', c', _, rfl, x2, x3, l', d', Own.base (Own.setBelow (Own.setBelow (Own.setBelow (Own.setBelow (Own.setBelow (Own.setBelow (Own.setBelow (Own.setBelow (Own.setBelow o' (p := ⟨w.heap.size, 0, none⟩) hwb (.int .i64 F')) (p := ⟨w.heap.size, 1, none⟩) hwb (.bool ng')) (p := ⟨w.heap.size, 2, none⟩) hwb (.slice a' zs'.length c')) (p := ⟨w.heap.size, 3, none⟩) hwb (.int .i64 T')) (p := ⟨w.heap.size, 4, none⟩) hwb (.bool nn')) (p := ⟨w.heap.size, 5, none⟩) hwb (.bool bd')) (p := ⟨w.heap.size, 6, none⟩) hwb (.bool pl')) (p := ⟨w.heap.size, 7, none⟩) hwb (.bool mi')) (p := ⟨w.heap.size, 8, none⟩) hwb (.bool am')) (Nat.le_of_lt hwb), (Below.setCell (Below.setCell (Below.setCell (Below.setCell (Below.setCell (Below.setCell (Below.setCell (Below.setCell (Below.setCell bel (p := ⟨w.heap.size, 0, none⟩) (Nat.le_refl _) (.int .i64 F')) (p := ⟨w.heap.size, 1, none⟩) (Nat.le_refl _) (.bool ng')) (p := ⟨w.heap.size, 2, none⟩) (Nat.le_refl _) (.slice a' zs'.length c')) (p := ⟨w.heap.size, 3, none⟩) (Nat.le_refl _) (.int .i64 T')) (p := ⟨w.heap.size, 4, none⟩) (Nat.le_refl _) (.bool nn')) (p := ⟨w.heap.size, 5, none⟩) (Nat.le_refl _) (.bool bd')) (p := ⟨w.heap.size, 6, none⟩) (Nat.le_refl _) (.bool pl')) (p := ⟨w.heap.size, 7, none⟩) (Nat.le_refl _) (.bool mi')) (p := ⟨w.heap.size, 8, none⟩) (Nat.le_refl _) (.bool am'))⟩
end Fd
end Go.Proofs.YtkfjmcdniohljaaGreatDoor
