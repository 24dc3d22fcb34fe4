/-
  What is needed of RN, FD, UB, FP, RX, FB, DP, WI, AW.
-/
import Derived.Test.YtmcflggionkhlaaGreatDoorF37
import Derived.Test.YtmcflggionkhlaaGreatDoorF41
set_option maxHeartbeats 16000000
set_option maxRecDepth 1000000
namespace Go.Proofs.YtmcflggionkhlaaGreatDoor
set_option linter.unusedVariables false
set_option linter.unusedSimpArgs false
namespace Nm
/-- The unit of the last place in which is rounded. -/
def rk (P : Nat) (q : Int) (a : Nat) (e : Int) : Nat := (rn P q a e + e - q).toNat
theorem rU_dn (P : Nat) (q : Int) (a : Nat) (e : Int) : rU P q a e false = rm P q a e * 2 ^ rk P q a e := by
  unfold rU r1 rk; simp
theorem rU_ex {P : Nat} {q : Int} {a : Nat} {e : Int} (h : rr P q a e = 0) (up : Bool) : rU P q a e up = rm P q a e * 2 ^ rk P q a e := by
  unfold rU r1 rk; simp [h]
/-- The distances, in units of 2 to the lower one of both exponents. -/
theorem off_dn {P : Nat} {q : Int} {a : Nat} {e : Int} : rU P q a e false * 2 ^ (q - min e q).toNat + rr P q a e * 2 ^ (e - min e q).toNat = a * 2 ^ (e - min e q).toNat := by
  rw [rU_dn]
  have hn : q - e ≤ rn P q a e := by unfold rn; omega
  by_cases h : 0 ≤ rn P q a e
  · have e1 : rk P q a e + (q - min e q).toNat = (rn P q a e).toNat + (e - min e q).toNat := by unfold rk; omega
    have hm : rm P q a e = a / 2 ^ (rn P q a e).toNat := by
      unfold rm sh
      by_cases h0 : rn P q a e = 0
      · rw [h0]; simp
      · rw [if_pos (by omega), show (- -rn P q a e).toNat = (rn P q a e).toNat by omega]
    rw [Nat.mul_assoc, ← Nat.pow_add, e1, Nat.pow_add, ← Nat.mul_assoc, ← Nat.add_mul]
    have : rm P q a e * 2 ^ (rn P q a e).toNat + rr P q a e = a := by
      rw [hm]; unfold rr; rw [Nat.mul_comm]; exact Nat.div_add_mod _ _
    rw [this]
  · have hr : rr P q a e = 0 := by
      unfold rr
      rw [show (rn P q a e).toNat = 0 by omega, Nat.pow_zero, Nat.mod_one]
    have hm : rm P q a e = a * 2 ^ (-rn P q a e).toNat := by
      unfold rm sh
      rw [if_neg (by omega)]
    rw [hr, Nat.zero_mul, Nat.add_zero, hm, Nat.mul_assoc, Nat.mul_assoc, ← Nat.pow_add, ← Nat.pow_add]
    congr 2
    unfold rk; omega
end Nm
open Go.RowKit Go.Deep
namespace Fd
theorem same_yes (n : Bool) (a b : Option Addr) (cap cap' : Nat) (xs : List Int) (w : World) (hx : Sl .u32 w (.slice a xs.length cap) xs) (hy : Sl .u32 w (.slice b xs.length cap') xs) (hl : xs.length ≤ 1048576) :
    Calls Tryz.prog 23 #[.agg #[.bool n, .slice a xs.length cap], .agg #[.bool n, .slice b xs.length cap']] w fun e w' => e = .returned (.bool true) ∧ Below w.heap.size w w' := by
  have hbe : (n == n) = true := by simp
  have hle : ((xs.length : Int) != (xs.length : Int)) = false := by simp
  have Bx := (Box.new w (.bool n) (.slice a xs.length cap) 31).alloc (.cells #[.bool n, .slice b xs.length cap'] 31)
  have By := Box.new2 w (.cells #[.bool n, .slice a xs.length cap] 31) (.bool n) (.slice b xs.length cap') 31
  have sx := (hx.alloc (.cells #[.bool n, .slice a xs.length cap] 31)).alloc (.cells #[.bool n, .slice b xs.length cap'] 31)
  have sy := (hy.alloc (.cells #[.bool n, .slice a xs.length cap] 31)).alloc (.cells #[.bool n, .slice b xs.length cap'] 31)
  have hbV : Below w.heap.size w ((w.alloc (.cells #[.bool n, .slice a xs.length cap] 31)).alloc (.cells #[.bool n, .slice b xs.length cap'] 31)) := (by repeat (first | exact bz0 _ _ | refine bz1 ?_ | refine bz2 ?_ _ | refine bz3 ?_ _ | refine bz5 ?_ _ | refine bz6 ?_ _))
  go_enter Tryz.func23, Tryz.ntmps23
  go_wp2_with fail
  generalize (w.alloc (.cells #[.bool n, .slice a xs.length cap] 31)).alloc (.cells #[.bool n, .slice b xs.length cap'] 31) = V at Bx By sx sy hbV ⊢
  go_loopw [5] (fun iv wr => ∃ i : Nat, i ≤ xs.length ∧ iv = .int .i64 i ∧ Below V.heap.size V wr) (fun iv _ => xs.length - (intOf iv).toNat)
  case atStart => exact ⟨0, Nat.zero_le _, rfl, Below.refl _ _⟩
  case round =>
    obtain ⟨i, hi, rfl, hb⟩ := hrel
    obtain ⟨x0, x1⟩ := Bx.below hb
    obtain ⟨y0, y1⟩ := By.below hb
    by_cases hlt : i < xs.length
    · obtain ⟨-, _, _, h3⟩ := (sx.below hb).cells
      obtain ⟨-, _, _, h4⟩ := (sy.below hb).cells
      obtain ⟨ba, oa, rfl, ha⟩ := h3 (by omega)
      obtain ⟨bb, ob, rfl, hbb⟩ := h4 (by omega)
      have ca := ha i hlt
      have cb := hbb i hlt
      obtain ⟨z, hz⟩ : ∃ z, z = xs.getD i 0 := ⟨_, rfl⟩
      rw [← hz] at ca cb
      clear h3 h4 ha hbb hz
      have hzz : (z != z) = false := by simp
      have k0 : (0 : Int) ≤ (i : Int) := by omega
      have k1 : (i : Int) < (xs.length : Int) := by omega
      have kd : wr.drew.cell? ⟨w.heap.size, 1, none⟩ = some (.slice (some ⟨ba, oa, none⟩) xs.length cap) ∧ wr.drew.cell? ⟨ba, oa + i, none⟩ = some (.int .u32 z) ∧ wr.drew.cell? ⟨w.heap.size + 1, 1, none⟩ = some (.slice (some ⟨bb, ob, none⟩) xs.length cap') ∧ wr.drew.cell? ⟨bb, ob + i, none⟩ = some (.int .u32 z) := ⟨x1, ca, y1, cb⟩
      go_wp2_with fail
      go_region_held3 (fun w' => w'.cell? ⟨w.heap.size, 1, none⟩ = some (.slice (some ⟨ba, oa, none⟩) xs.length cap) ∧ w'.cell? ⟨ba, oa + i, none⟩ = some (.int .u32 z) ∧ w'.cell? ⟨w.heap.size + 1, 1, none⟩ = some (.slice (some ⟨bb, ob, none⟩) xs.length cap') ∧ w'.cell? ⟨bb, ob + i, none⟩ = some (.int .u32 z)) (with_reducible assumption) (fail)
      go_wp2
      go_roundw
      case rel => exact ⟨i + 1, by omega, by go_num, hb.drew⟩
      case measure => simp [intOf]; omega
    · obtain rfl : i = xs.length := by omega
      go_wp2
      go_ret
      exact ⟨rfl, bel_go hbV hb⟩
theorem fin_lt'32 {x : Int} (h0 : 0 ≤ x) (h1 : x < 4294967296) (hf : x % 2147483648 < 2139095040) : finB 32 x = true := by
  unfold finB
  rw [cls32 h1]
  unfold clsY
  simp only [decide_eq_true_eq]
  repeat' split
  all_goals omega
theorem fin_lt'64 {x : Int} (h0 : 0 ≤ x) (h1 : x < 18446744073709551616) (hf : x % 9223372036854775808 < 9218868437227405312) : finB 64 x = true := by
  unfold finB
  rw [cls64 ]
  unfold clsY
  simp only [decide_eq_true_eq]
  repeat' split
  all_goals omega
theorem sg32 {x : Int} (h0 : 0 ≤ x) (h1 : x < 4294967296) (y : Int) (hy : y = negF 32 x) :
    (0 ≤ y ∧ y < 4294967296) ∧ negF 32 y = x ∧ y ≠ x ∧ cls 32 y = cls 32 x ∧ finB 32 y = finB 32 x ∧ unI 32 y = -unI 32 x ∧ (x < 2147483648 → absF 32 x = x) ∧ (¬ x < 2147483648 → absF 32 x ≠ x ∧ absF 32 x = y) := by
  rw [neg32 h1] at hy
  have hr : 0 ≤ y ∧ y < 4294967296 := by split at hy <;> omega
  have hm : y % 2147483648 = x % 2147483648 := by split at hy <;> omega
  have hc : cls 32 y = cls 32 x := by rw [cls32 (x := y) (by omega), cls32 h1, hm]
  have hf : finB 32 y = finB 32 x := by unfold finB; rw [hc]
  have ax := ab32 h0 h1
  have ay := ab32 hr.1 hr.2
  have hs : sigB 32 y = !sigB 32 x := by
    unfold sigB; rw [ax, ay]
    split at hy
    · rename_i h
      rw [if_pos h, if_neg (by omega)]
      have e1 : (y != y - 2147483648) = true := by simp; omega
      rw [e1]; simp
    · rename_i h
      rw [if_neg h, if_pos (by omega)]
      have e1 : (x != x - 2147483648) = true := by simp; omega
      rw [e1]; simp
  refine ⟨hr, ?_, ?_, hc, hf, ?_, ?_, ?_⟩
  · rw [neg32 (x := y) (by omega)]; split at hy <;> split <;> omega
  · split at hy <;> omega
  · unfold unI
    rw [hf]
    cases hff : finB 32 x
    · rfl
    · rw [if_pos rfl, if_pos rfl]
      have e1 : pM 32 y = pM 32 x := by unfold pM; rw [hf, hm]; simp
      have e2 : pE 32 y = pE 32 x := by unfold pE; rw [hf, hm]; simp
      have e3 : pS 32 y = !pS 32 x := by unfold pS; rw [hf, hff, if_pos rfl, if_pos rfl, hs]
      rw [e1, e2, e3]
      cases pS 32 x <;> simp
  · intro h; rw [ax, if_pos h]
  · intro h
    rw [if_neg h] at hy
    rw [ax, if_neg h]; omega
theorem sg64 {x : Int} (h0 : 0 ≤ x) (h1 : x < 18446744073709551616) (y : Int) (hy : y = negF 64 x) :
    (0 ≤ y ∧ y < 18446744073709551616) ∧ negF 64 y = x ∧ y ≠ x ∧ cls 64 y = cls 64 x ∧ finB 64 y = finB 64 x ∧ unI 64 y = -unI 64 x ∧ (x < 9223372036854775808 → absF 64 x = x) ∧ (¬ x < 9223372036854775808 → absF 64 x ≠ x ∧ absF 64 x = y) := by
  rw [neg64] at hy
  have hr : 0 ≤ y ∧ y < 18446744073709551616 := by split at hy <;> omega
  have hm : y % 9223372036854775808 = x % 9223372036854775808 := by split at hy <;> omega
  have hc : cls 64 y = cls 64 x := by rw [cls64 (x := y), cls64 (x := x), hm]
  have hf : finB 64 y = finB 64 x := by unfold finB; rw [hc]
  have ax := ab64 h0 h1
  have ay := ab64 hr.1 hr.2
  have hs : sigB 64 y = !sigB 64 x := by
    unfold sigB; rw [ax, ay]
    split at hy
    · rename_i h
      rw [if_pos h, if_neg (by omega)]
      have e1 : (y != y - 9223372036854775808) = true := by simp; omega
      rw [e1]; simp
    · rename_i h
      rw [if_neg h, if_pos (by omega)]
      have e1 : (x != x - 9223372036854775808) = true := by simp; omega
      rw [e1]; simp
  refine ⟨hr, ?_, ?_, hc, hf, ?_, ?_, ?_⟩
  · rw [neg64 (x := y)]; split at hy <;> split <;> omega
  · split at hy <;> omega
  · unfold unI
    rw [hf]
    cases hff : finB 64 x
    · rfl
    · rw [if_pos rfl, if_pos rfl]
      have e1 : pM 64 y = pM 64 x := by unfold pM; rw [hf, hm]; simp
      have e2 : pE 64 y = pE 64 x := by unfold pE; rw [hf, hm]; simp
      have e3 : pS 64 y = !pS 64 x := by unfold pS; rw [hf, hff, if_pos rfl, if_pos rfl, hs]
      rw [e1, e2, e3]
      cases pS 64 x <;> simp
  · intro h; rw [ax, if_pos h]
  · intro h
    rw [if_neg h] at hy
    rw [ax, if_neg h]; omega
/-- The float x is z times 2 to the e. -/
def ValF (fm x z e : Int) : Prop := unI fm x * 2 ^ (unQ fm - min e (unQ fm)).toNat = z * 2 ^ (e - min e (unQ fm)).toNat
theorem unSg32 {v : Nat} (hv : v < 2139095040) (ng : Bool) : 0 ≤ sgn 2147483648 (v : Int) ng ∧ sgn 2147483648 (v : Int) ng < 4294967296 ∧ finB 32 (sgn 2147483648 (v : Int) ng) = true ∧ unI 32 (sgn 2147483648 (v : Int) ng) = (if ng then -((uf 8388608 v : Nat) : Int) else (uf 8388608 v : Nat)) := by
  have hb := sgn_abs32 (v := (v : Int)) (by omega) (by omega) ng
  have hm : sgn 2147483648 (v : Int) ng % 2147483648 = v := by unfold sgn; split <;> omega
  have hf : finB 32 (sgn 2147483648 (v : Int) ng) = true := fin_lt'32 hb.1 hb.2.1 (by omega)
  refine ⟨hb.1, hb.2.1, hf, ?_⟩
  rw [un_uf32 hb.1 hb.2.1 hf]
  cases ng
  · have e : sgn 2147483648 (v : Int) false = v := rfl
    rw [e, if_pos (by omega), Int.toNat_natCast]; rfl
  · have e : sgn 2147483648 (v : Int) true = v + 2147483648 := rfl
    rw [e, if_neg (by omega), show ((v : Int) + 2147483648 - 2147483648).toNat = v by omega]; rfl
theorem unSg64 {v : Nat} (hv : v < 9218868437227405312) (ng : Bool) : 0 ≤ sgn 9223372036854775808 (v : Int) ng ∧ sgn 9223372036854775808 (v : Int) ng < 18446744073709551616 ∧ finB 64 (sgn 9223372036854775808 (v : Int) ng) = true ∧ unI 64 (sgn 9223372036854775808 (v : Int) ng) = (if ng then -((uf 4503599627370496 v : Nat) : Int) else (uf 4503599627370496 v : Nat)) := by
  have hb := sgn_abs64 (v := (v : Int)) (by omega) (by omega) ng
  have hm : sgn 9223372036854775808 (v : Int) ng % 9223372036854775808 = v := by unfold sgn; split <;> omega
  have hf : finB 64 (sgn 9223372036854775808 (v : Int) ng) = true := fin_lt'64 hb.1 hb.2.1 (by omega)
  refine ⟨hb.1, hb.2.1, hf, ?_⟩
  rw [un_uf64 hb.1 hb.2.1 hf]
  cases ng
  · have e : sgn 9223372036854775808 (v : Int) false = v := rfl
    rw [e, if_pos (by omega), Int.toNat_natCast]; rfl
  · have e : sgn 9223372036854775808 (v : Int) true = v + 9223372036854775808 := rfl
    rw [e, if_neg (by omega), show ((v : Int) + 9223372036854775808 - 9223372036854775808).toNat = v by omega]; rfl
end Fd
theorem neg_i (fm y : Int) (w : World) (hT : Tab w) (hy : okF fm y = true) (y0 : 0 ≤ y) (y1 : y < 18446744073709551616) :
    Calls Tryz.prog 32 #[.int .i64 fm, .int .u64 y] w fun e w' => e = .returned (.int .u64 (negF fm y)) ∧ Below w.heap.size w w' := by
  rcases okF_cases hy with ⟨rfl, hy'⟩ | rfl
  · rw [neg32 hy']; exact impl_neg32 y w hT y0 hy'
  · rw [neg64]; exact impl_neg64 y w hT y0 y1
namespace Fd
theorem res4 {fn : Func} {t u v x : Tmp} (h : fn.results = #[.tmp t, .tmp u, .tmp v, .tmp x]) (tmps : Array Value) (P : Program) (w : World) :
    (results fn tmps).run P w = .ok (.tuple #[tmps.getD t undef, tmps.getD u undef, tmps.getD v undef, tmps.getD x undef]) w := by
  simp [results, h]
theorem sgn_bd2 (fm : Int) (g : Bool) : 0 ≤ sgn (sgOf fm) 0 g ∧ sgn (sgOf fm) 0 g < 18446744073709551616 ∧ 0 ≤ sgn (sgOf fm) (infOf fm) g ∧ sgn (sgOf fm) (infOf fm) g < 18446744073709551616 := by
  unfold sgn sgOf infOf; split <;> split <;> omega
/-- A format, a mode and two floats, as they are drawn. -/
def DrQ (w w' : World) (e : Ending) : Prop := ∃ fm mode a b : Int, e = .returned (.tuple #[.int .i64 fm, .int .i64 mode, .int .u64 a, .int .u64 b]) ∧ 0 ≤ a ∧ a < 18446744073709551616 ∧ 0 ≤ b ∧ b < 18446744073709551616 ∧ Below w.heap.size w w'
theorem drawAdd_x (ca : Option Addr) (cc : Nat) (cs : List Int) (w : World) (hs : Sl .u8 w (.slice ca cs.length cc) cs) (hby : ∀ i, 0 ≤ cs.getD i 0 ∧ cs.getD i 0 ≤ 255) (hl : cs.length ≤ 1048576) :
    Calls Tryz.prog 59 #[.slice ca cs.length cc] w fun e w' => DrQ w w' e := by
  go_enter Tryz.func59, Tryz.ntmps59
  go_wp2_with fail
  refine (open_any ca cc cs _ hs hby hl).mono ?_
  rintro e w1 ⟨rfl, hr1, hb1⟩
  go_wp2_with fail
  refine (some_any w.heap.size ca cc cs _ hr1).mono ?_
  rintro e w2 ⟨fm, x, rfl, x0, x1, hr2, hg2⟩
  have bel := bel_rd hb1 hg2 (Nat.le_refl _)
  clear hb1 hg2
  go_wp2_with fail
  refine (spec_ok fm x _).mono ?_
  rintro e w3 ⟨rfl, hb3⟩
  have hr3 := hr2.below hb3
  replace bel := bel_go bel hb3
  clear hb3 hr2
  cases hok : okF fm x
  · go_wp2
    ((try simp only [Exit.inBlock, Exit.then]); refine bodyPost_ret (res4 rfl _ _ _) rfl ?_)
    exact ⟨fm, 0, x, x, rfl, x0, x1, x0, x1, bel⟩
  · have NE := hid (fun w' h => near2_x fm (ok_fmt hok) x hok x0 x1 w.heap.size ca cc cs w' h)
    clear hok
    go_wp2_with fail
    refine (off_z w.heap.size ca cc cs 0 5 _ hr3 (by decide) (by decide) (by decide)).mono ?_
    rintro e w4 ⟨m, rfl, hr4, hg4⟩
    go_wp2_with fail
    refine (NE.out _ hr4).mono ?_
    rintro e w5 ⟨y, rfl, y0, y1, hr5, hg5⟩
    go_wp2
    ((try simp only [Exit.inBlock, Exit.then]); refine bodyPost_ret (res4 rfl _ _ _) rfl ?_)
    exact ⟨fm, m, x, y, rfl, x0, x1, y0, y1, bel_rd (bel_rd bel hg4 (Nat.le_refl _)) hg5 (Nat.le_refl _)⟩
/-- The units of two floats together. -/
theorem sumOf_x (fm x y : Int) (w : World) (hT : Tab w) (x0 : 0 ≤ x) (x1 : x < 18446744073709551616) (y0 : 0 ≤ y) (y1 : y < 18446744073709551616) :
    Calls Tryz.prog 46 #[.int .i64 fm, .int .u64 x, .int .u64 y] w fun e w' => ∃ a' c', e = .returned (.tuple #[.agg #[.bool (Nm.wn (unI fm x + unI fm y)), .slice a' (Nm.wl (unI fm x + unI fm y)).length c'], .bool (finB fm x && finB fm y)]) ∧ Sl .u32 w' (.slice a' (Nm.wl (unI fm x + unI fm y)).length c') (Nm.wl (unI fm x + unI fm y)) ∧ Below w.heap.size w w' := by
  have UX := hid (fun w' h => units_impl fm x w' h x0 x1)
  have UY := hid (fun w' h => units_impl fm y w' h y0 y1)
  unfold Ans at UX UY
  have CA := hid (fun a b c d w' h h' => eadd_impl (unI fm x) (unI fm y) a b c d w' h h' (un_lenA fm x) (un_lenA fm y) (uu_len fm x y))
  obtain ⟨gx, hgx⟩ : ∃ g, g = Nm.wn (unI fm x) := ⟨_, rfl⟩
  obtain ⟨gy, hgy⟩ : ∃ g, g = Nm.wn (unI fm y) := ⟨_, rfl⟩
  obtain ⟨gz, hgz⟩ : ∃ g, g = Nm.wn (unI fm x + unI fm y) := ⟨_, rfl⟩
  obtain ⟨X, hX⟩ : ∃ g, g = Nm.wl (unI fm x) := ⟨_, rfl⟩
  obtain ⟨Y, hY⟩ : ∃ g, g = Nm.wl (unI fm y) := ⟨_, rfl⟩
  obtain ⟨Z, hZ⟩ : ∃ g, g = Nm.wl (unI fm x + unI fm y) := ⟨_, rfl⟩
  obtain ⟨fx, hfx⟩ : ∃ g, g = finB fm x := ⟨_, rfl⟩
  obtain ⟨fy, hfy⟩ : ∃ g, g = finB fm y := ⟨_, rfl⟩
  rw [← hgx, ← hX, ← hfx] at UX
  rw [← hgy, ← hY, ← hfy] at UY
  rw [← hgx, ← hX, ← hgy, ← hY, ← hgz, ← hZ] at CA
  rw [← hgz, ← hZ, ← hfx, ← hfy]
  clear hgx hgy hgz hX hY hZ hfx hfy x0 x1 y0 y1
  cases fx <;> cases fy
  · 
    go_enter Tryz.func46, Tryz.ntmps46
    have bel := Below.refl w.heap.size w
    replace hT := hT.below (al_b _ (.cells #[.bool false, .slice none 0 0] 31))
    replace bel := bel_al bel (.cells #[.bool false, .slice none 0 0] 31)
    have Br := R2.new w (.bool false) (.slice none 0 0) 31
    obtain ⟨kr0, kr1, -, -⟩ := id Br
    go_wp2_with fail
    refine (UX.out _ hT).mono ?_
    rintro r w1 ⟨ax, cx, rfl, ox, hb⟩
    clear kr0 kr1
    replace bel := bel_go bel hb
    replace hT := hT.below hb
    replace Br := Br.below hb
    clear hb
    have sx := ox.sl
    clear ox
    replace hT := hT.below (al_b _ (.cells #[.bool gx, .slice ax X.length cx] 31))
    replace Br := Br.below (al_b _ (.cells #[.bool gx, .slice ax X.length cx] 31))
    replace sx := sx.below (al_b _ (.cells #[.bool gx, .slice ax X.length cx] 31))
    replace bel := bel_al bel (.cells #[.bool gx, .slice ax X.length cx] 31)
    have Bx := R2.new w1 (.bool gx) (.slice ax X.length cx) 31
    obtain ⟨kr0, kr1, -, -⟩ := id Br
    obtain ⟨kx0, kx1, -, -⟩ := id Bx
    go_wp2_with fail
    refine (UY.out _ hT).mono ?_
    rintro r w2 ⟨ay, cy, rfl, oy, hb⟩
    clear kr0 kr1 kx0 kx1
    replace bel := bel_go bel hb
    replace hT := hT.below hb
    replace Br := Br.below hb
    replace sx := sx.below hb
    replace Bx := Bx.below hb
    clear hb
    have sy := oy.sl
    clear oy
    replace hT := hT.below (al_b _ (.cells #[.bool gy, .slice ay Y.length cy] 31))
    replace Br := Br.below (al_b _ (.cells #[.bool gy, .slice ay Y.length cy] 31))
    replace sx := sx.below (al_b _ (.cells #[.bool gy, .slice ay Y.length cy] 31))
    replace Bx := Bx.below (al_b _ (.cells #[.bool gy, .slice ay Y.length cy] 31))
    replace sy := sy.below (al_b _ (.cells #[.bool gy, .slice ay Y.length cy] 31))
    replace bel := bel_al bel (.cells #[.bool gy, .slice ay Y.length cy] 31)
    have By := R2.new w2 (.bool gy) (.slice ay Y.length cy) 31
    obtain ⟨kr0, kr1, -, -⟩ := id Br
    obtain ⟨kx0, kx1, -, -⟩ := id Bx
    obtain ⟨ky0, ky1, -, -⟩ := id By
    go_wp2_with fail
    have hlr := World.block_lt_of_cell? _ _ Br.c0
    refine (CA.out ax ay cx cy _ sx sy).mono ?_
    rintro r w3 ⟨az, cz, rfl, oz, hb⟩
    clear kr0 kr1 kx0 kx1 ky0 ky1
    have ngz_r : ∀ g, az = some ⟨g, 0, none⟩ → g ≠ w.heap.size := fun g h => by have := (own_at oz g h).1; simp only [] at hlr; omega
    clear hlr
    replace bel := bel_go bel hb
    replace hT := hT.below hb
    replace Br := Br.below hb
    replace sx := sx.below hb
    replace Bx := Bx.below hb
    replace sy := sy.below hb
    replace By := By.below hb
    clear hb
    replace hT := hT.below (al_b _ (.cells #[.bool gz, .slice az Z.length cz] 31))
    replace Br := Br.below (al_b _ (.cells #[.bool gz, .slice az Z.length cz] 31))
    replace sx := sx.below (al_b _ (.cells #[.bool gz, .slice az Z.length cz] 31))
    replace Bx := Bx.below (al_b _ (.cells #[.bool gz, .slice az Z.length cz] 31))
    replace sy := sy.below (al_b _ (.cells #[.bool gz, .slice az Z.length cz] 31))
    replace By := By.below (al_b _ (.cells #[.bool gz, .slice az Z.length cz] 31))
    replace oz := oz.below (al_b _ (.cells #[.bool gz, .slice az Z.length cz] 31))
    replace bel := bel_al bel (.cells #[.bool gz, .slice az Z.length cz] 31)
    have Bz := R2.new w3 (.bool gz) (.slice az Z.length cz) 31
    obtain ⟨kr0, kr1, -, -⟩ := id Br
    obtain ⟨kx0, kx1, -, -⟩ := id Bx
    obtain ⟨ky0, ky1, -, -⟩ := id By
    obtain ⟨kz0, kz1, -, -⟩ := id Bz
    obtain ⟨-, -, lr0, lr1⟩ := id Br
    go_wp2
    refine bodyPost_ret (v := .tuple #[.agg #[.bool gz, .slice az Z.length cz], .bool false]) (by simp [results, Tryz.results46, go_sem, kr0, kr1, kx0, kx1, ky0, ky1, kz0, kz1, lr0, lr1]) rfl ⟨az, cz, rfl, ((oz.setOther ngz_r _).setOther ngz_r _).sl, ((bel.setCell (by simp) _).setCell (by simp) _)⟩
  · 
    go_enter Tryz.func46, Tryz.ntmps46
    have bel := Below.refl w.heap.size w
    replace hT := hT.below (al_b _ (.cells #[.bool false, .slice none 0 0] 31))
    replace bel := bel_al bel (.cells #[.bool false, .slice none 0 0] 31)
    have Br := R2.new w (.bool false) (.slice none 0 0) 31
    obtain ⟨kr0, kr1, -, -⟩ := id Br
    go_wp2_with fail
    refine (UX.out _ hT).mono ?_
    rintro r w1 ⟨ax, cx, rfl, ox, hb⟩
    clear kr0 kr1
    replace bel := bel_go bel hb
    replace hT := hT.below hb
    replace Br := Br.below hb
    clear hb
    have sx := ox.sl
    clear ox
    replace hT := hT.below (al_b _ (.cells #[.bool gx, .slice ax X.length cx] 31))
    replace Br := Br.below (al_b _ (.cells #[.bool gx, .slice ax X.length cx] 31))
    replace sx := sx.below (al_b _ (.cells #[.bool gx, .slice ax X.length cx] 31))
    replace bel := bel_al bel (.cells #[.bool gx, .slice ax X.length cx] 31)
    have Bx := R2.new w1 (.bool gx) (.slice ax X.length cx) 31
    obtain ⟨kr0, kr1, -, -⟩ := id Br
    obtain ⟨kx0, kx1, -, -⟩ := id Bx
    go_wp2_with fail
    refine (UY.out _ hT).mono ?_
    rintro r w2 ⟨ay, cy, rfl, oy, hb⟩
    clear kr0 kr1 kx0 kx1
    replace bel := bel_go bel hb
    replace hT := hT.below hb
    replace Br := Br.below hb
    replace sx := sx.below hb
    replace Bx := Bx.below hb
    clear hb
    have sy := oy.sl
    clear oy
    replace hT := hT.below (al_b _ (.cells #[.bool gy, .slice ay Y.length cy] 31))
    replace Br := Br.below (al_b _ (.cells #[.bool gy, .slice ay Y.length cy] 31))
    replace sx := sx.below (al_b _ (.cells #[.bool gy, .slice ay Y.length cy] 31))
    replace Bx := Bx.below (al_b _ (.cells #[.bool gy, .slice ay Y.length cy] 31))
    replace sy := sy.below (al_b _ (.cells #[.bool gy, .slice ay Y.length cy] 31))
    replace bel := bel_al bel (.cells #[.bool gy, .slice ay Y.length cy] 31)
    have By := R2.new w2 (.bool gy) (.slice ay Y.length cy) 31
    obtain ⟨kr0, kr1, -, -⟩ := id Br
    obtain ⟨kx0, kx1, -, -⟩ := id Bx
    obtain ⟨ky0, ky1, -, -⟩ := id By
    go_wp2_with fail
    have hlr := World.block_lt_of_cell? _ _ Br.c0
    refine (CA.out ax ay cx cy _ sx sy).mono ?_
    rintro r w3 ⟨az, cz, rfl, oz, hb⟩
    clear kr0 kr1 kx0 kx1 ky0 ky1
    have ngz_r : ∀ g, az = some ⟨g, 0, none⟩ → g ≠ w.heap.size := fun g h => by have := (own_at oz g h).1; simp only [] at hlr; omega
    clear hlr
    replace bel := bel_go bel hb
    replace hT := hT.below hb
    replace Br := Br.below hb
    replace sx := sx.below hb
    replace Bx := Bx.below hb
    replace sy := sy.below hb
    replace By := By.below hb
    clear hb
    replace hT := hT.below (al_b _ (.cells #[.bool gz, .slice az Z.length cz] 31))
    replace Br := Br.below (al_b _ (.cells #[.bool gz, .slice az Z.length cz] 31))
    replace sx := sx.below (al_b _ (.cells #[.bool gz, .slice az Z.length cz] 31))
    replace Bx := Bx.below (al_b _ (.cells #[.bool gz, .slice az Z.length cz] 31))
    replace sy := sy.below (al_b _ (.cells #[.bool gz, .slice az Z.length cz] 31))
    replace By := By.below (al_b _ (.cells #[.bool gz, .slice az Z.length cz] 31))
    replace oz := oz.below (al_b _ (.cells #[.bool gz, .slice az Z.length cz] 31))
    replace bel := bel_al bel (.cells #[.bool gz, .slice az Z.length cz] 31)
    have Bz := R2.new w3 (.bool gz) (.slice az Z.length cz) 31
    obtain ⟨kr0, kr1, -, -⟩ := id Br
    obtain ⟨kx0, kx1, -, -⟩ := id Bx
    obtain ⟨ky0, ky1, -, -⟩ := id By
    obtain ⟨kz0, kz1, -, -⟩ := id Bz
    obtain ⟨-, -, lr0, lr1⟩ := id Br
    go_wp2
    refine bodyPost_ret (v := .tuple #[.agg #[.bool gz, .slice az Z.length cz], .bool false]) (by simp [results, Tryz.results46, go_sem, kr0, kr1, kx0, kx1, ky0, ky1, kz0, kz1, lr0, lr1]) rfl ⟨az, cz, rfl, ((oz.setOther ngz_r _).setOther ngz_r _).sl, ((bel.setCell (by simp) _).setCell (by simp) _)⟩
  · 
    go_enter Tryz.func46, Tryz.ntmps46
    have bel := Below.refl w.heap.size w
    replace hT := hT.below (al_b _ (.cells #[.bool false, .slice none 0 0] 31))
    replace bel := bel_al bel (.cells #[.bool false, .slice none 0 0] 31)
    have Br := R2.new w (.bool false) (.slice none 0 0) 31
    obtain ⟨kr0, kr1, -, -⟩ := id Br
    go_wp2_with fail
    refine (UX.out _ hT).mono ?_
    rintro r w1 ⟨ax, cx, rfl, ox, hb⟩
    clear kr0 kr1
    replace bel := bel_go bel hb
    replace hT := hT.below hb
    replace Br := Br.below hb
    clear hb
    have sx := ox.sl
    clear ox
    replace hT := hT.below (al_b _ (.cells #[.bool gx, .slice ax X.length cx] 31))
    replace Br := Br.below (al_b _ (.cells #[.bool gx, .slice ax X.length cx] 31))
    replace sx := sx.below (al_b _ (.cells #[.bool gx, .slice ax X.length cx] 31))
    replace bel := bel_al bel (.cells #[.bool gx, .slice ax X.length cx] 31)
    have Bx := R2.new w1 (.bool gx) (.slice ax X.length cx) 31
    obtain ⟨kr0, kr1, -, -⟩ := id Br
    obtain ⟨kx0, kx1, -, -⟩ := id Bx
    go_wp2_with fail
    refine (UY.out _ hT).mono ?_
    rintro r w2 ⟨ay, cy, rfl, oy, hb⟩
    clear kr0 kr1 kx0 kx1
    replace bel := bel_go bel hb
    replace hT := hT.below hb
    replace Br := Br.below hb
    replace sx := sx.below hb
    replace Bx := Bx.below hb
    clear hb
    have sy := oy.sl
    clear oy
    replace hT := hT.below (al_b _ (.cells #[.bool gy, .slice ay Y.length cy] 31))
    replace Br := Br.below (al_b _ (.cells #[.bool gy, .slice ay Y.length cy] 31))
    replace sx := sx.below (al_b _ (.cells #[.bool gy, .slice ay Y.length cy] 31))
    replace Bx := Bx.below (al_b _ (.cells #[.bool gy, .slice ay Y.length cy] 31))
    replace sy := sy.below (al_b _ (.cells #[.bool gy, .slice ay Y.length cy] 31))
    replace bel := bel_al bel (.cells #[.bool gy, .slice ay Y.length cy] 31)
    have By := R2.new w2 (.bool gy) (.slice ay Y.length cy) 31
    obtain ⟨kr0, kr1, -, -⟩ := id Br
    obtain ⟨kx0, kx1, -, -⟩ := id Bx
    obtain ⟨ky0, ky1, -, -⟩ := id By
    go_wp2_with fail
    have hlr := World.block_lt_of_cell? _ _ Br.c0
    refine (CA.out ax ay cx cy _ sx sy).mono ?_
    rintro r w3 ⟨az, cz, rfl, oz, hb⟩
    clear kr0 kr1 kx0 kx1 ky0 ky1
    have ngz_r : ∀ g, az = some ⟨g, 0, none⟩ → g ≠ w.heap.size := fun g h => by have := (own_at oz g h).1; simp only [] at hlr; omega
    clear hlr
    replace bel := bel_go bel hb
    replace hT := hT.below hb
    replace Br := Br.below hb
    replace sx := sx.below hb
    replace Bx := Bx.below hb
    replace sy := sy.below hb
    replace By := By.below hb
    clear hb
    replace hT := hT.below (al_b _ (.cells #[.bool gz, .slice az Z.length cz] 31))
    replace Br := Br.below (al_b _ (.cells #[.bool gz, .slice az Z.length cz] 31))
    replace sx := sx.below (al_b _ (.cells #[.bool gz, .slice az Z.length cz] 31))
    replace Bx := Bx.below (al_b _ (.cells #[.bool gz, .slice az Z.length cz] 31))
    replace sy := sy.below (al_b _ (.cells #[.bool gz, .slice az Z.length cz] 31))
    replace By := By.below (al_b _ (.cells #[.bool gz, .slice az Z.length cz] 31))
    replace oz := oz.below (al_b _ (.cells #[.bool gz, .slice az Z.length cz] 31))
    replace bel := bel_al bel (.cells #[.bool gz, .slice az Z.length cz] 31)
    have Bz := R2.new w3 (.bool gz) (.slice az Z.length cz) 31
    obtain ⟨kr0, kr1, -, -⟩ := id Br
    obtain ⟨kx0, kx1, -, -⟩ := id Bx
    obtain ⟨ky0, ky1, -, -⟩ := id By
    obtain ⟨kz0, kz1, -, -⟩ := id Bz
    obtain ⟨-, -, lr0, lr1⟩ := id Br
    go_wp2
    refine bodyPost_ret (v := .tuple #[.agg #[.bool gz, .slice az Z.length cz], .bool false]) (by simp [results, Tryz.results46, go_sem, kr0, kr1, kx0, kx1, ky0, ky1, kz0, kz1, lr0, lr1]) rfl ⟨az, cz, rfl, ((oz.setOther ngz_r _).setOther ngz_r _).sl, ((bel.setCell (by simp) _).setCell (by simp) _)⟩
  · 
    go_enter Tryz.func46, Tryz.ntmps46
    have bel := Below.refl w.heap.size w
    replace hT := hT.below (al_b _ (.cells #[.bool false, .slice none 0 0] 31))
    replace bel := bel_al bel (.cells #[.bool false, .slice none 0 0] 31)
    have Br := R2.new w (.bool false) (.slice none 0 0) 31
    obtain ⟨kr0, kr1, -, -⟩ := id Br
    go_wp2_with fail
    refine (UX.out _ hT).mono ?_
    rintro r w1 ⟨ax, cx, rfl, ox, hb⟩
    clear kr0 kr1
    replace bel := bel_go bel hb
    replace hT := hT.below hb
    replace Br := Br.below hb
    clear hb
    have sx := ox.sl
    clear ox
    replace hT := hT.below (al_b _ (.cells #[.bool gx, .slice ax X.length cx] 31))
    replace Br := Br.below (al_b _ (.cells #[.bool gx, .slice ax X.length cx] 31))
    replace sx := sx.below (al_b _ (.cells #[.bool gx, .slice ax X.length cx] 31))
    replace bel := bel_al bel (.cells #[.bool gx, .slice ax X.length cx] 31)
    have Bx := R2.new w1 (.bool gx) (.slice ax X.length cx) 31
    obtain ⟨kr0, kr1, -, -⟩ := id Br
    obtain ⟨kx0, kx1, -, -⟩ := id Bx
    go_wp2_with fail
    refine (UY.out _ hT).mono ?_
    rintro r w2 ⟨ay, cy, rfl, oy, hb⟩
    clear kr0 kr1 kx0 kx1
    replace bel := bel_go bel hb
    replace hT := hT.below hb
    replace Br := Br.below hb
    replace sx := sx.below hb
    replace Bx := Bx.below hb
    clear hb
    have sy := oy.sl
    clear oy
    replace hT := hT.below (al_b _ (.cells #[.bool gy, .slice ay Y.length cy] 31))
    replace Br := Br.below (al_b _ (.cells #[.bool gy, .slice ay Y.length cy] 31))
    replace sx := sx.below (al_b _ (.cells #[.bool gy, .slice ay Y.length cy] 31))
    replace Bx := Bx.below (al_b _ (.cells #[.bool gy, .slice ay Y.length cy] 31))
    replace sy := sy.below (al_b _ (.cells #[.bool gy, .slice ay Y.length cy] 31))
    replace bel := bel_al bel (.cells #[.bool gy, .slice ay Y.length cy] 31)
    have By := R2.new w2 (.bool gy) (.slice ay Y.length cy) 31
    obtain ⟨kr0, kr1, -, -⟩ := id Br
    obtain ⟨kx0, kx1, -, -⟩ := id Bx
    obtain ⟨ky0, ky1, -, -⟩ := id By
    go_wp2_with fail
    have hlr := World.block_lt_of_cell? _ _ Br.c0
    refine (CA.out ax ay cx cy _ sx sy).mono ?_
    rintro r w3 ⟨az, cz, rfl, oz, hb⟩
    clear kr0 kr1 kx0 kx1 ky0 ky1
    have ngz_r : ∀ g, az = some ⟨g, 0, none⟩ → g ≠ w.heap.size := fun g h => by have := (own_at oz g h).1; simp only [] at hlr; omega
    clear hlr
    replace bel := bel_go bel hb
    replace hT := hT.below hb
    replace Br := Br.below hb
    replace sx := sx.below hb
    replace Bx := Bx.below hb
    replace sy := sy.below hb
    replace By := By.below hb
    clear hb
    replace hT := hT.below (al_b _ (.cells #[.bool gz, .slice az Z.length cz] 31))
    replace Br := Br.below (al_b _ (.cells #[.bool gz, .slice az Z.length cz] 31))
    replace sx := sx.below (al_b _ (.cells #[.bool gz, .slice az Z.length cz] 31))
    replace Bx := Bx.below (al_b _ (.cells #[.bool gz, .slice az Z.length cz] 31))
    replace sy := sy.below (al_b _ (.cells #[.bool gz, .slice az Z.length cz] 31))
    replace By := By.below (al_b _ (.cells #[.bool gz, .slice az Z.length cz] 31))
    replace oz := oz.below (al_b _ (.cells #[.bool gz, .slice az Z.length cz] 31))
    replace bel := bel_al bel (.cells #[.bool gz, .slice az Z.length cz] 31)
    have Bz := R2.new w3 (.bool gz) (.slice az Z.length cz) 31
    obtain ⟨kr0, kr1, -, -⟩ := id Br
    obtain ⟨kx0, kx1, -, -⟩ := id Bx
    obtain ⟨ky0, ky1, -, -⟩ := id By
    obtain ⟨kz0, kz1, -, -⟩ := id Bz
    obtain ⟨-, -, lr0, lr1⟩ := id Br
    go_wp2
    refine bodyPost_ret (v := .tuple #[.agg #[.bool gz, .slice az Z.length cz], .bool true]) (by simp [results, Tryz.results46, go_sem, kr0, kr1, kx0, kx1, ky0, ky1, kz0, kz1, lr0, lr1]) rfl ⟨az, cz, rfl, ((oz.setOther ngz_r _).setOther ngz_r _).sl, ((bel.setCell (by simp) _).setCell (by simp) _)⟩
end Fd
/-- What a head lacks of X, in 2 to the 2 Q. -/
def auR (fm h X : Int) : Int := X - unI fm h * 2 ^ (-unQ fm).toNat
def auT (fm h X : Int) : Int := if finB fm h then (if auR fm h X = 0 then sgn (sgOf fm) 0 (sigB fm h) else RdB fm 5 (Nm.wn (auR fm h X)) (Nm.wl (auR fm h X)) (2 * unQ fm)) else h
def auF (fm h f X : Int) : Int := if finB fm h then (if auR fm h X = 0 then 0 else RdF fm 5 (Nm.wn (auR fm h X)) (Nm.wl (auR fm h X)) (2 * unQ fm)) else f
theorem bl_mulp (v : Int) (n : Nat) : bitLen (v * 2 ^ n).natAbs ≤ bitLen v.natAbs + n := by
  rw [Int.natAbs_mul, Int.natAbs_pow]
  by_cases h : v.natAbs = 0
  · rw [h, Nat.zero_mul, Nm.bl_zero]; omega
  · exact Nat.le_of_eq (Nm.bl_mul h n)
theorem bl_add2 {x y : Int} {k : Nat} (hx : bitLen x.natAbs ≤ k) (hy : bitLen y.natAbs ≤ k) : bitLen (x + y).natAbs ≤ k + 1 := by
  rw [Nm.bl_le_iff] at hx hy ⊢
  rw [Nat.pow_succ]
  have : (x + y).natAbs ≤ x.natAbs + y.natAbs := Int.natAbs_add_le x y
  exact (fun (P a b c : Nat) (h : c ≤ a + b) (ha : a < P) (hb : b < P) => by omega : ∀ P a b c : Nat, c ≤ a + b → a < P → b < P → c < P * 2) _ _ _ _ this hx hy
theorem auR_bl {fm h X : Int} (hX : bitLen X.natAbs ≤ 6300) : bitLen (auR fm h X).natAbs ≤ 6301 := by
  have h1 := un_blA fm h
  have h2 := bl_mulp (unI fm h) (-unQ fm).toNat
  have hq := unq_bd fm
  have h3 : bitLen (-(unI fm h * 2 ^ (-unQ fm).toNat)).natAbs ≤ 6300 := by rw [Int.natAbs_neg]; omega
  have := bl_add2 hX h3
  unfold auR
  rw [Int.sub_eq_add_neg]; exact this
theorem auR_len {fm h X : Int} (hX : bitLen X.natAbs ≤ 6300) : (Nm.wl (auR fm h X)).length ≤ 200 := by
  have := auR_bl (fm := fm) (h := h) hX
  unfold Nm.wl; exact lim_len (k := 200) (by omega)
end Go.Proofs.YtmcflggionkhlaaGreatDoor
