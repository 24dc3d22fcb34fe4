/-
  What is needed of LH, RY, ZNe.
-/
import Derived.Test.YtbhfbaogmkgmiaaGreatDoorC57
import Derived.Test.YtbhfbaogmkgmiaaGreatDoorC61
import Derived.Test.YtbhfbaogmkgmiaaGreatDoorC64
import Derived.Test.YtbhfbaogmkgmiaaGreatDoorC66
import Derived.Test.YtbhfbaogmkgmiaaGreatDoorC67
set_option maxHeartbeats 16000000
set_option maxRecDepth 1000000
namespace Go.Proofs.YtbhfbaogmkgmiaaGreatDoor
set_option linter.unusedVariables false
set_option linter.unusedSimpArgs false
open Go.RowKit Go.Deep
namespace Fd
theorem byteOf_any (ca : Option Addr) (cc : Nat) (cs : List Int) (i : Int) (i0 : 0 ≤ i) (i1 : i ≤ 100) (w : World) (hs : Sl .u8 w (.slice ca cs.length cc) cs) (hby : ∀ i, 0 ≤ cs.getD i 0 ∧ cs.getD i 0 ≤ 255) (hl : cs.length ≤ 1048576) :
    Calls Tryz.prog 23 #[.slice ca cs.length cc, .int .i64 i] w fun e w' => ∃ v : Int, e = .returned (.int .i64 v) ∧ 0 ≤ v ∧ v ≤ 255 ∧ Below w.heap.size w w' := by
  by_cases h0 : cs.length = 0
  · have e0 : ((cs.length : Int) == 0) = true := by rw [h0]; rfl
    go_enter Tryz.func23, Tryz.ntmps23
    go_wp2
    go_ret
    exact ⟨0, rfl, by omega, by omega, Below.refl _ _⟩
  · have e0 : ((cs.length : Int) == 0) = false := by rw [beq_eq_false_iff_ne]; omega
    obtain ⟨-, hx1, hx2, hx3⟩ := hs.cells
    obtain ⟨b, off, rfl, hcx⟩ := hx3 (by omega)
    obtain ⟨k, hk⟩ : ∃ k : Nat, (k : Int) = i % (cs.length : Int) := ⟨(i % (cs.length : Int)).toNat, Int.toNat_of_nonneg (Int.emod_nonneg i (by omega))⟩
    have k1 : (k : Int) < (cs.length : Int) := by rw [hk]; exact Int.emod_lt_of_pos i (by omega)
    have k0 : (0 : Int) ≤ (k : Int) := Int.natCast_nonneg k
    have hca := hcx k (Int.ofNat_lt.1 k1)
    have hb := hby k
    obtain ⟨x, hxk⟩ : ∃ x, x = cs.getD k 0 := ⟨_, rfl⟩
    rw [← hxk] at hca hb
    have ht : Int.tmod i (cs.length : Int) = (k : Int) := by rw [Int.tmod_eq_emod_of_nonneg i0]; exact hk.symm
    clear hx3 hcx hxk hby hk
    go_enter Tryz.func23, Tryz.ntmps23
    go_wp2
    go_ret
    exact ⟨x, rfl, hb.1, hb.2, Below.refl _ _⟩
open Nm (rU rr rn rh rm flo flb)
/-- FnNearest's numbers. -/
theorem nst32 (z e m : Int) (hO : RdO 32 0 (Nm.wn z) (Nm.wl z) e = true) (hm : m = 0 ∨ m = 4 ∨ m = 5) (d u x : Int) (hd : d = RdB 32 3 (Nm.wn z) (Nm.wl z) e) (hu : u = RdB 32 2 (Nm.wn z) (Nm.wl z) e) (hx : x = RdB 32 m (Nm.wn z) (Nm.wl z) e) :
    (x = d ∨ x = u) ∧ ∀ y, y = (if x = d then u else d) → finB 32 x = true → finB 32 y = true → (offD 32 x z e).natAbs ≤ (offD 32 y z e).natAbs := by
  by_cases hz : z = 0
  · have hl := (wl_zero' z).2 hz
    rw [(Rd_zero (fm := 32) (mode := 3) (ng := Nm.wn z) (e := e) hl).1] at hd
    rw [(Rd_zero (fm := 32) (mode := 2) (ng := Nm.wn z) (e := e) hl).1] at hu
    rw [(Rd_zero (fm := 32) (mode := m) (ng := Nm.wn z) (e := e) hl).1] at hx
    subst hd hu hx
    refine ⟨.inl rfl, fun y hy _ _ => ?_⟩
    rw [if_pos rfl] at hy; subst hy; exact Nat.le_refl _
  · obtain ⟨t3, t2, -, -, tn⟩ := two_32 z e hO hz
    have ha : z.natAbs ≠ 0 := by omega
    obtain ⟨l1, l2, l3⟩ := lohi (P := 24) (q := (-149)) (I := 2139095040) (a := z.natAbs) (e := e) (by decide) ha (by decide) (by decide)
    have hL : (2 : Nat) ^ (24 - 1) = 8388608 := by decide
    have bo := fun h hr => both_off (P := 24) (q := (-149)) (I := 2139095040) (a := z.natAbs) (e := e) (by decide) ha h hr
    rw [hL] at bo
    have xn := tn m hm
    rw [← hx] at xn
    rw [t3] at hd
    rw [t2] at hu
    have olo := offD_mg32 z e l1
    have ohi := fun h => offD_mg32 z e (v := mgHi 24 (-149) 2139095040 z.natAbs e) h
    have hl2 : flo 24 2139095040 (rU 24 (-149) z.natAbs e false) = false → mgHi 24 (-149) 2139095040 z.natAbs e = 2139095040 := fun hf => by
      unfold mgHi
      rw [if_neg (fun h => by rw [flo_dn_of_up (by decide) ha h] at hf; exact absurd hf (by decide))]
    have hex : exB 24 (-149) 2139095040 z.natAbs e = true → rr 24 (-149) z.natAbs e = 0 := fun h => by unfold exB at h; simp at h; exact h.1
    have hex2 : exB 24 (-149) 2139095040 z.natAbs e = false → flo 24 2139095040 (rU 24 (-149) z.natAbs e false) = true → rr 24 (-149) z.natAbs e ≠ 0 := fun h h' h'' => by unfold exB at h; simp [h', h''] at h
    have hrc := Nm.rh_cases (P := 24) (q := (-149)) (a := z.natAbs) (e := e)
    obtain ⟨A, hA⟩ : ∃ A, A = mgLo 24 (-149) 2139095040 z.natAbs e := ⟨_, rfl⟩
    obtain ⟨B, hB⟩ : ∃ A, A = mgHi 24 (-149) 2139095040 z.natAbs e := ⟨_, rfl⟩
    rw [← hA] at l1 l3 hd hu olo bo xn
    rw [← hB] at l2 l3 hd hu ohi bo xn hl2
    obtain ⟨b, hb⟩ : ∃ b, b = upB m (((rm 24 (-149) z.natAbs e : Nat) : Int) % 2 == 1) (rh 24 (-149) z.natAbs e) (Nm.wn z) := ⟨_, rfl⟩
    rw [← hb] at xn
    -- what is rounded to is one of both
    have hor : (b = true ∧ x = sgn 2147483648 (B : Int) (Nm.wn z)) ∨ (b = false ∧ flo 24 2139095040 (rU 24 (-149) z.natAbs e false) = true ∧ x = sgn 2147483648 (A : Int) (Nm.wn z)) ∨ (b = false ∧ flo 24 2139095040 (rU 24 (-149) z.natAbs e false) = false ∧ x = sgn 2147483648 (B : Int) (Nm.wn z)) := by
      cases b
      · right
        cases hf : flo 24 2139095040 (rU 24 (-149) z.natAbs e false)
        · right; rw [hf] at xn; simpa using xn
        · left; rw [hf] at xn; simpa using xn
      · left; simpa using xn
    have hdu : (d = sgn 2147483648 (A : Int) (Nm.wn z) ∧ u = sgn 2147483648 (B : Int) (Nm.wn z)) ∨ (d = sgn 2147483648 (B : Int) (Nm.wn z) ∧ u = sgn 2147483648 (A : Int) (Nm.wn z)) := by
      by_cases hn : z < 0
      · rw [if_pos hn] at hd hu; exact .inr ⟨hd, hu⟩
      · rw [if_neg hn] at hd hu; exact .inl ⟨hd, hu⟩
    have hab : sgn 2147483648 (A : Int) (Nm.wn z) = sgn 2147483648 (B : Int) (Nm.wn z) → A = B := fun h => by
      have := sgn_inj (S := 2147483648) (a := (A : Int)) (b := (B : Int)) (g := Nm.wn z)
      rw [h] at this; simp at this; omega
    -- the other one
    have hoth : ∀ y, y = (if x = d then u else d) → (x = sgn 2147483648 (A : Int) (Nm.wn z) → y = sgn 2147483648 (B : Int) (Nm.wn z)) ∧ (x = sgn 2147483648 (B : Int) (Nm.wn z) → y = sgn 2147483648 (A : Int) (Nm.wn z)) := by
      intro y hy
      rcases hdu with ⟨h1, h2⟩ | ⟨h1, h2⟩
      · constructor
        · intro hxa; rw [if_pos (by rw [hxa, h1])] at hy; rw [hy, h2]
        · intro hxb
          by_cases hc : x = d
          · rw [if_pos hc] at hy; rw [hy, h2, ← hxb, hc, h1]
          · rw [if_neg hc] at hy; rw [hy, h1]
      · constructor
        · intro hxa
          by_cases hc : x = d
          · rw [if_pos hc] at hy; rw [hy, h2, ← hxa, hc, h1]
          · rw [if_neg hc] at hy; rw [hy, h1]
        · intro hxb; rw [if_pos (by rw [hxb, h1])] at hy; rw [hy, h2]
    refine ⟨?_, fun y hy fx fy => ?_⟩
    · rcases hdu with ⟨h1, h2⟩ | ⟨h1, h2⟩ <;> rcases hor with ⟨-, h3⟩ | ⟨-, -, h3⟩ | ⟨-, -, h3⟩ <;> rw [h1, h2, h3] <;> simp
    · have ho := hoth y hy
      have hup : ∀ h : Int, b = true → rh 24 (-149) z.natAbs e = h → 0 ≤ h := fun h hbt hh => by
        rw [hh] at hb
        rw [hbt] at hb
        rcases hm with rfl | rfl | rfl <;> unfold upB at hb <;> simp at hb <;> omega
      have hdn : ∀ h : Int, b = false → rh 24 (-149) z.natAbs e = h → h ≤ 0 := fun h hbt hh => by
        rw [hh] at hb
        rw [hbt] at hb
        rcases hm with rfl | rfl | rfl <;> unfold upB at hb <;> simp at hb <;> omega
      by_cases hr : rr 24 (-149) z.natAbs e = 0
      · -- exact: b says nothing, both are the same, or not both are finite
        by_cases hf : flo 24 2139095040 (rU 24 (-149) z.natAbs e false) = true
        · have hxx : exB 24 (-149) 2139095040 z.natAbs e = true := by unfold exB; rw [decide_eq_true hr, hf]; rfl
          rw [hxx] at l3; simp at l3
          rcases hor with ⟨-, h3⟩ | ⟨-, -, h3⟩ | ⟨-, -, h3⟩
          · rw [ho.2 h3, h3, l3]; exact Nat.le_refl _
          · rw [ho.1 h3, h3, l3]; exact Nat.le_refl _
          · rw [ho.2 h3, h3, l3]; exact Nat.le_refl _
        · have hf' : flo 24 2139095040 (rU 24 (-149) z.natAbs e false) = false := by simpa using hf
          have hBI := hl2 hf'
          exfalso
          rcases hor with ⟨-, h3⟩ | ⟨-, hf2, -⟩ | ⟨-, -, h3⟩
          · rw [h3] at fx; have := fin_mg32 l2 _ fx; omega
          · exact hf hf2
          · rw [h3] at fx; have := fin_mg32 l2 _ fx; omega
      · have hBf : finB 32 (sgn 2147483648 (B : Int) (Nm.wn z)) = true := by
          rcases hor with ⟨-, h3⟩ | ⟨-, -, h3⟩ | ⟨-, -, h3⟩
          · rw [← h3]; exact fx
          · rw [← ho.1 h3]; exact fy
          · rw [← h3]; exact fx
        have hBv := fin_mg32 l2 _ hBf
        obtain ⟨b1, b2, b3⟩ := bo hBv hr
        have o1 := olo
        have o2 := ohi hBv
        have hpw := Nat.two_pow_pos (e - min e (-149)).toNat
        obtain ⟨R, hR⟩ : ∃ R, R = rr 24 (-149) z.natAbs e * 2 ^ (e - min e (-149)).toNat := ⟨_, rfl⟩
        obtain ⟨T, hT⟩ : ∃ R, R = (2 ^ (rn 24 (-149) z.natAbs e).toNat - rr 24 (-149) z.natAbs e) * 2 ^ (e - min e (-149)).toNat := ⟨_, rfl⟩
        rw [← hR] at b1
        rw [← hT] at b2
        have hA2 : (offD 32 (sgn 2147483648 (A : Int) (Nm.wn z)) z e).natAbs = R := by rw [o1]; split <;> omega
        have hB2 : (offD 32 (sgn 2147483648 (B : Int) (Nm.wn z)) z e).natAbs = T := by rw [o2]; split <;> omega
        have hRT : 2 * rr 24 (-149) z.natAbs e ≤ 2 ^ (rn 24 (-149) z.natAbs e).toNat → R ≤ T := fun h => by rw [hR, hT]; exact Nat.mul_le_mul_right _ (by omega)
        have hTR : 2 ^ (rn 24 (-149) z.natAbs e).toNat ≤ 2 * rr 24 (-149) z.natAbs e → T ≤ R := fun h => by rw [hR, hT]; exact Nat.mul_le_mul_right _ (by omega)
        rcases hor with ⟨hbt, h3⟩ | ⟨hbt, -, h3⟩ | ⟨hbt, hf2, h3⟩
        · rw [ho.2 h3, h3, hA2, hB2]
          apply hTR
          have := hup _ hbt rfl
          rcases hrc with ⟨c, -⟩ | ⟨c, c2⟩ | ⟨c, c2⟩ <;> omega
        · rw [ho.1 h3, h3, hA2, hB2]
          apply hRT
          have := hdn _ hbt rfl
          rcases hrc with ⟨c, c2⟩ | ⟨c, c2⟩ | ⟨c, -⟩ <;> omega
        · have := hl2 hf2; omega
/-- FnNearest's numbers. -/
theorem nst64 (z e m : Int) (hO : RdO 64 0 (Nm.wn z) (Nm.wl z) e = true) (hm : m = 0 ∨ m = 4 ∨ m = 5) (d u x : Int) (hd : d = RdB 64 3 (Nm.wn z) (Nm.wl z) e) (hu : u = RdB 64 2 (Nm.wn z) (Nm.wl z) e) (hx : x = RdB 64 m (Nm.wn z) (Nm.wl z) e) :
    (x = d ∨ x = u) ∧ ∀ y, y = (if x = d then u else d) → finB 64 x = true → finB 64 y = true → (offD 64 x z e).natAbs ≤ (offD 64 y z e).natAbs := by
  by_cases hz : z = 0
  · have hl := (wl_zero' z).2 hz
    rw [(Rd_zero (fm := 64) (mode := 3) (ng := Nm.wn z) (e := e) hl).1] at hd
    rw [(Rd_zero (fm := 64) (mode := 2) (ng := Nm.wn z) (e := e) hl).1] at hu
    rw [(Rd_zero (fm := 64) (mode := m) (ng := Nm.wn z) (e := e) hl).1] at hx
    subst hd hu hx
    refine ⟨.inl rfl, fun y hy _ _ => ?_⟩
    rw [if_pos rfl] at hy; subst hy; exact Nat.le_refl _
  · obtain ⟨t3, t2, -, -, tn⟩ := two_64 z e hO hz
    have ha : z.natAbs ≠ 0 := by omega
    obtain ⟨l1, l2, l3⟩ := lohi (P := 53) (q := (-1074)) (I := 9218868437227405312) (a := z.natAbs) (e := e) (by decide) ha (by decide) (by decide)
    have hL : (2 : Nat) ^ (53 - 1) = 4503599627370496 := by decide
    have bo := fun h hr => both_off (P := 53) (q := (-1074)) (I := 9218868437227405312) (a := z.natAbs) (e := e) (by decide) ha h hr
    rw [hL] at bo
    have xn := tn m hm
    rw [← hx] at xn
    rw [t3] at hd
    rw [t2] at hu
    have olo := offD_mg64 z e l1
    have ohi := fun h => offD_mg64 z e (v := mgHi 53 (-1074) 9218868437227405312 z.natAbs e) h
    have hl2 : flo 53 9218868437227405312 (rU 53 (-1074) z.natAbs e false) = false → mgHi 53 (-1074) 9218868437227405312 z.natAbs e = 9218868437227405312 := fun hf => by
      unfold mgHi
      rw [if_neg (fun h => by rw [flo_dn_of_up (by decide) ha h] at hf; exact absurd hf (by decide))]
    have hex : exB 53 (-1074) 9218868437227405312 z.natAbs e = true → rr 53 (-1074) z.natAbs e = 0 := fun h => by unfold exB at h; simp at h; exact h.1
    have hex2 : exB 53 (-1074) 9218868437227405312 z.natAbs e = false → flo 53 9218868437227405312 (rU 53 (-1074) z.natAbs e false) = true → rr 53 (-1074) z.natAbs e ≠ 0 := fun h h' h'' => by unfold exB at h; simp [h', h''] at h
    have hrc := Nm.rh_cases (P := 53) (q := (-1074)) (a := z.natAbs) (e := e)
    obtain ⟨A, hA⟩ : ∃ A, A = mgLo 53 (-1074) 9218868437227405312 z.natAbs e := ⟨_, rfl⟩
    obtain ⟨B, hB⟩ : ∃ A, A = mgHi 53 (-1074) 9218868437227405312 z.natAbs e := ⟨_, rfl⟩
    rw [← hA] at l1 l3 hd hu olo bo xn
    rw [← hB] at l2 l3 hd hu ohi bo xn hl2
    obtain ⟨b, hb⟩ : ∃ b, b = upB m (((rm 53 (-1074) z.natAbs e : Nat) : Int) % 2 == 1) (rh 53 (-1074) z.natAbs e) (Nm.wn z) := ⟨_, rfl⟩
    rw [← hb] at xn
    -- what is rounded to is one of both
    have hor : (b = true ∧ x = sgn 9223372036854775808 (B : Int) (Nm.wn z)) ∨ (b = false ∧ flo 53 9218868437227405312 (rU 53 (-1074) z.natAbs e false) = true ∧ x = sgn 9223372036854775808 (A : Int) (Nm.wn z)) ∨ (b = false ∧ flo 53 9218868437227405312 (rU 53 (-1074) z.natAbs e false) = false ∧ x = sgn 9223372036854775808 (B : Int) (Nm.wn z)) := by
      cases b
      · right
        cases hf : flo 53 9218868437227405312 (rU 53 (-1074) z.natAbs e false)
        · right; rw [hf] at xn; simpa using xn
        · left; rw [hf] at xn; simpa using xn
      · left; simpa using xn
    have hdu : (d = sgn 9223372036854775808 (A : Int) (Nm.wn z) ∧ u = sgn 9223372036854775808 (B : Int) (Nm.wn z)) ∨ (d = sgn 9223372036854775808 (B : Int) (Nm.wn z) ∧ u = sgn 9223372036854775808 (A : Int) (Nm.wn z)) := by
      by_cases hn : z < 0
      · rw [if_pos hn] at hd hu; exact .inr ⟨hd, hu⟩
      · rw [if_neg hn] at hd hu; exact .inl ⟨hd, hu⟩
    have hab : sgn 9223372036854775808 (A : Int) (Nm.wn z) = sgn 9223372036854775808 (B : Int) (Nm.wn z) → A = B := fun h => by
      have := sgn_inj (S := 9223372036854775808) (a := (A : Int)) (b := (B : Int)) (g := Nm.wn z)
      rw [h] at this; simp at this; omega
    -- the other one
    have hoth : ∀ y, y = (if x = d then u else d) → (x = sgn 9223372036854775808 (A : Int) (Nm.wn z) → y = sgn 9223372036854775808 (B : Int) (Nm.wn z)) ∧ (x = sgn 9223372036854775808 (B : Int) (Nm.wn z) → y = sgn 9223372036854775808 (A : Int) (Nm.wn z)) := by
      intro y hy
      rcases hdu with ⟨h1, h2⟩ | ⟨h1, h2⟩
      · constructor
        · intro hxa; rw [if_pos (by rw [hxa, h1])] at hy; rw [hy, h2]
        · intro hxb
          by_cases hc : x = d
          · rw [if_pos hc] at hy; rw [hy, h2, ← hxb, hc, h1]
          · rw [if_neg hc] at hy; rw [hy, h1]
      · constructor
        · intro hxa
          by_cases hc : x = d
          · rw [if_pos hc] at hy; rw [hy, h2, ← hxa, hc, h1]
          · rw [if_neg hc] at hy; rw [hy, h1]
        · intro hxb; rw [if_pos (by rw [hxb, h1])] at hy; rw [hy, h2]
    refine ⟨?_, fun y hy fx fy => ?_⟩
    · rcases hdu with ⟨h1, h2⟩ | ⟨h1, h2⟩ <;> rcases hor with ⟨-, h3⟩ | ⟨-, -, h3⟩ | ⟨-, -, h3⟩ <;> rw [h1, h2, h3] <;> simp
    · have ho := hoth y hy
      have hup : ∀ h : Int, b = true → rh 53 (-1074) z.natAbs e = h → 0 ≤ h := fun h hbt hh => by
        rw [hh] at hb
        rw [hbt] at hb
        rcases hm with rfl | rfl | rfl <;> unfold upB at hb <;> simp at hb <;> omega
      have hdn : ∀ h : Int, b = false → rh 53 (-1074) z.natAbs e = h → h ≤ 0 := fun h hbt hh => by
        rw [hh] at hb
        rw [hbt] at hb
        rcases hm with rfl | rfl | rfl <;> unfold upB at hb <;> simp at hb <;> omega
      by_cases hr : rr 53 (-1074) z.natAbs e = 0
      · -- exact: b says nothing, both are the same, or not both are finite
        by_cases hf : flo 53 9218868437227405312 (rU 53 (-1074) z.natAbs e false) = true
        · have hxx : exB 53 (-1074) 9218868437227405312 z.natAbs e = true := by unfold exB; rw [decide_eq_true hr, hf]; rfl
          rw [hxx] at l3; simp at l3
          rcases hor with ⟨-, h3⟩ | ⟨-, -, h3⟩ | ⟨-, -, h3⟩
          · rw [ho.2 h3, h3, l3]; exact Nat.le_refl _
          · rw [ho.1 h3, h3, l3]; exact Nat.le_refl _
          · rw [ho.2 h3, h3, l3]; exact Nat.le_refl _
        · have hf' : flo 53 9218868437227405312 (rU 53 (-1074) z.natAbs e false) = false := by simpa using hf
          have hBI := hl2 hf'
          exfalso
          rcases hor with ⟨-, h3⟩ | ⟨-, hf2, -⟩ | ⟨-, -, h3⟩
          · rw [h3] at fx; have := fin_mg64 l2 _ fx; omega
          · exact hf hf2
          · rw [h3] at fx; have := fin_mg64 l2 _ fx; omega
      · have hBf : finB 64 (sgn 9223372036854775808 (B : Int) (Nm.wn z)) = true := by
          rcases hor with ⟨-, h3⟩ | ⟨-, -, h3⟩ | ⟨-, -, h3⟩
          · rw [← h3]; exact fx
          · rw [← ho.1 h3]; exact fy
          · rw [← h3]; exact fx
        have hBv := fin_mg64 l2 _ hBf
        obtain ⟨b1, b2, b3⟩ := bo hBv hr
        have o1 := olo
        have o2 := ohi hBv
        have hpw := Nat.two_pow_pos (e - min e (-1074)).toNat
        obtain ⟨R, hR⟩ : ∃ R, R = rr 53 (-1074) z.natAbs e * 2 ^ (e - min e (-1074)).toNat := ⟨_, rfl⟩
        obtain ⟨T, hT⟩ : ∃ R, R = (2 ^ (rn 53 (-1074) z.natAbs e).toNat - rr 53 (-1074) z.natAbs e) * 2 ^ (e - min e (-1074)).toNat := ⟨_, rfl⟩
        rw [← hR] at b1
        rw [← hT] at b2
        have hA2 : (offD 64 (sgn 9223372036854775808 (A : Int) (Nm.wn z)) z e).natAbs = R := by rw [o1]; split <;> omega
        have hB2 : (offD 64 (sgn 9223372036854775808 (B : Int) (Nm.wn z)) z e).natAbs = T := by rw [o2]; split <;> omega
        have hRT : 2 * rr 53 (-1074) z.natAbs e ≤ 2 ^ (rn 53 (-1074) z.natAbs e).toNat → R ≤ T := fun h => by rw [hR, hT]; exact Nat.mul_le_mul_right _ (by omega)
        have hTR : 2 ^ (rn 53 (-1074) z.natAbs e).toNat ≤ 2 * rr 53 (-1074) z.natAbs e → T ≤ R := fun h => by rw [hR, hT]; exact Nat.mul_le_mul_right _ (by omega)
        rcases hor with ⟨hbt, h3⟩ | ⟨hbt, -, h3⟩ | ⟨hbt, hf2, h3⟩
        · rw [ho.2 h3, h3, hA2, hB2]
          apply hTR
          have := hup _ hbt rfl
          rcases hrc with ⟨c, -⟩ | ⟨c, c2⟩ | ⟨c, c2⟩ <;> omega
        · rw [ho.1 h3, h3, hA2, hB2]
          apply hRT
          have := hdn _ hbt rfl
          rcases hrc with ⟨c, c2⟩ | ⟨c, c2⟩ | ⟨c, -⟩ <;> omega
        · have := hl2 hf2; omega
end Fd
namespace Fd
theorem nst_any {fm : Int} (hfm : fmtB fm = true) (z e m : Int) (hO : RdO fm 0 (Nm.wn z) (Nm.wl z) e = true) (hm : m = 0 ∨ m = 4 ∨ m = 5) (d u x : Int) (hd : d = RdB fm 3 (Nm.wn z) (Nm.wl z) e) (hu : u = RdB fm 2 (Nm.wn z) (Nm.wl z) e) (hx : x = RdB fm m (Nm.wn z) (Nm.wl z) e) :
    (x = d ∨ x = u) ∧ ∀ y, y = (if x = d then u else d) → finB fm x = true → finB fm y = true → (offD fm x z e).natAbs ≤ (offD fm y z e).natAbs := by
  rcases fmt_cases hfm with rfl | rfl
  · exact nst32 z e m hO hm d u x hd hu hx
  · exact nst64 z e m hO hm d u x hd hu hx
theorem nelaw (ca : Option Addr) (cc : Nat) (cs : List Int) (w : World) (hT : T3 w) (hs : Sl .u8 w (.slice ca cs.length cc) cs) (hby : ∀ i, 0 ≤ cs.getD i 0 ∧ cs.getD i 0 ≤ 255) (hl : cs.length ≤ 1048576) :
    Calls Tryz.prog 5 #[.slice ca cs.length cc] w fun e w' => e = .returned (.bool true) ∧ Below w.heap.size w w' := by
  go_enter Tryz.func5, Tryz.ntmps5
  go_wp2_with fail
  refine (big_any ca cs.length cc _ (by omega) false (by simp; omega)).mono ?_
  rintro r w0 ⟨rfl, rfl⟩
  go_wp2_with fail
  refine (drawRounded_x ca cc cs _ hs hby hl).mono ?_
  rintro r w1 ⟨fm, mode, ng, L0, a, c, e, rfl, hfm, hL, hd, sL, bel⟩
  have T := hT.below bel
  have sc := hs.below bel
  clear hs hT
  have hL' : L0.length ≤ 1048576 := by omega
  have GO := hid (fun w' h => goes_any fm ng L0 e a c w' h hd hL')
  go_upto_region 4 with fail
  have T := T.below (al_b _ (.cells #[.bool ng, .slice a L0.length c] 26))
  have sL := sL.below (al_b _ (.cells #[.bool ng, .slice a L0.length c] 26))
  have sc := sc.below (al_b _ (.cells #[.bool ng, .slice a L0.length c] 26))
  have Bw := R2.new w1 (.bool ng) (.slice a L0.length c) 26
  have bel := bel_al bel (.cells #[.bool ng, .slice a L0.length c] 26)
  generalize w1.alloc (.cells #[.bool ng, .slice a L0.length c] 26) = W1 at T sL sc bel Bw ⊢
  go_cut [7] (fun s wx => (∃ m : Int, s = .int .i64 m ∧ (m = 0 ∨ m = 4 ∨ m = 5)) ∧ Below W1.heap.size W1 wx)
  case first =>
    clear GO hL' hd hL hfm
    have BY := hid (fun w' h => byteOf_any ca cc cs 3 (by decide) (by decide) w' h hby hl)
    have k0 : (W1.alloc (.cells #[.int .i64 0, .int .i64 4, .int .i64 5] 2)).cell? ⟨W1.heap.size, 0, none⟩ = some (.int .i64 0) := by simp
    have k1 : (W1.alloc (.cells #[.int .i64 0, .int .i64 4, .int .i64 5] 2)).cell? ⟨W1.heap.size, 1, none⟩ = some (.int .i64 4) := by simp
    have k2 : (W1.alloc (.cells #[.int .i64 0, .int .i64 4, .int .i64 5] 2)).cell? ⟨W1.heap.size, 2, none⟩ = some (.int .i64 5) := by simp
    have hlt := World.block_lt_of_cell? _ _ k0
    go_wp2_with fail
    refine (BY.out _ (sc.below (al_b _ _))).mono ?_
    rintro r w2 ⟨bt, rfl, bt0, bt1, hb⟩
    replace k0 := (hb.cell (p := ⟨W1.heap.size, 0, none⟩) hlt).trans k0
    replace k1 := (hb.cell (p := ⟨W1.heap.size, 1, none⟩) hlt).trans k1
    replace k2 := (hb.cell (p := ⟨W1.heap.size, 2, none⟩) hlt).trans k2
    have belw : Below W1.heap.size W1 w2 := bel_go (al_b _ _) hb
    clear hb hlt
    rcases (show Int.tmod bt 3 = 0 ∨ Int.tmod bt 3 = 1 ∨ Int.tmod bt 3 = 2 by rw [Int.tmod_eq_emod_of_nonneg bt0]; omega) with hj | hj | hj
    · go_wp2_with fail
      go_meet
      exact ⟨⟨0, rfl, .inl rfl⟩, belw⟩
    · go_wp2_with fail
      go_meet
      exact ⟨⟨4, rfl, .inr (.inl rfl)⟩, belw⟩
    · go_wp2_with fail
      go_meet
      exact ⟨⟨5, rfl, .inr (.inr rfl)⟩, belw⟩
  case rest =>
  obtain ⟨⟨m, rfl, hm⟩, hb⟩ := hcut
  replace T := T.below hb
  replace sL := sL.below hb
  replace Bw := Bw.below hb
  replace bel := bel_go bel hb
  clear hb sc hby hl
  have C3 := hid (fun w' h h' => round_any fm 3 ng L0 e a c w' h h' hd hL')
  have C2 := hid (fun w' h h' => round_any fm 2 ng L0 e a c w' h h' hd hL')
  have Cm := hid (fun w' h h' => round_any fm m ng L0 e a c w' h h' hd hL')
  by_cases hg : RdO fm 0 ng L0 e = true
  rotate_left
  · replace hg : RdO fm 0 ng L0 e = false := by simpa using hg
    obtain ⟨x3, h_x3⟩ : ∃ q, q = RdB fm 3 ng L0 e := ⟨_, rfl⟩
    obtain ⟨f3, h_f3⟩ : ∃ q, q = RdF fm 3 ng L0 e := ⟨_, rfl⟩
    rw [← h_x3, ← h_f3] at C3
    clear h_x3 h_f3
    obtain ⟨x2, h_x2⟩ : ∃ q, q = RdB fm 2 ng L0 e := ⟨_, rfl⟩
    obtain ⟨f2, h_f2⟩ : ∃ q, q = RdF fm 2 ng L0 e := ⟨_, rfl⟩
    rw [← h_x2, ← h_f2] at C2
    clear h_x2 h_f2
    obtain ⟨xm, h_xm⟩ : ∃ q, q = RdB fm m ng L0 e := ⟨_, rfl⟩
    obtain ⟨fm, h_fm⟩ : ∃ q, q = RdF fm m ng L0 e := ⟨_, rfl⟩
    rw [← h_xm, ← h_fm] at Cm
    clear h_xm h_fm
    rw [hg] at GO
    clear hg hd
    obtain ⟨kw0, kw1, -, -⟩ := id Bw
    go_wp2_with fail
    refine (C3.out _ T sL).mono ?_
    rintro r w2 ⟨rfl, hb⟩
    clear kw0 kw1
    replace bel := bel_go bel hb
    replace T := T.below hb
    replace sL := sL.below hb
    replace Bw := Bw.below hb
    clear hb
    obtain ⟨kw0, kw1, -, -⟩ := id Bw
    go_wp2_with fail
    refine (C2.out _ T sL).mono ?_
    rintro r w3 ⟨rfl, hb⟩
    clear kw0 kw1
    replace bel := bel_go bel hb
    replace T := T.below hb
    replace sL := sL.below hb
    replace Bw := Bw.below hb
    clear hb
    obtain ⟨kw0, kw1, -, -⟩ := id Bw
    go_wp2_with fail
    refine (Cm.out _ T sL).mono ?_
    rintro r w4 ⟨rfl, hb⟩
    clear kw0 kw1
    replace bel := bel_go bel hb
    replace T := T.below hb
    replace sL := sL.below hb
    replace Bw := Bw.below hb
    clear hb
    obtain ⟨kw0, kw1, -, -⟩ := id Bw
    go_wp2_with fail
    refine (GO.out _ sL).mono ?_
    rintro r w5 ⟨rfl, hb⟩
    clear kw0 kw1
    replace bel := bel_go bel hb
    replace T := T.below hb
    replace sL := sL.below hb
    replace Bw := Bw.below hb
    clear hb
    obtain ⟨kw0, kw1, -, -⟩ := id Bw
    go_wp2
    all_goals go_ret
    all_goals exact ⟨rfl, bel⟩
  · have hok : okB ng L0 = true := by have := hg; unfold RdO at this; simp at this; exact this.1.2
    have he : -10000 ≤ e ∧ e ≤ 10000 := by have := hg; unfold RdO inZ at this; simp at this; omega
    obtain ⟨v1, v2⟩ := wl_of_ok hd hok
    obtain ⟨z, hz⟩ : ∃ z, z = Nm.wv ng L0 := ⟨_, rfl⟩
    rw [← hz] at v1 v2
    subst v1 v2
    have hlz : (Nm.wl z).length ≤ 200 := (okB_nz hok).2
    have OF := hid (fun x (h : 0 ≤ x ∧ x < 18446744073709551616) w' h1 h2 => off_x hfm x z e a c w' h1 h.1 h.2 hlz h2 he.1 he.2)
    rw [hg] at GO
    have NS := hid (nst_any hfm z e m hg hm)
    have D0 := hid (RdB_bd fm 3 z e)
    have U0 := hid (RdB_bd fm 2 z e)
    obtain ⟨x3, h_x3⟩ : ∃ q, q = RdB fm 3 (Nm.wn z) (Nm.wl z) e := ⟨_, rfl⟩
    obtain ⟨f3, h_f3⟩ : ∃ q, q = RdF fm 3 (Nm.wn z) (Nm.wl z) e := ⟨_, rfl⟩
    rw [← h_x3, ← h_f3] at C3
    clear h_f3
    obtain ⟨x2, h_x2⟩ : ∃ q, q = RdB fm 2 (Nm.wn z) (Nm.wl z) e := ⟨_, rfl⟩
    obtain ⟨f2, h_f2⟩ : ∃ q, q = RdF fm 2 (Nm.wn z) (Nm.wl z) e := ⟨_, rfl⟩
    rw [← h_x2, ← h_f2] at C2
    clear h_f2
    obtain ⟨xm, h_xm⟩ : ∃ q, q = RdB fm m (Nm.wn z) (Nm.wl z) e := ⟨_, rfl⟩
    obtain ⟨fm, h_fm⟩ : ∃ q, q = RdF fm m (Nm.wn z) (Nm.wl z) e := ⟨_, rfl⟩
    rw [← h_xm, ← h_fm] at Cm
    clear h_fm
    rw [← h_x3] at D0
    rw [← h_x2] at U0
    obtain ⟨k1, k2⟩ := NS.out x3 x2 xm h_x3 h_x2 h_xm
    clear NS h_x3 h_x2 h_xm hz hok hg hL hL' hd he hlz
    have OD := hid (fun w' h1 h2 => OF.out x3 D0.out w' h1 h2)
    have OU := hid (fun w' h1 h2 => OF.out x2 U0.out w' h1 h2)
    clear OF D0 U0
    replace k2 := hid k2
    obtain ⟨gz, h_gz⟩ : ∃ q, q = Nm.wn z := ⟨_, rfl⟩
    obtain ⟨Z, h_Z⟩ : ∃ q, q = Nm.wl z := ⟨_, rfl⟩
    rw [← h_gz, ← h_Z] at C3 C2 Cm GO OD OU
    rw [← h_Z] at sL
    rw [← h_gz, ← h_Z] at Bw
    clear h_gz h_Z
    by_cases hxd : xm = x3
    · rw [hxd] at Cm
      have k2 := hid (k2.out x2 (by rw [if_pos hxd]))
      rw [hxd] at k2
      clear hxd k1
      have eq_x3 : (x3 == x3) = true := by simp
      have eq_x2 : (x2 == x2) = true := by simp
      obtain ⟨kw0, kw1, -, -⟩ := id Bw
      go_wp2_with fail
      refine (C3.out _ T sL).mono ?_
      rintro r w2 ⟨rfl, hb⟩
      clear kw0 kw1
      replace bel := bel_go bel hb
      replace T := T.below hb
      replace sL := sL.below hb
      replace Bw := Bw.below hb
      clear hb
      obtain ⟨kw0, kw1, -, -⟩ := id Bw
      go_wp2_with fail
      refine (C2.out _ T sL).mono ?_
      rintro r w3 ⟨rfl, hb⟩
      clear kw0 kw1
      replace bel := bel_go bel hb
      replace T := T.below hb
      replace sL := sL.below hb
      replace Bw := Bw.below hb
      clear hb
      obtain ⟨kw0, kw1, -, -⟩ := id Bw
      go_wp2_with fail
      refine (Cm.out _ T sL).mono ?_
      rintro r w4 ⟨rfl, hb⟩
      clear kw0 kw1
      replace bel := bel_go bel hb
      replace T := T.below hb
      replace sL := sL.below hb
      replace Bw := Bw.below hb
      clear hb
      obtain ⟨kw0, kw1, -, -⟩ := id Bw
      go_wp2_with fail
      refine (GO.out _ sL).mono ?_
      rintro r w5 ⟨rfl, hb⟩
      clear kw0 kw1
      replace bel := bel_go bel hb
      replace T := T.below hb
      replace sL := sL.below hb
      replace Bw := Bw.below hb
      clear hb
      obtain ⟨kw0, kw1, -, -⟩ := id Bw
      go_wp2_with fail
      refine (OD.out _ T.s.f sL).mono ?_
      rintro r w6 ⟨D1, O1, a1, c1, rfl, h1, l1, s1, hb⟩
      clear kw0 kw1
      replace bel := bel_go bel hb
      replace T := T.below hb
      replace sL := sL.below hb
      replace Bw := Bw.below hb
      clear hb
      replace h1 := hid h1
      replace l1 := hid l1
      obtain ⟨g1, h_g1⟩ : ∃ q, q = Nm.wn D1 := ⟨_, rfl⟩
      obtain ⟨L1, e1⟩ : ∃ q, q = Nm.wl D1 := ⟨_, rfl⟩
      rw [← h_g1, ← e1]
      rw [← e1] at s1
      clear h_g1
      replace e1 := hid e1
      replace T := T.below (al_b _ (.cells #[.bool g1, .slice a1 L1.length c1] 26))
      replace sL := sL.below (al_b _ (.cells #[.bool g1, .slice a1 L1.length c1] 26))
      replace Bw := Bw.below (al_b _ (.cells #[.bool g1, .slice a1 L1.length c1] 26))
      replace s1 := s1.below (al_b _ (.cells #[.bool g1, .slice a1 L1.length c1] 26))
      replace bel := bel_al bel (.cells #[.bool g1, .slice a1 L1.length c1] 26)
      have B1 := R2.new w6 (.bool g1) (.slice a1 L1.length c1) 26
      obtain ⟨kw0, kw1, -, -⟩ := id Bw
      obtain ⟨k10, k11, -, -⟩ := id B1
      go_wp2_with fail
      refine (OU.out _ T.s.f sL).mono ?_
      rintro r w7 ⟨D2, O2, a2, c2, rfl, h2, l2, s2, hb⟩
      clear kw0 kw1 k10 k11
      replace bel := bel_go bel hb
      replace T := T.below hb
      replace sL := sL.below hb
      replace Bw := Bw.below hb
      replace s1 := s1.below hb
      replace B1 := B1.below hb
      clear hb
      replace h2 := hid h2
      replace l2 := hid l2
      obtain ⟨g2, h_g2⟩ : ∃ q, q = Nm.wn D2 := ⟨_, rfl⟩
      obtain ⟨L2, e2⟩ : ∃ q, q = Nm.wl D2 := ⟨_, rfl⟩
      rw [← h_g2, ← e2]
      rw [← e2] at s2
      clear h_g2
      replace e2 := hid e2
      replace T := T.below (al_b _ (.cells #[.bool g2, .slice a2 L2.length c2] 26))
      replace sL := sL.below (al_b _ (.cells #[.bool g2, .slice a2 L2.length c2] 26))
      replace Bw := Bw.below (al_b _ (.cells #[.bool g2, .slice a2 L2.length c2] 26))
      replace s1 := s1.below (al_b _ (.cells #[.bool g2, .slice a2 L2.length c2] 26))
      replace B1 := B1.below (al_b _ (.cells #[.bool g2, .slice a2 L2.length c2] 26))
      replace s2 := s2.below (al_b _ (.cells #[.bool g2, .slice a2 L2.length c2] 26))
      replace bel := bel_al bel (.cells #[.bool g2, .slice a2 L2.length c2] 26)
      have B2 := R2.new w7 (.bool g2) (.slice a2 L2.length c2) 26
      obtain ⟨k, h_k⟩ : ∃ q, q = cmpI (D1.natAbs : Nat) (D2.natAbs : Nat) := ⟨_, rfl⟩
      have q : O1 = true → O2 = true → decide (k ≤ 0) = true := fun h h' => by
        obtain ⟨f1, f2⟩ := h1.out h
        obtain ⟨f3, f4⟩ := h2.out h'
        have := k2.out f1 f3
        rw [← f2, ← f4] at this
        apply decide_eq_true
        rw [h_k]; unfold cmpI
        split
        · decide
        · split
          · omega
          · decide
      have CW := hid (fun w' h h' => cmp_w D1 D2 a1 a2 c1 c2 w' h h' (fit_k (by have := l1.out; omega)) (fit_k (by have := l2.out; omega)))
      rw [← h_k, ← e1.out, ← e2.out] at CW
      clear h1 h2 e1 e2 l1 l2 k2 h_k C3 C2 Cm GO OD OU
      go_upto_region 15 with fail
      generalize (w7.alloc (.cells #[.bool g2, .slice a2 L2.length c2] 26)) = W at bel T sL Bw B1 B2 s1 s2 ⊢
      cases O1
      · cases O2
        · clear q CW
          have belR := Below.drew (Below.refl W.heap.size W)
          refine wp_region_held_drew (S := fun w' => (w'.cell? ⟨w6.heap.size, 0, none⟩ = some (.bool g1) ∧ w'.cell? ⟨w6.heap.size, 1, none⟩ = some (.slice a1 L1.length c1)) ∧ (w'.cell? ⟨w7.heap.size, 0, none⟩ = some (.bool g2) ∧ w'.cell? ⟨w7.heap.size, 1, none⟩ = some (.slice a2 L2.length c2))) (by kernel_rfl) ?_ (fun hHeld => ?_)
          · exact ⟨⟨B1.c0, B1.c1⟩, B2.c0, B2.c1⟩
          generalize W.drew = v0 at belR hHeld ⊢
          refine tk 0 ?_ rfl (Or.inl ⟨by rfl, ?_⟩) ?_
          rotate_left
          · (intro w hSw; go_simp; try (with_reducible rfl))
          try simp only [Act.put, Ls]
          refine tk 1 ?_ rfl (Or.inl ⟨by rfl, ?_⟩) ?_
          rotate_left
          · (intro w hSw; go_simp; try (with_reducible rfl))
          try simp only [Act.put, Ls]
          refine tk 2 ?_ rfl (Or.inl ⟨by rfl, ?_⟩) ?_
          rotate_left
          · (intro w hSw; go_simp; try (with_reducible rfl))
          try simp only [Act.put, Ls]
          try rw [eq_x3]
          refine tk 3 ?_ rfl (Or.inl ⟨by rfl, ?_⟩) ?_
          rotate_left
          · (intro w hSw; go_simp; try (with_reducible rfl))
          try simp only [Act.put, Ls]
          refine tk 4 undef rfl (Or.inr ⟨by rfl, rfl⟩) ?_
          try simp only [Act.put, Ls]
          refine tk 5 undef rfl (Or.inr ⟨by rfl, rfl⟩) ?_
          try simp only [Act.put, Ls]
          refine tk 6 undef rfl (Or.inr ⟨by rfl, rfl⟩) ?_
          try simp only [Act.put, Ls]
          refine tk 7 ?_ rfl (Or.inl ⟨by rfl, ?_⟩) ?_
          rotate_left
          · (intro w hSw; go_simp; try (with_reducible rfl))
          try simp only [Act.put, Ls]
          refine tk 8 ?_ rfl (Or.inl ⟨by rfl, ?_⟩) ?_
          rotate_left
          · (intro w hSw; go_simp; try (with_reducible rfl))
          try simp only [Act.put, Ls]
          refine tk 9 ?_ rfl (Or.inl ⟨by rfl, ?_⟩) ?_
          rotate_left
          · (intro w hSw; go_simp; try (with_reducible rfl))
          try simp only [Act.put, Ls]
          refine tk 10 ?_ rfl (Or.inl ⟨by rfl, ?_⟩) ?_
          rotate_left
          · (intro w hSw; go_simp; try (with_reducible rfl))
          try simp only [Act.put, Ls]
          refine tk 11 ?_ rfl (Or.inl ⟨by rfl, ?_⟩) ?_
          rotate_left
          · (intro w hSw; go_simp; try (with_reducible rfl))
          try simp only [Act.put, Ls]
          refine tk 12 undef rfl (Or.inr ⟨by rfl, rfl⟩) ?_
          try simp only [Act.put, Ls]
          refine tk 13 undef rfl (Or.inr ⟨by rfl, rfl⟩) ?_
          try simp only [Act.put, Ls]
          refine tk 14 ?_ rfl (Or.inl ⟨by rfl, ?_⟩) ?_
          rotate_left
          · (intro w hSw; go_simp; try (with_reducible rfl))
          try simp only [Act.put, Ls]
          refine tk 15 ?_ rfl (Or.inl ⟨by rfl, ?_⟩) ?_
          rotate_left
          · (intro w hSw; go_simp; try (with_reducible rfl))
          try simp only [Act.put, Ls]
          refine tk 16 undef rfl (Or.inr ⟨by rfl, rfl⟩) ?_
          try simp only [Act.put, Ls]
          refine tk 17 undef rfl (Or.inr ⟨by rfl, rfl⟩) ?_
          try simp only [Act.put, Ls]
          refine tk 18 undef rfl (Or.inr ⟨by rfl, rfl⟩) ?_
          try simp only [Act.put, Ls]
          refine tk 19 undef rfl (Or.inr ⟨by rfl, rfl⟩) ?_
          try simp only [Act.put, Ls]
          refine tk 20 undef rfl (Or.inr ⟨by rfl, rfl⟩) ?_
          try simp only [Act.put, Ls]
          refine tk 21 undef rfl (Or.inr ⟨by rfl, rfl⟩) ?_
          try simp only [Act.put, Ls]
          refine tk 22 ?_ rfl (Or.inl ⟨by rfl, ?_⟩) ?_
          rotate_left
          · (intro w hSw; go_simp; try (with_reducible rfl))
          try simp only [Act.put, Ls]
          refine tk 23 ?_ rfl (Or.inl ⟨by rfl, ?_⟩) ?_
          rotate_left
          · (intro w hSw; go_simp; try (with_reducible rfl))
          try simp only [Act.put, Ls]
          refine rdy 24 rfl (fun K hK => ?_)
          go_simp
          refine hK.out _ _ ?_ (fun hHeld => ?_)
          · exact ⟨⟨(B1.below belR).c0, (B1.below belR).c1⟩, (B2.below belR).c0, (B2.below belR).c1⟩
          clear hK K
          try simp only [Act.put, Ls]
          refine wpAnyH_done (by kernel_rfl) ?_ _
          replace bel := bel.trans (belR.mono bel.size)
          clear belR
          go_wp2
          all_goals go_ret
          all_goals exact ⟨rfl, bel⟩
        · clear q CW
          have belR := Below.drew (Below.refl W.heap.size W)
          refine wp_region_held_drew (S := fun w' => (w'.cell? ⟨w6.heap.size, 0, none⟩ = some (.bool g1) ∧ w'.cell? ⟨w6.heap.size, 1, none⟩ = some (.slice a1 L1.length c1)) ∧ (w'.cell? ⟨w7.heap.size, 0, none⟩ = some (.bool g2) ∧ w'.cell? ⟨w7.heap.size, 1, none⟩ = some (.slice a2 L2.length c2))) (by kernel_rfl) ?_ (fun hHeld => ?_)
          · exact ⟨⟨B1.c0, B1.c1⟩, B2.c0, B2.c1⟩
          generalize W.drew = v0 at belR hHeld ⊢
          refine tk 0 ?_ rfl (Or.inl ⟨by rfl, ?_⟩) ?_
          rotate_left
          · (intro w hSw; go_simp; try (with_reducible rfl))
          try simp only [Act.put, Ls]
          refine tk 1 ?_ rfl (Or.inl ⟨by rfl, ?_⟩) ?_
          rotate_left
          · (intro w hSw; go_simp; try (with_reducible rfl))
          try simp only [Act.put, Ls]
          refine tk 2 ?_ rfl (Or.inl ⟨by rfl, ?_⟩) ?_
          rotate_left
          · (intro w hSw; go_simp; try (with_reducible rfl))
          try simp only [Act.put, Ls]
          try rw [eq_x3]
          refine tk 3 ?_ rfl (Or.inl ⟨by rfl, ?_⟩) ?_
          rotate_left
          · (intro w hSw; go_simp; try (with_reducible rfl))
          try simp only [Act.put, Ls]
          refine tk 4 undef rfl (Or.inr ⟨by rfl, rfl⟩) ?_
          try simp only [Act.put, Ls]
          refine tk 5 undef rfl (Or.inr ⟨by rfl, rfl⟩) ?_
          try simp only [Act.put, Ls]
          refine tk 6 undef rfl (Or.inr ⟨by rfl, rfl⟩) ?_
          try simp only [Act.put, Ls]
          refine tk 7 ?_ rfl (Or.inl ⟨by rfl, ?_⟩) ?_
          rotate_left
          · (intro w hSw; go_simp; try (with_reducible rfl))
          try simp only [Act.put, Ls]
          refine tk 8 ?_ rfl (Or.inl ⟨by rfl, ?_⟩) ?_
          rotate_left
          · (intro w hSw; go_simp; try (with_reducible rfl))
          try simp only [Act.put, Ls]
          refine tk 9 ?_ rfl (Or.inl ⟨by rfl, ?_⟩) ?_
          rotate_left
          · (intro w hSw; go_simp; try (with_reducible rfl))
          try simp only [Act.put, Ls]
          refine tk 10 ?_ rfl (Or.inl ⟨by rfl, ?_⟩) ?_
          rotate_left
          · (intro w hSw; go_simp; try (with_reducible rfl))
          try simp only [Act.put, Ls]
          refine tk 11 ?_ rfl (Or.inl ⟨by rfl, ?_⟩) ?_
          rotate_left
          · (intro w hSw; go_simp; try (with_reducible rfl))
          try simp only [Act.put, Ls]
          refine tk 12 undef rfl (Or.inr ⟨by rfl, rfl⟩) ?_
          try simp only [Act.put, Ls]
          refine tk 13 undef rfl (Or.inr ⟨by rfl, rfl⟩) ?_
          try simp only [Act.put, Ls]
          refine tk 14 ?_ rfl (Or.inl ⟨by rfl, ?_⟩) ?_
          rotate_left
          · (intro w hSw; go_simp; try (with_reducible rfl))
          try simp only [Act.put, Ls]
          refine tk 15 ?_ rfl (Or.inl ⟨by rfl, ?_⟩) ?_
          rotate_left
          · (intro w hSw; go_simp; try (with_reducible rfl))
          try simp only [Act.put, Ls]
          refine tk 16 undef rfl (Or.inr ⟨by rfl, rfl⟩) ?_
          try simp only [Act.put, Ls]
          refine tk 17 undef rfl (Or.inr ⟨by rfl, rfl⟩) ?_
          try simp only [Act.put, Ls]
          refine tk 18 undef rfl (Or.inr ⟨by rfl, rfl⟩) ?_
          try simp only [Act.put, Ls]
          refine tk 19 undef rfl (Or.inr ⟨by rfl, rfl⟩) ?_
          try simp only [Act.put, Ls]
          refine tk 20 undef rfl (Or.inr ⟨by rfl, rfl⟩) ?_
          try simp only [Act.put, Ls]
          refine tk 21 undef rfl (Or.inr ⟨by rfl, rfl⟩) ?_
          try simp only [Act.put, Ls]
          refine tk 22 ?_ rfl (Or.inl ⟨by rfl, ?_⟩) ?_
          rotate_left
          · (intro w hSw; go_simp; try (with_reducible rfl))
          try simp only [Act.put, Ls]
          refine tk 23 ?_ rfl (Or.inl ⟨by rfl, ?_⟩) ?_
          rotate_left
          · (intro w hSw; go_simp; try (with_reducible rfl))
          try simp only [Act.put, Ls]
          refine rdy 24 rfl (fun K hK => ?_)
          go_simp
          refine hK.out _ _ ?_ (fun hHeld => ?_)
          · exact ⟨⟨(B1.below belR).c0, (B1.below belR).c1⟩, (B2.below belR).c0, (B2.below belR).c1⟩
          clear hK K
          try simp only [Act.put, Ls]
          refine wpAnyH_done (by kernel_rfl) ?_ _
          replace bel := bel.trans (belR.mono bel.size)
          clear belR
          go_wp2
          all_goals go_ret
          all_goals exact ⟨rfl, bel⟩
      · cases O2
        · clear q CW
          have belR := Below.drew (Below.refl W.heap.size W)
          refine wp_region_held_drew (S := fun w' => (w'.cell? ⟨w6.heap.size, 0, none⟩ = some (.bool g1) ∧ w'.cell? ⟨w6.heap.size, 1, none⟩ = some (.slice a1 L1.length c1)) ∧ (w'.cell? ⟨w7.heap.size, 0, none⟩ = some (.bool g2) ∧ w'.cell? ⟨w7.heap.size, 1, none⟩ = some (.slice a2 L2.length c2))) (by kernel_rfl) ?_ (fun hHeld => ?_)
          · exact ⟨⟨B1.c0, B1.c1⟩, B2.c0, B2.c1⟩
          generalize W.drew = v0 at belR hHeld ⊢
          refine tk 0 ?_ rfl (Or.inl ⟨by rfl, ?_⟩) ?_
          rotate_left
          · (intro w hSw; go_simp; try (with_reducible rfl))
          try simp only [Act.put, Ls]
          refine tk 1 ?_ rfl (Or.inl ⟨by rfl, ?_⟩) ?_
          rotate_left
          · (intro w hSw; go_simp; try (with_reducible rfl))
          try simp only [Act.put, Ls]
          refine tk 2 ?_ rfl (Or.inl ⟨by rfl, ?_⟩) ?_
          rotate_left
          · (intro w hSw; go_simp; try (with_reducible rfl))
          try simp only [Act.put, Ls]
          try rw [eq_x3]
          refine tk 3 ?_ rfl (Or.inl ⟨by rfl, ?_⟩) ?_
          rotate_left
          · (intro w hSw; go_simp; try (with_reducible rfl))
          try simp only [Act.put, Ls]
          refine tk 4 undef rfl (Or.inr ⟨by rfl, rfl⟩) ?_
          try simp only [Act.put, Ls]
          refine tk 5 undef rfl (Or.inr ⟨by rfl, rfl⟩) ?_
          try simp only [Act.put, Ls]
          refine tk 6 undef rfl (Or.inr ⟨by rfl, rfl⟩) ?_
          try simp only [Act.put, Ls]
          refine tk 7 ?_ rfl (Or.inl ⟨by rfl, ?_⟩) ?_
          rotate_left
          · (intro w hSw; go_simp; try (with_reducible rfl))
          try simp only [Act.put, Ls]
          refine tk 8 ?_ rfl (Or.inl ⟨by rfl, ?_⟩) ?_
          rotate_left
          · (intro w hSw; go_simp; try (with_reducible rfl))
          try simp only [Act.put, Ls]
          refine tk 9 ?_ rfl (Or.inl ⟨by rfl, ?_⟩) ?_
          rotate_left
          · (intro w hSw; go_simp; try (with_reducible rfl))
          try simp only [Act.put, Ls]
          refine tk 10 ?_ rfl (Or.inl ⟨by rfl, ?_⟩) ?_
          rotate_left
          · (intro w hSw; go_simp; try (with_reducible rfl))
          try simp only [Act.put, Ls]
          refine tk 11 ?_ rfl (Or.inl ⟨by rfl, ?_⟩) ?_
          rotate_left
          · (intro w hSw; go_simp; try (with_reducible rfl))
          try simp only [Act.put, Ls]
          refine tk 12 ?_ rfl (Or.inl ⟨by rfl, ?_⟩) ?_
          rotate_left
          · (intro w hSw; go_simp; try (with_reducible rfl))
          try simp only [Act.put, Ls]
          refine tk 13 ?_ rfl (Or.inl ⟨by rfl, ?_⟩) ?_
          rotate_left
          · (intro w hSw; go_simp; try (with_reducible rfl))
          try simp only [Act.put, Ls]
          refine tk 14 ?_ rfl (Or.inl ⟨by rfl, ?_⟩) ?_
          rotate_left
          · (intro w hSw; go_simp; try (with_reducible rfl))
          try simp only [Act.put, Ls]
          refine tk 15 ?_ rfl (Or.inl ⟨by rfl, ?_⟩) ?_
          rotate_left
          · (intro w hSw; go_simp; try (with_reducible rfl))
          try simp only [Act.put, Ls]
          refine tk 16 undef rfl (Or.inr ⟨by rfl, rfl⟩) ?_
          try simp only [Act.put, Ls]
          refine tk 17 undef rfl (Or.inr ⟨by rfl, rfl⟩) ?_
          try simp only [Act.put, Ls]
          refine tk 18 undef rfl (Or.inr ⟨by rfl, rfl⟩) ?_
          try simp only [Act.put, Ls]
          refine tk 19 undef rfl (Or.inr ⟨by rfl, rfl⟩) ?_
          try simp only [Act.put, Ls]
          refine tk 20 undef rfl (Or.inr ⟨by rfl, rfl⟩) ?_
          try simp only [Act.put, Ls]
          refine tk 21 undef rfl (Or.inr ⟨by rfl, rfl⟩) ?_
          try simp only [Act.put, Ls]
          refine tk 22 ?_ rfl (Or.inl ⟨by rfl, ?_⟩) ?_
          rotate_left
          · (intro w hSw; go_simp; try (with_reducible rfl))
          try simp only [Act.put, Ls]
          refine tk 23 ?_ rfl (Or.inl ⟨by rfl, ?_⟩) ?_
          rotate_left
          · (intro w hSw; go_simp; try (with_reducible rfl))
          try simp only [Act.put, Ls]
          refine rdy 24 rfl (fun K hK => ?_)
          go_simp
          refine hK.out _ _ ?_ (fun hHeld => ?_)
          · exact ⟨⟨(B1.below belR).c0, (B1.below belR).c1⟩, (B2.below belR).c0, (B2.below belR).c1⟩
          clear hK K
          try simp only [Act.put, Ls]
          refine wpAnyH_done (by kernel_rfl) ?_ _
          replace bel := bel.trans (belR.mono bel.size)
          clear belR
          go_wp2
          all_goals go_ret
          all_goals exact ⟨rfl, bel⟩
        · have q := q rfl rfl
          have belR := Below.drew (Below.refl W.heap.size W)
          refine wp_region_held_drew (S := fun w' => (w'.cell? ⟨w6.heap.size, 0, none⟩ = some (.bool g1) ∧ w'.cell? ⟨w6.heap.size, 1, none⟩ = some (.slice a1 L1.length c1)) ∧ (w'.cell? ⟨w7.heap.size, 0, none⟩ = some (.bool g2) ∧ w'.cell? ⟨w7.heap.size, 1, none⟩ = some (.slice a2 L2.length c2))) (by kernel_rfl) ?_ (fun hHeld => ?_)
          · exact ⟨⟨B1.c0, B1.c1⟩, B2.c0, B2.c1⟩
          generalize W.drew = v0 at belR hHeld ⊢
          refine tk 0 ?_ rfl (Or.inl ⟨by rfl, ?_⟩) ?_
          rotate_left
          · (intro w hSw; go_simp; try (with_reducible rfl))
          try simp only [Act.put, Ls]
          refine tk 1 ?_ rfl (Or.inl ⟨by rfl, ?_⟩) ?_
          rotate_left
          · (intro w hSw; go_simp; try (with_reducible rfl))
          try simp only [Act.put, Ls]
          refine tk 2 ?_ rfl (Or.inl ⟨by rfl, ?_⟩) ?_
          rotate_left
          · (intro w hSw; go_simp; try (with_reducible rfl))
          try simp only [Act.put, Ls]
          try rw [eq_x3]
          refine tk 3 ?_ rfl (Or.inl ⟨by rfl, ?_⟩) ?_
          rotate_left
          · (intro w hSw; go_simp; try (with_reducible rfl))
          try simp only [Act.put, Ls]
          refine tk 4 undef rfl (Or.inr ⟨by rfl, rfl⟩) ?_
          try simp only [Act.put, Ls]
          refine tk 5 undef rfl (Or.inr ⟨by rfl, rfl⟩) ?_
          try simp only [Act.put, Ls]
          refine tk 6 undef rfl (Or.inr ⟨by rfl, rfl⟩) ?_
          try simp only [Act.put, Ls]
          refine tk 7 ?_ rfl (Or.inl ⟨by rfl, ?_⟩) ?_
          rotate_left
          · (intro w hSw; go_simp; try (with_reducible rfl))
          try simp only [Act.put, Ls]
          refine tk 8 ?_ rfl (Or.inl ⟨by rfl, ?_⟩) ?_
          rotate_left
          · (intro w hSw; go_simp; try (with_reducible rfl))
          try simp only [Act.put, Ls]
          refine tk 9 ?_ rfl (Or.inl ⟨by rfl, ?_⟩) ?_
          rotate_left
          · (intro w hSw; go_simp; try (with_reducible rfl))
          try simp only [Act.put, Ls]
          refine tk 10 ?_ rfl (Or.inl ⟨by rfl, ?_⟩) ?_
          rotate_left
          · (intro w hSw; go_simp; try (with_reducible rfl))
          try simp only [Act.put, Ls]
          refine tk 11 ?_ rfl (Or.inl ⟨by rfl, ?_⟩) ?_
          rotate_left
          · (intro w hSw; go_simp; try (with_reducible rfl))
          try simp only [Act.put, Ls]
          refine tk 12 ?_ rfl (Or.inl ⟨by rfl, ?_⟩) ?_
          rotate_left
          · (intro w hSw; go_simp; try (with_reducible rfl))
          try simp only [Act.put, Ls]
          refine tk 13 ?_ rfl (Or.inl ⟨by rfl, ?_⟩) ?_
          rotate_left
          · (intro w hSw; go_simp; try (with_reducible rfl))
          try simp only [Act.put, Ls]
          refine tk 14 ?_ rfl (Or.inl ⟨by rfl, ?_⟩) ?_
          rotate_left
          · (intro w hSw; go_simp; try (with_reducible rfl))
          try simp only [Act.put, Ls]
          refine tk 15 ?_ rfl (Or.inl ⟨by rfl, ?_⟩) ?_
          rotate_left
          · (intro w hSw; go_simp; try (with_reducible rfl))
          try simp only [Act.put, Ls]
          refine tk 16 ?_ rfl (Or.inl ⟨by rfl, ?_⟩) ?_
          rotate_left
          · (intro w hSw; (try dsimp only at hSw); obtain ⟨⟨hS0, hS1⟩, hS2, hS3⟩ := hSw; go_simp; try (with_reducible rfl))
          try simp only [Act.put, Ls]
          refine tk 18 ?_ rfl (Or.inl ⟨by rfl, ?_⟩) ?_
          rotate_left
          · (intro w hSw; (try dsimp only at hSw); obtain ⟨⟨hS0, hS1⟩, hS2, hS3⟩ := hSw; go_simp; try (with_reducible rfl))
          try simp only [Act.put, Ls]
          refine rdy 17 rfl (fun K hK => ?_)
          go_simp
          go_at_call 21
          refine (mag_w g1 a1 L1.length c1 _).mono ?_
          rintro r v1 ⟨rfl, hb'⟩
          have hz' := belR.size
          replace belR := bel_go belR hb'
          clear hb' hz'
          refine hK.out _ _ ?_ (fun hHeld => ?_)
          · exact ⟨⟨(B1.below belR).c0, (B1.below belR).c1⟩, (B2.below belR).c0, (B2.below belR).c1⟩
          clear hK K
          try simp only [Act.put, Ls]
          refine rdy 19 rfl (fun K hK => ?_)
          go_simp
          go_at_call 21
          refine (mag_w g2 a2 L2.length c2 _).mono ?_
          rintro r v2 ⟨rfl, hb'⟩
          have hz' := belR.size
          replace belR := bel_go belR hb'
          clear hb' hz'
          refine hK.out _ _ ?_ (fun hHeld => ?_)
          · exact ⟨⟨(B1.below belR).c0, (B1.below belR).c1⟩, (B2.below belR).c0, (B2.below belR).c1⟩
          clear hK K
          try simp only [Act.put, Ls]
          refine rdy 20 rfl (fun K hK => ?_)
          go_simp
          go_at_call 24
          refine (CW.out _ (s1.below belR) (s2.below belR)).mono ?_
          rintro r v3 ⟨rfl, hb'⟩
          have hz' := belR.size
          replace belR := bel_go belR hb'
          clear hb' hz'
          refine hK.out _ _ ?_ (fun hHeld => ?_)
          · exact ⟨⟨(B1.below belR).c0, (B1.below belR).c1⟩, (B2.below belR).c0, (B2.below belR).c1⟩
          clear hK K
          try simp only [Act.put, Ls]
          refine tk 21 ?_ rfl (Or.inl ⟨by rfl, ?_⟩) ?_
          rotate_left
          · (intro w hSw; go_simp; try (with_reducible rfl))
          try simp only [Act.put, Ls]
          try rw [q]
          refine tk 22 ?_ rfl (Or.inl ⟨by rfl, ?_⟩) ?_
          rotate_left
          · (intro w hSw; go_simp; try (with_reducible rfl))
          try simp only [Act.put, Ls]
          refine tk 23 ?_ rfl (Or.inl ⟨by rfl, ?_⟩) ?_
          rotate_left
          · (intro w hSw; go_simp; try (with_reducible rfl))
          try simp only [Act.put, Ls]
          refine rdy 24 rfl (fun K hK => ?_)
          go_simp
          refine hK.out _ _ ?_ (fun hHeld => ?_)
          · exact ⟨⟨(B1.below belR).c0, (B1.below belR).c1⟩, (B2.below belR).c0, (B2.below belR).c1⟩
          clear hK K
          try simp only [Act.put, Ls]
          refine wpAnyH_done (by kernel_rfl) ?_ _
          replace bel := bel.trans (belR.mono bel.size)
          clear belR
          go_wp2
          all_goals go_ret
          all_goals exact ⟨rfl, bel⟩
    · have hxu : xm = x2 := k1.resolve_left hxd
      rw [hxu] at Cm
      have k2 := hid (k2.out x3 (by rw [if_neg hxd]))
      have hxd' : (x2 == x3) = false := by rw [← hxu]; simpa using hxd
      rw [hxu] at k2
      clear hxd hxu k1
      have eq_x3 : (x3 == x3) = true := by simp
      have eq_x2 : (x2 == x2) = true := by simp
      obtain ⟨kw0, kw1, -, -⟩ := id Bw
      go_wp2_with fail
      refine (C3.out _ T sL).mono ?_
      rintro r w2 ⟨rfl, hb⟩
      clear kw0 kw1
      replace bel := bel_go bel hb
      replace T := T.below hb
      replace sL := sL.below hb
      replace Bw := Bw.below hb
      clear hb
      obtain ⟨kw0, kw1, -, -⟩ := id Bw
      go_wp2_with fail
      refine (C2.out _ T sL).mono ?_
      rintro r w3 ⟨rfl, hb⟩
      clear kw0 kw1
      replace bel := bel_go bel hb
      replace T := T.below hb
      replace sL := sL.below hb
      replace Bw := Bw.below hb
      clear hb
      obtain ⟨kw0, kw1, -, -⟩ := id Bw
      go_wp2_with fail
      refine (Cm.out _ T sL).mono ?_
      rintro r w4 ⟨rfl, hb⟩
      clear kw0 kw1
      replace bel := bel_go bel hb
      replace T := T.below hb
      replace sL := sL.below hb
      replace Bw := Bw.below hb
      clear hb
      obtain ⟨kw0, kw1, -, -⟩ := id Bw
      go_wp2_with fail
      refine (GO.out _ sL).mono ?_
      rintro r w5 ⟨rfl, hb⟩
      clear kw0 kw1
      replace bel := bel_go bel hb
      replace T := T.below hb
      replace sL := sL.below hb
      replace Bw := Bw.below hb
      clear hb
      obtain ⟨kw0, kw1, -, -⟩ := id Bw
      go_wp2_with fail
      refine (OU.out _ T.s.f sL).mono ?_
      rintro r w6 ⟨D1, O1, a1, c1, rfl, h1, l1, s1, hb⟩
      clear kw0 kw1
      replace bel := bel_go bel hb
      replace T := T.below hb
      replace sL := sL.below hb
      replace Bw := Bw.below hb
      clear hb
      replace h1 := hid h1
      replace l1 := hid l1
      obtain ⟨g1, h_g1⟩ : ∃ q, q = Nm.wn D1 := ⟨_, rfl⟩
      obtain ⟨L1, e1⟩ : ∃ q, q = Nm.wl D1 := ⟨_, rfl⟩
      rw [← h_g1, ← e1]
      rw [← e1] at s1
      clear h_g1
      replace e1 := hid e1
      replace T := T.below (al_b _ (.cells #[.bool g1, .slice a1 L1.length c1] 26))
      replace sL := sL.below (al_b _ (.cells #[.bool g1, .slice a1 L1.length c1] 26))
      replace Bw := Bw.below (al_b _ (.cells #[.bool g1, .slice a1 L1.length c1] 26))
      replace s1 := s1.below (al_b _ (.cells #[.bool g1, .slice a1 L1.length c1] 26))
      replace bel := bel_al bel (.cells #[.bool g1, .slice a1 L1.length c1] 26)
      have B1 := R2.new w6 (.bool g1) (.slice a1 L1.length c1) 26
      obtain ⟨kw0, kw1, -, -⟩ := id Bw
      obtain ⟨k10, k11, -, -⟩ := id B1
      go_wp2_with fail
      refine (OD.out _ T.s.f sL).mono ?_
      rintro r w7 ⟨D2, O2, a2, c2, rfl, h2, l2, s2, hb⟩
      clear kw0 kw1 k10 k11
      replace bel := bel_go bel hb
      replace T := T.below hb
      replace sL := sL.below hb
      replace Bw := Bw.below hb
      replace s1 := s1.below hb
      replace B1 := B1.below hb
      clear hb
      replace h2 := hid h2
      replace l2 := hid l2
      obtain ⟨g2, h_g2⟩ : ∃ q, q = Nm.wn D2 := ⟨_, rfl⟩
      obtain ⟨L2, e2⟩ : ∃ q, q = Nm.wl D2 := ⟨_, rfl⟩
      rw [← h_g2, ← e2]
      rw [← e2] at s2
      clear h_g2
      replace e2 := hid e2
      replace T := T.below (al_b _ (.cells #[.bool g2, .slice a2 L2.length c2] 26))
      replace sL := sL.below (al_b _ (.cells #[.bool g2, .slice a2 L2.length c2] 26))
      replace Bw := Bw.below (al_b _ (.cells #[.bool g2, .slice a2 L2.length c2] 26))
      replace s1 := s1.below (al_b _ (.cells #[.bool g2, .slice a2 L2.length c2] 26))
      replace B1 := B1.below (al_b _ (.cells #[.bool g2, .slice a2 L2.length c2] 26))
      replace s2 := s2.below (al_b _ (.cells #[.bool g2, .slice a2 L2.length c2] 26))
      replace bel := bel_al bel (.cells #[.bool g2, .slice a2 L2.length c2] 26)
      have B2 := R2.new w7 (.bool g2) (.slice a2 L2.length c2) 26
      obtain ⟨k, h_k⟩ : ∃ q, q = cmpI (D1.natAbs : Nat) (D2.natAbs : Nat) := ⟨_, rfl⟩
      have q : O1 = true → O2 = true → decide (k ≤ 0) = true := fun h h' => by
        obtain ⟨f1, f2⟩ := h1.out h
        obtain ⟨f3, f4⟩ := h2.out h'
        have := k2.out f1 f3
        rw [← f2, ← f4] at this
        apply decide_eq_true
        rw [h_k]; unfold cmpI
        split
        · decide
        · split
          · omega
          · decide
      have CW := hid (fun w' h h' => cmp_w D1 D2 a1 a2 c1 c2 w' h h' (fit_k (by have := l1.out; omega)) (fit_k (by have := l2.out; omega)))
      rw [← h_k, ← e1.out, ← e2.out] at CW
      clear h1 h2 e1 e2 l1 l2 k2 h_k C3 C2 Cm GO OD OU
      go_upto_region 15 with fail
      generalize (w7.alloc (.cells #[.bool g2, .slice a2 L2.length c2] 26)) = W at bel T sL Bw B1 B2 s1 s2 ⊢
      cases O1
      · cases O2
        · clear q CW
          have belR := Below.drew (Below.refl W.heap.size W)
          refine wp_region_held_drew (S := fun w' => (w'.cell? ⟨w6.heap.size, 0, none⟩ = some (.bool g1) ∧ w'.cell? ⟨w6.heap.size, 1, none⟩ = some (.slice a1 L1.length c1)) ∧ (w'.cell? ⟨w7.heap.size, 0, none⟩ = some (.bool g2) ∧ w'.cell? ⟨w7.heap.size, 1, none⟩ = some (.slice a2 L2.length c2))) (by kernel_rfl) ?_ (fun hHeld => ?_)
          · exact ⟨⟨B1.c0, B1.c1⟩, B2.c0, B2.c1⟩
          generalize W.drew = v0 at belR hHeld ⊢
          refine tk 0 ?_ rfl (Or.inl ⟨by rfl, ?_⟩) ?_
          rotate_left
          · (intro w hSw; go_simp; try (with_reducible rfl))
          try simp only [Act.put, Ls]
          refine tk 1 ?_ rfl (Or.inl ⟨by rfl, ?_⟩) ?_
          rotate_left
          · (intro w hSw; go_simp; try (with_reducible rfl))
          try simp only [Act.put, Ls]
          refine tk 2 ?_ rfl (Or.inl ⟨by rfl, ?_⟩) ?_
          rotate_left
          · (intro w hSw; go_simp; try (with_reducible rfl))
          try simp only [Act.put, Ls]
          try rw [hxd']
          refine tk 3 ?_ rfl (Or.inl ⟨by rfl, ?_⟩) ?_
          rotate_left
          · (intro w hSw; go_simp; try (with_reducible rfl))
          try simp only [Act.put, Ls]
          refine tk 4 ?_ rfl (Or.inl ⟨by rfl, ?_⟩) ?_
          rotate_left
          · (intro w hSw; go_simp; try (with_reducible rfl))
          try simp only [Act.put, Ls]
          refine tk 5 ?_ rfl (Or.inl ⟨by rfl, ?_⟩) ?_
          rotate_left
          · (intro w hSw; go_simp; try (with_reducible rfl))
          try simp only [Act.put, Ls]
          refine tk 6 ?_ rfl (Or.inl ⟨by rfl, ?_⟩) ?_
          rotate_left
          · (intro w hSw; go_simp; try (with_reducible rfl))
          try simp only [Act.put, Ls]
          try rw [eq_x2]
          refine tk 7 ?_ rfl (Or.inl ⟨by rfl, ?_⟩) ?_
          rotate_left
          · (intro w hSw; go_simp; try (with_reducible rfl))
          try simp only [Act.put, Ls]
          refine tk 8 ?_ rfl (Or.inl ⟨by rfl, ?_⟩) ?_
          rotate_left
          · (intro w hSw; go_simp; try (with_reducible rfl))
          try simp only [Act.put, Ls]
          refine tk 9 ?_ rfl (Or.inl ⟨by rfl, ?_⟩) ?_
          rotate_left
          · (intro w hSw; go_simp; try (with_reducible rfl))
          try simp only [Act.put, Ls]
          refine tk 10 ?_ rfl (Or.inl ⟨by rfl, ?_⟩) ?_
          rotate_left
          · (intro w hSw; go_simp; try (with_reducible rfl))
          try simp only [Act.put, Ls]
          refine tk 11 ?_ rfl (Or.inl ⟨by rfl, ?_⟩) ?_
          rotate_left
          · (intro w hSw; go_simp; try (with_reducible rfl))
          try simp only [Act.put, Ls]
          refine tk 12 undef rfl (Or.inr ⟨by rfl, rfl⟩) ?_
          try simp only [Act.put, Ls]
          refine tk 13 undef rfl (Or.inr ⟨by rfl, rfl⟩) ?_
          try simp only [Act.put, Ls]
          refine tk 14 ?_ rfl (Or.inl ⟨by rfl, ?_⟩) ?_
          rotate_left
          · (intro w hSw; go_simp; try (with_reducible rfl))
          try simp only [Act.put, Ls]
          refine tk 15 ?_ rfl (Or.inl ⟨by rfl, ?_⟩) ?_
          rotate_left
          · (intro w hSw; go_simp; try (with_reducible rfl))
          try simp only [Act.put, Ls]
          refine tk 16 undef rfl (Or.inr ⟨by rfl, rfl⟩) ?_
          try simp only [Act.put, Ls]
          refine tk 17 undef rfl (Or.inr ⟨by rfl, rfl⟩) ?_
          try simp only [Act.put, Ls]
          refine tk 18 undef rfl (Or.inr ⟨by rfl, rfl⟩) ?_
          try simp only [Act.put, Ls]
          refine tk 19 undef rfl (Or.inr ⟨by rfl, rfl⟩) ?_
          try simp only [Act.put, Ls]
          refine tk 20 undef rfl (Or.inr ⟨by rfl, rfl⟩) ?_
          try simp only [Act.put, Ls]
          refine tk 21 undef rfl (Or.inr ⟨by rfl, rfl⟩) ?_
          try simp only [Act.put, Ls]
          refine tk 22 ?_ rfl (Or.inl ⟨by rfl, ?_⟩) ?_
          rotate_left
          · (intro w hSw; go_simp; try (with_reducible rfl))
          try simp only [Act.put, Ls]
          refine tk 23 ?_ rfl (Or.inl ⟨by rfl, ?_⟩) ?_
          rotate_left
          · (intro w hSw; go_simp; try (with_reducible rfl))
          try simp only [Act.put, Ls]
          refine rdy 24 rfl (fun K hK => ?_)
          go_simp
          refine hK.out _ _ ?_ (fun hHeld => ?_)
          · exact ⟨⟨(B1.below belR).c0, (B1.below belR).c1⟩, (B2.below belR).c0, (B2.below belR).c1⟩
          clear hK K
          try simp only [Act.put, Ls]
          refine wpAnyH_done (by kernel_rfl) ?_ _
          replace bel := bel.trans (belR.mono bel.size)
          clear belR
          go_wp2
          all_goals go_ret
          all_goals exact ⟨rfl, bel⟩
        · clear q CW
          have belR := Below.drew (Below.refl W.heap.size W)
          refine wp_region_held_drew (S := fun w' => (w'.cell? ⟨w6.heap.size, 0, none⟩ = some (.bool g1) ∧ w'.cell? ⟨w6.heap.size, 1, none⟩ = some (.slice a1 L1.length c1)) ∧ (w'.cell? ⟨w7.heap.size, 0, none⟩ = some (.bool g2) ∧ w'.cell? ⟨w7.heap.size, 1, none⟩ = some (.slice a2 L2.length c2))) (by kernel_rfl) ?_ (fun hHeld => ?_)
          · exact ⟨⟨B1.c0, B1.c1⟩, B2.c0, B2.c1⟩
          generalize W.drew = v0 at belR hHeld ⊢
          refine tk 0 ?_ rfl (Or.inl ⟨by rfl, ?_⟩) ?_
          rotate_left
          · (intro w hSw; go_simp; try (with_reducible rfl))
          try simp only [Act.put, Ls]
          refine tk 1 ?_ rfl (Or.inl ⟨by rfl, ?_⟩) ?_
          rotate_left
          · (intro w hSw; go_simp; try (with_reducible rfl))
          try simp only [Act.put, Ls]
          refine tk 2 ?_ rfl (Or.inl ⟨by rfl, ?_⟩) ?_
          rotate_left
          · (intro w hSw; go_simp; try (with_reducible rfl))
          try simp only [Act.put, Ls]
          try rw [hxd']
          refine tk 3 ?_ rfl (Or.inl ⟨by rfl, ?_⟩) ?_
          rotate_left
          · (intro w hSw; go_simp; try (with_reducible rfl))
          try simp only [Act.put, Ls]
          refine tk 4 ?_ rfl (Or.inl ⟨by rfl, ?_⟩) ?_
          rotate_left
          · (intro w hSw; go_simp; try (with_reducible rfl))
          try simp only [Act.put, Ls]
          refine tk 5 ?_ rfl (Or.inl ⟨by rfl, ?_⟩) ?_
          rotate_left
          · (intro w hSw; go_simp; try (with_reducible rfl))
          try simp only [Act.put, Ls]
          refine tk 6 ?_ rfl (Or.inl ⟨by rfl, ?_⟩) ?_
          rotate_left
          · (intro w hSw; go_simp; try (with_reducible rfl))
          try simp only [Act.put, Ls]
          try rw [eq_x2]
          refine tk 7 ?_ rfl (Or.inl ⟨by rfl, ?_⟩) ?_
          rotate_left
          · (intro w hSw; go_simp; try (with_reducible rfl))
          try simp only [Act.put, Ls]
          refine tk 8 ?_ rfl (Or.inl ⟨by rfl, ?_⟩) ?_
          rotate_left
          · (intro w hSw; go_simp; try (with_reducible rfl))
          try simp only [Act.put, Ls]
          refine tk 9 ?_ rfl (Or.inl ⟨by rfl, ?_⟩) ?_
          rotate_left
          · (intro w hSw; go_simp; try (with_reducible rfl))
          try simp only [Act.put, Ls]
          refine tk 10 ?_ rfl (Or.inl ⟨by rfl, ?_⟩) ?_
          rotate_left
          · (intro w hSw; go_simp; try (with_reducible rfl))
          try simp only [Act.put, Ls]
          refine tk 11 ?_ rfl (Or.inl ⟨by rfl, ?_⟩) ?_
          rotate_left
          · (intro w hSw; go_simp; try (with_reducible rfl))
          try simp only [Act.put, Ls]
          refine tk 12 undef rfl (Or.inr ⟨by rfl, rfl⟩) ?_
          try simp only [Act.put, Ls]
          refine tk 13 undef rfl (Or.inr ⟨by rfl, rfl⟩) ?_
          try simp only [Act.put, Ls]
          refine tk 14 ?_ rfl (Or.inl ⟨by rfl, ?_⟩) ?_
          rotate_left
          · (intro w hSw; go_simp; try (with_reducible rfl))
          try simp only [Act.put, Ls]
          refine tk 15 ?_ rfl (Or.inl ⟨by rfl, ?_⟩) ?_
          rotate_left
          · (intro w hSw; go_simp; try (with_reducible rfl))
          try simp only [Act.put, Ls]
          refine tk 16 undef rfl (Or.inr ⟨by rfl, rfl⟩) ?_
          try simp only [Act.put, Ls]
          refine tk 17 undef rfl (Or.inr ⟨by rfl, rfl⟩) ?_
          try simp only [Act.put, Ls]
          refine tk 18 undef rfl (Or.inr ⟨by rfl, rfl⟩) ?_
          try simp only [Act.put, Ls]
          refine tk 19 undef rfl (Or.inr ⟨by rfl, rfl⟩) ?_
          try simp only [Act.put, Ls]
          refine tk 20 undef rfl (Or.inr ⟨by rfl, rfl⟩) ?_
          try simp only [Act.put, Ls]
          refine tk 21 undef rfl (Or.inr ⟨by rfl, rfl⟩) ?_
          try simp only [Act.put, Ls]
          refine tk 22 ?_ rfl (Or.inl ⟨by rfl, ?_⟩) ?_
          rotate_left
          · (intro w hSw; go_simp; try (with_reducible rfl))
          try simp only [Act.put, Ls]
          refine tk 23 ?_ rfl (Or.inl ⟨by rfl, ?_⟩) ?_
          rotate_left
          · (intro w hSw; go_simp; try (with_reducible rfl))
          try simp only [Act.put, Ls]
          refine rdy 24 rfl (fun K hK => ?_)
          go_simp
          refine hK.out _ _ ?_ (fun hHeld => ?_)
          · exact ⟨⟨(B1.below belR).c0, (B1.below belR).c1⟩, (B2.below belR).c0, (B2.below belR).c1⟩
          clear hK K
          try simp only [Act.put, Ls]
          refine wpAnyH_done (by kernel_rfl) ?_ _
          replace bel := bel.trans (belR.mono bel.size)
          clear belR
          go_wp2
          all_goals go_ret
          all_goals exact ⟨rfl, bel⟩
      · cases O2
        · clear q CW
          have belR := Below.drew (Below.refl W.heap.size W)
          refine wp_region_held_drew (S := fun w' => (w'.cell? ⟨w6.heap.size, 0, none⟩ = some (.bool g1) ∧ w'.cell? ⟨w6.heap.size, 1, none⟩ = some (.slice a1 L1.length c1)) ∧ (w'.cell? ⟨w7.heap.size, 0, none⟩ = some (.bool g2) ∧ w'.cell? ⟨w7.heap.size, 1, none⟩ = some (.slice a2 L2.length c2))) (by kernel_rfl) ?_ (fun hHeld => ?_)
          · exact ⟨⟨B1.c0, B1.c1⟩, B2.c0, B2.c1⟩
          generalize W.drew = v0 at belR hHeld ⊢
          refine tk 0 ?_ rfl (Or.inl ⟨by rfl, ?_⟩) ?_
          rotate_left
          · (intro w hSw; go_simp; try (with_reducible rfl))
          try simp only [Act.put, Ls]
          refine tk 1 ?_ rfl (Or.inl ⟨by rfl, ?_⟩) ?_
          rotate_left
          · (intro w hSw; go_simp; try (with_reducible rfl))
          try simp only [Act.put, Ls]
          refine tk 2 ?_ rfl (Or.inl ⟨by rfl, ?_⟩) ?_
          rotate_left
          · (intro w hSw; go_simp; try (with_reducible rfl))
          try simp only [Act.put, Ls]
          try rw [hxd']
          refine tk 3 ?_ rfl (Or.inl ⟨by rfl, ?_⟩) ?_
          rotate_left
          · (intro w hSw; go_simp; try (with_reducible rfl))
          try simp only [Act.put, Ls]
          refine tk 4 ?_ rfl (Or.inl ⟨by rfl, ?_⟩) ?_
          rotate_left
          · (intro w hSw; go_simp; try (with_reducible rfl))
          try simp only [Act.put, Ls]
          refine tk 5 ?_ rfl (Or.inl ⟨by rfl, ?_⟩) ?_
          rotate_left
          · (intro w hSw; go_simp; try (with_reducible rfl))
          try simp only [Act.put, Ls]
          refine tk 6 ?_ rfl (Or.inl ⟨by rfl, ?_⟩) ?_
          rotate_left
          · (intro w hSw; go_simp; try (with_reducible rfl))
          try simp only [Act.put, Ls]
          try rw [eq_x2]
          refine tk 7 ?_ rfl (Or.inl ⟨by rfl, ?_⟩) ?_
          rotate_left
          · (intro w hSw; go_simp; try (with_reducible rfl))
          try simp only [Act.put, Ls]
          refine tk 8 ?_ rfl (Or.inl ⟨by rfl, ?_⟩) ?_
          rotate_left
          · (intro w hSw; go_simp; try (with_reducible rfl))
          try simp only [Act.put, Ls]
          refine tk 9 ?_ rfl (Or.inl ⟨by rfl, ?_⟩) ?_
          rotate_left
          · (intro w hSw; go_simp; try (with_reducible rfl))
          try simp only [Act.put, Ls]
          refine tk 10 ?_ rfl (Or.inl ⟨by rfl, ?_⟩) ?_
          rotate_left
          · (intro w hSw; go_simp; try (with_reducible rfl))
          try simp only [Act.put, Ls]
          refine tk 11 ?_ rfl (Or.inl ⟨by rfl, ?_⟩) ?_
          rotate_left
          · (intro w hSw; go_simp; try (with_reducible rfl))
          try simp only [Act.put, Ls]
          refine tk 12 ?_ rfl (Or.inl ⟨by rfl, ?_⟩) ?_
          rotate_left
          · (intro w hSw; go_simp; try (with_reducible rfl))
          try simp only [Act.put, Ls]
          refine tk 13 ?_ rfl (Or.inl ⟨by rfl, ?_⟩) ?_
          rotate_left
          · (intro w hSw; go_simp; try (with_reducible rfl))
          try simp only [Act.put, Ls]
          refine tk 14 ?_ rfl (Or.inl ⟨by rfl, ?_⟩) ?_
          rotate_left
          · (intro w hSw; go_simp; try (with_reducible rfl))
          try simp only [Act.put, Ls]
          refine tk 15 ?_ rfl (Or.inl ⟨by rfl, ?_⟩) ?_
          rotate_left
          · (intro w hSw; go_simp; try (with_reducible rfl))
          try simp only [Act.put, Ls]
          refine tk 16 undef rfl (Or.inr ⟨by rfl, rfl⟩) ?_
          try simp only [Act.put, Ls]
          refine tk 17 undef rfl (Or.inr ⟨by rfl, rfl⟩) ?_
          try simp only [Act.put, Ls]
          refine tk 18 undef rfl (Or.inr ⟨by rfl, rfl⟩) ?_
          try simp only [Act.put, Ls]
          refine tk 19 undef rfl (Or.inr ⟨by rfl, rfl⟩) ?_
          try simp only [Act.put, Ls]
          refine tk 20 undef rfl (Or.inr ⟨by rfl, rfl⟩) ?_
          try simp only [Act.put, Ls]
          refine tk 21 undef rfl (Or.inr ⟨by rfl, rfl⟩) ?_
          try simp only [Act.put, Ls]
          refine tk 22 ?_ rfl (Or.inl ⟨by rfl, ?_⟩) ?_
          rotate_left
          · (intro w hSw; go_simp; try (with_reducible rfl))
          try simp only [Act.put, Ls]
          refine tk 23 ?_ rfl (Or.inl ⟨by rfl, ?_⟩) ?_
          rotate_left
          · (intro w hSw; go_simp; try (with_reducible rfl))
          try simp only [Act.put, Ls]
          refine rdy 24 rfl (fun K hK => ?_)
          go_simp
          refine hK.out _ _ ?_ (fun hHeld => ?_)
          · exact ⟨⟨(B1.below belR).c0, (B1.below belR).c1⟩, (B2.below belR).c0, (B2.below belR).c1⟩
          clear hK K
          try simp only [Act.put, Ls]
          refine wpAnyH_done (by kernel_rfl) ?_ _
          replace bel := bel.trans (belR.mono bel.size)
          clear belR
          go_wp2
          all_goals go_ret
          all_goals exact ⟨rfl, bel⟩
        · have q := q rfl rfl
          have belR := Below.drew (Below.refl W.heap.size W)
          refine wp_region_held_drew (S := fun w' => (w'.cell? ⟨w6.heap.size, 0, none⟩ = some (.bool g1) ∧ w'.cell? ⟨w6.heap.size, 1, none⟩ = some (.slice a1 L1.length c1)) ∧ (w'.cell? ⟨w7.heap.size, 0, none⟩ = some (.bool g2) ∧ w'.cell? ⟨w7.heap.size, 1, none⟩ = some (.slice a2 L2.length c2))) (by kernel_rfl) ?_ (fun hHeld => ?_)
          · exact ⟨⟨B1.c0, B1.c1⟩, B2.c0, B2.c1⟩
          generalize W.drew = v0 at belR hHeld ⊢
          refine tk 0 ?_ rfl (Or.inl ⟨by rfl, ?_⟩) ?_
          rotate_left
          · (intro w hSw; go_simp; try (with_reducible rfl))
          try simp only [Act.put, Ls]
          refine tk 1 ?_ rfl (Or.inl ⟨by rfl, ?_⟩) ?_
          rotate_left
          · (intro w hSw; go_simp; try (with_reducible rfl))
          try simp only [Act.put, Ls]
          refine tk 2 ?_ rfl (Or.inl ⟨by rfl, ?_⟩) ?_
          rotate_left
          · (intro w hSw; go_simp; try (with_reducible rfl))
          try simp only [Act.put, Ls]
          try rw [hxd']
          refine tk 3 ?_ rfl (Or.inl ⟨by rfl, ?_⟩) ?_
          rotate_left
          · (intro w hSw; go_simp; try (with_reducible rfl))
          try simp only [Act.put, Ls]
          refine tk 4 ?_ rfl (Or.inl ⟨by rfl, ?_⟩) ?_
          rotate_left
          · (intro w hSw; go_simp; try (with_reducible rfl))
          try simp only [Act.put, Ls]
          refine tk 5 ?_ rfl (Or.inl ⟨by rfl, ?_⟩) ?_
          rotate_left
          · (intro w hSw; go_simp; try (with_reducible rfl))
          try simp only [Act.put, Ls]
          refine tk 6 ?_ rfl (Or.inl ⟨by rfl, ?_⟩) ?_
          rotate_left
          · (intro w hSw; go_simp; try (with_reducible rfl))
          try simp only [Act.put, Ls]
          try rw [eq_x2]
          refine tk 7 ?_ rfl (Or.inl ⟨by rfl, ?_⟩) ?_
          rotate_left
          · (intro w hSw; go_simp; try (with_reducible rfl))
          try simp only [Act.put, Ls]
          refine tk 8 ?_ rfl (Or.inl ⟨by rfl, ?_⟩) ?_
          rotate_left
          · (intro w hSw; go_simp; try (with_reducible rfl))
          try simp only [Act.put, Ls]
          refine tk 9 ?_ rfl (Or.inl ⟨by rfl, ?_⟩) ?_
          rotate_left
          · (intro w hSw; go_simp; try (with_reducible rfl))
          try simp only [Act.put, Ls]
          refine tk 10 ?_ rfl (Or.inl ⟨by rfl, ?_⟩) ?_
          rotate_left
          · (intro w hSw; go_simp; try (with_reducible rfl))
          try simp only [Act.put, Ls]
          refine tk 11 ?_ rfl (Or.inl ⟨by rfl, ?_⟩) ?_
          rotate_left
          · (intro w hSw; go_simp; try (with_reducible rfl))
          try simp only [Act.put, Ls]
          refine tk 12 ?_ rfl (Or.inl ⟨by rfl, ?_⟩) ?_
          rotate_left
          · (intro w hSw; go_simp; try (with_reducible rfl))
          try simp only [Act.put, Ls]
          refine tk 13 ?_ rfl (Or.inl ⟨by rfl, ?_⟩) ?_
          rotate_left
          · (intro w hSw; go_simp; try (with_reducible rfl))
          try simp only [Act.put, Ls]
          refine tk 14 ?_ rfl (Or.inl ⟨by rfl, ?_⟩) ?_
          rotate_left
          · (intro w hSw; go_simp; try (with_reducible rfl))
          try simp only [Act.put, Ls]
          refine tk 15 ?_ rfl (Or.inl ⟨by rfl, ?_⟩) ?_
          rotate_left
          · (intro w hSw; go_simp; try (with_reducible rfl))
          try simp only [Act.put, Ls]
          refine tk 16 ?_ rfl (Or.inl ⟨by rfl, ?_⟩) ?_
          rotate_left
          · (intro w hSw; (try dsimp only at hSw); obtain ⟨⟨hS0, hS1⟩, hS2, hS3⟩ := hSw; go_simp; try (with_reducible rfl))
          try simp only [Act.put, Ls]
          refine tk 18 ?_ rfl (Or.inl ⟨by rfl, ?_⟩) ?_
          rotate_left
          · (intro w hSw; (try dsimp only at hSw); obtain ⟨⟨hS0, hS1⟩, hS2, hS3⟩ := hSw; go_simp; try (with_reducible rfl))
          try simp only [Act.put, Ls]
          refine rdy 17 rfl (fun K hK => ?_)
          go_simp
          go_at_call 21
          refine (mag_w g1 a1 L1.length c1 _).mono ?_
          rintro r v1 ⟨rfl, hb'⟩
          have hz' := belR.size
          replace belR := bel_go belR hb'
          clear hb' hz'
          refine hK.out _ _ ?_ (fun hHeld => ?_)
          · exact ⟨⟨(B1.below belR).c0, (B1.below belR).c1⟩, (B2.below belR).c0, (B2.below belR).c1⟩
          clear hK K
          try simp only [Act.put, Ls]
          refine rdy 19 rfl (fun K hK => ?_)
          go_simp
          go_at_call 21
          refine (mag_w g2 a2 L2.length c2 _).mono ?_
          rintro r v2 ⟨rfl, hb'⟩
          have hz' := belR.size
          replace belR := bel_go belR hb'
          clear hb' hz'
          refine hK.out _ _ ?_ (fun hHeld => ?_)
          · exact ⟨⟨(B1.below belR).c0, (B1.below belR).c1⟩, (B2.below belR).c0, (B2.below belR).c1⟩
          clear hK K
          try simp only [Act.put, Ls]
          refine rdy 20 rfl (fun K hK => ?_)
          go_simp
          go_at_call 24
          refine (CW.out _ (s1.below belR) (s2.below belR)).mono ?_
          rintro r v3 ⟨rfl, hb'⟩
          have hz' := belR.size
          replace belR := bel_go belR hb'
          clear hb' hz'
          refine hK.out _ _ ?_ (fun hHeld => ?_)
          · exact ⟨⟨(B1.below belR).c0, (B1.below belR).c1⟩, (B2.below belR).c0, (B2.below belR).c1⟩
          clear hK K
          try simp only [Act.put, Ls]
          refine tk 21 ?_ rfl (Or.inl ⟨by rfl, ?_⟩) ?_
          rotate_left
          · (intro w hSw; go_simp; try (with_reducible rfl))
          try simp only [Act.put, Ls]
          try rw [q]
          refine tk 22 ?_ rfl (Or.inl ⟨by rfl, ?_⟩) ?_
          rotate_left
          · (intro w hSw; go_simp; try (with_reducible rfl))
          try simp only [Act.put, Ls]
          refine tk 23 ?_ rfl (Or.inl ⟨by rfl, ?_⟩) ?_
          rotate_left
          · (intro w hSw; go_simp; try (with_reducible rfl))
          try simp only [Act.put, Ls]
          refine rdy 24 rfl (fun K hK => ?_)
          go_simp
          refine hK.out _ _ ?_ (fun hHeld => ?_)
          · exact ⟨⟨(B1.below belR).c0, (B1.below belR).c1⟩, (B2.below belR).c0, (B2.below belR).c1⟩
          clear hK K
          try simp only [Act.put, Ls]
          refine wpAnyH_done (by kernel_rfl) ?_ _
          replace bel := bel.trans (belR.mono bel.size)
          clear belR
          go_wp2
          all_goals go_ret
          all_goals exact ⟨rfl, bel⟩
theorem nelaw_all (ca : Option Addr) (cc : Nat) (cs : List Int) (w : World) (hT : T3 w) (hs : Sl .u8 w (.slice ca cs.length cc) cs) (hby : ∀ i, 0 ≤ cs.getD i 0 ∧ cs.getD i 0 ≤ 255) :
    Calls Tryz.prog 5 #[.slice ca cs.length cc] w fun e w' => e = .returned (.bool true) ∧ Below w.heap.size w w' := by
  by_cases h : cs.length ≤ 1048576
  · exact nelaw ca cc cs w hT hs hby h
  · have hn : cs.length ≤ 9223372036854775807 := by obtain ⟨_, h1, h2, _⟩ := hs.cells; unfold maxLen at h2; omega
    have CB := hid (big_any ca cs.length cc w hn true (by simp; omega))
    clear hs hby h hn
    go_enter Tryz.func5, Tryz.ntmps5
    go_wp2_with fail
    refine CB.out.mono ?_
    rintro e w0 ⟨rfl, rfl⟩
    go_wp2
    go_ret
    exact ⟨rfl, Below.refl _ _⟩
end Fd
end Go.Proofs.YtbhfbaogmkgmiaaGreatDoor
