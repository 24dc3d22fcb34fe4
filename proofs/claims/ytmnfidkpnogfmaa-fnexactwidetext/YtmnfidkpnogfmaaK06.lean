/-
  What is needed of Cmp, NumsE, NumsF, WideA, LawsC.
-/
import Derived.Test.YtmnfidkpnogfmaaK04
import Derived.Test.YtmnfidkpnogfmaaK05
set_option maxHeartbeats 16000000
set_option maxRecDepth 1000000
namespace Go.Proofs.Ytmnfidkpnogfmaa
set_option linter.unusedVariables false
set_option linter.unusedSimpArgs false
open Go.RowKit
/-- Less, the same, greater. -/
def cmpI (x y : Int) : Int := if x < y then -1 else if y < x then 1 else 0
theorem compare_int (x y : Int) (w : World) :
    Calls Try.prog 142 #[.int .i64 x, .int .i64 y] w fun e w' => e = .returned (.int .i64 (cmpI x y)) ∧ Below w.heap.size w w' := by
  have ex : (x != x) = false := by simp
  have ey : (y != y) = false := by simp
  by_cases h1 : x < y
  · have HR : Hid (cmpI x y = -1) := hid (by unfold cmpI; rw [if_pos h1])
    go_enter Try.func142, Try.ntmps142
    go_wp2
    go_ret
    exact ⟨ret_int HR.out.symm, (by repeat (first | exact bz0 _ _ | refine bz1 ?_ | refine bz2 ?_ _ | refine bz3 ?_ _ | refine bz5 ?_ _ | refine bz6 ?_ _))⟩
  by_cases h2 : y < x
  · have HR : Hid (cmpI x y = 1) := hid (by unfold cmpI; rw [if_neg h1, if_pos h2])
    go_enter Try.func142, Try.ntmps142
    go_wp2
    go_ret
    exact ⟨ret_int HR.out.symm, (by repeat (first | exact bz0 _ _ | refine bz1 ?_ | refine bz2 ?_ _ | refine bz3 ?_ _ | refine bz5 ?_ _ | refine bz6 ?_ _))⟩
  · have HR : Hid (cmpI x y = 0) := hid (by unfold cmpI; rw [if_neg h1, if_neg h2])
    go_enter Try.func142, Try.ntmps142
    go_wp2
    go_ret
    exact ⟨ret_int HR.out.symm, (by repeat (first | exact bz0 _ _ | refine bz1 ?_ | refine bz2 ?_ _ | refine bz3 ?_ _ | refine bz5 ?_ _ | refine bz6 ?_ _))⟩
theorem compare_uint32 (x y : Int) (w : World) :
    Calls Try.prog 143 #[.int .u32 x, .int .u32 y] w fun e w' => e = .returned (.int .i64 (cmpI x y)) ∧ Below w.heap.size w w' := by
  have ex : (x != x) = false := by simp
  have ey : (y != y) = false := by simp
  by_cases h1 : x < y
  · have HR : Hid (cmpI x y = -1) := hid (by unfold cmpI; rw [if_pos h1])
    go_enter Try.func143, Try.ntmps143
    go_wp2
    go_ret
    exact ⟨ret_int HR.out.symm, (by repeat (first | exact bz0 _ _ | refine bz1 ?_ | refine bz2 ?_ _ | refine bz3 ?_ _ | refine bz5 ?_ _ | refine bz6 ?_ _))⟩
  by_cases h2 : y < x
  · have HR : Hid (cmpI x y = 1) := hid (by unfold cmpI; rw [if_neg h1, if_pos h2])
    go_enter Try.func143, Try.ntmps143
    go_wp2
    go_ret
    exact ⟨ret_int HR.out.symm, (by repeat (first | exact bz0 _ _ | refine bz1 ?_ | refine bz2 ?_ _ | refine bz3 ?_ _ | refine bz5 ?_ _ | refine bz6 ?_ _))⟩
  · have HR : Hid (cmpI x y = 0) := hid (by unfold cmpI; rw [if_neg h1, if_neg h2])
    go_enter Try.func143, Try.ntmps143
    go_wp2
    go_ret
    exact ⟨ret_int HR.out.symm, (by repeat (first | exact bz0 _ _ | refine bz1 ?_ | refine bz2 ?_ _ | refine bz3 ?_ _ | refine bz5 ?_ _ | refine bz6 ?_ _))⟩
theorem cmpI_rng (x y : Int) : -1 ≤ cmpI x y ∧ cmpI x y ≤ 1 := by unfold cmpI; repeat' split <;> omega

end Go.Proofs.Ytmnfidkpnogfmaa
namespace Go.Proofs.Ytmnfidkpnogfmaa
set_option linter.unusedVariables false
namespace Nm
/-- Compared from the top down. -/
def cmpF (xs ys : List Int) : Nat → Int
  | 0 => 0
  | n + 1 => if xs.getD n 0 < ys.getD n 0 then -1 else if ys.getD n 0 < xs.getD n 0 then 1 else cmpF xs ys n
def cmpB (xs ys : List Int) : Int := if xs.length < ys.length then -1 else if ys.length < xs.length then 1 else cmpF xs ys xs.length
theorem val_take_lt {xs : List Int} (d : Dg xs) (n : Nat) : 0 ≤ val (xs.take n) ∧ val (xs.take n) < pw n := by
  refine ⟨val_nonneg (d.take n), ?_⟩
  have h1 := val_lt (d.take n)
  have h2 := pw_mono (show (xs.take n).length ≤ n by simp; omega)
  omega
theorem mul_step {p u v : Int} (hp : 1 ≤ p) (h : u < v) : p * u + p ≤ p * v := by
  have : p * (u + 1) ≤ p * v := Int.mul_le_mul_of_nonneg_left (by omega) (by omega)
  rw [Int.mul_add] at this; omega
theorem cmpF_val {xs ys : List Int} (dx : Dg xs) (dy : Dg ys) (n : Nat) : (cmpF xs ys n < 0 ↔ val (xs.take n) < val (ys.take n)) ∧ (0 < cmpF xs ys n ↔ val (ys.take n) < val (xs.take n)) := by
  induction n with
  | zero => simp [cmpF]
  | succ n ih =>
    rw [val_take_succ, val_take_succ]
    have h1 := val_take_lt dx n
    have h2 := val_take_lt dy n
    have hp := pw_pos n
    simp only [cmpF]
    by_cases c1 : xs.getD n 0 < ys.getD n 0
    · have := mul_step hp c1
      rw [if_pos c1]; constructor <;> constructor <;> intro _ <;> omega
    · rw [if_neg c1]
      by_cases c2 : ys.getD n 0 < xs.getD n 0
      · have := mul_step hp c2
        rw [if_pos c2]; constructor <;> constructor <;> intro _ <;> omega
      · rw [if_neg c2, show xs.getD n 0 = ys.getD n 0 by omega]
        constructor
        · rw [ih.1]; omega
        · rw [ih.2]; omega
theorem val_len_lt {xs ys : List Int} (dx : Dg xs) (dy : Dg ys) (ny : Nz ys) (h : xs.length < ys.length) : val xs < val ys := by
  have h1 := val_lt dx
  have h2 : ¬ val ys < pw xs.length := fun h' => by have := (length_le_iff dy ny xs.length).2 h'; omega
  omega
theorem cmpB_val {xs ys : List Int} (dx : Dg xs) (dy : Dg ys) (nx : Nz xs) (ny : Nz ys) : (cmpB xs ys < 0 ↔ val xs < val ys) ∧ (0 < cmpB xs ys ↔ val ys < val xs) := by
  unfold cmpB
  by_cases c1 : xs.length < ys.length
  · have := val_len_lt dx dy ny c1
    rw [if_pos c1]; constructor <;> constructor <;> intro _ <;> omega
  · rw [if_neg c1]
    by_cases c2 : ys.length < xs.length
    · have := val_len_lt dy dx nx c2
      rw [if_pos c2]; constructor <;> constructor <;> intro _ <;> omega
    · rw [if_neg c2]
      have h := cmpF_val dx dy xs.length
      rwa [List.take_of_length_le (Nat.le_refl _), List.take_of_length_le (l := ys) (by omega)] at h
theorem len_le_of_val {xs ys : List Int} (dx : Dg xs) (dy : Dg ys) (ny : Nz ys) (h : val ys ≤ val xs) : ys.length ≤ xs.length := by
  have := val_lt dx
  exact (length_le_iff dy ny xs.length).2 (by omega)
/-- The sum of two wides, with one sign or with two. -/
theorem wv_same {n : Bool} {xs ys os : List Int} (h : val os = val xs + val ys) : wv n xs + wv n ys = wv n os := by
  unfold wv; cases n <;> simp <;> omega
theorem wv_less {n m : Bool} {xs ys os : List Int} (hn : (n == m) = false) (h : val os = val xs - val ys) : wv n xs + wv m ys = wv n os := by
  unfold wv; cases n <;> cases m <;> simp at hn ⊢ <;> omega
theorem wv_less' {n m : Bool} {xs ys os : List Int} (hn : (n == m) = false) (h : val os = val ys - val xs) : wv n xs + wv m ys = wv m os := by
  unfold wv; cases n <;> cases m <;> simp at hn ⊢ <;> omega
theorem wv_mul {n m : Bool} {xs ys os : List Int} (h : val os = val xs * val ys) : wv n xs * wv m ys = wv (n != m) os := by
  unfold wv; cases n <;> cases m <;> simp [h, Int.neg_mul, Int.mul_neg]
/-- m times 2 to the n, cut. (m is not below 0.) -/
def shM (m n : Int) : Int := if n < 0 then m / (2 : Int) ^ (-n).toNat else m * (2 : Int) ^ n.toNat
/-- A wide's value shifted: towards 0. -/
def shV (ng : Bool) (m n : Int) : Int := if ng then - shM m n else shM m n
theorem pw_pow (n : Nat) : pw n = (2 : Int) ^ (32 * n) := by rw [pw_two]; simp
theorem shM_up {m n : Int} {wh r : Nat} (h0 : 0 ≤ n) (hq : n / 32 = (wh : Int)) (hm : n % 32 = (r : Int)) : pw wh * ((2 : Int) ^ r * m) = shM m n := by
  unfold shM
  rw [if_neg (by omega), pw_pow, show n.toNat = 32 * wh + r by omega, Int.pow_add, Int.mul_comm m, Int.mul_assoc]
theorem shM_down {m n : Int} {wh r : Nat} (h0 : n < 0) (hq : -n / 32 = (wh : Int)) (hm : -n % 32 = (r : Int)) : m / pw wh / (2 : Int) ^ r = shM m n := by
  unfold shM
  have hp := pw_pos wh
  rw [if_pos h0, show (-n).toNat = 32 * wh + r by omega, Int.pow_add, ← pw_pow, Int.ediv_ediv_of_nonneg (by omega)]
theorem shV_wv {ng : Bool} {m n : Int} {os : List Int} (h : val os = shM m n) : shV ng m n = wv ng os := by unfold shV wv; rw [h]
theorem shM_nonneg {m n : Int} (h : 0 ≤ m) : 0 ≤ shM m n := by
  unfold shM; split
  · exact Int.ediv_nonneg h (Int.le_of_lt (Int.pow_pos (by decide)))
  · exact Int.mul_nonneg h (Int.le_of_lt (Int.pow_pos (by decide)))
theorem shV_natAbs (ng : Bool) {m n : Int} (h : 0 ≤ m) : (shV ng m n).natAbs = (shM m n).toNat := by
  have := shM_nonneg (n := n) h
  unfold shV; cases ng <;> simp <;> omega
/-- How long what is shifted is. -/
theorem sh_len {m n : Int} {k : Nat} (ng : Bool) (h0 : 0 ≤ m) (h : m < pw k) (hn : n ≤ 10000) : (wl (shV ng m n)).length ≤ k + 313 := by
  unfold wl
  rw [lim_length, shV_natAbs ng h0]
  have hs := shM_nonneg (n := n) h0
  have h1 : shM m n < pw (k + 313) := by
    unfold shM
    have hp1 := pw_pos k
    have hp2 := pw_pos 313
    have hpa : pw (k + 313) = pw k * pw 313 := pw_add k 313
    split
    · have hd : m / (2 : Int) ^ (-n).toNat ≤ m := Int.ediv_le_self _ h0
      have : pw k ≤ pw (k + 313) := pw_mono (by omega)
      omega
    · rename_i hc
      have hle : (2 : Int) ^ n.toNat ≤ pw 313 := by
        rw [pw_pow]
        have := Nat.pow_le_pow_right (n := 2) (by decide) (show n.toNat ≤ 32 * 313 by omega)
        have h2 : ∀ k : Nat, ((2 ^ k : Nat) : Int) = (2 : Int) ^ k := fun k => by simp
        rw [← h2, ← h2]; exact Int.ofNat_le.2 this
      have hpp : (0 : Int) < (2 : Int) ^ n.toNat := Int.pow_pos (by decide)
      have e1 : m * (2 : Int) ^ n.toNat < pw k * (2 : Int) ^ n.toNat := Int.mul_lt_mul_of_pos_right h hpp
      have e2 : pw k * (2 : Int) ^ n.toNat ≤ pw k * pw 313 := Int.mul_le_mul_of_nonneg_left hle (by omega)
      omega
  omega
end Nm
set_option linter.unusedSimpArgs false
open Go.RowKit Go.Deep
/-- What limbs are as a wide that fits: the limbs, the sign, whether it fits. -/
def fitL (zs : List Int) : List Int := if (Nm.trim zs).length ≤ 200 then Nm.trim zs else []
def fitN (ng : Bool) (zs : List Int) : Bool := if (Nm.trim zs).length ≤ 200 then ng && !decide ((Nm.trim zs).length = 0) else false
def fitO (zs : List Int) : Bool := decide ((Nm.trim zs).length ≤ 200)

theorem Own.nil (w : World) (B : Nat) : Own w B none 0 [] := World.ownsRow_nil w B 121 1
/-- The first n limbs of what is owned. -/
theorem Own.take {w : World} {B : Nat} {a : Option Addr} {cap : Nat} {zs : List Int} (h : Own w B a cap zs) (n : Nat) (hn : n ≤ zs.length) : Own w B a cap (zs.take n) := by
  have hlen : (zs.take n).length = n := by simp; omega
  rcases h.2 with ⟨h1, h2⟩ | ⟨g, cap', cur, h1, h2, h3, h4, h5, h6, h7⟩
  · simp at h1
    obtain ⟨rfl, hz, rfl⟩ := h1
    subst hz
    simp
    exact Own.nil w B
  · simp only [Value.slice.injEq, true_and] at h1
    obtain ⟨rfl, rfl⟩ := h1
    refine ⟨by simp, .inr ⟨g, cap, cur, by rw [hlen], h2, h3, by rw [hlen]; omega, h5, h6, ?_⟩⟩
    rw [hlen, List.map_take, ← h7, List.take_take, Nat.mul_one, Nat.mul_one, Nat.min_eq_left hn]

theorem fit_cases (ng : Bool) (zs : List Int) {n : Nat} (h : Nm.trim zs = zs.take n) (hn : n ≤ zs.length) :
    (n = 0 → fitL zs = [] ∧ fitN ng zs = false ∧ fitO zs = true) ∧ (200 < n → fitL zs = [] ∧ fitN ng zs = false ∧ fitO zs = false) ∧ (0 < n → n ≤ 200 → fitL zs = zs.take n ∧ fitN ng zs = ng ∧ fitO zs = true) := by
  have hlen : (zs.take n).length = n := by simp; omega
  unfold fitL fitN fitO
  rw [h, hlen]
  refine ⟨fun e => ?_, fun e => ?_, fun e1 e2 => ?_⟩
  · subst e; simp
  · rw [if_neg (by omega), if_neg (by omega)]; simp; omega
  · rw [if_pos e2, if_pos e2]; simp [show n ≠ 0 by omega, e2]

theorem fitted_at (ng : Bool) (a : Option Addr) (cap : Nat) (zs : List Int) (B : Nat) (w : World) (ho : Own w B a cap zs) (hz : Nm.Dg zs) (hl : zs.length ≤ 1048576) :
    Calls Try.prog 101 #[.bool ng, .slice a zs.length cap] w fun e w' => ∃ a' c', e = .returned (.tuple #[.agg #[.bool (fitN ng zs), .slice a' (fitL zs).length c'], .bool (fitO zs)]) ∧ Own w' B a' c' (fitL zs) ∧ Below w.heap.size w w' ∧ (a' = none ∨ a' = a) := by
  obtain ⟨-, hc1, hc2, hc3⟩ := ho.sl.cells
  go_enter Try.func101, Try.ntmps101
  go_wp2_with fail
  go_loop [6] (fun i => ∃ n : Nat, n ≤ zs.length ∧ i = .int .i64 n ∧ (∀ i, n ≤ i → i < zs.length → zs.getD i 0 = 0)) (fun i => (intOf i).toNat)
  case atStart => exact ⟨zs.length, Nat.le_refl _, rfl, fun i h1 h2 => absurd h2 (by omega)⟩
  case round =>
    obtain ⟨n, hn, rfl, hpre⟩ := hrel
    have PRE := hid hpre
    clear hpre
    by_cases h0 : n = 0
    · subst h0
      have hT := Nm.trim_take hz (Nat.zero_le _) PRE.out (.inl rfl)
      obtain ⟨e1, e2, e3⟩ := (fit_cases ng zs hT (Nat.zero_le _)).1 rfl
      have HF := hid (And.intro e1 (And.intro e2 e3))
      clear hT e1 e2 e3 hc3
      go_wp2
      refine bodyPost_ret (v := .tuple #[.agg #[.bool false, .slice none 0 0], .bool true]) (by simp [results, Try.results101, go_sem]) rfl ⟨none, 0, ?_, ?_, (by repeat (first | exact bz0 _ _ | refine bz1 ?_ | refine bz2 ?_ _ | refine bz3 ?_ _ | refine bz5 ?_ _ | refine bz6 ?_ _)), .inl rfl⟩
      · rw [HF.out.1, HF.out.2.1, HF.out.2.2]; rfl
      · rw [HF.out.1]; exact Own.nil _ _
    · obtain ⟨b, off, rfl, hcell⟩ := hc3 (by omega)
      have hcx := hcell (n - 1) (by omega)
      have hlt := World.block_lt_of_cell? w _ hcx
      obtain ⟨z, hzk⟩ : ∃ z, z = zs.getD (n - 1) 0 := ⟨_, rfl⟩
      rw [← hzk] at hcx
      have HZ := hid hzk
      clear hzk hcell hc3
      have hn1 : 1 ≤ n := by omega
      by_cases hz0 : z = 0
      · have t0 : (z == 0) = true := by simpa using hz0
        have HZ0 := hid hz0
        clear hz0
        go_wp2
        go_round
        case rel => exact ⟨n - 1, by omega, by go_num, fun i h1 h2 => by
          by_cases e : i = n - 1
          · subst e; rw [← HZ.out]; exact HZ0.out
          · exact PRE.out i (by omega) h2⟩
        case measure => simp [intOf]; omega
      · have t0 : (z == 0) = false := by simpa using hz0
        have hT := Nm.trim_take hz hn PRE.out (.inr (by rw [← HZ.out]; exact hz0))
        have hfc := fit_cases ng zs hT hn
        have HF := hid hfc
        have tn : ((n : Int) == 0) = false := by rw [beq_eq_false_iff_ne]; omega
        clear hfc hT hz0
        by_cases h200 : n ≤ 200
        · go_wp2
          refine bodyPost_ret (v := .tuple #[.agg #[.bool ng, .slice (some ⟨b, off, none⟩) n cap], .bool true]) (by simp [results, Try.results101, go_sem]) rfl ⟨some ⟨b, off, none⟩, cap, ?_, ?_, (by repeat (first | exact bz0 _ _ | refine bz1 ?_ | refine bz2 ?_ _ | refine bz3 ?_ _ | refine bz5 ?_ _ | refine bz6 ?_ _)), .inr rfl⟩
          · obtain ⟨e1, e2, e3⟩ := HF.out.2.2 hn1 h200
            rw [e1, e2, e3, List.length_take, Nat.min_eq_left hn]
          · obtain ⟨e1, e2, e3⟩ := HF.out.2.2 hn1 h200
            rw [e1]
            exact (ho.take n hn).below (by repeat (first | exact bz0 _ _ | refine bz1 ?_ | refine bz2 ?_ _ | refine bz3 ?_ _ | refine bz5 ?_ _ | refine bz6 ?_ _))
        · go_wp2
          refine bodyPost_ret (v := .tuple #[.agg #[.bool false, .slice none 0 0], .bool false]) (by simp [results, Try.results101, go_sem]) rfl ⟨none, 0, ?_, ?_, (by repeat (first | exact bz0 _ _ | refine bz1 ?_ | refine bz2 ?_ _ | refine bz3 ?_ _ | refine bz5 ?_ _ | refine bz6 ?_ _)), .inl rfl⟩
          · obtain ⟨e1, e2, e3⟩ := HF.out.2.1 (by omega)
            rw [e1, e2, e3]; rfl
          · obtain ⟨e1, e2, e3⟩ := HF.out.2.1 (by omega)
            rw [e1]; exact Own.nil _ _
theorem fitted_any (ng : Bool) (a : Option Addr) (cap : Nat) (zs : List Int) (B : Nat) (w : World) (ho : Own w B a cap zs) (hz : Nm.Dg zs) (hl : zs.length ≤ 1048576) :
    Calls Try.prog 101 #[.bool ng, .slice a zs.length cap] w fun e w' => ∃ a' c', e = .returned (.tuple #[.agg #[.bool (fitN ng zs), .slice a' (fitL zs).length c'], .bool (fitO zs)]) ∧ Own w' B a' c' (fitL zs) ∧ Below w.heap.size w w' :=
  (fitted_at ng a cap zs B w ho hz hl).mono fun e w' ⟨a', c', h1, h2, h3, _⟩ => ⟨a', c', h1, h2, h3⟩
/-- Where a slice's row lies, if there is one: told by its first cell's block. -/
theorem Own.at {w : World} {B : Nat} {a : Option Addr} {cap : Nat} {zs : List Int} (h : Own w B a cap zs) (n c : Nat) : ∀ g, (Value.slice a n c).ownBlock = some g → B ≤ g ∧ g < w.heap.size := by
  intro g hg
  rcases h.block with ⟨rfl, _, _⟩ | ⟨g', rfl, h1, h2⟩
  · simp [Value.ownBlock] at hg
  · simp [Value.ownBlock] at hg; subst hg; exact ⟨h1, h2⟩
theorem Box.grown {w w' : World} {b : Nat} {v0 v1 : Value} {row : Option Nat} (h : Box w b v0 v1) (hg : w.grownBy w' row) (hne : ∀ g, row = some g → b ≠ g) : Box w' b v0 v1 := by
  have hlt := World.block_lt_of_cell? w _ h.1
  have e := hg.block b hlt (by
    cases row with
    | none => simp
    | some g => simpa using hne g rfl)
  exact ⟨(World.cell?_of_block (a := ⟨b, 0, none⟩) e).trans h.1, (World.cell?_of_block (a := ⟨b, 1, none⟩) e).trans h.2⟩
/-- What is owned below what is marked. -/
theorem Own.under {w w' : World} {B : Nat} {a : Option Addr} {cap : Nat} {zs : List Int} {row : Option Nat} (h : Own w B a cap zs) (hg : w.grownBy w' row) (hlt : ∀ g g', a = some ⟨g, 0, none⟩ → row = some g' → g ≠ g') : Own w' B a cap zs :=
  h.kept hg (fun g hg' hr => hlt g g hg' hr rfl)
theorem Sl.grown {k : IntKind} {w w' : World} {v : Value} {zs : List Int} {row : Option Nat} (h : Sl k w v zs) (hg : w.grownBy w' row) (hne : ∀ g, row = some g → w.heap.size ≤ g ∨ ∀ b off n cap, v = .slice (some ⟨b, off, none⟩) n cap → b ≠ g) : Sl k w' v zs := by
  obtain ⟨a, cap, rfl, h1, h2, h3⟩ := h
  refine ⟨a, cap, rfl, h1, h2, ?_⟩
  rcases h3 with h3 | ⟨b, off, rfl, hc⟩
  · exact .inl h3
  · refine .inr ⟨b, off, rfl, fun i hi => ?_⟩
    have hci := hc i hi
    have hlt := World.block_lt_of_cell? w _ hci
    have e := hg.block b hlt (by
      cases row with
      | none => simp
      | some g =>
        rcases hne g rfl with h | h
        · simp at hlt ⊢; omega
        · simpa using h b off _ _ rfl)
    exact (World.cell?_of_block (a := ⟨b, off + i, none⟩) e).trans hci
/-- Nothing old has turned, where only a new block is marked. -/
theorem bel_mark {w W w' : World} {row : Option Nat} (h : Below w.heap.size w W) (hg : W.grownBy w' row) (hge : ∀ g, row = some g → w.heap.size ≤ g) : Below w.heap.size w w' :=
  h.grown hg h.size hge
theorem iot_dg (n : Nat) (hn : n ≤ 1048576) : Nm.Dg (iot 1 n) := by
  intro z hz
  simp only [iot, List.mem_map, List.mem_range] at hz
  obtain ⟨i, hi, rfl⟩ := hz
  omega
theorem heldR_iot (n : Nat) : heldR 1 (iot 1 n) = 1 + n := by unfold heldR; rw [iot_length, if_pos rfl]
theorem eqW_refl (n : Bool) (zs : List Int) : eqW n n zs zs = true := by simp [eqW, eqL]
end Go.Proofs.Ytmnfidkpnogfmaa
