/-
  What is needed of NA, EF, NT, FS, FM, FO.
-/
import Derived.Test.YtnliofakkkjpoaaGreatDoorA15
set_option maxHeartbeats 16000000
set_option maxRecDepth 1000000
namespace Go.Proofs.YtnliofakkkjpoaaGreatDoor
set_option linter.unusedVariables false
set_option linter.unusedSimpArgs false
open Go.RowKit Go.Deep
theorem num_signal (fm x : Int) (w : World) (hT : Tab w) (h0 : 0 ≤ x) (h1 : x < 18446744073709551616) (hc : cls fm x = 5) :
    Calls Tryz.prog 96 #[.int .i64 fm, .int .u64 x] w fun e w' => ∃ s : ByteArray, e = .returned (.tuple #[.agg #[.bool false, .bool false, .bool false, .slice none 0 0, .int .i64 0], .iface 176 (.agg #[.iface 178 (.agg #[.string s])])]) ∧ Below w.heap.size w w' := by
  have C := hid (fun w' h => impl_cls fm x w' h h0 h1)
  rw [hc] at C
  clear hc
  have Q := Q5.new w (.bool false) (.bool false) (.bool false) (.slice none 0 0) (.int .i64 0) 78
  go_enter Tryz.func96, Tryz.ntmps96
  go_wp2_with fail
  refine (C.out _ (hT.below ((Below.refl _ _).alloc (Nat.le_refl _) _))).mono ?_
  rintro e w1 ⟨rfl, hb1⟩
  obtain ⟨r0, r1, r2, r3, r4, f0, f1, f2, f3, f4⟩ := Q.below hb1
  clear Q
  go_wp2
  refine bodyPost_ret (by simp [results, Tryz.results96, go_sem, r0, r1, r2, r3, r4]; rfl) rfl ⟨_, rfl, ?_⟩
  exact (by (repeat with_reducible first | refine Below.setCell ?_ ?_ _ | exact bz0 _ _ | refine bz1 ?_ | refine bz2 ?_ _ | refine bz3 ?_ _ | refine bz4 ?_ hb1 | refine Below.alloc ?_ ?_ _ | refine Below.trans ?_ (Below.mono hb1 ?_)) <;> first | omega | (simp; done) | (simp; omega))
/-- An error of the program: whether it is one, and whether it tells what is invalid. -/
inductive EK (u : Value) : Value → Bool → Bool → Prop
  | no : EK u .nilIface false false
  | quiet : EK u (.iface 176 (.agg #[.iface 244 u])) true false
  | bad (s : ByteArray) : EK u (.iface 176 (.agg #[.iface 178 (.agg #[.string s])])) true true
theorem inv_any {u ev : Value} {n b : Bool} (h : EK u ev n b) (w : World) (hg : EA.ErrT w) :
    Calls Tryz.prog 152 #[ev] w fun r w' => r = .returned (.bool b) ∧ Below w.heap.size w w' := by
  cases h with
  | no => exact EA.inv_nil w hg
  | quiet => exact EA.inv_quiet u w hg
  | bad s => exact EA.inv_bad s w hg
theorem cls_sixE {fm x : Int} (h : okF fm x = true) : finB fm x = true ∨ cls fm x = 3 ∨ cls fm x = 4 ∨ cls fm x = 5 := by
  have h1 := cls_rng fm x
  by_cases hf : 0 ≤ cls fm x ∧ cls fm x ≤ 2
  · exact .inl (by unfold finB; exact decide_eq_true hf)
  · have : cls fm x ≠ -1 := by
      intro e
      cases hn : nanB fm x
      · have := cls_num h hn; omega
      · have := cls_nan h hn; omega
    omega
theorem nan_ofE {fm x : Int} (h : okF fm x = true) : nanB fm x = (decide (cls fm x = 4) || decide (cls fm x = 5)) := by
  cases hn : nanB fm x
  · have := cls_num h hn
    rw [decide_eq_false (by omega), decide_eq_false (by omega)]; rfl
  · rcases cls_nan h hn with e | e
    · rw [decide_eq_true e]; rfl
    · rw [decide_eq_true e]; simp
/-- A float as a number: its sign; whether it is infinity; M with its sign; E. -/
def nS (fm x : Int) : Bool := !nanB fm x && sigB fm x
def nI (fm x : Int) : Bool := cls fm x == 3
def nZ (fm x : Int) : Int := if finB fm x then (if pS fm x then -pM fm x else pM fm x) else 0
def nE (fm x : Int) : Int := if finB fm x then pE fm x else 0
def nB (fm x : Int) : Bool := cls fm x == 5
theorem fin_facts {fm x : Int} (hx : okF fm x = true) (hf : finB fm x = true) : nS fm x = pS fm x ∧ nI fm x = false ∧ nZ fm x = (if pS fm x then -pM fm x else pM fm x) ∧ nE fm x = pE fm x ∧ nanB fm x = false ∧ nB fm x = false := by
  have hc : 0 ≤ cls fm x ∧ cls fm x ≤ 2 := by simpa [finB] using hf
  have hps : pS fm x = sigB fm x := by unfold pS; rw [hf]; rfl
  have hn : nanB fm x = false := by rw [nan_ofE hx, decide_eq_false (by omega), decide_eq_false (by omega)]; rfl
  refine ⟨by unfold nS; rw [hn, hps]; rfl, ?_, by unfold nZ; rw [hf, if_pos rfl], by unfold nE; rw [hf, if_pos rfl], hn, ?_⟩
  · unfold nI; rw [beq_eq_false_iff_ne]; omega
  · unfold nB; rw [beq_eq_false_iff_ne]; omega
theorem odd_facts {fm x : Int} (hx : okF fm x = true) (hf : finB fm x = false) : nZ fm x = 0 ∧ nE fm x = 0 := by
  unfold nZ nE; rw [hf]; exact ⟨rfl, rfl⟩
/-- A float as a number, with why it is none. -/
theorem num_all (fm x : Int) (u : Value) (w : World) (hE : EE u w) (hx : okF fm x = true) (x0 : 0 ≤ x) (x1 : x < 18446744073709551616) (sg inf G : Bool) (L : List Int) (E : Int) (n b : Bool) (h1 : sg = nS fm x) (h2 : inf = nI fm x) (h3 : G = Nm.wn (nZ fm x)) (h4 : L = Nm.wl (nZ fm x)) (h5 : E = nE fm x) (h6 : n = nanB fm x) (h7 : b = nB fm x) :
    Calls Tryz.prog 96 #[.int .i64 fm, .int .u64 x] w fun r w' => ∃ a' c' ev, r = .returned (.tuple #[.agg #[.bool sg, .bool inf, .bool G, .slice a' L.length c', .int .i64 E], ev]) ∧ EK u ev n b ∧ Own w' w.heap.size a' c' L ∧ Below w.heap.size w w' := by
  subst h1 h2 h3 h4 h5 h6 h7
  have hl0 : Nm.wl 0 = [] := Nm.lim_zero
  have hn0 : Nm.wn 0 = false := by decide
  have hnan := nan_ofE hx
  rcases cls_sixE hx with hf | h3 | h4 | h5
  · obtain ⟨e1, e2, e3, e4, e5, e6⟩ := fin_facts hx hf
    rw [e1, e2, e3, e4, e5, e6]
    exact (num_fin fm x w hE.t x0 x1 hf _ _ _ rfl rfl rfl).mono fun r w' ⟨a, c, hr, ho, hb⟩ => ⟨a, c, _, hr, EK.no, ho, hb⟩
  · have hf : finB fm x = false := by unfold finB; rw [h3]; decide
    have hnb : nanB fm x = false := by rw [hnan, h3]; decide
    obtain ⟨z1, z2⟩ := odd_facts hx hf
    have e1 : nS fm x = sigB fm x := by unfold nS; rw [hnb]; rfl
    have e2 : nI fm x = true := by unfold nI; rw [h3]; rfl
    have e3 : nB fm x = false := by unfold nB; rw [h3]; rfl
    rw [z1, z2, hl0, hn0, hnb, e1, e2, e3]
    exact (num_inf fm x w hE.t x0 x1 h3).mono fun r w' ⟨hr, hb⟩ => ⟨none, 0, _, hr, EK.no, Own.nil _ _, hb⟩
  · have hf : finB fm x = false := by unfold finB; rw [h4]; decide
    have hnb : nanB fm x = true := by rw [hnan, h4]; decide
    obtain ⟨z1, z2⟩ := odd_facts hx hf
    have e1 : nS fm x = false := by unfold nS; rw [hnb]; rfl
    have e2 : nI fm x = false := by unfold nI; rw [h4]; rfl
    have e3 : nB fm x = false := by unfold nB; rw [h4]; rfl
    rw [z1, z2, hl0, hn0, hnb, e1, e2, e3]
    exact (num_quiet fm x u w hE.t hE.q x0 x1 h4).mono fun r w' ⟨hr, hb⟩ => ⟨none, 0, _, hr, EK.quiet, Own.nil _ _, hb⟩
  · have hf : finB fm x = false := by unfold finB; rw [h5]; decide
    have hnb : nanB fm x = true := by rw [hnan, h5]; decide
    obtain ⟨z1, z2⟩ := odd_facts hx hf
    have e1 : nS fm x = false := by unfold nS; rw [hnb]; rfl
    have e2 : nI fm x = false := by unfold nI; rw [h5]; rfl
    have e3 : nB fm x = true := by unfold nB; rw [h5]; rfl
    rw [z1, z2, hl0, hn0, hnb, e1, e2, e3]
    exact (num_signal fm x w hE.t x0 x1 h5).mono fun r w' ⟨s, hr, hb⟩ => ⟨none, 0, _, hr, EK.bad s, Own.nil _ _, hb⟩
/-- What numberOf answers at a float, by letters. -/
abbrev NumAt (u : Value) (fm x : Int) (sg inf G : Bool) (L : List Int) (E : Int) (n b : Bool) : Prop := ∀ w : World, EE u w → Calls Tryz.prog 96 #[.int .i64 fm, .int .u64 x] w fun r w' => ∃ a' c' ev, r = .returned (.tuple #[.agg #[.bool sg, .bool inf, .bool G, .slice a' L.length c', .int .i64 E], ev]) ∧ EK u ev n b ∧ Own w' w.heap.size a' c' L ∧ Below w.heap.size w w'
theorem cls_inf {fm x : Int} (hx : okF fm x = true) (x0 : 0 ≤ x) : (absF fm x == infOf fm) = (cls fm x == 3) := by
  rw [Bool.eq_iff_iff, beq_iff_eq, beq_iff_eq]
  rcases okF_cases hx with ⟨rfl, hx'⟩ | rfl
  · rw [abs32 hx', cls32 hx']
    unfold infOf clsY
    rw [if_pos rfl]
    have := Int.emod_nonneg x (show (2147483648 : Int) ≠ 0 by decide)
    repeat (first | omega | split)
  · rw [abs64, cls64]
    unfold infOf clsY
    rw [if_neg (by decide)]
    have := Int.emod_nonneg x (show (9223372036854775808 : Int) ≠ 0 by decide)
    repeat (first | omega | split)
theorem inf_s (fm : Int) (w : World) (h : fmtB fm = true) : Calls Tryz.prog 104 #[.int .i64 fm] w fun e w' => e = .returned (.int .u64 (infOf fm)) ∧ Below w.heap.size w w' := by
  rcases fmt_cases h with rfl | rfl
  · exact infS32 w
  · exact infS64 w
theorem ok_fmt {fm x : Int} (h : okF fm x = true) : fmtB fm = true := by
  rcases okF_cases h with ⟨rfl, _⟩ | rfl <;> rfl
theorem inf4 (fm x : Int) (w : World) (h : okF fm x = true) (h0 : 0 ≤ x) (h1 : x < 18446744073709551616) (i : Bool) (hi : i = nI fm x) :
    Calls Tryz.prog 91 #[.int .i64 fm, .int .u64 x] w fun e w' => e = .returned (.bool i) ∧ Below w.heap.size w w' := by
  have C := hid (fun w' => spec_l2abs fm x w' h h0 h1)
  have CI := hid (fun w' => inf_s fm w' (ok_fmt h))
  have e := cls_inf h h0
  have hi' : i = (cls fm x == 3) := hi
  rw [← e] at hi'
  obtain ⟨a, ha⟩ : ∃ a, a = absF fm x := ⟨_, rfl⟩
  obtain ⟨b, hb⟩ : ∃ b, b = infOf fm := ⟨_, rfl⟩
  rw [← ha] at C hi'
  rw [← hb] at CI hi'
  subst hi'
  clear ha hb e hi
  go_enter Tryz.func91, Tryz.ntmps91
  go_wp2_with fail
  refine (C.out _).mono ?_
  rintro r w1 ⟨rfl, hb1⟩
  go_wp2_with fail
  refine (CI.out _).mono ?_
  rintro r w2 ⟨rfl, hb2⟩
  go_wp2
  go_ret
  exact ⟨rfl, (by repeat (first | exact bz0 _ _ | refine bz1 ?_ | refine bz2 ?_ _ | refine bz3 ?_ _ | refine bz4 ?_ hb2 | refine bz4 ?_ hb1 | refine bz5 ?_ _ | refine bz6 ?_ _ | refine bz7 ?_ hb2 | refine bz7 ?_ hb1))⟩
theorem nan_cases {fm x : Int} (hx : okF fm x = true) (h : nanB fm x = false) : finB fm x = true ∨ nI fm x = true := by
  rcases cls_sixE hx with hf | h3 | h4 | h5
  · exact .inl hf
  · exact .inr (by unfold nI; rw [h3]; rfl)
  · rw [nan_ofE hx, h4] at h; simp at h
  · rw [nan_ofE hx, h5] at h; simp at h
theorem nZ_bd (fm x : Int) : (nZ fm x).natAbs < 9007199254740992 ∧ -1074 ≤ nE fm x ∧ nE fm x ≤ 2000 := by
  have h1 := pM_bd fm x
  have h2 := pE_bd fm x
  unfold nZ nE
  cases finB fm x
  · simp
  · simp; refine ⟨?_, h2⟩; cases pS fm x <;> simp <;> omega
theorem wl_of {z : Int} {k : Nat} (h : z.natAbs < 2 ^ k) (hk : k ≤ 6400) : (Nm.wl z).length ≤ 200 := by
  unfold Nm.wl; exact lim_len (k := 200) (by have := (Nm.bl_le_iff z.natAbs k).2 h; omega)
theorem nZ_len (fm x : Int) : (Nm.wl (nZ fm x)).length ≤ 200 := wl_of (k := 53) (by have := (nZ_bd fm x).1; omega) (by decide)
theorem numAt {u : Value} {fm x : Int} (hx : okF fm x = true) (x0 : 0 ≤ x) (x1 : x < 18446744073709551616) : NumAt u fm x (nS fm x) (nI fm x) (Nm.wn (nZ fm x)) (Nm.wl (nZ fm x)) (nE fm x) (nanB fm x) (nB fm x) :=
  fun w hE => num_all fm x u w hE hx x0 x1 _ _ _ _ _ _ _ rfl rfl rfl rfl rfl rfl rfl
end Go.Proofs.YtnliofakkkjpoaaGreatDoor
