/-
  Drawn wides of any kind; wides that are not the same.
-/
import Derived.Test.YtmfpfkfohjkcgaaDoorK42
import Derived.Test.YtmfpfkfohjkcgaaDoorZDrawD
import Derived.Test.YtmfpfkfohjkcgaaDoorK00
namespace Go.Proofs.YtmfpfkfohjkcgaaDoor
set_option linter.unusedVariables false
set_option linter.unusedSimpArgs false
open Go.RowKit Go.Deep
set_option maxRecDepth 10000 in
set_option maxHeartbeats 4000000 in
theorem drawWOk_any (ca : Option Addr) (cc : Nat) (cs : List Int) (w : World) (hs : Sl .u8 w (.slice ca cs.length cc) cs) (hby : ∀ i, 0 ≤ cs.getD i 0 ∧ cs.getD i 0 ≤ 255) (hl : cs.length ≤ 1048576) :
    Calls Tryd.prog 85 #[.slice ca cs.length cc] w fun e w' => ∃ (na : Bool) (xs : List Int) (a : Option Addr) (c : Nat), e = .returned (.agg #[.bool na, .slice a xs.length c]) ∧ xs.length ≤ 2000 ∧ Nm.Dg xs ∧ Own w' w.heap.size a c xs ∧ Below w.heap.size w w' := by
  have Z1 := R2.new w (.bool false) (.slice none 0 0) 35
  have hsV := hs.alloc (.cells #[.bool false, .slice none 0 0] 35)
  have hzV : (w.alloc (.cells #[.bool false, .slice none 0 0] 35)).heap.size = w.heap.size + 1 := by simp
  have hbV : Below w.heap.size w (w.alloc (.cells #[.bool false, .slice none 0 0] 35)) := (by repeat (first | exact bz0 _ _ | refine bz1 ?_ | refine bz2 ?_ _ | refine bz3 ?_ _ | refine bz5 ?_ _ | refine bz6 ?_ _))
  go_enter Tryd.func85, Tryd.ntmps85
  go_wp2_with fail
  generalize (w.alloc (.cells #[.bool false, .slice none 0 0] 35)) = V at Z1 hsV hzV hbV ⊢
  refine (open_any ca cc cs _ hsV hby hl).mono ?_
  rintro e w1 ⟨rfl, hr1, hb1⟩
  obtain ⟨rb, hrb⟩ : ∃ rb, rb = V.heap.size := ⟨_, rfl⟩
  rw [← hrb] at hr1
  have hr1l := hr1.lt
  replace Z1 := Z1.below hb1
  have hbw1 := bel_go hbV hb1
  have hz0 : w.heap.size < rb := by omega
  simp only [← hrb]
  clear hrb hzV hb1
  go_wp2_with fail
  refine (wide_any rb ca cc cs _ hr1).mono ?_
  rintro e w3 ⟨x, a3, c3, rfl, lx, ho3, hr3, hg3⟩
  replace Z1 := Z1.rd hg3 (by omega)
  have l3 : w1.heap.size ≤ w3.heap.size := hg3.size
  have hbw3 : Below w.heap.size w w3 := hbw1.grown hg3 (by omega) (fun k hk => by cases hk; omega)
  have hat3 := own_at ho3
  go_wp2_with fail
  refine (hurt_any rb ca cc cs (Nm.wn x) a3 c3 (Nm.wl x) w1.heap.size _ hr3 ho3 (by omega) (Nm.wl_dg x) (by omega) (by omega)).mono ?_
  rintro e w5 ⟨n5, L5, a5, c5, rfl, len5, dg5, ho5, hr5, hG5, hw5⟩
  obtain ⟨p0, p1, p2, p3⟩ := Gr2.r2 Z1 hG5 (by omega) (fun g hg => by have := hat3 g hg; omega)
  have hbw5 := bel_gr2 hbw3 hG5 (by omega) (fun g hg => by have := hat3 g hg; omega)
  go_wp2
  refine bodyPost_ret (v := .agg #[.bool n5, .slice a5 L5.length c5]) (by simp [results, Tryd.results85, go_sem, p0, p1]) rfl ⟨n5, L5, a5, c5, rfl, len5, dg5, ?_, ?_⟩
  · exact ((ho5.setBelow (by simp; omega) _).setBelow (by simp; omega) _).base (by omega)
  · exact (hbw5.setCell (by simp) _).setCell (by simp) _
theorem drawBitLen_x (ca : Option Addr) (cc : Nat) (cs : List Int) (w : World) (hs : Sl .u8 w (.slice ca cs.length cc) cs) (hby : ∀ i, 0 ≤ cs.getD i 0 ∧ cs.getD i 0 ≤ 255) (hl : cs.length ≤ 1048576) :
    Calls Tryd.prog 32 #[.slice ca cs.length cc] w fun e w' => ∃ (na : Bool) (xs : List Int) (a : Option Addr) (c : Nat), e = .returned (.agg #[.bool na, .slice a xs.length c]) ∧ xs.length ≤ 2000 ∧ Nm.Dg xs ∧ Own w' w.heap.size a c xs ∧ Below w.heap.size w w' := by
  have Z1 := R2.new w (.bool false) (.slice none 0 0) 35
  have hsV := hs.alloc (.cells #[.bool false, .slice none 0 0] 35)
  have hzV : (w.alloc (.cells #[.bool false, .slice none 0 0] 35)).heap.size = w.heap.size + 1 := by simp
  have hbV : Below w.heap.size w (w.alloc (.cells #[.bool false, .slice none 0 0] 35)) := (by repeat (first | exact bz0 _ _ | refine bz1 ?_ | refine bz2 ?_ _ | refine bz3 ?_ _ | refine bz5 ?_ _ | refine bz6 ?_ _))
  go_enter Tryd.func32, Tryd.ntmps32
  go_wp2_with fail
  generalize (w.alloc (.cells #[.bool false, .slice none 0 0] 35)) = V at Z1 hsV hzV hbV ⊢
  refine (drawWOk_any ca cc cs _ hsV hby hl).mono ?_
  rintro e w1 ⟨na, xs, a, c, rfl, lx, dx, ho, hb⟩
  obtain ⟨p0, p1, p2, p3⟩ := Z1.below hb
  have hbw := bel_go hbV hb
  go_wp2
  refine bodyPost_ret (v := .agg #[.bool na, .slice a xs.length c]) (by simp [results, Tryd.results32, go_sem, p0, p1]) rfl ⟨na, xs, a, c, rfl, lx, dx, ?_, ?_⟩
  · exact ((ho.setBelow (by simp; omega) _).setBelow (by simp; omega) _).base (by omega)
  · exact (hbw.setCell (by simp) _).setCell (by simp) _
set_option maxHeartbeats 4000000 in
theorem same_no1 (n m : Bool) (a b : Option Addr) (k l cap cap' : Nat) (w : World) (h : n ≠ m ∨ k ≠ l) :
    Calls Tryd.prog 17 #[.agg #[.bool n, .slice a k cap], .agg #[.bool m, .slice b l cap']] w fun e w' => e = .returned (.bool false) ∧ Below w.heap.size w w' := by
  by_cases hnm : n = m
  · subst hnm
    have hbe : (n != n) = false := by simp
    have hbe2 : (n == n) = true := by simp
    have hkl : ((k : Int) != (l : Int)) = true := by have : k ≠ l := h.resolve_left (fun h => h rfl); simp; omega
    have hkl2 : ((k : Int) == (l : Int)) = false := by have : k ≠ l := h.resolve_left (fun h => h rfl); simp; omega
    go_enter Tryd.func17, Tryd.ntmps17
    go_wp2
    go_ret
    exact ⟨rfl, (by repeat (first | exact bz0 _ _ | refine bz1 ?_ | refine bz2 ?_ _ | refine bz3 ?_ _ | refine bz5 ?_ _ | refine bz6 ?_ _))⟩
  · have hbe : (n != m) = true := by cases n <;> cases m <;> simp at hnm ⊢
    have hbe2 : (n == m) = false := by cases n <;> cases m <;> simp at hnm ⊢
    clear hnm h
    go_enter Tryd.func17, Tryd.ntmps17
    go_wp2
    go_ret
    exact ⟨rfl, (by repeat (first | exact bz0 _ _ | refine bz1 ?_ | refine bz2 ?_ _ | refine bz3 ?_ _ | refine bz5 ?_ _ | refine bz6 ?_ _))⟩
set_option maxHeartbeats 4000000 in
set_option maxRecDepth 10000 in
theorem same_no2 (n : Bool) (a b : Option Addr) (cap cap' : Nat) (xs ys : List Int) (w : World) (hx : Sl .u32 w (.slice a xs.length cap) xs) (hy : Sl .u32 w (.slice b xs.length cap') ys) (hl : xs.length ≤ 1048576) (hlen : ys.length = xs.length) (hne : xs ≠ ys) :
    Calls Tryd.prog 17 #[.agg #[.bool n, .slice a xs.length cap], .agg #[.bool n, .slice b xs.length cap']] w fun e w' => e = .returned (.bool false) ∧ Below w.heap.size w w' := by
  have hbe : (n == n) = true := by simp
  have hle : ((xs.length : Int) != (xs.length : Int)) = false := by simp
  have Bx := (Box.new w (.bool n) (.slice a xs.length cap) 35).alloc (.cells #[.bool n, .slice b xs.length cap'] 35)
  have By := Box.new2 w (.cells #[.bool n, .slice a xs.length cap] 35) (.bool n) (.slice b xs.length cap') 35
  have sx := (hx.alloc (.cells #[.bool n, .slice a xs.length cap] 35)).alloc (.cells #[.bool n, .slice b xs.length cap'] 35)
  have sy := (hy.alloc (.cells #[.bool n, .slice a xs.length cap] 35)).alloc (.cells #[.bool n, .slice b xs.length cap'] 35)
  have hbV : Below w.heap.size w ((w.alloc (.cells #[.bool n, .slice a xs.length cap] 35)).alloc (.cells #[.bool n, .slice b xs.length cap'] 35)) := (by repeat (first | exact bz0 _ _ | refine bz1 ?_ | refine bz2 ?_ _ | refine bz3 ?_ _ | refine bz5 ?_ _ | refine bz6 ?_ _))
  go_enter Tryd.func17, Tryd.ntmps17
  go_wp2_with fail
  generalize (w.alloc (.cells #[.bool n, .slice a xs.length cap] 35)).alloc (.cells #[.bool n, .slice b xs.length cap'] 35) = V at Bx By sx sy hbV ⊢
  go_loopw [5] (fun iv wr => ∃ i : Nat, i ≤ xs.length ∧ iv = .int .i64 i ∧ (∀ j, j < i → xs.getD j 0 = ys.getD j 0) ∧ Below V.heap.size V wr) (fun iv _ => xs.length - (intOf iv).toNat)
  case atStart => exact ⟨0, Nat.zero_le _, rfl, fun j hj => absurd hj (Nat.not_lt_zero _), Below.refl _ _⟩
  case round =>
    obtain ⟨i, hi, rfl, heq, hb⟩ := hrel
    obtain ⟨x0, x1⟩ := Bx.below hb
    obtain ⟨y0, y1⟩ := By.below hb
    by_cases hlt : i < xs.length
    · obtain ⟨-, _, _, h3⟩ := (sx.below hb).cells
      obtain ⟨-, _, _, h4⟩ := (sy.below hb).cells
      obtain ⟨ba, oa, rfl, ha⟩ := h3 (by omega)
      obtain ⟨bb, ob, rfl, hbb⟩ := h4 (by omega)
      have ca := ha i hlt
      have cb := hbb i (by omega)
      have heqi := hid (fun (h : xs.getD i 0 = ys.getD i 0) => (fun j (hj : j < i + 1) => by
        rcases Nat.lt_or_ge j i with h' | h'
        · exact heq j h'
        · rw [show j = i by omega]; exact h : ∀ j, j < i + 1 → xs.getD j 0 = ys.getD j 0))
      obtain ⟨z, hz⟩ : ∃ z, z = xs.getD i 0 := ⟨_, rfl⟩
      obtain ⟨y, hyz⟩ : ∃ y, y = ys.getD i 0 := ⟨_, rfl⟩
      rw [← hz] at ca
      rw [← hyz] at cb
      rw [← hz, ← hyz] at heqi
      clear h3 h4 ha hbb hz hyz heq
      by_cases hzy : z = y
      · subst hzy
        replace heqi := heqi.out rfl
        have heqi := hid heqi
        have hzz : (z != z) = false := by simp
        have hzz2 : (z == z) = true := by simp
        have k0 : (0 : Int) ≤ (i : Int) := by omega
        have k1 : (i : Int) < (xs.length : Int) := by omega
        have kd : wr.drew.cell? ⟨w.heap.size, 1, none⟩ = some (.slice (some ⟨ba, oa, none⟩) xs.length cap) ∧ wr.drew.cell? ⟨ba, oa + i, none⟩ = some (.int .u32 z) ∧ wr.drew.cell? ⟨w.heap.size + 1, 1, none⟩ = some (.slice (some ⟨bb, ob, none⟩) xs.length cap') ∧ wr.drew.cell? ⟨bb, ob + i, none⟩ = some (.int .u32 z) := ⟨x1, ca, y1, cb⟩
        go_wp2_with fail
        go_region_held3 (fun w' => w'.cell? ⟨w.heap.size, 1, none⟩ = some (.slice (some ⟨ba, oa, none⟩) xs.length cap) ∧ w'.cell? ⟨ba, oa + i, none⟩ = some (.int .u32 z) ∧ w'.cell? ⟨w.heap.size + 1, 1, none⟩ = some (.slice (some ⟨bb, ob, none⟩) xs.length cap') ∧ w'.cell? ⟨bb, ob + i, none⟩ = some (.int .u32 z)) (with_reducible assumption) (fail)
        go_wp2
        go_roundw
        case rel => exact ⟨i + 1, by omega, by go_num, heqi.out, hb.drew⟩
        case measure => simp [intOf]; omega
      · have hzz : (z != y) = true := by simpa using hzy
        have hzz2 : (z == y) = false := by simpa using hzy
        clear heqi hzy
        have k0 : (0 : Int) ≤ (i : Int) := by omega
        have k1 : (i : Int) < (xs.length : Int) := by omega
        have kd : wr.drew.cell? ⟨w.heap.size, 1, none⟩ = some (.slice (some ⟨ba, oa, none⟩) xs.length cap) ∧ wr.drew.cell? ⟨ba, oa + i, none⟩ = some (.int .u32 z) ∧ wr.drew.cell? ⟨w.heap.size + 1, 1, none⟩ = some (.slice (some ⟨bb, ob, none⟩) xs.length cap') ∧ wr.drew.cell? ⟨bb, ob + i, none⟩ = some (.int .u32 y) := ⟨x1, ca, y1, cb⟩
        go_wp2_with fail
        go_region_held3 (fun w' => w'.cell? ⟨w.heap.size, 1, none⟩ = some (.slice (some ⟨ba, oa, none⟩) xs.length cap) ∧ w'.cell? ⟨ba, oa + i, none⟩ = some (.int .u32 z) ∧ w'.cell? ⟨w.heap.size + 1, 1, none⟩ = some (.slice (some ⟨bb, ob, none⟩) xs.length cap') ∧ w'.cell? ⟨bb, ob + i, none⟩ = some (.int .u32 y)) (with_reducible assumption) (fail)
        go_wp2
        go_ret
        exact ⟨rfl, bel_go hbV hb.drew⟩
    · exfalso
      obtain rfl : i = xs.length := by omega
      exact hne (List.ext_getElem hlen.symm (fun j h1 h2 => by
        have := heq j h1
        rw [List.getD_eq_getElem?_getD, List.getD_eq_getElem?_getD, List.getElem?_eq_getElem h1, List.getElem?_eq_getElem h2] at this
        exact this))
theorem same_no (n m : Bool) (a b : Option Addr) (cap cap' : Nat) (xs ys : List Int) (w : World) (hx : Sl .u32 w (.slice a xs.length cap) xs) (hy : Sl .u32 w (.slice b ys.length cap') ys) (hl : xs.length ≤ 1048576) (hne : ¬ (n = m ∧ xs = ys)) :
    Calls Tryd.prog 17 #[.agg #[.bool n, .slice a xs.length cap], .agg #[.bool m, .slice b ys.length cap']] w fun e w' => e = .returned (.bool false) ∧ Below w.heap.size w w' := by
  by_cases h : n = m ∧ xs.length = ys.length
  · obtain ⟨rfl, h2⟩ := h
    rw [← h2] at hy ⊢
    exact same_no2 n a b cap cap' xs ys w hx hy hl h2.symm (fun h => hne ⟨rfl, h⟩)
  · exact same_no1 n m a b xs.length ys.length cap cap' w (by
      by_cases hn : n = m
      · right; exact fun hh => h ⟨hn, hh⟩
      · exact .inl hn)
end Go.Proofs.YtmfpfkfohjkcgaaDoor
