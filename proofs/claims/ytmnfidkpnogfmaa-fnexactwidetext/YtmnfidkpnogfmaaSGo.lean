/-
  Bytes of a call's own, and a wide's hexadecimal digits.
-/
import Derived.Test.YtmnfidkpnogfmaaK01
import Derived.Test.YtmnfidkpnogfmaaZMem
import Derived.Test.YtmnfidkpnogfmaaK03
import Derived.Test.YtmnfidkpnogfmaaK05
import Derived.Test.YtmnfidkpnogfmaaK06
import Derived.Test.YtmnfidkpnogfmaaK10
import Derived.Laws.BytesArg
import Derived.Laws.BitsAllLaws
namespace Go.Proofs.Ytmnfidkpnogfmaa
set_option linter.unusedVariables false
set_option linter.unusedSimpArgs false
open Go.RowKit Go.Deep
def O1 (w : World) (B : Nat) (a : Option Addr) (cap : Nat) (zs : List Int) : Prop := w.ownsRow B 5 1 (.slice a zs.length cap) zs.length (zs.map (Value.int .u8))
theorem O1.sl {w : World} {B : Nat} {a : Option Addr} {cap : Nat} {zs : List Int} (h : O1 w B a cap zs) : Sl .u8 w (.slice a zs.length cap) zs := Sl.of_own h
theorem O1.block {w : World} {B : Nat} {a : Option Addr} {cap : Nat} {zs : List Int} (h : O1 w B a cap zs) : (a = none ∧ cap = 0 ∧ zs = []) ∨ ∃ g, a = some ⟨g, 0, none⟩ ∧ B ≤ g ∧ g < w.heap.size := by
  rcases h.2 with ⟨h1, h2⟩ | ⟨g, cap', cur, h1, h2, h3, _⟩
  · simp at h1; exact .inl ⟨h1.1, h1.2.2, h1.2.1⟩
  · simp at h1; exact .inr ⟨g, h1.1, h2, (Array.getElem?_eq_some_iff.1 h3).1⟩
theorem O1.below {w w' : World} {B : Nat} {a : Option Addr} {cap : Nat} {zs : List Int} (h : O1 w B a cap zs) (hb : Below w.heap.size w w') : O1 w' B a cap zs := by
  refine ⟨h.1, ?_⟩
  rcases h.2 with h2 | ⟨g, cap', cur, h1, h2, h3, h4⟩
  · exact .inl h2
  · exact .inr ⟨g, cap', cur, h1, h2, by rw [hb.block g (Array.getElem?_eq_some_iff.1 h3).1]; exact h3, h4⟩
theorem O1.kept {w w' : World} {B : Nat} {a : Option Addr} {cap : Nat} {zs : List Int} {row : Option Nat} (h : O1 w B a cap zs) (hg : w.grownBy w' row) (hne : ∀ g, a = some ⟨g, 0, none⟩ → row ≠ some g) : O1 w' B a cap zs := by
  refine World.ownsRow.kept h hg ?_
  rcases h.block with ⟨rfl, _⟩ | ⟨g, rfl, _⟩
  · exact .inl rfl
  · exact .inr (fun e => hne g rfl (by rw [← e]; rfl))

theorem O1.base {w : World} {B B' : Nat} {a : Option Addr} {cap : Nat} {zs : List Int} (h : O1 w B a cap zs) (hB : B' ≤ B) : O1 w B' a cap zs := own_base h hB
theorem O1.alloc {w : World} {B : Nat} {a : Option Addr} {cap : Nat} {zs : List Int} (h : O1 w B a cap zs) (o : Obj) : O1 (w.alloc o) B a cap zs := World.ownsRow.alloc h o
theorem O1.drew {w : World} {B : Nat} {a : Option Addr} {cap : Nat} {zs : List Int} (h : O1 w B a cap zs) : O1 w.drew B a cap zs := h
theorem O1.setBelow {w : World} {B : Nat} {a : Option Addr} {cap : Nat} {zs : List Int} (h : O1 w B a cap zs) {p : Addr} (hp : p.block < B) (u : Value) : O1 (w.setCell p u) B a cap zs := ownsRow_setCell_below h hp u
theorem O1.setOther {w : World} {B : Nat} {a : Option Addr} {cap : Nat} {zs : List Int} (h : O1 w B a cap zs) {p : Addr} (hp : ∀ g, a = some ⟨g, 0, none⟩ → g ≠ p.block) (u : Value) : O1 (w.setCell p u) B a cap zs := by
  refine ⟨h.1, ?_⟩
  rcases h.2 with h2 | ⟨g, cap', cur, h1, h2, h3, h4⟩
  · exact .inl h2
  · refine .inr ⟨g, cap', cur, h1, h2, ?_, h4⟩
    rw [Below.heap_setCell w p u g (hp g (by simpa using (Value.slice.inj h1).1))]; exact h3
theorem O1.of_row {w : World} {base b : Nat} {zs : List Int} {f : Nat → Value} (h : w.rowIs b 5 zs.length f) (hf : ∀ i, i < zs.length → f i = .int .u8 (zs.getD i 0)) (hb : base ≤ b) (hm : zs.length ≤ maxLen) :
    O1 w base (some ⟨b, 0, none⟩) zs.length zs := by
  obtain ⟨c, h1, h2, h3⟩ := h
  refine ⟨by simp, .inr ⟨b, zs.length, c, rfl, hb, h1, Nat.le_refl _, hm, by simpa using h2, ?_⟩⟩
  apply List.ext_getElem?
  intro i
  by_cases hi : i < zs.length
  · have := h3 i hi
    rw [hf i hi] at this
    simp [hi, this, List.getD_eq_getElem?_getD]
  · simp [hi]; omega

theorem info8 : (Try.prog.info? 5).map (fun i => (i.zero, i.size, i.bytes)) = some (some (.int .u8 0), 1, 1) := by kernel_rfl
theorem o1_nil (w : World) (B : Nat) : O1 w B none 0 [] := ⟨by simp, .inl ⟨by simp, by simp⟩⟩
theorem o1_buf {w : World} {B : Nat} (hB : B ≤ w.heap.size) : O1 (w.alloc (.cells #[] 5)) B (some ⟨w.heap.size, 0, none⟩) 0 [] := by
  have h := World.ownsRow_made (base := B) (e := 5) (size := 1) w #[] 0 (by omega) (by decide) (by rfl)
  simpa [O1] using h
theorem new1 (w : World) (d : Int) : ∀ j u, ([Value.int .u8 d] : List Value)[j]? = some u → (w.alloc (.cells #[.int .u8 d] 5)).cell? ((⟨w.heap.size, 0, none⟩ : Addr).add j) = some u := by
  intro j u hj
  cases j with
  | zero => simp at hj; subst hj; simp [Addr.add]
  | succ j => simp at hj
theorem one1 (d : Int) : ∀ u ∈ ([Value.int .u8 d] : List Value), u.oneCell' = true := by
  intro u hu; simp at hu; subst hu; rfl
theorem o1_more {w : World} {B g cap : Nat} {os : List Int} {d : Int} (h : w.ownsRow B 5 1 (.slice (some ⟨g, 0, none⟩) (os.length + 1) cap) (os.length + 1) (os.map (Value.int .u8) ++ [.int .u8 d])) : O1 w B (some ⟨g, 0, none⟩) cap (os ++ [d]) := by
  unfold O1; simpa using h
theorem bel_o1 {w w0 w1 w2 : World} {B cap : Nat} {a : Option Addr} {os : List Int} (h : Below w.heap.size w w1) (ho : O1 w0 B a cap os) (hB : w.heap.size ≤ B) (hg : w1.grownBy w2 (Value.slice a os.length cap).ownBlock) : Below w.heap.size w w2 :=
  ⟨hg.os.trans h.os, hg.tape.trans h.tape, hg.output.trans h.output, Nat.le_trans h.size hg.size, fun i hi => (hg.block i (Nat.lt_of_lt_of_le hi h.size) (by
    intro e
    rcases ho.block with ⟨rfl, _⟩ | ⟨g, rfl, hge, _⟩
    · cases e
    · have h' : i = g := Option.some.inj e; omega)).trans (h.block i hi)⟩
theorem box_o1 {w1 w2 w0 : World} {B b cap : Nat} {a : Option Addr} {os : List Int} {v0 v1 : Value} (h : Box w1 b v0 v1) (ho : O1 w0 B a cap os) (hB : b < B) (hg : w1.grownBy w2 (Value.slice a os.length cap).ownBlock) : Box w2 b v0 v1 :=
  h.grown hg (fun g e => by
    rcases ho.block with ⟨rfl, _⟩ | ⟨g', rfl, hge, _⟩
    · cases e
    · have h' : g' = g := Option.some.inj e; omega)
/-- A hexadecimal digit's byte. -/
def hx (d : Int) : Int := (((ByteArray.mk #[48, 49, 50, 51, 52, 53, 54, 55, 56, 57, 97, 98, 99, 100, 101, 102])[d.toNat]?.getD 0).toNat : Int)
def dgt (zs : List Int) (j : Nat) : Int := hx (bits .and .u32 (zs.getD (j / 8) 0 / 2 ^ (4 * (j % 8))) 15)
def rdig (zs : List Int) : Nat → List Int
  | 0 => []
  | k + 1 => dgt zs k :: rdig zs k
theorem rdig_len (zs : List Int) (k : Nat) : (rdig zs k).length = k := by
  induction k with
  | zero => rfl
  | succ k ih => simp [rdig, ih]
theorem and15 (x : Int) (h0 : 0 ≤ x) (h1 : x < 4294967296) : 0 ≤ bits .and .u32 x 15 ∧ bits .and .u32 x 15 < 16 := by
  rw [u32_and x 15 h0 h1 (by decide) (by decide)]
  have h : (x.toNat &&& (15 : Int).toNat) ≤ (15 : Int).toNat := Nat.and_le_right
  have e : (15 : Int).toNat = 15 := rfl
  omega
theorem hx_ix {P : Program} (t : TypeId) (h : P.underlying t = some .string) (d : Int) (h0 : 0 ≤ d ∧ d < 16) (w : World) :
    (Instr.index t (.string { data := #[48, 49, 50, 51, 52, 53, 54, 55, 56, 57, 97, 98, 99, 100, 101, 102] }) (.int .u32 d)).run P w = .ok (.int .u8 (hx d)) w := by
  rw [run_index_string w t _ _ _ h, dif_pos (by simpa [ByteArray.size] using h0)]
  unfold hx
  congr 2
  have hl : d.toNat < (ByteArray.mk #[48, 49, 50, 51, 52, 53, 54, 55, 56, 57, 97, 98, 99, 100, 101, 102]).size := by simp [ByteArray.size]; omega
  rw [ByteArray.getElem?_lt' _ _ hl]; rfl
/-- The text of a wide that is not zero. -/
def txt (ng : Bool) (ds : List Int) : ByteArray := strOfNums ((if ng then [45] else []) ++ ds)
theorem txt_neg (ds : List Int) : (ByteArray.mk #[45]) ++ strOfNums ds = txt true ds := by
  unfold txt strOfNums
  apply ByteArray.ext
  simp
end Go.Proofs.Ytmnfidkpnogfmaa
