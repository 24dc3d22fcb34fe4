/-
  Several texts in one: EA2, EB, EC, ED, NA.
-/
import Derived.Test.YtapjclcjojadaaaGreatDoorG18
import Derived.Test.YtapjclcjojadaaaGreatDoorG17
import Derived.Test.YtapjclcjojadaaaGreatDoorG09
import Derived.Deep.RegionHeld3
/-
  errors.As: closed facts on assertions and on the model's entries.
-/
namespace Go.Proofs.YtapjclcjojadaaaGreatDoor
set_option linter.unusedVariables false
set_option linter.unusedSimpArgs false
open Go.RowKit Go.Extern.Stop Go.Stop Go.Extern
namespace EA
theorem noAsN (v : Value) (x : TypeId) (w : World) : (Instr.typeAssert (.iface 176 v) x 233 true).run Tryz.prog w = .ok (.tuple #[.nilIface, .bool false]) w := run_typeAssert_lacksB Tryz.underlying233 (by kernel_rfl) (by kernel_rfl) v x w
theorem noAsQ (v : Value) (x : TypeId) (w : World) : (Instr.typeAssert (.iface 244 v) x 233 true).run Tryz.prog w = .ok (.tuple #[.nilIface, .bool false]) w := run_typeAssert_lacksB Tryz.underlying233 (by kernel_rfl) (by kernel_rfl) v x w
theorem unN (v : Value) (x : TypeId) (w : World) : (Instr.typeAssert (.iface 176 v) x 236 true).run Tryz.prog w = .ok (.tuple #[.iface 176 v, .bool true]) w := run_typeAssert_hasB Tryz.underlying236 (by kernel_rfl) v x w
theorem unQ1 (v : Value) (x : TypeId) (w : World) : (Instr.typeAssert (.iface 244 v) x 236 true).run Tryz.prog w = .ok (.tuple #[.nilIface, .bool false]) w := run_typeAssert_lacksB Tryz.underlying236 (by kernel_rfl) (by kernel_rfl) v x w
theorem unQ2 (v : Value) (x : TypeId) (w : World) : (Instr.typeAssert (.iface 244 v) x 238 true).run Tryz.prog w = .ok (.tuple #[.nilIface, .bool false]) w := run_typeAssert_lacksB Tryz.underlying238 (by kernel_rfl) (by kernel_rfl) v x w
theorem mUn (v : Value) (w : World) : (Go.method 377 176 v "Unwrap").run Tryz.prog w = .ok (244, v) w := by kernel_rfl
theorem h6_ext (args : Array Value) (w : World) : (callFunc 211 args).run Tryz.prog w = (((fun args => ReflectliteValue.unpack (args.getD 0 (.tuple #[]))) args).run Tryz.prog w).andThen fun v w' => .ok (.value v) w' := run_callFunc_extern (e := (fun args => ReflectliteValue.unpack (args.getD 0 (.tuple #[])))) Tryz.func211 (by kernel_rfl) (by kernel_rfl) (by kernel_rfl) (by kernel_rfl) args w
theorem h7_ext (args : Array Value) (w : World) : (callFunc 212 args).run Tryz.prog w = (((ReflectliteValue.methodAny (ReflectliteValue.valueError "reflectlite.Value.Type" 0) (fun t _ _ _ => ReflectliteType.toType t)) args).run Tryz.prog w).andThen fun v w' => .ok (.value v) w' := run_callFunc_extern (e := (ReflectliteValue.methodAny (ReflectliteValue.valueError "reflectlite.Value.Type" 0) (fun t _ _ _ => ReflectliteType.toType t))) Tryz.func212 (by kernel_rfl) (by kernel_rfl) (by kernel_rfl) (by kernel_rfl) args w
theorem h8_ext (args : Array Value) (w : World) : (callFunc 213 args).run Tryz.prog w = (((ReflectliteValue.method (ReflectliteValue.valueError "reflectlite.Value.IsNil" 0) ReflectliteValue.isNil) args).run Tryz.prog w).andThen fun v w' => .ok (.value v) w' := run_callFunc_extern (e := (ReflectliteValue.method (ReflectliteValue.valueError "reflectlite.Value.IsNil" 0) ReflectliteValue.isNil)) Tryz.func213 (by kernel_rfl) (by kernel_rfl) (by kernel_rfl) (by kernel_rfl) args w
theorem h27_ext (args : Array Value) (w : World) : (callFunc 240 args).run Tryz.prog w = (((ReflectliteType.abiMethod fun t => do pure (.int .u8 (← Rtype.kind t))) args).run Tryz.prog w).andThen fun v w' => .ok (.value v) w' := run_callFunc_extern (e := (ReflectliteType.abiMethod fun t => do pure (.int .u8 (← Rtype.kind t)))) Tryz.func240 (by kernel_rfl) (by kernel_rfl) (by kernel_rfl) (by kernel_rfl) args w
theorem h37_ext (args : Array Value) (w : World) : (callFunc 252 args).run Tryz.prog w = (((ReflectliteType.method ReflectliteType.elem) args).run Tryz.prog w).andThen fun v w' => .ok (.value v) w' := run_callFunc_extern (e := (ReflectliteType.method ReflectliteType.elem)) Tryz.func252 (by kernel_rfl) (by kernel_rfl) (by kernel_rfl) (by kernel_rfl) args w
theorem h38_ext (args : Array Value) (w : World) : (callFunc 253 args).run Tryz.prog w = (((ReflectliteType.relation "Implements" ReflectliteType.implements_) args).run Tryz.prog w).andThen fun v w' => .ok (.value v) w' := run_callFunc_extern (e := (ReflectliteType.relation "Implements" ReflectliteType.implements_)) Tryz.func253 (by kernel_rfl) (by kernel_rfl) (by kernel_rfl) (by kernel_rfl) args w
theorem h10_ext (args : Array Value) (w : World) : (callFunc 221 args).run Tryz.prog w = ((ReflectliteType.typeOf args).run Tryz.prog w).andThen fun v w' => .ok (.value v) w' := run_callFunc_extern (e := ReflectliteType.typeOf) Tryz.func221 (by kernel_rfl) (by kernel_rfl) (by kernel_rfl) (by kernel_rfl) args w
theorem h35_ext (args : Array Value) (w : World) : (callFunc 250 args).run Tryz.prog w = (((ReflectliteType.relation "AssignableTo" ReflectliteType.assignableTo) args).run Tryz.prog w).andThen fun v w' => .ok (.value v) w' := run_callFunc_extern (e := (ReflectliteType.relation "AssignableTo" ReflectliteType.assignableTo)) Tryz.func250 (by kernel_rfl) (by kernel_rfl) (by kernel_rfl) (by kernel_rfl) args w
theorem h11_ext (args : Array Value) (w : World) : (callFunc 222 args).run Tryz.prog w = (((ReflectliteValue.method (ReflectliteValue.valueError "reflectlite.Value.Elem" 0) ReflectliteValue.elem) args).run Tryz.prog w).andThen fun v w' => .ok (.value v) w' := run_callFunc_extern (e := (ReflectliteValue.method (ReflectliteValue.valueError "reflectlite.Value.Elem" 0) ReflectliteValue.elem)) Tryz.func222 (by kernel_rfl) (by kernel_rfl) (by kernel_rfl) (by kernel_rfl) args w
theorem h12_ext (args : Array Value) (w : World) : (callFunc 223 args).run Tryz.prog w = ((ReflectliteValue.set args).run Tryz.prog w).andThen fun v w' => .ok (.value v) w' := run_callFunc_extern (e := ReflectliteValue.set) Tryz.func223 (by kernel_rfl) (by kernel_rfl) (by kernel_rfl) (by kernel_rfl) args w
end EA
end Go.Proofs.YtapjclcjojadaaaGreatDoor
/-
  errors.As at a target of the program's type invalid: what it answers.
-/
namespace Go.Proofs.YtapjclcjojadaaaGreatDoor
set_option linter.unusedVariables false
set_option linter.unusedSimpArgs false
open Go.RowKit Go.Extern.Stop Go.Stop Go.Extern
namespace EA
theorem unwrap_any (T : TypeId) (u : Value) (w : World) :
    Calls Tryz.prog 244 #[.agg #[.iface T u]] w fun e w' => e = .returned (.iface T u) ∧ Below w.heap.size w w' := by
  go_enter Tryz.func244, Tryz.ntmps244
  go_wp2
  go_ret
  exact ⟨rfl, (by repeat (first | exact Below.refl _ _ | refine Below.drew ?_ | refine bel_dn ?_ _ | refine bel_al ?_ _ | refine Below.setCell ?_ (by first | omega | (simp; done) | (simp; omega)) _ | refine Below.alloc ?_ (by first | omega | (simp; done) | (simp; omega)) _))⟩
theorem five {w w' : World} (hg : w.cell? ⟨2, 0, none⟩ = some (.iface 228 (.agg #[.pointer (some ⟨5, 80, none⟩)]))) (hb : Below w.heap.size w w') : w'.cell? ⟨2, 0, none⟩ = some (.iface 228 (.agg #[.pointer (some ⟨5, 80, none⟩)])) :=
  (hb.cell (p := ⟨2, 0, none⟩) (World.block_lt_of_cell? w _ hg)).trans hg
set_option maxHeartbeats 4000000 in
set_option maxRecDepth 100000 in
theorem as_quiet (t : Addr) (u : Value) (w : World) (hg : w.cell? ⟨2, 0, none⟩ = some (.iface 228 (.agg #[.pointer (some ⟨5, 80, none⟩)]))) :
    Calls Tryz.prog 187 #[.iface 176 (.agg #[.iface 244 u]), .iface 193 (.pointer (some t))] w fun ev w' => ev = .returned (.bool false) ∧ Below w.heap.size w w' := by
  have h6 := h6_ext
  have h7 := h7_ext
  have h8 := h8_ext
  have h27 := h27_ext
  have h37 := h37_ext
  have h38 := h38_ext
  have h10 := h10_ext
  have h35 := h35_ext
  have f6 := valueOfP
  have f7 := typeP
  have mK := mKind
  have mE := mElem
  have mI := mImpl
  have mA := mAss
  have kP := kindP
  have kI := kindI
  have eP := elemP
  have iI := implI
  have tN := typeOfN
  have tQ := typeOfQ
  have aN := assN
  have aQ := assQ
  have nN := noAsN
  have nQ := noAsQ
  have uN := unN
  have q1 := unQ1
  have q2 := unQ2
  have mU := mUn
  have n8 := isNilP ⟨w.heap.size, 0, none⟩ t ((w.alloc (.cells #[.pointer (some t)] 193)).alloc (.cells #[.pointer (some ⟨5, 193, none⟩), .pointer (some ⟨w.heap.size, 0, none⟩), .int .u64 150] 214)) (by simp)
  have hg2 := five hg (w' := (w.alloc (.cells #[.pointer (some t)] 193)).alloc (.cells #[.pointer (some ⟨5, 193, none⟩), .pointer (some ⟨w.heap.size, 0, none⟩), .int .u64 150] 214)) (by repeat (first | exact Below.refl _ _ | refine Below.drew ?_ | refine bel_dn ?_ _ | refine bel_al ?_ _ | refine Below.setCell ?_ (by first | omega | (simp; done) | (simp; omega)) _ | refine Below.alloc ?_ (by first | omega | (simp; done) | (simp; omega)) _))
  go_enter Tryz.func187, Tryz.ntmps187
  go_wp2
  refine wp_loop_rounds 2 ?_
  rw [rounds_succ]
  go_wp2_with fail
  refine (unwrap_any _ u _).mono ?_
  rintro r w1 ⟨rfl, hb1⟩
  go_wp2_with fail
  rw [rounds_succ]
  go_wp2
  go_ret
  exact ⟨rfl, (by repeat (first | exact Below.refl _ _ | refine Below.drew ?_ | refine bel_dn ?_ _ | refine bel_al ?_ _ | refine bel_go ?_ hb1 | refine Below.setCell ?_ (by first | omega | (simp; done) | (simp; omega)) _ | refine Below.alloc ?_ (by first | omega | (simp; done) | (simp; omega)) _ | refine Below.trans ?_ (Below.mono hb1 (by first | omega | (simp; done) | (simp; omega)))))⟩
end EA
end Go.Proofs.YtapjclcjojadaaaGreatDoor
/-
  errors.As at a target of the program's type invalid: where it finds one; isInvalid.
-/
namespace Go.Proofs.YtapjclcjojadaaaGreatDoor
set_option linter.unusedVariables false
set_option linter.unusedSimpArgs false
open Go.RowKit Go.Extern.Stop Go.Stop Go.Extern
namespace EA
theorem rls (v x : Value) : ReflectliteValue.set #[v, x] = (do
    let (some (dst, a, fl), some (src, b, _)) := (← ReflectliteValue.parts v, ← ReflectliteValue.parts x)
      | unsupported (.noEntry "extern/(internal/reflectlite.Value).Set.zeroValue")
    if fl / ReflectliteValue.flagAddr % 2 == 0 then unsupported (.noEntry "extern/(internal/reflectlite.Value).Set.unaddressable")
    let val ← loadVar src b
    if ← Rtype.directlyAssignable dst src then storeVar dst a val
    else if ← Rtype.implements dst src then
      if (← Rtype.kind src) == 20 then
        match val with
        | .nilIface => unsupported (.noEntry "extern/reflectlite: a nil value of one interface type handed on as a value of another")
        | _ => storeVar dst a val
      else storeVar dst a (.iface src val)
    else panicString ("reflectlite.Set: value of type " ++ (← Rtype.spelt src) ++ " is not assignable to type " ++ (← Rtype.spelt dst))
    pure (.tuple #[])) := rfl
theorem setI (ta b : Addr) (s : ByteArray) (old : Value) (W : World) (hb : W.cell? b = some (.string s)) (ht : W.cell? ta = some old) (hf : W.frozen? ta = false) :
    (ReflectliteValue.set #[.agg #[.pointer (some ⟨5, 178, none⟩), .pointer (some ta), .int .u64 409], .agg #[.pointer (some ⟨5, 178, none⟩), .pointer (some b), .int .u64 153]]).run Tryz.prog W
      = .ok (.tuple #[]) (W.setCell ta (.string s)) := by
  rw [rls]
  simp only [Sem.run_bind, partsIa, partsI, Result.andThen]
  simp [ReflectliteValue.flagAddr, loadVar, isAgg, underlying, Tryz.underlying178, hb, Result.andThen, directI, storeVar, Value.cells, storeCells, Addr.add, sizeI]
  have hl : (loadCells b 1).run Tryz.prog W = .ok #[.string s] W := by
    simp [loadCells, loadCellsFrom, hb, Addr.add]
  rw [hl]
  simp [storeCells, Addr.add]
  rw [run_store Tryz.prog W ta _ _ (by rfl)]
  simp [ht, hf]
theorem cell_al {w : World} {p : Addr} {v : Value} (h : w.cell? p = some v) (o : Obj) : (w.alloc o).cell? p = some v := by
  have hlt := World.block_lt_of_cell? w p h
  rw [World.cell?_alloc_lt _ _ p hlt]; exact h
theorem cell_1 (w : World) (v : Value) (T : TypeId) : (w.alloc (.cells #[v] T)).cell? ⟨w.heap.size, 0, none⟩ = some v := by simp
theorem cell_3 (w : World) (a b c : Value) (T : TypeId) (n : Nat) (h : n = w.heap.size) : (w.alloc (.cells #[a, b, c] T)).cell? ⟨n, 0, none⟩ = some a ∧ (w.alloc (.cells #[a, b, c] T)).cell? ⟨n, 1, none⟩ = some b ∧ (w.alloc (.cells #[a, b, c] T)).cell? ⟨n, 2, none⟩ = some c := by
  subst h; exact ⟨by simp, by simp, by simp⟩
set_option maxHeartbeats 4000000 in
set_option maxRecDepth 100000 in
theorem as_bad (t : Addr) (s : ByteArray) (old : Value) (w : World) (hg : w.cell? ⟨2, 0, none⟩ = some (.iface 228 (.agg #[.pointer (some ⟨5, 80, none⟩)]))) (ht0 : w.cell? t = some old) (hf0 : w.frozen? t = false) :
    Calls Tryz.prog 187 #[.iface 176 (.agg #[.iface 178 (.agg #[.string s])]), .iface 193 (.pointer (some t))] w fun ev w' => ev = .returned (.bool true) ∧ Below t.block w w' := by
  have h6 := h6_ext
  have h7 := h7_ext
  have h8 := h8_ext
  have h27 := h27_ext
  have h37 := h37_ext
  have h38 := h38_ext
  have h10 := h10_ext
  have h35 := h35_ext
  have h11 := h11_ext
  have h12 := h12_ext
  have f6 := valueOfP
  have f7 := typeP
  have mK := mKind
  have mE := mElem
  have mI := mImpl
  have mA := mAss
  have kP := kindP
  have kI := kindI
  have eP := elemP
  have iI := implI
  have tN := typeOfN
  have tI := typeOfI
  have vI := valueOfI
  have aN := assN
  have aI := assI
  have nN := noAsN
  have uN := unN
  have mU := mUn
  have n8 := isNilP ⟨w.heap.size, 0, none⟩ t ((w.alloc (.cells #[.pointer (some t)] 193)).alloc (.cells #[.pointer (some ⟨5, 193, none⟩), .pointer (some ⟨w.heap.size, 0, none⟩), .int .u64 150] 214)) (by simp)
  have hg2 := five hg (w' := (w.alloc (.cells #[.pointer (some t)] 193)).alloc (.cells #[.pointer (some ⟨5, 193, none⟩), .pointer (some ⟨w.heap.size, 0, none⟩), .int .u64 150] 214)) (by repeat (first | exact Below.refl _ _ | refine Below.drew ?_ | refine bel_dn ?_ _ | refine bel_al ?_ _ | refine Below.setCell ?_ (by first | omega | (simp; done) | (simp; omega)) _ | refine Below.alloc ?_ (by first | omega | (simp; done) | (simp; omega)) _))
  have htl : t.block < w.heap.size := World.block_lt_of_cell? w t ht0
  go_enter Tryz.func187, Tryz.ntmps187
  go_wp2
  refine wp_loop_rounds 2 ?_
  rw [rounds_succ]
  go_wp2_with fail
  refine (unwrap_any _ _ _).mono ?_
  rintro r w1 ⟨rfl, hb1⟩
  have lw1 : w.heap.size + 2 < w1.heap.size := by have := hb1.size; simp at this; omega
  have c0 : w1.cell? ⟨w.heap.size, 0, none⟩ = some (.pointer (some t)) := (hb1.cell (p := ⟨w.heap.size, 0, none⟩) (by have := hb1.size; simp at this ⊢; omega)).trans (cell_al (cell_al (cell_1 w _ _) _) _)
  obtain ⟨j0, j1, j2⟩ := cell_3 ((w.alloc (.cells #[.pointer (some t)] 193)).alloc (.cells #[.pointer (some ⟨5, 193, none⟩), .pointer (some ⟨w.heap.size, 0, none⟩), .int .u64 150] 214)) (.pointer (some ⟨5, 193, none⟩)) (.pointer (some ⟨w.heap.size, 0, none⟩)) (.int .u64 150) 214 (w.heap.size + 1 + 1) (by simp)
  have jl : w.heap.size + 1 + 1 < (((w.alloc (.cells #[.pointer (some t)] 193)).alloc (.cells #[.pointer (some ⟨5, 193, none⟩), .pointer (some ⟨w.heap.size, 0, none⟩), .int .u64 150] 214)).alloc (.cells #[.pointer (some ⟨5, 193, none⟩), .pointer (some ⟨w.heap.size, 0, none⟩), .int .u64 150] 214)).heap.size := by simp
  have k0 := (hb1.cell (p := ⟨w.heap.size + 1 + 1, 0, none⟩) jl).trans j0
  have k1 := (hb1.cell (p := ⟨w.heap.size + 1 + 1, 1, none⟩) jl).trans j1
  have k2 := (hb1.cell (p := ⟨w.heap.size + 1 + 1, 2, none⟩) jl).trans j2
  clear j0 j1 j2 jl
  have el := elemV ⟨w.heap.size, 0, none⟩ t w1 c0
  have ht1 : w1.cell? t = some old := (hb1.cell (p := t) (by simp; omega)).trans (by rw [World.cell?_alloc_lt _ _ t (by simp; omega), World.cell?_alloc_lt _ _ t (by simp; omega), World.cell?_alloc_lt _ _ t htl]; exact ht0)
  have hf1 : w1.frozen? t = false := (hb1.frozen (p := t) (by simp; omega)).trans (by rw [World.frozen?_alloc_old _ _ t (by simp; omega), World.frozen?_alloc_old _ _ t (by simp; omega), World.frozen?_alloc_old _ _ t (Nat.ne_of_lt htl)]; exact hf0)
  have st := setI t ⟨w1.heap.size, 0, none⟩ s old (w1.alloc (.cells #[.string s] 178)) (by simp) (by rw [World.cell?_alloc_lt _ _ t (by omega)]; exact ht1) (by rw [World.frozen?_alloc_old _ _ t (by omega)]; exact hf1)
  have belw : Below t.block w w1 := (((Below.refl t.block w).alloc (by omega) _).alloc (by simp; omega) _).alloc (by simp; omega) _ |>.trans (hb1.mono (by simp; omega))
  go_wp2_with fail
  rw [rounds_succ]
  go_wp2
  go_ret
  exact ⟨rfl, Below.setCell (Below.alloc belw (by omega) _) (Nat.le_refl _) _⟩
end EA
end Go.Proofs.YtapjclcjojadaaaGreatDoor
/-
  isInvalid.
-/
namespace Go.Proofs.YtapjclcjojadaaaGreatDoor
set_option linter.unusedVariables false
set_option linter.unusedSimpArgs false
open Go.RowKit Go.Extern.Stop Go.Stop Go.Extern
namespace EA
abbrev ErrT (w : World) : Prop := w.cell? ⟨2, 0, none⟩ = some (.iface 228 (.agg #[.pointer (some ⟨5, 80, none⟩)]))
theorem inv_nil (w : World) (hg : ErrT w) :
    Calls Tryz.prog 152 #[.nilIface] w fun ev w' => ev = .returned (.bool false) ∧ Below w.heap.size w w' := by
  go_enter Tryz.func152, Tryz.ntmps152
  go_wp2
  go_ret
  exact ⟨rfl, (by repeat (first | exact Below.refl _ _ | refine Below.drew ?_ | refine bel_dn ?_ _ | refine bel_al ?_ _ | refine Below.setCell ?_ (by first | omega | (simp; done) | (simp; omega)) _ | refine Below.alloc ?_ (by first | omega | (simp; done) | (simp; omega)) _))⟩
set_option maxRecDepth 100000 in
theorem inv_quiet (u : Value) (w : World) (hg : ErrT w) :
    Calls Tryz.prog 152 #[.iface 176 (.agg #[.iface 244 u])] w fun ev w' => ev = .returned (.bool false) ∧ Below w.heap.size w w' := by
  have hlt := World.block_lt_of_cell? w _ hg
  go_enter Tryz.func152, Tryz.ntmps152
  go_wp2_with fail
  refine (as_quiet _ _ _ (cell_al hg _)).mono ?_
  rintro r w1 ⟨rfl, hb1⟩
  go_wp2
  go_ret
  exact ⟨rfl, (by repeat (first | exact Below.refl _ _ | refine Below.drew ?_ | refine bel_dn ?_ _ | refine bel_al ?_ _ | refine bel_go ?_ hb1 | refine Below.setCell ?_ (by first | omega | (simp; done) | (simp; omega)) _ | refine Below.alloc ?_ (by first | omega | (simp; done) | (simp; omega)) _ | refine Below.trans ?_ (Below.mono hb1 (by first | omega | (simp; done) | (simp; omega)))))⟩
set_option maxRecDepth 100000 in
theorem inv_bad (s : ByteArray) (w : World) (hg : ErrT w) :
    Calls Tryz.prog 152 #[.iface 176 (.agg #[.iface 178 (.agg #[.string s])])] w fun ev w' => ev = .returned (.bool true) ∧ Below w.heap.size w w' := by
  have hlt := World.block_lt_of_cell? w _ hg
  go_enter Tryz.func152, Tryz.ntmps152
  go_wp2_with fail
  refine (as_bad _ _ _ _ (cell_al hg _) (cell_1 w _ _) (by simp)).mono ?_
  rintro r w1 ⟨rfl, hb1⟩
  go_wp2
  go_ret
  exact ⟨rfl, ((Below.refl w.heap.size w).alloc (Nat.le_refl _) _).trans (hb1.mono (by simp))⟩
end EA
end Go.Proofs.YtapjclcjojadaaaGreatDoor
/-
  Numbers in memory, five cells; what a float is as a number, by the program.
-/
namespace Go.Proofs.YtapjclcjojadaaaGreatDoor
set_option linter.unusedVariables false
set_option linter.unusedSimpArgs false
open Go.RowKit Go.Deep
/-- A box of five cells that may be written. -/
structure Q5 (w : World) (b : Nat) (v0 v1 v2 v3 v4 : Value) : Prop where
  c0 : w.cell? ⟨b, 0, none⟩ = some v0
  c1 : w.cell? ⟨b, 1, none⟩ = some v1
  c2 : w.cell? ⟨b, 2, none⟩ = some v2
  c3 : w.cell? ⟨b, 3, none⟩ = some v3
  c4 : w.cell? ⟨b, 4, none⟩ = some v4
  f0 : w.frozen? ⟨b, 0, none⟩ = false
  f1 : w.frozen? ⟨b, 1, none⟩ = false
  f2 : w.frozen? ⟨b, 2, none⟩ = false
  f3 : w.frozen? ⟨b, 3, none⟩ = false
  f4 : w.frozen? ⟨b, 4, none⟩ = false
theorem Q5.lt {w : World} {b : Nat} {v0 v1 v2 v3 v4 : Value} (h : Q5 w b v0 v1 v2 v3 v4) : b < w.heap.size := World.block_lt_of_cell? w _ h.c0
theorem Q5.of_block {w w' : World} {b : Nat} {v0 v1 v2 v3 v4 : Value} (h : Q5 w b v0 v1 v2 v3 v4) (e : w'.heap[b]? = w.heap[b]?) : Q5 w' b v0 v1 v2 v3 v4 :=
  ⟨(World.cell?_of_block (a := ⟨b, 0, none⟩) e).trans h.c0, (World.cell?_of_block (a := ⟨b, 1, none⟩) e).trans h.c1, (World.cell?_of_block (a := ⟨b, 2, none⟩) e).trans h.c2, (World.cell?_of_block (a := ⟨b, 3, none⟩) e).trans h.c3, (World.cell?_of_block (a := ⟨b, 4, none⟩) e).trans h.c4, (World.frozen?_of_block (a := ⟨b, 0, none⟩) e).trans h.f0, (World.frozen?_of_block (a := ⟨b, 1, none⟩) e).trans h.f1, (World.frozen?_of_block (a := ⟨b, 2, none⟩) e).trans h.f2, (World.frozen?_of_block (a := ⟨b, 3, none⟩) e).trans h.f3, (World.frozen?_of_block (a := ⟨b, 4, none⟩) e).trans h.f4⟩
theorem Q5.below {w w' : World} {b : Nat} {v0 v1 v2 v3 v4 : Value} (h : Q5 w b v0 v1 v2 v3 v4) (hb : Below w.heap.size w w') : Q5 w' b v0 v1 v2 v3 v4 := h.of_block (hb.block b h.lt)
theorem Q5.new (w : World) (v0 v1 v2 v3 v4 : Value) (t : TypeId) : Q5 (w.alloc (.cells #[v0, v1, v2, v3, v4] t)) w.heap.size v0 v1 v2 v3 v4 := ⟨by simp, by simp, by simp, by simp, by simp, by simp, by simp, by simp, by simp, by simp⟩
theorem Q5.alloc {w : World} {b : Nat} {v0 v1 v2 v3 v4 : Value} (h : Q5 w b v0 v1 v2 v3 v4) (o : Obj) : Q5 (w.alloc o) b v0 v1 v2 v3 v4 := h.below ((Below.refl _ _).alloc (Nat.le_refl _) _)
theorem Q5.drew {w : World} {b : Nat} {v0 v1 v2 v3 v4 : Value} (h : Q5 w b v0 v1 v2 v3 v4) : Q5 w.drew b v0 v1 v2 v3 v4 := ⟨h.c0, h.c1, h.c2, h.c3, h.c4, h.f0, h.f1, h.f2, h.f3, h.f4⟩
theorem Q5.cs {w : World} {b : Nat} {v0 v1 v2 v3 v4 : Value} (h : Q5 w b v0 v1 v2 v3 v4) : w.cell? ⟨b, 0, none⟩ = some v0 ∧ w.cell? ⟨b, 1, none⟩ = some v1 ∧ w.cell? ⟨b, 2, none⟩ = some v2 ∧ w.cell? ⟨b, 3, none⟩ = some v3 ∧ w.cell? ⟨b, 4, none⟩ = some v4 := ⟨h.c0, h.c1, h.c2, h.c3, h.c4⟩
theorem heap5 (w : World) (B b : Nat) (h : b ≠ B) (u0 u1 u2 u3 u4 : Value) :
    (((((w.setCell ⟨B, 0, none⟩ u0).setCell ⟨B, 1, none⟩ u1).setCell ⟨B, 2, none⟩ u2).setCell ⟨B, 3, none⟩ u3).setCell ⟨B, 4, none⟩ u4).heap[b]? = w.heap[b]? := by
  rw [Below.heap_setCell _ _ _ _ h, Below.heap_setCell _ _ _ _ h, Below.heap_setCell _ _ _ _ h, Below.heap_setCell _ _ _ _ h, Below.heap_setCell _ _ _ _ h]
theorem keep5 {w : World} {B b : Nat} {v0 v1 v2 : Value} (h0 : w.cell? ⟨b, 0, none⟩ = some v0) (h1 : w.cell? ⟨b, 1, none⟩ = some v1) (h2 : w.cell? ⟨b, 2, none⟩ = some v2) (n : b ≠ B) (u0 u1 u2 u3 u4 : Value) (W : World)
    (hW : W = ((((w.setCell ⟨B, 0, none⟩ u0).setCell ⟨B, 1, none⟩ u1).setCell ⟨B, 2, none⟩ u2).setCell ⟨B, 3, none⟩ u3).setCell ⟨B, 4, none⟩ u4) :
    W.cell? ⟨b, 0, none⟩ = some v0 ∧ W.cell? ⟨b, 1, none⟩ = some v1 ∧ W.cell? ⟨b, 2, none⟩ = some v2 := by
  subst hW
  have e := heap5 w B b n u0 u1 u2 u3 u4
  exact ⟨(World.cell?_of_block (a := ⟨b, 0, none⟩) e).trans h0, (World.cell?_of_block (a := ⟨b, 1, none⟩) e).trans h1, (World.cell?_of_block (a := ⟨b, 2, none⟩) e).trans h2⟩
/-- The program's error for a quiet NaN lies in its cell. -/
abbrev ErrQ (w : World) (u : Value) : Prop := w.cell? ⟨0, 0, none⟩ = some (.iface 244 u)
set_option maxHeartbeats 4000000 in
set_option maxRecDepth 100000 in
theorem num_quiet (fm x : Int) (u : Value) (w : World) (hT : Tab w) (hq : ErrQ w u) (h0 : 0 ≤ x) (h1 : x < 18446744073709551616) (hc : cls fm x = 4) :
    Calls Tryz.prog 96 #[.int .i64 fm, .int .u64 x] w fun e w' => e = .returned (.tuple #[.agg #[.bool false, .bool false, .bool false, .slice none 0 0, .int .i64 0], .iface 176 (.agg #[.iface 244 u])]) ∧ Below w.heap.size w w' := by
  have C := hid (fun w' h => impl_cls fm x w' h h0 h1)
  rw [hc] at C
  clear hc
  have Q := Q5.new w (.bool false) (.bool false) (.bool false) (.slice none 0 0) (.int .i64 0) 78
  go_enter Tryz.func96, Tryz.ntmps96
  go_wp2_with fail
  refine (C.out _ (hT.below ((Below.refl _ _).alloc (Nat.le_refl _) _))).mono ?_
  rintro e w1 ⟨rfl, hb1⟩
  have hlt := World.block_lt_of_cell? w _ hq
  have hq1 : w1.cell? ⟨0, 0, none⟩ = some (.iface 244 u) := (hb1.cell (p := ⟨0, 0, none⟩) (by first | omega | (simp; done) | (simp; omega))).trans ((Below.cell ((Below.refl w.heap.size w).alloc (Nat.le_refl _) _) (p := ⟨0, 0, none⟩) hlt).trans hq)
  obtain ⟨r0, r1, r2, r3, r4, f0, f1, f2, f3, f4⟩ := Q.below hb1
  have hne : w.heap.size ≠ 0 := by omega
  clear Q hq
  go_wp2_with fail
  go_region
  all_goals go_wp2
  all_goals refine bodyPost_ret (v := .tuple #[.agg #[.bool false, .bool false, .bool false, .slice none 0 0, .int .i64 0], .iface 176 (.agg #[.iface 244 u])]) (by simp [results, Tryz.results96, go_sem, r0, r1, r2, r3, r4]) rfl ⟨rfl, ?_⟩
  all_goals exact (by repeat (first | (with_reducible refine Below.setCell ?_ ?_ _; rotate_left; focus (first | omega | (simp; done) | (simp; omega))) | (with_reducible exact Below.refl _ _) | (with_reducible refine Below.drew ?_) | (with_reducible refine bel_dn ?_ _) | (with_reducible refine bel_al ?_ _) | (with_reducible refine bel_go ?_ hb1) | (with_reducible refine Below.alloc ?_ ?_ _; rotate_left; focus (first | omega | (simp; done) | (simp; omega))) | (with_reducible refine Below.trans ?_ (Below.mono hb1 ?_); rotate_left; focus (first | omega | (simp; done) | (simp; omega)))))
set_option maxHeartbeats 4000000 in
set_option maxRecDepth 100000 in
theorem num_signal (fm x : Int) (w : World) (hT : Tab w) (h0 : 0 ≤ x) (h1 : x < 18446744073709551616) (hc : cls fm x = 5) :
    Calls Tryz.prog 96 #[.int .i64 fm, .int .u64 x] w fun e w' => ∃ s : ByteArray, e = .returned (.tuple #[.agg #[.bool false, .bool false, .bool false, .slice none 0 0, .int .i64 0], .iface 176 (.agg #[.iface 178 (.agg #[.string s])])]) ∧ Below w.heap.size w w' := by
  have C := hid (fun w' h => impl_cls fm x w' h h0 h1)
  rw [hc] at C
  clear hc
  have Q := Q5.new w (.bool false) (.bool false) (.bool false) (.slice none 0 0) (.int .i64 0) 78
  go_enter Tryz.func96, Tryz.ntmps96
  go_wp2_with fail
  refine (C.out _ (hT.below ((Below.refl _ _).alloc (Nat.le_refl _) _))).mono ?_
  rintro e w1 ⟨rfl, hb1⟩
  obtain ⟨r0, r1, r2, r3, r4, f0, f1, f2, f3, f4⟩ := Q.below hb1
  clear Q
  go_wp2
  refine bodyPost_ret (by simp [results, Tryz.results96, go_sem, r0, r1, r2, r3, r4]; rfl) rfl ⟨_, rfl, ?_⟩
  exact (by repeat (first | (with_reducible refine Below.setCell ?_ ?_ _; rotate_left; focus (first | omega | (simp; done) | (simp; omega))) | (with_reducible exact Below.refl _ _) | (with_reducible refine Below.drew ?_) | (with_reducible refine bel_dn ?_ _) | (with_reducible refine bel_al ?_ _) | (with_reducible refine bel_go ?_ hb1) | (with_reducible refine Below.alloc ?_ ?_ _; rotate_left; focus (first | omega | (simp; done) | (simp; omega))) | (with_reducible refine Below.trans ?_ (Below.mono hb1 ?_); rotate_left; focus (first | omega | (simp; done) | (simp; omega)))))
set_option maxHeartbeats 4000000 in
set_option maxRecDepth 100000 in
theorem num_inf (fm x : Int) (w : World) (hT : Tab w) (h0 : 0 ≤ x) (h1 : x < 18446744073709551616) (hc : cls fm x = 3) :
    Calls Tryz.prog 96 #[.int .i64 fm, .int .u64 x] w fun e w' => e = .returned (.tuple #[.agg #[.bool (sigB fm x), .bool true, .bool false, .slice none 0 0, .int .i64 0], .nilIface]) ∧ Below w.heap.size w w' := by
  have C := hid (fun w' h => impl_cls fm x w' h h0 h1)
  rw [hc] at C
  clear hc
  have CS := hid (fun w' h => impl_sig fm x w' h h0 h1)
  obtain ⟨sg, hsg⟩ : ∃ sg, sg = sigB fm x := ⟨_, rfl⟩
  rw [← hsg] at CS ⊢
  clear hsg
  have Q := Q5.new w (.bool false) (.bool false) (.bool false) (.slice none 0 0) (.int .i64 0) 78
  go_enter Tryz.func96, Tryz.ntmps96
  go_wp2_with fail
  have hT1 : Tab (w.alloc (.cells #[.bool false, .bool false, .bool false, .slice none 0 0, .int .i64 0] 78)) := hT.below ((Below.refl _ _).alloc (Nat.le_refl _) _)
  refine (C.out _ hT1).mono ?_
  rintro e w1 ⟨rfl, hb1⟩
  go_wp2_with fail
  refine (CS.out _ (hT1.below hb1)).mono ?_
  rintro e w2 ⟨rfl, hb2⟩
  obtain ⟨r0, r1, r2, r3, r4, f0, f1, f2, f3, f4⟩ := (Q.below hb1).below hb2
  clear Q
  go_wp2
  refine bodyPost_ret (v := .tuple #[.agg #[.bool sg, .bool true, .bool false, .slice none 0 0, .int .i64 0], .nilIface]) (by simp [results, Tryz.results96, go_sem, r0, r1, r2, r3, r4]) rfl ⟨rfl, ?_⟩
  exact (by repeat (first | (with_reducible refine Below.setCell ?_ ?_ _; rotate_left; focus (first | omega | (simp; done) | (simp; omega))) | (with_reducible exact Below.refl _ _) | (with_reducible refine Below.drew ?_) | (with_reducible refine bel_dn ?_ _) | (with_reducible refine bel_al ?_ _) | (with_reducible refine bel_go ?_ hb2) | (with_reducible refine bel_go ?_ hb1) | (with_reducible refine Below.alloc ?_ ?_ _; rotate_left; focus (first | omega | (simp; done) | (simp; omega))) | (with_reducible refine Below.trans ?_ (Below.mono hb2 ?_); rotate_left; focus (first | omega | (simp; done) | (simp; omega))) | (with_reducible refine Below.trans ?_ (Below.mono hb1 ?_); rotate_left; focus (first | omega | (simp; done) | (simp; omega)))))
set_option maxHeartbeats 4000000 in
set_option maxRecDepth 100000 in
theorem num_fin (fm x : Int) (w : World) (hT : Tab w) (h0 : 0 ≤ x) (h1 : x < 18446744073709551616) (hf : finB fm x = true) (G : Bool) (L : List Int) (E : Int) (hG : G = Nm.wn (if pS fm x then -pM fm x else pM fm x)) (hL : L = Nm.wl (if pS fm x then -pM fm x else pM fm x)) (hE : E = pE fm x) :
    Calls Tryz.prog 96 #[.int .i64 fm, .int .u64 x] w fun e w' => ∃ a' c', e = .returned (.tuple #[.agg #[.bool (pS fm x), .bool false, .bool G, .slice a' L.length c', .int .i64 E], .nilIface]) ∧ Own w' w.heap.size a' c' L ∧ Below w.heap.size w w' := by
  have hc : 0 ≤ cls fm x ∧ cls fm x ≤ 2 := by simpa [finB] using hf
  have C := hid (fun w' h => impl_cls fm x w' h h0 h1)
  have CP := hid (fun w' h => impl_parts fm x w' h h0 h1)
  have CG := hid (fun w' => signedM_z (pS fm x) (pM fm x) (pE fm x) w' (pM_bd fm x).1 (by have := (pM_bd fm x).2; omega))
  rw [← hG, ← hL] at CG
  rw [hf] at CP
  rw [← hE] at CP CG
  obtain ⟨sg, hsg⟩ : ∃ sg, sg = pS fm x := ⟨_, rfl⟩
  obtain ⟨m, hm⟩ : ∃ m, m = pM fm x := ⟨_, rfl⟩
  obtain ⟨c, hcc⟩ : ∃ c, c = cls fm x := ⟨_, rfl⟩
  rw [← hsg, ← hm] at CP CG
  rw [← hsg]
  rw [← hcc] at C hc
  clear hsg hm hcc hG hL hE hf
  have g3 : (c == 3) = false := by rw [beq_eq_false_iff_ne]; omega
  have g4 : (c == 4) = false := by rw [beq_eq_false_iff_ne]; omega
  have g5 : (c == 5) = false := by rw [beq_eq_false_iff_ne]; omega
  clear hc
  have Q := Q5.new w (.bool false) (.bool false) (.bool false) (.slice none 0 0) (.int .i64 0) 78
  go_enter Tryz.func96, Tryz.ntmps96
  go_wp2_with fail
  have hT1 : Tab (w.alloc (.cells #[.bool false, .bool false, .bool false, .slice none 0 0, .int .i64 0] 78)) := hT.below ((Below.refl _ _).alloc (Nat.le_refl _) _)
  refine (C.out _ hT1).mono ?_
  rintro e w1 ⟨rfl, hb1⟩
  go_wp2_with fail
  refine (CP.out _ (hT1.below hb1)).mono ?_
  rintro e w2 ⟨rfl, hb2⟩
  replace Q := ((Q.below hb1).below hb2).alloc (.cells #[.bool sg, .int .i64 m, .int .i64 E] 113)
  have bel2 : Below w.heap.size w w2 := (by repeat (first | exact Below.refl _ _ | refine Below.drew ?_ | refine bel_dn ?_ _ | refine bel_al ?_ _ | refine bel_go ?_ hb2 | refine bel_go ?_ hb1 | refine Below.setCell ?_ (by first | omega | (simp; done) | (simp; omega)) _ | refine Below.alloc ?_ (by first | omega | (simp; done) | (simp; omega)) _ | refine Below.trans ?_ (Below.mono hb2 (by first | omega | (simp; done) | (simp; omega))) | refine Below.trans ?_ (Below.mono hb1 (by first | omega | (simp; done) | (simp; omega)))))
  have R := R3.new w2 (.bool sg) (.int .i64 m) (.int .i64 E) 113
  have lw : w.heap.size < w2.heap.size := by have := hb1.size; have := hb2.size; simp at *; omega
  clear hb1 hb2 hT1
  have Rd := R3.dr R
  have rd0 := Rd.c0
  have rd1 := Rd.c1
  have rd2 := Rd.c2
  go_wp2_with fail
  go_region_held3 (fun w' => w'.cell? ⟨w2.heap.size, 0, none⟩ = some (.bool sg) ∧ w'.cell? ⟨w2.heap.size, 1, none⟩ = some (.int .i64 m) ∧ w'.cell? ⟨w2.heap.size, 2, none⟩ = some (.int .i64 E))
    (first | with_reducible assumption | with_reducible exact ⟨rd0, rd1, rd2⟩ | with_reducible exact keep5 k0 k1 k2 (by omega) _ _ _ _ _ _ rfl | fail)
    (first
      | (go_at_call 164; refine (CG.out _).mono ?_; rintro e q1 ⟨a1, k1', rfl, hp1, hq1⟩; have R1 := R3.below Rd hq1; have k0 := R1.c0; have k1 := R1.c1; have k2 := R1.c2; have f1 := And.intro k0 (And.intro k1 k2); obtain ⟨r0, r1, r2, r3, r4, g0, g1, g2, g3', g4'⟩ := Q.drew.below hq1))
  have hp2 : Own q1 (w2.heap.size + 1) a1 k1' L := by simpa using hp1
  go_wp2
  refine bodyPost_ret (v := .tuple #[.agg #[.bool sg, .bool false, .bool G, .slice a1 L.length k1', .int .i64 E], .nilIface]) (by simp [results, Tryz.results96, go_sem, r0, r1, r2, r3, r4]) rfl ⟨a1, k1', rfl, ?_, ?_⟩
  · refine Own.base (B := w2.heap.size + 1) ?_ (by omega)
    repeat (first | with_reducible exact hp2 | (with_reducible refine Own.setBelow ?_ ?_ _; rotate_left; (simp; try omega)))
  · exact (by repeat (first | (with_reducible refine Below.setCell ?_ ?_ _; rotate_left; focus (first | omega | (simp; done) | (simp; omega))) | (with_reducible exact Below.refl _ _) | (with_reducible refine Below.drew ?_) | (with_reducible refine bel_dn ?_ _) | (with_reducible refine bel_al ?_ _) | (with_reducible refine bel_go ?_ hq1) | (with_reducible refine bel_go ?_ bel2) | (with_reducible refine Below.alloc ?_ ?_ _; rotate_left; focus (first | omega | (simp; done) | (simp; omega))) | (with_reducible refine Below.trans ?_ (Below.mono hq1 ?_); rotate_left; focus (first | omega | (simp; done) | (simp; omega))) | (with_reducible refine Below.trans ?_ (Below.mono bel2 ?_); rotate_left; focus (first | omega | (simp; done) | (simp; omega)))))
end Go.Proofs.YtapjclcjojadaaaGreatDoor
