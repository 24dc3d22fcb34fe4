/-
  The law laws.FnExactWideShifted.
-/
import Derived.Test.YtlifpkdmcpjhpaaLSh
namespace Go.Proofs.Ytlifpkdmcpjhpaa
set_option linter.unusedVariables false
set_option linter.unusedSimpArgs false
open Go.RowKit Go.Deep
theorem law_WideShifted (ng : Bool) (a : Option Addr) (cap : Nat) (zs : List Int) (n : Int) (w : World) (hs : Sl .u32 w (.slice a zs.length cap) zs) (hz : Nm.Dg zs) :
    Calls Try.prog 15 #[.agg #[.bool ng, .slice a zs.length cap], .int .i64 n] w fun e w' => e = .returned (.bool true) ∧ Below w.heap.size w w' :=
  LWideShifted.law ng a cap zs n w hs hz (opN (okB ng zs && inZ n (-10000) 10000) (Nm.shV ng (Nm.val zs) n)) (opL (okB ng zs && inZ n (-10000) 10000) (Nm.shV ng (Nm.val zs) n)) (opO (okB ng zs && inZ n (-10000) 10000) (Nm.shV ng (Nm.val zs) n)) (op_200 _ _).1 (op_200 _ _).2
    (fun hl w a cap h => wsh_spec ng a cap zs n w h hz hl) (fun hl w a cap h => wsh_impl ng a cap zs n w h hz hl)
end Go.Proofs.Ytlifpkdmcpjhpaa
