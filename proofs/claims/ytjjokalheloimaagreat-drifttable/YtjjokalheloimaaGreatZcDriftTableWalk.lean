/-
  The law DriftTable, of the program as it landed.
-/
import Derived.Test.YtjjokalheloimaaGreatZcDriftTableSaid
namespace Go.Proofs.YtjjokalheloimaaGreat
open Go.RowKit
set_option linter.unusedVariables false
theorem driftTable_walk (a0 : Int) (w : World) (w0 : (Lit.int .i64 a0).wf = true) :
    Calls Tryz.prog 17 #[.int .i64 a0] w fun e w' => e = .returned (.bool true) ∧ Below w.heap.size w w' :=
  driftTable_any a0 w 
end Go.Proofs.YtjjokalheloimaaGreat
