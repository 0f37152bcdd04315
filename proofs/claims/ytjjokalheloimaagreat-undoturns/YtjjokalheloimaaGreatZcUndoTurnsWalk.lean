/-
  The law UndoTurns, of the program as it landed.
-/
import Derived.Test.YtjjokalheloimaaGreatZcUndoTurnsSaid
namespace Go.Proofs.YtjjokalheloimaaGreat
open Go.RowKit
set_option linter.unusedVariables false
theorem undoTurns_walk (A0 : MacM) (M0 : PMach) (a1 : Int) (a2 : Bool) (w : World) (f0 : MachIs w A0 M0) (w1 : (Lit.int .i64 a1).wf = true) :
    Calls Tryz.prog 10 #[machA A0 M0, .int .i64 a1, .bool a2] w fun e w' => e = .returned (.bool true) ∧ Below w.heap.size w w' :=
  undoTurns_any A0 M0 a1 a2 w f0
end Go.Proofs.YtjjokalheloimaaGreat
