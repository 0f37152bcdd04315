/-
  The law UndoTwice, of the program as it landed.
-/
import Derived.Test.YtjjokalheloimaaGreatZcUndoTwiceSaid
namespace Go.Proofs.YtjjokalheloimaaGreat
open Go.RowKit
set_option linter.unusedVariables false
theorem undoTwice_walk (A0 : MacM) (M0 : PMach) (a1 : Int) (a2 : Int) (a3 : Int) (w : World) (f0 : MachIs w A0 M0) (w1 : (Lit.int .i64 a1).wf = true) (w2 : (Lit.int .i64 a2).wf = true) (w3 : (Lit.int .i64 a3).wf = true) :
    Calls Tryz.prog 14 #[machA A0 M0, .int .i64 a1, .int .i64 a2, .int .i64 a3] w fun e w' => e = .returned (.bool true) ∧ Below w.heap.size w w' :=
  undoTwice_any A0 M0 a1 a2 a3 w f0
end Go.Proofs.YtjjokalheloimaaGreat
