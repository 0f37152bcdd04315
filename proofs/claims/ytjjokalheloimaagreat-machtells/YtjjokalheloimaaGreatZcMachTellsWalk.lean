/-
  The law MachTells, of the program as it landed.
-/
import Derived.Test.YtjjokalheloimaaGreatZcMachTellsSaid
namespace Go.Proofs.YtjjokalheloimaaGreat
open Go.RowKit
set_option linter.unusedVariables false
theorem machTells_walk (A0 : MacM) (M0 : PMach) (a1 : Int) (a2 : Int) (a3 : Int) (a4 : Bool) (w : World) (f0 : MachIs w A0 M0) (w1 : (Lit.int .i64 a1).wf = true) (w2 : (Lit.int .i64 a2).wf = true) (w3 : (Lit.int .i64 a3).wf = true) :
    Calls Tryz.prog 6 #[machA A0 M0, .int .i64 a1, .int .i64 a2, .int .i64 a3, .bool a4] w fun e w' => e = .returned (.bool true) ∧ Below w.heap.size w w' :=
  machTells_any A0 M0 a1 a2 a3 a4 w f0
end Go.Proofs.YtjjokalheloimaaGreat
