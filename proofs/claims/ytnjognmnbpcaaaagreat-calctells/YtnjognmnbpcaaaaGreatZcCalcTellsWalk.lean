/-
  The law CalcTells, of the program as it landed.
-/
import Derived.Test.YtnjognmnbpcaaaaGreatZcCalcTellsSaid
namespace Go.Proofs.YtnjognmnbpcaaaaGreat
open Go.RowKit
set_option linter.unusedVariables false
theorem calcTells_walk (A0 : MacM) (M0 : PMach) (a1 : Int) (w : World) (f0 : MachIs w A0 M0) (w1 : (Lit.int .i64 a1).wf = true) :
    Calls Tryz.prog 4 #[machA A0 M0, .int .i64 a1] w fun e w' => e = .returned (.bool true) ∧ Below w.heap.size w w' :=
  calcTells_any A0 M0 a1 w f0
end Go.Proofs.YtnjognmnbpcaaaaGreat
