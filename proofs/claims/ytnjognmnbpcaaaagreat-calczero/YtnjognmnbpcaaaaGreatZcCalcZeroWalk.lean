/-
  The law CalcZero, of the program as it landed.
-/
import Derived.Test.YtnjognmnbpcaaaaGreatZcCalcZeroSaid
namespace Go.Proofs.YtnjognmnbpcaaaaGreat
open Go.RowKit
set_option linter.unusedVariables false
theorem calcZero_walk (a0 : Int) (a1 : Int) (a2 : Int) (w : World) (w0 : (Lit.int .i64 a0).wf = true) (w1 : (Lit.int .i64 a1).wf = true) (w2 : (Lit.int .i64 a2).wf = true) :
    Calls Tryz.prog 5 #[.int .i64 a0, .int .i64 a1, .int .i64 a2] w fun e w' => e = .returned (.bool true) ∧ Below w.heap.size w w' :=
  calcZero_any a0 a1 a2 w 
end Go.Proofs.YtnjognmnbpcaaaaGreat
