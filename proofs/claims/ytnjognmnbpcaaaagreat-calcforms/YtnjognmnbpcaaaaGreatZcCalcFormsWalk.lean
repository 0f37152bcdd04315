/-
  The law CalcForms, of the program as it landed.
-/
import Derived.Test.YtnjognmnbpcaaaaGreatZcCalcFormsSaid
namespace Go.Proofs.YtnjognmnbpcaaaaGreat
open Go.RowKit
set_option linter.unusedVariables false
theorem calcForms_walk (a0 : Int) (a1 : Int) (w : World) (w0 : (Lit.int .i64 a0).wf = true) (w1 : (Lit.int .i64 a1).wf = true) :
    Calls Tryz.prog 6 #[.int .i64 a0, .int .i64 a1] w fun e w' => e = .returned (.bool true) ∧ Below w.heap.size w w' :=
  calcForms_any a0 a1 w 
end Go.Proofs.YtnjognmnbpcaaaaGreat
