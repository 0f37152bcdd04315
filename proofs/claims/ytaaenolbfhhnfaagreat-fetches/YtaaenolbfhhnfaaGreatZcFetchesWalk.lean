/-
  The law Fetches, of the program as it landed.
-/
import Derived.Test.YtaaenolbfhhnfaaGreatZcFetchesSaid
namespace Go.Proofs.YtaaenolbfhhnfaaGreat
open Go.RowKit
set_option linter.unusedVariables false
theorem fetches_walk (A0 : MacM) (M0 : PMach) (a1 : Int) (w : World) (f0 : MachIs w A0 M0) (w1 : (Lit.int .i64 a1).wf = true) :
    Calls Tryz.prog 8 #[machA A0 M0, .int .i64 a1] w fun e w' => e = .returned (.bool true) ∧ Below w.heap.size w w' :=
  fetches_any A0 M0 a1 w f0
end Go.Proofs.YtaaenolbfhhnfaaGreat
