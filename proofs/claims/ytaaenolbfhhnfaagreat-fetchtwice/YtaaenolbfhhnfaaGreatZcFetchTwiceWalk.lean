/-
  The law FetchTwice, of the program as it landed.
-/
import Derived.Test.YtaaenolbfhhnfaaGreatZcFetchTwiceSaid
namespace Go.Proofs.YtaaenolbfhhnfaaGreat
open Go.RowKit
set_option linter.unusedVariables false
theorem fetchTwice_walk (a0 : Int) (w : World) (w0 : (Lit.int .i64 a0).wf = true) :
    Calls Tryz.prog 13 #[.int .i64 a0] w fun e w' => e = .returned (.bool true) ∧ Below w.heap.size w w' :=
  fetchTwice_any a0 w 
end Go.Proofs.YtaaenolbfhhnfaaGreat
