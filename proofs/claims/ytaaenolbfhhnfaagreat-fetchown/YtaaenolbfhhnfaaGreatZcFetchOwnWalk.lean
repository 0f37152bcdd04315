/-
  The law FetchOwn, of the program as it landed.
-/
import Derived.Test.YtaaenolbfhhnfaaGreatZcFetchOwnSaid
namespace Go.Proofs.YtaaenolbfhhnfaaGreat
open Go.RowKit
set_option linter.unusedVariables false
theorem fetchOwn_walk (a0 : Int) (a1 : Bool) (w : World) (w0 : (Lit.int .i64 a0).wf = true) :
    Calls Tryz.prog 10 #[.int .i64 a0, .bool a1] w fun e w' => e = .returned (.bool true) ∧ Below w.heap.size w w' :=
  fetchOwn_any a0 a1 w 
end Go.Proofs.YtaaenolbfhhnfaaGreat
