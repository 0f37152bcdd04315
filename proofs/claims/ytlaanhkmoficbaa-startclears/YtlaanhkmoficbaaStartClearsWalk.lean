/-
  The law StartClears, of the program as it landed.
-/
import Derived.Test.YtlaanhkmoficbaaStartClearsSaid
import Derived.Test.YtlaanhkmoficbaaStartProg
namespace Go.Proofs.Ytlaanhkmoficbaa
open Go.RowKit

theorem startClears_walk (a0 : Int) (w : World) (_ : (Lit.int .i64 a0).wf = true) :
    Calls Try.prog 5 #[.int .i64 a0] w fun e w' => e = .returned (.bool true) ∧ Below w.heap.size w w' :=
  startClears_said may_sc new_sc a0 w

end Go.Proofs.Ytlaanhkmoficbaa
