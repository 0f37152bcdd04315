/-
  The law StartForms, of the program as it landed.
-/
import Derived.Test.YtlaanhkmoficbaaStartFormsSaid
import Derived.Test.YtlaanhkmoficbaaStartProg
namespace Go.Proofs.Ytlaanhkmoficbaa
open Go.RowKit

theorem startForms_walk (a0 : Int) (a1 : Int) (w : World) (_ : (Lit.int .i64 a0).wf = true) (_ : (Lit.int .i64 a1).wf = true) :
    Calls Try.prog 4 #[.int .i64 a0, .int .i64 a1] w fun e w' => e = .returned (.bool true) ∧ Below w.heap.size w w' :=
  startForms_said may_sc new_sc a0 a1 w

end Go.Proofs.Ytlaanhkmoficbaa
