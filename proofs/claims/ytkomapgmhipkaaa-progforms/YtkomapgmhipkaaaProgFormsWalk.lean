/-
  The law ProgForms, of the program as it landed.
-/
import Derived.Test.YtkomapgmhipkaaaProgFormsSaid
import Derived.Test.YtkomapgmhipkaaaProgProg
namespace Go.Proofs.Ytkomapgmhipkaaa
open Go.RowKit

theorem progForms_walk (a0 a1 : Int) (w : World) (_ : (Lit.int .i64 a0).wf = true) (_ : (Lit.int .i64 a1).wf = true) :
    Calls Try.prog 5 #[.int .i64 a0, .int .i64 a1] w fun e w' => e = .returned (.bool true) ∧ Below w.heap.size w w' :=
  progForms_said may_pc put_pc get_pc a0 a1 w

end Go.Proofs.Ytkomapgmhipkaaa
