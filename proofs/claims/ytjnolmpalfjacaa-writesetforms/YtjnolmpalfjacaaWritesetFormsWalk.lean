/-
  The law WritesetForms, of the program as it landed.
-/
import Derived.Test.YtjnolmpalfjacaaWritesetFormsSaid
import Derived.Test.YtjnolmpalfjacaaWithWProg
namespace Go.Proofs.Ytjnolmpalfjacaa
open Go.RowKit

theorem writesetForms_walk (a0 : Int) (a1 : Int) (w : World) (_ : (Lit.int .i64 a0).wf = true) (_ : (Lit.int .i64 a1).wf = true) :
    Calls Try.prog 5 #[.int .i64 a0, .int .i64 a1] w fun e w' => e = .returned (.bool true) ∧ Below w.heap.size w w' :=
  writesetForms_said may_wc with_wc find_wc at_wc a0 a1 w

end Go.Proofs.Ytjnolmpalfjacaa
