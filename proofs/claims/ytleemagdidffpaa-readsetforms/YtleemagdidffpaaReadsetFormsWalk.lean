/-
  The law ReadsetForms, of the program as it landed.
-/
import Derived.Test.YtleemagdidffpaaReadsetFormsSaid
import Derived.Test.YtleemagdidffpaaWithProg
import Derived.Test.YtleemagdidffpaaGoodProg2
namespace Go.Proofs.Ytleemagdidffpaa
open Go.RowKit

theorem readsetForms_walk (a0 : Int) (a1 : Int) (w : World) (_ : (Lit.int .i64 a0).wf = true) (_ : (Lit.int .i64 a1).wf = true) :
    Calls Try.prog 5 #[.int .i64 a0, .int .i64 a1] w fun e w' => e = .returned (.bool true) ∧ Below w.heap.size w w' :=
  readsetForms_said may_rc with_rc good_rc chg_rc a0 a1 w

end Go.Proofs.Ytleemagdidffpaa
