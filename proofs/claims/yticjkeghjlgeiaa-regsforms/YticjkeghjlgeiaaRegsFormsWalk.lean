/-
  The law RegsForms, of the program as it landed.
-/
import Derived.Test.YticjkeghjlgeiaaRegsFormsSaid
import Derived.Test.YticjkeghjlgeiaaRegsProg
namespace Go.Proofs.Yticjkeghjlgeiaa
open Go.RowKit

theorem regsForms_walk (a0 a1 : Int) (w : World) (_ : (Lit.int .i64 a0).wf = true) (_ : (Lit.int .i64 a1).wf = true) :
    Calls Try.prog 4 #[.int .i64 a0, .int .i64 a1] w fun e w' => e = .returned (.bool true) ∧ Below w.heap.size w w' :=
  regsForms_said set_c add_c a0 a1 w

end Go.Proofs.Yticjkeghjlgeiaa
