/-
  The law ClockForms, of the program as it landed.
-/
import Derived.Test.YtjbdpelapehoiaaClockFormsSaid
import Derived.Test.YtjbdpelapehoiaaClockProg
namespace Go.Proofs.Ytjbdpelapehoiaa
open Go.RowKit

theorem clockForms_walk (a0 a1 : Int) (w : World) (_ : (Lit.int .i64 a0).wf = true) (_ : (Lit.int .i64 a1).wf = true) :
    Calls Try.prog 5 #[.int .i64 a0, .int .i64 a1] w fun e w' => e = .returned (.bool true) ∧ Below w.heap.size w w' :=
  clockForms_said next_c a0 a1 w

end Go.Proofs.Ytjbdpelapehoiaa
