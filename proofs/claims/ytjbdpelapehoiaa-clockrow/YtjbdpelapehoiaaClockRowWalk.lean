/-
  The law ClockRow, of the program as it landed.
-/
import Derived.Test.YtjbdpelapehoiaaClockRowSaid
import Derived.Test.YtjbdpelapehoiaaClockProg
namespace Go.Proofs.Ytjbdpelapehoiaa
open Go.RowKit

theorem clockRow_walk (a0 a1 : Int) (w : World) (_ : (Lit.int .i64 a0).wf = true) (_ : (Lit.int .i64 a1).wf = true) :
    Calls Try.prog 6 #[.int .i64 a0, .int .i64 a1] w fun e w' => e = .returned (.bool true) ∧ Below w.heap.size w w' :=
  clockRow_said next_c a0 a1 w

end Go.Proofs.Ytjbdpelapehoiaa
