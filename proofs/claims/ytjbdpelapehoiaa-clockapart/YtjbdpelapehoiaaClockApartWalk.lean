/-
  The law ClockApart, of the program as it landed.
-/
import Derived.Test.YtjbdpelapehoiaaClockApartSaid
import Derived.Test.YtjbdpelapehoiaaClockProg
namespace Go.Proofs.Ytjbdpelapehoiaa
open Go.RowKit

theorem clockApart_walk (a0 : Option Addr) (n0 c0 : Nat) (z0 : Nat → Int) (a1 : Int) (w : World) (l0 : n0 * 8 ≤ 140737488351232) (_ : a0 = none → n0 = 0 ∧ c0 = 0) (r0 : Row w a0 n0 fun i => .int .i64 (z0 i)) (_ : (Lit.int .i64 a1).wf = true) :
    Calls Try.prog 4 #[.slice a0 n0 c0, .int .i64 a1] w fun e w' => e = .returned (.bool true) ∧ Below w.heap.size w w' :=
  clockApart_said next_c a0 n0 c0 z0 a1 w l0 r0

end Go.Proofs.Ytjbdpelapehoiaa
