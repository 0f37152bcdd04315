/-
  The law WritesetRows, of the program as it landed.
-/
import Derived.Test.YtjnolmpalfjacaaWritesetRowsSaid
import Derived.Test.YtjnolmpalfjacaaWithWProg
namespace Go.Proofs.Ytjnolmpalfjacaa
open Go.RowKit

theorem writesetRows_walk (a0 : Option Addr) (n0 c0 : Nat) (z0 : Nat → Int) (a1 : Int) (a2 : Int) (w : World) (l0 : n0 * 24 ≤ 140737488351232) (g0 : n0 ≤ c0) (e0 : a0 = none → n0 = 0 ∧ c0 = 0) (r0 : Row w a0 (n0 * 3) fun i => .int .i64 (z0 i)) (_ : (Lit.int .i64 a1).wf = true) (_ : (Lit.int .i64 a2).wf = true) :
    Calls Try.prog 7 #[.slice a0 n0 c0, .int .i64 a1, .int .i64 a2] w fun e w' => e = .returned (.bool true) ∧ Below w.heap.size w w' :=
  writesetRows_said may_wc with_wc find_wc at_wc a0 n0 c0 z0 a1 a2 w l0 g0 e0 r0

end Go.Proofs.Ytjnolmpalfjacaa
