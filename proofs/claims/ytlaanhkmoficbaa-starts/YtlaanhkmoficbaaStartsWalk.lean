/-
  The law Starts, of the program as it landed.
-/
import Derived.Test.YtlaanhkmoficbaaStartsSaid
import Derived.Test.YtlaanhkmoficbaaStartProg
namespace Go.Proofs.Ytlaanhkmoficbaa
open Go.RowKit

theorem starts_walk (i0 l0 j0 : Int) (a0 : Option Addr) (n0 c0 : Nat) (z0 : Nat → Int) (w : World) (_ : (Lit.int .i64 i0).wf = true ∧ (Lit.int .i64 l0).wf = true ∧ (Lit.int .i64 j0).wf = true) (f0 : n0 * 32 ≤ 140737488351232 ∧ n0 ≤ c0 ∧ (a0 = none → n0 = 0 ∧ c0 = 0)) (r0 : Row w a0 (n0 * 4) fun i => .int .i64 (z0 i)) :
    Calls Try.prog 3 #[startA i0 l0 j0 (.slice a0 n0 c0)] w fun e w' => e = .returned (.bool true) ∧ Below w.heap.size w w' :=
  starts_said may_sc new_sc i0 l0 j0 a0 n0 c0 z0 w f0 r0

end Go.Proofs.Ytlaanhkmoficbaa
