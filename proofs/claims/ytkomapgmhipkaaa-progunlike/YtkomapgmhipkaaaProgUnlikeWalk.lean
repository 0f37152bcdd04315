/-
  The law ProgUnlike, of the program as it landed.
-/
import Derived.Test.YtkomapgmhipkaaaProgUnlikeSaid
import Derived.Test.YtkomapgmhipkaaaProgProg
namespace Go.Proofs.Ytkomapgmhipkaaa
open Go.RowKit

theorem progUnlike_walk (a0 : Option Addr) (n0 c0 : Nat) (z0 : Nat → Int) (c1 : Nat → Int) (a2 : Int) (w : World) (l0 : n0 * 32 ≤ 140737488351232) (g0 : n0 ≤ c0) (e0 : a0 = none → n0 = 0 ∧ c0 = 0) (r0 : Row w a0 (n0 * 4) fun i => .int .i64 (z0 i)) (_ : ∀ i, i < 4 → (Lit.int .i64 (c1 i)).wf = true) (_ : (Lit.int .i64 a2).wf = true) :
    Calls Try.prog 6 #[.slice a0 n0 c0, quadA c1, .int .i64 a2] w fun e w' => e = .returned (.bool true) ∧ Below w.heap.size w w' :=
  progUnlike_said may_pc put_pc get_pc a0 n0 c0 z0 c1 a2 w l0 g0 e0 r0

end Go.Proofs.Ytkomapgmhipkaaa
