/-
  The law ProgBack, of the program as it landed.
-/
import Derived.Test.YtkomapgmhipkaaaProgBackSaid
import Derived.Test.YtkomapgmhipkaaaProgProg
namespace Go.Proofs.Ytkomapgmhipkaaa
open Go.RowKit

theorem progBack_walk (a0 : Option Addr) (n0 c0 : Nat) (z0 : Nat → Int) (t1 : List UInt8) (w : World) (l0 : n0 * 32 ≤ 140737488351232) (_ : n0 ≤ c0) (_ : a0 = none → n0 = 0 ∧ c0 = 0) (r0 : Row w a0 (n0 * 4) fun i => .int .i64 (z0 i)) (_ : t1.length ≤ maxLen) :
    Calls Try.prog 4 #[.slice a0 n0 c0, textS t1] w fun e w' => e = .returned (.bool true) ∧ Below w.heap.size w w' :=
  progBack_said may_pc put_pc get_pc a0 n0 c0 z0 t1 w l0 r0

end Go.Proofs.Ytkomapgmhipkaaa
