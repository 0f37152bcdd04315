/-
  The law ReadsetFirst, of the program as it landed.
-/
import Derived.Test.YtleemagdidffpaaReadsetFirstSaid
import Derived.Test.YtleemagdidffpaaWithProg
import Derived.Test.YtleemagdidffpaaGoodProg2
namespace Go.Proofs.Ytleemagdidffpaa
open Go.RowKit

theorem readsetFirst_walk (a0 : Option Addr) (n0 c0 : Nat) (z0 : Nat → Int) (w : World) (l0 : n0 * 8 ≤ 140737488351232) (_ : a0 = none → n0 = 0 ∧ c0 = 0) (r0 : Row w a0 n0 fun i => .int .i64 (z0 i)) :
    Calls Try.prog 6 #[.slice a0 n0 c0] w fun e w' => e = .returned (.bool true) ∧ Below w.heap.size w w' :=
  readsetFirst_said may_rc with_rc good_rc chg_rc a0 n0 c0 z0 w l0 r0

end Go.Proofs.Ytleemagdidffpaa
