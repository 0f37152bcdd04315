/-
  The law ReadsetTurned, of the program as it landed.
-/
import Derived.Test.YtleemagdidffpaaReadsetTurnedSaid
import Derived.Test.YtleemagdidffpaaWithProg
import Derived.Test.YtleemagdidffpaaGoodProg2
namespace Go.Proofs.Ytleemagdidffpaa
open Go.RowKit

theorem readsetTurned_walk (a0 : Option Addr) (n0 c0 : Nat) (z0 : Nat → Int) (a1 : Int) (a2 : Int) (a3 : Bool) (w : World) (l0 : n0 * 8 ≤ 140737488351232) (_ : a0 = none → n0 = 0 ∧ c0 = 0) (r0 : Row w a0 n0 fun i => .int .i64 (z0 i)) (_ : (Lit.int .i64 a1).wf = true) (_ : (Lit.int .i64 a2).wf = true) :
    Calls Try.prog 7 #[.slice a0 n0 c0, .int .i64 a1, .int .i64 a2, .bool a3] w fun e w' => e = .returned (.bool true) ∧ Below w.heap.size w w' :=
  readsetTurned_said may_rc with_rc good_rc chg_rc a0 n0 c0 z0 a1 a2 a3 w l0 r0

end Go.Proofs.Ytleemagdidffpaa
