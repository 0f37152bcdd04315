/-
  The law CalcRow, of the program as it landed.
-/
import Derived.Test.YtnjognmnbpcaaaaGreatZcCalcRowSaid
namespace Go.Proofs.YtnjognmnbpcaaaaGreat
open Go.RowKit
set_option linter.unusedVariables false
theorem calcRow_walk (a0 : Option Addr) (n0 c0 : Nat) (z0 : Nat → Int) (w : World) (l0 : n0 * 8 ≤ 140737488351232) (e0 : a0 = none → n0 = 0 ∧ c0 = 0) (r0 : Row w a0 n0 fun i => .int .i64 (z0 i)) :
    Calls Tryz.prog 7 #[.slice a0 n0 c0] w fun e w' => e = .returned (.bool true) ∧ Below w.heap.size w w' :=
  calcRow_any a0 n0 c0 z0 w l0 r0
end Go.Proofs.YtnjognmnbpcaaaaGreat
