/-
  The law ReadsetParts, of the program as it landed.
-/
import Derived.Test.YtleemagdidffpaaReadsetPartsSaid
import Derived.Test.YtleemagdidffpaaWithProg
import Derived.Test.YtleemagdidffpaaGoodProg2
namespace Go.Proofs.Ytleemagdidffpaa
open Go.RowKit

theorem readsetParts_walk (s0 : Nat → Sl) (z0 : Nat → Nat → Int) (a1 : Option Addr) (n1 c1 : Nat) (z1 : Nat → Int) (a2 : Int) (a3 : Int) (w : World) (f0 : Fit s0) (r0 : Arn w s0 z0) (l1 : n1 * 24 ≤ 140737488351232) (g1 : n1 ≤ c1) (_ : a1 = none → n1 = 0 ∧ c1 = 0) (r1 : Row w a1 (n1 * 3) fun i => .int .i64 (z1 i)) (_ : (Lit.int .i64 a2).wf = true) (_ : (Lit.int .i64 a3).wf = true) :
    Calls Try.prog 8 #[arenaA s0, .slice a1 n1 c1, .int .i64 a2, .int .i64 a3] w fun e w' => e = .returned (.bool true) ∧ Below w.heap.size w w' :=
  readsetParts_said may_rc with_rc good_rc chg_rc s0 z0 a1 n1 c1 z1 a2 a3 w f0 r0 l1 g1 r1

end Go.Proofs.Ytleemagdidffpaa
