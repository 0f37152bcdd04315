/-
  The law Writesets, of the program as it landed.
-/
import Derived.Test.YtjnolmpalfjacaaWritesetsSaid
import Derived.Test.YtjnolmpalfjacaaWithWProg
namespace Go.Proofs.Ytjnolmpalfjacaa
open Go.RowKit

theorem writesets_walk (a0 : Option Addr) (n0 c0 : Nat) (z0 : Nat → Int) (a1_0 a1_1 a1_2 : Int) (a2 : Int) (a3 : Int) (w : World) (l0 : n0 * 24 ≤ 140737488351232) (g0 : n0 ≤ c0) (e0 : a0 = none → n0 = 0 ∧ c0 = 0) (r0 : Row w a0 (n0 * 3) fun i => .int .i64 (z0 i)) (_ : (Lit.int .i64 a1_0).wf = true) (_ : (Lit.int .i64 a1_1).wf = true) (_ : (Lit.int .i64 a1_2).wf = true) (_ : (Lit.int .i64 a2).wf = true) (_ : (Lit.int .i64 a3).wf = true) :
    Calls Try.prog 3 #[.slice a0 n0 c0, .agg #[.int .i64 a1_0, .int .i64 a1_1, .int .i64 a1_2], .int .i64 a2, .int .i64 a3] w fun e w' => e = .returned (.bool true) ∧ Below w.heap.size w w' :=
  writesets_said may_wc with_wc find_wc at_wc a0 n0 c0 z0 a1_0 a1_1 a1_2 a2 a3 w l0 g0 e0 r0

end Go.Proofs.Ytjnolmpalfjacaa
