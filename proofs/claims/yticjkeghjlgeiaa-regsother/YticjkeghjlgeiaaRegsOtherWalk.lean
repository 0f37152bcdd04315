/-
  The law RegsOther, of the program as it landed.
-/
import Derived.Test.YticjkeghjlgeiaaRegsOtherSaid
import Derived.Test.YticjkeghjlgeiaaRegsProg
namespace Go.Proofs.Yticjkeghjlgeiaa
open Go.RowKit

theorem regsOther_walk (c0 : Nat → Int) (a1 a2 a3 : Int) (w : World) (_ : ∀ i, i < 4 → (Lit.int .i64 (c0 i)).wf = true) (_ : (Lit.int .i64 a1).wf = true) (_ : (Lit.int .i64 a2).wf = true) (_ : (Lit.int .i64 a3).wf = true) :
    Calls Try.prog 6 #[quadA c0, .int .i64 a1, .int .i64 a2, .int .i64 a3] w fun e w' => e = .returned (.bool true) ∧ Below w.heap.size w w' :=
  regsOther_said set_c add_c c0 a1 a2 a3 w

end Go.Proofs.Yticjkeghjlgeiaa
