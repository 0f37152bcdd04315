/-
  The law Regs, of the program as it landed.
-/
import Derived.Test.YticjkeghjlgeiaaRegsSaid
import Derived.Test.YticjkeghjlgeiaaRegsProg
namespace Go.Proofs.Yticjkeghjlgeiaa
open Go.RowKit

theorem regs_walk (c0 : Nat → Int) (a1 a2 : Int) (w : World) (_ : ∀ i, i < 4 → (Lit.int .i64 (c0 i)).wf = true) (_ : (Lit.int .i64 a1).wf = true) (_ : (Lit.int .i64 a2).wf = true) :
    Calls Try.prog 3 #[quadA c0, .int .i64 a1, .int .i64 a2] w fun e w' => e = .returned (.bool true) ∧ Below w.heap.size w w' :=
  regs_said set_c add_c c0 a1 a2 w

end Go.Proofs.Yticjkeghjlgeiaa
