/-
  The law Insts, of the program as it landed.
-/
import Derived.Test.YtdcmhpgcmdehmaaInstsSaid
import Derived.Test.YtdcmhpgcmdehmaaInstProg
namespace Go.Proofs.Ytdcmhpgcmdehmaa
open Go.RowKit

theorem insts_walk (c0 c1 : Nat → Int) (t2 : List UInt8) (w : World) (_ : ∀ i, i < 4 → (Lit.int .i64 (c0 i)).wf = true) (_ : ∀ i, i < 4 → (Lit.int .i64 (c1 i)).wf = true) (_ : t2.length ≤ maxLen) :
    Calls Try.prog 3 #[quadA c0, quadA c1, textS t2] w fun e w' => e = .returned (.bool true) ∧ Below w.heap.size w w' :=
  insts_said may_ic put_ic get_ic c0 c1 t2 w

end Go.Proofs.Ytdcmhpgcmdehmaa
