/-
  The law InstBack, of the program as it landed.
-/
import Derived.Test.YtdcmhpgcmdehmaaInstBackSaid
import Derived.Test.YtdcmhpgcmdehmaaInstProg
namespace Go.Proofs.Ytdcmhpgcmdehmaa
open Go.RowKit

theorem instBack_walk (c0 : Nat → Int) (t1 : List UInt8) (w : World) (_ : ∀ i, i < 4 → (Lit.int .i64 (c0 i)).wf = true) (_ : t1.length ≤ maxLen) :
    Calls Try.prog 5 #[quadA c0, textS t1] w fun e w' => e = .returned (.bool true) ∧ Below w.heap.size w w' :=
  instBack_said may_ic put_ic get_ic c0 t1 w

end Go.Proofs.Ytdcmhpgcmdehmaa
