/-
  The law InstForms, of the program as it landed.
-/
import Derived.Test.YtdcmhpgcmdehmaaInstFormsSaid
import Derived.Test.YtdcmhpgcmdehmaaInstProg
namespace Go.Proofs.Ytdcmhpgcmdehmaa
open Go.RowKit

theorem instForms_walk (a0 a1 : Int) (w : World) (_ : (Lit.int .i64 a0).wf = true) (_ : (Lit.int .i64 a1).wf = true) :
    Calls Try.prog 4 #[.int .i64 a0, .int .i64 a1] w fun e w' => e = .returned (.bool true) ∧ Below w.heap.size w w' :=
  instForms_said may_ic put_ic get_ic a0 a1 w

end Go.Proofs.Ytdcmhpgcmdehmaa
