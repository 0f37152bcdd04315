/-
  The law MachNew, of the program as it landed.
-/
import Derived.Test.YtjjokalheloimaaGreatZcMachNewSaid
namespace Go.Proofs.YtjjokalheloimaaGreat
open Go.RowKit
set_option linter.unusedVariables false
theorem machNew_walk (B0 : ScrM) (S0 : PScript) (w : World) (f0 : ScrIs w B0 S0) :
    Calls Tryz.prog 8 #[scrA B0 S0] w fun e w' => e = .returned (.bool true) ∧ Below w.heap.size w w' :=
  machNewLaw_any B0 S0 w f0
end Go.Proofs.YtjjokalheloimaaGreat
