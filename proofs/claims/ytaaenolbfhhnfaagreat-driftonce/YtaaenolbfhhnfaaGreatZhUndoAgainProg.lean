/-
  The landed undo.Again; that the machine which it hands to Tell may be is a premise here.
-/
import Derived.Test.YtaaenolbfhhnfaaGreatZlaj
import Derived.Test.YtaaenolbfhhnfaaGreatZhUndoRef
namespace Go.Proofs.YtaaenolbfhhnfaaGreat
open Go.RowKit
set_option linter.unusedSimpArgs false
set_option linter.unusedVariables false
/-- What Again hands to Tell. -/
def againM (M : PMach) (k : Nat) : PMach := ((((looseP M k).doN k 3 0).doN k 4 0).doR k 0 0 0 0).doN k 11 (triesP M k)
end Go.Proofs.YtaaenolbfhhnfaaGreat
