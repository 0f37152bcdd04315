/-
  May, as the document's chapters ask it: from 0 to 3.
-/
import Derived.Test.YtlaanhkmoficbaaLabelAnys
import Derived.Test.YtlaanhkmoficbaaWordPure
namespace Go.Proofs.Ytlaanhkmoficbaa
open Go.RowKit

theorem mayV_up (l : Int) : mayV l = upToV l 3 := decide_eq_decide.2 (by omega)

end Go.Proofs.Ytlaanhkmoficbaa
