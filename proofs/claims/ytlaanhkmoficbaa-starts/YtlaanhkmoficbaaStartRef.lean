/-
  The document's session as it begins.
-/
import Derived.Test.YtlaanhkmoficbaaStartRef2
import Derived.Test.YtlaanhkmoficbaaStartRef3
namespace Go.Proofs.Ytlaanhkmoficbaa
open Go.RowKit

theorem rnewSession_any (id l cl : Int) (a : Option Addr) (n c : Nat) (z : Nat → Int) (w : World) (hn : n * 32 ≤ 140737488351232) (ha : a = none → n = 0 ∧ c = 0) (h : Row w a (n * 4) fun k => .int .i64 (z k)) :
    Calls Try.prog 9 #[startA id l cl (.slice a n c)] w (NewSPost id l cl n z w) := by
  cases hm : startMay id l cl n z
  · exact rnew_no id l cl a n c z w hm hn ha h
  · cases hsa : a with
    | none => subst hsa; exact rnew_none id l cl none n c z w rfl hm hn ha h
    | some ad => subst hsa; exact rnew_some id l cl (some ad) n c z w ad rfl hm hn ha h

end Go.Proofs.Ytlaanhkmoficbaa
