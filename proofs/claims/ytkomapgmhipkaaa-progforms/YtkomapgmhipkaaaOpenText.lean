/-
  What came in, opened: a text. Nothing of a program here.
-/
import Derived.Test.YtkomapgmhipkaaaOpen
import Derived.Test.YtkomapgmhipkaaaInstPure
import Derived.ChangeMaps5
namespace Go.Proofs.Ytkomapgmhipkaaa
open Go.ChangeShapes Go.WideShapes

section
variable {H : Type} {enc : TypeId × Value → H} {P : Program} {w : World} {base : Nat} {spare : Nat → Bool} {held : Bool}

theorem open_text {r : Reach} {b0 : Nat} {t : TypeId} {v : Value} {d : DataW H} {p : List MemPlace} (ht : P.underlying t = some .string) (hv : Value.okWide P w r b0 t v) (h : DataW.Trod enc P w base spare held t v d p) :
    ∃ l : List UInt8, v = textS l ∧ l.length ≤ maxLen := by
  obtain ⟨s, rfl, _, _, hs⟩ := Go.ChangeMaps.open_string ht hv h
  refine ⟨s.data.toList, ?_, hs⟩
  unfold textS
  rw [Array.toArray_toList]

end
end Go.Proofs.Ytkomapgmhipkaaa
