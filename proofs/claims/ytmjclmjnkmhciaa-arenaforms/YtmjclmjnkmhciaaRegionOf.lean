/-
  A region of a function's code, by its number: for a statement that is walked in a theorem of its own.
-/
import Derived.Test.YtmjclmjnkmhciaaRows
import Derived.WalkKit
namespace Go.Proofs.Ytmjclmjnkmhciaa

/-- The region of that number. -/
def regionOf (n : Nat) : Code → Option Code
  | .region id ops d => if id == n then some (.region id ops d) else none
  | .seq a b => match regionOf n a with
    | some c => some c
    | none => regionOf n b
  | .block _ c => regionOf n c
  | .scope c => regionOf n c
  | .loop c => regionOf n c
  | .cond _ a b => match regionOf n a with
    | some c => some c
    | none => regionOf n b
  | _ => none

end Go.Proofs.Ytmjclmjnkmhciaa
