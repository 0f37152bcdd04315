/-
  A slice, as a walk meets it.
-/
import Derived.WalkKit
namespace Go.Proofs.Ytmjclmjnkmhciaa

/-- A slice. -/
structure Sl where
  a : Option Addr
  n : Nat
  c : Nat

end Go.Proofs.Ytmjclmjnkmhciaa
