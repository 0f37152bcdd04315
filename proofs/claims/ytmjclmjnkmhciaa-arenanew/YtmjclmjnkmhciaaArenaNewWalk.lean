/-
  The law ArenaNew, of the program as it landed.
-/
import Derived.Test.YtmjclmjnkmhciaaArenaNewSaid
import Derived.Test.YtmjclmjnkmhciaaArenaProg
namespace Go.Proofs.Ytmjclmjnkmhciaa
open Go.RowKit

theorem arenaNew_walk (s0 : Nat → Sl) (z0 : Nat → Nat → Int) (w : World) (f0 : VFit s0) (r0 : Vals w s0 z0) :
    Calls Try.prog 6 #[arenaA s0] w fun e w' => e = .returned (.bool true) ∧ Below w.heap.size w w' :=
  arenaNew_said new_c may_c get_c put_c s0 z0 w f0 r0

end Go.Proofs.Ytmjclmjnkmhciaa
