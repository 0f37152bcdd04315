/-
  The law ArenaForms, of the program as it landed.
-/
import Derived.Test.YtmjclmjnkmhciaaArenaFormsSaid
import Derived.Test.YtmjclmjnkmhciaaArenaProg
namespace Go.Proofs.Ytmjclmjnkmhciaa
open Go.RowKit

theorem arenaForms_walk (a0 : Int) (a1 : Int) (w : World) (_ : (Lit.int .i64 a0).wf = true) (_ : (Lit.int .i64 a1).wf = true) :
    Calls Try.prog 5 #[.int .i64 a0, .int .i64 a1] w fun e w' => e = .returned (.bool true) ∧ Below w.heap.size w w' :=
  arenaForms_said new_c may_c get_c put_c a0 a1 w

end Go.Proofs.Ytmjclmjnkmhciaa
