/-
  The law ArenaOne, of the program as it landed.
-/
import Derived.Test.YtmjclmjnkmhciaaArenaOneSaid
import Derived.Test.YtmjclmjnkmhciaaArenaProg
namespace Go.Proofs.Ytmjclmjnkmhciaa
open Go.RowKit

theorem arenaOne_walk (s0 : Nat → Sl) (z0 : Nat → Nat → Int) (a1 : Int) (a2 : Int) (a3_0 a3_1 a3_2 : Int) (a4 : Int) (a5 : Int) (w : World) (f0 : Fit s0) (r0 : Arn w s0 z0) (_ : (Lit.int .i64 a1).wf = true) (_ : (Lit.int .i64 a2).wf = true) (_ : (Lit.int .i64 a3_0).wf = true) (_ : (Lit.int .i64 a3_1).wf = true) (_ : (Lit.int .i64 a3_2).wf = true) (_ : (Lit.int .i64 a4).wf = true) (_ : (Lit.int .i64 a5).wf = true) :
    Calls Try.prog 4 #[arenaA s0, .int .i64 a1, .int .i64 a2, .agg #[.int .i64 a3_0, .int .i64 a3_1, .int .i64 a3_2], .int .i64 a4, .int .i64 a5] w fun e w' => e = .returned (.bool true) ∧ Below w.heap.size w w' :=
  arenaOne_said new_c may_c get_c put_c s0 z0 a1 a2 a3_0 a3_1 a3_2 a4 a5 w f0 r0

end Go.Proofs.Ytmjclmjnkmhciaa
