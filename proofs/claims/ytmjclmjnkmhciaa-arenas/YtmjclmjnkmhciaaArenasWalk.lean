/-
  The law Arenas, of the program as it landed.
-/
import Derived.Test.YtmjclmjnkmhciaaArenasSaid
import Derived.Test.YtmjclmjnkmhciaaArenaProg
namespace Go.Proofs.Ytmjclmjnkmhciaa
open Go.RowKit

theorem arenas_walk (s0 : Nat → Sl) (z0 : Nat → Nat → Int) (s1 : Nat → Sl) (z1 : Nat → Nat → Int) (a2 : Int) (a3 : Int) (a4_0 a4_1 a4_2 : Int) (w : World) (f0 : Fit s0) (r0 : Arn w s0 z0) (f1 : VFit s1) (r1 : Vals w s1 z1) (_ : (Lit.int .i64 a2).wf = true) (_ : (Lit.int .i64 a3).wf = true) (_ : (Lit.int .i64 a4_0).wf = true) (_ : (Lit.int .i64 a4_1).wf = true) (_ : (Lit.int .i64 a4_2).wf = true) :
    Calls Try.prog 3 #[arenaA s0, arenaA s1, .int .i64 a2, .int .i64 a3, .agg #[.int .i64 a4_0, .int .i64 a4_1, .int .i64 a4_2]] w fun e w' => e = .returned (.bool true) ∧ Below w.heap.size w w' :=
  arenas_said new_c may_c get_c put_c s0 s1 z0 z1 a2 a3 a4_0 a4_1 a4_2 w f0 r0 f1 r1

end Go.Proofs.Ytmjclmjnkmhciaa
