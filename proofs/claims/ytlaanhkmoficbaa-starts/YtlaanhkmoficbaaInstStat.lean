/-
  What package inst's functions hand back: statements, to be proved of the landed code; and what every program answers that is one.
-/
import Derived.Test.YtlaanhkmoficbaaInstRefs
namespace Go.Proofs.Ytlaanhkmoficbaa
open Go.RowKit
set_option linter.unusedSimpArgs false

def MayIC : Prop := ∀ (i : Nat → Int) (w : World), Calls Try.prog 32 #[quadA i] w fun e w' => e = .returned (.bool (instMay i)) ∧ Below w.heap.size w w'

theorem quad_ext {f : Nat → Int} {a b c d : Int} (h0 : f 0 = a) (h1 : f 1 = b) (h2 : f 2 = c) (h3 : f 3 = d) : quadA f = .agg #[.int .i64 a, .int .i64 b, .int .i64 c, .int .i64 d] := by
  unfold quadA; rw [h0, h1, h2, h3]


end Go.Proofs.Ytlaanhkmoficbaa
