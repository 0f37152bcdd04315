/-
  The law StartForms, if package start's functions keep their statements.
-/
import Derived.Test.YtlaanhkmoficbaaStartFormsA
import Derived.Test.YtlaanhkmoficbaaStartFormsB
import Derived.Test.YtlaanhkmoficbaaStartFormsC
import Derived.Test.YtlaanhkmoficbaaStartFormsD
namespace Go.Proofs.Ytlaanhkmoficbaa
open Go.RowKit

theorem startForms_said (hM : MaySC) (hN : NewSC) (a0 a1 : Int) (w : World) :
    Calls Try.prog 4 #[.int .i64 a0, .int .i64 a1] w fun e w' => e = .returned (.bool true) ∧ Below w.heap.size w w' := by
  have h0 : 0 ≤ IntKind.u64.wrap a0 := by rw [IntKind.wrap_u64]; omega
  have h1 := Int.tmod_nonneg 10 h0
  have h2 := Int.tmod_lt_of_pos (IntKind.u64.wrap a0) (show (0 : Int) < 10 by decide)
  have r0 : 0 ≤ a1 % 1024 := by omega
  have r1 : a1 % 1024 ≤ 1023 := by omega
  generalize hq : (IntKind.u64.wrap a0).tmod 10 = q at h1 h2
  have : q = 0 ∨ q = 1 ∨ q = 2 ∨ q = 3 ∨ q = 4 ∨ q = 5 ∨ q = 6 ∨ q = 7 ∨ q = 8 ∨ q = 9 := by omega
  rcases this with rfl | rfl | rfl | rfl | rfl | rfl | rfl | rfl | rfl | rfl
  · exact startForms_0 hM hN a0 a1 _ w (mask1023 _) r0 r1 hq
  · exact startForms_1 hM hN a0 a1 _ w (mask1023 _) r0 r1 hq
  · exact startForms_2 hM hN a0 a1 _ w (mask1023 _) r0 r1 hq
  · exact startForms_3 hM hN a0 a1 _ w (mask1023 _) r0 r1 hq
  · exact startForms_4 hM hN a0 a1 _ w (mask1023 _) r0 r1 hq
  · exact startForms_5 hM hN a0 a1 _ w (mask1023 _) r0 r1 hq
  · exact startForms_6 hM hN a0 a1 _ w (mask1023 _) r0 r1 hq
  · exact startForms_7 hM hN a0 a1 _ w (mask1023 _) r0 r1 hq
  · exact startForms_8 hM hN a0 a1 _ w (mask1023 _) r0 r1 hq
  · exact startForms_9 hM hN a0 a1 _ w (mask1023 _) r0 r1 hq

end Go.Proofs.Ytlaanhkmoficbaa
