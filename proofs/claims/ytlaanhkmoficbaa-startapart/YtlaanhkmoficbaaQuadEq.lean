/-
  Are two arrays of four numbers the same?
-/
import Derived.Test.YtlaanhkmoficbaaQuad
import Derived.Test.YtlaanhkmoficbaaRows
import Derived.WalkSpells
import Derived.ChangeKeysEq
namespace Go.Proofs.Ytlaanhkmoficbaa
open Go.RowKit
theorem Try.infoInt : (Try.prog.info? 3).isSome = true := by kernel_rfl
theorem Try.cellsInt : Try.prog.cellsOf 3 = 1 := by kernel_rfl
theorem Try.quadType : Try.prog.underlying 26 = some (.array 4 3) := by kernel_rfl
theorem quad_eq (a b c d a' b' c' d' : Int) (W : World) : Sem.run Try.prog (Op.equalIn 10000 26 (.agg #[.int .i64 a, .int .i64 b, .int .i64 c, .int .i64 d]) (.agg #[.int .i64 a', .int .i64 b', .int .i64 c', .int .i64 d'])) W = .ok (a == a' && b == b' && c == c' && d == d') W := by
  obtain ⟨i, hi⟩ := Option.isSome_iff_exists.1 Try.infoInt
  rw [show (10000 : Nat) = 9999 + 1 from rfl, run_equalIn_array W 9999 _ _ Try.quadType hi, Try.cellsInt]
  show Sem.run Try.prog (Op.eqItems (9998 + 1) 3 1 _ _ [0, 1, 2, 3]) W = _
  cases h1 : a == a' <;> cases h2 : b == b' <;> cases h3 : c == c' <;> cases h4 : d == d'
  all_goals simp [Op.eqItems, go_sem, h1, h2, h3, h4]
end Go.Proofs.Ytlaanhkmoficbaa
