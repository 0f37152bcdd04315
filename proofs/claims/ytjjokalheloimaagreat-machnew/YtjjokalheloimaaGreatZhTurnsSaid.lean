/-
  The law UndoTurns' own question: is all the same, but for a session, its locks, the trace?
-/
import Derived.Test.YtjjokalheloimaaGreatZlbb
import Derived.Test.YtjjokalheloimaaGreatZlaf
import Derived.Test.YtjjokalheloimaaGreatZlag
import Derived.Test.YtjjokalheloimaaGreatZhUndoRef
import Derived.Test.YtjjokalheloimaaGreatZlad
import Derived.Test.YtjjokalheloimaaGreatZlac
import Derived.Test.YtjjokalheloimaaGreatZlah
import Derived.BigQuiet
namespace Go.Proofs.YtjjokalheloimaaGreat
open Go.RowKit
set_option linter.unusedSimpArgs false
set_option linter.unusedVariables false
/-- A word's three cells. -/
theorem MachIs.wrange {W : World} {A : MacM} {M : PMach} (h : MachIs W A M) {g j b off : Nat} (hg : g < 4) (hj : j < (A.w g).n) (hb : (A.w g).a = some ⟨b, off, none⟩) : W.rangeAt b (off + j * 3) [.int .i64 (lz (M.lv g) (j * 3)), .int .i64 (lz (M.lv g) (j * 3 + 1)), .int .i64 (lz (M.lv g) (j * 3 + 2))] := fun c v hv => by
  have hc : c < 3 := (List.getElem?_eq_some_iff.1 hv).1
  rw [Nat.add_assoc, h.wcell hg hj hc hb]
  match c, hc, hv with
  | 0, _, hv => exact hv
  | 1, _, hv => exact hv
  | 2, _, hv => exact hv
end Go.Proofs.YtjjokalheloimaaGreat
