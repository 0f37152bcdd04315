/-
  A list of numbers written out, as a row's cells. Nothing of a program here.
-/
import Derived.Test.YtjnolmpalfjacaaOwn
namespace Go.Proofs.Ytjnolmpalfjacaa
open Go.RowKit

/-- A list of numbers, just laid. -/
def lz (l : List Int) (i : Nat) : Int := l.getD i 0
theorem blk_lz (w : World) (l : List Int) (t : TypeId) : Blk (w.alloc (.cells (l.map (Value.int .i64)).toArray t)) w.heap.size (l.map (Value.int .i64)) := blk_new w _ t
theorem Blk.lzRow {w : World} {b : Nat} {l : List Int} (h : Blk w b (l.map (Value.int .i64))) : Row w (some ⟨b, 0, none⟩) l.length fun i => .int .i64 (lz l i) := by
  have := (own_of_blk h (fun i => .int .i64 (lz l i)) (fun i hi => by
    have hi' : i < l.length := by simpa using hi
    simp [lz, hi'])).row
  simpa using this

end Go.Proofs.Ytjnolmpalfjacaa
