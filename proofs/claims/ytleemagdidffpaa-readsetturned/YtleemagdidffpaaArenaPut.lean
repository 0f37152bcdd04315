/-
  The document's answer to Put.
-/
import Derived.Test.YtleemagdidffpaaArenaRef
import Derived.Test.YtleemagdidffpaaArenaCopy
import Derived.RegionTactic
import Derived.BigRegion
namespace Go.Proofs.Ytleemagdidffpaa
open Go.RowKit
set_option linter.unusedSimpArgs false

/-- What Put hands back: nothing, or the arena with that word there, in new memory. -/
def PutPost (s : Nat → Sl) (z : Nat → Nat → Int) (l i v n k : Int) (w : World) (e : Ending) (w' : World) : Prop :=
  ∃ t z', e = .returned (.tuple #[arenaA t, .int .i64 (putE s z l i v n k)]) ∧ Nilly t ∧ Fresh w.heap.size w'.heap.size w' t z' 4 ∧ Below w.heap.size w w' ∧
    (putOk s z l i v n k = true → (∀ g, g < 4 → (t g).n = (s g).n) ∧ z' = putZ z l.toNat i.toNat v n k) ∧ (putOk s z l i v n k = false → t = nilS)

theorem Fresh.nil (B C : Nat) (w : World) (z : Nat → Nat → Int) (k : Nat) : Fresh B C w nilS z k := ⟨fun _ => 0, fun _ _ h => absurd h (Nat.lt_irrefl 0), fun _ _ _ _ h => absurd h (Nat.lt_irrefl 0)⟩

theorem put_no {s : Nat → Sl} {z : Nat → Nat → Int} {l i v n k : Int} {w w' : World} (h : putOk s z l i v n k = false) (hb : Below w.heap.size w w') : PutPost s z l i v n k w (.returned (.tuple #[.agg #[.slice none 0 0, .slice none 0 0, .slice none 0 0, .slice none 0 0], .int .i64 400])) w' := by
  refine ⟨nilS, z, ?_, Nilly.nil, Fresh.nil _ _ _ _ _, hb, fun h' => ?_, fun _ => rfl⟩
  · unfold putE; rw [h]; rfl
  · rw [h] at h'; cases h'


end Go.Proofs.Ytleemagdidffpaa
