/-
  The law StoreKeeps: the last write of a word that is found. Nothing of a walk here.
-/
import Derived.Test.YtlnenmfippedpaaGreatZlbb
namespace Go.Proofs.YtlnenmfippedpaaGreat
open Go.RowKit
set_option linter.unusedSimpArgs false
set_option linter.unusedVariables false
/-- Is the last one of that word, among the first k, of that value? -/
def keepP (z : Nat → Int) (l i v : Int) : Nat → Bool
  | 0 => false
  | k + 1 => if z (k * 3) = l ∧ z (k * 3 + 1) = i then decide (z (k * 3 + 2) = v) else keepP z l i v k
theorem keep_yes {n : Nat} {z : Nat → Int} {l i v : Int} (H : Wr n z) (h : InW n z l i v) : keepP z l i v n = true := by
  obtain ⟨q, hq, q0, q1, q2⟩ := h
  have key : ∀ k, k ≤ n → q < k → keepP z l i v k = true := by
    intro k
    induction k with
    | zero => intro _ h0; omega
    | succ k ih =>
      intro hk hqk
      unfold keepP
      by_cases e : z (k * 3) = l ∧ z (k * 3 + 1) = i
      · have h1 := H.pos (k := k) (by omega) e
        have h2 := H.pos (k := q) hq ⟨q0, q1⟩
        obtain rfl : k = q := by omega
        rw [if_pos e, decide_eq_true q2]
      · rw [if_neg e]
        refine ih (by omega) ?_
        by_cases h3 : q = k
        · subst h3
          exact absurd ⟨q0, q1⟩ e
        · omega
  exact key n (Nat.le_refl _) hq
end Go.Proofs.YtlnenmfippedpaaGreat
