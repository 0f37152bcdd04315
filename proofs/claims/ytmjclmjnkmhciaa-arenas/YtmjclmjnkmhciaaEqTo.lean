/-
  Are two rows of numbers the same? No Go in sight.
-/
import Derived.WalkKit
namespace Go.Proofs.Ytmjclmjnkmhciaa

/-- Are the first n of two rows of numbers the same? -/
def eqTo (z y : Nat → Int) : Nat → Bool
  | 0 => true
  | k + 1 => eqTo z y k && (z k == y k)
theorem eqTo_mk {z y : Nat → Int} : ∀ {n : Nat}, (∀ i, i < n → z i = y i) → eqTo z y n = true
  | 0, _ => rfl
  | n + 1, h => by rw [eqTo, eqTo_mk fun i hi => h i (by omega), h n (by omega)]; simp
theorem eqTo_get {z y : Nat → Int} : ∀ {n : Nat}, eqTo z y n = true → ∀ i, i < n → z i = y i
  | 0, _, i, hi => absurd hi (Nat.not_lt_zero _)
  | n + 1, h, i, hi => by
    simp only [eqTo, Bool.and_eq_true, beq_iff_eq] at h
    by_cases e : i = n
    · subst e; exact h.2
    · exact eqTo_get h.1 i (by omega)
theorem eqTo_no {z y : Nat → Int} {n : Nat} (i : Nat) (hi : i < n) (h : z i ≠ y i) : eqTo z y n = false := by
  cases e : eqTo z y n with
  | false => rfl
  | true => exact absurd (eqTo_get e i hi) h

end Go.Proofs.Ytmjclmjnkmhciaa
