/-
  Is it so of the first k of a row? Of which words are the first k? No Go in sight.
-/
import Derived.WalkKit
namespace Go.Proofs.Ytlaanhkmoficbaa
open Go.RowKit

/-- Is it so of the first k? -/
def allTo (p : Nat → Bool) : Nat → Bool
  | 0 => true
  | k + 1 => allTo p k && p k
theorem allTo_get {p : Nat → Bool} : ∀ {n : Nat}, allTo p n = true → ∀ i, i < n → p i = true
  | 0, _, i, hi => absurd hi (Nat.not_lt_zero _)
  | n + 1, h, i, hi => by
    simp only [allTo, Bool.and_eq_true] at h
    by_cases e : i = n
    · subst e; exact h.2
    · exact allTo_get h.1 i (by omega)
theorem allTo_mk {p : Nat → Bool} : ∀ {n : Nat}, (∀ i, i < n → p i = true) → allTo p n = true
  | 0, _ => rfl
  | n + 1, h => by rw [allTo, allTo_mk fun i hi => h i (by omega), h n (by omega)]; rfl
theorem allTo_no {p : Nat → Bool} {n : Nat} (i : Nat) (hi : i < n) (h : p i = false) : allTo p n = false := by
  cases e : allTo p n with
  | false => rfl
  | true => rw [allTo_get e i hi] at h; cases h
theorem allTo_ex {p : Nat → Bool} : ∀ {n : Nat}, allTo p n = false → ∃ i, i < n ∧ p i = false
  | 0, h => by cases h
  | n + 1, h => by
    cases e : p n
    · exact ⟨n, by omega, e⟩
    · rw [allTo, e, Bool.and_true] at h
      obtain ⟨i, hi, hp⟩ := allTo_ex h
      exact ⟨i, by omega, hp⟩
theorem allTo_congr {p q : Nat → Bool} : ∀ {n : Nat}, (∀ i, i < n → p i = q i) → allTo p n = allTo q n
  | 0, _ => rfl
  | n + 1, h => by rw [allTo, allTo, allTo_congr fun i hi => h i (by omega), h n (by omega)]
theorem allTo_add (p : Nat → Bool) (m : Nat) : ∀ k, allTo p (m + k) = (allTo p m && allTo (fun i => p (m + i)) k)
  | 0 => by rw [Nat.add_zero, allTo, Bool.and_true]
  | k + 1 => by rw [← Nat.add_assoc, allTo, allTo_add p m k, allTo, Bool.and_assoc]
theorem allTo_and (p q : Nat → Bool) : ∀ n, allTo (fun i => p i && q i) n = (allTo p n && allTo q n)
  | 0 => rfl
  | n + 1 => by
    rw [allTo, allTo, allTo, allTo_and p q n]
    cases allTo p n <;> cases allTo q n <;> cases p n <;> cases q n <;> rfl
theorem allTo_less {p : Nat → Bool} {n m : Nat} (h : allTo p n = true) (hm : m ≤ n) : allTo p m = true := allTo_mk fun i hi => allTo_get h i (by omega)

/-- Is the j-th of that word? (Three numbers each: a level, an index, and one more.) -/
def isWord (z : Nat → Int) (l i : Int) (j : Nat) : Bool := (z (j * 3) == l) && (z (j * 3 + 1) == i)
/-- Is none of the first k of that word? -/
def noneTo (z : Nat → Int) (l i : Int) (k : Nat) : Bool := allTo (fun j => !isWord z l i j) k
section
variable {z x : Nat → Int} {m n : Nat}
theorem isWord_congr (h : ∀ i, i < n * 3 → z i = x i) (l i : Int) {j : Nat} (hj : j < n) : isWord z l i j = isWord x l i j := by
  unfold isWord
  rw [h (j * 3) (by omega), h (j * 3 + 1) (by omega)]
theorem noneTo_congr (h : ∀ i, i < n * 3 → z i = x i) (l i : Int) : noneTo z l i n = noneTo x l i n := allTo_congr fun j hj => by rw [isWord_congr h l i hj]
end

end Go.Proofs.Ytlaanhkmoficbaa
