/-
  Many labels, plainly: no Go in sight. A list is told by a function of the place; '..To z k' speaks of the first k.
-/
import Derived.Test.YtibeokdjedplcaaLabelAnys
namespace Go.Proofs.Ytibeokdjedplcaa

/-- Are the first k labels? -/
def mayTo (z : Nat → Int) : Nat → Bool
  | 0 => true
  | k + 1 => mayTo z k && mayV (z k)
/-- The join of the first k. -/
def joinTo (z : Nat → Int) : Nat → Int
  | 0 => 0
  | k + 1 => bits .or .i64 (joinTo z k) (z k)
/-- All of one's categories in another one's. -/
def underV (a b : Int) : Bool := bits .or .i64 a b == b
/-- Is each of the first k below the next? -/
def chainTo (z : Nat → Int) : Nat → Bool
  | 0 => true
  | k + 1 => chainTo z k && (k == 0 || underV (z (k - 1)) (z k))

/-- The answers of chapter 2. -/
def ojoinV (z : Nat → Int) (n : Nat) : Int := if mayTo z n = true then joinTo z n else 0
def ochainV (z : Nat → Int) (n : Nat) : Bool := mayTo z n && chainTo z n
def ordE (z : Nat → Int) (n : Nat) : Int := if mayTo z n = true then 0 else 200

theorem lab_of_may {a : Int} (h : mayV a = true) : Lab a := by
  have := of_decide_eq_true h
  exact this
theorem may_of_lab {a : Int} (h : Lab a) : mayV a = true := decide_eq_true (show 0 ≤ a ∧ a < 4 from h)

theorem mayTo_lt {z : Nat → Int} : ∀ {n : Nat}, mayTo z n = true → ∀ i, i < n → Lab (z i)
  | n + 1, h, i, hi => by
    simp only [mayTo, Bool.and_eq_true] at h
    by_cases e : i = n
    · subst e; exact lab_of_may h.2
    · exact mayTo_lt h.1 i (by omega)
theorem mayTo_mk {z : Nat → Int} : ∀ {n : Nat}, (∀ i, i < n → Lab (z i)) → mayTo z n = true
  | 0, _ => rfl
  | n + 1, h => by
    simp only [mayTo, Bool.and_eq_true]
    exact ⟨mayTo_mk fun i hi => h i (by omega), may_of_lab (h n (by omega))⟩
theorem mayTo_le {z : Nat → Int} {n k : Nat} (h : mayTo z n = true) (hk : k ≤ n) : mayTo z k = true := mayTo_mk fun i hi => mayTo_lt h i (by omega)
theorem mayTo_no {z : Nat → Int} {n : Nat} (i : Nat) (hi : i < n) (h : mayV (z i) = false) : mayTo z n = false := by
  cases e : mayTo z n with
  | false => rfl
  | true => rw [may_of_lab (mayTo_lt e i hi)] at h; cases h

theorem joinTo_lab {z : Nat → Int} : ∀ {n : Nat}, (∀ i, i < n → Lab (z i)) → Lab (joinTo z n)
  | 0, _ => ⟨by simp [joinTo], by simp [joinTo]⟩
  | n + 1, h => lab_or (joinTo_lab fun i hi => h i (by omega)) (h n (by omega))

theorem chainTo_le {z : Nat → Int} : ∀ {n k : Nat}, chainTo z n = true → k ≤ n → chainTo z k = true
  | 0, k, h, hk => by obtain rfl : k = 0 := by omega
                      rfl
  | n + 1, k, h, hk => by
    by_cases e : k = n + 1
    · subst e; exact h
    · simp only [chainTo, Bool.and_eq_true] at h
      exact chainTo_le h.1 (by omega)
theorem chainTo_no {z : Nat → Int} {n : Nat} (k : Nat) (hk : k < n) (h0 : k ≠ 0) (h : underV (z (k - 1)) (z k) = false) : chainTo z n = false := by
  cases e : chainTo z n with
  | false => rfl
  | true =>
    have := chainTo_le e (show k + 1 ≤ n by omega)
    simp [chainTo, h, h0] at this

/-- On labels Below's answer is Under's. -/
theorem below_under {a b : Int} (ha : Lab a) (hb : Lab b) : belowV a b = underV a b := by
  rw [belowV_yes ha hb]
  exact under_iff ha hb

theorem chainTo_shift {z : Nat → Int} {k m : Nat} (h : chainTo z k = true) : ∀ {j : Nat}, m + j ≤ k → chainTo (fun i => z (m + i)) j = true
  | 0, _ => rfl
  | j + 1, hj => by
    rw [chainTo, chainTo_shift h (by omega)]
    have := chainTo_le h (show m + j + 1 ≤ k by omega)
    simp only [chainTo, Bool.and_eq_true, Bool.or_eq_true, beq_iff_eq] at this
    by_cases e : j = 0
    · simp [e]
    · rcases this.2 with h0 | h0
      · omega
      · rw [show m + j - 1 = m + (j - 1) by omega] at h0
        simp [h0]

theorem joinTo_congr {z y : Nat → Int} : ∀ {n : Nat}, (∀ i, i < n → z i = y i) → joinTo z n = joinTo y n
  | 0, _ => rfl
  | n + 1, h => by rw [joinTo, joinTo, joinTo_congr fun i hi => h i (by omega), h n (by omega)]

/-- A list and one more. -/
def snocZ (z : Nat → Int) (k : Nat) (x : Int) (i : Nat) : Int := if i < k then z i else x
theorem joinTo_snoc (z : Nat → Int) (k : Nat) (x : Int) : joinTo (snocZ z k x) (k + 1) = bits .or .i64 (joinTo z k) x := by
  rw [joinTo, joinTo_congr (z := snocZ z k x) (y := z) (n := k) fun i hi => if_pos hi]
  simp [snocZ]

end Go.Proofs.Ytibeokdjedplcaa
