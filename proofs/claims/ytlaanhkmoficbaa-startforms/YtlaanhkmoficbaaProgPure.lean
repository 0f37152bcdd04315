/-
  Programs: which may be, their bytes. A program's numbers are told by their places, four an instruction. No Go in sight.
-/
import Derived.Test.YtlaanhkmoficbaaInstPure
namespace Go.Proofs.Ytlaanhkmoficbaa
open Go.RowKit

/-- The k-th instruction. -/
def instAt (z : Nat → Int) (k : Nat) : Nat → Int := fun j => z (k * 4 + j)
/-- Does the k-th instruction jump where it may not? -/
def badJump (z : Nat → Int) (n k : Nat) : Bool := (z (k * 4) == 4) && (decide (z (k * 4 + 2) ≤ (k : Int)) || decide ((n : Int) < z (k * 4 + 2)))
/-- May the first k be, of n? -/
def progTo (z : Nat → Int) (n : Nat) : Nat → Bool
  | 0 => true
  | k + 1 => progTo z n k && (instMay (instAt z k) && !badJump z n k)
/-- May it be a program? -/
def progMay (n : Nat) (z : Nat → Int) : Bool := progTo z n n && decide (n ≤ 16)
/-- The bytes of the first k. -/
def progB (z : Nat → Int) : Nat → List UInt8
  | 0 => []
  | k + 1 => progB z k ++ instT (instAt z k)
theorem progB_len (z : Nat → Int) : ∀ k, (progB z k).length = k * 4
  | 0 => rfl
  | k + 1 => by rw [progB, List.length_append, progB_len z k, instT_len]; omega
theorem progTo_get {z : Nat → Int} {n : Nat} : ∀ {k : Nat}, progTo z n k = true → ∀ i, i < k → instMay (instAt z i) = true ∧ badJump z n i = false
  | 0, _, i, hi => absurd hi (Nat.not_lt_zero _)
  | k + 1, h, i, hi => by
    simp only [progTo, Bool.and_eq_true, Bool.not_eq_true'] at h
    by_cases e : i = k
    · subst e; exact h.2
    · exact progTo_get h.1 i (by omega)
theorem progTo_mk {z : Nat → Int} {n : Nat} : ∀ {k : Nat}, (∀ i, i < k → instMay (instAt z i) = true ∧ badJump z n i = false) → progTo z n k = true
  | 0, _ => rfl
  | k + 1, h => by rw [progTo, progTo_mk fun i hi => h i (by omega), (h k (by omega)).1, (h k (by omega)).2]; rfl
theorem progTo_no {z : Nat → Int} {n k : Nat} (i : Nat) (hi : i < k) (h : (instMay (instAt z i) && !badJump z n i) = false) : progTo z n k = false := by
  cases e : progTo z n k with
  | false => rfl
  | true =>
    obtain ⟨h1, h2⟩ := progTo_get e i hi
    rw [h1, h2] at h
    cases h
theorem progMay_get {n : Nat} {z : Nat → Int} (h : progMay n z = true) : progTo z n n = true ∧ n ≤ 16 := by
  simp only [progMay, Bool.and_eq_true, decide_eq_true_eq] at h
  exact h
theorem progMay_mk {n : Nat} {z : Nat → Int} (h : progTo z n n = true) (h' : n ≤ 16) : progMay n z = true := by rw [progMay, h, decide_eq_true h']; rfl
theorem progMay_no {n : Nat} {z : Nat → Int} (i : Nat) (hi : i < n) (h : (instMay (instAt z i) && !badJump z n i) = false) : progMay n z = false := by rw [progMay, progTo_no i hi h]; rfl
theorem progMay_long {n : Nat} {z : Nat → Int} (h : 16 < n) : progMay n z = false := by rw [progMay, decide_eq_false (by omega), Bool.and_false]

def putPE (n : Nat) (z : Nat → Int) : Int := bif progMay n z then 0 else 800
def putPT (n : Nat) (z : Nat → Int) : List UInt8 := bif progMay n z then byteOf n :: progB z n else []
/-- The numbers of a text behind its first byte. -/
def textZ (l : List UInt8) (j : Nat) : Int := ((l.getD (1 + j) 0).toNat : Int)
/-- How many instructions it tells of. -/
def textN (l : List UInt8) : Nat := (l.getD 0 0).toNat
def getPOk (l : List UInt8) : Bool := decide (l.length = 1 + 4 * textN l) && progMay (textN l) (textZ l)
def getPE (l : List UInt8) : Int := bif getPOk l then 0 else 800

end Go.Proofs.Ytlaanhkmoficbaa
