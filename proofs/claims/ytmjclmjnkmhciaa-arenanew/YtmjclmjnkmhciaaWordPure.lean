/-
  Words: what may be one, what Lock, Free and Write answer. No Go in sight.
-/
import Derived.WalkKit
namespace Go.Proofs.Ytmjclmjnkmhciaa
open Go.RowKit

/-- From 0 to a most? -/
def upToV (n m : Int) : Bool := decide (0 ≤ n ∧ n ≤ m)
/-- A word's value. -/
def wordA (v n l : Int) : Value := .agg #[.int .i64 v, .int .i64 n, .int .i64 l]
/-- May it be a word? -/
def wmay (v n l : Int) : Bool := upToV v 255 && upToV n 65535 && upToV l 255

theorem upToV_yes {n m : Int} (h : upToV n m = true) : 0 ≤ n ∧ n ≤ m := of_decide_eq_true h
theorem upToV_no {n m : Int} (h : upToV n m = false) : n < 0 ∨ m < n := by
  have := of_decide_eq_false h
  omega
theorem upToV_of {n m : Int} (h0 : 0 ≤ n) (h1 : n ≤ m) : upToV n m = true := decide_eq_true ⟨h0, h1⟩
theorem upToV_not {n m : Int} (h : n < 0 ∨ m < n) : upToV n m = false := decide_eq_false (by omega)

theorem wmay_yes {v n l : Int} (h : wmay v n l = true) : upToV v 255 = true ∧ upToV n 65535 = true ∧ upToV l 255 = true := by
  unfold wmay at h
  simp only [Bool.and_eq_true] at h
  exact ⟨h.1.1, h.1.2, h.2⟩
theorem wmay_of {v n l : Int} (hv : upToV v 255 = true) (hn : upToV n 65535 = true) (hl : upToV l 255 = true) : wmay v n l = true := by
  unfold wmay; rw [hv, hn, hl]; rfl
theorem wmay_no1 {v n l : Int} (h : upToV v 255 = false) : wmay v n l = false := by unfold wmay; rw [h]; rfl
theorem wmay_no2 {v n l : Int} (h : upToV n 65535 = false) : wmay v n l = false := by unfold wmay; rw [h]; simp
theorem wmay_no3 {v n l : Int} (h : upToV l 255 = false) : wmay v n l = false := by unfold wmay; rw [h]; simp

/-- The number of Lock's error. -/
def lockE (v n l i : Int) : Int := bif wmay v n l && upToV i 254 then (if l = 0 then 0 else 301) else 300
/-- Lock's word. -/
def lockW (v n l i : Int) : Value := bif wmay v n l && upToV i 254 then (if l = 0 then wordA v n (i + 1) else wordA 0 0 0) else wordA 0 0 0
/-- The number of Write's error (Free's: of a word's own value, version). -/
def writeE (v n l x y : Int) : Int := bif wmay v n l && wmay x y 0 then 0 else 300
/-- Write's word. -/
def writeW (v n l x y : Int) : Value := bif wmay v n l && wmay x y 0 then wordA x y 0 else wordA 0 0 0

end Go.Proofs.Ytmjclmjnkmhciaa
