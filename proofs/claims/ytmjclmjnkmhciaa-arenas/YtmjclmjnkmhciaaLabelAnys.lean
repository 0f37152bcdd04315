/-
  Join, Below and May at whatever integers: one contract each, the answers under names.
-/
import Derived.Test.YtmjclmjnkmhciaaLabelCalls
namespace Go.Proofs.Ytmjclmjnkmhciaa
open Go.RowKit

theorem noLab_of {x : Int} (h : ¬ Lab x) : NoLab x := by
  unfold Lab at h
  unfold NoLab
  omega
theorem not_lab {x : Int} (h : NoLab x) : ¬ Lab x := by
  unfold Lab
  unfold NoLab at h
  omega

/-- May's answer. -/
def mayV (a : Int) : Bool := decide (0 ≤ a ∧ a < 4)
/-- The number of the error of Join and of Below. -/
def labE (a b : Int) : Int := if (0 ≤ a ∧ a < 4) ∧ (0 ≤ b ∧ b < 4) then 0 else 100
/-- Join's answer. -/
def joinV (a b : Int) : Int := if (0 ≤ a ∧ a < 4) ∧ (0 ≤ b ∧ b < 4) then bits .or .i64 a b else 0
/-- Below's answer. -/
def belowV (a b : Int) : Bool := if (0 ≤ a ∧ a < 4) ∧ (0 ≤ b ∧ b < 4) then bits .andNot .i64 a b == 0 else false

theorem labE_yes {a b : Int} (ha : Lab a) (hb : Lab b) : labE a b = 0 := if_pos ⟨ha, hb⟩
theorem labE_no1 {a b : Int} (ha : NoLab a) : labE a b = 100 := if_neg fun h => not_lab ha h.1
theorem labE_no2 {a b : Int} (hb : NoLab b) : labE a b = 100 := if_neg fun h => not_lab hb h.2
theorem joinV_yes {a b : Int} (ha : Lab a) (hb : Lab b) : joinV a b = bits .or .i64 a b := if_pos ⟨ha, hb⟩
theorem belowV_yes {a b : Int} (ha : Lab a) (hb : Lab b) : belowV a b = (bits .andNot .i64 a b == 0) := if_pos ⟨ha, hb⟩
theorem belowV_no1 {a b : Int} (ha : NoLab a) : belowV a b = false := if_neg fun h => not_lab ha h.1
theorem belowV_no2 {a b : Int} (hb : NoLab b) : belowV a b = false := if_neg fun h => not_lab hb h.2
theorem mayV_no {a : Int} (ha : NoLab a) : mayV a = false := decide_eq_false (not_lab ha)

theorem may_any (a : Int) (w : World) :
    Calls Try.prog 32 #[.int .i64 a] w fun e w' => e = .returned (.bool (mayV a)) ∧ w = w' := by
  unfold mayV
  by_cases h : 0 ≤ a ∧ a < 4
  · rw [decide_eq_true h]
    exact may_yes a h w
  · rw [decide_eq_false h]
    exact may_no a (noLab_of h) w
theorem rmay_any (a : Int) (w : World) :
    Calls Try.prog 33 #[.int .i64 a] w fun e w' => e = .returned (.bool (mayV a)) ∧ w = w' := by
  unfold mayV
  by_cases h : 0 ≤ a ∧ a < 4
  · rw [decide_eq_true h]
    exact rmay_yes a h w
  · rw [decide_eq_false h]
    exact rmay_no a (noLab_of h) w

end Go.Proofs.Ytmjclmjnkmhciaa
