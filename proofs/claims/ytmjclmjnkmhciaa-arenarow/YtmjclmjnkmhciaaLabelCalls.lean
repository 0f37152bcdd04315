/-
  What each function that the laws call hands back: May, Join, Below (at labels and at numbers that are none), the document's answers, awake. Nothing in memory is touched by any of them.
-/
import Derived.Test.YtmjclmjnkmhciaaRows
import Derived.Test.YtmjclmjnkmhciaaPlain
import Derived.WalkKit
import Derived.WalkSpells
namespace Go.Proofs.Ytmjclmjnkmhciaa
open Go.RowKit

/-- No label. -/
def NoLab (x : Int) : Prop := x < 0 ∨ 4 ≤ x

/-! ### label.May (13) -/
theorem may_yes (a : Int) (h : Lab a) (w : World) :
    Calls Try.prog 32 #[.int .i64 a] w fun e w' => e = .returned (.bool true) ∧ w = w' := by
  obtain ⟨h0, h1⟩ := h
  go_enter Try.func32, Try.ntmps32
  go_wp2
  go_ret
  exact ⟨rfl, rfl⟩
theorem may_no (a : Int) (h : NoLab a) (w : World) :
    Calls Try.prog 32 #[.int .i64 a] w fun e w' => e = .returned (.bool false) ∧ w = w' := by
  rcases h with h | h
  · go_enter Try.func32, Try.ntmps32
    go_wp2
    go_ret
    exact ⟨rfl, rfl⟩
  · have h0 : 0 ≤ a := by omega
    have h2 : ¬ a < 4 := by omega
    go_enter Try.func32, Try.ntmps32
    go_wp2
    go_ret
    exact ⟨rfl, rfl⟩

/-! ### the document's answers: LabelMay (14), Join (9), Below (11) -/
theorem rmay_yes (a : Int) (h : Lab a) (w : World) :
    Calls Try.prog 33 #[.int .i64 a] w fun e w' => e = .returned (.bool true) ∧ w = w' := by
  obtain ⟨h0, h1⟩ := h
  have h2 : a ≤ 3 := by omega
  go_enter Try.func33, Try.ntmps33
  go_wp2
  go_ret
  exact ⟨rfl, rfl⟩
theorem rmay_no (a : Int) (h : NoLab a) (w : World) :
    Calls Try.prog 33 #[.int .i64 a] w fun e w' => e = .returned (.bool false) ∧ w = w' := by
  rcases h with h | h
  · go_enter Try.func33, Try.ntmps33
    go_wp2
    go_ret
    exact ⟨rfl, rfl⟩
  · have h0 : 0 ≤ a := by omega
    have h2 : ¬ a ≤ 3 := by omega
    go_enter Try.func33, Try.ntmps33
    go_wp2
    go_ret
    exact ⟨rfl, rfl⟩


end Go.Proofs.Ytmjclmjnkmhciaa
