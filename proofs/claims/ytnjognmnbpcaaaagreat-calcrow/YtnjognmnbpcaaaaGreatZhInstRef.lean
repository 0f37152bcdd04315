/-
  The document's answer to chapter 7.
-/
import Derived.Test.YtnjognmnbpcaaaaGreatRows
import Derived.Test.YtnjognmnbpcaaaaGreatZlab
import Derived.WalkKit
import Derived.WalkSpells
import Derived.RegionTactic
import Derived.BigRegion
import Derived.Deep.Cut
import Derived.Laws.IdiomStrings
namespace Go.Proofs.YtnjognmnbpcaaaaGreat
open Go.RowKit
set_option linter.unusedSimpArgs false
set_option maxHeartbeats 2000000 in
theorem rinstMay_any (i : Nat → Int) (w : World) :
    Calls Tryz.prog 136 #[quadA i] w fun e w' => e = .returned (.bool (instMay i)) ∧ Below w.heap.size w w' := by
  unfold quadA
  rcases inst_cases i with h0 | h0 | h0 | h0 | h0 | h0 | h0 | h0
  · rw [instMay_no h0]
    have n0 : ¬ i 0 = 0 := by omega
    have n1 : ¬ i 0 = 1 := by omega
    have n2 : ¬ i 0 = 2 := by omega
    have n3 : ¬ i 0 = 3 := by omega
    have n4 : ¬ i 0 = 4 := by omega
    have n5 : ¬ i 0 = 5 := by omega
    have n6 : ¬ i 0 = 6 := by omega
    clear h0
    go_enter Tryz.func136, Tryz.ntmps136
    go_wp2
    go_ret
    exact ⟨rfl, by go_grown⟩
  · rw [instMay_0 h0, h0]
    cases h1 : upToV (i 1) 3 <;> cases h2 : upToV (i 2) 255
    all_goals
      go_enter Tryz.func136, Tryz.ntmps136
      go_wp2_with (first | (go_at_call 51; refine (rreg_any _ _).mono ?_; rintro e w' ⟨rfl, rfl⟩) | (go_at_call 52; refine (rvalue_any _ _).mono ?_; rintro e w' ⟨rfl, rfl⟩) | (go_at_call 79; refine (rlabel_any _ _).mono ?_; rintro e w' ⟨rfl, rfl⟩) | (go_at_call 80; refine (rupTo_any _ _ _).mono ?_; rintro e w' ⟨rfl, rfl⟩))
      go_ret
      exact ⟨rfl, by go_grown⟩
  · rw [instMay_1 h0, h0]
    cases h1 : upToV (i 1) 3 <;> cases h2 : upToV (i 2) 3
    all_goals
      go_enter Tryz.func136, Tryz.ntmps136
      go_wp2_with (first | (go_at_call 51; refine (rreg_any _ _).mono ?_; rintro e w' ⟨rfl, rfl⟩) | (go_at_call 52; refine (rvalue_any _ _).mono ?_; rintro e w' ⟨rfl, rfl⟩) | (go_at_call 79; refine (rlabel_any _ _).mono ?_; rintro e w' ⟨rfl, rfl⟩) | (go_at_call 80; refine (rupTo_any _ _ _).mono ?_; rintro e w' ⟨rfl, rfl⟩))
      go_ret
      exact ⟨rfl, by go_grown⟩
  · rw [instMay_23 (.inl h0), h0]
    cases h1 : upToV (i 1) 3 <;> cases h2 : upToV (i 2) 3
    all_goals
      go_enter Tryz.func136, Tryz.ntmps136
      go_wp2_with (first | (go_at_call 51; refine (rreg_any _ _).mono ?_; rintro e w' ⟨rfl, rfl⟩) | (go_at_call 52; refine (rvalue_any _ _).mono ?_; rintro e w' ⟨rfl, rfl⟩) | (go_at_call 79; refine (rlabel_any _ _).mono ?_; rintro e w' ⟨rfl, rfl⟩) | (go_at_call 80; refine (rupTo_any _ _ _).mono ?_; rintro e w' ⟨rfl, rfl⟩))
      go_ret
      exact ⟨rfl, by go_grown⟩
  · rw [instMay_23 (.inr h0), h0]
    cases h1 : upToV (i 1) 3 <;> cases h2 : upToV (i 2) 3
    all_goals
      go_enter Tryz.func136, Tryz.ntmps136
      go_wp2_with (first | (go_at_call 51; refine (rreg_any _ _).mono ?_; rintro e w' ⟨rfl, rfl⟩) | (go_at_call 52; refine (rvalue_any _ _).mono ?_; rintro e w' ⟨rfl, rfl⟩) | (go_at_call 79; refine (rlabel_any _ _).mono ?_; rintro e w' ⟨rfl, rfl⟩) | (go_at_call 80; refine (rupTo_any _ _ _).mono ?_; rintro e w' ⟨rfl, rfl⟩))
      go_ret
      exact ⟨rfl, by go_grown⟩
  · rw [instMay_4 h0, h0]
    cases h1 : upToV (i 1) 3 <;> cases h2 : upToV (i 2) 16
    all_goals
      go_enter Tryz.func136, Tryz.ntmps136
      go_wp2_with (first | (go_at_call 51; refine (rreg_any _ _).mono ?_; rintro e w' ⟨rfl, rfl⟩) | (go_at_call 52; refine (rvalue_any _ _).mono ?_; rintro e w' ⟨rfl, rfl⟩) | (go_at_call 79; refine (rlabel_any _ _).mono ?_; rintro e w' ⟨rfl, rfl⟩) | (go_at_call 80; refine (rupTo_any _ _ _).mono ?_; rintro e w' ⟨rfl, rfl⟩))
      go_ret
      exact ⟨rfl, by go_grown⟩
  · rw [instMay_5 h0, h0]
    cases h1 : (i 1 == 0) <;> cases h2 : (i 2 == 0) <;> cases h3 : (i 3 == 0)
    all_goals
      go_enter Tryz.func136, Tryz.ntmps136
      go_wp2
      go_ret
      exact ⟨rfl, by go_grown⟩
  · rw [instMay_6 h0, h0]
    cases h1 : upToV (i 1) 255 <;> cases h2 : (i 2 == 0)
    all_goals
      go_enter Tryz.func136, Tryz.ntmps136
      go_wp2_with (first | (go_at_call 51; refine (rreg_any _ _).mono ?_; rintro e w' ⟨rfl, rfl⟩) | (go_at_call 52; refine (rvalue_any _ _).mono ?_; rintro e w' ⟨rfl, rfl⟩) | (go_at_call 79; refine (rlabel_any _ _).mono ?_; rintro e w' ⟨rfl, rfl⟩) | (go_at_call 80; refine (rupTo_any _ _ _).mono ?_; rintro e w' ⟨rfl, rfl⟩))
      go_ret
      exact ⟨rfl, by go_grown⟩
end Go.Proofs.YtnjognmnbpcaaaaGreat
