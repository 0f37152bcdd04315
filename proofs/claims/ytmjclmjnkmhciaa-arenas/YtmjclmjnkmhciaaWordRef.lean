/-
  The document's answers to chapter 3: they are those of package word (the same names in their contracts).
-/
import Derived.Test.YtmjclmjnkmhciaaWordCalls
namespace Go.Proofs.Ytmjclmjnkmhciaa
open Go.RowKit

set_option linter.unusedSimpArgs false
theorem rwmay_any (v n l : Int) (w : World) :
    Calls Try.prog 26 #[wordA v n l] w fun e w' => e = .returned (.bool (wmay v n l)) ∧ Below w.heap.size w w' := by
  unfold wordA
  cases hv : upToV v 255
  · rw [wmay_no1 hv]
    go_enter Try.func26, Try.ntmps26
    go_wp2_with (first | (go_at_call 21; refine (rvalue_any _ _).mono ?_; rintro e w' ⟨rfl, rfl⟩) | (go_at_call 36; refine (rclock_any _ _).mono ?_; rintro e w' ⟨rfl, rfl⟩) | (go_at_call 31; refine (rupTo_any _ _ _).mono ?_; rintro e w' ⟨rfl, rfl⟩))
    go_ret
    exact ⟨rfl, (Below.refl _ _).alloc (Nat.le_refl _) _⟩
  cases hn : upToV n 65535
  · rw [wmay_no2 hn]
    go_enter Try.func26, Try.ntmps26
    go_wp2_with (first | (go_at_call 21; refine (rvalue_any _ _).mono ?_; rintro e w' ⟨rfl, rfl⟩) | (go_at_call 36; refine (rclock_any _ _).mono ?_; rintro e w' ⟨rfl, rfl⟩) | (go_at_call 31; refine (rupTo_any _ _ _).mono ?_; rintro e w' ⟨rfl, rfl⟩))
    go_ret
    exact ⟨rfl, (Below.refl _ _).alloc (Nat.le_refl _) _⟩
  cases hl : upToV l 255
  · rw [wmay_no3 hl]
    go_enter Try.func26, Try.ntmps26
    go_wp2_with (first | (go_at_call 21; refine (rvalue_any _ _).mono ?_; rintro e w' ⟨rfl, rfl⟩) | (go_at_call 36; refine (rclock_any _ _).mono ?_; rintro e w' ⟨rfl, rfl⟩) | (go_at_call 31; refine (rupTo_any _ _ _).mono ?_; rintro e w' ⟨rfl, rfl⟩))
    go_ret
    exact ⟨rfl, (Below.refl _ _).alloc (Nat.le_refl _) _⟩
  · rw [wmay_of hv hn hl]
    go_enter Try.func26, Try.ntmps26
    go_wp2_with (first | (go_at_call 21; refine (rvalue_any _ _).mono ?_; rintro e w' ⟨rfl, rfl⟩) | (go_at_call 36; refine (rclock_any _ _).mono ?_; rintro e w' ⟨rfl, rfl⟩) | (go_at_call 31; refine (rupTo_any _ _ _).mono ?_; rintro e w' ⟨rfl, rfl⟩))
    go_ret
    exact ⟨rfl, (Below.refl _ _).alloc (Nat.le_refl _) _⟩


theorem free_same {v n l : Int} (h : wmay v n l = true) : wmay v n 0 = true := by
  obtain ⟨a, b, _⟩ := wmay_yes h
  exact wmay_of a b rfl


end Go.Proofs.Ytmjclmjnkmhciaa
