/-
  The document's answers to chapter 3: they are those of package word (the same names in their contracts).
-/
import Derived.Test.YtfekcjbnlknmbaaWordCalls
namespace Go.Proofs.Ytfekcjbnlknmbaa
open Go.RowKit

theorem rupTo_any (n m : Int) (w : World) :
    Calls Try.prog 31 #[.int .i64 n, .int .i64 0, .int .i64 m] w fun e w' => e = .returned (.bool (upToV n m)) ∧ w = w' := by
  unfold upToV
  by_cases h0 : 0 ≤ n
  · by_cases h1 : n ≤ m
    · rw [decide_eq_true (show 0 ≤ n ∧ n ≤ m from ⟨h0, h1⟩)]
      go_enter Try.func31, Try.ntmps31
      go_wp2
      go_ret
      exact ⟨rfl, rfl⟩
    · rw [decide_eq_false (show ¬ (0 ≤ n ∧ n ≤ m) from fun x => h1 x.2)]
      go_enter Try.func31, Try.ntmps31
      go_wp2
      go_ret
      exact ⟨rfl, rfl⟩
  · rw [decide_eq_false (show ¬ (0 ≤ n ∧ n ≤ m) from fun x => h0 x.1)]
    go_enter Try.func31, Try.ntmps31
    go_wp2
    go_ret
    exact ⟨rfl, rfl⟩
theorem rvalue_any (n : Int) (w : World) :
    Calls Try.prog 21 #[.int .i64 n] w fun e w' => e = .returned (.bool (upToV n 255)) ∧ w = w' := by
  go_enter Try.func21, Try.ntmps21
  go_wp2_with (go_at_call 31; refine (rupTo_any _ _ _).mono ?_; rintro e w' ⟨rfl, rfl⟩)
  go_ret
  exact ⟨rfl, rfl⟩
theorem rclock_any (n : Int) (w : World) :
    Calls Try.prog 35 #[.int .i64 n] w fun e w' => e = .returned (.bool (upToV n 65535)) ∧ w = w' := by
  go_enter Try.func35, Try.ntmps35
  go_wp2_with (go_at_call 31; refine (rupTo_any _ _ _).mono ?_; rintro e w' ⟨rfl, rfl⟩)
  go_ret
  exact ⟨rfl, rfl⟩

set_option linter.unusedSimpArgs false
theorem rwmay_any (v n l : Int) (w : World) :
    Calls Try.prog 26 #[wordA v n l] w fun e w' => e = .returned (.bool (wmay v n l)) ∧ Below w.heap.size w w' := by
  unfold wordA
  cases hv : upToV v 255
  · rw [wmay_no1 hv]
    go_enter Try.func26, Try.ntmps26
    go_wp2_with (first | (go_at_call 21; refine (rvalue_any _ _).mono ?_; rintro e w' ⟨rfl, rfl⟩) | (go_at_call 35; refine (rclock_any _ _).mono ?_; rintro e w' ⟨rfl, rfl⟩) | (go_at_call 31; refine (rupTo_any _ _ _).mono ?_; rintro e w' ⟨rfl, rfl⟩))
    go_ret
    exact ⟨rfl, (Below.refl _ _).alloc (Nat.le_refl _) _⟩
  cases hn : upToV n 65535
  · rw [wmay_no2 hn]
    go_enter Try.func26, Try.ntmps26
    go_wp2_with (first | (go_at_call 21; refine (rvalue_any _ _).mono ?_; rintro e w' ⟨rfl, rfl⟩) | (go_at_call 35; refine (rclock_any _ _).mono ?_; rintro e w' ⟨rfl, rfl⟩) | (go_at_call 31; refine (rupTo_any _ _ _).mono ?_; rintro e w' ⟨rfl, rfl⟩))
    go_ret
    exact ⟨rfl, (Below.refl _ _).alloc (Nat.le_refl _) _⟩
  cases hl : upToV l 255
  · rw [wmay_no3 hl]
    go_enter Try.func26, Try.ntmps26
    go_wp2_with (first | (go_at_call 21; refine (rvalue_any _ _).mono ?_; rintro e w' ⟨rfl, rfl⟩) | (go_at_call 35; refine (rclock_any _ _).mono ?_; rintro e w' ⟨rfl, rfl⟩) | (go_at_call 31; refine (rupTo_any _ _ _).mono ?_; rintro e w' ⟨rfl, rfl⟩))
    go_ret
    exact ⟨rfl, (Below.refl _ _).alloc (Nat.le_refl _) _⟩
  · rw [wmay_of hv hn hl]
    go_enter Try.func26, Try.ntmps26
    go_wp2_with (first | (go_at_call 21; refine (rvalue_any _ _).mono ?_; rintro e w' ⟨rfl, rfl⟩) | (go_at_call 35; refine (rclock_any _ _).mono ?_; rintro e w' ⟨rfl, rfl⟩) | (go_at_call 31; refine (rupTo_any _ _ _).mono ?_; rintro e w' ⟨rfl, rfl⟩))
    go_ret
    exact ⟨rfl, (Below.refl _ _).alloc (Nat.le_refl _) _⟩


theorem free_same {v n l : Int} (h : wmay v n l = true) : wmay v n 0 = true := by
  obtain ⟨a, b, _⟩ := wmay_yes h
  exact wmay_of a b rfl


end Go.Proofs.Ytfekcjbnlknmbaa
