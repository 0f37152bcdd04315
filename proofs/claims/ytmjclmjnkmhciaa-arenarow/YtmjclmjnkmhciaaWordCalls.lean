/-
  What the functions of package word hand back, at whatever words and numbers. They make memory of their own; nothing old has turned.
-/
import Derived.Test.YtmjclmjnkmhciaaRows
import Derived.Test.YtmjclmjnkmhciaaWordPure
import Derived.Test.YtmjclmjnkmhciaaRefSmall
import Derived.WalkKit
import Derived.WalkSpells
import Derived.Test.YtmjclmjnkmhciaaMem
namespace Go.Proofs.Ytmjclmjnkmhciaa
open Go.RowKit

theorem upTo_any (n m : Int) (w : World) :
    Calls Try.prog 34 #[.int .i64 n, .int .i64 m] w fun e w' => e = .returned (.bool (upToV n m)) ∧ w = w' := by
  unfold upToV
  by_cases h0 : 0 ≤ n
  · by_cases h1 : n ≤ m
    · rw [decide_eq_true (show 0 ≤ n ∧ n ≤ m from ⟨h0, h1⟩)]
      go_enter Try.func34, Try.ntmps34
      go_wp2
      go_ret
      exact ⟨rfl, rfl⟩
    · rw [decide_eq_false (show ¬ (0 ≤ n ∧ n ≤ m) from fun x => h1 x.2)]
      go_enter Try.func34, Try.ntmps34
      go_wp2
      go_ret
      exact ⟨rfl, rfl⟩
  · rw [decide_eq_false (show ¬ (0 ≤ n ∧ n ≤ m) from fun x => h0 x.1)]
    go_enter Try.func34, Try.ntmps34
    go_wp2
    go_ret
    exact ⟨rfl, rfl⟩

theorem wmay_any (v n l : Int) (w : World) :
    Calls Try.prog 24 #[wordA v n l] w fun e w' => e = .returned (.bool (wmay v n l)) ∧ Below w.heap.size w w' := by
  unfold wordA
  cases hv : upToV v 255
  · rw [wmay_no1 hv]
    go_enter Try.func24, Try.ntmps24
    go_wp2_with (go_at_call 34; refine (upTo_any _ _ _).mono ?_; rintro e w' ⟨rfl, rfl⟩)
    go_ret
    exact ⟨rfl, (Below.refl _ _).alloc (Nat.le_refl _) _⟩
  cases hn : upToV n 65535
  · rw [wmay_no2 hn]
    go_enter Try.func24, Try.ntmps24
    go_wp2_with (go_at_call 34; refine (upTo_any _ _ _).mono ?_; rintro e w' ⟨rfl, rfl⟩)
    go_ret
    exact ⟨rfl, (Below.refl _ _).alloc (Nat.le_refl _) _⟩
  cases hl : upToV l 255
  · rw [wmay_no3 hl]
    go_enter Try.func24, Try.ntmps24
    go_wp2_with (go_at_call 34; refine (upTo_any _ _ _).mono ?_; rintro e w' ⟨rfl, rfl⟩)
    go_ret
    exact ⟨rfl, (Below.refl _ _).alloc (Nat.le_refl _) _⟩
  · rw [wmay_of hv hn hl]
    go_enter Try.func24, Try.ntmps24
    go_wp2_with (go_at_call 34; refine (upTo_any _ _ _).mono ?_; rintro e w' ⟨rfl, rfl⟩)
    go_ret
    exact ⟨rfl, (Below.refl _ _).alloc (Nat.le_refl _) _⟩

theorem lockW_form {v n l i : Int} (h : (wmay v n l && upToV i 254) = false) : lockW v n l i = wordA 0 0 0 ∧ lockE v n l i = 300 := by
  unfold lockW lockE; rw [h]; exact ⟨rfl, rfl⟩
theorem lockW_locked {v n l i : Int} (h : wmay v n l = true) (hi : upToV i 254 = true) (hl : l ≠ 0) : lockW v n l i = wordA 0 0 0 ∧ lockE v n l i = 301 := by
  unfold lockW lockE; rw [h, hi]; simp [hl]
theorem lockW_ok {v n l i : Int} (h : wmay v n l = true) (hi : upToV i 254 = true) (hl : l = 0) : lockW v n l i = wordA v n (i + 1) ∧ lockE v n l i = 0 := by
  unfold lockW lockE; rw [h, hi]; simp [hl]
theorem writeW_form {v n l x y : Int} (h : (wmay v n l && wmay x y 0) = false) : writeW v n l x y = wordA 0 0 0 ∧ writeE v n l x y = 300 := by
  unfold writeW writeE; rw [h]; exact ⟨rfl, rfl⟩
theorem writeW_ok {v n l x y : Int} (h : wmay v n l = true) (hi : wmay x y 0 = true) : writeW v n l x y = wordA x y 0 ∧ writeE v n l x y = 0 := by
  unfold writeW writeE; rw [h, hi]; exact ⟨rfl, rfl⟩

set_option linter.unusedSimpArgs false

theorem lockW_word (v n l i : Int) : ∃ x y z, lockW v n l i = wordA x y z := by
  unfold lockW
  cases wmay v n l && upToV i 254
  · exact ⟨_, _, _, rfl⟩
  · by_cases h : l = 0
    · exact ⟨_, _, _, by rw [cond_true, if_pos h]⟩
    · exact ⟨_, _, _, by rw [cond_true, if_neg h]⟩
theorem writeW_word (v n l i j : Int) : ∃ x y z, writeW v n l i j = wordA x y z := by
  unfold writeW
  cases wmay v n l && wmay i j 0
  · exact ⟨_, _, _, rfl⟩
  · exact ⟨_, _, _, rfl⟩

end Go.Proofs.Ytmjclmjnkmhciaa
