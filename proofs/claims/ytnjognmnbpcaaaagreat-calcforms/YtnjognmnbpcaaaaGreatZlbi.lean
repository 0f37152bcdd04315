/-
  One of a few numbers; machines that may not be, by one number.
-/
import Derived.Test.YtnjognmnbpcaaaaGreatZlad
import Derived.Test.YtnjognmnbpcaaaaGreatZlag
namespace Go.Proofs.YtnjognmnbpcaaaaGreat
open Go.RowKit
set_option linter.unusedVariables false
theorem pick_int (l : List Int) (p : Nat) (h : p < l.length) : ∃ v, (l.map (Value.int .i64))[p]? = some (.int .i64 v) ∧ v ∈ l := ⟨l[p], by simp [h], List.getElem_mem h⟩
theorem pick_two (x y : Int) (p : Nat) (h : p < 2) : ∃ v, [Value.int .i64 x, Value.int .i64 y][p]? = some (.int .i64 v) ∧ (v = x ∨ v = y) := by
  obtain ⟨v, h1, h2⟩ := pick_int [x, y] p h
  refine ⟨v, h1, by simpa using h2⟩
theorem MachIs.ceilTo {W : World} {A : MacM} {M : PMach} (h : MachIs W A M) (c : Int) : MachIs W A { M with ceil := c } := ⟨h.four, h.clocks, h.words, h.sess, h.trace⟩
theorem may_ceil {M : PMach} (h : upToV M.ceil 65535 = false) : machMay M = false := by
  unfold machMay
  rw [h]
  simp
theorem here_may {M : PMach} (i : Int) (h : machMay M = false) : hereP M i = false := by
  unfold hereP
  rw [h, Bool.false_and]
theorem here_out {M : PMach} {i : Int} (h : i < 0 ∨ (M.sess.length : Int) ≤ i) : hereP M i = false := by
  unfold hereP
  rcases h with h | h
  · rw [decide_eq_false (by omega : ¬ 0 ≤ i), Bool.false_and, Bool.and_false]
  · rw [decide_eq_false (by omega : ¬ i < (M.sess.length : Int)), Bool.and_false, Bool.and_false]
/-- A shift by two, by three; the lowest bits. -/
theorem bit_pick (x : Int) (m : Nat) (D : Int) (hm : D = 2 ^ m) (h : bits .and .i64 x (D - 1) = x % D) (hD : 0 < D) : ∃ p : Nat, bits .and .i64 x (D - 1) = p ∧ (p : Int) < D := ⟨(x % D).toNat, by rw [h]; have := Int.emod_nonneg x (by omega : D ≠ 0); omega, by have := Int.emod_lt_of_pos x hD; have := Int.emod_nonneg x (by omega : D ≠ 0); omega⟩
end Go.Proofs.YtnjognmnbpcaaaaGreat
