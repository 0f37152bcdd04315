/-
  A row of bools: how many are true; one more is. The cells of such a row; rows that other writes leave as they are. Nothing of a program here.
-/
import Derived.Test.YtaaenolbfhhnfaaGreatZlab
namespace Go.Proofs.YtaaenolbfhhnfaaGreat
open Go.RowKit
/-- How many of the first m are so. -/
def cnt (f : Nat → Bool) : Nat → Nat
  | 0 => 0
  | k + 1 => cnt f k + (bif f k then 1 else 0)
theorem cnt_le (f : Nat → Bool) : ∀ m, cnt f m ≤ m
  | 0 => Nat.le_refl _
  | m + 1 => by
    have := cnt_le f m
    rw [cnt]
    cases f m <;> simp only [cond_true, cond_false] <;> omega
theorem cnt_lt {f : Nat → Bool} {k : Nat} (h : f k = false) : ∀ {m : Nat}, k < m → cnt f m < m
  | 0, hk => absurd hk (Nat.not_lt_zero _)
  | m + 1, hk => by
    rw [cnt]
    by_cases e : k = m
    · subst e
      have := cnt_le f k
      rw [h, cond_false]
      omega
    · have := cnt_lt h (m := m) (by omega)
      cases f m <;> simp only [cond_true, cond_false] <;> omega
/-- One more is so. -/
def updF (f : Nat → Bool) (k : Nat) (j : Nat) : Bool := bif j == k then true else f j
theorem updF_same (f : Nat → Bool) (k : Nat) : updF f k k = true := by unfold updF; simp
theorem updF_other (f : Nat → Bool) {k j : Nat} (h : j ≠ k) : updF f k j = f j := by unfold updF; rw [beq_eq_false_iff_ne.2 h]; rfl
theorem cnt_congr {f g : Nat → Bool} : ∀ {m : Nat}, (∀ j, j < m → f j = g j) → cnt f m = cnt g m
  | 0, _ => rfl
  | m + 1, h => by rw [cnt, cnt, cnt_congr fun j hj => h j (by omega), h m (by omega)]
theorem cnt_upd {f : Nat → Bool} {k : Nat} (h : f k = false) : ∀ {m : Nat}, k < m → cnt (updF f k) m = cnt f m + 1
  | 0, hk => absurd hk (Nat.not_lt_zero _)
  | m + 1, hk => by
    rw [cnt, cnt]
    by_cases e : k = m
    · subst e
      rw [updF_same, h, cond_true, cond_false, cnt_congr (g := f) fun j hj => updF_other f (by omega)]
    · rw [updF_other f (by omega), cnt_upd h (by omega)]
      omega
theorem Own.grown {w w' : World} {b m : Nat} {f : Nat → Value} {row : Option Nat} (h : Own w b m f) (hg : w.grownBy w' row) (hr : some b ≠ row) : Own w' b m f := by
  have hlt := h.lt
  obtain ⟨l, ⟨t, hl⟩, hf⟩ := h
  exact ⟨l, ⟨t, by rw [hg.block b hlt hr]; exact hl⟩, hf⟩
end Go.Proofs.YtaaenolbfhhnfaaGreat
