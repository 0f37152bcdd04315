/-
  A row of bools: how many are true; one more is. The cells of such a row; rows that other writes leave as they are. Nothing of a program here.
-/
import Derived.Test.YtjnolmpalfjacaaOwn
import Derived.Test.YtjnolmpalfjacaaPlain
namespace Go.Proofs.Ytjnolmpalfjacaa
open Go.RowKit

/-- How many of the first m are so. -/
def cnt (f : Nat → Bool) : Nat → Nat
  | 0 => 0
  | k + 1 => cnt f k + (bif f k then 1 else 0)
theorem cnt_le (f : Nat → Bool) : ∀ m, cnt f m ≤ m
  | 0 => Nat.le_refl _
  | m + 1 => by
    have := cnt_le f m
    rw [cnt]
    cases f m <;> simp only [cond_true, cond_false] <;> omega
theorem cnt_lt {f : Nat → Bool} {k : Nat} (h : f k = false) : ∀ {m : Nat}, k < m → cnt f m < m
  | 0, hk => absurd hk (Nat.not_lt_zero _)
  | m + 1, hk => by
    rw [cnt]
    by_cases e : k = m
    · subst e
      have := cnt_le f k
      rw [h, cond_false]
      omega
    · have := cnt_lt h (m := m) (by omega)
      cases f m <;> simp only [cond_true, cond_false] <;> omega
/-- One more is so. -/
def updF (f : Nat → Bool) (k : Nat) (j : Nat) : Bool := bif j == k then true else f j
theorem updF_same (f : Nat → Bool) (k : Nat) : updF f k k = true := by unfold updF; simp
theorem updF_other (f : Nat → Bool) {k j : Nat} (h : j ≠ k) : updF f k j = f j := by unfold updF; rw [beq_eq_false_iff_ne.2 h]; rfl
theorem updF_old {f : Nat → Bool} {k : Nat} (h : f k = true) (j : Nat) : updF f k j = f j := by
  by_cases e : j = k
  · subst e; rw [updF_same, h]
  · exact updF_other f e
theorem cnt_congr {f g : Nat → Bool} : ∀ {m : Nat}, (∀ j, j < m → f j = g j) → cnt f m = cnt g m
  | 0, _ => rfl
  | m + 1, h => by rw [cnt, cnt, cnt_congr fun j hj => h j (by omega), h m (by omega)]
theorem cnt_upd {f : Nat → Bool} {k : Nat} (h : f k = false) : ∀ {m : Nat}, k < m → cnt (updF f k) m = cnt f m + 1
  | 0, hk => absurd hk (Nat.not_lt_zero _)
  | m + 1, hk => by
    rw [cnt, cnt]
    by_cases e : k = m
    · subst e
      rw [updF_same, h, cond_true, cond_false, cnt_congr (g := f) fun j hj => updF_other f (by omega)]
    · rw [updF_other f (by omega), cnt_upd h (by omega)]
      omega

theorem quarter (k : Nat) : (k : Int) / 4 = ((k / 4 : Nat) : Int) := by omega
theorem rest4 (k : Nat) : bits .and .i64 (k : Int) 3 = ((k % 4 : Nat) : Int) := by rw [mask3]; omega

/-- The cells of a row of bools. -/
def boolF (f : Nat → Bool) (i : Nat) : Value := .bool (f i)
theorem Own.setBool {w : World} {b m : Nat} {f : Nat → Bool} (h : Own w b m (boolF f)) (i : Nat) : Own (w.setCell ⟨b, i, none⟩ (.bool true)) b m (boolF (updF f i)) :=
  (h.set i (.bool true)).congr fun j _ => by
    unfold boolF updF
    by_cases e : j = i
    · rw [if_pos e, e]; simp
    · rw [if_neg e, beq_eq_false_iff_ne.2 e]; rfl
theorem Own.grown {w w' : World} {b m : Nat} {f : Nat → Value} {row : Option Nat} (h : Own w b m f) (hg : w.grownBy w' row) (hr : some b ≠ row) : Own w' b m f := by
  have hlt := h.lt
  obtain ⟨l, ⟨t, hl⟩, hf⟩ := h
  exact ⟨l, ⟨t, by rw [hg.block b hlt hr]; exact hl⟩, hf⟩
theorem owns_lt {w : World} {base : Nat} {e : TypeId} {size : Nat} {v : Value} {n : Nat} {xs : List Value} (h : w.ownsRow base e size v n xs) : ∀ k, v.ownBlock = some k → base ≤ k ∧ k < w.heap.size := by
  intro k hk
  rcases h.2 with ⟨rfl, _⟩ | ⟨g, cap, cur, rfl, hg, hh, _⟩
  · simp [Value.ownBlock] at hk
  · simp only [Value.ownBlock, Option.some.injEq] at hk
    have := (Array.getElem?_eq_some_iff.1 hh).1
    omega

theorem owns_far {w : World} {base : Nat} {e : TypeId} {size : Nat} {v : Value} {n : Nat} {xs : List Value} (h : w.ownsRow base e size v n xs) {a : Addr} (ha : a.block < base) (x : Value) : (w.setCell a x).ownsRow base e size v n xs := by
  rcases h with ⟨hl, h2 | ⟨g, cap, cur, hv, hg, hh, r⟩⟩
  · exact ⟨hl, .inl h2⟩
  · exact ⟨hl, .inr ⟨g, cap, cur, hv, hg, by rw [Below.heap_setCell _ _ _ _ (by omega)]; exact hh, r⟩⟩

end Go.Proofs.Ytjnolmpalfjacaa
