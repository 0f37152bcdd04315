/-
  Sixteen words, and which of them were read: a row of sixteen bools. How many are true. No Go in sight.
-/
import Derived.Test.YtleemagdidffpaaReadsAwake
import Derived.Test.YtleemagdidffpaaPlain
namespace Go.Proofs.Ytleemagdidffpaa
open Go.RowKit

/-- How many of the first m are so. -/
def cnt (f : Nat → Bool) : Nat → Nat
  | 0 => 0
  | k + 1 => cnt f k + (bif f k then 1 else 0)
theorem cnt_le (f : Nat → Bool) : ∀ m, cnt f m ≤ m
  | 0 => Nat.le_refl _
  | m + 1 => by
    have := cnt_le f m
    rw [cnt]
    cases f m <;> simp only [cond_true, cond_false] <;> omega
theorem cnt_lt {f : Nat → Bool} {k : Nat} (h : f k = false) : ∀ {m : Nat}, k < m → cnt f m < m
  | 0, hk => absurd hk (Nat.not_lt_zero _)
  | m + 1, hk => by
    rw [cnt]
    by_cases e : k = m
    · subst e
      have := cnt_le f k
      rw [h, cond_false]
      omega
    · have := cnt_lt h (m := m) (by omega)
      cases f m <;> simp only [cond_true, cond_false] <;> omega
/-- One more is so. -/
def updF (f : Nat → Bool) (k : Nat) (j : Nat) : Bool := bif j == k then true else f j
theorem updF_same (f : Nat → Bool) (k : Nat) : updF f k k = true := by unfold updF; simp
theorem updF_other (f : Nat → Bool) {k j : Nat} (h : j ≠ k) : updF f k j = f j := by unfold updF; rw [beq_eq_false_iff_ne.2 h]; rfl
theorem updF_old {f : Nat → Bool} {k : Nat} (h : f k = true) (j : Nat) : updF f k j = f j := by
  by_cases e : j = k
  · subst e; rw [updF_same, h]
  · exact updF_other f e
theorem cnt_congr {f g : Nat → Bool} : ∀ {m : Nat}, (∀ j, j < m → f j = g j) → cnt f m = cnt g m
  | 0, _ => rfl
  | m + 1, h => by rw [cnt, cnt, cnt_congr fun j hj => h j (by omega), h m (by omega)]
theorem cnt_upd {f : Nat → Bool} {k : Nat} (h : f k = false) : ∀ {m : Nat}, k < m → cnt (updF f k) m = cnt f m + 1
  | 0, hk => absurd hk (Nat.not_lt_zero _)
  | m + 1, hk => by
    rw [cnt, cnt]
    by_cases e : k = m
    · subst e
      rw [updF_same, h, cond_true, cond_false, cnt_congr (g := f) fun j hj => updF_other f (by omega)]
    · rw [updF_other f (by omega), cnt_upd h (by omega)]
      omega

/-- Reads, and which of the sixteen words they are of. -/
structure Sixteens (n : Nat) (z : Nat → Int) (f : Nat → Bool) : Prop where
  may : readsMay n z = true
  named : ∀ k, k < 16 → f k = !noneTo z ((k / 4 : Nat) : Int) ((k % 4 : Nat) : Int) n
  many : cnt f 16 = n
theorem cnt_none : ∀ m, cnt (fun _ => false) m = 0
  | 0 => rfl
  | m + 1 => by rw [cnt, cnt_none m]; rfl
theorem Sixteens.none (z : Nat → Int) : Sixteens 0 z (fun _ => false) := ⟨rfl, fun _ _ => rfl, cnt_none 16⟩
theorem Sixteens.ok {n : Nat} {z : Nat → Int} {f : Nat → Bool} (h : Sixteens n z f) {k : Nat} (hk : k < 16) {v : Int} (hv : upToV v 65535 = true) : withOk n z ((k / 4 : Nat) : Int) ((k % 4 : Nat) : Int) v = true ∧ readMay ((k / 4 : Nat) : Int) ((k % 4 : Nat) : Int) v = true := by
  have hr : readMay ((k / 4 : Nat) : Int) ((k % 4 : Nat) : Int) v = true := readMay_of (upToV_of (by omega) (by omega)) (upToV_of (by omega) (by omega)) hv
  refine ⟨?_, hr⟩
  rw [withOk_mk h.may hr]
  have hn := h.named k hk
  cases e : f k
  · have := cnt_lt e (m := 16) hk
    rw [h.many] at this
    rw [decide_eq_true (show n + 1 ≤ 16 by omega), Bool.or_true]
  · rw [e] at hn
    rw [← hn]
    rfl
theorem Sixteens.old {n : Nat} {z : Nat → Int} {f : Nat → Bool} (h : Sixteens n z f) {k : Nat} (hk : k < 16) {v : Int} (hv : upToV v 65535 = true) (e : f k = true) :
    withN n z ((k / 4 : Nat) : Int) ((k % 4 : Nat) : Int) v = n ∧ Sixteens n (putR z n ((k / 4 : Nat) : Int) ((k % 4 : Nat) : Int) v) (updF f k) := by
  have hn := h.named k hk
  rw [e] at hn
  have hnn : noneTo z ((k / 4 : Nat) : Int) ((k % 4 : Nat) : Int) n = false := by
    cases e : noneTo z ((k / 4 : Nat) : Int) ((k % 4 : Nat) : Int) n
    · rfl
    · rw [e] at hn; cases hn
  have old : ∀ j, j < n * 3 → putR z n ((k / 4 : Nat) : Int) ((k % 4 : Nat) : Int) v j = z j := fun j hj => putR_old hj
  refine ⟨by unfold withN; rw [(h.ok hk hv).1, hnn]; rfl, ?_, fun j hj => ?_, ?_⟩
  · rw [readsMay_congr old]; exact h.may
  · rw [updF_old e, noneTo_congr old]; exact h.named j hj
  · rw [cnt_congr fun j _ => updF_old e j]; exact h.many
theorem Sixteens.new {n : Nat} {z : Nat → Int} {f : Nat → Bool} (h : Sixteens n z f) {k : Nat} (hk : k < 16) {v : Int} (hv : upToV v 65535 = true) (e : f k = false) :
    withN n z ((k / 4 : Nat) : Int) ((k % 4 : Nat) : Int) v = n + 1 ∧ Sixteens (n + 1) (putR z n ((k / 4 : Nat) : Int) ((k % 4 : Nat) : Int) v) (updF f k) ∧ n < 16 := by
  have hn := h.named k hk
  rw [e] at hn
  have hnn : noneTo z ((k / 4 : Nat) : Int) ((k % 4 : Nat) : Int) n = true := by
    cases e : noneTo z ((k / 4 : Nat) : Int) ((k % 4 : Nat) : Int) n
    · rw [e] at hn; cases hn
    · rfl
  have old : ∀ j, j < n * 3 → putR z n ((k / 4 : Nat) : Int) ((k % 4 : Nat) : Int) v j = z j := fun j hj => putR_old hj
  obtain ⟨e0, e1, _⟩ := putR_new z n ((k / 4 : Nat) : Int) ((k % 4 : Nat) : Int) v
  have hlt := cnt_lt e (m := 16) hk
  rw [h.many] at hlt
  refine ⟨by unfold withN; rw [(h.ok hk hv).1, hnn]; rfl, ⟨readsMay_more h.may (h.ok hk hv).2 hnn (by omega), fun j hj => ?_, ?_⟩, hlt⟩
  · have more : noneTo (putR z n ((k / 4 : Nat) : Int) ((k % 4 : Nat) : Int) v) ((j / 4 : Nat) : Int) ((j % 4 : Nat) : Int) (n + 1) = (noneTo z ((j / 4 : Nat) : Int) ((j % 4 : Nat) : Int) n && !((((k / 4 : Nat) : Int) == ((j / 4 : Nat) : Int)) && (((k % 4 : Nat) : Int) == ((j % 4 : Nat) : Int)))) := by
      rw [← noneTo_congr old]
      show (allTo _ n && !isWord _ _ _ n) = _
      unfold isWord
      rw [e0, e1]
      rfl
    rw [more]
    by_cases ej : j = k
    · subst ej
      rw [updF_same]
      simp
    · rw [updF_other f ej, h.named j hj]
      have : ((((k / 4 : Nat) : Int) == ((j / 4 : Nat) : Int)) && (((k % 4 : Nat) : Int) == ((j % 4 : Nat) : Int))) = false := by
        rw [Bool.and_eq_false_iff, beq_eq_false_iff_ne, beq_eq_false_iff_ne]
        omega
      rw [this, Bool.not_false, Bool.and_true]
  · rw [cnt_upd e hk, h.many]

theorem quarter (k : Nat) : (k : Int) / 4 = ((k / 4 : Nat) : Int) := by omega
theorem rest4 (k : Nat) : bits .and .i64 (k : Int) 3 = ((k % 4 : Nat) : Int) := by rw [mask3]; omega

/-- The cells of a row of bools. -/
def boolF (f : Nat → Bool) (i : Nat) : Value := .bool (f i)
theorem Own.setBool {w : World} {b m : Nat} {f : Nat → Bool} (h : Own w b m (boolF f)) (i : Nat) : Own (w.setCell ⟨b, i, none⟩ (.bool true)) b m (boolF (updF f i)) :=
  (h.set i (.bool true)).congr fun j _ => by
    unfold boolF updF
    by_cases e : j = i
    · rw [if_pos e, e]; simp
    · rw [if_neg e, beq_eq_false_iff_ne.2 e]; rfl
theorem Own.grown {w w' : World} {b m : Nat} {f : Nat → Value} {row : Option Nat} (h : Own w b m f) (hg : w.grownBy w' row) (hr : some b ≠ row) : Own w' b m f := by
  have hlt := h.lt
  obtain ⟨l, ⟨t, hl⟩, hf⟩ := h
  exact ⟨l, ⟨t, by rw [hg.block b hlt hr]; exact hl⟩, hf⟩
theorem owns_lt {w : World} {base : Nat} {e : TypeId} {size : Nat} {v : Value} {n : Nat} {xs : List Value} (h : w.ownsRow base e size v n xs) : ∀ k, v.ownBlock = some k → base ≤ k ∧ k < w.heap.size := by
  intro k hk
  rcases h.2 with ⟨rfl, _⟩ | ⟨g, cap, cur, rfl, hg, hh, _⟩
  · simp [Value.ownBlock] at hk
  · simp only [Value.ownBlock, Option.some.injEq] at hk
    have := (Array.getElem?_eq_some_iff.1 hh).1
    omega

theorem owns_far {w : World} {base : Nat} {e : TypeId} {size : Nat} {v : Value} {n : Nat} {xs : List Value} (h : w.ownsRow base e size v n xs) {a : Addr} (ha : a.block < base) (x : Value) : (w.setCell a x).ownsRow base e size v n xs := by
  rcases h with ⟨hl, h2 | ⟨g, cap, cur, hv, hg, hh, r⟩⟩
  · exact ⟨hl, .inl h2⟩
  · exact ⟨hl, .inr ⟨g, cap, cur, hv, hg, by rw [Below.heap_setCell _ _ _ _ (by omega)]; exact hh, r⟩⟩

end Go.Proofs.Ytleemagdidffpaa
