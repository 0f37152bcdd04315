/-
  Sixteen words, which of them are to be written, and what: two rows of sixteen. No Go in sight.
-/
import Derived.Test.YtjnolmpalfjacaaWritesetRowsSaid
import Derived.Test.YtjnolmpalfjacaaCnt
namespace Go.Proofs.Ytjnolmpalfjacaa
open Go.RowKit

/-- Writes, which of the sixteen words they are of, and what is to be written there. -/
structure Lasts (n : Nat) (z : Nat → Int) (f : Nat → Bool) (g : Nat → Int) : Prop where
  wr : Wr n z
  has : ∀ k, k < 16 → f k = hasW n z ((k / 4 : Nat) : Int) ((k % 4 : Nat) : Int)
  val : ∀ k, k < 16 → f k = true → InW n z ((k / 4 : Nat) : Int) ((k % 4 : Nat) : Int) (g k)
  many : cnt f 16 = n
theorem Lasts.none (z g : Nat → Int) : Lasts 0 z (fun _ => false) g :=
  ⟨⟨fun k hk => absurd hk (Nat.not_lt_zero _), fun j k _ hk => absurd hk (Nat.not_lt_zero _), Nat.zero_le _⟩, fun _ _ => rfl, fun _ _ h => (by cases h), rfl⟩

section
variable {n : Nat} {z : Nat → Int} {f : Nat → Bool} {g : Nat → Int}
theorem Lasts.ok (h : Lasts n z f g) {k : Nat} (hk : k < 16) {v : Int} (hv : 0 ≤ v ∧ v ≤ 255) : withWOk n z ((k / 4 : Nat) : Int) ((k % 4 : Nat) : Int) v = true :=
  withWOk_mk h.wr.may (writeMay_of ⟨⟨by omega, by omega⟩, ⟨by omega, by omega⟩, hv⟩)
theorem with_new_n {l i v : Int} (h : withWOk n z l i v = true) (h' : hasW n z l i = false) : withWN n z l i v = n + 1 := by
  rw [withWN_yes h]
  have := posW_le n z l i
  unfold toW
  rw [h', cond_false]
  omega
/-- One more is written: which words, and what. -/
theorem Lasts.step (h : Lasts n z f g) {k : Nat} (hk : k < 16) {v : Int} (hv : 0 ≤ v ∧ v ≤ 255) :
    Lasts (withWN n z ((k / 4 : Nat) : Int) ((k % 4 : Nat) : Int) v) (withWZ n z ((k / 4 : Nat) : Int) ((k % 4 : Nat) : Int) v) (updF f k) (updZ g k v) := by
  have ok := h.ok hk hv
  have hin := with_in ok
  have apart : ∀ j, j < 16 → j ≠ k → ¬ (((j / 4 : Nat) : Int) = ((k / 4 : Nat) : Int) ∧ ((j % 4 : Nat) : Int) = ((k % 4 : Nat) : Int)) := fun j _ hj => by omega
  refine ⟨with_wr ok, fun j hj => ?_, fun j hj hf => ?_, ?_⟩
  · by_cases e : j = k
    · subst e
      rw [updF_same]
      exact (InW.has ((hin _ _ v).2 (.inl ⟨rfl, rfl, rfl⟩))).symm
    · rw [updF_other f e, h.has j hj]
      cases e1 : hasW n z ((j / 4 : Nat) : Int) ((j % 4 : Nat) : Int)
      · cases e2 : hasW (withWN n z ((k / 4 : Nat) : Int) ((k % 4 : Nat) : Int) v) (withWZ n z ((k / 4 : Nat) : Int) ((k % 4 : Nat) : Int) v) ((j / 4 : Nat) : Int) ((j % 4 : Nat) : Int)
        · rfl
        · rcases (hin _ _ _).1 (inW_of_has (with_wr ok) e2) with ⟨x1, x2, _⟩ | ⟨_, x⟩
          · exact absurd ⟨x1, x2⟩ (apart j hj e)
          · rw [x.has] at e1; cases e1
      · exact (InW.has ((hin _ _ _).2 (.inr ⟨apart j hj e, inW_of_has h.wr e1⟩))).symm
  · by_cases e : j = k
    · subst e
      unfold updZ
      rw [if_pos rfl]
      exact (hin _ _ _).2 (.inl ⟨rfl, rfl, rfl⟩)
    · rw [updF_other f e] at hf
      unfold updZ
      rw [if_neg e]
      exact (hin _ _ _).2 (.inr ⟨apart j hj e, h.val j hj hf⟩)
  · cases e : f k
    · rw [cnt_upd e hk, h.many, with_new_n ok (by rw [← h.has k hk, e])]
    · rw [cnt_congr fun j _ => updF_old e j, h.many, with_same_n ok (by rw [← h.has k hk, e])]
theorem Lasts.find (h : Lasts n z f g) {k : Nat} (hk : k < 16) :
    findIs n z ((k / 4 : Nat) : Int) ((k % 4 : Nat) : Int) = f k ∧ (f k = true → findVal n z ((k / 4 : Nat) : Int) ((k % 4 : Nat) : Int) = g k) := by
  refine ⟨by rw [findIs, h.wr.may, h.has k hk]; rfl, fun hf => (find_in h.wr (h.val k hk hf)).2⟩
end

end Go.Proofs.Ytjnolmpalfjacaa
