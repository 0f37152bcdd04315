/-
  A row's three cells in every world of a region's class. Nothing of a program here.
-/
import Derived.Test.YtjnolmpalfjacaaKin
import Derived.Test.YtjnolmpalfjacaaAt3
namespace Go.Proofs.Ytjnolmpalfjacaa
open Go.RowKit

/-- One of a row of threes, in every world that has it. -/
theorem Row.kin3 {W : World} {a : Option Addr} {n : Nat} {f : Nat → Value} (h : Row W a (n * 3) f) (k : Nat) (hk : k < n) :
    ∃ b off, a = some ⟨b, off, none⟩ ∧ b < W.heap.size ∧ (∀ u : Kin W, u.at_.cell? ⟨b, off + k * 3, none⟩ = some (f (k * 3))) ∧ (∀ u : Kin W, u.at_.cell? ⟨b, off + k * 3 + 1, none⟩ = some (f (k * 3 + 1))) ∧ (∀ u : Kin W, u.at_.cell? ⟨b, off + k * 3 + 2, none⟩ = some (f (k * 3 + 2))) := by
  obtain ⟨b, off, e, hb, c0, c1, c2⟩ := h.at3 k hk
  exact ⟨b, off, e, hb, fun u => (u.cell b _ hb).trans c0, fun u => (u.cell b _ hb).trans c1, fun u => (u.cell b _ hb).trans c2⟩


end Go.Proofs.Ytjnolmpalfjacaa
