/-
  A row of structs of three numbers: one of them. Nothing of a program here.
-/
import Derived.Test.YtmjclmjnkmhciaaRows
import Derived.Test.YtmjclmjnkmhciaaRow
import Derived.Test.YtmjclmjnkmhciaaMem
import Derived.Test.YtmjclmjnkmhciaaEqTo
import Derived.Deep.QuietTactic
import Derived.BigQuiet
namespace Go.Proofs.Ytmjclmjnkmhciaa
open Go.RowKit

/-- One of a row of words: its three cells. -/
theorem Row.at3 {w : World} {a : Option Addr} {n : Nat} {f : Nat → Value} (h : Row w a (n * 3) f) (k : Nat) (hk : k < n) :
    ∃ b off, a = some ⟨b, off, none⟩ ∧ b < w.heap.size ∧ w.cell? ⟨b, off + k * 3, none⟩ = some (f (k * 3)) ∧ w.cell? ⟨b, off + k * 3 + 1, none⟩ = some (f (k * 3 + 1)) ∧ w.cell? ⟨b, off + k * 3 + 2, none⟩ = some (f (k * 3 + 2)) := by
  obtain ⟨b, off, rfl, hb, c0⟩ := h (k * 3) (by omega)
  obtain ⟨_, _, e, _, c1⟩ := h (k * 3 + 1) (by omega)
  obtain ⟨_, _, e2, _, c2⟩ := h (k * 3 + 2) (by omega)
  simp only [Option.some.injEq, Addr.mk.injEq] at e e2
  obtain ⟨rfl, rfl, _⟩ := e
  obtain ⟨rfl, rfl, _⟩ := e2
  exact ⟨b, off, rfl, hb, c0, c1, c2⟩

end Go.Proofs.Ytmjclmjnkmhciaa
