/-
  A list of structs of three numbers that was made behind a block, or nothing. Nothing of a program here.
-/
import Derived.Test.YtjnolmpalfjacaaOwn
namespace Go.Proofs.Ytjnolmpalfjacaa
open Go.RowKit

/-- A list that was made behind a block, or nothing. -/
def Mine (B : Nat) (w : World) (a : Option Addr) (n c : Nat) (z : Nat → Int) : Prop :=
  n ≤ c ∧ (a = none → n = 0 ∧ c = 0) ∧ (0 < n → ∃ b, a = some ⟨b, 0, none⟩ ∧ B ≤ b ∧ Own w b (n * 3) (intF z))
theorem Mine.row {B : Nat} {w : World} {a : Option Addr} {n c : Nat} {z : Nat → Int} (h : Mine B w a n c z) : Row w a (n * 3) fun i => .int .i64 (z i) := by
  by_cases hp : 0 < n
  · obtain ⟨b, e, _, ho⟩ := h.2.2 hp
    rw [e]
    exact ho.row
  · rw [show n = 0 by omega, Nat.zero_mul]
    exact row_zero _ _ _
theorem Mine.on {B : Nat} {w w' : World} {a : Option Addr} {n c : Nat} {z : Nat → Int} (h : Mine B w a n c z) (hb : Below w.heap.size w w') : Mine B w' a n c z :=
  ⟨h.1, h.2.1, fun hp => by obtain ⟨b, e, hB, ho⟩ := h.2.2 hp; exact ⟨b, e, hB, ho.on hb⟩⟩
theorem Mine.far {B : Nat} {w : World} {a : Option Addr} {n c : Nat} {z : Nat → Int} (h : Mine B w a n c z) {x : Addr} (hx : x.block < B) (v : Value) : Mine B (w.setCell x v) a n c z :=
  ⟨h.1, h.2.1, fun hp => by obtain ⟨b, e, hB, ho⟩ := h.2.2 hp; exact ⟨b, e, hB, ho.far v (by omega)⟩⟩
theorem Mine.less {B B' : Nat} {w : World} {a : Option Addr} {n c : Nat} {z : Nat → Int} (h : Mine B w a n c z) (hB : B' ≤ B) : Mine B' w a n c z :=
  ⟨h.1, h.2.1, fun hp => by obtain ⟨b, e, hB', ho⟩ := h.2.2 hp; exact ⟨b, e, by omega, ho⟩⟩

end Go.Proofs.Ytjnolmpalfjacaa
