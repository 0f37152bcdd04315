/-
  Nothing but some blocks has turned.
-/
import Derived.Test.YtmjclmjnkmhciaaOwn
namespace Go.Proofs.Ytmjclmjnkmhciaa
open Go.RowKit

/-- Nothing but the blocks from B up to C has turned. -/
structure Touch (B C : Nat) (w w' : World) : Prop where
  os : w'.os = w.os
  tape : w'.tape = w.tape
  output : w'.output = w.output
  size : w.heap.size ≤ w'.heap.size
  block : ∀ k, k < B ∨ C ≤ k → k < w.heap.size → w'.heap[k]? = w.heap[k]?

section
variable {B C : Nat} {w w' w'' : World}
theorem Touch.refl (B C : Nat) (w : World) : Touch B C w w := ⟨rfl, rfl, rfl, Nat.le_refl _, fun _ _ _ => rfl⟩
theorem Touch.trans (h : Touch B C w w') (k : Touch B C w' w'') : Touch B C w w'' :=
  ⟨k.os.trans h.os, k.tape.trans h.tape, k.output.trans h.output, Nat.le_trans h.size k.size, fun i hi hl => (k.block i hi (by have := h.size; omega)).trans (h.block i hi hl)⟩
theorem Touch.setCell (h : Touch B C w w') {a : Addr} (hB : B ≤ a.block) (hC : a.block < C) (v : Value) : Touch B C w (w'.setCell a v) :=
  h.trans ⟨rfl, rfl, rfl, by simp [World.setCell], fun k hk _ => Below.heap_setCell _ _ _ _ (by omega)⟩
theorem Touch.alloc (h : Touch B C w w') (o : Obj) : Touch B C w (w'.alloc o) :=
  h.trans ⟨rfl, rfl, rfl, by simp, fun k _ hl => Below.heap_alloc _ _ _ hl⟩
theorem Touch.below (h : Touch B C w w') (hB : B ≤ w.heap.size) : Below B w w' := ⟨h.os, h.tape, h.output, h.size, fun k hk => h.block k (.inl hk) (by omega)⟩
theorem Touch.mono {B' C' : Nat} (h : Touch B C w w') (hB : B' ≤ B) (hC : C ≤ C') : Touch B' C' w w' := ⟨h.os, h.tape, h.output, h.size, fun k hk => h.block k (by omega)⟩
theorem Blk.touch {b : Nat} {l : List Value} (h : Blk w b l) (ht : Touch B C w w') (hb : b < B ∨ C ≤ b) : Blk w' b l := by
  have := h.lt
  obtain ⟨t, h⟩ := h
  exact ⟨t, by rw [ht.block b hb this]; exact h⟩
theorem Own.touch {b m : Nat} {f : Nat → Value} (h : Own w b m f) (ht : Touch B C w w') (hb : b < B ∨ C ≤ b) : Own w' b m f := by
  obtain ⟨l, hl, hf⟩ := h
  exact ⟨l, hl.touch ht hb, hf⟩
theorem Row.touch {a : Option Addr} {n : Nat} {f : Nat → Value} (h : Row w a n f) (ht : Touch B C w w') (hb : ∀ b o, a = some ⟨b, o, none⟩ → b < B ∨ C ≤ b) : Row w' a n f := by
  intro i hi
  obtain ⟨b, off, e, hlt, hc⟩ := h i hi
  refine ⟨b, off, e, Nat.lt_of_lt_of_le hlt ht.size, ?_⟩
  rw [← hc]
  exact World.cell?_of_block (w := w) (a := ⟨b, off + i, .none⟩) (ht.block b (hb b off e) hlt)
end

/-- A row that was there before, in a world where only a block behind has turned. -/
theorem Row.touchOf {w0 w w' : World} {B C : Nat} {a : Option Addr} {n : Nat} {f f0 : Nat → Value} (h0 : Row w0 a n f0) (h : Row w a n f) (ht : Touch B C w w') (hB : w0.heap.size ≤ B) : Row w' a n f := by
  intro i hi
  obtain ⟨b, off, e, hlt, hc⟩ := h i hi
  obtain ⟨b', off', e', hlt', _⟩ := h0 i hi
  rw [e] at e'
  cases e'
  exact ⟨b, off, e, Nat.lt_of_lt_of_le hlt ht.size, by rw [← hc]; exact World.cell?_of_block (w := w) (a := ⟨b, off + i, .none⟩) (ht.block b (.inl (by omega)) hlt)⟩

end Go.Proofs.Ytmjclmjnkmhciaa
