/-
  Blocks that a call made, as a walk meets them: 'Blk w b l': block b holds the cells l, all of which may be written. Nothing of a program here.
-/
import Derived.WalkKit
import Derived.Below
import Derived.Handy
import Derived.Deep.Draws
namespace Go.Proofs.Ytmjclmjnkmhciaa
open Go.RowKit

/-- Block b holds the cells l. -/
def Blk (w : World) (b : Nat) (l : List Value) : Prop := ∃ t, w.heap[b]? = some (.cells l.toArray t (0, 0))

theorem blk_new (w : World) (l : List Value) (t : TypeId) : Blk (w.alloc (.cells l.toArray t)) w.heap.size l := ⟨t, by show (w.heap.push _)[w.heap.size]? = _; exact Array.getElem?_push_size⟩
theorem Blk.lt {w : World} {b : Nat} {l : List Value} (h : Blk w b l) : b < w.heap.size := by
  obtain ⟨t, h⟩ := h
  exact (Array.getElem?_eq_some_iff.1 h).1
theorem Blk.alloc {w : World} {b : Nat} {l : List Value} (h : Blk w b l) (o : Obj) : Blk (w.alloc o) b l := by
  have := h.lt
  obtain ⟨t, h⟩ := h
  exact ⟨t, by rw [Below.heap_alloc _ _ _ this]; exact h⟩
theorem Blk.below {w w' : World} {B b : Nat} {l : List Value} (h : Blk w b l) (hb : Below B w w') (hB : b < B) : Blk w' b l := by
  obtain ⟨t, h⟩ := h
  exact ⟨t, by rw [hb.block b hB]; exact h⟩
/-- Behind a call that left what lay below as it was. -/
theorem Blk.on {w w' : World} {b : Nat} {l : List Value} (h : Blk w b l) (hb : Below w.heap.size w w') : Blk w' b l := h.below hb h.lt
theorem Blk.drew {w : World} {b : Nat} {l : List Value} (h : Blk w b l) : Blk w.drew b l := h
theorem Blk.cell {w : World} {b : Nat} {l : List Value} (h : Blk w b l) (i : Nat) (v : Value) (hi : l[i]? = some v) : w.cell? ⟨b, i, none⟩ = some v := by
  obtain ⟨t, h⟩ := h
  simp [World.cell?, h, hi]
theorem Blk.frozen {w : World} {b : Nat} {l : List Value} (h : Blk w b l) (i : Nat) : w.frozen? ⟨b, i, none⟩ = false := by
  obtain ⟨t, h⟩ := h
  simp [World.frozen?, h]
theorem Blk.set {w : World} {b : Nat} {l : List Value} (h : Blk w b l) (i : Nat) (v : Value) : Blk (w.setCell ⟨b, i, none⟩ v) b (l.set i v) := by
  obtain ⟨t, h⟩ := h
  refine ⟨t, ?_⟩
  simp only [World.setCell, Array.getElem?_modify, if_true, h, Option.map_some]
  simp
theorem Blk.far {w : World} {b : Nat} {l : List Value} (h : Blk w b l) {a : Addr} (v : Value) (hb : b ≠ a.block) : Blk (w.setCell a v) b l := by
  obtain ⟨t, h⟩ := h
  exact ⟨t, by rw [Below.heap_setCell _ _ _ _ hb]; exact h⟩
/-- One of one cell, of two, of three, of four: each cell, each mark. -/
theorem Blk.one {w : World} {b : Nat} {x : Value} (h : Blk w b [x]) : w.cell? ⟨b, 0, none⟩ = some x ∧ w.frozen? ⟨b, 0, none⟩ = false := ⟨h.cell 0 _ rfl, h.frozen 0⟩
theorem Blk.three {w : World} {b : Nat} {x y z : Value} (h : Blk w b [x, y, z]) : (w.cell? ⟨b, 0, none⟩ = some x ∧ w.cell? ⟨b, 1, none⟩ = some y ∧ w.cell? ⟨b, 2, none⟩ = some z) ∧ w.frozen? ⟨b, 0, none⟩ = false ∧ w.frozen? ⟨b, 1, none⟩ = false ∧ w.frozen? ⟨b, 2, none⟩ = false :=
  ⟨⟨h.cell 0 _ rfl, h.cell 1 _ rfl, h.cell 2 _ rfl⟩, h.frozen 0, h.frozen 1, h.frozen 2⟩
theorem Blk.four {w : World} {b : Nat} {x y z u : Value} (h : Blk w b [x, y, z, u]) : (w.cell? ⟨b, 0, none⟩ = some x ∧ w.cell? ⟨b, 1, none⟩ = some y ∧ w.cell? ⟨b, 2, none⟩ = some z ∧ w.cell? ⟨b, 3, none⟩ = some u) ∧ w.frozen? ⟨b, 0, none⟩ = false ∧ w.frozen? ⟨b, 1, none⟩ = false ∧ w.frozen? ⟨b, 2, none⟩ = false ∧ w.frozen? ⟨b, 3, none⟩ = false :=
  ⟨⟨h.cell 0 _ rfl, h.cell 1 _ rfl, h.cell 2 _ rfl, h.cell 3 _ rfl⟩, h.frozen 0, h.frozen 1, h.frozen 2, h.frozen 3⟩

theorem Blk.cells3 {w : World} {b : Nat} {x y z : Value} (h : Blk w b [x, y, z]) : w.cell? ⟨b, 0, none⟩ = some x ∧ w.cell? ⟨b, 1, none⟩ = some y ∧ w.cell? ⟨b, 2, none⟩ = some z := h.three.1

/-- What lay below is as it was: its cells, its marks, whichever block. -/
theorem bcell {W w1 : World} (hb : Below W.heap.size W w1) : (∀ b o, b < W.heap.size → w1.cell? ⟨b, o, none⟩ = W.cell? ⟨b, o, none⟩) ∧ (∀ b o, b < W.heap.size → w1.frozen? ⟨b, o, none⟩ = W.frozen? ⟨b, o, none⟩) :=
  ⟨fun b o h => hb.cell (p := ⟨b, o, none⟩) h, fun b o h => hb.frozen (p := ⟨b, o, none⟩) h⟩
/-- Behind a call that left what lay below as it was. -/
theorem Below.on {w W w1 : World} (h : Below w.heap.size w W) (hb : Below W.heap.size W w1) : Below w.heap.size w w1 := h.trans (hb.mono h.size)
theorem Below.drawn {B : Nat} {a w : World} (h : Below B a w) (n : Nat) : Below B a (w.drewN n) := ⟨h.os, h.tape, h.output, h.size, h.block⟩
theorem Blk.drawn {w : World} {b : Nat} {l : List Value} (h : Blk w b l) (n : Nat) : Blk (w.drewN n) b l := h
theorem below_same {w w' : World} (h : w = w') : Below w.heap.size w w' := by subst h; exact Below.refl _ _

theorem Blk.grown {w w' : World} {b : Nat} {l : List Value} {row : Option Nat} (h : Blk w b l) (hg : w.grownBy w' row) (hr : some b ≠ row) : Blk w' b l := by
  have hlt := h.lt
  obtain ⟨t, h⟩ := h
  exact ⟨t, by rw [hg.block b hlt hr]; exact h⟩

/-- Blocks, each with its cells. -/
def Held (w : World) (L : List (Nat × List Value)) : Prop := ∀ p ∈ L, Blk w p.1 p.2
theorem Held.nil (w : World) : Held w [] := fun _ h => by cases h
theorem Held.cons {w : World} {b : Nat} {l : List Value} {L : List (Nat × List Value)} (h : Blk w b l) (H : Held w L) : Held w ((b, l) :: L) := fun p hp => by
  rcases List.mem_cons.1 hp with rfl | hp
  · exact h
  · exact H p hp
theorem Held.on {w w' : World} {L : List (Nat × List Value)} (H : Held w L) (hb : Below w.heap.size w w') : Held w' L := fun p hp => (H p hp).on hb
theorem Held.alloc {w : World} {L : List (Nat × List Value)} (H : Held w L) (o : Obj) : Held (w.alloc o) L := fun p hp => (H p hp).alloc o
theorem Held.drawn {w : World} {L : List (Nat × List Value)} (H : Held w L) (n : Nat) : Held (w.drewN n) L := H
theorem Held.at {w : World} {L : List (Nat × List Value)} (H : Held w L) (i : Nat) {b : Nat} {l : List Value} (h : L[i]? = some (b, l)) : Blk w b l := H (b, l) (List.mem_of_getElem? h)

end Go.Proofs.Ytmjclmjnkmhciaa
