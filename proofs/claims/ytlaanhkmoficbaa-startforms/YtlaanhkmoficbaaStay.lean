/-
  What stays: statements on a world that hold of every world behind it that writes in new memory alone. Nothing of a program here.
-/
import Derived.Test.YtlaanhkmoficbaaTouch
namespace Go.Proofs.Ytlaanhkmoficbaa
open Go.RowKit

/-- It stays where only new memory is written. -/
def Stays (S : World → Prop) : Prop := ∀ W W', S W → Below W.heap.size W W' → S W'
theorem Stays.and {S T : World → Prop} (hS : Stays S) (hT : Stays T) : Stays fun W => S W ∧ T W := fun W W' h b => ⟨hS W W' h.1 b, hT W W' h.2 b⟩
theorem stays_blk (b : Nat) (l : List Value) : Stays fun W => Blk W b l := fun _ _ h b => h.on b
theorem stays_own (b m : Nat) (f : Nat → Value) : Stays fun W => Own W b m f := fun _ _ h b => h.on b
theorem stays_row (a : Option Addr) (n : Nat) (f : Nat → Value) : Stays fun W => Row W a n f := fun _ _ h b => h.below b (Nat.le_refl _)
theorem stays_below (w : World) : Stays fun W => Below w.heap.size w W := fun _ _ h b => Below.on h b
theorem stays_of {p : Prop} : Stays fun _ => p := fun _ _ h _ => h
theorem stays_imp {p : Prop} {S : World → Prop} (hS : Stays S) : Stays fun W => p → S W := fun W W' h b hp => hS W W' (h hp) b
/-- A block made and written over: only new memory was written. -/
theorem below_made {w W : World} {o : Obj} {b : Nat} (h : Touch b (b + 1) (w.alloc o) W) (hb : w.heap.size ≤ b) : Below w.heap.size w W := by
  have h1 : Below w.heap.size w (w.alloc o) := (Below.refl _ w).alloc (Nat.le_refl _) o
  by_cases hs : b ≤ (w.alloc o).heap.size
  · exact h1.trans ((h.below hs).mono hb)
  · have h2 : Below (w.alloc o).heap.size (w.alloc o) W := ⟨h.os, h.tape, h.output, h.size, fun k hk => h.block k (.inl (by omega)) hk⟩
    exact Below.on h1 h2
theorem made_touch {w W : World} {o : Obj} (h : Touch w.heap.size (w.heap.size + 1) (w.alloc o) W) : Below w.heap.size w W := below_made h (Nat.le_refl _)

end Go.Proofs.Ytlaanhkmoficbaa
