/-
  A whole struct stored over a block that holds one: the block then holds its cells. Nothing of a program here.
-/
import Derived.Test.YtlaanhkmoficbaaTouch
import Derived.Deep.MidRow
import Derived.BigFrame
namespace Go.Proofs.Ytlaanhkmoficbaa
open Go.RowKit

/-- A list with others laid over it from a place on. -/
def setL (l : List Value) (o : Nat) : List Value → List Value
  | [] => l
  | v :: r => setL (l.set o v) (o + 1) r
theorem setL_take : ∀ (vs l : List Value) (o : Nat), o + vs.length = l.length → setL l o vs = l.take o ++ vs
  | [], l, o, h => by rw [setL, List.append_nil, List.take_of_length_le (by simp at h; omega)]
  | v :: r, l, o, h => by
    have hlt : o < l.length := by simp at h; omega
    rw [setL, setL_take r (l.set o v) (o + 1) (by simp at h ⊢; omega), List.take_add_one]
    rw [List.getElem?_set_self hlt, List.take_set_of_le (Nat.le_refl _)]
    simp
theorem setL_all {vs l : List Value} (h : vs.length = l.length) : setL l 0 vs = vs := by
  rw [setL_take vs l 0 (by omega)]
  rfl
theorem Blk.setCells {b : Nat} : ∀ (vs : List Value) (o : Nat) {w : World} {l : List Value}, Blk w b l → Blk (w.setCells b o vs) b (setL l o vs)
  | [], _, _, _, h => h
  | v :: r, o, _, _, h => Blk.setCells r (o + 1) (h.set o v)
theorem Touch.setCells {b : Nat} : ∀ (vs : List Value) (o : Nat) (w : World), Touch b (b + 1) w (w.setCells b o vs)
  | [], _, w => Touch.refl _ _ w
  | v :: r, o, w => ((Touch.refl b (b + 1) w).setCell (a := ⟨b, o, none⟩) (Nat.le_refl b) (Nat.lt_succ_self b) v).trans (Touch.setCells r (o + 1) _)
theorem size_setCells {b : Nat} : ∀ (vs : List Value) (o : Nat) (w : World), (w.setCells b o vs).heap.size = w.heap.size
  | [], _, _ => rfl
  | v :: r, o, w => by rw [World.setCells, size_setCells r]; exact World.size_setCell ..

theorem wpList_store_all {P : Program} {ops : Array Oper} {rest : List Oper} {op : Oper} {a : Act} {w : World} {Q : Exit → Act → World → Prop} (hgd : Region.wanted op (yielded ops a.tmps) = true) (ty : TypeId) (x y : Operand) (ho : op.op = .store ty x y)
    (b : Nat) (l vs : List Value) (hx : a.eval x = .pointer (some ⟨b, 0, none⟩)) (hy : a.eval y = .agg vs.toArray) (hB : Blk w b l) (hl : vs.length = l.length)
    (hi : (P.info? ty).map (·.size) = some vs.length) (h1 : vs.all (·.oneCell') = true)
    (h : ∀ W, Blk W b vs → Touch b (b + 1) w W → W.heap.size = w.heap.size → wpList P ops Q rest (a.put op.dst undef) W) : wpList P ops Q (op :: rest) a w := by
  refine BigFrame.wpList_want hgd fun _ hK => wp_store_mid ty x y ho b 0 vs.toArray hx hy (fun j hj => ?_) (by simpa using hi) (by simpa using h1) (hK _ _ (h _ ?_ (Touch.setCells _ _ _) (size_setCells _ _ _)))
  · have hj' : j < l.length := by simpa [hl] using hj
    refine ⟨?_, hB.frozen _⟩
    rw [Nat.zero_add, hB.cell j l[j] (List.getElem?_eq_getElem hj')]
    rfl
  · have := Blk.setCells vs 0 hB
    rw [setL_all hl] at this
    simpa using this

end Go.Proofs.Ytlaanhkmoficbaa
