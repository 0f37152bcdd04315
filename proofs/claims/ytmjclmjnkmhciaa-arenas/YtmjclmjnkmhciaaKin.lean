/-
  A region that draws its order, whose own operations only read, and whose callees may make memory of their own (nothing old turns): one walk in the order of the text serves every order. The class of worlds: 'Kin w': those that are below w's size as w is.
-/
import Derived.WalkKit
import Derived.Below
import Derived.Deep.QuietTactic
import Derived.BigQuiet
import Derived.Test.YtmjclmjnkmhciaaMem
namespace Go.Proofs.Ytmjclmjnkmhciaa
open Go.RowKit

/-- A world in which nothing that was in w has turned. -/
structure Kin (w : World) where
  at_ : World
  below : Below w.heap.size w at_

/-- There is one: w itself. The walk of a region wants it among the hypotheses. -/
theorem kin_any (w : World) : Nonempty (Kin w) := ⟨⟨w, Below.refl _ _⟩⟩

theorem Kin.cell {w : World} (u : Kin w) (b o : Nat) (h : b < w.heap.size) : u.at_.cell? ⟨b, o, none⟩ = w.cell? ⟨b, o, none⟩ := u.below.cell (p := ⟨b, o, none⟩) h

theorem wp_region_kin {P : Program} {id : Nat} {Q : Exit → Act → World → Prop} {a : Act} {w : World} {l : List Oper} (hm : P.follows .mixedOrders = true) (hB : Region.lexB .any l.toArray = true)
    (h : wpQuiet P l.toArray (fun w' => ∃ u : Kin w, w' = u.at_) (fun a' => ∀ w', (∃ u : Kin w, w' = u.at_) → Q .normal a' w') l a) : (Code.region id l.toArray true).wp P Q a w :=
  wp_region_quiet (C := fun w' => ∃ u : Kin w, w' = u.at_) hm hB ⟨⟨w.drew, (Below.refl _ _).drew⟩, rfl⟩ (by simpa using h)

theorem Calls.kin_of {P : Program} {f : FuncId} {args : Array Value} {w : World} {u : Kin w} {v : Value}
    (h : Calls P f args u.at_ fun e w' => e = .returned v ∧ Below u.at_.heap.size u.at_ w') : Calls P f args u.at_ fun e w'' => e = .returned v ∧ ∃ u' : Kin w, w'' = u'.at_ :=
  h.mono fun _ w' ⟨he, hb⟩ => ⟨he, ⟨w', u.below.trans (hb.mono u.below.size)⟩, rfl⟩
theorem Calls.kin_same {P : Program} {f : FuncId} {args : Array Value} {w : World} {u : Kin w} {v : Value}
    (h : Calls P f args u.at_ fun e w' => e = .returned v ∧ u.at_ = w') : Calls P f args u.at_ fun e w'' => e = .returned v ∧ ∃ u' : Kin w, w'' = u'.at_ :=
  h.mono fun _ _ ⟨he, hm⟩ => ⟨he, u, hm.symm⟩

theorem Blk.kin {w : World} {b : Nat} {l : List Value} (h : Blk w b l) (u : Kin w) : Blk u.at_ b l := h.on u.below
theorem Blk.kin3 {w : World} {b : Nat} {x y z : Value} (h : Blk w b [x, y, z]) : (∀ u : Kin w, u.at_.cell? ⟨b, 0, none⟩ = some x) ∧ (∀ u : Kin w, u.at_.cell? ⟨b, 1, none⟩ = some y) ∧ (∀ u : Kin w, u.at_.cell? ⟨b, 2, none⟩ = some z) :=
  ⟨fun u => (h.kin u).cell 0 _ rfl, fun u => (h.kin u).cell 1 _ rfl, fun u => (h.kin u).cell 2 _ rfl⟩
theorem Blk.kin4 {w : World} {b : Nat} {x y z v : Value} (h : Blk w b [x, y, z, v]) : (∀ u : Kin w, u.at_.cell? ⟨b, 0, none⟩ = some x) ∧ (∀ u : Kin w, u.at_.cell? ⟨b, 1, none⟩ = some y) ∧ (∀ u : Kin w, u.at_.cell? ⟨b, 2, none⟩ = some z) ∧ (∀ u : Kin w, u.at_.cell? ⟨b, 3, none⟩ = some v) :=
  ⟨fun u => (h.kin u).cell 0 _ rfl, fun u => (h.kin u).cell 1 _ rfl, fun u => (h.kin u).cell 2 _ rfl, fun u => (h.kin u).cell 3 _ rfl⟩

end Go.Proofs.Ytmjclmjnkmhciaa
