/-
  Starts and sessions: which Start may be; a session's value and its cells. A session is told by its fourteen numbers (Id, Label, Clear, Step, Pc, four of Regs, At, Stamp, Tries, Result, Told) and its three lists.
-/
import Derived.Test.YtlaanhkmoficbaaProgPure
import Derived.Test.YtlaanhkmoficbaaLabelUp
import Derived.Test.YtlaanhkmoficbaaMem
namespace Go.Proofs.Ytlaanhkmoficbaa
open Go.RowKit

/-- May it be a Start? -/
def startMay (id l c : Int) (n : Nat) (z : Nat → Int) : Bool := upToV id 254 && (belowV l c && progMay n z)
def startA (id l c : Int) (p : Value) : Value := .agg #[.int .i64 id, .int .i64 l, .int .i64 c, p]
def startL (id l c : Int) (p : Value) : List Value := [.int .i64 id, .int .i64 l, .int .i64 c, p]
def sessA (i : Nat → Int) (p r t : Value) : Value := .agg #[.int .i64 (i 0), .int .i64 (i 1), .int .i64 (i 2), p, .int .i64 (i 3), .int .i64 (i 4), .int .i64 (i 5), .int .i64 (i 6), .int .i64 (i 7), .int .i64 (i 8), r, t, .int .i64 (i 9), .int .i64 (i 10), .int .i64 (i 11), .int .i64 (i 12), .int .i64 (i 13)]
def sessL (i : Nat → Int) (p r t : Value) : List Value := [.int .i64 (i 0), .int .i64 (i 1), .int .i64 (i 2), p, .int .i64 (i 3), .int .i64 (i 4), .int .i64 (i 5), .int .i64 (i 6), .int .i64 (i 7), .int .i64 (i 8), r, t, .int .i64 (i 9), .int .i64 (i 10), .int .i64 (i 11), .int .i64 (i 12), .int .i64 (i 13)]
/-- The numbers of a session as it begins; of none. -/
def newI (ok : Bool) (id l c : Int) (k : Nat) : Int := bif ok then (match k with | 0 => id | 1 => l | 2 => c | _ => 0) else 0
def newN (ok : Bool) (n : Nat) : Nat := bif ok then n else 0
def newE (ok : Bool) : Int := bif ok then 0 else 1100

/-- A session's cells, each. -/
theorem Blk.sess {w : World} {b : Nat} {i : Nat → Int} {p r t : Value} (h : Blk w b (sessL i p r t)) :
    w.cell? ⟨b, 0, none⟩ = some (.int .i64 (i 0)) ∧ w.cell? ⟨b, 1, none⟩ = some (.int .i64 (i 1)) ∧ w.cell? ⟨b, 2, none⟩ = some (.int .i64 (i 2)) ∧ w.cell? ⟨b, 3, none⟩ = some p ∧ w.cell? ⟨b, 4, none⟩ = some (.int .i64 (i 3)) ∧ w.cell? ⟨b, 5, none⟩ = some (.int .i64 (i 4)) ∧ w.cell? ⟨b, 6, none⟩ = some (.int .i64 (i 5)) ∧ w.cell? ⟨b, 7, none⟩ = some (.int .i64 (i 6)) ∧ w.cell? ⟨b, 8, none⟩ = some (.int .i64 (i 7)) ∧ w.cell? ⟨b, 9, none⟩ = some (.int .i64 (i 8)) ∧ w.cell? ⟨b, 10, none⟩ = some r ∧ w.cell? ⟨b, 11, none⟩ = some t ∧ w.cell? ⟨b, 12, none⟩ = some (.int .i64 (i 9)) ∧ w.cell? ⟨b, 13, none⟩ = some (.int .i64 (i 10)) ∧ w.cell? ⟨b, 14, none⟩ = some (.int .i64 (i 11)) ∧ w.cell? ⟨b, 15, none⟩ = some (.int .i64 (i 12)) ∧ w.cell? ⟨b, 16, none⟩ = some (.int .i64 (i 13)) :=
  ⟨h.cell 0 _ rfl, h.cell 1 _ rfl, h.cell 2 _ rfl, h.cell 3 _ rfl, h.cell 4 _ rfl, h.cell 5 _ rfl, h.cell 6 _ rfl, h.cell 7 _ rfl, h.cell 8 _ rfl, h.cell 9 _ rfl, h.cell 10 _ rfl, h.cell 11 _ rfl, h.cell 12 _ rfl, h.cell 13 _ rfl, h.cell 14 _ rfl, h.cell 15 _ rfl, h.cell 16 _ rfl⟩
/-- A world with a session stored over a block. -/
def World.laySess (w : World) (b : Nat) (i : Nat → Int) (p r t : Value) : World :=
  ((((((((((((((((w.setCell ⟨b, 0, none⟩ (.int .i64 (i 0))).setCell ⟨b, 1, none⟩ (.int .i64 (i 1))).setCell ⟨b, 2, none⟩ (.int .i64 (i 2))).setCell ⟨b, 3, none⟩ p).setCell ⟨b, 4, none⟩ (.int .i64 (i 3))).setCell ⟨b, 5, none⟩ (.int .i64 (i 4))).setCell ⟨b, 6, none⟩ (.int .i64 (i 5))).setCell ⟨b, 7, none⟩ (.int .i64 (i 6))).setCell ⟨b, 8, none⟩ (.int .i64 (i 7))).setCell ⟨b, 9, none⟩ (.int .i64 (i 8))).setCell ⟨b, 10, none⟩ r).setCell ⟨b, 11, none⟩ t).setCell ⟨b, 12, none⟩ (.int .i64 (i 9))).setCell ⟨b, 13, none⟩ (.int .i64 (i 10))).setCell ⟨b, 14, none⟩ (.int .i64 (i 11))).setCell ⟨b, 15, none⟩ (.int .i64 (i 12))).setCell ⟨b, 16, none⟩ (.int .i64 (i 13))
theorem Blk.laySess {w : World} {b : Nat} {j : Nat → Int} {p' r' t' : Value} (h : Blk w b (sessL j p' r' t')) (i : Nat → Int) (p r t : Value) : Blk (World.laySess w b i p r t) b (sessL i p r t) := by
  have h1 := ((((((((((((((((h.set 0 (.int .i64 (i 0))).set 1 (.int .i64 (i 1))).set 2 (.int .i64 (i 2))).set 3 p).set 4 (.int .i64 (i 3))).set 5 (.int .i64 (i 4))).set 6 (.int .i64 (i 5))).set 7 (.int .i64 (i 6))).set 8 (.int .i64 (i 7))).set 9 (.int .i64 (i 8))).set 10 r).set 11 t).set 12 (.int .i64 (i 9))).set 13 (.int .i64 (i 10))).set 14 (.int .i64 (i 11))).set 15 (.int .i64 (i 12))).set 16 (.int .i64 (i 13))
  have e : ∀ l, Blk (World.laySess w b i p r t) b l → l = sessL i p r t → Blk (World.laySess w b i p r t) b (sessL i p r t) := fun l h e => e ▸ h
  exact e _ h1 (by simp only [sessL, List.set])
theorem Below.laySess {B : Nat} {a w : World} {b : Nat} (h : Below B a w) (hb : B ≤ b) (i : Nat → Int) (p r t : Value) : Below B a (World.laySess w b i p r t) :=
  ((((((((((((((((h.setCell hb _).setCell hb _).setCell hb _).setCell hb _).setCell hb _).setCell hb _).setCell hb _).setCell hb _).setCell hb _).setCell hb _).setCell hb _).setCell hb _).setCell hb _).setCell hb _).setCell hb _).setCell hb _).setCell hb _
theorem Blk.start {w : World} {b : Nat} {id l c : Int} {p : Value} (h : Blk w b (startL id l c p)) :
    w.cell? ⟨b, 0, none⟩ = some (.int .i64 id) ∧ w.cell? ⟨b, 1, none⟩ = some (.int .i64 l) ∧ w.cell? ⟨b, 2, none⟩ = some (.int .i64 c) ∧ w.cell? ⟨b, 3, none⟩ = some p :=
  ⟨h.cell 0 _ rfl, h.cell 1 _ rfl, h.cell 2 _ rfl, h.cell 3 _ rfl⟩

end Go.Proofs.Ytlaanhkmoficbaa
