/-
  Registers: what Set and Add answer. No Go in sight.
-/
import Derived.Test.YticjkeghjlgeiaaQuad
namespace Go.Proofs.Yticjkeghjlgeiaa
open Go.RowKit

def setOk (c : Nat → Int) (a v : Int) : Bool := allUp c 255 4 && upToV a 3 && upToV v 255
def addOk (c : Nat → Int) (a b : Int) : Bool := allUp c 255 4 && upToV a 3 && upToV b 3
/-- The numbers of their errors. -/
def setE (c : Nat → Int) (a v : Int) : Int := bif setOk c a v then 0 else 600
def addE (c : Nat → Int) (a b : Int) : Int := bif addOk c a b then 0 else 600
/-- Their registers. -/
def setC (c : Nat → Int) (a v : Int) : Nat → Int := bif setOk c a v then updQ c a.toNat v else fun _ => 0
def addC (c : Nat → Int) (a b : Int) : Nat → Int := bif addOk c a b then updQ c a.toNat ((c a.toNat + c b.toNat) % 256) else fun _ => 0

theorem and3 {x y z : Bool} (h : (x && y && z) = true) : x = true ∧ y = true ∧ z = true := by
  simp only [Bool.and_eq_true] at h
  exact ⟨h.1.1, h.1.2, h.2⟩
theorem and3_mk {x y z : Bool} (h1 : x = true) (h2 : y = true) (h3 : z = true) : (x && y && z) = true := by rw [h1, h2, h3]; rfl
theorem and3_no1 {x y z : Bool} (h : x = false) : (x && y && z) = false := by rw [h]; rfl
theorem and3_no2 {x y z : Bool} (h : y = false) : (x && y && z) = false := by rw [h, Bool.and_false]; rfl
theorem and3_no3 {x y z : Bool} (h : z = false) : (x && y && z) = false := by rw [h, Bool.and_false]
theorem set_no {c : Nat → Int} {a v : Int} (h : setOk c a v = false) : setE c a v = 600 ∧ setC c a v = fun _ => 0 := by unfold setE setC; rw [h]; exact ⟨rfl, rfl⟩
theorem set_yes {c : Nat → Int} {a v : Int} (h : setOk c a v = true) : setE c a v = 0 ∧ setC c a v = updQ c a.toNat v := by unfold setE setC; rw [h]; exact ⟨rfl, rfl⟩
theorem add_no {c : Nat → Int} {a b : Int} (h : addOk c a b = false) : addE c a b = 600 ∧ addC c a b = fun _ => 0 := by unfold addE addC; rw [h]; exact ⟨rfl, rfl⟩
theorem add_yes {c : Nat → Int} {a b : Int} (h : addOk c a b = true) : addE c a b = 0 ∧ addC c a b = updQ c a.toNat ((c a.toNat + c b.toNat) % 256) := by unfold addE addC; rw [h]; exact ⟨rfl, rfl⟩
/-- Nothing but these two answers. -/
theorem set_any (c : Nat → Int) (a v : Int) : setC c a v = (fun _ => 0) ∨ setC c a v = updQ c a.toNat v := by
  cases h : setOk c a v
  · exact .inl (set_no h).2
  · exact .inr (set_yes h).2

end Go.Proofs.Yticjkeghjlgeiaa
