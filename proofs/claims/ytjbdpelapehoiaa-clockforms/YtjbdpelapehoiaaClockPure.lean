/-
  Clocks: what Next answers. No Go in sight.
-/
import Derived.Test.YtjbdpelapehoiaaQuad
namespace Go.Proofs.Ytjbdpelapehoiaa
open Go.RowKit

/-- May the clocks, the level, the ceiling be? -/
def nextOk (c : Nat → Int) (l m : Int) : Bool := upToV l 3 && upToV m 65535 && allUp c 65535 4
/-- The number of Next's error. -/
def nextE (c : Nat → Int) (l m : Int) : Int := bif nextOk c l m then (if m ≤ c l.toNat then 501 else 0) else 500
/-- Next's clocks. -/
def nextC (c : Nat → Int) (l m : Int) : Nat → Int := bif nextOk c l m then (if m ≤ c l.toNat then fun _ => 0 else updQ c l.toNat (c l.toNat + 1)) else fun _ => 0
/-- Next's number. -/
def nextK (c : Nat → Int) (l m : Int) : Int := bif nextOk c l m then (if m ≤ c l.toNat then 0 else c l.toNat + 1) else 0

theorem next_form {c : Nat → Int} {l m : Int} (h : nextOk c l m = false) : nextE c l m = 500 ∧ nextC c l m = (fun _ => 0) ∧ nextK c l m = 0 := by
  unfold nextE nextC nextK; rw [h]; exact ⟨rfl, rfl, rfl⟩
theorem next_full {c : Nat → Int} {l m : Int} (h : nextOk c l m = true) (h' : m ≤ c l.toNat) : nextE c l m = 501 ∧ nextC c l m = (fun _ => 0) ∧ nextK c l m = 0 := by
  unfold nextE nextC nextK; rw [h]
  simp only [cond_true, if_pos h', and_self]
theorem next_on {c : Nat → Int} {l m : Int} (h : nextOk c l m = true) (h' : ¬ m ≤ c l.toNat) : nextE c l m = 0 ∧ nextC c l m = updQ c l.toNat (c l.toNat + 1) ∧ nextK c l m = c l.toNat + 1 := by
  unfold nextE nextC nextK; rw [h]
  simp only [cond_true, if_neg h', and_self]
theorem nextOk_get {c : Nat → Int} {l m : Int} (h : nextOk c l m = true) : upToV l 3 = true ∧ upToV m 65535 = true ∧ allUp c 65535 4 = true := by
  unfold nextOk at h
  simp only [Bool.and_eq_true] at h
  exact ⟨h.1.1, h.1.2, h.2⟩
theorem nextOk_mk {c : Nat → Int} {l m : Int} (h1 : upToV l 3 = true) (h2 : upToV m 65535 = true) (h3 : allUp c 65535 4 = true) : nextOk c l m = true := by
  unfold nextOk; rw [h1, h2, h3]; rfl

end Go.Proofs.Ytjbdpelapehoiaa
