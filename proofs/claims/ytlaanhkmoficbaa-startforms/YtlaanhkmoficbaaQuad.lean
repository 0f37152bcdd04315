/-
  Arrays of four numbers, as a walk meets them.
-/
import Derived.Test.YtlaanhkmoficbaaWordPure
import Derived.Test.YtlaanhkmoficbaaMem
namespace Go.Proofs.Ytlaanhkmoficbaa
open Go.RowKit

/-- Four numbers: an array's value. -/
def quadA (c : Nat → Int) : Value := .agg #[.int .i64 (c 0), .int .i64 (c 1), .int .i64 (c 2), .int .i64 (c 3)]
/-- The cells of that value. -/
def quadL (c : Nat → Int) : List Value := [.int .i64 (c 0), .int .i64 (c 1), .int .i64 (c 2), .int .i64 (c 3)]
/-- Another number in a place. -/
def updQ (c : Nat → Int) (k : Nat) (x : Int) (i : Nat) : Int := if i = k then x else c i
theorem updQ_same (c : Nat → Int) (k : Nat) (x : Int) : updQ c k x k = x := if_pos rfl
theorem updQ_other (c : Nat → Int) {k i : Nat} (x : Int) (h : i ≠ k) : updQ c k x i = c i := if_neg h
theorem quadL_get (c : Nat → Int) {k : Nat} (hk : k < 4) : (quadL c)[k]? = some (.int .i64 (c k)) := by
  have : k = 0 ∨ k = 1 ∨ k = 2 ∨ k = 3 := by omega
  rcases this with rfl | rfl | rfl | rfl <;> rfl
theorem quadL_set (c : Nat → Int) {k : Nat} (hk : k < 4) (x : Int) : (quadL c).set k (.int .i64 x) = quadL (updQ c k x) := by
  have : k = 0 ∨ k = 1 ∨ k = 2 ∨ k = 3 := by omega
  rcases this with rfl | rfl | rfl | rfl <;> rfl
/-- The four of them, named. -/
def quad (a b c d : Int) : Nat → Int
  | 0 => a
  | 1 => b
  | 2 => c
  | _ => d
/-- Are the first k from 0 to h? -/
def allUp (c : Nat → Int) (h : Int) : Nat → Bool
  | 0 => true
  | k + 1 => allUp c h k && upToV (c k) h
theorem allUp_get {c : Nat → Int} {h : Int} : ∀ {n : Nat}, allUp c h n = true → ∀ i, i < n → upToV (c i) h = true
  | 0, _, i, hi => absurd hi (Nat.not_lt_zero _)
  | n + 1, e, i, hi => by
    simp only [allUp, Bool.and_eq_true] at e
    by_cases x : i = n
    · subst x; exact e.2
    · exact allUp_get e.1 i (by omega)
theorem allUp_mk {c : Nat → Int} {h : Int} : ∀ {n : Nat}, (∀ i, i < n → upToV (c i) h = true) → allUp c h n = true
  | 0, _ => rfl
  | n + 1, e => by rw [allUp, allUp_mk fun i hi => e i (by omega), e n (by omega)]; rfl
theorem allUp_no {c : Nat → Int} {h : Int} {n : Nat} (i : Nat) (hi : i < n) (e : upToV (c i) h = false) : allUp c h n = false := by
  cases x : allUp c h n with
  | false => rfl
  | true => rw [allUp_get x i hi] at e; cases e

theorem Blk.cells4 {w : World} {b : Nat} {x y z u : Value} (h : Blk w b [x, y, z, u]) : w.cell? ⟨b, 0, none⟩ = some x ∧ w.cell? ⟨b, 1, none⟩ = some y ∧ w.cell? ⟨b, 2, none⟩ = some z ∧ w.cell? ⟨b, 3, none⟩ = some u := h.four.1
/-- A whole array stored over another one. -/
theorem Blk.over {w : World} {b : Nat} {c : Nat → Int} (h : Blk w b (quadL c)) (d : Nat → Int) :
    Blk ((((w.setCell ⟨b, 0, none⟩ (.int .i64 (d 0))).setCell ⟨b, 1, none⟩ (.int .i64 (d 1))).setCell ⟨b, 2, none⟩ (.int .i64 (d 2))).setCell ⟨b, 3, none⟩ (.int .i64 (d 3))) b (quadL d) :=
  (((h.set 0 (.int .i64 (d 0))).set 1 (.int .i64 (d 1))).set 2 (.int .i64 (d 2))).set 3 (.int .i64 (d 3))
theorem Below.over {B : Nat} {a w : World} {b : Nat} (h : Below B a w) (hb : B ≤ b) (d : Nat → Int) :
    Below B a ((((w.setCell ⟨b, 0, none⟩ (.int .i64 (d 0))).setCell ⟨b, 1, none⟩ (.int .i64 (d 1))).setCell ⟨b, 2, none⟩ (.int .i64 (d 2))).setCell ⟨b, 3, none⟩ (.int .i64 (d 3))) :=
  (((h.setCell hb _).setCell hb _).setCell hb _).setCell hb _

end Go.Proofs.Ytlaanhkmoficbaa
