/-
  What package prog's functions hand back: statements, to be proved of the landed code; and what every program answers that is one.
-/
import Derived.Test.YtlaanhkmoficbaaInstsMem
namespace Go.Proofs.Ytlaanhkmoficbaa
open Go.RowKit
set_option linter.unusedSimpArgs false

def MayPC : Prop := ∀ (a : Option Addr) (n c : Nat) (z : Nat → Int) (w : World), n ≤ 1152921504606846976 → (Row w a (n * 4) fun i => .int .i64 (z i)) → Calls Try.prog 23 #[.slice a n c] w fun e w' => e = .returned (.bool (progMay n z)) ∧ Below w.heap.size w w'

/-- A text that is none: no list. -/
theorem getP_not {l : List UInt8} {w w' : World} {e : Ending} (h : GetPPost l w e w') (ho : getPOk l = false) : e = .returned (.tuple #[.slice none 0 0, .int .i64 800]) ∧ Below w.heap.size w w' := by
  obtain ⟨x, rfl, _, _, hx, _, hb⟩ := h
  rw [hx ho]
  unfold getPE
  rw [ho]
  exact ⟨rfl, hb⟩
/-- A text that is one: its instructions, in new memory. -/
theorem getP_yes {l : List UInt8} {w w' : World} {e : Ending} (h : GetPPost l w e w') (ho : getPOk l = true) :
    ∃ a c, e = .returned (.tuple #[.slice a (textN l) c, .int .i64 0]) ∧ (a = none → textN l = 0 ∧ c = 0) ∧ (Row w' a (textN l * 4) fun i => .int .i64 (textZ l i)) ∧ (0 < textN l → ∃ b, a = some ⟨b, 0, none⟩ ∧ w.heap.size ≤ b ∧ Own w' b (textN l * 4) (intF (textZ l))) ∧ Below w.heap.size w w' := by
  obtain ⟨x, rfl, hn, hx, _, hown, hb⟩ := h
  have hx := hx ho
  rw [hx] at hn hown
  unfold getPE
  rw [ho, hx]
  refine ⟨x.a, x.c, rfl, hn, ?_, fun hp => ?_, hb⟩
  · by_cases hp : 0 < textN l
    · obtain ⟨b, e, _, _, ho⟩ := hown hp
      rw [e]; exact ho.row
    · rw [show textN l = 0 by omega, Nat.zero_mul]; exact row_zero _ _ _
  · obtain ⟨b, e, h1, _, h3⟩ := hown hp
    exact ⟨b, e, h1, h3⟩

/-- A block of ints is a row of them. -/
theorem Blk.ints {w : World} {b : Nat} {l : List Value} (h : Blk w b l) (m : Nat) (z : Nat → Int) (hl : l = rowL (intF z) m) : Row w (some ⟨b, 0, none⟩) m fun i => .int .i64 (z i) := by
  subst hl
  exact Own.row ⟨_, h, fun i hi => rowL_get hi⟩

def zOf (l : List Int) (i : Nat) : Int := l.getD i 0


end Go.Proofs.Ytlaanhkmoficbaa
