/-
  What package clock's Next hands back: a statement, to be proved of the landed code; and what every program answers that is one.
-/
import Derived.Test.YtjbdpelapehoiaaClockRef
import Derived.Test.YtjbdpelapehoiaaQuadEq
namespace Go.Proofs.Ytjbdpelapehoiaa
open Go.RowKit
set_option linter.unusedSimpArgs false

def NextC : Prop := ∀ (c : Nat → Int) (l m : Int) (w : World), Calls Try.prog 7 #[quadA c, .int .i64 l, .int .i64 m] w fun e w' => e = .returned (.tuple #[quadA (nextC c l m), .int .i64 (nextK c l m), .int .i64 (nextE c l m)]) ∧ Below w.heap.size w w'

/-- The clocks of the example, behind it. -/
theorem next_5 : nextC (quad 0 5 0 0) 1 6 = quad 0 6 0 0 ∧ nextK (quad 0 5 0 0) 1 6 = 6 ∧ nextE (quad 0 5 0 0) 1 6 = 0 := by
  obtain ⟨h1, h2, h3⟩ := next_on (c := quad 0 5 0 0) (l := 1) (m := 6) (by decide) (by decide)
  refine ⟨?_, h3.trans (by decide), h1⟩
  rw [h2]
  funext i
  match i with
  | 0 => rfl
  | 1 => rfl
  | 2 => rfl
  | n + 3 => rfl

set_option maxHeartbeats 1000000 in
theorem awake5_any (hN : NextC) (w : World) :
    Calls Try.prog 10 #[] w fun e w' => e = .returned (.bool true) ∧ Below w.heap.size w w' := by
  obtain ⟨a1, a2, a3⟩ := next_5
  obtain ⟨b1, b2, b3⟩ := next_full (c := quad 0 6 0 0) (l := 1) (m := 6) (by decide) (by decide)
  obtain ⟨c1, c2, c3⟩ := next_form (c := quad 0 6 0 0) (l := 4) (m := 6) (by decide)
  have C1 := hide fun w => hN (quad 0 5 0 0) 1 6 w
  have C2 := hide fun w => hN (quad 0 6 0 0) 1 6 w
  have C3 := hide fun w => hN (quad 0 6 0 0) 4 6 w
  rw [a1, a2, a3] at C1
  rw [b1, b2, b3] at C2
  rw [c1, c2, c3] at C3
  clear a1 a2 a3 b1 b2 b3 c1 c2 c3
  unfold quadA quad at C1 C2 C3
  go_enter Try.func10, Try.ntmps10
  go_wp2_with fail
  refine (C1.out _).mono ?_
  rintro e w1 ⟨rfl, hb1⟩
  have b1 : Below w.heap.size w w1 := hb1
  have B1 := blk_new w1 [.int .i64 0, .int .i64 6, .int .i64 0, .int .i64 0] 22
  clear hb1
  go_wp2_with fail
  refine (C2.out _).mono ?_
  rintro e w2 ⟨rfl, hb2⟩
  have b2 : Below w.heap.size w w2 := Below.on (b1.alloc b1.size _) hb2
  have B2 := B1.on hb2
  clear hb2 b1
  obtain ⟨⟨c0, c1, c2, c3⟩, _⟩ := B2.four
  have y2 := B2.lt
  go_wp2_with fail
  refine (C3.out _).mono ?_
  rintro e w3 ⟨rfl, hb3⟩
  have b3 : Below w.heap.size w w3 := Below.on (b2.alloc b2.size _) hb3
  have B3 := (B2.alloc _).on hb3
  clear hb3 b2 c0 c1 c2 c3 B1 B2
  obtain ⟨⟨c0, c1, c2, c3⟩, _⟩ := B3.four
  have y3 := B3.lt
  have hq := quad_eq
  go_wp2_with (go_at_call 9; refine (num_any _ _).mono ?_; rintro e w' ⟨rfl, rfl⟩)
  go_ret
  exact ⟨rfl, b3.alloc b3.size _⟩

end Go.Proofs.Ytjbdpelapehoiaa
