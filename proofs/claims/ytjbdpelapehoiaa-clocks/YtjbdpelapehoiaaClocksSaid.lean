/-
  Clocks, if Next keeps its statement.
-/
import Derived.Test.YtjbdpelapehoiaaClockSaid
namespace Go.Proofs.Ytjbdpelapehoiaa
open Go.RowKit
set_option linter.unusedSimpArgs false

set_option maxHeartbeats 1000000 in
theorem clocks_said (hN : NextC) (c : Nat → Int) (l m : Int) (w : World) :
    Calls Try.prog 3 #[quadA c, .int .i64 l, .int .i64 m] w fun e w' => e = .returned (.bool true) ∧ Below w.heap.size w w' := by
  have C1 := hide fun w => hN c l m w
  have C2 := hide fun w => rnext_any c l m w
  have C3 := hide fun w => awake5_any hN w
  clear hN
  generalize nextC c l m = n, nextK c l m = k, nextE c l m = e0 at C1 C2
  unfold quadA at *
  have B0 := blk_new w (quadL c) 22
  go_enter Try.func3, Try.ntmps3
  go_wp2_with fail
  refine (C1.out _).mono ?_
  rintro e w1 ⟨rfl, hb1⟩
  have b1 : Below w.heap.size w w1 := Below.on (by go_grown) hb1
  have B1 := (B0.on hb1).alloc (.cells (quadL n).toArray 22)
  have A1 := blk_new w1 (quadL n) 22
  clear hb1 B0
  obtain ⟨⟨c0, c1, c2, c3⟩, _⟩ := B1.four
  have y1 := B1.lt
  unfold quadL at *
  go_wp2_with fail
  refine (C2.out _).mono ?_
  rintro e w2 ⟨rfl, hb2⟩
  have b2 : Below w.heap.size w w2 := Below.on (b1.alloc b1.size _) hb2
  have A2 := (A1.on hb2).alloc (.cells #[.int .i64 (n 0), .int .i64 (n 1), .int .i64 (n 2), .int .i64 (n 3)] 22)
  clear hb2 b1 c0 c1 c2 c3 B1 A1
  obtain ⟨⟨c0, c1, c2, c3⟩, _⟩ := A2.four
  have y2 := A2.lt
  have hq := quad_eq
  go_wp2_with (go_at_call 9; refine (num_any _ _).mono ?_; rintro e w' ⟨rfl, rfl⟩)
  refine (C3.out _).mono ?_
  rintro e w3 ⟨rfl, hb3⟩
  have b3 : Below w.heap.size w w3 := Below.on (b2.alloc b2.size _) hb3
  clear hq
  go_wp2
  go_ret
  exact ⟨rfl, b3⟩

end Go.Proofs.Ytjbdpelapehoiaa
