/-
  The law Regs, if Set and Add keep their statements.
-/
import Derived.Test.YticjkeghjlgeiaaRegsStat
namespace Go.Proofs.Yticjkeghjlgeiaa
open Go.RowKit
set_option linter.unusedSimpArgs false

set_option maxHeartbeats 2000000 in
theorem regs_said (hS : SetC) (hA : AddC) (c : Nat → Int) (a b : Int) (w : World) :
    Calls Try.prog 3 #[quadA c, .int .i64 a, .int .i64 b] w fun e w' => e = .returned (.bool true) ∧ Below w.heap.size w w' := by
  have C1 := hide fun w => hS c a b w
  have C2 := hide fun w => rset_any c a b w
  have C3 := hide fun w => hA c a b w
  have C4 := hide fun w => radd_any c a b w
  have C5 := hide fun w => awake6_any hS hA w
  clear hS hA
  generalize setC c a b = s, setE c a b = x at C1 C2
  generalize addC c a b = d, addE c a b = y at C3 C4
  unfold quadA at *
  go_enter Try.func3, Try.ntmps3
  go_wp2_with fail
  refine (C1.out _).mono ?_
  rintro e w1 ⟨rfl, hb⟩
  have b1 : Below w.heap.size w w1 := Below.on (by go_grown) hb
  have s1 := b1.size
  have H1 : Held w1 [(w.heap.size, quadL c)] := Held.cons ((blk_new w (quadL c) 22).on hb) (Held.nil _)
  have y0 := (H1.at 0 rfl).lt
  clear hb C1
  obtain ⟨c0, c1, c2, c3⟩ := (H1.at 0 rfl).cells4
  go_wp2_with fail
  refine (C2.out _).mono ?_
  rintro e w2 ⟨rfl, hb⟩
  have b2 : Below w.heap.size w w2 := Below.on (b1.alloc s1 _) hb
  have s2 := b2.size
  have H2 : Held w2 [(w1.heap.size, quadL s), (w.heap.size, quadL c)] := Held.cons ((blk_new w1 (quadL s) 22).on hb) ((H1.alloc _).on hb)
  replace y0 := (H2.at 1 rfl).lt
  clear hb H1 b1 C2 c0 c1 c2 c3
  obtain ⟨c0, c1, c2, c3⟩ := (H2.at 1 rfl).cells4
  go_wp2_with fail
  refine (C3.out _).mono ?_
  rintro e w3 ⟨rfl, hb⟩
  have b3 : Below w.heap.size w w3 := Below.on (b2.alloc s2 _) hb
  have s3 := b3.size
  have H3 : Held w3 [(w2.heap.size, quadL s), (w1.heap.size, quadL s), (w.heap.size, quadL c)] := Held.cons ((blk_new w2 (quadL s) 22).on hb) ((H2.alloc _).on hb)
  replace y0 := (H3.at 2 rfl).lt
  clear hb H2 b2 C3 c0 c1 c2 c3
  obtain ⟨c0, c1, c2, c3⟩ := (H3.at 2 rfl).cells4
  go_wp2_with fail
  refine (C4.out _).mono ?_
  rintro e w4 ⟨rfl, hb⟩
  have b4 : Below w.heap.size w w4 := Below.on (b3.alloc s3 _) hb
  have s4 := b4.size
  have H4 : Held w4 [(w3.heap.size, quadL d), (w2.heap.size, quadL s), (w1.heap.size, quadL s), (w.heap.size, quadL c)] := Held.cons ((blk_new w3 (quadL d) 22).on hb) ((H3.alloc _).on hb)
  have y1 := (H4.at 2 rfl).lt
  have y2 := (H4.at 1 rfl).lt
  have y3 := (H4.at 0 rfl).lt
  clear hb H3 b3 C4 c0 c1 c2 c3 y0
  obtain ⟨c0, c1, c2, c3⟩ := (H4.at 2 rfl).cells4
  obtain ⟨d0, d1, d2, d3⟩ := (H4.at 1 rfl).cells4
  obtain ⟨p0, p1, p2, p3⟩ := (H4.at 0 rfl).cells4
  have hq := quad_eq
  clear H4
  go_wp2_with (go_at_call 11; refine (num_any _ _).mono ?_; rintro e w' ⟨rfl, rfl⟩)
  refine (C5.out _).mono ?_
  rintro e w5 ⟨rfl, hb⟩
  have b5 : Below w.heap.size w w5 := Below.on (b4.alloc s4 _) hb
  clear hq hb
  go_wp2
  go_ret
  exact ⟨rfl, b5⟩

end Go.Proofs.Yticjkeghjlgeiaa
