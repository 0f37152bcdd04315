/-
  What package regs' functions hand back: statements, to be proved of the landed code; and what every program answers that is one.
-/
import Derived.Test.YticjkeghjlgeiaaRegsRef
import Derived.Test.YticjkeghjlgeiaaQuadEq
namespace Go.Proofs.Yticjkeghjlgeiaa
open Go.RowKit
set_option linter.unusedSimpArgs false

def SetC : Prop := ∀ (c : Nat → Int) (a b : Int) (w : World), Calls Try.prog 7 #[quadA c, .int .i64 a, .int .i64 b] w fun e w' => e = .returned (.tuple #[quadA (setC c a b), .int .i64 (setE c a b)]) ∧ Below w.heap.size w w'
def AddC : Prop := ∀ (c : Nat → Int) (a b : Int) (w : World), Calls Try.prog 9 #[quadA c, .int .i64 a, .int .i64 b] w fun e w' => e = .returned (.tuple #[quadA (addC c a b), .int .i64 (addE c a b)]) ∧ Below w.heap.size w w'

theorem quad_ext {f : Nat → Int} {a b c d : Int} (h0 : f 0 = a) (h1 : f 1 = b) (h2 : f 2 = c) (h3 : f 3 = d) : quadA f = .agg #[.int .i64 a, .int .i64 b, .int .i64 c, .int .i64 d] := by
  unfold quadA; rw [h0, h1, h2, h3]

set_option maxHeartbeats 2000000 in
theorem awake6_any (hS : SetC) (hA : AddC) (w : World) :
    Calls Try.prog 12 #[] w fun e w' => e = .returned (.bool true) ∧ Below w.heap.size w w' := by
  have C1 := hide fun w => hS (quad 1 2 3 4) 2 250 w
  have C2 := hide fun w => hA (quad 1 2 250 4) 2 3 w
  have C3 := hide fun w => hA (quad 1 2 254 4) 2 2 w
  have C4 := hide fun w => hS (quad 1 2 250 4) 4 0 w
  have C5 := hide fun w => hA (quad (-1) 0 0 0) 0 0 w
  rw [quad_ext (f := setC (quad 1 2 3 4) 2 250) (a := 1) (b := 2) (c := 250) (d := 4) (by decide) (by decide) (by decide) (by decide), show setE (quad 1 2 3 4) 2 250 = 0 by decide] at C1
  rw [quad_ext (f := addC (quad 1 2 250 4) 2 3) (a := 1) (b := 2) (c := 254) (d := 4) (by decide) (by decide) (by decide) (by decide), show addE (quad 1 2 250 4) 2 3 = 0 by decide] at C2
  rw [quad_ext (f := addC (quad 1 2 254 4) 2 2) (a := 1) (b := 2) (c := 252) (d := 4) (by decide) (by decide) (by decide) (by decide), show addE (quad 1 2 254 4) 2 2 = 0 by decide] at C3
  rw [quad_ext (f := setC (quad 1 2 250 4) 4 0) (a := 0) (b := 0) (c := 0) (d := 0) (by decide) (by decide) (by decide) (by decide), show setE (quad 1 2 250 4) 4 0 = 600 by decide] at C4
  rw [quad_ext (f := addC (quad (-1) 0 0 0) 0 0) (a := 0) (b := 0) (c := 0) (d := 0) (by decide) (by decide) (by decide) (by decide), show addE (quad (-1) 0 0 0) 0 0 = 600 by decide] at C5
  unfold quadA quad at C1 C2 C3 C4 C5
  clear hS hA
  go_enter Try.func12, Try.ntmps12
  go_wp2_with fail
  refine (C1.out _).mono ?_
  rintro e w1 ⟨rfl, b1⟩
  have s1 := b1.size
  have H1 : Held (w1.alloc (.cells #[.int .i64 1, .int .i64 2, .int .i64 250, .int .i64 4] 22)) [(w1.heap.size, [.int .i64 1, .int .i64 2, .int .i64 250, .int .i64 4])] := Held.cons (blk_new w1 _ _) (Held.nil _)
  clear C1
  go_wp2_with fail
  refine (C2.out _).mono ?_
  rintro e w2 ⟨rfl, hb⟩
  have b2 : Below w.heap.size w w2 := Below.on (b1.alloc s1 _) hb
  have s2 := b2.size
  have H2 : Held (w2.alloc (.cells #[.int .i64 1, .int .i64 2, .int .i64 254, .int .i64 4] 22)) [(w2.heap.size, [.int .i64 1, .int .i64 2, .int .i64 254, .int .i64 4]), (w1.heap.size, [.int .i64 1, .int .i64 2, .int .i64 250, .int .i64 4])] := Held.cons (blk_new w2 _ _) ((H1.on hb).alloc _)
  clear C2 hb b1 H1
  go_wp2_with fail
  refine (C3.out _).mono ?_
  rintro e w3 ⟨rfl, hb⟩
  have b3 : Below w.heap.size w w3 := Below.on (b2.alloc s2 _) hb
  have s3 := b3.size
  have H3 : Held (w3.alloc (.cells #[.int .i64 1, .int .i64 2, .int .i64 252, .int .i64 4] 22)) [(w3.heap.size, [.int .i64 1, .int .i64 2, .int .i64 252, .int .i64 4]), (w2.heap.size, [.int .i64 1, .int .i64 2, .int .i64 254, .int .i64 4]), (w1.heap.size, [.int .i64 1, .int .i64 2, .int .i64 250, .int .i64 4])] := Held.cons (blk_new w3 _ _) ((H2.on hb).alloc _)
  have y1 := (H2.on hb).at 1 rfl
  have y1 := y1.lt
  clear C3 hb b2 H2
  obtain ⟨c0, c1, c2, c3⟩ := (H3.at 2 rfl).cells4
  go_wp2_with fail
  refine (C4.out _).mono ?_
  rintro e w4 ⟨rfl, hb⟩
  have b4 : Below w.heap.size w w4 := Below.on (b3.alloc s3 _) hb
  have s4 := b4.size
  have H4 := (H3.on hb).alloc (.cells #[.int .i64 0, .int .i64 0, .int .i64 0, .int .i64 0] 22)
  clear C4 hb b3 H3 c0 c1 c2 c3 y1
  go_wp2_with fail
  refine (C5.out _).mono ?_
  rintro e w5 ⟨rfl, hb⟩
  have b5 : Below w.heap.size w w5 := Below.on (b4.alloc s4 _) hb
  have s5 := b5.size
  have y := H4.on hb
  have y1 := (y.at 0 rfl).lt
  have y2 := (y.at 1 rfl).lt
  have y3 := (y.at 2 rfl).lt
  clear C5 hb b4 H4
  obtain ⟨c0, c1, c2, c3⟩ := (y.at 2 rfl).cells4
  obtain ⟨_, _, d2, _⟩ := (y.at 1 rfl).cells4
  obtain ⟨_, _, e2, _⟩ := (y.at 0 rfl).cells4
  have hq := fun W => quad_eq 1 2 250 4 1 2 250 4 W
  simp only [beq_self_eq_true, Bool.and_self] at hq
  clear y
  go_wp2_with (go_at_call 11; refine (num_any _ _).mono ?_; rintro e w' ⟨rfl, rfl⟩)
  go_ret
  exact ⟨rfl, b5.alloc s5 _⟩

end Go.Proofs.Yticjkeghjlgeiaa
