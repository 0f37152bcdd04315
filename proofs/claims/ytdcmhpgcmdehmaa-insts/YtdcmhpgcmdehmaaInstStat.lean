/-
  What package inst's functions hand back: statements, to be proved of the landed code; and what every program answers that is one.
-/
import Derived.Test.YtdcmhpgcmdehmaaInstRefs
namespace Go.Proofs.Ytdcmhpgcmdehmaa
open Go.RowKit
set_option linter.unusedSimpArgs false

def MayIC : Prop := ∀ (i : Nat → Int) (w : World), Calls Try.prog 12 #[quadA i] w fun e w' => e = .returned (.bool (instMay i)) ∧ Below w.heap.size w w'
def PutIC : Prop := ∀ (i : Nat → Int) (w : World), Calls Try.prog 7 #[quadA i] w fun e w' => e = .returned (.tuple #[textS (putIT i), .int .i64 (putIE i)]) ∧ Below w.heap.size w w'
def GetIC : Prop := ∀ (l : List UInt8) (w : World), Calls Try.prog 9 #[textS l] w fun e w' => e = .returned (.tuple #[quadA (getII l), .int .i64 (getIE l)]) ∧ Below w.heap.size w w'

theorem quad_ext {f : Nat → Int} {a b c d : Int} (h0 : f 0 = a) (h1 : f 1 = b) (h2 : f 2 = c) (h3 : f 3 = d) : quadA f = .agg #[.int .i64 a, .int .i64 b, .int .i64 c, .int .i64 d] := by
  unfold quadA; rw [h0, h1, h2, h3]

set_option maxRecDepth 10000 in
set_option maxHeartbeats 2000000 in
theorem awake7_any (hM : MayIC) (hP : PutIC) (hG : GetIC) (w : World) :
    Calls Try.prog 14 #[] w fun e w' => e = .returned (.bool true) ∧ Below w.heap.size w w' := by
  have C1 := hide fun w => hP (quad 3 1 2 3) w
  have C2 := hide fun w => hG [3, 1, 2, 3] w
  have C3 := hide fun w => hP (quad 5 1 0 0) w
  have C4 := hide fun w => hG [] w
  have C5 := hide fun w => hM (quad 3 1 2 3) w
  rw [show putIT (quad 3 1 2 3) = [3, 1, 2, 3] by decide, show putIE (quad 3 1 2 3) = 0 by decide] at C1
  rw [quad_ext (f := getII [3, 1, 2, 3]) (a := 3) (b := 1) (c := 2) (d := 3) (by decide) (by decide) (by decide) (by decide), show getIE [3, 1, 2, 3] = 0 by decide] at C2
  rw [show putIT (quad 5 1 0 0) = [] by decide, show putIE (quad 5 1 0 0) = 700 by decide] at C3
  rw [quad_ext (f := getII []) (a := 0) (b := 0) (c := 0) (d := 0) (by decide) (by decide) (by decide) (by decide), show getIE [] = 700 by decide] at C4
  rw [show instMay (quad 3 1 2 3) = true by decide] at C5
  unfold quadA quad at C1 C3 C5
  unfold textS at C1 C2 C3 C4
  clear hM hP hG
  go_enter Try.func14, Try.ntmps14
  go_wp2_with fail
  refine (C1.out _).mono ?_
  rintro e w1 ⟨rfl, hb⟩
  have b1 : Below w.heap.size w w1 := Below.on (by go_grown) hb
  have s1 := b1.size
  have B1 := (blk_new w [.int .i64 3, .int .i64 1, .int .i64 2, .int .i64 3] 23).on hb
  clear hb C1
  go_wp2_with fail
  refine (C2.out _).mono ?_
  rintro e w2 ⟨rfl, hb⟩
  have b2 : Below w.heap.size w w2 := Below.on b1 hb
  have s2 := b2.size
  replace B1 := B1.on hb
  clear hb C2 b1 s1
  go_wp2_with fail
  refine (C3.out _).mono ?_
  rintro e w3 ⟨rfl, hb⟩
  have b3 : Below w.heap.size w w3 := Below.on (b2.alloc s2 _) hb
  have s3 := b3.size
  replace B1 := (B1.alloc _).on hb
  have B2 := (blk_new w2 [.int .i64 3, .int .i64 1, .int .i64 2, .int .i64 3] 23).on hb
  clear hb C3 b2 s2
  go_wp2_with fail
  refine (C4.out _).mono ?_
  rintro e w4 ⟨rfl, hb⟩
  have b4 : Below w.heap.size w w4 := Below.on b3 hb
  have s4 := b4.size
  replace B1 := B1.on hb
  replace B2 := B2.on hb
  clear hb C4 b3 s3
  have y1 := B1.lt
  have y2 := B2.lt
  obtain ⟨c0, c1, c2, c3⟩ := B1.cells4
  obtain ⟨d0, d1, d2, d3⟩ := B2.cells4
  go_wp2_with (go_at_call 11; refine (num_any _ _).mono ?_; rintro e w' ⟨rfl, rfl⟩)
  refine (C5.out _).mono ?_
  rintro e w5 ⟨rfl, hb⟩
  have b5 : Below w.heap.size w w5 := Below.on (b4.alloc s4 _) hb
  clear hb C5 b4 s4 c0 c1 c2 c3 d0 d1 d2 d3
  go_wp2
  go_ret
  exact ⟨rfl, b5⟩

end Go.Proofs.Ytdcmhpgcmdehmaa
