/-
  What every program answers that is one: chapter 3's own examples hold.
-/
import Derived.Test.YtmpephimdmobnaaWordCalls
namespace Go.Proofs.Ytmpephimdmobnaa
open Go.RowKit

set_option maxHeartbeats 1000000 in
theorem awake3_any (w : World) :
    Calls Try.prog 17 #[] w fun e w' => e = .returned (.bool true) ∧ Below w.heap.size w w' := by
  have e1 : lockW 5 7 0 3 = wordA 5 7 4 := rfl
  have e2 : lockE 5 7 0 3 = 0 := by decide
  have e3 : lockW 5 7 4 3 = wordA 0 0 0 := rfl
  have e4 : lockE 5 7 4 3 = 301 := by decide
  have e5 : writeW 5 7 4 5 7 = wordA 5 7 0 := rfl
  have e6 : writeE 5 7 4 5 7 = 0 := by decide
  have e7 : writeW 5 7 4 9 8 = wordA 9 8 0 := rfl
  have e8 : writeE 5 7 4 9 8 = 0 := by decide
  have e9 : writeW 5 7 4 (-1) 8 = wordA 0 0 0 := rfl
  have e10 : writeE 5 7 4 (-1) 8 = 300 := by decide
  have e11 : wmay 5 7 0 = true := by decide
  go_enter Try.func17, Try.ntmps17
  go_wp2_with fail
  refine (lock_any 5 7 0 3 _).mono ?_
  rintro e w1 ⟨rfl, hb⟩
  rw [e1, e2]
  have B1 := (blk_new w _ _).on hb
  have b1 : Below w.heap.size w w1 := Below.on (by go_grown) hb
  clear e1 e2 hb
  unfold wordA
  go_wp2_with fail
  refine (lock_any 5 7 4 3 _).mono ?_
  rintro e w2 ⟨rfl, hb⟩
  rw [e3, e4]
  have B2 := (blk_new w1 _ _).on hb
  replace B1 := (B1.alloc _).on hb
  have b2 : Below w.heap.size w w2 := Below.on (b1.alloc b1.size _) hb
  have z2 : w1.heap.size < w2.heap.size := B2.lt
  clear e3 e4 hb b1
  obtain ⟨⟨c0, c1, c2⟩, f0, f1, f2⟩ := B2.three
  unfold wordA
  go_wp2_with fail
  refine (free_any 5 7 4 _).mono ?_
  rintro e w3 ⟨rfl, hb⟩
  rw [e5, e6]
  clear c0 c1 c2 f0 f1 f2 z2
  replace B2 := (B2.alloc _).on hb
  replace B1 := (B1.alloc _).on hb
  have b3 : Below w.heap.size w w3 := Below.on (b2.alloc b2.size _) hb
  have z3 : w1.heap.size < w3.heap.size := B2.lt
  clear e5 e6 hb b2
  obtain ⟨⟨c0, c1, c2⟩, f0, f1, f2⟩ := B2.three
  unfold wordA
  go_wp2_with fail
  refine (write_any 5 7 4 9 8 _).mono ?_
  rintro e w4 ⟨rfl, hb⟩
  rw [e7, e8]
  clear c0 c1 c2 f0 f1 f2 z3
  have B3 := (blk_new w3 _ _).on hb
  replace B2 := (B2.alloc _).on hb
  replace B1 := (B1.alloc _).on hb
  have b4 : Below w.heap.size w w4 := Below.on (b3.alloc b3.size _) hb
  have z4 : w1.heap.size < w4.heap.size := B2.lt
  clear e7 e8 hb b3
  obtain ⟨⟨c0, c1, c2⟩, f0, f1, f2⟩ := B2.three
  unfold wordA
  go_wp2_with fail
  refine (write_any 5 7 4 (-1) 8 _).mono ?_
  rintro e w5 ⟨rfl, hb⟩
  rw [e9, e10]
  clear c0 c1 c2 f0 f1 f2 z4
  have B4 := (blk_new w4 _ _).on hb
  replace B3 := (B3.alloc _).on hb
  replace B2 := (B2.alloc _).on hb
  replace B1 := (B1.alloc _).on hb
  have b5 : Below w.heap.size w w5 := Below.on (b4.alloc b4.size _) hb
  clear e9 e10 hb b4
  obtain ⟨⟨c0, c1, c2⟩, f0, f1, f2⟩ := B1.three
  obtain ⟨⟨d0, d1, d2⟩, g0, g1, g2⟩ := B2.three
  obtain ⟨⟨h0, h1, h2⟩, i0, i1, i2⟩ := B3.three
  obtain ⟨⟨j0, j1, j2⟩, k0, k1, k2⟩ := B4.three
  have z1 := B1.lt
  have z2 := B2.lt
  have z3 := B3.lt
  have z4 := B4.lt
  unfold wordA
  go_wp2_with (go_at_call 14; go_in)
  refine (wmay_any 5 7 0 _).mono ?_
  rintro e w6 ⟨rfl, hb⟩
  rw [e11]
  have b6 : Below w.heap.size w w6 := Below.on (b5.alloc b5.size _) hb
  go_wp2
  go_ret
  exact ⟨rfl, b6⟩

end Go.Proofs.Ytmpephimdmobnaa
