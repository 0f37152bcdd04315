/-
  The law Words: the program's answers are the document's. Its walk.
-/
import Derived.Test.YtmpephimdmobnaaWordRef
import Derived.Test.YtmpephimdmobnaaWordAwake
import Derived.Test.YtmpephimdmobnaaKin
namespace Go.Proofs.Ytmpephimdmobnaa
open Go.RowKit

set_option maxHeartbeats 1000000 in
theorem words_walk (v n l : Int) (a1 a2 a3 : Int) (w : World) (_ : (Lit.int .i64 v).wf = true) (_ : (Lit.int .i64 n).wf = true) (_ : (Lit.int .i64 l).wf = true) (_ : (Lit.int .i64 a1).wf = true) (_ : (Lit.int .i64 a2).wf = true) (_ : (Lit.int .i64 a3).wf = true) :
    Calls Try.prog 3 #[.agg #[.int .i64 v, .int .i64 n, .int .i64 l], .int .i64 a1, .int .i64 a2, .int .i64 a3] w fun e w' => e = .returned (.bool true) ∧ Below w.heap.size w w' := by
  obtain ⟨x1, y1, z1, h1⟩ := lockW_word v n l a1
  obtain ⟨x2, y2, z2, h2⟩ := writeW_word v n l v n
  obtain ⟨x3, y3, z3, h3⟩ := writeW_word v n l a2 a3
  unfold wordA at h1 h2 h3
  go_enter Try.func3, Try.ntmps3
  go_wp2_with fail
  refine (lock_any v n l a1 _).mono ?_
  rintro e w1 ⟨rfl, hb⟩
  rw [h1]
  have B0 := (blk_new w _ _).on hb
  have b1 : Below w.heap.size w w1 := Below.on (by go_grown) hb
  have z0 := B0.lt
  clear hb
  obtain ⟨⟨c0, c1, c2⟩, f0, f1, f2⟩ := B0.three
  go_wp2_with fail
  refine (rlock_any v n l a1 _).mono ?_
  rintro e w2 ⟨rfl, hb⟩
  rw [h1]
  clear c0 c1 c2 f0 f1 f2 z0 h1
  have B1 := (blk_new w1 _ _).on hb
  replace B0 := (B0.alloc _).on hb
  have b2 : Below w.heap.size w w2 := Below.on (b1.alloc b1.size _) hb
  have z0 := B0.lt
  clear hb b1
  obtain ⟨⟨c0, c1, c2⟩, f0, f1, f2⟩ := B0.three
  go_wp2_with fail
  refine (free_any v n l _).mono ?_
  rintro e w3 ⟨rfl, hb⟩
  rw [h2]
  clear c0 c1 c2 f0 f1 f2 z0
  have B2 := (blk_new w2 _ _).on hb
  replace B1 := (B1.alloc _).on hb
  replace B0 := (B0.alloc _).on hb
  have b3 : Below w.heap.size w w3 := Below.on (b2.alloc b2.size _) hb
  have z0 := B0.lt
  clear hb b2
  obtain ⟨⟨c0, c1, c2⟩, f0, f1, f2⟩ := B0.three
  go_wp2_with fail
  refine (rfree_any v n l _).mono ?_
  rintro e w4 ⟨rfl, hb⟩
  rw [h2]
  clear c0 c1 c2 f0 f1 f2 z0 h2
  have B3 := (blk_new w3 _ _).on hb
  replace B2 := (B2.alloc _).on hb
  replace B1 := (B1.alloc _).on hb
  replace B0 := (B0.alloc _).on hb
  have b4 : Below w.heap.size w w4 := Below.on (b3.alloc b3.size _) hb
  have z0 := B0.lt
  clear hb b3
  obtain ⟨⟨c0, c1, c2⟩, f0, f1, f2⟩ := B0.three
  go_wp2_with fail
  refine (write_any v n l a2 a3 _).mono ?_
  rintro e w5 ⟨rfl, hb⟩
  rw [h3]
  clear c0 c1 c2 f0 f1 f2 z0
  have B4 := (blk_new w4 _ _).on hb
  replace B3 := (B3.alloc _).on hb
  replace B2 := (B2.alloc _).on hb
  replace B1 := (B1.alloc _).on hb
  replace B0 := (B0.alloc _).on hb
  have b5 : Below w.heap.size w w5 := Below.on (b4.alloc b4.size _) hb
  have z0 := B0.lt
  clear hb b4
  obtain ⟨⟨c0, c1, c2⟩, f0, f1, f2⟩ := B0.three
  go_wp2_with fail
  refine (rwrite_any v n l a2 a3 _).mono ?_
  rintro e w6 ⟨rfl, hb⟩
  rw [h3]
  clear c0 c1 c2 f0 f1 f2 z0 h3
  have B5 := (blk_new w5 _ _).on hb
  replace B4 := (B4.alloc _).on hb
  replace B3 := (B3.alloc _).on hb
  replace B2 := (B2.alloc _).on hb
  replace B1 := (B1.alloc _).on hb
  replace B0 := (B0.alloc _).on hb
  have b6 : Below w.heap.size w w6 := Below.on (b5.alloc b5.size _) hb
  have z6 := b6.size
  clear hb b5
  generalize hg0 : w.heap.size = g0 at *
  generalize w1.heap.size = g1 at *
  generalize w2.heap.size = g2 at *
  generalize w3.heap.size = g3 at *
  generalize w4.heap.size = g4 at *
  generalize w5.heap.size = g5 at *
  clear w1 w2 w3 w4 w5
  go_wp2_with fail
  have B6 := blk_new w6 [.int .i64 x3, .int .i64 y3, .int .i64 z3] 23
  replace B0 := B0.alloc (.cells #[.int .i64 x3, .int .i64 y3, .int .i64 z3] 23)
  replace B1 := B1.alloc (.cells #[.int .i64 x3, .int .i64 y3, .int .i64 z3] 23)
  replace B2 := B2.alloc (.cells #[.int .i64 x3, .int .i64 y3, .int .i64 z3] 23)
  replace B3 := B3.alloc (.cells #[.int .i64 x3, .int .i64 y3, .int .i64 z3] 23)
  replace B4 := B4.alloc (.cells #[.int .i64 x3, .int .i64 y3, .int .i64 z3] 23)
  replace B5 := B5.alloc (.cells #[.int .i64 x3, .int .i64 y3, .int .i64 z3] 23)
  replace b6 := b6.alloc z6 (.cells #[.int .i64 x3, .int .i64 y3, .int .i64 z3] 23)
  generalize w6.heap.size = g6 at *
  generalize w6.alloc (.cells #[.int .i64 x3, .int .i64 y3, .int .i64 z3] 23) = W at *
  obtain ⟨p0, p1, p2⟩ := B0.kin3
  obtain ⟨q0, q1, q2⟩ := B1.kin3
  obtain ⟨r0, r1, r2⟩ := B2.kin3
  obtain ⟨s0, s1, s2⟩ := B3.kin3
  obtain ⟨t0, t1, t2⟩ := B4.kin3
  obtain ⟨u0, u1, u2⟩ := B5.kin3
  obtain ⟨v0, v1, v2⟩ := B6.kin3
  have kne : Nonempty (Kin W) := kin_any W
  refine wp_region_kin (by kernel_rfl) (by kernel_rfl) ?_
  repeat (go_big_quiet_step ((first | (go_at_call 14; exact Calls.kin_same (num_any _ _)) | (go_at_call 15; exact Calls.kin_of (wmay_any _ _ _ _)) | (go_at_call 16; exact Calls.kin_of (rwmay_any _ _ _ _)) | (go_at_call 17; exact Calls.kin_of (awake3_any _)))))
  refine wpQuiet_nil ?_
  rintro _ ⟨u, rfl⟩
  go_wp2
  go_ret
  subst hg0
  exact ⟨rfl, b6.trans (u.below.mono (Nat.le_of_lt B0.lt))⟩

end Go.Proofs.Ytmpephimdmobnaa
