/-
  The law WordLocks: a lock turns neither value nor version, and is taken once till it is free. Its walk.
-/
import Derived.Test.YtmpephimdmobnaaWordAwake
namespace Go.Proofs.Ytmpephimdmobnaa
open Go.RowKit

theorem lock_taken {v n a : Int} (h : wmay v n 0 = true) (ha : upToV a 254 = true) (b : Int) : lockW v n (a + 1) b = wordA 0 0 0 ∧ (lockE v n (a + 1) b = 300 ∨ lockE v n (a + 1) b = 301) := by
  obtain ⟨h1, h2, _⟩ := wmay_yes h
  obtain ⟨a0, a1⟩ := upToV_yes ha
  have hm : wmay v n (a + 1) = true := wmay_of h1 h2 (upToV_of (by omega) (by omega))
  cases hb : upToV b 254
  · have := lockW_form (v := v) (n := n) (l := a + 1) (i := b) (by rw [hm, hb]; rfl)
    exact ⟨this.1, .inl this.2⟩
  · have := lockW_locked hm hb (by omega)
    exact ⟨this.1, .inr this.2⟩
theorem free_taken {v n a : Int} (h : wmay v n 0 = true) (ha : upToV a 254 = true) : writeW v n (a + 1) v n = wordA v n 0 ∧ writeE v n (a + 1) v n = 0 := by
  obtain ⟨h1, h2, _⟩ := wmay_yes h
  obtain ⟨a0, a1⟩ := upToV_yes ha
  exact writeW_ok (wmay_of h1 h2 (upToV_of (by omega) (by omega))) h

/-- A word that may not be locked: the zero word beside an error. -/
theorem wordLocks_no (v n l a b q : Int) (w : World) (e1 : lockW v n l a = wordA 0 0 0) (e2 : lockE v n l a = q) (hq : (q == 0) = false) :
    Calls Try.prog 4 #[.agg #[.int .i64 v, .int .i64 n, .int .i64 l], .int .i64 a, .int .i64 b] w fun e w' => e = .returned (.bool true) ∧ Below w.heap.size w w' := by
  go_enter Try.func4, Try.ntmps4
  go_wp2_with fail
  refine (awake3_any _).mono ?_
  rintro e w1 ⟨rfl, hb⟩
  have B0 := (blk_new w _ _).on hb
  have b1 : Below w.heap.size w w1 := Below.on (by go_grown) hb
  clear hb
  obtain ⟨⟨c0, c1, c2⟩, f0, f1, f2⟩ := B0.three
  have HQ : Hid (lockE v n l a = q) := e2
  clear e2
  go_wp2_with fail
  refine (lock_any v n l a _).mono ?_
  rintro e w2 ⟨rfl, hb⟩
  rw [e1, HQ.out]
  clear e1 HQ c0 c1 c2 f0 f1 f2
  have b2 : Below w.heap.size w w2 := Below.on b1 hb
  clear hb b1 B0
  unfold wordA
  go_wp2_with (go_at_call 14; go_in)
  go_ret
  exact ⟨rfl, b2.alloc b2.size _⟩

set_option maxHeartbeats 1000000 in
theorem wordLocks_yes (v n a b : Int) (w : World) (h : wmay v n 0 = true) (ha : upToV a 254 = true) :
    Calls Try.prog 4 #[.agg #[.int .i64 v, .int .i64 n, .int .i64 0], .int .i64 a, .int .i64 b] w fun e w' => e = .returned (.bool true) ∧ Below w.heap.size w w' := by
  obtain ⟨a0, a1⟩ := upToV_yes ha
  obtain ⟨e1, e2⟩ := lockW_ok h ha rfl
  obtain ⟨e3, e4⟩ := lock_taken h ha b
  obtain ⟨e5, e6⟩ := free_taken h ha
  have hq : ∃ q, lockE v n (a + 1) b = q ∧ (q == 0) = false := by
    rcases e4 with e4 | e4
    · exact ⟨_, e4, rfl⟩
    · exact ⟨_, e4, rfl⟩
  obtain ⟨q, e4, hq⟩ := hq
  have hq2 : ¬ q = 0 := by simpa using hq
  have hq3 : (q != 0) = true := by simpa using hq
  go_enter Try.func4, Try.ntmps4
  go_wp2_with fail
  refine (awake3_any _).mono ?_
  rintro e w1 ⟨rfl, hb⟩
  have B0 := (blk_new w _ _).on hb
  have b1 : Below w.heap.size w w1 := Below.on (by go_grown) hb
  clear hb
  obtain ⟨⟨c0, c1, c2⟩, f0, f1, f2⟩ := B0.three
  go_wp2_with fail
  refine (lock_any v n 0 a _).mono ?_
  rintro e w2 ⟨rfl, hb⟩
  rw [e1, e2]
  clear e1 e2 c0 c1 c2 f0 f1 f2
  have b2 : Below w.heap.size w w2 := Below.on b1 hb
  replace B0 := B0.on hb
  clear hb b1
  unfold wordA
  obtain ⟨⟨c0, c1, c2⟩, f0, f1, f2⟩ := B0.three
  go_wp2_with (go_at_call 14; go_in)
  refine (lock_any v n (a + 1) b _).mono ?_
  rintro e w3 ⟨rfl, hb⟩
  rw [e3, e4]
  clear e3 e4 c0 c1 c2 f0 f1 f2
  have B1 := (blk_new w2 _ _).on hb
  replace B0 := (B0.alloc _).on hb
  have b3 : Below w.heap.size w w3 := Below.on (b2.alloc b2.size _) hb
  have z1 := B1.lt
  clear hb b2
  unfold wordA
  obtain ⟨⟨c0, c1, c2⟩, f0, f1, f2⟩ := B1.three
  go_wp2_with fail
  refine (free_any v n (a + 1) _).mono ?_
  rintro e w4 ⟨rfl, hb⟩
  rw [e5, e6]
  clear e5 e6 c0 c1 c2 f0 f1 f2 z1
  have B2 := (blk_new w3 _ _).on hb
  replace B1 := (B1.alloc _).on hb
  replace B0 := (B0.alloc _).on hb
  have b4 : Below w.heap.size w w4 := Below.on (b3.alloc b3.size _) hb
  have z0 := B0.lt
  have z1 := B1.lt
  have z2 := B2.lt
  clear hb b3
  obtain ⟨⟨c0, c1, c2⟩, f0, f1, f2⟩ := B0.three
  obtain ⟨⟨d0, d1, d2⟩, g0, g1, g2⟩ := B1.three
  obtain ⟨⟨h0, h1, h2⟩, i0, i1, i2⟩ := B2.three
  unfold wordA
  go_wp2_with (go_at_call 14; go_in)
  go_ret
  exact ⟨rfl, b4.alloc b4.size _⟩

theorem wordLocks_walk (v n l : Int) (a b : Int) (w : World) (_ : (Lit.int .i64 v).wf = true) (_ : (Lit.int .i64 n).wf = true) (_ : (Lit.int .i64 l).wf = true) (_ : (Lit.int .i64 a).wf = true) (_ : (Lit.int .i64 b).wf = true) :
    Calls Try.prog 4 #[.agg #[.int .i64 v, .int .i64 n, .int .i64 l], .int .i64 a, .int .i64 b] w fun e w' => e = .returned (.bool true) ∧ Below w.heap.size w w' := by
  cases hm : wmay v n l
  · have := lockW_form (v := v) (n := n) (l := l) (i := a) (by rw [hm]; rfl)
    exact wordLocks_no v n l a b 300 w this.1 this.2 rfl
  cases ha : upToV a 254
  · have := lockW_form (v := v) (n := n) (l := l) (i := a) (by rw [hm, ha]; rfl)
    exact wordLocks_no v n l a b 300 w this.1 this.2 rfl
  by_cases hl : l = 0
  · subst hl
    exact wordLocks_yes v n a b w hm ha
  · have := lockW_locked hm ha hl
    exact wordLocks_no v n l a b 301 w this.1 this.2 rfl

end Go.Proofs.Ytmpephimdmobnaa
