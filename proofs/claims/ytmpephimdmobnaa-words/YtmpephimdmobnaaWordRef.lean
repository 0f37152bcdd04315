/-
  The document's answers to chapter 3: they are those of package word (the same names in their contracts).
-/
import Derived.Test.YtmpephimdmobnaaWordCalls
namespace Go.Proofs.Ytmpephimdmobnaa
open Go.RowKit

theorem rupTo_any (n m : Int) (w : World) :
    Calls Try.prog 22 #[.int .i64 n, .int .i64 0, .int .i64 m] w fun e w' => e = .returned (.bool (upToV n m)) ∧ w = w' := by
  unfold upToV
  by_cases h0 : 0 ≤ n
  · by_cases h1 : n ≤ m
    · rw [decide_eq_true (show 0 ≤ n ∧ n ≤ m from ⟨h0, h1⟩)]
      go_enter Try.func22, Try.ntmps22
      go_wp2
      go_ret
      exact ⟨rfl, rfl⟩
    · rw [decide_eq_false (show ¬ (0 ≤ n ∧ n ≤ m) from fun x => h1 x.2)]
      go_enter Try.func22, Try.ntmps22
      go_wp2
      go_ret
      exact ⟨rfl, rfl⟩
  · rw [decide_eq_false (show ¬ (0 ≤ n ∧ n ≤ m) from fun x => h0 x.1)]
    go_enter Try.func22, Try.ntmps22
    go_wp2
    go_ret
    exact ⟨rfl, rfl⟩
theorem rvalue_any (n : Int) (w : World) :
    Calls Try.prog 20 #[.int .i64 n] w fun e w' => e = .returned (.bool (upToV n 255)) ∧ w = w' := by
  go_enter Try.func20, Try.ntmps20
  go_wp2_with (go_at_call 22; refine (rupTo_any _ _ _).mono ?_; rintro e w' ⟨rfl, rfl⟩)
  go_ret
  exact ⟨rfl, rfl⟩
theorem rclock_any (n : Int) (w : World) :
    Calls Try.prog 21 #[.int .i64 n] w fun e w' => e = .returned (.bool (upToV n 65535)) ∧ w = w' := by
  go_enter Try.func21, Try.ntmps21
  go_wp2_with (go_at_call 22; refine (rupTo_any _ _ _).mono ?_; rintro e w' ⟨rfl, rfl⟩)
  go_ret
  exact ⟨rfl, rfl⟩
theorem rid_any (n : Int) (w : World) :
    Calls Try.prog 19 #[.int .i64 n] w fun e w' => e = .returned (.bool (upToV n 254)) ∧ w = w' := by
  go_enter Try.func19, Try.ntmps19
  go_wp2_with (go_at_call 22; refine (rupTo_any _ _ _).mono ?_; rintro e w' ⟨rfl, rfl⟩)
  go_ret
  exact ⟨rfl, rfl⟩

set_option linter.unusedSimpArgs false
theorem rwmay_any (v n l : Int) (w : World) :
    Calls Try.prog 16 #[wordA v n l] w fun e w' => e = .returned (.bool (wmay v n l)) ∧ Below w.heap.size w w' := by
  unfold wordA
  cases hv : upToV v 255
  · rw [wmay_no1 hv]
    go_enter Try.func16, Try.ntmps16
    go_wp2_with (first | (go_at_call 20; refine (rvalue_any _ _).mono ?_; rintro e w' ⟨rfl, rfl⟩) | (go_at_call 21; refine (rclock_any _ _).mono ?_; rintro e w' ⟨rfl, rfl⟩) | (go_at_call 22; refine (rupTo_any _ _ _).mono ?_; rintro e w' ⟨rfl, rfl⟩))
    go_ret
    exact ⟨rfl, (Below.refl _ _).alloc (Nat.le_refl _) _⟩
  cases hn : upToV n 65535
  · rw [wmay_no2 hn]
    go_enter Try.func16, Try.ntmps16
    go_wp2_with (first | (go_at_call 20; refine (rvalue_any _ _).mono ?_; rintro e w' ⟨rfl, rfl⟩) | (go_at_call 21; refine (rclock_any _ _).mono ?_; rintro e w' ⟨rfl, rfl⟩) | (go_at_call 22; refine (rupTo_any _ _ _).mono ?_; rintro e w' ⟨rfl, rfl⟩))
    go_ret
    exact ⟨rfl, (Below.refl _ _).alloc (Nat.le_refl _) _⟩
  cases hl : upToV l 255
  · rw [wmay_no3 hl]
    go_enter Try.func16, Try.ntmps16
    go_wp2_with (first | (go_at_call 20; refine (rvalue_any _ _).mono ?_; rintro e w' ⟨rfl, rfl⟩) | (go_at_call 21; refine (rclock_any _ _).mono ?_; rintro e w' ⟨rfl, rfl⟩) | (go_at_call 22; refine (rupTo_any _ _ _).mono ?_; rintro e w' ⟨rfl, rfl⟩))
    go_ret
    exact ⟨rfl, (Below.refl _ _).alloc (Nat.le_refl _) _⟩
  · rw [wmay_of hv hn hl]
    go_enter Try.func16, Try.ntmps16
    go_wp2_with (first | (go_at_call 20; refine (rvalue_any _ _).mono ?_; rintro e w' ⟨rfl, rfl⟩) | (go_at_call 21; refine (rclock_any _ _).mono ?_; rintro e w' ⟨rfl, rfl⟩) | (go_at_call 22; refine (rupTo_any _ _ _).mono ?_; rintro e w' ⟨rfl, rfl⟩))
    go_ret
    exact ⟨rfl, (Below.refl _ _).alloc (Nat.le_refl _) _⟩


set_option maxHeartbeats 600000 in
theorem rlock_any (v n l i : Int) (w : World) :
    Calls Try.prog 9 #[wordA v n l, .int .i64 i] w fun e w' => e = .returned (.tuple #[lockW v n l i, .int .i64 (lockE v n l i)]) ∧ Below w.heap.size w w' := by
  cases hm : wmay v n l
  · rw [(lockW_form (i := i) (by rw [hm]; rfl)).1, (lockW_form (i := i) (by rw [hm]; rfl)).2]
    unfold wordA
    go_enter Try.func9, Try.ntmps9
    go_wp2_with fail
    refine (rwmay_any v n l _).mono ?_
    rintro e w1 ⟨rfl, hb⟩
    rw [hm]
    obtain ⟨⟨c0, c1, c2⟩, f0, f1, f2⟩ := (((blk_new w _ _).alloc _).on hb).three
    obtain ⟨⟨d0, d1, d2⟩, g0, g1, g2⟩ := ((blk_new (w.alloc _) _ _).on hb).three
    rw [World.size_alloc] at d0 d1 d2 g0 g1 g2
    have b1 : Below w.heap.size w w1 := Below.on (by go_grown) hb
    go_wp2
    exact bodyPost_ret (v := .tuple #[.agg #[.int .i64 0, .int .i64 0, .int .i64 0], .int .i64 300]) (by simp [results, Try.results9, go_sem, d0, d1, d2]) rfl ⟨rfl, by go_grown⟩
  cases hi : upToV i 254
  · rw [(lockW_form (i := i) (by rw [hm, hi]; rfl)).1, (lockW_form (i := i) (by rw [hm, hi]; rfl)).2]
    unfold wordA
    go_enter Try.func9, Try.ntmps9
    go_wp2_with fail
    refine (rwmay_any v n l _).mono ?_
    rintro e w1 ⟨rfl, hb⟩
    rw [hm]
    obtain ⟨⟨c0, c1, c2⟩, f0, f1, f2⟩ := (((blk_new w _ _).alloc _).on hb).three
    obtain ⟨⟨d0, d1, d2⟩, g0, g1, g2⟩ := ((blk_new (w.alloc _) _ _).on hb).three
    rw [World.size_alloc] at d0 d1 d2 g0 g1 g2
    have b1 : Below w.heap.size w w1 := Below.on (by go_grown) hb
    go_wp2_with (go_at_call 19; refine (rid_any _ _).mono ?_; rintro e w' ⟨rfl, rfl⟩)
    exact bodyPost_ret (v := .tuple #[.agg #[.int .i64 0, .int .i64 0, .int .i64 0], .int .i64 300]) (by simp [results, Try.results9, go_sem, d0, d1, d2]) rfl ⟨rfl, by go_grown⟩
  by_cases hl : l = 0
  · rw [(lockW_ok hm hi hl).1, (lockW_ok hm hi hl).2]
    obtain ⟨i0, i1⟩ := upToV_yes hi
    subst hl
    unfold wordA
    go_enter Try.func9, Try.ntmps9
    go_wp2_with fail
    refine (rwmay_any v n 0 _).mono ?_
    rintro e w1 ⟨rfl, hb⟩
    rw [hm]
    obtain ⟨⟨c0, c1, c2⟩, f0, f1, f2⟩ := (((blk_new w _ _).alloc _).on hb).three
    obtain ⟨⟨d0, d1, d2⟩, g0, g1, g2⟩ := ((blk_new (w.alloc _) _ _).on hb).three
    rw [World.size_alloc] at d0 d1 d2 g0 g1 g2
    have b1 : Below w.heap.size w w1 := Below.on (by go_grown) hb
    go_wp2_with (go_at_call 19; refine (rid_any _ _).mono ?_; rintro e w' ⟨rfl, rfl⟩)
    exact bodyPost_ret (v := .tuple #[.agg #[.int .i64 v, .int .i64 n, .int .i64 (i + 1)], .int .i64 0]) (by simp [results, Try.results9, go_sem, d0, d1, d2]) rfl ⟨rfl, by go_grown⟩
  · rw [(lockW_locked hm hi hl).1, (lockW_locked hm hi hl).2]
    have hl' : (l == 0) = false := beq_eq_false_iff_ne.2 hl
    unfold wordA
    go_enter Try.func9, Try.ntmps9
    go_wp2_with fail
    refine (rwmay_any v n l _).mono ?_
    rintro e w1 ⟨rfl, hb⟩
    rw [hm]
    obtain ⟨⟨c0, c1, c2⟩, f0, f1, f2⟩ := (((blk_new w _ _).alloc _).on hb).three
    obtain ⟨⟨d0, d1, d2⟩, g0, g1, g2⟩ := ((blk_new (w.alloc _) _ _).on hb).three
    rw [World.size_alloc] at d0 d1 d2 g0 g1 g2
    have b1 : Below w.heap.size w w1 := Below.on (by go_grown) hb
    go_wp2_with (go_at_call 19; refine (rid_any _ _).mono ?_; rintro e w' ⟨rfl, rfl⟩)
    exact bodyPost_ret (v := .tuple #[.agg #[.int .i64 0, .int .i64 0, .int .i64 0], .int .i64 301]) (by simp [results, Try.results9, go_sem, d0, d1, d2]) rfl ⟨rfl, by go_grown⟩

set_option maxHeartbeats 600000 in
theorem rwrite_any (v n l x y : Int) (w : World) :
    Calls Try.prog 13 #[wordA v n l, .int .i64 x, .int .i64 y] w fun e w' => e = .returned (.tuple #[writeW v n l x y, .int .i64 (writeE v n l x y)]) ∧ Below w.heap.size w w' := by
  cases hm : wmay v n l
  · rw [(writeW_form (x := x) (y := y) (by rw [hm]; rfl)).1, (writeW_form (x := x) (y := y) (by rw [hm]; rfl)).2]
    unfold wordA
    go_enter Try.func13, Try.ntmps13
    go_wp2_with fail
    refine (rwmay_any v n l _).mono ?_
    rintro e w1 ⟨rfl, hb⟩
    rw [hm]
    have B1 := ((blk_new (w.alloc _) _ _).alloc _).on hb
    have B2 := (blk_new ((w.alloc _).alloc _) _ _).on hb
    rw [World.size_alloc] at B1
    rw [World.size_alloc, World.size_alloc] at B2
    obtain ⟨⟨d0, d1, d2⟩, g0, g1, g2⟩ := B1.three
    obtain ⟨⟨c0, c1, c2⟩, f0, f1, f2⟩ := B2.three
    have b1 : Below w.heap.size w w1 := Below.on (by go_grown) hb
    go_wp2
    exact bodyPost_ret (v := .tuple #[.agg #[.int .i64 0, .int .i64 0, .int .i64 0], .int .i64 300]) (by simp [results, Try.results13, go_sem, d0, d1, d2]) rfl ⟨rfl, by go_grown⟩
  cases hi : wmay x y 0
  · rw [(writeW_form (by rw [hm, hi]; rfl)).1, (writeW_form (by rw [hm, hi]; rfl)).2]
    unfold wordA
    go_enter Try.func13, Try.ntmps13
    go_wp2_with fail
    refine (rwmay_any v n l _).mono ?_
    rintro e w1 ⟨rfl, hb⟩
    rw [hm]
    have B1 := ((blk_new (w.alloc _) _ _).alloc _).on hb
    have B2 := (blk_new ((w.alloc _).alloc _) _ _).on hb
    rw [World.size_alloc] at B1
    rw [World.size_alloc, World.size_alloc] at B2
    obtain ⟨⟨d0, d1, d2⟩, g0, g1, g2⟩ := B1.three
    obtain ⟨⟨c0, c1, c2⟩, f0, f1, f2⟩ := B2.three
    have b1 : Below w.heap.size w w1 := Below.on (by go_grown) hb
    go_wp2_with fail
    refine (rwmay_any x y 0 _).mono ?_
    rintro e w2 ⟨rfl, hb2⟩
    rw [hi]
    clear d0 d1 d2 g0 g1 g2 c0 c1 c2 f0 f1 f2
    obtain ⟨⟨d0, d1, d2⟩, g0, g1, g2⟩ := (B1.on hb2).three
    obtain ⟨⟨c0, c1, c2⟩, f0, f1, f2⟩ := (B2.on hb2).three
    have b2 : Below w.heap.size w w2 := Below.on b1 hb2
    go_wp2
    exact bodyPost_ret (v := .tuple #[.agg #[.int .i64 0, .int .i64 0, .int .i64 0], .int .i64 300]) (by simp [results, Try.results13, go_sem, d0, d1, d2]) rfl ⟨rfl, by go_grown⟩
  · rw [(writeW_ok hm hi).1, (writeW_ok hm hi).2]
    unfold wordA
    go_enter Try.func13, Try.ntmps13
    go_wp2_with fail
    refine (rwmay_any v n l _).mono ?_
    rintro e w1 ⟨rfl, hb⟩
    rw [hm]
    have B1 := ((blk_new (w.alloc _) _ _).alloc _).on hb
    have B2 := (blk_new ((w.alloc _).alloc _) _ _).on hb
    rw [World.size_alloc] at B1
    rw [World.size_alloc, World.size_alloc] at B2
    obtain ⟨⟨d0, d1, d2⟩, g0, g1, g2⟩ := B1.three
    obtain ⟨⟨c0, c1, c2⟩, f0, f1, f2⟩ := B2.three
    have b1 : Below w.heap.size w w1 := Below.on (by go_grown) hb
    go_wp2_with fail
    refine (rwmay_any x y 0 _).mono ?_
    rintro e w2 ⟨rfl, hb2⟩
    rw [hi]
    clear d0 d1 d2 g0 g1 g2 c0 c1 c2 f0 f1 f2
    obtain ⟨⟨d0, d1, d2⟩, g0, g1, g2⟩ := (B1.on hb2).three
    obtain ⟨⟨c0, c1, c2⟩, f0, f1, f2⟩ := (B2.on hb2).three
    have b2 : Below w.heap.size w w2 := Below.on b1 hb2
    go_wp2
    exact bodyPost_ret (v := .tuple #[.agg #[.int .i64 x, .int .i64 y, .int .i64 0], .int .i64 0]) (by simp [results, Try.results13, go_sem, d0, d1, d2]) rfl ⟨rfl, by go_grown⟩

theorem free_same {v n l : Int} (h : wmay v n l = true) : wmay v n 0 = true := by
  obtain ⟨a, b, _⟩ := wmay_yes h
  exact wmay_of a b rfl

set_option maxHeartbeats 600000 in
theorem rfree_any (v n l : Int) (w : World) :
    Calls Try.prog 11 #[wordA v n l] w fun e w' => e = .returned (.tuple #[writeW v n l v n, .int .i64 (writeE v n l v n)]) ∧ Below w.heap.size w w' := by
  cases hm : wmay v n l
  · rw [(writeW_form (by rw [hm]; rfl)).1, (writeW_form (by rw [hm]; rfl)).2]
    unfold wordA
    go_enter Try.func11, Try.ntmps11
    go_wp2_with fail
    refine (rwmay_any v n l _).mono ?_
    rintro e w1 ⟨rfl, hb⟩
    rw [hm]
    obtain ⟨⟨c0, c1, c2⟩, f0, f1, f2⟩ := (((blk_new w _ _).alloc _).on hb).three
    obtain ⟨⟨d0, d1, d2⟩, g0, g1, g2⟩ := ((blk_new (w.alloc _) _ _).on hb).three
    rw [World.size_alloc] at d0 d1 d2 g0 g1 g2
    have b1 : Below w.heap.size w w1 := Below.on (by go_grown) hb
    go_wp2
    exact bodyPost_ret (v := .tuple #[.agg #[.int .i64 0, .int .i64 0, .int .i64 0], .int .i64 300]) (by simp [results, Try.results11, go_sem, d0, d1, d2]) rfl ⟨rfl, by go_grown⟩
  · rw [(writeW_ok hm (free_same hm)).1, (writeW_ok hm (free_same hm)).2]
    unfold wordA
    go_enter Try.func11, Try.ntmps11
    go_wp2_with fail
    refine (rwmay_any v n l _).mono ?_
    rintro e w1 ⟨rfl, hb⟩
    rw [hm]
    obtain ⟨⟨c0, c1, c2⟩, f0, f1, f2⟩ := (((blk_new w _ _).alloc _).on hb).three
    obtain ⟨⟨d0, d1, d2⟩, g0, g1, g2⟩ := ((blk_new (w.alloc _) _ _).on hb).three
    rw [World.size_alloc] at d0 d1 d2 g0 g1 g2
    have b1 : Below w.heap.size w w1 := Below.on (by go_grown) hb
    go_wp2
    exact bodyPost_ret (v := .tuple #[.agg #[.int .i64 v, .int .i64 n, .int .i64 0], .int .i64 0]) (by simp [results, Try.results11, go_sem, d0, d1, d2]) rfl ⟨rfl, by go_grown⟩

end Go.Proofs.Ytmpephimdmobnaa
