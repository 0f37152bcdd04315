/-
  What the functions of package word hand back, at whatever words and numbers. They make memory of their own; nothing old has turned.
-/
import Derived.Test.YtmpephimdmobnaaRows
import Derived.Test.YtmpephimdmobnaaWordPure
import Derived.WalkKit
import Derived.WalkSpells
import Derived.Test.YtmpephimdmobnaaMem
namespace Go.Proofs.Ytmpephimdmobnaa
open Go.RowKit

theorem upTo_any (n m : Int) (w : World) :
    Calls Try.prog 18 #[.int .i64 n, .int .i64 m] w fun e w' => e = .returned (.bool (upToV n m)) ∧ w = w' := by
  unfold upToV
  by_cases h0 : 0 ≤ n
  · by_cases h1 : n ≤ m
    · rw [decide_eq_true (show 0 ≤ n ∧ n ≤ m from ⟨h0, h1⟩)]
      go_enter Try.func18, Try.ntmps18
      go_wp2
      go_ret
      exact ⟨rfl, rfl⟩
    · rw [decide_eq_false (show ¬ (0 ≤ n ∧ n ≤ m) from fun x => h1 x.2)]
      go_enter Try.func18, Try.ntmps18
      go_wp2
      go_ret
      exact ⟨rfl, rfl⟩
  · rw [decide_eq_false (show ¬ (0 ≤ n ∧ n ≤ m) from fun x => h0 x.1)]
    go_enter Try.func18, Try.ntmps18
    go_wp2
    go_ret
    exact ⟨rfl, rfl⟩

theorem wmay_any (v n l : Int) (w : World) :
    Calls Try.prog 15 #[wordA v n l] w fun e w' => e = .returned (.bool (wmay v n l)) ∧ Below w.heap.size w w' := by
  unfold wordA
  cases hv : upToV v 255
  · rw [wmay_no1 hv]
    go_enter Try.func15, Try.ntmps15
    go_wp2_with (go_at_call 18; refine (upTo_any _ _ _).mono ?_; rintro e w' ⟨rfl, rfl⟩)
    go_ret
    exact ⟨rfl, (Below.refl _ _).alloc (Nat.le_refl _) _⟩
  cases hn : upToV n 65535
  · rw [wmay_no2 hn]
    go_enter Try.func15, Try.ntmps15
    go_wp2_with (go_at_call 18; refine (upTo_any _ _ _).mono ?_; rintro e w' ⟨rfl, rfl⟩)
    go_ret
    exact ⟨rfl, (Below.refl _ _).alloc (Nat.le_refl _) _⟩
  cases hl : upToV l 255
  · rw [wmay_no3 hl]
    go_enter Try.func15, Try.ntmps15
    go_wp2_with (go_at_call 18; refine (upTo_any _ _ _).mono ?_; rintro e w' ⟨rfl, rfl⟩)
    go_ret
    exact ⟨rfl, (Below.refl _ _).alloc (Nat.le_refl _) _⟩
  · rw [wmay_of hv hn hl]
    go_enter Try.func15, Try.ntmps15
    go_wp2_with (go_at_call 18; refine (upTo_any _ _ _).mono ?_; rintro e w' ⟨rfl, rfl⟩)
    go_ret
    exact ⟨rfl, (Below.refl _ _).alloc (Nat.le_refl _) _⟩

theorem lockW_form {v n l i : Int} (h : (wmay v n l && upToV i 254) = false) : lockW v n l i = wordA 0 0 0 ∧ lockE v n l i = 300 := by
  unfold lockW lockE; rw [h]; exact ⟨rfl, rfl⟩
theorem lockW_locked {v n l i : Int} (h : wmay v n l = true) (hi : upToV i 254 = true) (hl : l ≠ 0) : lockW v n l i = wordA 0 0 0 ∧ lockE v n l i = 301 := by
  unfold lockW lockE; rw [h, hi]; simp [hl]
theorem lockW_ok {v n l i : Int} (h : wmay v n l = true) (hi : upToV i 254 = true) (hl : l = 0) : lockW v n l i = wordA v n (i + 1) ∧ lockE v n l i = 0 := by
  unfold lockW lockE; rw [h, hi]; simp [hl]
theorem writeW_form {v n l x y : Int} (h : (wmay v n l && wmay x y 0) = false) : writeW v n l x y = wordA 0 0 0 ∧ writeE v n l x y = 300 := by
  unfold writeW writeE; rw [h]; exact ⟨rfl, rfl⟩
theorem writeW_ok {v n l x y : Int} (h : wmay v n l = true) (hi : wmay x y 0 = true) : writeW v n l x y = wordA x y 0 ∧ writeE v n l x y = 0 := by
  unfold writeW writeE; rw [h, hi]; exact ⟨rfl, rfl⟩

set_option linter.unusedSimpArgs false

set_option maxHeartbeats 600000 in
theorem lock_any (v n l i : Int) (w : World) :
    Calls Try.prog 8 #[wordA v n l, .int .i64 i] w fun e w' => e = .returned (.tuple #[lockW v n l i, .int .i64 (lockE v n l i)]) ∧ Below w.heap.size w w' := by
  cases hm : wmay v n l
  · rw [(lockW_form (i := i) (by rw [hm]; rfl)).1, (lockW_form (i := i) (by rw [hm]; rfl)).2]
    unfold wordA
    go_enter Try.func8, Try.ntmps8
    go_wp2_with fail
    refine (wmay_any v n l _).mono ?_
    rintro e w1 ⟨rfl, hb⟩
    rw [hm]
    obtain ⟨⟨c0, c1, c2⟩, f0, f1, f2⟩ := (((blk_new w _ _).alloc _).on hb).three
    obtain ⟨⟨d0, d1, d2⟩, g0, g1, g2⟩ := ((blk_new (w.alloc _) _ _).on hb).three
    rw [World.size_alloc] at d0 d1 d2 g0 g1 g2
    have b1 : Below w.heap.size w w1 := Below.on (by go_grown) hb
    go_wp2
    exact bodyPost_ret (v := .tuple #[.agg #[.int .i64 0, .int .i64 0, .int .i64 0], .int .i64 300]) (by simp [results, Try.results8, go_sem, d0, d1, d2]) rfl ⟨rfl, by go_grown⟩
  cases hi : upToV i 254
  · rw [(lockW_form (i := i) (by rw [hm, hi]; rfl)).1, (lockW_form (i := i) (by rw [hm, hi]; rfl)).2]
    unfold wordA
    go_enter Try.func8, Try.ntmps8
    go_wp2_with fail
    refine (wmay_any v n l _).mono ?_
    rintro e w1 ⟨rfl, hb⟩
    rw [hm]
    obtain ⟨⟨c0, c1, c2⟩, f0, f1, f2⟩ := (((blk_new w _ _).alloc _).on hb).three
    obtain ⟨⟨d0, d1, d2⟩, g0, g1, g2⟩ := ((blk_new (w.alloc _) _ _).on hb).three
    rw [World.size_alloc] at d0 d1 d2 g0 g1 g2
    have b1 : Below w.heap.size w w1 := Below.on (by go_grown) hb
    go_wp2_with (go_at_call 18; refine (upTo_any _ _ _).mono ?_; rintro e w' ⟨rfl, rfl⟩)
    exact bodyPost_ret (v := .tuple #[.agg #[.int .i64 0, .int .i64 0, .int .i64 0], .int .i64 300]) (by simp [results, Try.results8, go_sem, d0, d1, d2]) rfl ⟨rfl, by go_grown⟩
  by_cases hl : l = 0
  · rw [(lockW_ok hm hi hl).1, (lockW_ok hm hi hl).2]
    obtain ⟨i0, i1⟩ := upToV_yes hi
    subst hl
    unfold wordA
    go_enter Try.func8, Try.ntmps8
    go_wp2_with fail
    refine (wmay_any v n 0 _).mono ?_
    rintro e w1 ⟨rfl, hb⟩
    rw [hm]
    obtain ⟨⟨c0, c1, c2⟩, f0, f1, f2⟩ := (((blk_new w _ _).alloc _).on hb).three
    obtain ⟨⟨d0, d1, d2⟩, g0, g1, g2⟩ := ((blk_new (w.alloc _) _ _).on hb).three
    rw [World.size_alloc] at d0 d1 d2 g0 g1 g2
    have b1 : Below w.heap.size w w1 := Below.on (by go_grown) hb
    go_wp2_with (go_at_call 18; refine (upTo_any _ _ _).mono ?_; rintro e w' ⟨rfl, rfl⟩)
    exact bodyPost_ret (v := .tuple #[.agg #[.int .i64 v, .int .i64 n, .int .i64 (i + 1)], .int .i64 0]) (by simp [results, Try.results8, go_sem, d0, d1, d2]) rfl ⟨rfl, by go_grown⟩
  · rw [(lockW_locked hm hi hl).1, (lockW_locked hm hi hl).2]
    have hl' : (l == 0) = false := beq_eq_false_iff_ne.2 hl
    unfold wordA
    go_enter Try.func8, Try.ntmps8
    go_wp2_with fail
    refine (wmay_any v n l _).mono ?_
    rintro e w1 ⟨rfl, hb⟩
    rw [hm]
    obtain ⟨⟨c0, c1, c2⟩, f0, f1, f2⟩ := (((blk_new w _ _).alloc _).on hb).three
    obtain ⟨⟨d0, d1, d2⟩, g0, g1, g2⟩ := ((blk_new (w.alloc _) _ _).on hb).three
    rw [World.size_alloc] at d0 d1 d2 g0 g1 g2
    have b1 : Below w.heap.size w w1 := Below.on (by go_grown) hb
    go_wp2_with (go_at_call 18; refine (upTo_any _ _ _).mono ?_; rintro e w' ⟨rfl, rfl⟩)
    exact bodyPost_ret (v := .tuple #[.agg #[.int .i64 0, .int .i64 0, .int .i64 0], .int .i64 301]) (by simp [results, Try.results8, go_sem, d0, d1, d2]) rfl ⟨rfl, by go_grown⟩

set_option maxHeartbeats 600000 in
theorem write_any (v n l x y : Int) (w : World) :
    Calls Try.prog 12 #[wordA v n l, .int .i64 x, .int .i64 y] w fun e w' => e = .returned (.tuple #[writeW v n l x y, .int .i64 (writeE v n l x y)]) ∧ Below w.heap.size w w' := by
  cases hm : wmay v n l
  · rw [(writeW_form (x := x) (y := y) (by rw [hm]; rfl)).1, (writeW_form (x := x) (y := y) (by rw [hm]; rfl)).2]
    unfold wordA
    go_enter Try.func12, Try.ntmps12
    go_wp2_with fail
    refine (wmay_any v n l _).mono ?_
    rintro e w1 ⟨rfl, hb⟩
    rw [hm]
    have B1 := ((blk_new (w.alloc _) _ _).alloc _).on hb
    have B2 := (blk_new ((w.alloc _).alloc _) _ _).on hb
    rw [World.size_alloc] at B1
    rw [World.size_alloc, World.size_alloc] at B2
    obtain ⟨⟨d0, d1, d2⟩, g0, g1, g2⟩ := B1.three
    obtain ⟨⟨c0, c1, c2⟩, f0, f1, f2⟩ := B2.three
    have b1 : Below w.heap.size w w1 := Below.on (by go_grown) hb
    go_wp2
    exact bodyPost_ret (v := .tuple #[.agg #[.int .i64 0, .int .i64 0, .int .i64 0], .int .i64 300]) (by simp [results, Try.results12, go_sem, d0, d1, d2]) rfl ⟨rfl, by go_grown⟩
  cases hi : wmay x y 0
  · rw [(writeW_form (by rw [hm, hi]; rfl)).1, (writeW_form (by rw [hm, hi]; rfl)).2]
    unfold wordA
    go_enter Try.func12, Try.ntmps12
    go_wp2_with fail
    refine (wmay_any v n l _).mono ?_
    rintro e w1 ⟨rfl, hb⟩
    rw [hm]
    have B1 := ((blk_new (w.alloc _) _ _).alloc _).on hb
    have B2 := (blk_new ((w.alloc _).alloc _) _ _).on hb
    rw [World.size_alloc] at B1
    rw [World.size_alloc, World.size_alloc] at B2
    obtain ⟨⟨d0, d1, d2⟩, g0, g1, g2⟩ := B1.three
    obtain ⟨⟨c0, c1, c2⟩, f0, f1, f2⟩ := B2.three
    have b1 : Below w.heap.size w w1 := Below.on (by go_grown) hb
    go_wp2_with fail
    refine (wmay_any x y 0 _).mono ?_
    rintro e w2 ⟨rfl, hb2⟩
    rw [hi]
    clear d0 d1 d2 g0 g1 g2 c0 c1 c2 f0 f1 f2
    obtain ⟨⟨d0, d1, d2⟩, g0, g1, g2⟩ := (B1.on hb2).three
    obtain ⟨⟨c0, c1, c2⟩, f0, f1, f2⟩ := (B2.on hb2).three
    have b2 : Below w.heap.size w w2 := Below.on b1 hb2
    go_wp2
    exact bodyPost_ret (v := .tuple #[.agg #[.int .i64 0, .int .i64 0, .int .i64 0], .int .i64 300]) (by simp [results, Try.results12, go_sem, d0, d1, d2]) rfl ⟨rfl, by go_grown⟩
  · rw [(writeW_ok hm hi).1, (writeW_ok hm hi).2]
    unfold wordA
    go_enter Try.func12, Try.ntmps12
    go_wp2_with fail
    refine (wmay_any v n l _).mono ?_
    rintro e w1 ⟨rfl, hb⟩
    rw [hm]
    have B1 := ((blk_new (w.alloc _) _ _).alloc _).on hb
    have B2 := (blk_new ((w.alloc _).alloc _) _ _).on hb
    rw [World.size_alloc] at B1
    rw [World.size_alloc, World.size_alloc] at B2
    obtain ⟨⟨d0, d1, d2⟩, g0, g1, g2⟩ := B1.three
    obtain ⟨⟨c0, c1, c2⟩, f0, f1, f2⟩ := B2.three
    have b1 : Below w.heap.size w w1 := Below.on (by go_grown) hb
    go_wp2_with fail
    refine (wmay_any x y 0 _).mono ?_
    rintro e w2 ⟨rfl, hb2⟩
    rw [hi]
    clear d0 d1 d2 g0 g1 g2 c0 c1 c2 f0 f1 f2
    obtain ⟨⟨d0, d1, d2⟩, g0, g1, g2⟩ := (B1.on hb2).three
    obtain ⟨⟨c0, c1, c2⟩, f0, f1, f2⟩ := (B2.on hb2).three
    have b2 : Below w.heap.size w w2 := Below.on b1 hb2
    go_wp2
    exact bodyPost_ret (v := .tuple #[.agg #[.int .i64 x, .int .i64 y, .int .i64 0], .int .i64 0]) (by simp [results, Try.results12, go_sem, d0, d1, d2]) rfl ⟨rfl, by go_grown⟩

set_option maxHeartbeats 600000 in
theorem free_any (v n l : Int) (w : World) :
    Calls Try.prog 10 #[wordA v n l] w fun e w' => e = .returned (.tuple #[writeW v n l v n, .int .i64 (writeE v n l v n)]) ∧ Below w.heap.size w w' := by
  have key : ∃ x y z, writeW v n l v n = wordA x y z := by
    unfold writeW
    cases wmay v n l && wmay v n 0
    · exact ⟨_, _, _, rfl⟩
    · exact ⟨_, _, _, rfl⟩
  obtain ⟨x, y, z, hk⟩ := key
  generalize hq : writeE v n l v n = q
  rw [hk]
  unfold wordA
  go_enter Try.func10, Try.ntmps10
  go_wp2_with fail
  refine (write_any v n l v n _).mono ?_
  rintro e w1 ⟨rfl, hb⟩
  rw [hk, hq]
  clear hk hq
  obtain ⟨⟨d0, d1, d2⟩, g0, g1, g2⟩ := ((blk_new (w.alloc _) _ _).on hb).three
  rw [World.size_alloc] at d0 d1 d2 g0 g1 g2
  have b1 : Below w.heap.size w w1 := Below.on (by go_grown) hb
  unfold wordA
  go_wp2
  exact bodyPost_ret (v := .tuple #[.agg #[.int .i64 x, .int .i64 y, .int .i64 z], .int .i64 q]) (by simp [results, Try.results10, go_sem, d0, d1, d2]) rfl ⟨rfl, by go_grown⟩

theorem num_any (x : Int) (w : World) : Calls Try.prog 14 #[.int .i64 x] w fun e w' => e = .returned (.int .i64 x) ∧ w = w' := by
  go_enter Try.func14, Try.ntmps14
  go_wp2
  go_ret
  exact ⟨rfl, rfl⟩
theorem lockW_word (v n l i : Int) : ∃ x y z, lockW v n l i = wordA x y z := by
  unfold lockW
  cases wmay v n l && upToV i 254
  · exact ⟨_, _, _, rfl⟩
  · by_cases h : l = 0
    · exact ⟨_, _, _, by rw [cond_true, if_pos h]⟩
    · exact ⟨_, _, _, by rw [cond_true, if_neg h]⟩
theorem writeW_word (v n l i j : Int) : ∃ x y z, writeW v n l i j = wordA x y z := by
  unfold writeW
  cases wmay v n l && wmay i j 0
  · exact ⟨_, _, _, rfl⟩
  · exact ⟨_, _, _, rfl⟩

end Go.Proofs.Ytmpephimdmobnaa
