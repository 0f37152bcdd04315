/-
  The landed arena's Put.
-/
import Derived.Test.YtmjclmjnkmhciaaArenaProgGet
import Derived.Test.YtmjclmjnkmhciaaAnewArena
namespace Go.Proofs.Ytmjclmjnkmhciaa
open Go.RowKit
set_option linter.unusedSimpArgs false

set_option maxHeartbeats 1000000 in
theorem put_c : PutC := by
  intro s z l i v n k w hf h
  cases ha : amay s z
  · have hno : putOk s z l i v n k = false := by unfold putOk; rw [ha]; rfl
    unfold arenaA wordA
    go_enter Try.func13, Try.ntmps13
    go_wp2_with fail
    refine (may_c s z _ hf (h.below (by go_grown : Below w.heap.size w _) (Nat.le_refl _))).mono ?_
    rintro e w1 ⟨rfl, hb⟩
    rw [ha]
    have B3 := (blk_new ((w.alloc _).alloc _) _ _).on hb
    rw [World.size_alloc, World.size_alloc] at B3
    have b1 : Below w.heap.size w w1 := Below.on (by go_grown) hb
    obtain ⟨⟨d0, d1, d2, d3⟩, g0, g1, g2, g3⟩ := B3.four
    clear hb h hf
    go_wp2
    exact bodyPost_ret (v := .tuple #[.agg #[.slice none 0 0, .slice none 0 0, .slice none 0 0, .slice none 0 0], .int .i64 400]) (by simp [results, Try.results13, go_sem, d0, d1, d2, d3]) rfl (put_no hno (by go_grown))
  · cases ht : thereV s l i
    · have hno : putOk s z l i v n k = false := by unfold putOk; rw [ht]; simp
      unfold arenaA wordA
      go_enter Try.func13, Try.ntmps13
      go_wp2_with fail
      refine (may_c s z _ hf (h.below (by go_grown : Below w.heap.size w _) (Nat.le_refl _))).mono ?_
      rintro e w1 ⟨rfl, hb⟩
      rw [ha]
      have B1 := (((blk_new w (arenaL s) 23).alloc _).alloc _).on hb
      have B2 := ((blk_new (w.alloc _) _ _).alloc _).on hb
      have B3 := (blk_new ((w.alloc _).alloc _) _ _).on hb
      rw [World.size_alloc] at B2
      rw [World.size_alloc, World.size_alloc] at B3
      have b1 : Below w.heap.size w w1 := Below.on (by go_grown) hb
      clear hb
      obtain ⟨⟨c0, c1, c2, c3⟩, f0, f1, f2, f3⟩ := B1.four
      go_wp2_with fail
      refine (there_any s l i _).mono ?_
      rintro e w2 ⟨rfl, hb⟩
      rw [ht]
      replace B1 := B1.on hb
      replace B2 := B2.on hb
      replace B3 := B3.on hb
      have b2 : Below w.heap.size w w2 := Below.on b1 hb
      clear hb b1 c0 c1 c2 c3 f0 f1 f2 f3
      obtain ⟨⟨d0, d1, d2, d3⟩, g0, g1, g2, g3⟩ := B3.four
      clear h hf
      go_wp2
      exact bodyPost_ret (v := .tuple #[.agg #[.slice none 0 0, .slice none 0 0, .slice none 0 0, .slice none 0 0], .int .i64 400]) (by simp [results, Try.results13, go_sem, d0, d1, d2, d3]) rfl (put_no hno (by go_grown))
    · cases hm : wmay v n k
      · have hno : putOk s z l i v n k = false := by unfold putOk; rw [hm]; simp
        unfold arenaA wordA
        go_enter Try.func13, Try.ntmps13
        go_wp2_with fail
        refine (may_c s z _ hf (h.below (by go_grown : Below w.heap.size w _) (Nat.le_refl _))).mono ?_
        rintro e w1 ⟨rfl, hb⟩
        rw [ha]
        have B1 := (((blk_new w (arenaL s) 23).alloc _).alloc _).on hb
        have B2 := ((blk_new (w.alloc _) _ _).alloc _).on hb
        have B3 := (blk_new ((w.alloc _).alloc _) _ _).on hb
        rw [World.size_alloc] at B2
        rw [World.size_alloc, World.size_alloc] at B3
        have b1 : Below w.heap.size w w1 := Below.on (by go_grown) hb
        clear hb
        obtain ⟨⟨c0, c1, c2, c3⟩, f0, f1, f2, f3⟩ := B1.four
        go_wp2_with fail
        refine (there_any s l i _).mono ?_
        rintro e w2 ⟨rfl, hb⟩
        rw [ht]
        replace B1 := B1.on hb
        replace B2 := B2.on hb
        replace B3 := B3.on hb
        have b2 : Below w.heap.size w w2 := Below.on b1 hb
        clear hb b1 c0 c1 c2 c3 f0 f1 f2 f3
        obtain ⟨⟨c0, c1, c2⟩, f0, f1, f2⟩ := B2.three
        go_wp2_with fail
        refine (wmay_any v n k _).mono ?_
        rintro e w3 ⟨rfl, hb⟩
        rw [hm]
        replace B1 := B1.on hb
        replace B2 := B2.on hb
        replace B3 := B3.on hb
        have b3 : Below w.heap.size w w3 := Below.on b2 hb
        clear hb b2 c0 c1 c2 f0 f1 f2
        obtain ⟨⟨d0, d1, d2, d3⟩, g0, g1, g2, g3⟩ := B3.four
        clear h hf
        go_wp2
        exact bodyPost_ret (v := .tuple #[.agg #[.slice none 0 0, .slice none 0 0, .slice none 0 0, .slice none 0 0], .int .i64 400]) (by simp [results, Try.results13, go_sem, d0, d1, d2, d3]) rfl (put_no hno (by go_grown))
      · have hok : putOk s z l i v n k = true := by unfold putOk; rw [ha, ht, hm]; rfl
        have HOK := hide hok
        clear hok
        obtain ⟨l, i, rfl, rfl, hl, hi⟩ := thereV_get ht
        unfold arenaA wordA
        go_enter Try.func13, Try.ntmps13
        go_wp2_with fail
        refine (may_c s z _ hf (h.below (by go_grown : Below w.heap.size w _) (Nat.le_refl _))).mono ?_
        rintro e w1 ⟨rfl, hb⟩
        rw [ha]
        have B1 := (((blk_new w (arenaL s) 23).alloc _).alloc _).on hb
        have B2 := ((blk_new (w.alloc _) _ _).alloc _).on hb
        have B3 := (blk_new ((w.alloc _).alloc _) _ _).on hb
        rw [World.size_alloc] at B2
        rw [World.size_alloc, World.size_alloc] at B3
        have b1 : Below w.heap.size w w1 := Below.on (by go_grown) hb
        clear hb
        obtain ⟨⟨c0, c1, c2, c3⟩, f0, f1, f2, f3⟩ := B1.four
        go_wp2_with fail
        refine (there_any s l i _).mono ?_
        rintro e w2 ⟨rfl, hb⟩
        rw [ht]
        replace B1 := B1.on hb
        replace B2 := B2.on hb
        replace B3 := B3.on hb
        have b2 : Below w.heap.size w w2 := Below.on b1 hb
        clear hb b1 c0 c1 c2 c3 f0 f1 f2 f3
        obtain ⟨⟨c0, c1, c2⟩, f0, f1, f2⟩ := B2.three
        go_wp2_with fail
        refine (wmay_any v n k _).mono ?_
        rintro e w3 ⟨rfl, hb⟩
        rw [hm]
        replace B1 := B1.on hb
        replace B2 := B2.on hb
        replace B3 := B3.on hb
        have b3 : Below w.heap.size w w3 := Below.on b2 hb
        clear hb b2 c0 c1 c2 f0 f1 f2
        obtain ⟨⟨c0, c1, c2, c3⟩, f0, f1, f2, f3⟩ := B1.four
        go_wp2_with fail
        refine (anewWords_any s z _ hf (h.below b3 (Nat.le_refl _))).mono ?_
        rintro e w4 ⟨t, rfl, htn, hny, hF, hb⟩
        have HNY := hide hny
        clear hny
        have y33 := B3.lt
        replace B2 := (B2.on hb).alloc (.cells #[.slice (t 0).a (t 0).n (t 0).c, .slice (t 1).a (t 1).n (t 1).c, .slice (t 2).a (t 2).n (t 2).c, .slice (t 3).a (t 3).n (t 3).c] 23)
        replace B3 := (B3.on hb).alloc (.cells #[.slice (t 0).a (t 0).n (t 0).c, .slice (t 1).a (t 1).n (t 1).c, .slice (t 2).a (t 2).n (t 2).c, .slice (t 3).a (t 3).n (t 3).c] 23)
        have B4 : Blk (w4.alloc (.cells #[.slice (t 0).a (t 0).n (t 0).c, .slice (t 1).a (t 1).n (t 1).c, .slice (t 2).a (t 2).n (t 2).c, .slice (t 3).a (t 3).n (t 3).c] 23)) w4.heap.size (arenaL t) := blk_new w4 (arenaL t) 23
        have b4 : Below w.heap.size w w4 := Below.on b3 hb
        have b5 := b4.alloc b4.size (.cells #[.slice (t 0).a (t 0).n (t 0).c, .slice (t 1).a (t 1).n (t 1).c, .slice (t 2).a (t 2).n (t 2).c, .slice (t 3).a (t 3).n (t 3).c] 23)
        have F4 := hF.alloc (.cells #[.slice (t 0).a (t 0).n (t 0).c, .slice (t 1).a (t 1).n (t 1).c, .slice (t 2).a (t 2).n (t 2).c, .slice (t 3).a (t 3).n (t 3).c] 23)
        have s3 := b3.size
        have s34 := hb.size
        have HTN := hide htn
        clear htn
        clear hb b3 c0 c1 c2 c3 f0 f1 f2 f3 B1 b4 hF h hf
        unfold arenaA
        go_wp2_with fail
        generalize w4.alloc (.cells #[.slice (t 0).a (t 0).n (t 0).c, .slice (t 1).a (t 1).n (t 1).c, .slice (t 2).a (t 2).n (t 2).c, .slice (t 3).a (t 3).n (t 3).c] 23) = W at *
        obtain ⟨b, hta, hbB, hbC, ho⟩ : ∃ b, (t l).a = some ⟨b, 0, none⟩ ∧ w3.heap.size ≤ b ∧ b < w4.heap.size ∧ Own W b ((t l).n * 3) (intF (z l)) := by
          obtain ⟨β, h1, _⟩ := F4
          exact ⟨β l, h1 l hl (by rw [HTN.out l hl]; omega)⟩
        have cl := B4.cell l _ (arenaL_get t hl)
        rw [hta, HTN.out l hl] at cl
        rw [HTN.out l hl] at ho
        have j0 := ho.cell (i := i * 3) (by omega)
        have j1 := ho.cell (i := i * 3 + 1) (by omega)
        have j2 := ho.cell (i := i * 3 + 2) (by omega)
        have k0 := ho.frozen (i * 3)
        have k1 := ho.frozen (i * 3 + 1)
        have k2 := ho.frozen (i * 3 + 2)
        obtain ⟨⟨c0, c1, c2⟩, f0, f1, f2⟩ := B2.three
        have y2 := B2.lt
        have i1 : (l : Int) < 4 := by omega
        have i2 : (i : Int) < ((s l).n : Int) := by omega
        go_region
        have F5 := F4.setWord hl (by rw [HTN.out l hl]; omega) hta i v n k
        have B3' := ((B3.far (a := ⟨b, i * 3, none⟩) (.int .i64 v) (by simp; omega)).far (a := ⟨b, i * 3 + 1, none⟩) (.int .i64 n) (by simp; omega)).far (a := ⟨b, i * 3 + 2, none⟩) (.int .i64 k) (by simp; omega)
        have B4' := ((B4.far (a := ⟨b, i * 3, none⟩) (.int .i64 v) (by simp; omega)).far (a := ⟨b, i * 3 + 1, none⟩) (.int .i64 n) (by simp; omega)).far (a := ⟨b, i * 3 + 2, none⟩) (.int .i64 k) (by simp; omega)
        have b6 : Below w.heap.size w (((W.setCell ⟨b, i * 3, none⟩ (.int .i64 v)).setCell ⟨b, i * 3 + 1, none⟩ (.int .i64 n)).setCell ⟨b, i * 3 + 2, none⟩ (.int .i64 k)) := ((b5.setCell (by simp; omega) _).setCell (by simp; omega) _).setCell (by simp; omega) _
        clear B3 B4 b5 F4 ho cl j0 j1 j2 k0 k1 k2 c0 c1 c2 f0 f1 f2 B2 y2
        generalize ((W.setCell ⟨b, i * 3, none⟩ (.int .i64 v)).setCell ⟨b, i * 3 + 1, none⟩ (.int .i64 n)).setCell ⟨b, i * 3 + 2, none⟩ (.int .i64 k) = W2 at *
        obtain ⟨⟨c0, c1, c2, c3⟩, f0, f1, f2, f3⟩ := B4'.four
        obtain ⟨⟨d0, d1, d2, d3⟩, g0, g1, g2, g3⟩ := B3'.four
        have y3 := B3'.lt
        have y4 := B4'.lt
        go_wp2
        refine bodyPost_ret (v := .tuple #[.agg #[.slice (t 0).a (t 0).n (t 0).c, .slice (t 1).a (t 1).n (t 1).c, .slice (t 2).a (t 2).n (t 2).c, .slice (t 3).a (t 3).n (t 3).c], .int .i64 0]) (by simp [results, Try.results13, go_sem, d0, d1, d2, d3]) rfl ⟨t, _, ?_, HNY.out, ?_, by go_grown, fun _ => ⟨HTN.out, rfl⟩, fun h => ?_⟩
        · unfold putE; rw [HOK.out]; rfl
        · rw [Int.toNat_natCast, Int.toNat_natCast]
          simp only [World.size_drew, World.size_setCell]
          exact (((((F5.far _ (.inl (by simp; omega))).far _ (.inl (by simp; omega))).far _ (.inl (by simp; omega))).far _ (.inl (by simp; omega))).drew).mono (by omega) (by omega)
        · rw [HOK.out] at h; cases h

end Go.Proofs.Ytmjclmjnkmhciaa
