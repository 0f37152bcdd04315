/-
  The landed arena's 'copied' and Put.
-/
import Derived.Test.YtfekcjbnlknmbaaArenaProgGet
namespace Go.Proofs.Ytfekcjbnlknmbaa
open Go.RowKit
set_option linter.unusedSimpArgs false

set_option maxHeartbeats 1000000 in
theorem copied_any (s : Nat → Sl) (z : Nat → Nat → Int) (w : World) (hf : Fit s) (h : Arn w s z) :
    Calls Try.prog 25 #[arenaA s] w fun e w' => ∃ t, e = .returned (arenaA t) ∧ (∀ g, g < 4 → (t g).n = (s g).n) ∧ Nilly t ∧ Fresh w.heap.size w'.heap.size w' t z 4 ∧ Below w.heap.size w w' := by
  obtain ⟨i0, hi, hz0, hz1, hz2⟩ := info_parts Try.infoWord
  unfold arenaA
  go_enter Try.func25, Try.ntmps25
  go_wp2
  go_loopw [7] (fun i wr => ∃ (k : Nat) (t : Nat → Sl), k ≤ 4 ∧ i = .int .i64 k ∧ (∀ g, g < k → (t g).n = (s g).n) ∧ Nilly t ∧ Blk wr w.heap.size (arenaL s) ∧ Blk wr (w.heap.size + 1) (arenaL nilS) ∧ Blk wr (w.heap.size + 1 + 1) (arenaL t) ∧ Fresh (w.heap.size + 1 + 1 + 1) wr.heap.size wr t z k ∧ w.heap.size + 1 + 1 + 1 ≤ wr.heap.size ∧ Below w.heap.size w wr) (fun i _ => 4 - (intOf i).toNat)
  case atStart =>
    refine ⟨0, nilS, Nat.zero_le _, rfl, fun _ h => absurd h (Nat.not_lt_zero _), Nilly.nil, ?_, ?_, ?_, Fresh.zero _ _ _ _ _, ?_, by go_grown⟩
    · exact ((blk_new w (arenaL s) 23).alloc _).alloc _
    · have := (blk_new (w.alloc (.cells (arenaL s).toArray 23)) (arenaL nilS) 23).alloc (.cells (arenaL nilS).toArray 23)
      rw [World.size_alloc] at this
      exact this
    · have := blk_new ((w.alloc (.cells (arenaL s).toArray 23)).alloc (.cells (arenaL nilS).toArray 23)) (arenaL nilS) 23
      rw [World.size_alloc, World.size_alloc] at this
      exact this
    · simp only [World.size_alloc]; omega
  case round =>
    obtain ⟨k, t, hk, rfl, ht, hny, B1, B2, B3, hF, hz, hb⟩ := hrel
    have HNY := hide hny
    clear hny
    by_cases hlt : k < 4
    · have i1 : (k : Int) < 4 := by omega
      have hx := fun W => index_at s hlt W
      have d1 := B3.cell k _ (arenaL_get t hlt)
      have f1 := B3.frozen k
      have z2 := B3.lt
      have z1 := B1.lt
      have hr := (h.below hb (Nat.le_refl _)) k hlt
      obtain ⟨hn, ha⟩ := hf k hlt
      clear h hf
      cases hsa : (s k).a with
      | none =>
        obtain ⟨hn0, hc0⟩ := ha hsa
        rw [hsa, hn0, hc0] at hx
        have HT := hide ht
        have HN := hide hn0
        clear ha hr hsa hn0 hc0 ht hn
        go_wp2
        go_roundw
        case rel =>
          have st := copy_step (x := ⟨none, 0, 0⟩) hlt HT.out B1 B2 B3 hF hz (Nat.le_refl _) hb HN.out.symm (fun h => absurd h (Nat.lt_irrefl 0))
          obtain ⟨s1, s2, s3, s4, s5, s6, s7⟩ := st
          exact ⟨k + 1, _, by omega, by go_num, s1, HNY.out.upd k (fun _ => ⟨rfl, rfl⟩), s2, s3, s4, s5, s6, s7⟩
        case measure => simp [intOf]; omega
      | some ad =>
        rw [hsa] at hx hr
        have hown : wr.ownsRow wr.heap.size 27 3 (.slice none 0 0) 0 [] := World.ownsRow_nil _ _ _ _
        have HO := hide hown
        have HR := hide hr.news
        have HL := hide (rowL_len (intF (z k)) ((s k).n * 3))
        have H1 := hide (rowL_one (f := intF (z k)) (m := (s k).n * 3) fun _ _ => rfl)
        have HT := hide ht
        clear ha hown hr hsa ht
        go_wp2_with (at_builtin; refine wpList_append_own _ rfl (.const (.slice none 0 0)) (.tmp 12) 22 rfl wr.heap.size 27 i0 (.agg #[.int .i64 0, .int .i64 0, .int .i64 0]) 3 24 Try.underlying22 hi hz0 hz1 hz2 rfl (by decide) _ _ _ rfl (unhide HO) ad (s k).n (s k).c (rowL (intF (z k)) ((s k).n * 3)) rfl (unhide HL) (unhide HR) (unhide H1) ?_ ?_ ?_ ?_)
        · unfold maxLen; omega
        · omega
        · simp
        · intro v' w1 hown' hg _
          have hown2 : w1.ownsRow wr.heap.size 27 3 v' (s k).n (rowL (intF (z k)) ((s k).n * 3)) := by simpa using hown'
          have bw : Below wr.heap.size wr w1 := (Below.refl wr.heap.size wr).grown hg (Nat.le_refl _) (by intro j hj; simp [Value.ownBlock] at hj)
          obtain ⟨x, rfl, hxn, hxy, hxo⟩ : ∃ x : Sl, v' = .slice x.a x.n x.c ∧ x.n = (s k).n ∧ (x.a = none → x.n = 0 ∧ x.c = 0) ∧ (0 < x.n → ∃ b, x.a = some ⟨b, 0, none⟩ ∧ wr.heap.size ≤ b ∧ b < w1.heap.size ∧ Own w1 b (x.n * 3) (intF (z k))) := by
            rcases own_of_owns hown2 with ⟨rfl, h0⟩ | ⟨g, cap, rfl, hg1, _, _, ho⟩
            · exact ⟨⟨none, 0, 0⟩, rfl, h0.symm, fun _ => ⟨rfl, rfl⟩, fun h => absurd h (Nat.lt_irrefl 0)⟩
            · exact ⟨⟨some ⟨g, 0, none⟩, (s k).n, cap⟩, rfl, rfl, (fun h => by cases h), fun _ => ⟨g, rfl, hg1, ho.lt, ho⟩⟩
          have B1' := B1.on bw
          have B2' := B2.on bw
          have B3' := B3.on bw
          have hF' := hF.on bw
          have hb' : Below w.heap.size w w1 := Below.on hb bw
          have d2 := B3'.cell k _ (arenaL_get t hlt)
          have f2 := B3'.frozen k
          have z3 := bw.size
          have HX := hide hxo
          have HXN := hide hxn
          have HXY := hide hxy
          have HF := hide hF'
          clear hown' hg hown2 hxo hxn hxy hF' hF B1 B2 B3 hb bw hx d1 f1 z1 z2 HO HR HL H1
          go_wp2
          go_roundw
          case rel =>
            obtain ⟨s1, s2, s3, s4, s5, s6, s7⟩ := copy_step hlt HT.out B1' B2' B3' HF.out hz z3 hb' HXN.out HX.out
            exact ⟨k + 1, _, by omega, by go_num, s1, HNY.out.upd k HXY.out, s2, s3, s4, s5, s6, s7⟩
          case measure => simp [intOf]; omega
    · obtain rfl : k = 4 := by omega
      obtain ⟨⟨c0, c1, c2, c3⟩, f0, f1, f2, f3⟩ := B3.four
      obtain ⟨⟨d0, d1, d2, d3⟩, g0, g1, g2, g3⟩ := B2.four
      have HT := hide ht
      clear ht h hf
      go_wp2
      refine bodyPost_ret (v := .agg #[.slice (t 0).a (t 0).n (t 0).c, .slice (t 1).a (t 1).n (t 1).c, .slice (t 2).a (t 2).n (t 2).c, .slice (t 3).a (t 3).n (t 3).c]) (by simp [results, Try.results25, go_sem, d0, d1, d2, d3]) rfl ⟨t, rfl, HT.out, HNY.out, ?_, by go_grown⟩
      simp only [World.size_setCell]
      exact ((((hF.far _ (.inl (by simp))).far _ (.inl (by simp))).far _ (.inl (by simp))).far _ (.inl (by simp))).mono (by omega) (Nat.le_refl _)

set_option maxHeartbeats 1000000 in
theorem put_c : PutC := by
  intro s z l i v n k w hf h
  cases ha : amay s z
  · have hno : putOk s z l i v n k = false := by unfold putOk; rw [ha]; rfl
    unfold arenaA wordA
    go_enter Try.func13, Try.ntmps13
    go_wp2_with fail
    refine (may_c s z _ hf (h.below (by go_grown : Below w.heap.size w _) (Nat.le_refl _))).mono ?_
    rintro e w1 ⟨rfl, hb⟩
    rw [ha]
    have B3 := (blk_new ((w.alloc _).alloc _) _ _).on hb
    rw [World.size_alloc, World.size_alloc] at B3
    have b1 : Below w.heap.size w w1 := Below.on (by go_grown) hb
    obtain ⟨⟨d0, d1, d2, d3⟩, g0, g1, g2, g3⟩ := B3.four
    clear hb h hf
    go_wp2
    exact bodyPost_ret (v := .tuple #[.agg #[.slice none 0 0, .slice none 0 0, .slice none 0 0, .slice none 0 0], .int .i64 400]) (by simp [results, Try.results13, go_sem, d0, d1, d2, d3]) rfl (put_no hno (by go_grown))
  · cases ht : thereV s l i
    · have hno : putOk s z l i v n k = false := by unfold putOk; rw [ht]; simp
      unfold arenaA wordA
      go_enter Try.func13, Try.ntmps13
      go_wp2_with fail
      refine (may_c s z _ hf (h.below (by go_grown : Below w.heap.size w _) (Nat.le_refl _))).mono ?_
      rintro e w1 ⟨rfl, hb⟩
      rw [ha]
      have B1 := (((blk_new w (arenaL s) 23).alloc _).alloc _).on hb
      have B2 := ((blk_new (w.alloc _) _ _).alloc _).on hb
      have B3 := (blk_new ((w.alloc _).alloc _) _ _).on hb
      rw [World.size_alloc] at B2
      rw [World.size_alloc, World.size_alloc] at B3
      have b1 : Below w.heap.size w w1 := Below.on (by go_grown) hb
      clear hb
      obtain ⟨⟨c0, c1, c2, c3⟩, f0, f1, f2, f3⟩ := B1.four
      go_wp2_with fail
      refine (there_any s l i _).mono ?_
      rintro e w2 ⟨rfl, hb⟩
      rw [ht]
      replace B1 := B1.on hb
      replace B2 := B2.on hb
      replace B3 := B3.on hb
      have b2 : Below w.heap.size w w2 := Below.on b1 hb
      clear hb b1 c0 c1 c2 c3 f0 f1 f2 f3
      obtain ⟨⟨d0, d1, d2, d3⟩, g0, g1, g2, g3⟩ := B3.four
      clear h hf
      go_wp2
      exact bodyPost_ret (v := .tuple #[.agg #[.slice none 0 0, .slice none 0 0, .slice none 0 0, .slice none 0 0], .int .i64 400]) (by simp [results, Try.results13, go_sem, d0, d1, d2, d3]) rfl (put_no hno (by go_grown))
    · cases hm : wmay v n k
      · have hno : putOk s z l i v n k = false := by unfold putOk; rw [hm]; simp
        unfold arenaA wordA
        go_enter Try.func13, Try.ntmps13
        go_wp2_with fail
        refine (may_c s z _ hf (h.below (by go_grown : Below w.heap.size w _) (Nat.le_refl _))).mono ?_
        rintro e w1 ⟨rfl, hb⟩
        rw [ha]
        have B1 := (((blk_new w (arenaL s) 23).alloc _).alloc _).on hb
        have B2 := ((blk_new (w.alloc _) _ _).alloc _).on hb
        have B3 := (blk_new ((w.alloc _).alloc _) _ _).on hb
        rw [World.size_alloc] at B2
        rw [World.size_alloc, World.size_alloc] at B3
        have b1 : Below w.heap.size w w1 := Below.on (by go_grown) hb
        clear hb
        obtain ⟨⟨c0, c1, c2, c3⟩, f0, f1, f2, f3⟩ := B1.four
        go_wp2_with fail
        refine (there_any s l i _).mono ?_
        rintro e w2 ⟨rfl, hb⟩
        rw [ht]
        replace B1 := B1.on hb
        replace B2 := B2.on hb
        replace B3 := B3.on hb
        have b2 : Below w.heap.size w w2 := Below.on b1 hb
        clear hb b1 c0 c1 c2 c3 f0 f1 f2 f3
        obtain ⟨⟨c0, c1, c2⟩, f0, f1, f2⟩ := B2.three
        go_wp2_with fail
        refine (wmay_any v n k _).mono ?_
        rintro e w3 ⟨rfl, hb⟩
        rw [hm]
        replace B1 := B1.on hb
        replace B2 := B2.on hb
        replace B3 := B3.on hb
        have b3 : Below w.heap.size w w3 := Below.on b2 hb
        clear hb b2 c0 c1 c2 f0 f1 f2
        obtain ⟨⟨d0, d1, d2, d3⟩, g0, g1, g2, g3⟩ := B3.four
        clear h hf
        go_wp2
        exact bodyPost_ret (v := .tuple #[.agg #[.slice none 0 0, .slice none 0 0, .slice none 0 0, .slice none 0 0], .int .i64 400]) (by simp [results, Try.results13, go_sem, d0, d1, d2, d3]) rfl (put_no hno (by go_grown))
      · have hok : putOk s z l i v n k = true := by unfold putOk; rw [ha, ht, hm]; rfl
        have HOK := hide hok
        clear hok
        obtain ⟨l, i, rfl, rfl, hl, hi⟩ := thereV_get ht
        unfold arenaA wordA
        go_enter Try.func13, Try.ntmps13
        go_wp2_with fail
        refine (may_c s z _ hf (h.below (by go_grown : Below w.heap.size w _) (Nat.le_refl _))).mono ?_
        rintro e w1 ⟨rfl, hb⟩
        rw [ha]
        have B1 := (((blk_new w (arenaL s) 23).alloc _).alloc _).on hb
        have B2 := ((blk_new (w.alloc _) _ _).alloc _).on hb
        have B3 := (blk_new ((w.alloc _).alloc _) _ _).on hb
        rw [World.size_alloc] at B2
        rw [World.size_alloc, World.size_alloc] at B3
        have b1 : Below w.heap.size w w1 := Below.on (by go_grown) hb
        clear hb
        obtain ⟨⟨c0, c1, c2, c3⟩, f0, f1, f2, f3⟩ := B1.four
        go_wp2_with fail
        refine (there_any s l i _).mono ?_
        rintro e w2 ⟨rfl, hb⟩
        rw [ht]
        replace B1 := B1.on hb
        replace B2 := B2.on hb
        replace B3 := B3.on hb
        have b2 : Below w.heap.size w w2 := Below.on b1 hb
        clear hb b1 c0 c1 c2 c3 f0 f1 f2 f3
        obtain ⟨⟨c0, c1, c2⟩, f0, f1, f2⟩ := B2.three
        go_wp2_with fail
        refine (wmay_any v n k _).mono ?_
        rintro e w3 ⟨rfl, hb⟩
        rw [hm]
        replace B1 := B1.on hb
        replace B2 := B2.on hb
        replace B3 := B3.on hb
        have b3 : Below w.heap.size w w3 := Below.on b2 hb
        clear hb b2 c0 c1 c2 f0 f1 f2
        obtain ⟨⟨c0, c1, c2, c3⟩, f0, f1, f2, f3⟩ := B1.four
        go_wp2_with fail
        refine (copied_any s z _ hf (h.below b3 (Nat.le_refl _))).mono ?_
        rintro e w4 ⟨t, rfl, htn, hny, hF, hb⟩
        have HNY := hide hny
        clear hny
        have y33 := B3.lt
        replace B2 := (B2.on hb).alloc (.cells #[.slice (t 0).a (t 0).n (t 0).c, .slice (t 1).a (t 1).n (t 1).c, .slice (t 2).a (t 2).n (t 2).c, .slice (t 3).a (t 3).n (t 3).c] 23)
        replace B3 := (B3.on hb).alloc (.cells #[.slice (t 0).a (t 0).n (t 0).c, .slice (t 1).a (t 1).n (t 1).c, .slice (t 2).a (t 2).n (t 2).c, .slice (t 3).a (t 3).n (t 3).c] 23)
        have B4 : Blk (w4.alloc (.cells #[.slice (t 0).a (t 0).n (t 0).c, .slice (t 1).a (t 1).n (t 1).c, .slice (t 2).a (t 2).n (t 2).c, .slice (t 3).a (t 3).n (t 3).c] 23)) w4.heap.size (arenaL t) := blk_new w4 (arenaL t) 23
        have b4 : Below w.heap.size w w4 := Below.on b3 hb
        have b5 := b4.alloc b4.size (.cells #[.slice (t 0).a (t 0).n (t 0).c, .slice (t 1).a (t 1).n (t 1).c, .slice (t 2).a (t 2).n (t 2).c, .slice (t 3).a (t 3).n (t 3).c] 23)
        have F4 := hF.alloc (.cells #[.slice (t 0).a (t 0).n (t 0).c, .slice (t 1).a (t 1).n (t 1).c, .slice (t 2).a (t 2).n (t 2).c, .slice (t 3).a (t 3).n (t 3).c] 23)
        have s3 := b3.size
        have s34 := hb.size
        have HTN := hide htn
        clear htn
        clear hb b3 c0 c1 c2 c3 f0 f1 f2 f3 B1 b4 hF h hf
        unfold arenaA
        go_wp2_with fail
        generalize w4.alloc (.cells #[.slice (t 0).a (t 0).n (t 0).c, .slice (t 1).a (t 1).n (t 1).c, .slice (t 2).a (t 2).n (t 2).c, .slice (t 3).a (t 3).n (t 3).c] 23) = W at *
        obtain ⟨b, hta, hbB, hbC, ho⟩ : ∃ b, (t l).a = some ⟨b, 0, none⟩ ∧ w3.heap.size ≤ b ∧ b < w4.heap.size ∧ Own W b ((t l).n * 3) (intF (z l)) := by
          obtain ⟨β, h1, _⟩ := F4
          exact ⟨β l, h1 l hl (by rw [HTN.out l hl]; omega)⟩
        have cl := B4.cell l _ (arenaL_get t hl)
        rw [hta, HTN.out l hl] at cl
        rw [HTN.out l hl] at ho
        have j0 := ho.cell (i := i * 3) (by omega)
        have j1 := ho.cell (i := i * 3 + 1) (by omega)
        have j2 := ho.cell (i := i * 3 + 2) (by omega)
        have k0 := ho.frozen (i * 3)
        have k1 := ho.frozen (i * 3 + 1)
        have k2 := ho.frozen (i * 3 + 2)
        obtain ⟨⟨c0, c1, c2⟩, f0, f1, f2⟩ := B2.three
        have y2 := B2.lt
        have i1 : (l : Int) < 4 := by omega
        have i2 : (i : Int) < ((s l).n : Int) := by omega
        go_region
        have F5 := F4.setWord hl (by rw [HTN.out l hl]; omega) hta i v n k
        have B3' := ((B3.far (a := ⟨b, i * 3, none⟩) (.int .i64 v) (by simp; omega)).far (a := ⟨b, i * 3 + 1, none⟩) (.int .i64 n) (by simp; omega)).far (a := ⟨b, i * 3 + 2, none⟩) (.int .i64 k) (by simp; omega)
        have B4' := ((B4.far (a := ⟨b, i * 3, none⟩) (.int .i64 v) (by simp; omega)).far (a := ⟨b, i * 3 + 1, none⟩) (.int .i64 n) (by simp; omega)).far (a := ⟨b, i * 3 + 2, none⟩) (.int .i64 k) (by simp; omega)
        have b6 : Below w.heap.size w (((W.setCell ⟨b, i * 3, none⟩ (.int .i64 v)).setCell ⟨b, i * 3 + 1, none⟩ (.int .i64 n)).setCell ⟨b, i * 3 + 2, none⟩ (.int .i64 k)) := ((b5.setCell (by simp; omega) _).setCell (by simp; omega) _).setCell (by simp; omega) _
        clear B3 B4 b5 F4 ho cl j0 j1 j2 k0 k1 k2 c0 c1 c2 f0 f1 f2 B2 y2
        generalize ((W.setCell ⟨b, i * 3, none⟩ (.int .i64 v)).setCell ⟨b, i * 3 + 1, none⟩ (.int .i64 n)).setCell ⟨b, i * 3 + 2, none⟩ (.int .i64 k) = W2 at *
        obtain ⟨⟨c0, c1, c2, c3⟩, f0, f1, f2, f3⟩ := B4'.four
        obtain ⟨⟨d0, d1, d2, d3⟩, g0, g1, g2, g3⟩ := B3'.four
        have y3 := B3'.lt
        have y4 := B4'.lt
        go_wp2
        refine bodyPost_ret (v := .tuple #[.agg #[.slice (t 0).a (t 0).n (t 0).c, .slice (t 1).a (t 1).n (t 1).c, .slice (t 2).a (t 2).n (t 2).c, .slice (t 3).a (t 3).n (t 3).c], .int .i64 0]) (by simp [results, Try.results13, go_sem, d0, d1, d2, d3]) rfl ⟨t, _, ?_, HNY.out, ?_, by go_grown, fun _ => ⟨HTN.out, rfl⟩, fun h => ?_⟩
        · unfold putE; rw [HOK.out]; rfl
        · rw [Int.toNat_natCast, Int.toNat_natCast]
          simp only [World.size_drew, World.size_setCell]
          exact (((((F5.far _ (.inl (by simp; omega))).far _ (.inl (by simp; omega))).far _ (.inl (by simp; omega))).far _ (.inl (by simp; omega))).drew).mono (by omega) (by omega)
        · rw [HOK.out] at h; cases h

end Go.Proofs.Ytfekcjbnlknmbaa
