/-
  The landed anew: a list of words, an arena, copied.
-/
import Derived.Test.YtmjclmjnkmhciaaArenaCopy
import Derived.Test.YtmjclmjnkmhciaaArenaProgMay
namespace Go.Proofs.Ytmjclmjnkmhciaa
open Go.RowKit
set_option linter.unusedSimpArgs false
set_option linter.unusedVariables false

set_option maxHeartbeats 1000000 in
theorem anewWord_any (s : Sl) (z : Nat → Int) (w : World) (hb8 : s.n * 24 ≤ 140737488351232) (ha : s.a = none → s.n = 0 ∧ s.c = 0) (h : Row w s.a (s.n * 3) (intF z)) :
    Calls Try.prog 35 #[.slice s.a s.n s.c] w fun e w' => ∃ x : Sl, e = .returned (.slice x.a x.n x.c) ∧ x.n = s.n ∧ ((x.a = none → x.n = 0 ∧ x.c = 0) ∧ x.n ≤ x.c) ∧ (0 < x.n → ∃ b, x.a = some ⟨b, 0, none⟩ ∧ w.heap.size ≤ b ∧ b < w'.heap.size ∧ Own w' b (x.n * 3) (intF z)) ∧ Below w.heap.size w w' := by
  obtain ⟨i0, hi, hz0, hz1, hz2⟩ := info_parts Try.infoWord
  obtain ⟨sa, sn, sc⟩ := s
  replace hb8 : sn * 24 ≤ 140737488351232 := hb8
  go_enter Try.func35, Try.ntmps35
  cases sa with
  | none =>
    obtain ⟨rfl, rfl⟩ := ha rfl
    go_wp2
    go_ret
    exact ⟨⟨none, 0, 0⟩, rfl, rfl, ⟨fun _ => ⟨rfl, rfl⟩, Nat.le_refl _⟩, fun h => absurd h (Nat.lt_irrefl 0), Below.refl _ _⟩
  | some ad =>
    have hown : w.ownsRow w.heap.size 27 3 (.slice none 0 0) 0 [] := World.ownsRow_nil _ _ _ _
    have HO := hide hown
    have HR := hide (Row.news h)
    have HL := hide (rowL_len (intF z) (sn * 3))
    have H1 := hide (rowL_one (f := intF z) (m := sn * 3) fun _ _ => rfl)
    clear hown h ha
    go_wp2_with (at_builtin; refine wpList_append_own _ rfl (.const (.slice none 0 0)) (.tmp 3) 22 rfl w.heap.size 27 i0 (.agg #[.int .i64 0, .int .i64 0, .int .i64 0]) 3 24 Try.underlying22 hi hz0 hz1 hz2 rfl (by decide) _ _ _ rfl (unhide HO) ad sn sc (rowL (intF z) (sn * 3)) rfl (unhide HL) (unhide HR) (unhide H1) ?_ ?_ ?_ ?_)
    · unfold maxLen; omega
    · omega
    · intro v' w1 hown' hg _
      have hown2 : w1.ownsRow w.heap.size 27 3 v' sn (rowL (intF z) (sn * 3)) := by simpa using hown'
      have bw : Below w.heap.size w w1 := (Below.refl w.heap.size w).grown hg (Nat.le_refl _) (by intro j hj; simp [Value.ownBlock] at hj)
      obtain ⟨x, rfl, hxn, hxy, hxo⟩ : ∃ x : Sl, v' = .slice x.a x.n x.c ∧ x.n = sn ∧ ((x.a = none → x.n = 0 ∧ x.c = 0) ∧ x.n ≤ x.c) ∧ (0 < x.n → ∃ b, x.a = some ⟨b, 0, none⟩ ∧ w.heap.size ≤ b ∧ b < w1.heap.size ∧ Own w1 b (sn * 3) (intF z)) := by
        rcases own_of_owns hown2 with ⟨rfl, h0⟩ | ⟨g, cap, rfl, hg1, hg2, hg3, ho⟩
        · exact ⟨⟨none, 0, 0⟩, rfl, h0.symm, ⟨fun _ => ⟨rfl, rfl⟩, Nat.le_refl _⟩, fun h => absurd h (Nat.lt_irrefl 0)⟩
        · exact ⟨⟨some ⟨g, 0, none⟩, sn, cap⟩, rfl, rfl, ⟨(fun h => by cases h), hg2⟩, fun _ => ⟨g, rfl, hg1, ho.lt, ho⟩⟩
      clear hown' hown2 HO HR HL H1
      go_wp2
      go_ret
      exact ⟨x, rfl, hxn, hxy, fun h0 => by rw [hxn]; exact hxo h0, bw⟩

set_option maxHeartbeats 1000000 in
theorem anewWords_any (s : Nat → Sl) (z : Nat → Nat → Int) (w : World) (hf : Fit s) (h : Arn w s z) :
    Calls Try.prog 25 #[arenaA s] w fun e w' => ∃ t, e = .returned (arenaA t) ∧ (∀ g, g < 4 → (t g).n = (s g).n) ∧ Nilly t ∧ Fresh w.heap.size w'.heap.size w' t z 4 ∧ Below w.heap.size w w' := by
  unfold arenaA
  go_enter Try.func25, Try.ntmps25
  have HB := blk_new w (arenaL s) 23
  obtain ⟨⟨a0, a1, a2, a3⟩, e0, e1, e2, e3⟩ := HB.four
  go_wp2
  clear a0 a1 a2 a3 e0 e1 e2 e3 HB
  go_loopw [6] (fun i wr => ∃ (k : Nat) (t : Nat → Sl), k ≤ 4 ∧ i = .int .i64 k ∧ (∀ g, g < k → (t g).n = (s g).n ∧ (((t g).a = none → (t g).n = 0 ∧ (t g).c = 0) ∧ (t g).n ≤ (t g).c)) ∧ Blk wr w.heap.size (arenaL t) ∧ Blk wr (w.heap.size + 1) (arenaL nilS) ∧ Fresh (w.heap.size + 1 + 1) wr.heap.size wr t z k ∧ w.heap.size + 1 + 1 ≤ wr.heap.size ∧ Below w.heap.size w wr) (fun i _ => 4 - (intOf i).toNat)
  case atStart =>
    refine ⟨0, s, Nat.zero_le _, rfl, fun _ h => absurd h (Nat.not_lt_zero _), ?_, ?_, Fresh.zero _ _ _ _ _, ?_, by go_grown⟩
    · exact (blk_new w (arenaL s) 23).alloc _
    · have := blk_new (w.alloc (.cells (arenaL s).toArray 23)) (arenaL nilS) 23
      rw [World.size_alloc] at this
      exact this
    · simp only [World.size_alloc]; omega
  case round =>
    obtain ⟨k, t, hk, rfl, ht, B1, B2, hF, hz, hb⟩ := hrel
    by_cases hlt : k < 4
    · have i1 : (k : Int) < 4 := by omega
      have hx := fun W => index_at s hlt W
      have HT := hide ht
      have H := hide h
      have HFT := hide hf
      clear ht h hf
      go_wp2_with fail
      refine (anewWord_any (s k) (z k) wr (HFT.out k hlt).1 (HFT.out k hlt).2 ((H.out.below hb (Nat.le_refl _)) k hlt)).mono ?_
      rintro e w1 ⟨x, rfl, hxn, hxy, hxo, hw1⟩
      have B1' := B1.on hw1
      have B2' := B2.on hw1
      have hF' := hF.on hw1
      have hb' : Below w.heap.size w w1 := Below.on hb hw1
      have d2 := B1'.cell k _ (arenaL_get t hlt)
      have f2 := B1'.frozen k
      have z3 := hw1.size
      have HX := hide hxo
      have HXN := hide hxn
      have HXY := hide hxy
      have HF := hide hF'
      clear hw1 hxo hxn hxy hF' hF B1 B2 hb hx
      go_wp2
      go_roundw
      case rel =>
        refine ⟨k + 1, updS t k x, by omega, by go_num, fun g hg => ?_, ?_, B2'.far _ (by simp), ?_, by rw [World.size_setCell]; omega, hb'.setCell (by simp) _⟩
        · by_cases e : g = k
          · subst e; rw [updS_same]; exact ⟨HXN.out, HXY.out⟩
          · rw [updS_other t x e]; exact HT.out g (by omega)
        · rw [← arenaL_set t hlt]
          exact B1'.set k _
        · rw [World.size_setCell]
          refine (HF.out.far (a := ⟨w.heap.size, k, none⟩) (.slice x.a x.n x.c) (.inl (by simp; omega))).more hz z3 x fun hp => ?_
          obtain ⟨b, e, h1, h2, ho⟩ := HX.out hp
          exact ⟨b, e, h1, h2, ho.far _ (by simp; omega)⟩
      case measure => simp [intOf]; omega
    · obtain rfl : k = 4 := by omega
      obtain ⟨⟨c0, c1, c2, c3⟩, f0, f1, f2, f3⟩ := B1.four
      obtain ⟨⟨d0, d1, d2, d3⟩, g0, g1, g2, g3⟩ := B2.four
      have HT := hide ht
      clear ht h hf
      have y1 := B1.lt
      have y2 := B2.lt
      go_wp2
      refine bodyPost_ret (v := .agg #[.slice (t 0).a (t 0).n (t 0).c, .slice (t 1).a (t 1).n (t 1).c, .slice (t 2).a (t 2).n (t 2).c, .slice (t 3).a (t 3).n (t 3).c]) (by simp [results, Try.results25, go_sem, d0, d1, d2, d3]) rfl ⟨fun g => if g < 4 then t g else ⟨none, 0, 0⟩, rfl, fun g hg => ?_, fun g => ?_, ?_, by go_grown⟩
      · show (if g < 4 then t g else _).n = _
        rw [if_pos hg]; exact (HT.out g hg).1
      · show ((if g < 4 then t g else (⟨none, 0, 0⟩ : Sl)).a = none → _) ∧ _
        by_cases hg : g < 4
        · simp only [if_pos hg]; exact (HT.out g hg).2
        · simp [hg]
      · simp only [World.size_setCell]
        have hF4 := ((((hF.far (a := ⟨w.heap.size + 1, 0, none⟩) (.slice (t 0).a (t 0).n (t 0).c) (.inl (by simp))).far (a := ⟨w.heap.size + 1, 1, none⟩) (.slice (t 1).a (t 1).n (t 1).c) (.inl (by simp))).far (a := ⟨w.heap.size + 1, 2, none⟩) (.slice (t 2).a (t 2).n (t 2).c) (.inl (by simp))).far (a := ⟨w.heap.size + 1, 3, none⟩) (.slice (t 3).a (t 3).n (t 3).c) (.inl (by simp))).mono (by omega : w.heap.size ≤ w.heap.size + 1 + 1) (Nat.le_refl _)
        obtain ⟨β, h1, h2⟩ := hF4
        refine ⟨β, fun g hg h0 => ?_, fun g g' hgg hg h0 h0' => ?_⟩
        · have := h1 g hg
          simp only [if_pos hg] at h0 ⊢
          exact this h0
        · have := h2 g g' hgg hg
          simp only [if_pos hg, if_pos (Nat.lt_trans hgg hg)] at h0 h0'
          exact this h0 h0'

end Go.Proofs.Ytmjclmjnkmhciaa
