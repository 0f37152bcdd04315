/-
  The landed arena's New (as in ArenaProg, whatever else the cut has).
-/
import Derived.Test.YtaaenolbfhhnfaaGreatZlad
import Derived.Test.YtaaenolbfhhnfaaGreatZhArenaNewRef
namespace Go.Proofs.YtaaenolbfhhnfaaGreat
open Go.RowKit
set_option linter.unusedSimpArgs false
/-- What may be is what could be made. -/
theorem may_new {v t : Nat → Sl} {y : Nat → Nat → Int} (h : amay t (newZ y) = true) (ht : ∀ g, g < 4 → (t g).n = (v g).n) : newOk v y = true := by
  refine newTo_mk fun g hg => ?_
  obtain ⟨h4, hw⟩ := lvMay_get (lvTo_get h g hg)
  rw [ht g hg] at h4 hw
  refine lvNew_mk h4 (valsTo_mk fun i hi => ?_)
  have := (wmay_yes (wordsTo_get hw i hi)).1
  rw [(newZ_word y g i).1] at this
  exact this
theorem new_is {v t : Nat → Sl} {y : Nat → Nat → Int} (ht : ∀ g, g < 4 → (t g).n = (v g).n) : amay t (newZ y) = newOk v y := by
  cases e : newOk v y
  · cases e2 : amay t (newZ y)
    · rfl
    · rw [may_new e2 ht] at e; cases e
  · exact new_may e ht
set_option maxRecDepth 100000 in
set_option maxHeartbeats 2000000 in
theorem new_c : NewC := by
  intro v y w hf h
  obtain ⟨i0, hi, hz0, hz1, hz2⟩ := info_parts Tryz.infoWord
  unfold arenaA
  go_enter Tryz.func43, Tryz.ntmps43
  go_wp2
  go_loopw [10] (fun i wr => ∃ (k : Nat) (t : Nat → Sl), k ≤ 4 ∧ i = .int .i64 k ∧ (∀ g, g < k → (v g).n ≤ 4) ∧ (∀ g, g < k → (t g).n = (v g).n) ∧ (∀ g, k ≤ g → t g = ⟨none, 0, 0⟩) ∧ Nilly t ∧ Blk wr w.heap.size (arenaL v) ∧ Blk wr (w.heap.size + 1) (arenaL nilS) ∧ Blk wr (w.heap.size + 1 + 1) (arenaL t) ∧ Fresh (w.heap.size + 1 + 1 + 1) wr.heap.size wr t (newZ y) k ∧ w.heap.size + 1 + 1 + 1 ≤ wr.heap.size ∧ Below w.heap.size w wr) (fun i _ => 4 - (intOf i).toNat)
  case atStart =>
    refine ⟨0, nilS, Nat.zero_le _, rfl, fun _ h => absurd h (Nat.not_lt_zero _), fun _ h => absurd h (Nat.not_lt_zero _), fun _ _ => rfl, Nilly.nil, ?_, ?_, ?_, Fresh.zero _ _ _ _ _, ?_, by go_grown⟩
    · exact ((blk_new w (arenaL v) 23).alloc _).alloc _
    · have := (blk_new (w.alloc (.cells (arenaL v).toArray 23)) (arenaL nilS) 29).alloc (.cells (arenaL nilS).toArray 29)
      rw [World.size_alloc] at this
      exact this
    · have := blk_new ((w.alloc (.cells (arenaL v).toArray 23)).alloc (.cells (arenaL nilS).toArray 29)) (arenaL nilS) 29
      rw [World.size_alloc, World.size_alloc] at this
      exact this
    · simp only [World.size_alloc]; omega
  case round =>
    obtain ⟨k, t, hk, rfl, hok, htn, htz, hny, B1, B2, B3, hF, hz, hb⟩ := hrel
    have HNY := hide hny
    have HV := hide h
    have HTN := hide htn
    have HOK := hide hok
    have HZ : Hid (∀ g, k ≤ g → t g = ⟨none, 0, 0⟩) := htz
    clear h htn hok hny htz
    by_cases hlt : k < 4
    · have i1 : (k : Int) < 4 := by omega
      have hNN : ∃ N, wr.heap.size = N := ⟨_, rfl⟩
      obtain ⟨N, hNe⟩ := hNN
      have hzN : w.heap.size + 1 + 1 + 1 ≤ N := by omega
      have hx := fun W => index_in v hlt W
      by_cases h4 : (v k).n ≤ 4
      · have i3 : ¬ (4 : Int) < ((v k).n : Int) := by omega
        go_wp2
        clear hx
        go_loopw [20] (fun j wr => ∃ (m : Nat) (x : Sl), m ≤ (v k).n ∧ j = .int .i64 m ∧ wr.ownsRow N 54 3 (.slice x.a x.n x.c) m (rowL (intF (newZ y k)) (m * 3)) ∧ Blk wr w.heap.size (arenaL v) ∧ Blk wr (w.heap.size + 1) (arenaL nilS) ∧ Blk wr (w.heap.size + 1 + 1) (arenaL (updS t k x)) ∧ Fresh (w.heap.size + 1 + 1 + 1) N wr t (newZ y) k ∧ N ≤ wr.heap.size ∧ Below w.heap.size w wr) (fun j _ => 5 - (intOf j).toNat)
        case atStart =>
          subst hNe
          refine ⟨0, t k, Nat.zero_le _, rfl, ?_, B1, B2, ?_, hF, Nat.le_refl _, hb⟩
          · rw [HZ.out k (Nat.le_refl _)]; exact World.ownsRow_nil _ _ _ _
          · rw [updS_self]; exact B3
        case round =>
          clear B1 B2 B3 hF hb
          obtain ⟨m, x, hm, rfl, hown, B1, B2, B3, hF, hNs, hb⟩ := hrel
          by_cases hmn : m < (v k).n
          · have i2 : (m : Int) < ((v k).n : Int) := by omega
            obtain ⟨b, off, hva, hbl, cv⟩ := (HV.out.below hb (Nat.le_refl _)) k hlt m hmn
            have HA := hide hva
            rw [hva]
            clear hva
            have c3 := B3.cell k _ (arenaL_get (updS t k x) hlt)
            have f3 := B3.frozen k
            rw [updS_same] at c3
            have y1 := B1.lt
            have y3 := B3.lt
            have HO := hide (hown.alloc (.cells #[.int .i64 (y k m), .int .i64 0, .int .i64 0] 54))
            have HE := hide (owns_block hown)
            have HNW := hide (World.news_of_block (cs := #[.int .i64 (y k m), .int .i64 0, .int .i64 0]) (t := 54) (fr := (0, 0)) (heap_alloc_new wr (.cells #[.int .i64 (y k m), .int .i64 0, .int .i64 0] 54)))
            clear hown
            go_wp2_with (at_builtin; refine wpList_append_own _ rfl (.tmp 27) (.tmp 30) 28 rfl N 54 i0 (.agg #[.int .i64 0, .int .i64 0, .int .i64 0]) 3 24 Tryz.underlying28 hi hz0 hz1 hz2 rfl (by decide) _ _ _ rfl (unhide HO) ⟨wr.heap.size, 0, none⟩ 1 1 [.int .i64 (y k m), .int .i64 0, .int .i64 0] rfl rfl (unhide HNW) ?_ ?_ ?_ ?_ ?_)
            · simp [Value.oneCell']
            · unfold maxLen; omega
            · omega
            · omega
            · intro v' w1 hown1 hgrow _
              have bw : Below N wr w1 := ((Below.refl N wr).alloc hNs _).grown hgrow (by simp; omega) HE.out
              have hown2 : w1.ownsRow N 54 3 v' (m + 1) (rowL (intF (newZ y k)) ((m + 1) * 3)) := by rw [← newZ_more]; exact hown1
              obtain ⟨x', rfl⟩ : ∃ x' : Sl, v' = .slice x'.a x'.n x'.c := by
                rcases own_of_owns hown2 with ⟨rfl, _⟩ | ⟨g, cap, rfl, _⟩
                · exact ⟨⟨none, 0, 0⟩, rfl⟩
                · exact ⟨⟨some ⟨g, 0, none⟩, m + 1, cap⟩, rfl⟩
              have HO2 := hide hown2
              have B1' := B1.below bw (by omega)
              have B2' := B2.below bw (by omega)
              have B3' := B3.below bw (by omega)
              have F' := hF.below bw (Nat.le_refl _)
              have b' : Below w.heap.size w w1 := hb.trans (bw.mono (by omega))
              have z' := bw.size
              have c4 := B3'.cell k _ (arenaL_get (updS t k x) hlt)
              have f4 := B3'.frozen k
              clear hown2 hown1 hgrow HO HE HNW B1 B2 B3 hF hb bw c3 f3 cv
              go_wp2
              go_roundw
              case rel =>
                refine ⟨m + 1, x', by omega, by go_num, ownsRow_setCell_below HO2.out (by simp; omega) _, B1'.far _ (by simp; omega), B2'.far _ (by simp), ?_, F'.far _ (.inl (by simp)), by rw [World.size_setCell]; omega, b'.setCell (by simp; omega) _⟩
                have := B3'.set k (.slice x'.a x'.n x'.c)
                rw [arenaL_set _ hlt x', updS_twice] at this
                exact this
              case measure => simp [intOf]; omega
          · obtain rfl : m = (v k).n := by omega
            obtain ⟨hxn, hxy, hxo⟩ : x.n = (v k).n ∧ ((x.a = none → x.n = 0 ∧ x.c = 0) ∧ x.n ≤ x.c) ∧ (0 < x.n → ∃ b, x.a = some ⟨b, 0, none⟩ ∧ N ≤ b ∧ b < wr.heap.size ∧ Own wr b (x.n * 3) (intF (newZ y k))) := by
              rcases own_of_owns hown with ⟨e, h0⟩ | ⟨g, cap, e, hg1, hgc, _, ho⟩
              · simp only [Value.slice.injEq] at e
                exact ⟨by omega, ⟨fun _ => ⟨e.2.1, e.2.2⟩, by omega⟩, fun h => by omega⟩
              · simp only [Value.slice.injEq] at e
                obtain ⟨e1, e2, e3⟩ := e
                exact ⟨e2, ⟨(fun h => by rw [e1] at h; cases h), by omega⟩, fun _ => ⟨g, e1, hg1, ho.lt, by rw [e2]; exact ho⟩⟩
            have F2 := hF.more hzN hNs x hxo
            have HXN := hide hxn
            have HXY := hide hxy
            clear hown hxn hxy hxo hF
            go_wp2
            go_roundw
            case rel =>
              refine ⟨k + 1, updS t k x, by omega, by go_num, fun g hg => ?_, fun g hg => ?_, fun g hg => ?_, HNY.out.upd k HXY.out, B1, B2, B3, F2, by omega, hb⟩
              · by_cases e : g = k
                · subst e; exact h4
                · exact HOK.out g (by omega)
              · by_cases e : g = k
                · subst e; rw [updS_same]; exact HXN.out
                · rw [updS_other t x e]; exact HTN.out g (by omega)
              · rw [updS_other t x (by omega)]; exact HZ.out g (by omega)
            case measure => simp [intOf]; omega
      · have i3 : (4 : Int) < ((v k).n : Int) := by omega
        obtain ⟨⟨d0, d1, d2, d3⟩, g0, g1, g2, g3⟩ := B2.four
        clear hF B3
        go_wp2
        exact bodyPost_ret (v := .tuple #[.agg #[.slice none 0 0, .slice none 0 0, .slice none 0 0, .slice none 0 0], .int .i64 400]) (by simp [results, Tryz.results43, go_sem, d0, d1, d2, d3]) rfl (new_no (newOk_no k hlt (lvNew_long (by omega))) (by go_grown))
    · obtain rfl : k = 4 := by omega
      obtain ⟨⟨c0, c1, c2, c3⟩, f0, f1, f2, f3⟩ := B3.four
      have hft : Fit t := HNY.out.fit fun g hg => by rw [HTN.out g hg]; have := HOK.out g hg; omega
      have HFT := hide hft
      have HAR := hide hF.arn
      have e0 := new_is (y := y) HTN.out
      have HE0 := hide e0
      clear hft e0
      cases hn : newOk v y
      · go_wp2_with fail
        refine (may_c t (newZ y) _ HFT.out HAR.out).mono ?_
        rintro e w1 ⟨rfl, hb1⟩
        rw [HE0.out, hn]
        replace B2 := B2.on hb1
        have b1 : Below w.heap.size w w1 := Below.on hb hb1
        clear hb1 hF B1 B3 c0 c1 c2 c3 f0 f1 f2 f3
        obtain ⟨⟨d0, d1, d2, d3⟩, g0, g1, g2, g3⟩ := B2.four
        go_wp2
        exact bodyPost_ret (v := .tuple #[.agg #[.slice none 0 0, .slice none 0 0, .slice none 0 0, .slice none 0 0], .int .i64 400]) (by simp [results, Tryz.results43, go_sem, d0, d1, d2, d3]) rfl (new_no hn (by go_grown))
      · go_wp2_with fail
        refine (may_c t (newZ y) _ HFT.out HAR.out).mono ?_
        rintro e w1 ⟨rfl, hb1⟩
        rw [HE0.out, hn]
        replace B2 := B2.on hb1
        replace B3 := B3.on hb1
        replace hF := hF.on hb1
        have z1 := hb1.size
        have b1 : Below w.heap.size w w1 := Below.on hb hb1
        have HN := hide hn
        clear hb1 B1 c0 c1 c2 c3 f0 f1 f2 f3 hn
        obtain ⟨⟨c0, c1, c2, c3⟩, f0, f1, f2, f3⟩ := B3.four
        obtain ⟨⟨d0, d1, d2, d3⟩, g0, g1, g2, g3⟩ := B2.four
        go_wp2
        refine bodyPost_ret (v := .tuple #[.agg #[.slice (t 0).a (t 0).n (t 0).c, .slice (t 1).a (t 1).n (t 1).c, .slice (t 2).a (t 2).n (t 2).c, .slice (t 3).a (t 3).n (t 3).c], .int .i64 0]) (by simp [results, Tryz.results43, go_sem, d0, d1, d2, d3]) rfl ⟨t, ?_, HNY.out, ?_, by go_grown, fun _ => HTN.out, fun h => ?_⟩
        · unfold newE; rw [HN.out]; rfl
        · simp only [World.size_setCell]
          exact ((((hF.far _ (.inl (by simp))).far _ (.inl (by simp))).far _ (.inl (by simp))).far _ (.inl (by simp))).mono (by omega) z1
        · rw [HN.out] at h; cases h
end Go.Proofs.YtaaenolbfhhnfaaGreat
