/-
  The landed With of package readset.
-/
import Derived.Test.YtleemagdidffpaaReadsProg
namespace Go.Proofs.Ytleemagdidffpaa
open Go.RowKit
set_option linter.unusedSimpArgs false
set_option linter.unusedVariables false

set_option maxRecDepth 10000 in
set_option maxHeartbeats 4000000 in
theorem with_rc : WithRC := by
  intro a n c z l i v w hn hc ha h
  obtain ⟨i0, hi, hz0, hz1, hz2⟩ := info_parts Try.infoRead
  have CR := hide fun w h => may_rc a n c z w hn hc h
  have C1 := hide fun w => mayAlone_any l i v w
  have CN := hide fun w h => names_any a n c z l i v w hn h
  have b0 : Below w.heap.size w (w.alloc (.cells #[.int .i64 l, .int .i64 i, .int .i64 v] 24)) := by go_grown
  have B := blk_new w [.int .i64 l, .int .i64 i, .int .i64 v] 24
  have HR := hide (h.below b0 (Nat.le_refl _))
  clear h
  unfold wordA
  go_enter Try.func11, Try.ntmps11
  go_wp2_with fail
  refine (CR.out _ HR.out).mono ?_
  rintro e w1 ⟨rfl, hb⟩
  have b1 := Below.on b0 hb
  have R1 := hide (HR.out.below hb (Nat.le_refl _))
  have B1 := B.on hb
  clear hb b0 HR B CR
  cases hr : readsMay n z
  · have HN := hide (withOk_reads (l := l) (i := i) (v := v) hr)
    clear B1
    go_wp2
    go_ret2
    exact with_no HN.out b1
  · obtain ⟨⟨c0, c1, c2⟩, f0, f1, f2⟩ := B1.three
    have bl := B1.lt
    go_wp2_with fail
    refine (C1.out _).mono ?_
    rintro e w2 ⟨rfl, hb⟩
    have b2 := Below.on b1 hb
    have R2 := hide (R1.out.below hb (Nat.le_refl _))
    have B2 := B1.on hb
    have s2 := b2.size
    have s1 := b1.size
    clear hb b1 R1 B1 C1 c0 c1 c2 f0 f1 f2
    cases hm : readMay l i v
    · have HN := hide (withOk_read (n := n) (z := z) hm)
      clear B2
      go_wp2
      go_ret2
      exact with_no HN.out b2
    · have HOK := hide (withOk_mk hr hm)
      have n16 := (readsMay_get hr).2.2
      have hown : w2.ownsRow w.heap.size 24 3 (.slice none 0 0) 0 [] := World.ownsRow_nil _ _ _ _
      have HO := hide hown
      have HA := hide ha
      clear hown hr hm ha
      go_wp2_with (at_builtin; refine wpList_append_row rfl (.const (.slice none 0 0)) (.tmp 15) 22 rfl w.heap.size 24 i0 (.agg #[.int .i64 0, .int .i64 0, .int .i64 0]) 3 24 Try.underlying22 hi hz0 hz1 hz2 rfl (by decide) _ _ _ rfl (unhide HO) a n c (fun i => .int .i64 (z i)) rfl (unhide HA) (unhide R2) (fun _ => rfl) ?_ ?_ ?_ ?_)
      · unfold maxLen; omega
      · omega
      · omega
      · intro v' w3 hown' hg
        have bw : Below w2.heap.size w2 w3 := (Below.refl w2.heap.size w2).grown hg (Nat.le_refl _) (by intro j hj; simp [Value.ownBlock] at hj)
        have hown2 : w3.ownsRow w.heap.size 24 3 v' n (rowL (intF z) (n * 3)) := by
          first | exact hown' | (rw [Nat.zero_add, List.nil_append] at hown'; exact hown')
        obtain ⟨xa, xc, rfl, _⟩ := slice_of_owns hown2
        have HO2 := hide hown2
        have R3 := hide (R2.out.below bw (Nat.le_refl _))
        have B3 := B2.on bw
        have b3 := Below.on b2 bw
        clear hown' hg hown2 HO R2 bw B2 b2
        obtain ⟨⟨c0, c1, c2⟩, f0, f1, f2⟩ := B3.three
        have bl3 := B3.lt
        go_wp2_with fail
        refine (CN.out _ R3.out).mono ?_
        rintro e w4 ⟨rfl, hb⟩
        have b4 := Below.on b3 hb
        have HO4 := hide (owns_on HO2.out hb)
        have B4 := B3.on hb
        have s4 := b4.size
        clear hb b3 HO2 R3 B3 CN c0 c1 c2 f0 f1 f2 bl3
        cases hnn : noneTo z l i n
        · have HN := hide hnn
          have i6 : ¬ (16 : Int) < (n : Int) := by omega
          clear hnn B4
          go_wp2
          go_ret2
          obtain ⟨_, _, e, hc', hny, _, ho⟩ := slice_of_owns HO4.out
          simp only [Value.slice.injEq, true_and] at e
          obtain ⟨rfl, rfl⟩ := e
          exact with_old (by rw [HOK.out, HN.out]; rfl) HN.out b4 hc' hny ho
        · have HN := hide hnn
          obtain ⟨⟨c0, c1, c2⟩, f0, f1, f2⟩ := B4.three
          have bl4 := B4.lt
          have HO5 := hide (HO4.out.alloc (.cells #[.int .i64 l, .int .i64 i, .int .i64 v] 24))
          have HE := hide (owns_block HO4.out)
          have HNW := hide (World.news_of_block (cs := #[.int .i64 l, .int .i64 i, .int .i64 v]) (t := 24) (fr := (0, 0)) (heap_alloc_new w4 (.cells #[.int .i64 l, .int .i64 i, .int .i64 v] 24)))
          clear hnn HO4
          go_wp2_with (at_builtin; refine wpList_append_own _ rfl (.tmp 21) (.tmp 23) 22 rfl w.heap.size 24 i0 (.agg #[.int .i64 0, .int .i64 0, .int .i64 0]) 3 24 Try.underlying22 hi hz0 hz1 hz2 rfl (by decide) _ _ _ rfl (unhide HO5) ⟨w4.heap.size, 0, none⟩ 1 1 [.int .i64 l, .int .i64 i, .int .i64 v] rfl rfl (unhide HNW) ?_ ?_ ?_ ?_ ?_)
          · simp [Value.oneCell']
          · unfold maxLen; omega
          · omega
          · first | omega | (simp only [World.size_alloc]; omega)
          · intro v' w5 hown1 hgrow _
            have b5 : Below w.heap.size w w5 := (b4.alloc s4 _).grown hgrow (by simp only [World.size_alloc]; omega) HE.out
            rw [putR_row] at hown1
            obtain ⟨ya, yc, rfl, hyc, _, _, ho⟩ := slice_of_owns hown1
            have HO6 := hide ho
            clear hown1 hgrow HO5 HNW HE b4 ho B4 c0 c1 c2 f0 f1 f2
            by_cases h16 : n + 1 ≤ 16
            · have i6 : ¬ (16 : Int) < (n : Int) + 1 := by omega
              go_wp2
              go_ret2
              exact with_new (by rw [HOK.out, HN.out, decide_eq_true h16]; rfl) HN.out b5 hyc HO6.out
            · have i6 : (16 : Int) < (n : Int) + 1 := by omega
              go_wp2
              go_ret2
              exact with_no (by rw [HOK.out, HN.out, decide_eq_false h16]; rfl) b5

end Go.Proofs.Ytleemagdidffpaa
