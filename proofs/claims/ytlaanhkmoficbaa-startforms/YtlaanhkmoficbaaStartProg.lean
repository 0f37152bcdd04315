/-
  What the landed package start's May and New hand back.
-/
import Derived.Test.YtlaanhkmoficbaaStartStat
import Derived.Test.YtlaanhkmoficbaaProgProg
import Derived.Test.YtlaanhkmoficbaaAskProg
import Derived.Test.YtlaanhkmoficbaaLabelAnys
import Derived.Test.YtlaanhkmoficbaaStoreAll
namespace Go.Proofs.Ytlaanhkmoficbaa
open Go.RowKit
set_option linter.unusedSimpArgs false
set_option linter.unusedVariables false

set_option maxHeartbeats 1000000 in
theorem may_sc : MaySC := by
  intro id l cl a n c z w hn h
  unfold startMay startA
  have C1 := hide fun w => askUpTo_any id 254 w
  have C2 := hide fun w => below_any l cl w
  have C3 := hide fun (w : World) h => may_pc a n c z w hn h
  have R1 := hide (h.below ((Below.refl _ w).alloc (Nat.le_refl _) (.cells #[.int .i64 id, .int .i64 l, .int .i64 cl, .slice a n c] 24)) (Nat.le_refl _))
  generalize labE l cl = E at *
  generalize progMay n z = m at *
  generalize upToV id 254 = u at *
  generalize belowV l cl = v at *
  clear h
  cases u
  · rw [Bool.false_and]
    go_enter Try.func12, Try.ntmps12
    go_wp2_with (first | (go_at_call 21; refine (C2.out _).mono ?_; rintro e w' ⟨rfl, rfl⟩) | (go_at_call 22; refine (C1.out _).mono ?_; rintro e w' ⟨rfl, rfl⟩))
    go_ret
    exact ⟨rfl, by go_grown⟩
  · rw [Bool.true_and]
    cases v
    · rw [Bool.false_and]
      go_enter Try.func12, Try.ntmps12
      go_wp2_with (first | (go_at_call 21; refine (C2.out _).mono ?_; rintro e w' ⟨rfl, rfl⟩) | (go_at_call 22; refine (C1.out _).mono ?_; rintro e w' ⟨rfl, rfl⟩))
      go_ret
      exact ⟨rfl, by go_grown⟩
    · rw [Bool.true_and]
      go_enter Try.func12, Try.ntmps12
      go_wp2_with (first | (go_at_call 21; refine (C2.out _).mono ?_; rintro e w' ⟨rfl, rfl⟩) | (go_at_call 22; refine (C1.out _).mono ?_; rintro e w' ⟨rfl, rfl⟩))
      refine (C3.out _ R1.out).mono ?_
      rintro e w1 ⟨rfl, hb⟩
      have b1 : Below w.heap.size w w1 := Below.on (by go_grown) hb
      clear hb R1 C1 C2 C3
      go_wp2
      go_ret
      exact ⟨rfl, b1⟩

set_option maxRecDepth 100000 in
set_option maxHeartbeats 2000000 in
theorem new_sc : NewSC := by
  intro id l cl a n c z w hn ha h
  obtain ⟨i0, hi, hz0, hz1, hz2⟩ := info_parts Try.infoInst
  have hb0 : Below w.heap.size w ((w.alloc (.cells (startL id l cl (.slice a n c)).toArray 24)).alloc (.cells (sessL (fun _ => 0) (.slice none 0 0) (.slice none 0 0) (.slice none 0 0)).toArray 30)) := ((Below.refl _ w).alloc (Nat.le_refl _) _).alloc (by simp) _
  have B0 := (blk_new w (startL id l cl (.slice a n c)) 24).alloc (.cells (sessL (fun _ => 0) (.slice none 0 0) (.slice none 0 0) (.slice none 0 0)).toArray 30)
  have B1 := blk_new (w.alloc (.cells (startL id l cl (.slice a n c)).toArray 24)) (sessL (fun _ => 0) (.slice none 0 0) (.slice none 0 0) (.slice none 0 0)) 30
  rw [World.size_alloc] at B1
  have C := hide (may_sc id l cl a n c z _ (by omega) (h.below hb0 (Nat.le_refl _)))
  cases hm : startMay id l cl n z
  · rw [hm] at C
    unfold startA at *
    go_enter Try.func8, Try.ntmps8
    go_wp2_with fail
    refine C.out.mono ?_
    rintro e w1 ⟨rfl, hb⟩
    have b1 : Below w.heap.size w w1 := Below.on hb0 hb
    replace B1 := B1.on hb
    clear C hb hb0 B0
    have hs := B1.lt
    clear hz0 hz1 hz2 hi h ha
    go_wp2_with (refine wpList_store_all rfl 30 (.tmp 2) (.tmp 8) rfl (w.heap.size + 1) _ (sessL (fun _ => 0) (.slice none 0 0) (.slice none 0 0) (.slice none 0 0)) rfl rfl B1 rfl Try.sizeSess rfl ?_; intro W BW TW sW)
    have b2 : Below w.heap.size w W := b1.trans ((TW.below (by omega)).mono (by omega))
    replace BW := hide BW
    clear B1 b1 TW sW hs
    go_wp2
    exact bodyPost_ret (ret_sess Try.results8 BW.out rfl rfl) rfl (newS_no hm b2)
  · rw [hm] at C
    unfold startA at *
    go_enter Try.func8, Try.ntmps8
    go_wp2_with fail
    refine C.out.mono ?_
    rintro e w1 ⟨rfl, hb⟩
    have b1 : Below w.heap.size w w1 := Below.on hb0 hb
    replace B1 := B1.on hb
    replace B0 := B0.on hb
    have hs : w.heap.size + 1 + 1 ≤ w1.heap.size := by have := hb.size; simp only [World.size_alloc] at this; omega
    have R1 := hide (h.below b1 (Nat.le_refl _))
    have HA := hide ha
    have HO : Hid (w1.ownsRow w1.heap.size 43 4 (.slice none 0 0) 0 []) := World.ownsRow_nil _ _ _ _
    obtain ⟨c0, c1, c2, c3⟩ := B0.start
    clear C hb hb0 h ha
    go_wp2_with (at_builtin; refine wpList_append_row rfl (.const (.slice none 0 0)) (.tmp 10) 22 rfl w1.heap.size 43 i0 (.agg #[.int .i64 0, .int .i64 0, .int .i64 0, .int .i64 0]) 4 32 Try.underlying22 hi hz0 hz1 hz2 rfl (by decide) _ _ _ rfl (unhide HO) a n c (fun i => .int .i64 (z i)) rfl (unhide HA) (unhide R1) (fun _ => rfl) ?_ ?_ ?_ ?_)
    · unfold maxLen; omega
    · omega
    · exact Nat.le_refl _
    · intro v' w2 hown hg
      have bg : Below w1.heap.size w1 w2 := (Below.refl _ w1).grown hg (Nat.le_refl _) (by intro j hj; simp [Value.ownBlock] at hj)
      have hown2 : w2.ownsRow w1.heap.size 43 4 v' n (rowL (intF z) (n * 4)) := by
        have h := hown
        try simp at h
        exact h
      obtain ⟨a', c', rfl, _, ha', R2, O2⟩ := slice_of_owns hown2
      replace B1 := B1.on bg
      replace B0 := B0.on bg
      have s2 := bg.size
      have b2 : Below w.heap.size w w2 := b1.trans (bg.mono b1.size)
      replace R2 := hide R2
      replace O2 := hide O2
      replace ha' := hide ha'
      clear hown hg hown2 c0 c1 c2 c3 R1 HA HO hi hz0 hz1 hz2 bg
      obtain ⟨c0, c1, c2, c3⟩ := B0.start
      go_wp2_with (refine wpList_store_all rfl 30 (.tmp 2) (.tmp 19) rfl (w.heap.size + 1) _ (sessL (newI true id l cl) (.slice a' n c') (.slice none 0 0) (.slice none 0 0)) rfl rfl B1 rfl Try.sizeSess rfl ?_; intro W BW TW sW)
      have b3 : Below w.heap.size w W := b2.trans ((TW.below (by omega)).mono (by omega))
      have R3 : Hid (Row W a' (n * 4) (intF z)) := by
        by_cases h0 : 0 < n
        · obtain ⟨b, rfl, h1, _, ho⟩ := O2.out h0
          exact (ho.touch TW (.inr (by omega))).row
        · rw [show n = 0 by omega, Nat.zero_mul]; exact row_zero _ _ _
      have O3 : Hid (0 < n → ∃ b, a' = some ⟨b, 0, none⟩ ∧ w.heap.size ≤ b ∧ b < W.heap.size ∧ Own W b (n * 4) (intF z)) := fun h0 => by
        obtain ⟨b, e, h1, h2, ho⟩ := O2.out h0
        exact ⟨b, e, by omega, by omega, ho.touch TW (.inr (by omega))⟩
      replace BW := hide BW
      clear B0 B1 b1 b2 TW sW hs c0 c1 c2 c3 O2 R2
      go_wp2
      exact bodyPost_ret (ret_sess Try.results8 BW.out rfl rfl) rfl (newS_yes hm a' c' _ (fun _ => rfl) ha'.out R3.out O3.out b3)

end Go.Proofs.Ytlaanhkmoficbaa
