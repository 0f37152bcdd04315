/-
  The law OrderTwice: one more below the join leaves the join, a chain cut is two chains. Its walk.
-/
import Derived.Test.YtibeokdjedplcaaGrow
namespace Go.Proofs.Ytibeokdjedplcaa
open Go.RowKit
set_option linter.unusedVariables false

theorem twice_err (a : Int) (z : Nat → Int) (k : Nat) : ordE (snocZ (andZ z) k (bits .and .i64 a (ojoinV (andZ z) k))) (k + 1) = 0 := by
  refine if_pos (mayTo_mk fun i hi => ?_)
  unfold snocZ
  split
  · exact lab_andZ z i
  · rw [ojoinV, if_pos (may_andZ z k)]
    exact lab_and a (joinTo_lab fun i _ => lab_andZ z i)
theorem twice_join (a : Int) (z : Nat → Int) (k : Nat) : ojoinV (snocZ (andZ z) k (bits .and .i64 a (ojoinV (andZ z) k))) (k + 1) = ojoinV (andZ z) k := by
  have h := twice_err a z k
  have hm : mayTo (snocZ (andZ z) k (bits .and .i64 a (ojoinV (andZ z) k))) (k + 1) = true := by
    unfold ordE at h
    split at h
    · assumption
    · cases h
  have hj : Lab (joinTo (andZ z) k) := joinTo_lab fun i _ => lab_andZ z i
  have e : ojoinV (andZ z) k = joinTo (andZ z) k := if_pos (may_andZ z k)
  rw [ojoinV, if_pos hm, joinTo_snoc, e]
  exact or_and a _ hj.1 (by have := hj.2; omega)
theorem twice_chain (z : Nat → Int) (k m : Nat) (hm : m ≤ k) (h : ochainV (andZ z) k = true) : ochainV (andZ z) m = true ∧ ochainV (fun i => andZ z (m + i)) (k - m) = true := by
  simp only [ochainV, Bool.and_eq_true] at h ⊢
  exact ⟨⟨may_andZ z m, chainTo_le h.2 hm⟩, may_andZ (fun i => z (m + i)) (k - m), chainTo_shift h.2 (by omega)⟩

set_option maxHeartbeats 2000000 in
theorem orderTwice_walk (a0 : Option Addr) (n0 c0 : Nat) (z0 : Nat → Int) (a1 : Int) (a2 : Int) (w : World) (l0 : n0 * 8 ≤ 140737488351232) (e0 : a0 = none → n0 = 0 ∧ c0 = 0) (r0 : Row w a0 n0 fun i => .int .i64 (z0 i)) (w1 : (Lit.int .i64 a1).wf = true) (w2 : (Lit.int .i64 a2).wf = true) :
    Calls Try.prog 7 #[.slice a0 n0 c0, .int .i64 a1, .int .i64 a2] w fun e w' => e = .returned (.bool true) ∧ Below w.heap.size w w' := by
  obtain ⟨i0, hi, hz0, hz1, hz2⟩ := info_parts Try.infoInt
  clear e0 w1 w2
  go_enter Try.func7, Try.ntmps7
  go_wp2_with fail
  refine (awake2_any _).mono ?_
  rintro e wa ⟨rfl, ba⟩
  go_wp2
  go_loopw [7, 8] (fun v i wr => ∃ k : Nat, k ≤ n0 ∧ i = .int .i64 k ∧ wr.ownsRow w.heap.size 3 1 v k (ints (andZ z0) k) ∧ Below w.heap.size w wr) (fun _ i _ => n0 - (intOf i).toNat)
  case atStart => exact ⟨0, Nat.zero_le _, rfl, World.ownsRow_nil _ _ _ _, ba⟩
  case round =>
    obtain ⟨k, hk, rfl, hown, hb⟩ := hrel
    have hs := hb.size
    by_cases hlt : k < n0
    · obtain ⟨b, off, rfl, _, hc⟩ := r0.below hb (Nat.le_refl _) k hlt
      have HO := hide (hown.alloc (.cells #[.int .i64 (andZ z0 k)] 3))
      have HW := hide hown
      have HB := hide hb
      clear hown hb ba r0
      go_wp2_with (at_builtin; refine wpList_append_own _ rfl (.tmp 29) (.tmp 35) 22 rfl w.heap.size 3 i0 (.int .i64 0) 1 8 Try.underlying22 hi hz0 hz1 hz2 rfl (by decide) _ _ _ rfl (unhide HO) ⟨wr.heap.size, 0, none⟩ 1 1 [.int .i64 (andZ z0 k)] rfl rfl one_new one_one ?_ ?_ ?_ ?_)
      · unfold maxLen; omega
      · omega
      · omega
      · intro v' w1 h' hg _
        have R := own_more (unhide HW) (unhide HB) hs h' hg
        clear h' hg
        go_wp2
        go_roundw
        case rel => exact ⟨k + 1, by omega, by go_num, R.1, R.2⟩
        case measure => simp [intOf]; omega
    · obtain rfl : k = n0 := by omega
      obtain ⟨m, hm, hpick⟩ := pick_at a2 ((k : Int) + 1) (by omega) (by omega)
      have hE : ordE (andZ z0) k = 0 := if_pos (may_andZ z0 k)
      have HB := hide hb
      clear ba r0 hb
      rcases owns_cases hown with ⟨rfl, rfl⟩ | ⟨g, cap, rfl, hg, hcap, hmax, hrow⟩
      · obtain rfl : m = 0 := by omega
        clear hown
        go_wp2_with fail
        refine (ojoin_any _ 0 0 (andZ z0) _ (by omega) (row_zero _ _ _)).mono ?_
        rintro e w2 ⟨rfl, rfl⟩
        go_wp2_with fail
        refine (ochain_any _ 0 0 (andZ z0) _ (by omega) (row_zero _ _ _)).mono ?_
        rintro e w2 ⟨rfl, q2, h1⟩
        have HB2 : Hid (Below w.heap.size w w2) := by subst h1; exact below_drewN HB.out q2
        clear h1 HB
        go_wp2_with fail
        refine (ochain_any _ 0 0 (andZ z0) _ (by omega) (row_zero _ _ _)).mono ?_
        rintro e w3 ⟨rfl, q3, h1⟩
        have HB3 : Hid (Below w.heap.size w w3) := by subst h1; exact below_drewN HB2.out q3
        clear h1 HB2
        go_wp2_with fail
        refine (ochain_any _ 0 0 (andZ z0) _ (by omega) (row_zero _ _ _)).mono ?_
        rintro e w4 ⟨rfl, q4, h1⟩
        have HB4 : Hid (Below w.heap.size w w4) := by subst h1; exact below_drewN HB3.out q4
        clear h1 HB3
        have hs4 : w.heap.size ≤ w4.heap.size := HB4.out.size
        have HO5 := hide (World.ownsRow_made (base := w.heap.size) (e := 3) (size := 1) w4 #[] 0 hs4 (by decide) rfl)
        have hj0 : ojoinV (andZ z0) 0 = 0 := rfl
        have hc0 : ochainV (andZ z0) 0 = true := rfl
        go_wp2_with (at_builtin; refine wpList_append_own _ rfl (.tmp 72) (.tmp 76) 22 rfl w.heap.size 3 i0 (.int .i64 0) 1 8 Try.underlying22 hi hz0 hz1 hz2 rfl (by decide) _ _ _ rfl ((unhide HO5).alloc _) ⟨w4.heap.size + 1, 0, none⟩ 1 1 [.int .i64 (bits .and .i64 a1 0)] rfl rfl ?_ one_one ?_ ?_ ?_ ?_)
        · intro j u hj
          have := one_new (w := w4.alloc (.cells #[] 3)) (t := 3) j u hj
          rwa [World.size_alloc] at this
        · unfold maxLen; omega
        · omega
        · rw [World.size_alloc, World.size_alloc]; omega
        · intro v6 w6 hown6 hg6 _
          have HB6 : Hid (Below w.heap.size w w6) := ((HB4.out.alloc hs4 _).alloc (by rw [World.size_alloc]; omega) _).grown hg6 (by rw [World.size_alloc, World.size_alloc]; omega) (owns_block HO5.out)
          have h6 : w6.ownsRow w.heap.size 3 1 v6 (0 + 1) (ints (snocZ (andZ z0) 0 (bits .and .i64 a1 0)) (0 + 1)) := by rw [← ints_snocZ]; exact hown6
          obtain ⟨a, cap', rfl, _, _, hr⟩ := row_of_owns h6
          have hrow := hr _ (fun i hi => ints_get hi)
          clear hown6 hg6 hr HO5 HB4 hs4 h6
          go_wp2_with fail
          refine (ojoin_any _ (0 + 1) _ _ _ (by omega) hrow).mono ?_
          rintro e w7 ⟨rfl, rfl⟩
          clear hrow
          have t1 := twice_join a1 z0 0
          have t2 := twice_err a1 z0 0
          rw [hj0] at t1 t2
          clear hpick hm
          go_wp2
          go_ret
          exact ⟨rfl, HB6.out⟩
      · go_wp2_with fail
        refine (ojoin_any _ k cap (andZ z0) _ (by omega) hrow).mono ?_
        rintro e w2 ⟨rfl, rfl⟩
        go_wp2_with fail
        refine (ochain_any _ k cap (andZ z0) _ (by omega) hrow).mono ?_
        rintro e w2 ⟨rfl, q, h1⟩
        replace hrow : Row w2 (some ⟨g, 0, none⟩) k fun i => .int .i64 (andZ z0 i) := by subst h1; exact hrow
        have HB2 : Hid (Below w.heap.size w w2) := by subst h1; exact below_drewN HB.out q
        clear h1
        go_wp2_with fail
        refine (ochain_any _ m cap (andZ z0) _ (by omega) (hrow.less (by omega))).mono ?_
        rintro e w3 ⟨rfl, q3, h1⟩
        replace hrow : Row w3 (some ⟨g, 0, none⟩) k fun i => .int .i64 (andZ z0 i) := by subst h1; exact hrow
        have HB3 : Hid (Below w.heap.size w w3) := by subst h1; exact below_drewN HB2.out q3
        clear h1
        have HR : Hid (Row w3 (some ⟨g, 0, none⟩) k fun i => .int .i64 (andZ z0 i)) := hrow
        clear hrow hown HB HB2
        go_wp2_with fail
        all_goals
          refine (ochain_any _ (k - m) _ (fun i => andZ z0 (m + i)) _ (by omega) (by first | exact row_rest HR.out m | (intro i hi; omega))).mono ?_
          rintro e w4 ⟨rfl, q4, h1⟩
          have HB4 : Hid (Below w.heap.size w w4) := by subst h1; exact below_drewN HB3.out q4
          have HN : Hid (∀ j u, (ints (andZ z0) k)[j]? = some u → (w4.alloc (.cells #[] 3)).cell? ((⟨g, 0, none⟩ : Addr).add j) = some u) := by
            have hr : Row w4 (some ⟨g, 0, none⟩) k fun i => .int .i64 (andZ z0 i) := by subst h1; exact HR.out
            exact row_news (hr.below ((Below.refl w4.heap.size w4).alloc (Nat.le_refl _) _) (Nat.le_refl _))
          have hs4 : w.heap.size ≤ w4.heap.size := HB4.out.size
          clear h1
          go_wp2_with (at_builtin; refine wpList_append_own _ rfl (.tmp 69) (.tmp 70) 22 rfl w.heap.size 3 i0 (.int .i64 0) 1 8 Try.underlying22 hi hz0 hz1 hz2 rfl (by decide) _ _ _ rfl (World.ownsRow_made w4 #[] 0 hs4 (by decide) rfl) ⟨g, 0, none⟩ k _ (ints (andZ z0) k) rfl (by rw [ints_len]; omega) HN.out (ints_one _ _) ?_ ?_ ?_ ?_)
          · unfold maxLen; omega
          · omega
          · rw [World.size_alloc]; omega
          · intro v5 w5 hown5 hg5 _
            have HB5 : Hid (Below w.heap.size w w5) := (HB4.out.alloc hs4 _).grown hg5 (by simp; omega) (by intro j hj; simp [Value.ownBlock] at hj; omega)
            have hs5 : w.heap.size ≤ w5.heap.size := HB5.out.size
            have ho5 : w5.ownsRow w.heap.size 3 1 v5 k (ints (andZ z0) k) := by simpa using hown5
            have HO5 := hide ho5
            clear hown5 hg5 ho5 HN HB4 hs4
            go_wp2_with (at_builtin; refine wpList_append_own _ rfl (.tmp 72) (.tmp 76) 22 rfl w.heap.size 3 i0 (.int .i64 0) 1 8 Try.underlying22 hi hz0 hz1 hz2 rfl (by decide) _ _ _ rfl ((unhide HO5).alloc _) ⟨w5.heap.size, 0, none⟩ 1 1 [.int .i64 (bits .and .i64 a1 (ojoinV (andZ z0) k))] rfl rfl one_new one_one ?_ ?_ ?_ ?_)
            · unfold maxLen; omega
            · omega
            · first | omega | (rw [World.size_alloc]; omega)
            · intro v6 w6 hown6 hg6 _
              have HB6 : Hid (Below w.heap.size w w6) := (HB5.out.alloc hs5 _).grown hg6 (by simp; omega) (owns_block HO5.out)
              rw [ints_snocZ] at hown6
              obtain ⟨a, cap', rfl, _, _, hr⟩ := row_of_owns hown6
              have hrow := hr _ (fun i hi => ints_get hi)
              clear hown6 hg6 hr HO5 HB5 hs5
              go_wp2_with fail
              refine (ojoin_any _ (k + 1) _ _ _ (by omega) hrow).mono ?_
              rintro e w7 ⟨rfl, rfl⟩
              clear hrow
              have t1 := twice_join a1 z0 k
              have t2 := twice_err a1 z0 k
              have t3 : ordE (fun i => andZ z0 (m + i)) (k - m) = 0 := if_pos (may_andZ (fun i => z0 (m + i)) (k - m))
              have t4 : ordE (andZ z0) m = 0 := if_pos (may_andZ z0 m)
              have t5 := twice_chain z0 k m (by omega)
              cases hc : ochainV (andZ z0) k with
              | true =>
                obtain ⟨t6, t7⟩ := t5 hc
                clear t5
                go_wp2
                go_ret
                exact ⟨rfl, HB6.out⟩
              | false =>
                clear t5
                go_wp2
                go_ret
                exact ⟨rfl, HB6.out⟩

end Go.Proofs.Ytibeokdjedplcaa
