/-
  The law OrderChain: a chain's last one is its join. Its walk.
-/
import Derived.Test.YtibeokdjedplcaaGrow
namespace Go.Proofs.Ytibeokdjedplcaa
open Go.RowKit
set_option linter.unusedVariables false

/-- A chain's join is its last. -/
theorem chain_last {z : Nat → Int} (hl : ∀ i, Lab (z i)) : ∀ {n : Nat}, chainTo z (n + 1) = true → joinTo z (n + 1) = z n
  | 0, _ => by
    have h := hl 0
    rw [joinTo, joinTo]
    rcases lab_cases h with e | e | e | e <;> rw [e] <;> decide
  | n + 1, h => by
    have h1 := chainTo_le h (show n + 1 ≤ n + 1 + 1 by omega)
    rw [joinTo, chain_last hl h1]
    simp only [chainTo, Bool.and_eq_true, Bool.or_eq_true, beq_iff_eq] at h
    rcases h.2 with e | e
    · omega
    · simpa [underV] using e

set_option maxHeartbeats 2000000 in
theorem orderChain_walk (a0 : Option Addr) (n0 c0 : Nat) (z0 : Nat → Int) (w : World) (l0 : n0 * 8 ≤ 140737488351232) (e0 : a0 = none → n0 = 0 ∧ c0 = 0) (r0 : Row w a0 n0 fun i => .int .i64 (z0 i)) :
    Calls Try.prog 5 #[.slice a0 n0 c0] w fun e w' => e = .returned (.bool true) ∧ Below w.heap.size w w' := by
  obtain ⟨i0, hi, hz0, hz1, hz2⟩ := info_parts Try.infoInt
  clear e0
  go_enter Try.func5, Try.ntmps5
  go_wp2_with fail
  refine (awake2_any _).mono ?_
  rintro e wa ⟨rfl, ba⟩
  go_wp2
  go_loopw [3, 4, 5] (fun v t i wr => ∃ k : Nat, k ≤ n0 ∧ i = .int .i64 k ∧ t = .bool (chainTo (andZ z0) k) ∧ wr.ownsRow w.heap.size 3 1 v k (ints (andZ z0) k) ∧ Below w.heap.size w wr) (fun _ _ i _ => n0 - (intOf i).toNat)
  case atStart => exact ⟨0, Nat.zero_le _, rfl, rfl, World.ownsRow_nil _ _ _ _, ba⟩
  case round =>
    obtain ⟨k, hk, rfl, rfl, hown, hb⟩ := hrel
    have hs := hb.size
    by_cases hlt : k < n0
    · obtain ⟨b, off, rfl, _, hc⟩ := r0.below hb (Nat.le_refl _) k hlt
      have HO := hide (hown.alloc (.cells #[.int .i64 (andZ z0 k)] 3))
      have HW := hide hown
      have HB := hide hb
      clear hown hb ba r0
      go_wp2_with (at_builtin; refine wpList_append_own _ rfl (.tmp 18) (.tmp 24) 22 rfl w.heap.size 3 i0 (.int .i64 0) 1 8 Try.underlying22 hi hz0 hz1 hz2 rfl (by decide) _ _ _ rfl (unhide HO) ⟨wr.heap.size, 0, none⟩ 1 1 [.int .i64 (andZ z0 k)] rfl rfl one_new one_one ?_ ?_ ?_ ?_)
      · unfold maxLen; omega
      · omega
      · omega
      · intro v' w1 h' hg _
        have R := own_more (unhide HW) (unhide HB) hs h' hg
        have HR := hide R
        rcases owns_cases R.1 with ⟨_, h0⟩ | ⟨g, cap, rfl, hgb, hcap, hmax, hrow⟩
        · omega
        obtain ⟨b1, o1, ee, _, hc1⟩ := hrow k (by omega)
        simp only [Option.some.injEq, Addr.mk.injEq] at ee
        obtain ⟨rfl, rfl, _⟩ := ee
        rw [Nat.zero_add] at hc1
        clear h' hg HO HW HB R hc
        cases hch : chainTo (andZ z0) k with
        | false =>
          have HN := hide (show chainTo (andZ z0) (k + 1) = false by simp [chainTo, hch])
          clear hrow
          go_wp2
          go_quiet (fail)
          go_wp2
          go_roundw
          case rel => exact ⟨k + 1, by omega, by go_num, by simp [HN.out], HR.out.1, below_drewN HR.out.2 _⟩
          case measure => simp [intOf]; omega
        | true =>
          have HC := hide hch
          clear hch
          cases k with
          | zero =>
            clear hrow
            go_wp2
            go_quiet (fail)
            go_wp2
            go_roundw
            case rel => exact ⟨0 + 1, by omega, by go_num, by simp [chainTo_zero], HR.out.1, below_drewN HR.out.2 _⟩
            case measure => simp [intOf]; omega
          | succ m =>
            obtain ⟨b1, o1, ee, _, hc2⟩ := hrow m (by omega)
            simp only [Option.some.injEq, Addr.mk.injEq] at ee
            obtain ⟨rfl, rfl, _⟩ := ee
            rw [Nat.zero_add] at hc2
            clear hrow
            have hwm := wrap_nat m (by omega)
            have i1 : (m : Int) < (m : Int) + 1 + 1 := by omega
            have i2 : (m : Int) + 1 < (m : Int) + 1 + 1 := by omega
            have i3 : (0 : Int) ≤ (m : Int) + 1 := by omega
            have i4 : ((m : Int) + 1).toNat = m + 1 := by omega
            have i5 : ((m : Int) + 1 == 0) = false := beq_eq_false_iff_ne.2 (by omega)
            go_wp2
            go_quiet ((go_at_call 16; exact Calls.quiet_of_same (flip (under_any _ _ _))))
            go_wp2
            go_roundw
            case rel => exact ⟨m + 1 + 1, by omega, by go_num, by simp [chainTo_on HC.out], HR.out.1, below_drewN HR.out.2 _⟩
            case measure => simp [intOf]; omega
    · obtain rfl : k = n0 := by omega
      have hE : ordE (andZ z0) k = 0 := if_pos (may_andZ z0 k)
      have hJ : ojoinV (andZ z0) k = joinTo (andZ z0) k := if_pos (may_andZ z0 k)
      have hC : ochainV (andZ z0) k = chainTo (andZ z0) k := by rw [ochainV, may_andZ]; rfl
      have HB := hide hb
      clear ba r0 hb
      rcases owns_cases hown with ⟨rfl, rfl⟩ | ⟨g, cap, rfl, hg, hcap, hmax, hrow⟩
      · clear hown
        have hc0 : chainTo (andZ z0) 0 = true := rfl
        have hj0 : joinTo (andZ z0) 0 = 0 := rfl
        go_wp2_with fail
        refine (ochain_any _ 0 0 (andZ z0) _ (by omega) (row_zero _ _ _)).mono ?_
        rintro e w2 ⟨rfl, q2, h1⟩
        have HB2 : Hid (Below w.heap.size w w2) := by subst h1; exact below_drewN HB.out q2
        clear h1 HB
        go_wp2_with fail
        refine (ojoin_any _ 0 0 (andZ z0) _ (by omega) (row_zero _ _ _)).mono ?_
        rintro e w3 ⟨rfl, rfl⟩
        go_wp2
        go_ret
        exact ⟨rfl, HB2.out⟩
      · clear hown
        go_wp2_with fail
        refine (ochain_any _ k cap (andZ z0) _ (by omega) hrow).mono ?_
        rintro e w2 ⟨rfl, q2, h1⟩
        have HB2 : Hid (Below w.heap.size w w2) := by subst h1; exact below_drewN HB.out q2
        replace hrow : Row w2 (some ⟨g, 0, none⟩) k fun i => .int .i64 (andZ z0 i) := by subst h1; exact hrow
        clear h1 HB
        go_wp2_with fail
        refine (ojoin_any _ k cap (andZ z0) _ (by omega) hrow).mono ?_
        rintro e w3 ⟨rfl, rfl⟩
        cases hch : chainTo (andZ z0) k with
        | false =>
          clear hrow
          go_wp2
          go_ret
          exact ⟨rfl, HB2.out⟩
        | true =>
          cases k with
          | zero =>
            clear hrow
            have hj0 : joinTo (andZ z0) 0 = 0 := rfl
            go_wp2
            go_ret
            exact ⟨rfl, HB2.out⟩
          | succ m =>
            have hlast : joinTo (andZ z0) (m + 1) = andZ z0 m := chain_last (fun i => lab_andZ z0 i) hch
            obtain ⟨b1, o1, ee, _, hc2⟩ := hrow m (by omega)
            simp only [Option.some.injEq, Addr.mk.injEq] at ee
            obtain ⟨rfl, rfl, _⟩ := ee
            rw [Nat.zero_add] at hc2
            clear hrow
            have i5 : ((m : Int) + 1 == 0) = false := beq_eq_false_iff_ne.2 (by omega)
            have hwm := wrap_nat m (by omega)
            go_wp2
            go_ret
            exact ⟨rfl, HB2.out⟩

end Go.Proofs.Ytibeokdjedplcaa
