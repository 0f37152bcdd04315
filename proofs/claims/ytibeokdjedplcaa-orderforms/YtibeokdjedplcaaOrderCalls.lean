/-
  The functions of chapter 2 by their contracts: at whatever list of integers. None of them writes; Chain draws its order.
-/
import Derived.Test.YtibeokdjedplcaaRow
import Derived.Test.YtibeokdjedplcaaOrderPure
import Derived.Deep.QuietTactic
import Derived.BigQuiet
namespace Go.Proofs.Ytibeokdjedplcaa
open Go.RowKit

theorem notMay_any (a : Int) (w : World) :
    Calls Try.prog 24 #[.int .i64 a] w fun e w' => e = .returned (.bool (!mayV a)) ∧ w = w' := by
  go_enter Try.func24, Try.ntmps24
  go_wp2_with (go_at_call 25; refine (may_any _ _).mono ?_; rintro e w' ⟨rfl, rfl⟩)
  go_ret
  exact ⟨rfl, rfl⟩

set_option maxHeartbeats 400000 in
theorem index_any (a : Option Addr) (n c : Nat) (z : Nat → Int) (w : World) (hn : n ≤ 1152921504606846976) (h : Row w a n fun i => .int .i64 (z i)) :
    Calls Try.prog 27 #[.slice a n c, .func (.func 24) #[] #[]] w fun e w' => (∃ r : Int, e = .returned (.int .i64 r) ∧ decide (0 ≤ r) = !mayTo z n) ∧ w = w' := by
  go_enter Try.func27, Try.ntmps27
  go_wp2
  go_loop [8] (fun i => ∃ k : Nat, k ≤ n ∧ i = .int .i64 k ∧ mayTo z k = true) (fun i => n - (intOf i).toNat)
  case atStart => exact ⟨0, Nat.zero_le _, rfl, rfl⟩
  case round =>
    obtain ⟨k, hk, rfl, hm⟩ := hrel
    have HM : Hid (mayTo z k = true) := hm
    clear hm
    by_cases hlt : k < n
    · obtain ⟨b, off, rfl, hb, hc⟩ := h k hlt
      clear h
      cases hv : mayV (z k) with
      | true =>
        go_wp2_with (go_at_call 24; refine (notMay_any _ _).mono ?_; rintro e w' ⟨rfl, rfl⟩)
        go_round
        case rel => exact ⟨k + 1, by omega, by go_num, by simp [mayTo, hv, HM.out]⟩
        case measure => simp [intOf]; omega
      | false =>
        go_wp2_with (go_at_call 24; refine (notMay_any _ _).mono ?_; rintro e w' ⟨rfl, rfl⟩)
        go_ret
        exact ⟨⟨_, rfl, by rw [mayTo_no k hlt hv]; simp⟩, rfl⟩
    · obtain rfl : k = n := by omega
      clear h
      go_wp2
      go_ret
      exact ⟨⟨_, rfl, by rw [HM.out]; rfl⟩, rfl⟩

theorem contains_any (a : Option Addr) (n c : Nat) (z : Nat → Int) (w : World) (hn : n ≤ 1152921504606846976) (h : Row w a n fun i => .int .i64 (z i)) :
    Calls Try.prog 23 #[.slice a n c, .func (.func 24) #[] #[]] w fun e w' => e = .returned (.bool (!mayTo z n)) ∧ w = w' := by
  go_enter Try.func23, Try.ntmps23
  go_wp2_with fail
  refine (index_any a n c z _ hn h).mono ?_
  rintro e w' ⟨⟨r, rfl, hr⟩, rfl⟩
  have HR : Hid (decide (0 ≤ r) = !mayTo z n) := hr
  clear hr h
  go_wp2
  go_ret
  exact ⟨ret_bool HR.out, rfl⟩

theorem oneNot_any (a : Option Addr) (n c : Nat) (z : Nat → Int) (w : World) (hn : n ≤ 1152921504606846976) (h : Row w a n fun i => .int .i64 (z i)) :
    Calls Try.prog 18 #[.slice a n c] w fun e w' => e = .returned (.bool (!mayTo z n)) ∧ w = w' := by
  go_enter Try.func18, Try.ntmps18
  go_wp2_with fail
  refine (contains_any a n c z _ hn h).mono ?_
  rintro e w' ⟨rfl, rfl⟩
  go_wp2
  go_ret
  exact ⟨rfl, rfl⟩

set_option maxHeartbeats 400000 in
theorem ojoin_any (a : Option Addr) (n c : Nat) (z : Nat → Int) (w : World) (hn : n ≤ 1152921504606846976) (h : Row w a n fun i => .int .i64 (z i)) :
    Calls Try.prog 9 #[.slice a n c] w fun e w' => e = .returned (.tuple #[.int .i64 (ojoinV z n), .int .i64 (ordE z n)]) ∧ w = w' := by
  unfold ojoinV ordE
  cases hm : mayTo z n with
  | false =>
    simp only [Bool.false_eq_true, if_false]
    go_enter Try.func9, Try.ntmps9
    go_wp2_with fail
    refine (oneNot_any a n c z _ hn h).mono ?_
    rintro e w' ⟨rfl, rfl⟩
    clear h
    go_wp2
    go_ret2
    exact ⟨rfl, rfl⟩
  | true =>
    simp only [if_true]
    go_enter Try.func9, Try.ntmps9
    go_wp2_with fail
    refine (oneNot_any a n c z _ hn h).mono ?_
    rintro e w' ⟨rfl, rfl⟩
    go_wp2
    go_loop [4, 11] (fun t i => ∃ k : Nat, k ≤ n ∧ i = .int .i64 k ∧ t = .int .i64 (joinTo z k)) (fun _ i => n - (intOf i).toNat)
    case atStart => exact ⟨0, Nat.zero_le _, rfl, rfl⟩
    case round =>
      obtain ⟨k, hk, rfl, rfl⟩ := hrel
      have HM : Hid (mayTo z n = true) := hm
      clear hm
      by_cases hlt : k < n
      · obtain ⟨b, off, rfl, hb, hc⟩ := h k hlt
        clear h
        have hj : joinV (joinTo z k) (z k) = joinTo z (k + 1) := joinV_yes (joinTo_lab fun i hi => mayTo_lt HM.out i (by omega)) (mayTo_lt HM.out k hlt)
        go_wp2_with (go_at_call 19; refine (join_any _ _ _).mono ?_; rintro e w' ⟨rfl, rfl⟩)
        go_round
        case rel => exact ⟨k + 1, by omega, by go_num, by simp⟩
        case measure => simp [intOf]; omega
      · obtain rfl : k = n := by omega
        clear h
        go_wp2
        go_ret2
        exact ⟨rfl, rfl⟩

set_option maxHeartbeats 400000 in
theorem ochain_any (a : Option Addr) (n c : Nat) (z : Nat → Int) (w : World) (hn : n ≤ 1152921504606846976) (h : Row w a n fun i => .int .i64 (z i)) :
    Calls Try.prog 11 #[.slice a n c] w fun e w' => e = .returned (.tuple #[.bool (ochainV z n), .int .i64 (ordE z n)]) ∧ ∃ q, w' = w.drewN q := by
  unfold ochainV ordE
  cases hm : mayTo z n with
  | false =>
    simp only [Bool.false_eq_true, if_false, Bool.false_and]
    go_enter Try.func11, Try.ntmps11
    go_wp2_with fail
    refine (oneNot_any a n c z _ hn h).mono ?_
    rintro e w' ⟨rfl, rfl⟩
    clear h
    go_wp2
    go_ret2
    exact ⟨rfl, 0, rfl⟩
  | true =>
    simp only [if_true, Bool.true_and]
    go_enter Try.func11, Try.ntmps11
    go_wp2_with fail
    refine (oneNot_any a n c z _ hn h).mono ?_
    rintro e w' ⟨rfl, rfl⟩
    go_wp2
    go_loopw [4] (fun i wr => ∃ k : Nat, 1 ≤ k ∧ k ≤ n + 1 ∧ i = .int .i64 k ∧ chainTo z (min k n) = true ∧ ∃ q, wr = w.drewN q) (fun i _ => n + 1 - (intOf i).toNat)
    case atStart => exact ⟨1, Nat.le_refl _, by omega, rfl, by
        by_cases e : n = 0
        · subst e; rfl
        · rw [show min 1 n = 1 by omega]; simp [chainTo], 0, rfl⟩
    case round =>
      obtain ⟨k, hk1, hk, rfl, hch, hq⟩ := hrel
      have HQ : Hid (∃ q, wr = w.drewN q) := hq
      replace h : Row wr a n fun i => .int .i64 (z i) := by obtain ⟨q, rfl⟩ := hq; exact h
      clear hq
      have HM : Hid (mayTo z n = true) := hm
      have HC : Hid (chainTo z (min k n) = true) := hch
      clear hm hch
      by_cases hlt : k < n
      · obtain ⟨m, rfl⟩ : ∃ m, k = m + 1 := ⟨k - 1, by omega⟩
        obtain ⟨b, off, rfl, hb, hc⟩ := h (m + 1) hlt
        obtain ⟨b', off', e', _, hc'⟩ := h m (by omega)
        obtain ⟨rfl, rfl⟩ : b = b' ∧ off = off' := by simpa using e'
        clear h e'
        have hwm := wrap_nat m (by omega)
        have i1 : (m : Int) < (n : Int) := by omega
        have i2 : (m : Int) + 1 < (n : Int) := by omega
        have i3 : (0 : Int) ≤ (m : Int) + 1 := by omega
        have i4 : ((m : Int) + 1).toNat = m + 1 := by omega
        have hu := below_under (mayTo_lt HM.out m (by omega)) (mayTo_lt HM.out (m + 1) hlt)
        cases hv : underV (z m) (z (m + 1)) with
        | true =>
          rw [hv] at hu
          go_wp2
          go_quiet ((go_at_call 21; exact Calls.quiet_of_same (flip (below_any _ _ _))))
          go_wp2
          go_roundw
          case rel => exact ⟨m + 2, by omega, by omega, by go_num, by
            have := HC.out
            rw [show min (m + 1) n = m + 1 by omega] at this
            rw [show min (m + 2) n = m + 2 by omega]
            simp [chainTo] at this ⊢
            simp [this, hv], drewN_on HQ.out _⟩
          case measure => simp [intOf]; omega
        | false =>
          rw [hv] at hu
          go_wp2
          go_quiet ((go_at_call 21; exact Calls.quiet_of_same (flip (below_any _ _ _))))
          go_wp2
          go_ret2
          exact ⟨ret_bool_int (chainTo_no (m + 1) hlt (by omega) hv).symm rfl, drewN_on HQ.out _⟩
      · have E : Hid (min k n = n) := by show min k n = n; omega
        clear h
        go_wp2
        go_ret2
        exact ⟨ret_bool_int (by rw [← HC.out, E.out]) rfl, HQ.out⟩

end Go.Proofs.Ytibeokdjedplcaa
