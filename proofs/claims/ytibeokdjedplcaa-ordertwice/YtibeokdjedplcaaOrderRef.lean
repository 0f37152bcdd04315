/-
  The document's answers for chapter 2, and what the laws lend and compare lists of integers with: by their contracts.
-/
import Derived.Test.YtibeokdjedplcaaOrderCalls
namespace Go.Proofs.Ytibeokdjedplcaa
open Go.RowKit

theorem rmay_any (a : Int) (w : World) :
    Calls Try.prog 20 #[.int .i64 a] w fun e w' => e = .returned (.bool (mayV a)) ∧ w = w' := by
  unfold mayV
  by_cases h : 0 ≤ a ∧ a < 4
  · rw [decide_eq_true h]
    exact rmay_yes a h w
  · rw [decide_eq_false h]
    exact rmay_no a (noLab_of h) w

theorem under_any (a b : Int) (w : World) :
    Calls Try.prog 16 #[.int .i64 a, .int .i64 b] w fun e w' => e = .returned (.bool (underV a b)) ∧ w = w' := by
  unfold underV
  go_enter Try.func16, Try.ntmps16
  go_wp2
  go_ret
  exact ⟨rfl, rfl⟩

set_option maxHeartbeats 400000 in
theorem rjoinAll_any (a : Option Addr) (n c : Nat) (z : Nat → Int) (w : World) (hn : n ≤ 1152921504606846976) (h : Row w a n fun i => .int .i64 (z i)) :
    Calls Try.prog 10 #[.slice a n c] w fun e w' => e = .returned (.tuple #[.int .i64 (ojoinV z n), .int .i64 (ordE z n)]) ∧ w = w' := by
  go_enter Try.func10, Try.ntmps10
  go_wp2
  go_loop [4, 5] (fun t i => ∃ k : Nat, k ≤ n ∧ i = .int .i64 k ∧ t = .int .i64 (joinTo z k) ∧ mayTo z k = true) (fun _ i => n - (intOf i).toNat)
  case atStart => exact ⟨0, Nat.zero_le _, rfl, rfl, rfl⟩
  case round =>
    obtain ⟨k, hk, rfl, rfl, hm⟩ := hrel
    have HM : Hid (mayTo z k = true) := hm
    clear hm
    by_cases hlt : k < n
    · obtain ⟨b, off, rfl, hb, hc⟩ := h k hlt
      clear h
      cases hv : mayV (z k) with
      | true =>
        go_wp2_with (go_at_call 20; refine (rmay_any _ _).mono ?_; rintro e w' ⟨rfl, rfl⟩)
        go_round
        case rel => exact ⟨k + 1, by omega, by go_num, rfl, by simp [mayTo, hv, HM.out]⟩
        case measure => simp [intOf]; omega
      | false =>
        go_wp2_with (go_at_call 20; refine (rmay_any _ _).mono ?_; rintro e w' ⟨rfl, rfl⟩)
        go_ret2
        exact ⟨ret_int_int (by simp [ojoinV, mayTo_no k hlt hv]) (by simp [ordE, mayTo_no k hlt hv]), rfl⟩
    · obtain rfl : k = n := by omega
      clear h
      go_wp2
      go_ret2
      exact ⟨ret_int_int (by simp [ojoinV, HM.out]) (by simp [ordE, HM.out]), rfl⟩

theorem chainTo_zero (z : Nat → Int) : chainTo z (0 + 1) = true := by simp [chainTo]
theorem chainTo_off {z : Nat → Int} {k : Nat} (h : chainTo z k = false) : chainTo z (k + 1) = false := by simp [chainTo, h]
theorem chainTo_on {z : Nat → Int} {m : Nat} (h : chainTo z (m + 1) = true) : chainTo z (m + 1 + 1) = underV (z m) (z (m + 1)) := by
  rw [chainTo, h]
  simp

set_option maxHeartbeats 1000000 in
theorem rchain_any (a : Option Addr) (n c : Nat) (z : Nat → Int) (w : World) (hn : n ≤ 1152921504606846976) (h : Row w a n fun i => .int .i64 (z i)) :
    Calls Try.prog 12 #[.slice a n c] w fun e w' => e = .returned (.tuple #[.bool (ochainV z n), .int .i64 (ordE z n)]) ∧ ∃ q, w' = w.drewN q := by
  go_enter Try.func12, Try.ntmps12
  go_wp2
  go_loopw [4, 5] (fun t i wr => ∃ k : Nat, k ≤ n ∧ i = .int .i64 k ∧ t = .bool (chainTo z k) ∧ mayTo z k = true ∧ ∃ q, wr = w.drewN q) (fun _ i _ => n - (intOf i).toNat)
  case atStart => exact ⟨0, Nat.zero_le _, rfl, rfl, rfl, 0, rfl⟩
  case round =>
    obtain ⟨k, hk, rfl, rfl, hm, hq⟩ := hrel
    have HQ : Hid (∃ q, wr = w.drewN q) := hq
    replace h : Row wr a n fun i => .int .i64 (z i) := by obtain ⟨q, rfl⟩ := hq; exact h
    have HM : Hid (mayTo z k = true) := hm
    clear hm hq
    by_cases hlt : k < n
    · obtain ⟨b, off, rfl, hb, hc⟩ := h k hlt
      cases hv : mayV (z k) with
      | true =>
        have HV : Hid (mayTo z (k + 1) = true) := by show mayTo z (k + 1) = true; simp [mayTo, hv, HM.out]
        cases hch : chainTo z k with
        | false =>
          have HN := Hid.out (chainTo_off hch)
          go_wp2_with (go_at_call 20; refine (rmay_any _ _).mono ?_; rintro e w' ⟨rfl, rfl⟩)
          go_quiet (fail)
          go_wp2
          go_roundw
          case rel => exact ⟨k + 1, by omega, by go_num, by simp [HN], HV.out, drewN_on HQ.out _⟩
          case measure => simp [intOf]; omega
        | true =>
          have HC : Hid (chainTo z k = true) := hch
          clear hch
          cases k with
          | zero =>
            clear h
            rw [Nat.add_zero] at hc
            go_wp2_with (go_at_call 20; refine (rmay_any _ _).mono ?_; rintro e w' ⟨rfl, rfl⟩)
            go_quiet (fail)
            go_wp2
            go_roundw
            case rel => exact ⟨0 + 1, by omega, by go_num, by simp [chainTo_zero], HV.out, drewN_on HQ.out _⟩
            case measure => simp [intOf]; omega
          | succ m =>
            obtain ⟨b', off', e', _, hc'⟩ := h m (by omega)
            obtain ⟨rfl, rfl⟩ : b = b' ∧ off = off' := by simpa using e'
            clear h e'
            have hwm := wrap_nat m (by omega)
            have i1 : (m : Int) < (n : Int) := by omega
            have i2 : (m : Int) + 1 < (n : Int) := by omega
            have i3 : (0 : Int) ≤ (m : Int) + 1 := by omega
            have i4 : ((m : Int) + 1).toNat = m + 1 := by omega
            have i5 : ((m : Int) + 1 == 0) = false := beq_eq_false_iff_ne.2 (by omega)
            go_wp2_with (go_at_call 20; refine (rmay_any _ _).mono ?_; rintro e w' ⟨rfl, rfl⟩)
            go_quiet ((go_at_call 16; exact Calls.quiet_of_same (flip (under_any _ _ _))))
            go_wp2
            go_roundw
            case rel => exact ⟨m + 1 + 1, by omega, by go_num, by simp [chainTo_on HC.out], HV.out, drewN_on HQ.out _⟩
            case measure => simp [intOf]; omega
      | false =>
        go_wp2_with (go_at_call 20; refine (rmay_any _ _).mono ?_; rintro e w' ⟨rfl, rfl⟩)
        go_ret2
        exact ⟨ret_bool_int (by simp [ochainV, mayTo_no k hlt hv]) (by simp [ordE, mayTo_no k hlt hv]), HQ.out⟩
    · obtain rfl : k = n := by omega
      clear h
      go_wp2
      go_ret2
      exact ⟨ret_bool_int (by simp [ochainV, HM.out]) (by simp [ordE, HM.out]), HQ.out⟩

/-- Are the first k of either the same? -/
def sameTo (z y : Nat → Int) : Nat → Bool
  | 0 => true
  | k + 1 => sameTo z y k && z k == y k
theorem sameTo_mk {z y : Nat → Int} : ∀ {n : Nat}, (∀ i, i < n → z i = y i) → sameTo z y n = true
  | 0, _ => rfl
  | n + 1, h => by
    rw [sameTo, sameTo_mk fun i hi => h i (by omega), h n (by omega)]
    simp
theorem sameTo_lt {z y : Nat → Int} : ∀ {n : Nat}, sameTo z y n = true → ∀ i, i < n → z i = y i
  | n + 1, h, i, hi => by
    simp only [sameTo, Bool.and_eq_true, beq_iff_eq] at h
    by_cases e : i = n
    · subst e; exact h.2
    · exact sameTo_lt h.1 i (by omega)
theorem sameTo_no {z y : Nat → Int} {n : Nat} (i : Nat) (hi : i < n) (h : z i ≠ y i) : sameTo z y n = false := by
  cases e : sameTo z y n with
  | false => rfl
  | true => exact absurd (sameTo_lt e i hi) h

set_option maxHeartbeats 400000 in
theorem sameInts_any (a a' : Option Addr) (n c n' c' : Nat) (z y : Nat → Int) (w : World) (hn : n ≤ 1152921504606846976) (h : Row w a n fun i => .int .i64 (z i)) (h' : Row w a' n' fun i => .int .i64 (y i)) :
    Calls Try.prog 22 #[.slice a n c, .slice a' n' c'] w fun e w' => e = .returned (.bool (decide (n = n') && sameTo z y n)) ∧ ∃ q, w' = w.drewN q := by
  by_cases hnn : n = n'
  · subst hnn
    have hne : ((n : Int) != (n : Int)) = false := by simp
    go_enter Try.func22, Try.ntmps22
    go_wp2
    go_loopw [5] (fun i wr => ∃ k : Nat, k ≤ n ∧ i = .int .i64 k ∧ sameTo z y k = true ∧ ∃ q, wr = w.drewN q) (fun i _ => n - (intOf i).toNat)
    case atStart => exact ⟨0, Nat.zero_le _, rfl, rfl, 0, rfl⟩
    case round =>
      obtain ⟨k, hk, rfl, hs, hq⟩ := hrel
      have HQ : Hid (∃ q, wr = w.drewN q) := hq
      replace h : Row wr a n fun i => .int .i64 (z i) := by obtain ⟨q, rfl⟩ := hq; exact h
      replace h' : Row wr a' n fun i => .int .i64 (y i) := by obtain ⟨q, rfl⟩ := hq; exact h'
      have HS : Hid (sameTo z y k = true) := hs
      clear hs hq
      by_cases hlt : k < n
      · obtain ⟨b, off, rfl, hb, hc⟩ := h k hlt
        obtain ⟨b', off', rfl, hb', hc'⟩ := h' k hlt
        clear h h'
        have i1 : (k : Int) < (n : Int) := by omega
        by_cases hv : z k = y k
        · have hv' : (z k != y k) = false := by simp [hv]
          have HV : Hid (z k = y k) := hv
          clear hv
          go_wp2
          go_quiet (fail)
          go_wp2
          go_roundw
          case rel => exact ⟨k + 1, by omega, by go_num, by simp [sameTo, HS.out, HV.out], drewN_on HQ.out _⟩
          case measure => simp [intOf]; omega
        · have hv' : (z k != y k) = true := by simp [hv]
          have HV : Hid (z k ≠ y k) := hv
          clear hv
          go_wp2
          go_quiet (fail)
          go_wp2
          go_ret
          exact ⟨ret_bool (by simp [sameTo_no k hlt HV.out]), drewN_on HQ.out _⟩
      · obtain rfl : k = n := by omega
        clear h h'
        go_wp2
        go_ret
        exact ⟨ret_bool (by simp [HS.out]), HQ.out⟩
  · have hne : ((n : Int) != (n' : Int)) = true := by simp; omega
    have HN : Hid (n ≠ n') := hnn
    clear hnn h h'
    go_enter Try.func22, Try.ntmps22
    go_wp2
    go_ret
    exact ⟨ret_bool (by simp [HN.out]), 0, rfl⟩

end Go.Proofs.Ytibeokdjedplcaa
