/-
  Lists of events: are two the same.
-/
import Derived.Test.YtnjognmnbpcaaaaGreatZlad
namespace Go.Proofs.YtnjognmnbpcaaaaGreat
open Go.RowKit
set_option linter.unusedSimpArgs false
set_option maxHeartbeats 1000000 in
theorem sameEvents_any (a a' : Option Addr) (n c n' c' : Nat) (z y : Nat → Int) (w : World) (hn : n ≤ 1152921504606846976) (h : Row w a (n * 4) fun i => .int .i64 (z i)) (h' : Row w a' (n' * 4) fun i => .int .i64 (y i)) :
    Calls Tryz.prog 29 #[.slice a n c, .slice a' n' c'] w fun e w' => e = .returned (.bool (decide (n = n') && eqTo z y (n * 4))) ∧ ∃ q, w' = w.drewN q := by
  by_cases hnn : n = n'
  · subst hnn
    have hne : ((n : Int) != (n : Int)) = false := by simp
    go_enter Tryz.func29, Tryz.ntmps29
    go_wp2
    go_loopw [5] (fun i wr => ∃ k : Nat, k ≤ n ∧ i = .int .i64 k ∧ eqTo z y (k * 4) = true ∧ ∃ q, wr = w.drewN q) (fun i _ => n - (intOf i).toNat)
    case atStart => exact ⟨0, Nat.zero_le _, rfl, rfl, 0, rfl⟩
    case round =>
      obtain ⟨k, hk, rfl, hs, hq⟩ := hrel
      have HQ : Hid (∃ q, wr = w.drewN q) := hq
      replace h : Row wr a (n * 4) fun i => .int .i64 (z i) := by obtain ⟨q, rfl⟩ := hq; exact h
      replace h' : Row wr a' (n * 4) fun i => .int .i64 (y i) := by obtain ⟨q, rfl⟩ := hq; exact h'
      have HS : Hid (eqTo z y (k * 4) = true) := hs
      clear hs hq
      by_cases hlt : k < n
      · obtain ⟨b, off, rfl, hb, c0, c1, c2, c3⟩ := h.at4 k hlt
        obtain ⟨b', off', rfl, hb', d0, d1, d2, d3⟩ := h'.at4 k hlt
        clear h h'
        have i1 : (k : Int) < (n : Int) := by omega
        by_cases v0 : z (k * 4) = y (k * 4)
        · by_cases v1 : z (k * 4 + 1) = y (k * 4 + 1)
          · by_cases v2 : z (k * 4 + 2) = y (k * 4 + 2)
            · by_cases v3 : z (k * 4 + 3) = y (k * 4 + 3)
              · have HE : Hid (eqTo z y ((k + 1) * 4) = true) := by
                    show eqTo z y ((k + 1) * 4) = true
                    rw [show (k + 1) * 4 = k * 4 + 1 + 1 + 1 + 1 by omega, eqTo, eqTo, eqTo, eqTo, HS.out, v0, v1, v2, v3]
                    simp
                go_wp2
                go_quiet (fail)
                go_wp2
                go_roundw
                case rel => exact ⟨k + 1, by omega, by go_num, HE.out, drewN_on HQ.out _⟩
                case measure => simp [intOf]; omega
              · have HV : Hid (z (k * 4 + 3) ≠ y (k * 4 + 3)) := v3
                go_wp2
                go_quiet (fail)
                go_wp2
                go_ret
                exact ⟨ret_bool (by simp [eqTo_no (n := n * 4) (k * 4 + 3) (by omega) HV.out]), drewN_on HQ.out _⟩
            · have HV : Hid (z (k * 4 + 2) ≠ y (k * 4 + 2)) := v2
              go_wp2
              go_quiet (fail)
              go_wp2
              go_ret
              exact ⟨ret_bool (by simp [eqTo_no (n := n * 4) (k * 4 + 2) (by omega) HV.out]), drewN_on HQ.out _⟩
          · have HV : Hid (z (k * 4 + 1) ≠ y (k * 4 + 1)) := v1
            go_wp2
            go_quiet (fail)
            go_wp2
            go_ret
            exact ⟨ret_bool (by simp [eqTo_no (n := n * 4) (k * 4 + 1) (by omega) HV.out]), drewN_on HQ.out _⟩
        · have HV : Hid (z (k * 4) ≠ y (k * 4)) := v0
          go_wp2
          go_quiet (fail)
          go_wp2
          go_ret
          exact ⟨ret_bool (by simp [eqTo_no (n := n * 4) (k * 4) (by omega) HV.out]), drewN_on HQ.out _⟩
      · obtain rfl : k = n := by omega
        clear h h'
        go_wp2
        go_ret
        exact ⟨ret_bool (by simp [HS.out]), HQ.out⟩
  · have hne : ((n : Int) != (n' : Int)) = true := by simp; omega
    have HN : Hid (n ≠ n') := hnn
    clear hnn h h'
    go_enter Tryz.func29, Tryz.ntmps29
    go_wp2
    go_ret
    exact ⟨ret_bool (by simp [HN.out]), 0, rfl⟩
end Go.Proofs.YtnjognmnbpcaaaaGreat
