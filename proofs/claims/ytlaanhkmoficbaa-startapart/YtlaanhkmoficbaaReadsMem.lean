/-
  Lists of reads: are two the same; written over; copied; lent with marked room behind them, looked at again.
-/
import Derived.Test.YtlaanhkmoficbaaAt3
import Derived.Test.YtlaanhkmoficbaaOwn
import Derived.Test.YtlaanhkmoficbaaTouch
import Derived.Laws.AppendOwnNone
import Derived.OwnWalk
import Derived.Deep.AppendLies
namespace Go.Proofs.Ytlaanhkmoficbaa
open Go.RowKit
set_option linter.unusedSimpArgs false

theorem Try.infoRead : (Try.prog.info? 56).map (fun i => (i.zero, i.size, i.bytes)) = some (some (.agg #[.int .i64 0, .int .i64 0, .int .i64 0]), 3, 24) := by kernel_rfl

set_option maxHeartbeats 1000000 in
theorem sameReads_any (a a' : Option Addr) (n c n' c' : Nat) (z y : Nat → Int) (w : World) (hn : n ≤ 1152921504606846976) (h : Row w a (n * 3) fun i => .int .i64 (z i)) (h' : Row w a' (n' * 3) fun i => .int .i64 (y i)) :
    Calls Try.prog 19 #[.slice a n c, .slice a' n' c'] w fun e w' => e = .returned (.bool (decide (n = n') && eqTo z y (n * 3))) ∧ ∃ q, w' = w.drewN q := by
  by_cases hnn : n = n'
  · subst hnn
    have hne : ((n : Int) != (n : Int)) = false := by simp
    go_enter Try.func19, Try.ntmps19
    go_wp2
    go_loopw [5] (fun i wr => ∃ k : Nat, k ≤ n ∧ i = .int .i64 k ∧ eqTo z y (k * 3) = true ∧ ∃ q, wr = w.drewN q) (fun i _ => n - (intOf i).toNat)
    case atStart => exact ⟨0, Nat.zero_le _, rfl, rfl, 0, rfl⟩
    case round =>
      obtain ⟨k, hk, rfl, hs, hq⟩ := hrel
      have HQ : Hid (∃ q, wr = w.drewN q) := hq
      replace h : Row wr a (n * 3) fun i => .int .i64 (z i) := by obtain ⟨q, rfl⟩ := hq; exact h
      replace h' : Row wr a' (n * 3) fun i => .int .i64 (y i) := by obtain ⟨q, rfl⟩ := hq; exact h'
      have HS : Hid (eqTo z y (k * 3) = true) := hs
      clear hs hq
      by_cases hlt : k < n
      · obtain ⟨b, off, rfl, hb, c0, c1, c2⟩ := h.at3 k hlt
        obtain ⟨b', off', rfl, hb', d0, d1, d2⟩ := h'.at3 k hlt
        clear h h'
        have i1 : (k : Int) < (n : Int) := by omega
        by_cases v0 : z (k * 3) = y (k * 3)
        · by_cases v1 : z (k * 3 + 1) = y (k * 3 + 1)
          · by_cases v2 : z (k * 3 + 2) = y (k * 3 + 2)
            · have HE : Hid (eqTo z y ((k + 1) * 3) = true) := by
                show eqTo z y ((k + 1) * 3) = true
                rw [show (k + 1) * 3 = k * 3 + 1 + 1 + 1 by omega, eqTo, eqTo, eqTo, HS.out, v0, v1, v2]
                simp
              go_wp2
              go_quiet (fail)
              go_wp2
              go_roundw
              case rel => exact ⟨k + 1, by omega, by go_num, HE.out, drewN_on HQ.out _⟩
              case measure => simp [intOf]; omega
            · have HV : Hid (z (k * 3 + 2) ≠ y (k * 3 + 2)) := v2
              go_wp2
              go_quiet (fail)
              go_wp2
              go_ret
              exact ⟨ret_bool (by simp [eqTo_no (n := n * 3) (k * 3 + 2) (by omega) HV.out]), drewN_on HQ.out _⟩
          · have HV : Hid (z (k * 3 + 1) ≠ y (k * 3 + 1)) := v1
            go_wp2
            go_quiet (fail)
            go_wp2
            go_ret
            exact ⟨ret_bool (by simp [eqTo_no (n := n * 3) (k * 3 + 1) (by omega) HV.out]), drewN_on HQ.out _⟩
        · have HV : Hid (z (k * 3) ≠ y (k * 3)) := v0
          go_wp2
          go_quiet (fail)
          go_wp2
          go_ret
          exact ⟨ret_bool (by simp [eqTo_no (n := n * 3) (k * 3) (by omega) HV.out]), drewN_on HQ.out _⟩
      · obtain rfl : k = n := by omega
        clear h h'
        go_wp2
        go_ret
        exact ⟨ret_bool (by simp [HS.out]), HQ.out⟩
  · have hne : ((n : Int) != (n' : Int)) = true := by simp; omega
    have HN : Hid (n ≠ n') := hnn
    clear hnn h h'
    go_enter Try.func19, Try.ntmps19
    go_wp2
    go_ret
    exact ⟨ret_bool (by simp [HN.out]), 0, rfl⟩


set_option maxHeartbeats 400000 in
theorem spoilReads_any (b n c : Nat) (z : Nat → Int) (w : World) (hn : n ≤ 1152921504606846976) (h : Own w b (n * 3) (intF z)) :
    Calls Try.prog 29 #[.slice (some ⟨b, 0, none⟩) n c] w fun e w' => e = .returned (.tuple #[]) ∧ (∃ z', Own w' b (n * 3) (intF z')) ∧ Touch b (b + 1) w w' ∧ w'.heap.size = w.heap.size := by
  go_enter Try.func29, Try.ntmps29
  go_wp2
  go_loopw [2] (fun i wr => ∃ (k : Nat) (z : Nat → Int), k ≤ n ∧ i = .int .i64 k ∧ Own wr b (n * 3) (intF z) ∧ Touch b (b + 1) w wr ∧ wr.heap.size = w.heap.size) (fun i _ => n - (intOf i).toNat)
  case atStart => exact ⟨0, z, Nat.zero_le _, rfl, h, Touch.refl _ _ _, rfl⟩
  case round =>
    obtain ⟨k, z, hk, rfl, ho, ht, hs⟩ := hrel
    by_cases hlt : k < n
    · have i1 : (k : Int) < (n : Int) := by omega
      have c0 := ho.cell (i := k * 3 + 1) (by omega)
      have f0 := ho.frozen (k * 3 + 1)
      unfold intF at c0
      have HS := hide hs
      clear hs
      go_wp2
      go_roundw
      case rel => exact ⟨k + 1, _, by omega, by go_num, ho.setInt _ _, ht.setCell (by simp) (by simp) _, by rw [World.size_setCell]; exact HS.out⟩
      case measure => simp [intOf]; omega
    · go_wp2
      go_end0
      exact ⟨rfl, ⟨z, ho⟩, ht, hs⟩

theorem spoilReads_none (a : Option Addr) (c : Nat) (w : World) :
    Calls Try.prog 29 #[.slice a 0 c] w fun e w' => e = .returned (.tuple #[]) ∧ w = w' := by
  go_enter Try.func29, Try.ntmps29
  go_wp2
  go_loop [2] (fun i => i = .int .i64 0) (fun _ => 0)
  case atStart => rfl
  case round =>
    subst hrel
    go_wp2
    go_end0
    exact ⟨rfl, rfl⟩




/-- A list with the marks behind it. -/
def lentR (z : Nat → Int) (n : Nat) (i : Nat) : Int := if i < n * 3 then z i else if i = n * 3 + 1 then 77777 else if i = n * 3 + 4 then 77777 else 0
theorem lentR_row (z : Nat → Int) (n : Nat) : rowL (intF z) (n * 3) ++ [.int .i64 0, .int .i64 77777, .int .i64 0, .int .i64 0, .int .i64 77777, .int .i64 0] = rowL (intF (lentR z n)) ((n + 2) * 3) := by
  rw [show (n + 2) * 3 = n * 3 + 6 by omega, rowL_add]
  congr 1
  · exact rowL_congr fun i hi => by unfold intF lentR; rw [if_pos hi]
  · have e : ∀ j, j < 6 → intF (lentR z n) (n * 3 + j) = .int .i64 (if j = 1 then 77777 else if j = 4 then 77777 else 0) := by
      intro j hj
      unfold intF lentR
      rw [if_neg (by omega)]
      congr 1
      split
      · rw [if_pos (by omega)]
      · split
        · rw [if_neg (by omega), if_pos (by omega)]
        · rw [if_neg (by omega), if_neg (by omega)]
    show _ = [intF (lentR z n) (n * 3 + 0), intF (lentR z n) (n * 3 + 1), intF (lentR z n) (n * 3 + 2), intF (lentR z n) (n * 3 + 3), intF (lentR z n) (n * 3 + 4), intF (lentR z n) (n * 3 + 5)]
    rw [e 0 (by omega), e 1 (by omega), e 2 (by omega), e 3 (by omega), e 4 (by omega), e 5 (by omega)]
    rfl



end Go.Proofs.Ytlaanhkmoficbaa
