/-
  What the landed package prog's May, Put and Get hand back.
-/
import Derived.Test.YtlaanhkmoficbaaProgStat
import Derived.Test.YtlaanhkmoficbaaInstProg
namespace Go.Proofs.Ytlaanhkmoficbaa
open Go.RowKit
set_option linter.unusedSimpArgs false
set_option linter.unusedVariables false

def fwdV (i : Nat → Int) (at_ many : Int) : Bool := (i 0 != 4) || (decide (at_ < i 2) && decide (i 2 ≤ many))

set_option maxHeartbeats 1000000 in
theorem fwd_any (i : Nat → Int) (at_ many : Int) (w : World) :
    Calls Try.prog 33 #[quadA i, .int .i64 at_, .int .i64 many] w fun e w' => e = .returned (.bool (fwdV i at_ many)) ∧ Below w.heap.size w w' := by
  unfold fwdV quadA
  by_cases h0 : i 0 = 4
  · rw [h0, show ((4 : Int) != 4) = false from rfl, Bool.false_or]
    by_cases h1 : at_ < i 2
    · rw [decide_eq_true h1, Bool.true_and]
      go_enter Try.func33, Try.ntmps33
      go_wp2
      go_ret
      exact ⟨rfl, by go_grown⟩
    · rw [decide_eq_false h1, Bool.false_and]
      go_enter Try.func33, Try.ntmps33
      go_wp2
      go_ret
      exact ⟨rfl, by go_grown⟩
  · have h0' : (i 0 != 4) = true := by simpa using h0
    rw [h0', Bool.true_or]
    go_enter Try.func33, Try.ntmps33
    go_wp2
    go_ret
    exact ⟨rfl, by go_grown⟩
theorem fwd_bad (z : Nat → Int) (n k : Nat) : fwdV (instAt z k) (k : Int) (n : Int) = !badJump z n k := by
  unfold fwdV badJump instAt
  show ((z (k * 4) != 4) || (decide ((k : Int) < z (k * 4 + 2)) && decide (z (k * 4 + 2) ≤ (n : Int)))) = _
  by_cases h0 : z (k * 4) = 4
  · by_cases h1 : (k : Int) < z (k * 4 + 2) <;> by_cases h2 : z (k * 4 + 2) ≤ (n : Int)
    all_goals
      simp [h0, h1, h2]
      try omega
  · have : (z (k * 4) == 4) = false := by simpa using h0
    simp [bne, this]

set_option maxRecDepth 10000 in
set_option maxHeartbeats 2000000 in
theorem may_pc : MayPC := by
  intro a n c z w hn h
  by_cases h16 : n ≤ 16
  · have i16 : ¬ (16 : Int) < (n : Int) := by omega
    go_enter Try.func23, Try.ntmps23
    go_wp2
    go_loopw [10] (fun i wr => ∃ k : Nat, k ≤ n ∧ i = .int .i64 k ∧ Hid (progTo z n k = true) ∧ Below w.heap.size w wr) (fun i _ => n - (intOf i).toNat)
    case atStart => exact ⟨0, Nat.zero_le _, rfl, rfl, by go_grown⟩
    case round =>
      obtain ⟨k, hk, rfl, HS, hb⟩ := hrel
      by_cases hlt : k < n
      · have i1 : (k : Int) < (n : Int) := by omega
        obtain ⟨b, off, hsa, hbl, d0, d1, d2, d3⟩ := (h.below hb (Nat.le_refl _)).at4 k hlt
        subst hsa
        have s0 := hb.size
        have C := hide fun w => may_ic (instAt z k) w
        have D := hide fun w => fwd_any (instAt z k) k n w
        rw [fwd_bad] at D
        rw [quadA_at] at C D
        have B := blk_new wr [.int .i64 (z (k * 4)), .int .i64 (z (k * 4 + 1)), .int .i64 (z (k * 4 + 2)), .int .i64 (z (k * 4 + 3))] 43
        cases hm : instMay (instAt z k)
        · rw [hm] at C
          go_wp2_with fail
          refine (C.out _).mono ?_
          rintro e w1 ⟨rfl, hb1⟩
          have b1 : Below w.heap.size w w1 := Below.on (hb.alloc s0 _) hb1
          clear hb1 d0 d1 d2 d3 C D
          go_wp2
          go_ret
          exact ⟨ret_bool (progMay_no k hlt (by rw [hm]; rfl)).symm, b1⟩
        · rw [hm] at C
          cases hj : badJump z n k
          · rw [hj] at D
            have HN : Hid (progTo z n (k + 1) = true) := by
              show progTo z n (k + 1) = true
              rw [progTo, HS.out, hm, hj]
              rfl
            go_wp2_with fail
            refine (C.out _).mono ?_
            rintro e w1 ⟨rfl, hb1⟩
            have b1 : Below w.heap.size w w1 := Below.on (hb.alloc s0 _) hb1
            replace B := B.on hb1
            clear hb1 d0 d1 d2 d3 C
            obtain ⟨c0, c1, c2, c3⟩ := B.cells4
            go_wp2_with fail
            refine (D.out _).mono ?_
            rintro e w2 ⟨rfl, hb2⟩
            have b2 : Below w.heap.size w w2 := Below.on b1 hb2
            clear hb2 D c0 c1 c2 c3 b1
            go_wp2
            go_roundw
            case rel => exact ⟨k + 1, by omega, by go_num, HN, b2⟩
            case measure => simp [intOf]; omega
          · rw [hj] at D
            go_wp2_with fail
            refine (C.out _).mono ?_
            rintro e w1 ⟨rfl, hb1⟩
            have b1 : Below w.heap.size w w1 := Below.on (hb.alloc s0 _) hb1
            replace B := B.on hb1
            clear hb1 d0 d1 d2 d3 C
            obtain ⟨c0, c1, c2, c3⟩ := B.cells4
            go_wp2_with fail
            refine (D.out _).mono ?_
            rintro e w2 ⟨rfl, hb2⟩
            have b2 : Below w.heap.size w w2 := Below.on b1 hb2
            clear hb2 D c0 c1 c2 c3 b1
            go_wp2
            go_ret
            exact ⟨ret_bool (progMay_no k hlt (by rw [hj, Bool.not_true, Bool.and_false])).symm, b2⟩
      · obtain rfl : k = n := by omega
        go_wp2
        go_ret
        exact ⟨ret_bool (progMay_mk HS.out h16).symm, hb⟩
  · have i16 : (16 : Int) < (n : Int) := by omega
    go_enter Try.func23, Try.ntmps23
    go_wp2
    go_ret
    exact ⟨ret_bool (progMay_long (by omega)).symm, Below.refl _ _⟩



end Go.Proofs.Ytlaanhkmoficbaa
