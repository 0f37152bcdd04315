/-
  Several small texts in one: StartStat, StartRef1, ProgProg, StartProg, WritesStat, WritesProg.
-/
import Derived.Test.YtnjognmnbpcaaaaGreatZhSessMem
import Derived.Test.YtnjognmnbpcaaaaGreatZlab
import Derived.Laws.ResultCell
import Derived.Deep.MidRow
import Derived.Deep.RegionHeld3
import Derived.Test.YtnjognmnbpcaaaaGreatZlad
import Derived.Test.YtnjognmnbpcaaaaGreatZhInstProg
import Derived.Test.YtnjognmnbpcaaaaGreatZlai
import Derived.Test.YtnjognmnbpcaaaaGreatZhWithWRef2
import Derived.Deep.Cut
import Derived.WalkMore
namespace Go.Proofs.YtnjognmnbpcaaaaGreat
open Go.RowKit
set_option linter.unusedSimpArgs false
theorem Tryz.sizeSess : (Tryz.prog.info? 44).map (·.size) = some 17 := by kernel_rfl
theorem Tryz.rowSess : (Tryz.prog.underlying 44).any (·.isRow) = true := by kernel_rfl
def MaySC : Prop := ∀ (id l cl : Int) (a : Option Addr) (n c : Nat) (z : Nat → Int) (w : World), n ≤ 1152921504606846976 → (Row w a (n * 4) fun k => .int .i64 (z k)) → Calls Tryz.prog 122 #[startA id l cl (.slice a n c)] w fun e w' => e = .returned (.bool (startMay id l cl n z)) ∧ Below w.heap.size w w'
end Go.Proofs.YtnjognmnbpcaaaaGreat
namespace Go.Proofs.YtnjognmnbpcaaaaGreat
open Go.RowKit
set_option linter.unusedSimpArgs false
set_option linter.unusedVariables false
def underV (a b : Int) : Bool := bits .or .i64 a b == b
theorem runder_any (a b : Int) (w : World) :
    Calls Tryz.prog 109 #[.int .i64 a, .int .i64 b] w fun e w' => e = .returned (.bool (underV a b)) ∧ w = w' := by
  unfold underV
  go_enter Tryz.func109, Tryz.ntmps109
  go_wp2
  go_ret
  exact ⟨rfl, rfl⟩
theorem below_under {a b : Int} : belowV a b = (upToV a 3 && (upToV b 3 && underV a b)) := by
  by_cases ha : Lab a
  · by_cases hb : Lab b
    · rw [belowV_yes ha hb]
      unfold underV
      rcases lab_cases ha with rfl | rfl | rfl | rfl <;> rcases lab_cases hb with rfl | rfl | rfl | rfl <;> rfl
    · rw [belowV_no2 (noLab_of hb), ← mayV_up b, mayV_no (noLab_of hb), Bool.false_and, Bool.and_false]
  · rw [belowV_no1 (noLab_of ha), ← mayV_up a, mayV_no (noLab_of ha), Bool.false_and]
set_option maxRecDepth 100000 in
set_option maxHeartbeats 1000000 in
theorem rstartMay_any (id l cl : Int) (a : Option Addr) (n c : Nat) (z : Nat → Int) (w : World) (hn : n ≤ 1152921504606846976) (h : Row w a (n * 4) fun k => .int .i64 (z k)) :
    Calls Tryz.prog 81 #[startA id l cl (.slice a n c)] w fun e w' => e = .returned (.bool (startMay id l cl n z)) ∧ Below w.heap.size w w' := by
  unfold startMay startA
  rw [below_under]
  have C1 := hide fun w => rid_any id w
  have C2 := hide fun w => rlabel_any l w
  have C3 := hide fun w => rlabel_any cl w
  have C4 := hide fun w => runder_any l cl w
  have C5 := hide fun (w : World) h => rprogMay_any a n c z w hn h
  have R1 := hide (h.below ((Below.refl _ w).alloc (Nat.le_refl _) (.cells #[.int .i64 id, .int .i64 l, .int .i64 cl, .slice a n c] 72)) (Nat.le_refl _))
  generalize progMay n z = m at *
  generalize upToV id 254 = u at *
  generalize upToV l 3 = v at *
  generalize upToV cl 3 = x at *
  generalize underV l cl = y at *
  clear h
  cases u
  · rw [Bool.false_and]
    go_enter Tryz.func81, Tryz.ntmps81
    go_wp2_with (go_at_call 108; refine (C1.out _).mono ?_; rintro e w' ⟨rfl, rfl⟩)
    go_ret
    exact ⟨rfl, by go_grown⟩
  · cases v
    · rw [Bool.false_and, Bool.false_and, Bool.and_false]
      go_enter Tryz.func81, Tryz.ntmps81
      go_wp2_with (first | (go_at_call 108; refine (C1.out _).mono ?_; rintro e w' ⟨rfl, rfl⟩) | (go_at_call 79; refine (C2.out _).mono ?_; rintro e w' ⟨rfl, rfl⟩))
      go_ret
      exact ⟨rfl, by go_grown⟩
    · cases x
      · rw [Bool.false_and, Bool.and_false, Bool.false_and, Bool.and_false]
        go_enter Tryz.func81, Tryz.ntmps81
        go_wp2_with (first | (go_at_call 108; refine (C1.out _).mono ?_; rintro e w' ⟨rfl, rfl⟩) | (go_at_call 79; refine (C2.out _).mono ?_; rintro e w' ⟨rfl, rfl⟩) | (go_at_call 79; refine (C3.out _).mono ?_; rintro e w' ⟨rfl, rfl⟩))
        go_ret
        exact ⟨rfl, by go_grown⟩
      · cases y
        · rw [Bool.and_false, Bool.and_false, Bool.false_and, Bool.and_false]
          go_enter Tryz.func81, Tryz.ntmps81
          go_wp2_with (first | (go_at_call 108; refine (C1.out _).mono ?_; rintro e w' ⟨rfl, rfl⟩) | (go_at_call 79; refine (C2.out _).mono ?_; rintro e w' ⟨rfl, rfl⟩) | (go_at_call 79; refine (C3.out _).mono ?_; rintro e w' ⟨rfl, rfl⟩) | (go_at_call 109; refine (C4.out _).mono ?_; rintro e w' ⟨rfl, rfl⟩))
          go_ret
          exact ⟨rfl, by go_grown⟩
        · rw [Bool.and_self, Bool.and_self, Bool.true_and, Bool.true_and]
          go_enter Tryz.func81, Tryz.ntmps81
          go_wp2_with (first | (go_at_call 108; refine (C1.out _).mono ?_; rintro e w' ⟨rfl, rfl⟩) | (go_at_call 79; refine (C2.out _).mono ?_; rintro e w' ⟨rfl, rfl⟩) | (go_at_call 79; refine (C3.out _).mono ?_; rintro e w' ⟨rfl, rfl⟩) | (go_at_call 109; refine (C4.out _).mono ?_; rintro e w' ⟨rfl, rfl⟩))
          refine (C5.out _ R1.out).mono ?_
          rintro e w1 ⟨rfl, hb⟩
          have b1 : Below w.heap.size w w1 := Below.on (by go_grown) hb
          clear hb R1 C1 C2 C3 C4 C5
          go_wp2
          go_ret
          exact ⟨rfl, b1⟩
end Go.Proofs.YtnjognmnbpcaaaaGreat
namespace Go.Proofs.YtnjognmnbpcaaaaGreat
open Go.RowKit
set_option linter.unusedSimpArgs false
set_option linter.unusedVariables false
def fwdV (i : Nat → Int) (at_ many : Int) : Bool := (i 0 != 4) || (decide (at_ < i 2) && decide (i 2 ≤ many))
set_option maxHeartbeats 1000000 in
theorem fwd_any (i : Nat → Int) (at_ many : Int) (w : World) :
    Calls Tryz.prog 149 #[quadA i, .int .i64 at_, .int .i64 many] w fun e w' => e = .returned (.bool (fwdV i at_ many)) ∧ Below w.heap.size w w' := by
  unfold fwdV quadA
  by_cases h0 : i 0 = 4
  · rw [h0, show ((4 : Int) != 4) = false from rfl, Bool.false_or]
    by_cases h1 : at_ < i 2
    · rw [decide_eq_true h1, Bool.true_and]
      go_enter Tryz.func149, Tryz.ntmps149
      go_wp2
      go_ret
      exact ⟨rfl, by go_grown⟩
    · rw [decide_eq_false h1, Bool.false_and]
      go_enter Tryz.func149, Tryz.ntmps149
      go_wp2
      go_ret
      exact ⟨rfl, by go_grown⟩
  · have h0' : (i 0 != 4) = true := by simpa using h0
    rw [h0', Bool.true_or]
    go_enter Tryz.func149, Tryz.ntmps149
    go_wp2
    go_ret
    exact ⟨rfl, by go_grown⟩
theorem fwd_bad (z : Nat → Int) (n k : Nat) : fwdV (instAt z k) (k : Int) (n : Int) = !badJump z n k := by
  unfold fwdV badJump instAt
  show ((z (k * 4) != 4) || (decide ((k : Int) < z (k * 4 + 2)) && decide (z (k * 4 + 2) ≤ (n : Int)))) = _
  by_cases h0 : z (k * 4) = 4
  · by_cases h1 : (k : Int) < z (k * 4 + 2) <;> by_cases h2 : z (k * 4 + 2) ≤ (n : Int)
    all_goals
      simp [h0, h1, h2]
      try omega
  · have : (z (k * 4) == 4) = false := by simpa using h0
    simp [bne, this]
set_option maxRecDepth 10000 in
set_option maxHeartbeats 2000000 in
theorem may_pc : MayPC := by
  intro a n c z w hn h
  by_cases h16 : n ≤ 16
  · have i16 : ¬ (16 : Int) < (n : Int) := by omega
    go_enter Tryz.func141, Tryz.ntmps141
    go_wp2
    go_loopw [10] (fun i wr => ∃ k : Nat, k ≤ n ∧ i = .int .i64 k ∧ Hid (progTo z n k = true) ∧ Below w.heap.size w wr) (fun i _ => n - (intOf i).toNat)
    case atStart => exact ⟨0, Nat.zero_le _, rfl, rfl, by go_grown⟩
    case round =>
      obtain ⟨k, hk, rfl, HS, hb⟩ := hrel
      by_cases hlt : k < n
      · have i1 : (k : Int) < (n : Int) := by omega
        obtain ⟨b, off, hsa, hbl, d0, d1, d2, d3⟩ := (h.below hb (Nat.le_refl _)).at4 k hlt
        subst hsa
        have s0 := hb.size
        have C := hide fun w => may_ic (instAt z k) w
        have D := hide fun w => fwd_any (instAt z k) k n w
        rw [fwd_bad] at D
        rw [quadA_at] at C D
        have B := blk_new wr [.int .i64 (z (k * 4)), .int .i64 (z (k * 4 + 1)), .int .i64 (z (k * 4 + 2)), .int .i64 (z (k * 4 + 3))] 47
        cases hm : instMay (instAt z k)
        · rw [hm] at C
          go_wp2_with fail
          refine (C.out _).mono ?_
          rintro e w1 ⟨rfl, hb1⟩
          have b1 : Below w.heap.size w w1 := Below.on (hb.alloc s0 _) hb1
          clear hb1 d0 d1 d2 d3 C D
          go_wp2
          go_ret
          exact ⟨ret_bool (progMay_no k hlt (by rw [hm]; rfl)).symm, b1⟩
        · rw [hm] at C
          cases hj : badJump z n k
          · rw [hj] at D
            have HN : Hid (progTo z n (k + 1) = true) := by
              show progTo z n (k + 1) = true
              rw [progTo, HS.out, hm, hj]
              rfl
            go_wp2_with fail
            refine (C.out _).mono ?_
            rintro e w1 ⟨rfl, hb1⟩
            have b1 : Below w.heap.size w w1 := Below.on (hb.alloc s0 _) hb1
            replace B := B.on hb1
            clear hb1 d0 d1 d2 d3 C
            obtain ⟨c0, c1, c2, c3⟩ := B.cells4
            go_wp2_with fail
            refine (D.out _).mono ?_
            rintro e w2 ⟨rfl, hb2⟩
            have b2 : Below w.heap.size w w2 := Below.on b1 hb2
            clear hb2 D c0 c1 c2 c3 b1
            go_wp2
            go_roundw
            case rel => exact ⟨k + 1, by omega, by go_num, HN, b2⟩
            case measure => simp [intOf]; omega
          · rw [hj] at D
            go_wp2_with fail
            refine (C.out _).mono ?_
            rintro e w1 ⟨rfl, hb1⟩
            have b1 : Below w.heap.size w w1 := Below.on (hb.alloc s0 _) hb1
            replace B := B.on hb1
            clear hb1 d0 d1 d2 d3 C
            obtain ⟨c0, c1, c2, c3⟩ := B.cells4
            go_wp2_with fail
            refine (D.out _).mono ?_
            rintro e w2 ⟨rfl, hb2⟩
            have b2 : Below w.heap.size w w2 := Below.on b1 hb2
            clear hb2 D c0 c1 c2 c3 b1
            go_wp2
            go_ret
            exact ⟨ret_bool (progMay_no k hlt (by rw [hj, Bool.not_true, Bool.and_false])).symm, b2⟩
      · obtain rfl : k = n := by omega
        go_wp2
        go_ret
        exact ⟨ret_bool (progMay_mk HS.out h16).symm, hb⟩
  · have i16 : (16 : Int) < (n : Int) := by omega
    go_enter Tryz.func141, Tryz.ntmps141
    go_wp2
    go_ret
    exact ⟨ret_bool (progMay_long (by omega)).symm, Below.refl _ _⟩
end Go.Proofs.YtnjognmnbpcaaaaGreat
namespace Go.Proofs.YtnjognmnbpcaaaaGreat
open Go.RowKit
set_option linter.unusedSimpArgs false
set_option linter.unusedVariables false
set_option maxHeartbeats 1000000 in
theorem may_sc : MaySC := by
  intro id l cl a n c z w hn h
  unfold startMay startA
  have C1 := hide fun w => askUpTo_any id 254 w
  have C2 := hide fun w => below_any l cl w
  have C3 := hide fun (w : World) h => may_pc a n c z w hn h
  have R1 := hide (h.below ((Below.refl _ w).alloc (Nat.le_refl _) (.cells #[.int .i64 id, .int .i64 l, .int .i64 cl, .slice a n c] 72)) (Nat.le_refl _))
  generalize labE l cl = E at *
  generalize progMay n z = m at *
  generalize upToV id 254 = u at *
  generalize belowV l cl = v at *
  clear h
  cases u
  · rw [Bool.false_and]
    go_enter Tryz.func122, Tryz.ntmps122
    go_wp2_with (first | (go_at_call 140; refine (C2.out _).mono ?_; rintro e w' ⟨rfl, rfl⟩) | (go_at_call 70; refine (C1.out _).mono ?_; rintro e w' ⟨rfl, rfl⟩))
    go_ret
    exact ⟨rfl, by go_grown⟩
  · rw [Bool.true_and]
    cases v
    · rw [Bool.false_and]
      go_enter Tryz.func122, Tryz.ntmps122
      go_wp2_with (first | (go_at_call 140; refine (C2.out _).mono ?_; rintro e w' ⟨rfl, rfl⟩) | (go_at_call 70; refine (C1.out _).mono ?_; rintro e w' ⟨rfl, rfl⟩))
      go_ret
      exact ⟨rfl, by go_grown⟩
    · rw [Bool.true_and]
      go_enter Tryz.func122, Tryz.ntmps122
      go_wp2_with (first | (go_at_call 140; refine (C2.out _).mono ?_; rintro e w' ⟨rfl, rfl⟩) | (go_at_call 70; refine (C1.out _).mono ?_; rintro e w' ⟨rfl, rfl⟩))
      refine (C3.out _ R1.out).mono ?_
      rintro e w1 ⟨rfl, hb⟩
      have b1 : Below w.heap.size w w1 := Below.on (by go_grown) hb
      clear hb R1 C1 C2 C3
      go_wp2
      go_ret
      exact ⟨rfl, b1⟩
end Go.Proofs.YtnjognmnbpcaaaaGreat
namespace Go.Proofs.YtnjognmnbpcaaaaGreat
open Go.RowKit
def MayWC : Prop := ∀ (a : Option Addr) (n c : Nat) (z : Nat → Int) (w : World), n ≤ 1152921504606846976 → n ≤ c → (Row w a (n * 3) fun i => .int .i64 (z i)) → Calls Tryz.prog 125 #[.slice a n c] w fun e w' => e = .returned (.bool (writesMay n z)) ∧ Below w.heap.size w w'
end Go.Proofs.YtnjognmnbpcaaaaGreat
namespace Go.Proofs.YtnjognmnbpcaaaaGreat
open Go.RowKit
set_option linter.unusedSimpArgs false
set_option linter.unusedVariables false
theorem wAlone_any (l i v : Int) (w : World) :
    Calls Tryz.prog 144 #[.agg #[.int .i64 l, .int .i64 i, .int .i64 v]] w fun e w' => e = .returned (.bool (writeMay l i v)) ∧ Below w.heap.size w w' := by
  have C1 := fun w => may_any l w
  rw [mayV_up] at C1
  have C2 := fun w => askUpTo_any i 3 w
  have C3 := hide fun w => askUpTo_any v 255 w
  unfold writeMay
  cases hl : upToV l 3
  · rw [hl] at C1
    have H1 := hide C1
    clear C1 C2 C3
    go_enter Tryz.func144, Tryz.ntmps144
    go_wp2_with (go_at_call 121; refine (H1.out _).mono ?_; rintro e w' ⟨rfl, rfl⟩)
    go_ret
    exact ⟨rfl, by go_grown⟩
  · rw [hl] at C1
    have H1 := hide C1
    cases hi : upToV i 3
    · rw [hi] at C2
      have H2 := hide C2
      clear C1 C2 C3
      go_enter Tryz.func144, Tryz.ntmps144
      go_wp2_with (first | (go_at_call 121; refine (H1.out _).mono ?_; rintro e w' ⟨rfl, rfl⟩) | (go_at_call 70; refine (H2.out _).mono ?_; rintro e w' ⟨rfl, rfl⟩))
      go_ret
      exact ⟨rfl, by go_grown⟩
    · rw [hi] at C2
      have H2 := hide C2
      clear C1 C2
      go_enter Tryz.func144, Tryz.ntmps144
      go_wp2_with (first | (go_at_call 121; refine (H1.out _).mono ?_; rintro e w' ⟨rfl, rfl⟩) | (go_at_call 70; with_reducible refine (H2.out _).mono ?_; rintro e w' ⟨rfl, rfl⟩) | (go_at_call 70; with_reducible refine (C3.out _).mono ?_; rintro e w' ⟨rfl, rfl⟩))
      go_ret
      exact ⟨rfl, by go_grown⟩
/-- How many, from the first on, are ahead of that word. -/
theorem wPlace_any (a : Option Addr) (n c : Nat) (z : Nat → Int) (l i : Int) (w : World) (hn : n ≤ 1152921504606846976) (h : Row w a (n * 3) fun i => .int .i64 (z i)) :
    Calls Tryz.prog 145 #[.slice a n c, .int .i64 l, .int .i64 i] w fun e w' => e = .returned (.int .i64 (posW n z l i : Int)) ∧ Below w.heap.size w w' := by
  go_enter Tryz.func145, Tryz.ntmps145
  go_wp2
  go_step3
  go_wp2
  go_step3
  go_wp2
  go_loopw [7] (fun j wr => ∃ k : Nat, k ≤ n ∧ j = .int .i64 k ∧ Hid (allTo (ltW z l i) k = true) ∧ Below w.heap.size w wr) (fun j _ => n - (intOf j).toNat)
  case atStart => exact ⟨0, Nat.zero_le _, rfl, rfl, Below.refl _ _⟩
  case round =>
    obtain ⟨k, hk, rfl, HS, hb⟩ := hrel
    have s0 := hb.size
    by_cases hlt : k < n
    · have i1 : (k : Int) < (n : Int) := by omega
      obtain ⟨b, off, hsa, hbl, d0, d1, d2⟩ := (h.below hb (Nat.le_refl _)).at3 k hlt
      subst hsa
      clear h
      by_cases v0 : z (k * 3) < l
      · have HN : Hid (allTo (ltW z l i) (k + 1) = true) := by
          show allTo (ltW z l i) (k + 1) = true
          rw [allTo, HS.out, ltW_iff.2 (.inl v0)]
          rfl
        go_wp2
        go_roundw
        case rel => exact ⟨k + 1, by omega, by go_num, HN, by go_grown⟩
        case measure => simp [intOf]; omega
      · by_cases v1 : l < z (k * 3)
        · have HN : Hid (posW n z l i = k) := lead_is HS.out (by omega) fun _ => by
            cases e : ltW z l i k with
            | false => rfl
            | true => rw [ltW_iff] at e; omega
          go_wp2
          try rw [Exit.noGoto_ret]
          go_ret
          exact ⟨ret_int (by rw [HN.out]), by go_grown⟩
        · by_cases v2 : i ≤ z (k * 3 + 1)
          · have HN : Hid (posW n z l i = k) := lead_is HS.out (by omega) fun _ => by
              cases e : ltW z l i k with
              | false => rfl
              | true => rw [ltW_iff] at e; omega
            go_wp2
            try rw [Exit.noGoto_ret]
            go_ret
            exact ⟨ret_int (by rw [HN.out]), by go_grown⟩
          · have HN : Hid (allTo (ltW z l i) (k + 1) = true) := by
              show allTo (ltW z l i) (k + 1) = true
              rw [allTo, HS.out, ltW_iff.2 (by omega)]
              rfl
            go_wp2
            go_roundw
            case rel => exact ⟨k + 1, by omega, by go_num, HN, by go_grown⟩
            case measure => simp [intOf]; omega
    · obtain rfl : k = n := by omega
      have HN : Hid (posW k z l i = k) := lead_is HS.out (Nat.le_refl _) fun h => absurd h (Nat.lt_irrefl _)
      clear h
      go_wp2
      try rw [Exit.noGoto_ret]
      go_ret
      exact ⟨ret_int (by rw [HN.out]), hb⟩
set_option maxRecDepth 100000 in
theorem run_wUpto (a : Option Addr) (n c m : Nat) (hm : m ≤ c) (W : World) : Sem.run Tryz.prog (Instr.slice 42 (.slice a n c) none (some (.int .i64 (m : Int))) none) W = .ok (.slice a m c) W := by
  rw [run_slice_h W 42 a n c (by kernel_rfl) .i64 (m : Int) (by omega) (by omega), Int.toNat_natCast]
  have e : Sem.run Tryz.prog (Go.sizeOf (Tryz.prog.elem 42)) W = .ok 3 W := by rfl
  rw [e]
  have e0 : ∀ x : Addr, x.add 0 = x := fun x => by
    obtain ⟨b, o, p⟩ := x
    simp [Addr.add]
  cases a <;> simp [Result.andThen, sliced, e0]
theorem ahead_pos {z : Nat → Int} {k : Nat} (h : aheadW z k = true) : posW k z (z (k * 3)) (z (k * 3 + 1)) = k := lead_is h (Nat.le_refl _) fun h => absurd h (Nat.lt_irrefl _)
theorem ahead_not {z : Nat → Int} {k : Nat} (h : aheadW z k = false) : posW k z (z (k * 3)) (z (k * 3 + 1)) < k := by
  have h1 := posW_le k z (z (k * 3)) (z (k * 3 + 1))
  have h2 := lead_all (ltW z (z (k * 3)) (z (k * 3 + 1))) k
  by_cases e : posW k z (z (k * 3)) (z (k * 3 + 1)) = k
  · rw [show lead (ltW z (z (k * 3)) (z (k * 3 + 1))) k = k from e] at h2
    rw [show aheadW z k = allTo (ltW z (z (k * 3)) (z (k * 3 + 1))) k from rfl, h2] at h
    cases h
  · omega
set_option maxRecDepth 10000 in
set_option maxHeartbeats 2000000 in
theorem may_wc : MayWC := by
  intro a n c z w hn hc h
  by_cases h16 : n ≤ 16
  · have i16 : ¬ (16 : Int) < (n : Int) := by omega
    have CA := askAllW_any 144 #[] #[] (aloneW z) a n c z w hn h (fun _ _ => rfl) (fun k hk W hb => wAlone_any _ _ _ W)
    cases hl : allTo (aloneW z) n
    · rw [hl] at CA
      have HC := hide CA
      have HN := hide (writesMay_alones hl)
      clear CA h hl
      go_enter Tryz.func125, Tryz.ntmps125
      go_wp2_with fail
      refine HC.out.mono ?_
      rintro e w1 ⟨rfl, b1⟩
      clear HC
      go_wp2
      go_ret
      exact ⟨ret_bool HN.out.symm, b1⟩
    · rw [hl] at CA
      have HC := hide CA
      have HL := hide hl
      clear CA hl
      go_enter Tryz.func125, Tryz.ntmps125
      go_wp2_with fail
      refine HC.out.mono ?_
      rintro e w1 ⟨rfl, b1⟩
      clear HC
      go_wp2
      go_loopw [15] (fun i wr => ∃ k : Nat, k ≤ n ∧ i = .int .i64 k ∧ Hid (allTo (aheadW z) k = true) ∧ Below w.heap.size w wr) (fun i _ => n - (intOf i).toNat)
      case atStart => exact ⟨0, Nat.zero_le _, rfl, rfl, b1⟩
      case round =>
        clear b1
        obtain ⟨k, hk, rfl, HS, hb⟩ := hrel
        by_cases hlt : k < n
        · have i1 : (k : Int) < (n : Int) := by omega
          obtain ⟨b, off, hsa, hbl, d0, d1, d2⟩ := (h.below hb (Nat.le_refl _)).at3 k hlt
          subst hsa
          have s0 := hb.size
          go_upto_region 6 with (fail)
          have b2 : Below w.heap.size w (wr.alloc (.cells #[.int .i64 (z (k * 3)), .int .i64 (z (k * 3 + 1)), .int .i64 (z (k * 3 + 2))] 85)) := by go_grown
          have B := blk_new wr [.int .i64 (z (k * 3)), .int .i64 (z (k * 3 + 1)), .int .i64 (z (k * 3 + 2))] 85
          clear d0 d1 d2 hbl hb
          change Blk (wr.alloc (.cells #[.int .i64 (z (k * 3)), .int .i64 (z (k * 3 + 1)), .int .i64 (z (k * 3 + 2))] 85)) wr.heap.size _ at B
          generalize wr.alloc (.cells #[.int .i64 (z (k * 3)), .int .i64 (z (k * 3 + 1)), .int .i64 (z (k * 3 + 2))] 85) = W at *
          obtain ⟨p0, p1, p2⟩ := B.kin3
          have hs := fun W => run_wUpto (some ⟨b, off, none⟩) n c k (by omega) W
          have K : ∀ u : Kin W, _ := fun u => Calls.kin_of (u := u) (wPlace_any (some ⟨b, off, none⟩) k c z (z (k * 3)) (z (k * 3 + 1)) u.at_ (by omega) (((h.below b2 (Nat.le_refl _)).below u.below (Nat.le_refl _)).less (by omega)))
          have kne : Nonempty (Kin W) := kin_any W
          cases hp : aheadW z k
          · have HN : Hid (writesMay n z = false) := writesMay_not_ahead k hlt hp
            have hp' := ahead_not hp
            have HK := hide K
            clear K hp
            generalize posW k z (z (k * 3)) (z (k * 3 + 1)) = P at *
            have i2 : (P : Int) < (k : Int) := by omega
            refine wp_region_kin (by kernel_rfl) (by kernel_rfl) ?_
            repeat (go_big_quiet_step ((go_at_call 145; exact HK.out _)))
            refine wpQuiet_nil ?_
            rintro _ ⟨u, rfl⟩
            have b3 : Below w.heap.size w u.at_ := b2.trans (u.below.mono b2.size)
            clear p0 p1 p2 hs HK kne B b2 h
            generalize u.at_ = V at *
            clear u
            go_wp2
            go_ret
            exact ⟨ret_bool HN.out.symm, b3⟩
          · rw [ahead_pos hp] at K
            have HK := hide K
            have HN : Hid (allTo (aheadW z) (k + 1) = true) := by
              show allTo (aheadW z) (k + 1) = true
              rw [allTo, HS.out]
              exact hp
            clear K hp
            refine wp_region_kin (by kernel_rfl) (by kernel_rfl) ?_
            repeat (go_big_quiet_step ((go_at_call 145; exact HK.out _)))
            refine wpQuiet_nil ?_
            rintro _ ⟨u, rfl⟩
            have b3 : Below w.heap.size w u.at_ := b2.trans (u.below.mono b2.size)
            clear p0 p1 p2 hs HK kne B b2 h
            generalize u.at_ = V at *
            clear u
            go_wp2
            go_roundw
            case rel => exact ⟨k + 1, by omega, by go_num, HN, b3⟩
            case measure => simp [intOf]; omega
        · obtain rfl : k = n := by omega
          clear h
          go_wp2
          go_ret
          exact ⟨ret_bool (writesMay_ahead HL.out HS.out h16).symm, hb⟩
  · have i16 : (16 : Int) < (n : Int) := by omega
    clear h
    go_enter Tryz.func125, Tryz.ntmps125
    go_wp2
    go_ret
    exact ⟨ret_bool (writesMay_long (by omega)).symm, Below.refl _ _⟩
end Go.Proofs.YtnjognmnbpcaaaaGreat
