/-
  Several small texts in one: StartStat, StartRef1, ProgProg, StartProg, ReadsStat, ReadsProg, WritesStat, WritesProg, WithWProg.
-/
import Derived.Test.YtlnenmfippedpaaGreatZhSessMem
import Derived.Test.YtlnenmfippedpaaGreatZlab
import Derived.Laws.ResultCell
import Derived.Deep.MidRow
import Derived.Deep.RegionHeld3
import Derived.Test.YtlnenmfippedpaaGreatZlad
import Derived.Test.YtlnenmfippedpaaGreatZhInstProg
import Derived.Test.YtlnenmfippedpaaGreatZlah
import Derived.Test.YtlnenmfippedpaaGreatZhGoodRef2
import Derived.Test.YtlnenmfippedpaaGreatZhWithWRef2
import Derived.Deep.Cut
import Derived.WalkMore
namespace Go.Proofs.YtlnenmfippedpaaGreat
open Go.RowKit
set_option linter.unusedSimpArgs false
theorem Tryz.sizeSess : (Tryz.prog.info? 44).map (·.size) = some 17 := by kernel_rfl
theorem Tryz.rowSess : (Tryz.prog.underlying 44).any (·.isRow) = true := by kernel_rfl
def MaySC : Prop := ∀ (id l cl : Int) (a : Option Addr) (n c : Nat) (z : Nat → Int) (w : World), n ≤ 1152921504606846976 → (Row w a (n * 4) fun k => .int .i64 (z k)) → Calls Tryz.prog 106 #[startA id l cl (.slice a n c)] w fun e w' => e = .returned (.bool (startMay id l cl n z)) ∧ Below w.heap.size w w'
end Go.Proofs.YtlnenmfippedpaaGreat
namespace Go.Proofs.YtlnenmfippedpaaGreat
open Go.RowKit
set_option linter.unusedSimpArgs false
set_option linter.unusedVariables false
def underV (a b : Int) : Bool := bits .or .i64 a b == b
theorem runder_any (a b : Int) (w : World) :
    Calls Tryz.prog 121 #[.int .i64 a, .int .i64 b] w fun e w' => e = .returned (.bool (underV a b)) ∧ w = w' := by
  unfold underV
  go_enter Tryz.func121, Tryz.ntmps121
  go_wp2
  go_ret
  exact ⟨rfl, rfl⟩
theorem below_under {a b : Int} : belowV a b = (upToV a 3 && (upToV b 3 && underV a b)) := by
  by_cases ha : Lab a
  · by_cases hb : Lab b
    · rw [belowV_yes ha hb]
      unfold underV
      rcases lab_cases ha with rfl | rfl | rfl | rfl <;> rcases lab_cases hb with rfl | rfl | rfl | rfl <;> rfl
    · rw [belowV_no2 (noLab_of hb), ← mayV_up b, mayV_no (noLab_of hb), Bool.false_and, Bool.and_false]
  · rw [belowV_no1 (noLab_of ha), ← mayV_up a, mayV_no (noLab_of ha), Bool.false_and]
set_option maxRecDepth 100000 in
set_option maxHeartbeats 1000000 in
theorem rstartMay_any (id l cl : Int) (a : Option Addr) (n c : Nat) (z : Nat → Int) (w : World) (hn : n ≤ 1152921504606846976) (h : Row w a (n * 4) fun k => .int .i64 (z k)) :
    Calls Tryz.prog 100 #[startA id l cl (.slice a n c)] w fun e w' => e = .returned (.bool (startMay id l cl n z)) ∧ Below w.heap.size w w' := by
  unfold startMay startA
  rw [below_under]
  have C1 := hide fun w => rid_any id w
  have C2 := hide fun w => rlabel_any l w
  have C3 := hide fun w => rlabel_any cl w
  have C4 := hide fun w => runder_any l cl w
  have C5 := hide fun (w : World) h => rprogMay_any a n c z w hn h
  have R1 := hide (h.below ((Below.refl _ w).alloc (Nat.le_refl _) (.cells #[.int .i64 id, .int .i64 l, .int .i64 cl, .slice a n c] 81)) (Nat.le_refl _))
  generalize progMay n z = m at *
  generalize upToV id 254 = u at *
  generalize upToV l 3 = v at *
  generalize upToV cl 3 = x at *
  generalize underV l cl = y at *
  clear h
  cases u
  · rw [Bool.false_and]
    go_enter Tryz.func100, Tryz.ntmps100
    go_wp2_with (go_at_call 127; refine (C1.out _).mono ?_; rintro e w' ⟨rfl, rfl⟩)
    go_ret
    exact ⟨rfl, by go_grown⟩
  · cases v
    · rw [Bool.false_and, Bool.false_and, Bool.and_false]
      go_enter Tryz.func100, Tryz.ntmps100
      go_wp2_with (first | (go_at_call 127; refine (C1.out _).mono ?_; rintro e w' ⟨rfl, rfl⟩) | (go_at_call 84; refine (C2.out _).mono ?_; rintro e w' ⟨rfl, rfl⟩))
      go_ret
      exact ⟨rfl, by go_grown⟩
    · cases x
      · rw [Bool.false_and, Bool.and_false, Bool.false_and, Bool.and_false]
        go_enter Tryz.func100, Tryz.ntmps100
        go_wp2_with (first | (go_at_call 127; refine (C1.out _).mono ?_; rintro e w' ⟨rfl, rfl⟩) | (go_at_call 84; refine (C2.out _).mono ?_; rintro e w' ⟨rfl, rfl⟩) | (go_at_call 84; refine (C3.out _).mono ?_; rintro e w' ⟨rfl, rfl⟩))
        go_ret
        exact ⟨rfl, by go_grown⟩
      · cases y
        · rw [Bool.and_false, Bool.and_false, Bool.false_and, Bool.and_false]
          go_enter Tryz.func100, Tryz.ntmps100
          go_wp2_with (first | (go_at_call 127; refine (C1.out _).mono ?_; rintro e w' ⟨rfl, rfl⟩) | (go_at_call 84; refine (C2.out _).mono ?_; rintro e w' ⟨rfl, rfl⟩) | (go_at_call 84; refine (C3.out _).mono ?_; rintro e w' ⟨rfl, rfl⟩) | (go_at_call 121; refine (C4.out _).mono ?_; rintro e w' ⟨rfl, rfl⟩))
          go_ret
          exact ⟨rfl, by go_grown⟩
        · rw [Bool.and_self, Bool.and_self, Bool.true_and, Bool.true_and]
          go_enter Tryz.func100, Tryz.ntmps100
          go_wp2_with (first | (go_at_call 127; refine (C1.out _).mono ?_; rintro e w' ⟨rfl, rfl⟩) | (go_at_call 84; refine (C2.out _).mono ?_; rintro e w' ⟨rfl, rfl⟩) | (go_at_call 84; refine (C3.out _).mono ?_; rintro e w' ⟨rfl, rfl⟩) | (go_at_call 121; refine (C4.out _).mono ?_; rintro e w' ⟨rfl, rfl⟩))
          refine (C5.out _ R1.out).mono ?_
          rintro e w1 ⟨rfl, hb⟩
          have b1 : Below w.heap.size w w1 := Below.on (by go_grown) hb
          clear hb R1 C1 C2 C3 C4 C5
          go_wp2
          go_ret
          exact ⟨rfl, b1⟩
end Go.Proofs.YtlnenmfippedpaaGreat
namespace Go.Proofs.YtlnenmfippedpaaGreat
open Go.RowKit
set_option linter.unusedSimpArgs false
set_option linter.unusedVariables false
def fwdV (i : Nat → Int) (at_ many : Int) : Bool := (i 0 != 4) || (decide (at_ < i 2) && decide (i 2 ≤ many))
set_option maxHeartbeats 1000000 in
theorem fwd_any (i : Nat → Int) (at_ many : Int) (w : World) :
    Calls Tryz.prog 144 #[quadA i, .int .i64 at_, .int .i64 many] w fun e w' => e = .returned (.bool (fwdV i at_ many)) ∧ Below w.heap.size w w' := by
  unfold fwdV quadA
  by_cases h0 : i 0 = 4
  · rw [h0, show ((4 : Int) != 4) = false from rfl, Bool.false_or]
    by_cases h1 : at_ < i 2
    · rw [decide_eq_true h1, Bool.true_and]
      go_enter Tryz.func144, Tryz.ntmps144
      go_wp2
      go_ret
      exact ⟨rfl, by go_grown⟩
    · rw [decide_eq_false h1, Bool.false_and]
      go_enter Tryz.func144, Tryz.ntmps144
      go_wp2
      go_ret
      exact ⟨rfl, by go_grown⟩
  · have h0' : (i 0 != 4) = true := by simpa using h0
    rw [h0', Bool.true_or]
    go_enter Tryz.func144, Tryz.ntmps144
    go_wp2
    go_ret
    exact ⟨rfl, by go_grown⟩
theorem fwd_bad (z : Nat → Int) (n k : Nat) : fwdV (instAt z k) (k : Int) (n : Int) = !badJump z n k := by
  unfold fwdV badJump instAt
  show ((z (k * 4) != 4) || (decide ((k : Int) < z (k * 4 + 2)) && decide (z (k * 4 + 2) ≤ (n : Int)))) = _
  by_cases h0 : z (k * 4) = 4
  · by_cases h1 : (k : Int) < z (k * 4 + 2) <;> by_cases h2 : z (k * 4 + 2) ≤ (n : Int)
    all_goals
      simp [h0, h1, h2]
      try omega
  · have : (z (k * 4) == 4) = false := by simpa using h0
    simp [bne, this]
set_option maxRecDepth 10000 in
set_option maxHeartbeats 2000000 in
theorem may_pc : MayPC := by
  intro a n c z w hn h
  by_cases h16 : n ≤ 16
  · have i16 : ¬ (16 : Int) < (n : Int) := by omega
    go_enter Tryz.func134, Tryz.ntmps134
    go_wp2
    go_loopw [10] (fun i wr => ∃ k : Nat, k ≤ n ∧ i = .int .i64 k ∧ Hid (progTo z n k = true) ∧ Below w.heap.size w wr) (fun i _ => n - (intOf i).toNat)
    case atStart => exact ⟨0, Nat.zero_le _, rfl, rfl, by go_grown⟩
    case round =>
      obtain ⟨k, hk, rfl, HS, hb⟩ := hrel
      by_cases hlt : k < n
      · have i1 : (k : Int) < (n : Int) := by omega
        obtain ⟨b, off, hsa, hbl, d0, d1, d2, d3⟩ := (h.below hb (Nat.le_refl _)).at4 k hlt
        subst hsa
        have s0 := hb.size
        have C := hide fun w => may_ic (instAt z k) w
        have D := hide fun w => fwd_any (instAt z k) k n w
        rw [fwd_bad] at D
        rw [quadA_at] at C D
        have B := blk_new wr [.int .i64 (z (k * 4)), .int .i64 (z (k * 4 + 1)), .int .i64 (z (k * 4 + 2)), .int .i64 (z (k * 4 + 3))] 47
        cases hm : instMay (instAt z k)
        · rw [hm] at C
          go_wp2_with fail
          refine (C.out _).mono ?_
          rintro e w1 ⟨rfl, hb1⟩
          have b1 : Below w.heap.size w w1 := Below.on (hb.alloc s0 _) hb1
          clear hb1 d0 d1 d2 d3 C D
          go_wp2
          go_ret
          exact ⟨ret_bool (progMay_no k hlt (by rw [hm]; rfl)).symm, b1⟩
        · rw [hm] at C
          cases hj : badJump z n k
          · rw [hj] at D
            have HN : Hid (progTo z n (k + 1) = true) := by
              show progTo z n (k + 1) = true
              rw [progTo, HS.out, hm, hj]
              rfl
            go_wp2_with fail
            refine (C.out _).mono ?_
            rintro e w1 ⟨rfl, hb1⟩
            have b1 : Below w.heap.size w w1 := Below.on (hb.alloc s0 _) hb1
            replace B := B.on hb1
            clear hb1 d0 d1 d2 d3 C
            obtain ⟨c0, c1, c2, c3⟩ := B.cells4
            go_wp2_with fail
            refine (D.out _).mono ?_
            rintro e w2 ⟨rfl, hb2⟩
            have b2 : Below w.heap.size w w2 := Below.on b1 hb2
            clear hb2 D c0 c1 c2 c3 b1
            go_wp2
            go_roundw
            case rel => exact ⟨k + 1, by omega, by go_num, HN, b2⟩
            case measure => simp [intOf]; omega
          · rw [hj] at D
            go_wp2_with fail
            refine (C.out _).mono ?_
            rintro e w1 ⟨rfl, hb1⟩
            have b1 : Below w.heap.size w w1 := Below.on (hb.alloc s0 _) hb1
            replace B := B.on hb1
            clear hb1 d0 d1 d2 d3 C
            obtain ⟨c0, c1, c2, c3⟩ := B.cells4
            go_wp2_with fail
            refine (D.out _).mono ?_
            rintro e w2 ⟨rfl, hb2⟩
            have b2 : Below w.heap.size w w2 := Below.on b1 hb2
            clear hb2 D c0 c1 c2 c3 b1
            go_wp2
            go_ret
            exact ⟨ret_bool (progMay_no k hlt (by rw [hj, Bool.not_true, Bool.and_false])).symm, b2⟩
      · obtain rfl : k = n := by omega
        go_wp2
        go_ret
        exact ⟨ret_bool (progMay_mk HS.out h16).symm, hb⟩
  · have i16 : (16 : Int) < (n : Int) := by omega
    go_enter Tryz.func134, Tryz.ntmps134
    go_wp2
    go_ret
    exact ⟨ret_bool (progMay_long (by omega)).symm, Below.refl _ _⟩
end Go.Proofs.YtlnenmfippedpaaGreat
namespace Go.Proofs.YtlnenmfippedpaaGreat
open Go.RowKit
set_option linter.unusedSimpArgs false
set_option linter.unusedVariables false
set_option maxHeartbeats 1000000 in
theorem may_sc : MaySC := by
  intro id l cl a n c z w hn h
  unfold startMay startA
  have C1 := hide fun w => askUpTo_any id 254 w
  have C2 := hide fun w => below_any l cl w
  have C3 := hide fun (w : World) h => may_pc a n c z w hn h
  have R1 := hide (h.below ((Below.refl _ w).alloc (Nat.le_refl _) (.cells #[.int .i64 id, .int .i64 l, .int .i64 cl, .slice a n c] 81)) (Nat.le_refl _))
  generalize labE l cl = E at *
  generalize progMay n z = m at *
  generalize upToV id 254 = u at *
  generalize belowV l cl = v at *
  clear h
  cases u
  · rw [Bool.false_and]
    go_enter Tryz.func106, Tryz.ntmps106
    go_wp2_with (first | (go_at_call 133; refine (C2.out _).mono ?_; rintro e w' ⟨rfl, rfl⟩) | (go_at_call 41; refine (C1.out _).mono ?_; rintro e w' ⟨rfl, rfl⟩))
    go_ret
    exact ⟨rfl, by go_grown⟩
  · rw [Bool.true_and]
    cases v
    · rw [Bool.false_and]
      go_enter Tryz.func106, Tryz.ntmps106
      go_wp2_with (first | (go_at_call 133; refine (C2.out _).mono ?_; rintro e w' ⟨rfl, rfl⟩) | (go_at_call 41; refine (C1.out _).mono ?_; rintro e w' ⟨rfl, rfl⟩))
      go_ret
      exact ⟨rfl, by go_grown⟩
    · rw [Bool.true_and]
      go_enter Tryz.func106, Tryz.ntmps106
      go_wp2_with (first | (go_at_call 133; refine (C2.out _).mono ?_; rintro e w' ⟨rfl, rfl⟩) | (go_at_call 41; refine (C1.out _).mono ?_; rintro e w' ⟨rfl, rfl⟩))
      refine (C3.out _ R1.out).mono ?_
      rintro e w1 ⟨rfl, hb⟩
      have b1 : Below w.heap.size w w1 := Below.on (by go_grown) hb
      clear hb R1 C1 C2 C3
      go_wp2
      go_ret
      exact ⟨rfl, b1⟩
end Go.Proofs.YtlnenmfippedpaaGreat
namespace Go.Proofs.YtlnenmfippedpaaGreat
open Go.RowKit
def MayRC : Prop := ∀ (a : Option Addr) (n c : Nat) (z : Nat → Int) (w : World), n ≤ 1152921504606846976 → n ≤ c → (Row w a (n * 3) fun i => .int .i64 (z i)) → Calls Tryz.prog 108 #[.slice a n c] w fun e w' => e = .returned (.bool (readsMay n z)) ∧ Below w.heap.size w w'
end Go.Proofs.YtlnenmfippedpaaGreat
namespace Go.Proofs.YtlnenmfippedpaaGreat
open Go.RowKit
set_option linter.unusedSimpArgs false
set_option linter.unusedVariables false
theorem mayAlone_any (l i v : Int) (w : World) :
    Calls Tryz.prog 136 #[.agg #[.int .i64 l, .int .i64 i, .int .i64 v]] w fun e w' => e = .returned (.bool (readMay l i v)) ∧ Below w.heap.size w w' := by
  have C1 := fun w => may_any l w
  rw [mayV_up] at C1
  have C2 := fun w => askUpTo_any i 3 w
  have C3 := hide fun w => askUpTo_any v 65535 w
  unfold readMay
  cases hl : upToV l 3
  · rw [hl] at C1
    have H1 := hide C1
    clear C1 C2 C3
    go_enter Tryz.func136, Tryz.ntmps136
    go_wp2_with (go_at_call 79; refine (H1.out _).mono ?_; rintro e w' ⟨rfl, rfl⟩)
    go_ret
    exact ⟨rfl, by go_grown⟩
  · rw [hl] at C1
    have H1 := hide C1
    cases hi : upToV i 3
    · rw [hi] at C2
      have H2 := hide C2
      clear C1 C2 C3
      go_enter Tryz.func136, Tryz.ntmps136
      go_wp2_with (first | (go_at_call 79; refine (H1.out _).mono ?_; rintro e w' ⟨rfl, rfl⟩) | (go_at_call 41; refine (H2.out _).mono ?_; rintro e w' ⟨rfl, rfl⟩))
      go_ret
      exact ⟨rfl, by go_grown⟩
    · rw [hi] at C2
      have H2 := hide C2
      clear C1 C2
      go_enter Tryz.func136, Tryz.ntmps136
      go_wp2_with (first | (go_at_call 79; refine (H1.out _).mono ?_; rintro e w' ⟨rfl, rfl⟩) | (go_at_call 41; with_reducible refine (H2.out _).mono ?_; rintro e w' ⟨rfl, rfl⟩) | (go_at_call 41; with_reducible refine (C3.out _).mono ?_; rintro e w' ⟨rfl, rfl⟩))
      go_ret
      exact ⟨rfl, by go_grown⟩
set_option maxRecDepth 10000 in
set_option maxHeartbeats 1000000 in
theorem names_any (a : Option Addr) (n c : Nat) (z : Nat → Int) (l i v : Int) (w : World) (hn : n ≤ 1152921504606846976) (h : Row w a (n * 3) fun i => .int .i64 (z i)) :
    Calls Tryz.prog 137 #[.slice a n c, .agg #[.int .i64 l, .int .i64 i, .int .i64 v]] w fun e w' => e = .returned (.bool (!noneTo z l i n)) ∧ Below w.heap.size w w' := by
  have b0 : Below w.heap.size w (w.alloc (.cells #[.int .i64 l, .int .i64 i, .int .i64 v] 77)) := by go_grown
  have B := blk_new w [.int .i64 l, .int .i64 i, .int .i64 v] 77
  go_enter Tryz.func137, Tryz.ntmps137
  go_wp2
  go_loopw [9] (fun j wr => ∃ k : Nat, k ≤ n ∧ j = .int .i64 k ∧ Hid (noneTo z l i k = true) ∧ Blk wr w.heap.size [.int .i64 l, .int .i64 i, .int .i64 v] ∧ Below w.heap.size w wr) (fun j _ => n - (intOf j).toNat)
  case atStart => exact ⟨0, Nat.zero_le _, rfl, rfl, B, b0⟩
  case round =>
    clear b0 B
    obtain ⟨k, hk, rfl, HS, B, hb⟩ := hrel
    by_cases hlt : k < n
    · have i1 : (k : Int) < (n : Int) := by omega
      obtain ⟨b, off, hsa, hbl, d0, d1, d2⟩ := (h.below hb (Nat.le_refl _)).at3 k hlt
      subst hsa
      obtain ⟨⟨c0, c1, c2⟩, f0, f1, f2⟩ := B.three
      have bl := B.lt
      have s0 := hb.size
      clear h
      by_cases v0 : z (k * 3) = l
      · by_cases v1 : z (k * 3 + 1) = i
        · have HN : Hid (noneTo z l i n = false) := allTo_no k hlt (by unfold isWord; rw [v0, v1]; simp)
          rw [v0] at d0
          rw [v1] at d1
          clear v0 v1
          go_wp2
          go_ret
          exact ⟨ret_bool (by rw [HN.out]; rfl), by go_grown⟩
        · have HN : Hid (noneTo z l i (k + 1) = true) := by
            show allTo _ (k + 1) = true
            rw [allTo, show allTo _ k = true from HS.out]
            unfold isWord
            rw [beq_eq_false_iff_ne.2 v1, Bool.and_false]
            rfl
          rw [v0] at d0
          clear v0
          go_wp2
          go_roundw
          case rel => exact ⟨k + 1, by omega, by go_num, HN, B.alloc _, by go_grown⟩
          case measure => simp [intOf]; omega
      · have HN : Hid (noneTo z l i (k + 1) = true) := by
          show allTo _ (k + 1) = true
          rw [allTo, show allTo _ k = true from HS.out]
          unfold isWord
          rw [beq_eq_false_iff_ne.2 v0, Bool.false_and]
          rfl
        go_wp2
        go_roundw
        case rel => exact ⟨k + 1, by omega, by go_num, HN, B.alloc _, by go_grown⟩
        case measure => simp [intOf]; omega
    · obtain rfl : k = n := by omega
      clear h
      go_wp2
      go_ret
      exact ⟨ret_bool (by rw [HS.out]; rfl), hb⟩
set_option maxRecDepth 100000 in
theorem run_upto (b off n c m : Nat) (hm : m ≤ c) (W : World) : Sem.run Tryz.prog (Instr.slice 41 (.slice (some ⟨b, off, none⟩) n c) none (some (.int .i64 (m : Int))) none) W = .ok (.slice (some ⟨b, off, none⟩) m c) W := by
  rw [run_slice_h W 41 (some ⟨b, off, none⟩) n c (by kernel_rfl) .i64 (m : Int) (by omega) (by omega), Int.toNat_natCast]
  have e : Sem.run Tryz.prog (Go.sizeOf (Tryz.prog.elem 41)) W = .ok 3 W := by rfl
  rw [e]
  simp only [Result.andThen, sliced, Nat.sub_zero, Nat.zero_mul, Option.map_some, Go.WideShapes.add_plain, Nat.add_zero, ite_self]
set_option maxRecDepth 10000 in
set_option maxHeartbeats 2000000 in
theorem may_rc : MayRC := by
  intro a n c z w hn hc h
  by_cases h16 : n ≤ 16
  · have i16 : ¬ (16 : Int) < (n : Int) := by omega
    have CA := askAll_any 136 #[] #[] (aloneP z) a n c z w hn h (fun _ _ => rfl) (fun k hk W hb => mayAlone_any _ _ _ W)
    cases hl : allTo (aloneP z) n
    · rw [hl] at CA
      have HC := hide CA
      have HN := hide (readsMay_alones hl)
      clear CA h hl
      go_enter Tryz.func108, Tryz.ntmps108
      go_wp2_with fail
      refine HC.out.mono ?_
      rintro e w1 ⟨rfl, b1⟩
      clear HC
      go_wp2
      go_ret
      exact ⟨ret_bool HN.out.symm, b1⟩
    · rw [hl] at CA
      have HC := hide CA
      have HL := hide hl
      clear CA hl
      go_enter Tryz.func108, Tryz.ntmps108
      go_wp2_with fail
      refine HC.out.mono ?_
      rintro e w1 ⟨rfl, b1⟩
      clear HC
      go_wp2
      go_loopw [15] (fun i wr => ∃ k : Nat, k ≤ n ∧ i = .int .i64 k ∧ Hid (allTo (apartP z) k = true) ∧ Below w.heap.size w wr) (fun i _ => n - (intOf i).toNat)
      case atStart => exact ⟨0, Nat.zero_le _, rfl, rfl, b1⟩
      case round =>
        clear b1
        obtain ⟨k, hk, rfl, HS, hb⟩ := hrel
        by_cases hlt : k < n
        · have i1 : (k : Int) < (n : Int) := by omega
          obtain ⟨b, off, hsa, hbl, d0, d1, d2⟩ := (h.below hb (Nat.le_refl _)).at3 k hlt
          subst hsa
          have s0 := hb.size
          go_upto_region 6 with (fail)
          have b2 : Below w.heap.size w (wr.alloc (.cells #[.int .i64 (z (k * 3)), .int .i64 (z (k * 3 + 1)), .int .i64 (z (k * 3 + 2))] 77)) := by go_grown
          have B := blk_new wr [.int .i64 (z (k * 3)), .int .i64 (z (k * 3 + 1)), .int .i64 (z (k * 3 + 2))] 77
          clear d0 d1 d2 hbl hb
          change Blk (wr.alloc (.cells #[.int .i64 (z (k * 3)), .int .i64 (z (k * 3 + 1)), .int .i64 (z (k * 3 + 2))] 77)) wr.heap.size _ at B
          generalize wr.alloc (.cells #[.int .i64 (z (k * 3)), .int .i64 (z (k * 3 + 1)), .int .i64 (z (k * 3 + 2))] 77) = W at *
          obtain ⟨p0, p1, p2⟩ := B.kin3
          have hs := fun W => run_upto b off n c k (by omega) W
          have K : ∀ u : Kin W, _ := fun u => Calls.kin_of (u := u) (names_any (some ⟨b, off, none⟩) k c z (z (k * 3)) (z (k * 3 + 1)) (z (k * 3 + 2)) u.at_ (by omega) (((h.below b2 (Nat.le_refl _)).below u.below (Nat.le_refl _)).less (by omega)))
          have kne : Nonempty (Kin W) := kin_any W
          cases hp : noneTo z (z (k * 3)) (z (k * 3 + 1)) k
          · rw [hp] at K
            have HK := hide K
            have HN : Hid (readsMay n z = false) := readsMay_apart k hlt hp
            clear K hp
            refine wp_region_kin (by kernel_rfl) (by kernel_rfl) ?_
            repeat (go_big_quiet_step ((go_at_call 137; exact HK.out _)))
            refine wpQuiet_nil ?_
            rintro _ ⟨u, rfl⟩
            have b3 : Below w.heap.size w u.at_ := b2.trans (u.below.mono b2.size)
            clear p0 p1 p2 hs HK kne B b2 h
            generalize u.at_ = V at *
            clear u
            go_wp2
            go_ret
            exact ⟨ret_bool HN.out.symm, b3⟩
          · rw [hp] at K
            have HK := hide K
            have HN : Hid (allTo (apartP z) (k + 1) = true) := by
              show allTo (apartP z) (k + 1) = true
              rw [allTo, HS.out]
              exact hp
            clear K hp
            refine wp_region_kin (by kernel_rfl) (by kernel_rfl) ?_
            repeat (go_big_quiet_step ((go_at_call 137; exact HK.out _)))
            refine wpQuiet_nil ?_
            rintro _ ⟨u, rfl⟩
            have b3 : Below w.heap.size w u.at_ := b2.trans (u.below.mono b2.size)
            clear p0 p1 p2 hs HK kne B b2 h
            generalize u.at_ = V at *
            clear u
            go_wp2
            go_roundw
            case rel => exact ⟨k + 1, by omega, by go_num, HN, b3⟩
            case measure => simp [intOf]; omega
        · obtain rfl : k = n := by omega
          clear h
          go_wp2
          go_ret
          exact ⟨ret_bool (readsMay_mk HL.out HS.out h16).symm, hb⟩
  · have i16 : (16 : Int) < (n : Int) := by omega
    clear h
    go_enter Tryz.func108, Tryz.ntmps108
    go_wp2
    go_ret
    exact ⟨ret_bool (readsMay_long (by omega)).symm, Below.refl _ _⟩
end Go.Proofs.YtlnenmfippedpaaGreat
namespace Go.Proofs.YtlnenmfippedpaaGreat
open Go.RowKit
def MayWC : Prop := ∀ (a : Option Addr) (n c : Nat) (z : Nat → Int) (w : World), n ≤ 1152921504606846976 → n ≤ c → (Row w a (n * 3) fun i => .int .i64 (z i)) → Calls Tryz.prog 43 #[.slice a n c] w fun e w' => e = .returned (.bool (writesMay n z)) ∧ Below w.heap.size w w'
def WithWC : Prop := ∀ (a : Option Addr) (n c : Nat) (z : Nat → Int) (l i v : Int) (w : World), n ≤ 1152921504606846976 → n ≤ c → (a = none → n = 0 ∧ c = 0) → (Row w a (n * 3) fun i => .int .i64 (z i)) → Calls Tryz.prog 24 #[.slice a n c, wordA l i v] w (WithWPost n z l i v w)
end Go.Proofs.YtlnenmfippedpaaGreat
namespace Go.Proofs.YtlnenmfippedpaaGreat
open Go.RowKit
set_option linter.unusedSimpArgs false
set_option linter.unusedVariables false
theorem wAlone_any (l i v : Int) (w : World) :
    Calls Tryz.prog 44 #[.agg #[.int .i64 l, .int .i64 i, .int .i64 v]] w fun e w' => e = .returned (.bool (writeMay l i v)) ∧ Below w.heap.size w w' := by
  have C1 := fun w => may_any l w
  rw [mayV_up] at C1
  have C2 := fun w => askUpTo_any i 3 w
  have C3 := hide fun w => askUpTo_any v 255 w
  unfold writeMay
  cases hl : upToV l 3
  · rw [hl] at C1
    have H1 := hide C1
    clear C1 C2 C3
    go_enter Tryz.func44, Tryz.ntmps44
    go_wp2_with (go_at_call 79; refine (H1.out _).mono ?_; rintro e w' ⟨rfl, rfl⟩)
    go_ret
    exact ⟨rfl, by go_grown⟩
  · rw [hl] at C1
    have H1 := hide C1
    cases hi : upToV i 3
    · rw [hi] at C2
      have H2 := hide C2
      clear C1 C2 C3
      go_enter Tryz.func44, Tryz.ntmps44
      go_wp2_with (first | (go_at_call 79; refine (H1.out _).mono ?_; rintro e w' ⟨rfl, rfl⟩) | (go_at_call 41; refine (H2.out _).mono ?_; rintro e w' ⟨rfl, rfl⟩))
      go_ret
      exact ⟨rfl, by go_grown⟩
    · rw [hi] at C2
      have H2 := hide C2
      clear C1 C2
      go_enter Tryz.func44, Tryz.ntmps44
      go_wp2_with (first | (go_at_call 79; refine (H1.out _).mono ?_; rintro e w' ⟨rfl, rfl⟩) | (go_at_call 41; with_reducible refine (H2.out _).mono ?_; rintro e w' ⟨rfl, rfl⟩) | (go_at_call 41; with_reducible refine (C3.out _).mono ?_; rintro e w' ⟨rfl, rfl⟩))
      go_ret
      exact ⟨rfl, by go_grown⟩
/-- How many, from the first on, are ahead of that word. -/
theorem wPlace_any (a : Option Addr) (n c : Nat) (z : Nat → Int) (l i : Int) (w : World) (hn : n ≤ 1152921504606846976) (h : Row w a (n * 3) fun i => .int .i64 (z i)) :
    Calls Tryz.prog 78 #[.slice a n c, .int .i64 l, .int .i64 i] w fun e w' => e = .returned (.int .i64 (posW n z l i : Int)) ∧ Below w.heap.size w w' := by
  go_enter Tryz.func78, Tryz.ntmps78
  go_wp2
  go_step3
  go_wp2
  go_step3
  go_wp2
  go_loopw [7] (fun j wr => ∃ k : Nat, k ≤ n ∧ j = .int .i64 k ∧ Hid (allTo (ltW z l i) k = true) ∧ Below w.heap.size w wr) (fun j _ => n - (intOf j).toNat)
  case atStart => exact ⟨0, Nat.zero_le _, rfl, rfl, Below.refl _ _⟩
  case round =>
    obtain ⟨k, hk, rfl, HS, hb⟩ := hrel
    have s0 := hb.size
    by_cases hlt : k < n
    · have i1 : (k : Int) < (n : Int) := by omega
      obtain ⟨b, off, hsa, hbl, d0, d1, d2⟩ := (h.below hb (Nat.le_refl _)).at3 k hlt
      subst hsa
      clear h
      by_cases v0 : z (k * 3) < l
      · have HN : Hid (allTo (ltW z l i) (k + 1) = true) := by
          show allTo (ltW z l i) (k + 1) = true
          rw [allTo, HS.out, ltW_iff.2 (.inl v0)]
          rfl
        go_wp2
        go_roundw
        case rel => exact ⟨k + 1, by omega, by go_num, HN, by go_grown⟩
        case measure => simp [intOf]; omega
      · by_cases v1 : l < z (k * 3)
        · have HN : Hid (posW n z l i = k) := lead_is HS.out (by omega) fun _ => by
            cases e : ltW z l i k with
            | false => rfl
            | true => rw [ltW_iff] at e; omega
          go_wp2
          try rw [Exit.noGoto_ret]
          go_ret
          exact ⟨ret_int (by rw [HN.out]), by go_grown⟩
        · by_cases v2 : i ≤ z (k * 3 + 1)
          · have HN : Hid (posW n z l i = k) := lead_is HS.out (by omega) fun _ => by
              cases e : ltW z l i k with
              | false => rfl
              | true => rw [ltW_iff] at e; omega
            go_wp2
            try rw [Exit.noGoto_ret]
            go_ret
            exact ⟨ret_int (by rw [HN.out]), by go_grown⟩
          · have HN : Hid (allTo (ltW z l i) (k + 1) = true) := by
              show allTo (ltW z l i) (k + 1) = true
              rw [allTo, HS.out, ltW_iff.2 (by omega)]
              rfl
            go_wp2
            go_roundw
            case rel => exact ⟨k + 1, by omega, by go_num, HN, by go_grown⟩
            case measure => simp [intOf]; omega
    · obtain rfl : k = n := by omega
      have HN : Hid (posW k z l i = k) := lead_is HS.out (Nat.le_refl _) fun h => absurd h (Nat.lt_irrefl _)
      clear h
      go_wp2
      try rw [Exit.noGoto_ret]
      go_ret
      exact ⟨ret_int (by rw [HN.out]), hb⟩
/-- Where a slice begins that leaves out the first m. -/
def wFrom (a : Option Addr) (c m : Nat) : Option Addr := if c = m then a else a.map (·.add (m * 3))
set_option maxRecDepth 100000 in
theorem run_wFrom (a : Option Addr) (n c m : Nat) (hm : m ≤ n) (W : World) : Sem.run Tryz.prog (Instr.slice 42 (.slice a n c) (some (.int .i64 (m : Int))) none none) W = .ok (.slice (wFrom a c m) (n - m) (c - m)) W := by
  rw [run_slice_l W 42 a n c (by kernel_rfl) .i64 (m : Int) (by omega) (by omega)]
  rw [Int.toNat_natCast]
  rfl
set_option maxRecDepth 100000 in
theorem run_wPart (a : Option Addr) (n c p m : Nat) (hp : p ≤ m) (hm : m ≤ c) (W : World) : Sem.run Tryz.prog (Instr.slice 42 (.slice a n c) (some (.int .i64 (p : Int))) (some (.int .i64 (m : Int))) none) W = .ok (.slice (wFrom a c p) (m - p) (c - p)) W := by
  rw [run_slice_lh W 42 a n c (by kernel_rfl) .i64 .i64 (p : Int) (m : Int) (by omega) (by omega) (by omega)]
  rw [Int.toNat_natCast, Int.toNat_natCast]
  rfl
set_option maxRecDepth 100000 in
theorem run_wUpto (a : Option Addr) (n c m : Nat) (hm : m ≤ c) (W : World) : Sem.run Tryz.prog (Instr.slice 42 (.slice a n c) none (some (.int .i64 (m : Int))) none) W = .ok (.slice a m c) W := by
  rw [run_slice_h W 42 a n c (by kernel_rfl) .i64 (m : Int) (by omega) (by omega), Int.toNat_natCast]
  have e : Sem.run Tryz.prog (Go.sizeOf (Tryz.prog.elem 42)) W = .ok 3 W := by rfl
  rw [e]
  have e0 : ∀ x : Addr, x.add 0 = x := fun x => by
    obtain ⟨b, o, p⟩ := x
    simp [Addr.add]
  cases a <;> simp [Result.andThen, sliced, e0]
theorem row_wFrom {w : World} {a : Option Addr} {n c m : Nat} {z : Nat → Int} (h : Row w a (n * 3) fun i => .int .i64 (z i)) (hm : m ≤ n) (hc : n ≤ c) : Row w (wFrom a c m) ((n - m) * 3) fun i => .int .i64 (z (m * 3 + i)) := by
  intro i hi
  obtain ⟨b, off, rfl, hb, hcell⟩ := h (m * 3 + i) (by omega)
  refine ⟨b, off + m * 3, ?_, hb, ?_⟩
  · unfold wFrom
    rw [if_neg (by omega), Option.map_some, Go.WideShapes.add_plain]
  · rw [Nat.add_assoc]; exact hcell
theorem wFrom_none {a : Option Addr} {c m : Nat} (h : wFrom a c m = none) : a = none := by
  unfold wFrom at h
  split at h
  · exact h
  · simpa using h
theorem ahead_pos {z : Nat → Int} {k : Nat} (h : aheadW z k = true) : posW k z (z (k * 3)) (z (k * 3 + 1)) = k := lead_is h (Nat.le_refl _) fun h => absurd h (Nat.lt_irrefl _)
theorem ahead_not {z : Nat → Int} {k : Nat} (h : aheadW z k = false) : posW k z (z (k * 3)) (z (k * 3 + 1)) < k := by
  have h1 := posW_le k z (z (k * 3)) (z (k * 3 + 1))
  have h2 := lead_all (ltW z (z (k * 3)) (z (k * 3 + 1))) k
  by_cases e : posW k z (z (k * 3)) (z (k * 3 + 1)) = k
  · rw [show lead (ltW z (z (k * 3)) (z (k * 3 + 1))) k = k from e] at h2
    rw [show aheadW z k = allTo (ltW z (z (k * 3)) (z (k * 3 + 1))) k from rfl, h2] at h
    cases h
  · omega
set_option maxRecDepth 10000 in
set_option maxHeartbeats 2000000 in
theorem may_wc : MayWC := by
  intro a n c z w hn hc h
  by_cases h16 : n ≤ 16
  · have i16 : ¬ (16 : Int) < (n : Int) := by omega
    have CA := askAllW_any 44 #[] #[] (aloneW z) a n c z w hn h (fun _ _ => rfl) (fun k hk W hb => wAlone_any _ _ _ W)
    cases hl : allTo (aloneW z) n
    · rw [hl] at CA
      have HC := hide CA
      have HN := hide (writesMay_alones hl)
      clear CA h hl
      go_enter Tryz.func43, Tryz.ntmps43
      go_wp2_with fail
      refine HC.out.mono ?_
      rintro e w1 ⟨rfl, b1⟩
      clear HC
      go_wp2
      go_ret
      exact ⟨ret_bool HN.out.symm, b1⟩
    · rw [hl] at CA
      have HC := hide CA
      have HL := hide hl
      clear CA hl
      go_enter Tryz.func43, Tryz.ntmps43
      go_wp2_with fail
      refine HC.out.mono ?_
      rintro e w1 ⟨rfl, b1⟩
      clear HC
      go_wp2
      go_loopw [15] (fun i wr => ∃ k : Nat, k ≤ n ∧ i = .int .i64 k ∧ Hid (allTo (aheadW z) k = true) ∧ Below w.heap.size w wr) (fun i _ => n - (intOf i).toNat)
      case atStart => exact ⟨0, Nat.zero_le _, rfl, rfl, b1⟩
      case round =>
        clear b1
        obtain ⟨k, hk, rfl, HS, hb⟩ := hrel
        by_cases hlt : k < n
        · have i1 : (k : Int) < (n : Int) := by omega
          obtain ⟨b, off, hsa, hbl, d0, d1, d2⟩ := (h.below hb (Nat.le_refl _)).at3 k hlt
          subst hsa
          have s0 := hb.size
          go_upto_region 6 with (fail)
          have b2 : Below w.heap.size w (wr.alloc (.cells #[.int .i64 (z (k * 3)), .int .i64 (z (k * 3 + 1)), .int .i64 (z (k * 3 + 2))] 49)) := by go_grown
          have B := blk_new wr [.int .i64 (z (k * 3)), .int .i64 (z (k * 3 + 1)), .int .i64 (z (k * 3 + 2))] 49
          clear d0 d1 d2 hbl hb
          change Blk (wr.alloc (.cells #[.int .i64 (z (k * 3)), .int .i64 (z (k * 3 + 1)), .int .i64 (z (k * 3 + 2))] 49)) wr.heap.size _ at B
          generalize wr.alloc (.cells #[.int .i64 (z (k * 3)), .int .i64 (z (k * 3 + 1)), .int .i64 (z (k * 3 + 2))] 49) = W at *
          obtain ⟨p0, p1, p2⟩ := B.kin3
          have hs := fun W => run_wUpto (some ⟨b, off, none⟩) n c k (by omega) W
          have K : ∀ u : Kin W, _ := fun u => Calls.kin_of (u := u) (wPlace_any (some ⟨b, off, none⟩) k c z (z (k * 3)) (z (k * 3 + 1)) u.at_ (by omega) (((h.below b2 (Nat.le_refl _)).below u.below (Nat.le_refl _)).less (by omega)))
          have kne : Nonempty (Kin W) := kin_any W
          cases hp : aheadW z k
          · have HN : Hid (writesMay n z = false) := writesMay_not_ahead k hlt hp
            have hp' := ahead_not hp
            have HK := hide K
            clear K hp
            generalize posW k z (z (k * 3)) (z (k * 3 + 1)) = P at *
            have i2 : (P : Int) < (k : Int) := by omega
            refine wp_region_kin (by kernel_rfl) (by kernel_rfl) ?_
            repeat (go_big_quiet_step ((go_at_call 78; exact HK.out _)))
            refine wpQuiet_nil ?_
            rintro _ ⟨u, rfl⟩
            have b3 : Below w.heap.size w u.at_ := b2.trans (u.below.mono b2.size)
            clear p0 p1 p2 hs HK kne B b2 h
            generalize u.at_ = V at *
            clear u
            go_wp2
            go_ret
            exact ⟨ret_bool HN.out.symm, b3⟩
          · rw [ahead_pos hp] at K
            have HK := hide K
            have HN : Hid (allTo (aheadW z) (k + 1) = true) := by
              show allTo (aheadW z) (k + 1) = true
              rw [allTo, HS.out]
              exact hp
            clear K hp
            refine wp_region_kin (by kernel_rfl) (by kernel_rfl) ?_
            repeat (go_big_quiet_step ((go_at_call 78; exact HK.out _)))
            refine wpQuiet_nil ?_
            rintro _ ⟨u, rfl⟩
            have b3 : Below w.heap.size w u.at_ := b2.trans (u.below.mono b2.size)
            clear p0 p1 p2 hs HK kne B b2 h
            generalize u.at_ = V at *
            clear u
            go_wp2
            go_roundw
            case rel => exact ⟨k + 1, by omega, by go_num, HN, b3⟩
            case measure => simp [intOf]; omega
        · obtain rfl : k = n := by omega
          clear h
          go_wp2
          go_ret
          exact ⟨ret_bool (writesMay_ahead HL.out HS.out h16).symm, hb⟩
  · have i16 : (16 : Int) < (n : Int) := by omega
    clear h
    go_enter Tryz.func43, Tryz.ntmps43
    go_wp2
    go_ret
    exact ⟨ret_bool (writesMay_long (by omega)).symm, Below.refl _ _⟩
end Go.Proofs.YtlnenmfippedpaaGreat
namespace Go.Proofs.YtlnenmfippedpaaGreat
open Go.RowKit
set_option linter.unusedSimpArgs false
set_option linter.unusedVariables false
set_option maxRecDepth 10000 in
set_option maxHeartbeats 2000000 in
theorem wSplit_any (a : Option Addr) (n c : Nat) (z : Nat → Int) (l i : Int) (w : World) (H : Wr n z) (hc : n ≤ c) (h : Row w a (n * 3) fun i => .int .i64 (z i)) :
    Calls Tryz.prog 45 #[.slice a n c, .int .i64 l, .int .i64 i] w fun e w' => e = .returned (.tuple #[.slice a (posW n z l i) c, .slice (wFrom a c (posW n z l i)) (toW n z l i - posW n z l i) (c - posW n z l i), .slice (wFrom a c (toW n z l i)) (n - toW n z l i) (c - toW n z l i)]) ∧ Below w.heap.size w w' := by
  have hn := H.few
  have CP := hide (wPlace_any a n c z l i w (by omega) h)
  have hp := posW_le n z l i
  have ht := toW_le (l := l) (i := i) H
  have hpt : posW n z l i ≤ toW n z l i := by unfold toW; cases hasW n z l i <;> simp only [cond_true, cond_false] <;> omega
  have hs1 := fun W => run_wUpto a n c (posW n z l i) (by omega) W
  have hs2 := fun W => run_wPart a n c (posW n z l i) (toW n z l i) hpt (by omega) W
  have hs3 := fun W => run_wFrom a n c (toW n z l i) ht W
  cases hh : hasW n z l i
  · have et : toW n z l i = posW n z l i := by unfold toW; rw [hh]; rfl
    have HN := hide fun k hk => hasW_no hh k hk
    rw [et] at hs2 hs3 ⊢
    clear et ht hpt hh
    generalize posW n z l i = p at *
    go_enter Tryz.func45, Tryz.ntmps45
    go_wp2_with fail
    refine CP.out.mono ?_
    rintro e w1 ⟨rfl, b1⟩
    clear CP
    by_cases hlt : p < n
    · have i1 : (p : Int) < (n : Int) := by omega
      obtain ⟨b, off, hsa, hbl, d0, d1, d2⟩ := (h.below b1 (Nat.le_refl _)).at3 p hlt
      subst hsa
      clear h
      by_cases v0 : z (p * 3) = l
      · have v1 : ¬ z (p * 3 + 1) = i := fun e => HN.out p hlt ⟨v0, e⟩
        have dv : decide (z (p * 3 + 1) = i) = false := decide_eq_false v1
        have dv' : (z (p * 3 + 1) == i) = false := beq_eq_false_iff_ne.2 v1
        rw [v0] at d0
        clear v0
        go_wp2
        go_quiet (fail)
        go_wp2
        exact bodyPost_ret (v := .tuple #[_, _, _]) (by simp [results, Tryz.results45, go_sem]) rfl ⟨rfl, Below.drawn b1 _⟩
      · have dv : decide (z (p * 3) = l) = false := decide_eq_false v0
        have dv' : (z (p * 3) == l) = false := beq_eq_false_iff_ne.2 v0
        go_wp2
        go_quiet (fail)
        go_wp2
        exact bodyPost_ret (v := .tuple #[_, _, _]) (by simp [results, Tryz.results45, go_sem]) rfl ⟨rfl, Below.drawn b1 _⟩
    · have i1 : ¬ (p : Int) < (n : Int) := by omega
      clear h
      go_wp2
      go_quiet (fail)
      go_wp2
      exact bodyPost_ret (v := .tuple #[_, _, _]) (by simp [results, Tryz.results45, go_sem]) rfl ⟨rfl, Below.drawn b1 _⟩
  · have et : toW n z l i = posW n z l i + 1 := by unfold toW; rw [hh]; rfl
    obtain ⟨hlt, v0, v1⟩ := H.has hh
    rw [et] at hs2 hs3 ⊢
    clear et ht hpt hh
    generalize posW n z l i = p at *
    have i1 : (p : Int) < (n : Int) := by omega
    rw [show ((p + 1 : Nat) : Int) = (p : Int) + 1 by omega] at hs2 hs3
    go_enter Tryz.func45, Tryz.ntmps45
    go_wp2_with fail
    refine CP.out.mono ?_
    rintro e w1 ⟨rfl, b1⟩
    clear CP
    obtain ⟨b, off, hsa, hbl, d0, d1, d2⟩ := (h.below b1 (Nat.le_refl _)).at3 p hlt
    subst hsa
    rw [v0] at d0
    rw [v1] at d1
    clear h v0 v1
    go_wp2
    go_quiet (fail)
    go_wp2
    exact bodyPost_ret (v := .tuple #[_, _, _]) (by simp [results, Tryz.results45, go_sem]) rfl ⟨rfl, Below.drawn b1 _⟩
set_option maxRecDepth 10000 in
set_option maxHeartbeats 4000000 in
theorem with_wc : WithWC := by
  intro a n c z l i v w hn hc ha h
  obtain ⟨i0, hi, hz0, hz1, hz2⟩ := info_parts Tryz.infoWrite
  have CR := hide fun w h => may_wc a n c z w hn hc h
  have C1 := hide fun w => wAlone_any l i v w
  have b0 : Below w.heap.size w (w.alloc (.cells #[.int .i64 l, .int .i64 i, .int .i64 v] 49)) := by go_grown
  have B := blk_new w [.int .i64 l, .int .i64 i, .int .i64 v] 49
  have HR := hide (h.below b0 (Nat.le_refl _))
  have HH := hide h
  clear h
  unfold wordA
  go_enter Tryz.func24, Tryz.ntmps24
  go_wp2_with fail
  refine (CR.out _ HR.out).mono ?_
  rintro e w1 ⟨rfl, hb⟩
  have b1 := Below.on b0 hb
  have R1 := hide (HR.out.below hb (Nat.le_refl _))
  have B1 := B.on hb
  clear hb b0 HR B CR
  cases hr : writesMay n z
  · have HN := hide (withWOk_writes (l := l) (i := i) (v := v) hr)
    clear B1
    go_wp2
    go_ret2
    exact withW_no HN.out b1
  · obtain ⟨⟨c0, c1, c2⟩, f0, f1, f2⟩ := B1.three
    have bl := B1.lt
    go_wp2_with fail
    refine (C1.out _).mono ?_
    rintro e w2 ⟨rfl, hb⟩
    have b2 := Below.on b1 hb
    have R2 := hide (R1.out.below hb (Nat.le_refl _))
    have B2 := B1.on hb
    have s2 := b2.size
    have s1 := b1.size
    clear hb b1 R1 B1 C1 c0 c1 c2 f0 f1 f2
    cases hm : writeMay l i v
    · have HN := hide (withWOk_write (n := n) (z := z) hm)
      clear B2
      go_wp2
      go_ret2
      exact withW_no HN.out b2
    · have HOK := hide (withWOk_mk hr hm)
      have H := writesMay_get hr
      have n16 := H.few
      have m16 := (H.ins hm).few
      have hp := posW_le n z l i
      have ht := toW_le (l := l) (i := i) H
      have CS := hide fun w h => wSplit_any a n c z l i w H hc h
      have HZ : Hid (rowL (intF z) (posW n z l i * 3) = rowL (intF (withWZ n z l i v)) (posW n z l i * 3)) := rowL_congr fun j hj => by unfold intF withWZ; rw [insW_ahead hj]
      have HL : Hid (withWZ n z l i v (posW n z l i * 3) = l ∧ withWZ n z l i v (posW n z l i * 3 + 1) = i ∧ withWZ n z l i v (posW n z l i * 3 + 2) = v) := insW_at _ _ _ _ _ _
      have HX : Hid (rowL (intF (withWZ n z l i v)) ((posW n z l i + 1) * 3) ++ rowL (fun j => .int .i64 (z (toW n z l i * 3 + j))) ((n - toW n z l i) * 3) = rowL (intF (withWZ n z l i v)) ((posW n z l i + 1 + (n - toW n z l i)) * 3)) := by
        show _ = _
        rw [show (posW n z l i + 1 + (n - toW n z l i)) * 3 = (posW n z l i + 1) * 3 + (n - toW n z l i) * 3 by omega, rowL_add]
        congr 1
        exact rowL_congr fun j _ => by unfold intF withWZ; rw [insW_behind]
      have HF : Hid (posW n z l i + 1 + (n - toW n z l i) = posW n z l i + 1 + (n - toW n z l i)) := rfl
      have HA := hide ha
      have HA1 : Hid (a = none → posW n z l i = 0 ∧ c = 0) := fun e => ⟨by have := (ha e).1; omega, (ha e).2⟩
      have HA2 : Hid (wFrom a c (toW n z l i) = none → n - toW n z l i = 0 ∧ c - toW n z l i = 0) := fun e => by have := ha (wFrom_none e); omega
      have HR2 : Hid (∀ w : World, (Row w a (n * 3) fun i => .int .i64 (z i)) → (Row w a (posW n z l i * 3) fun i => .int .i64 (z i)) ∧ Row w (wFrom a c (toW n z l i)) ((n - toW n z l i) * 3) fun j => .int .i64 (z (toW n z l i * 3 + j))) := fun w h => ⟨h.less (by omega), row_wFrom h ht hc⟩
      clear H hr hm ha
      have hown : w2.ownsRow (w.heap.size + 1) 49 3 (.slice none 0 0) 0 [] := World.ownsRow_nil _ _ _ _
      obtain ⟨⟨c0, c1, c2⟩, f0, f1, f2⟩ := B2.three
      have bl := B2.lt
      generalize wFrom a c (posW n z l i) = a1 at *
      generalize wFrom a c (toW n z l i) = a2 at *
      generalize hpos : posW n z l i = p at *
      generalize hto : toW n z l i = t at *
      generalize hZ : withWZ n z l i v = Z at *
      have HPos := hide hpos
      have HTo := hide hto
      have HZZ := hide hZ
      clear hpos hto hZ hown
      go_wp2_with fail
      refine (CS.out _ R2.out).mono ?_
      rintro e w3 ⟨rfl, hb⟩
      have b3 := Below.on b2 hb
      have R3 := hide (R2.out.below hb (Nat.le_refl _))
      have B3 := B2.on hb
      have s3 := b3.size
      have HRa := hide (HR2.out _ R3.out).1
      have hown : w3.ownsRow (w.heap.size + 1) 49 3 (.slice none 0 0) 0 [] := World.ownsRow_nil _ _ _ _
      have HO := hide hown
      have s3' : w.heap.size + 1 ≤ w3.heap.size := B3.lt
      clear hown hb b2 R2 B2 CS c0 c1 c2 f0 f1 f2 bl
      go_wp2_with (at_builtin; refine wpList_append_row rfl (.const (.slice none 0 0)) (.tmp 28) 42 rfl (w.heap.size + 1) 49 i0 (.agg #[.int .i64 0, .int .i64 0, .int .i64 0]) 3 24 Tryz.underlying42 hi hz0 hz1 hz2 rfl (by decide) _ _ _ rfl (unhide HO) a p c (fun i => .int .i64 (z i)) rfl (unhide HA1) (unhide HRa) (fun _ => rfl) ?_ ?_ ?_ ?_)
      · unfold maxLen; omega
      · omega
      · omega
      · intro v' w4 hown' hg
        have bw : Below w3.heap.size w3 w4 := (Below.refl w3.heap.size w3).grown hg (Nat.le_refl _) (by intro j hj; simp [Value.ownBlock] at hj)
        have hown2 : w4.ownsRow (w.heap.size + 1) 49 3 v' p (rowL (intF Z) (p * 3)) := by
          rw [← HZ.out]
          first | exact hown' | (rw [Nat.zero_add, List.nil_append] at hown'; exact hown')
        obtain ⟨xa, xc, rfl, _⟩ := slice_of_owns hown2
        have HO2 := hide hown2
        have b4 := Below.on b3 bw
        have B4 := B3.on bw
        have s4 : w.heap.size + 1 ≤ w4.heap.size := B4.lt
        clear hown' hg hown2 HO HRa R3 bw B3 b3
        obtain ⟨⟨c0, c1, c2⟩, f0, f1, f2⟩ := B4.three
        have bl := B4.lt
        have HO5 := hide (HO2.out.alloc (.cells #[.int .i64 l, .int .i64 i, .int .i64 v] 49))
        have HE := hide (owns_block HO2.out)
        have HNW := hide (World.news_of_block (cs := #[.int .i64 l, .int .i64 i, .int .i64 v]) (t := 49) (fr := (0, 0)) (heap_alloc_new w4 (.cells #[.int .i64 l, .int .i64 i, .int .i64 v] 49)))
        clear HO2
        go_wp2_with (at_builtin; refine wpList_append_own _ rfl (.tmp 30) (.tmp 32) 42 rfl (w.heap.size + 1) 49 i0 (.agg #[.int .i64 0, .int .i64 0, .int .i64 0]) 3 24 Tryz.underlying42 hi hz0 hz1 hz2 rfl (by decide) _ _ _ rfl (unhide HO5) ⟨w4.heap.size, 0, none⟩ 1 1 [.int .i64 l, .int .i64 i, .int .i64 v] rfl rfl (unhide HNW) ?_ ?_ ?_ ?_ ?_)
        · simp [Value.oneCell']
        · unfold maxLen; omega
        · omega
        · first | omega | (simp only [World.size_alloc]; omega)
        · intro v' w5 hown1 hgrow _
          have b5 : Below w.heap.size w w5 := (b4.alloc (by omega) _).grown hgrow (by simp only [World.size_alloc]; omega) (fun k hk => by have := HE.out k hk; omega)
          have s5 := hgrow.size
          rw [World.size_alloc] at s5
          rw [rowL_three _ _ HL.out] at hown1
          obtain ⟨ya, yc, rfl, _⟩ := slice_of_owns hown1
          have HO6 := hide hown1
          clear hown1 hgrow HO5 HNW HE b4 B4 c0 c1 c2 f0 f1 f2 bl
          have HRb := hide (HR2.out _ (HH.out.below b5 (Nat.le_refl _))).2
          have HE := hide (owns_block HO6.out)
          go_wp2_with (at_builtin; refine wpList_append_row rfl (.tmp 34) (.tmp 35) 42 rfl (w.heap.size + 1) 49 i0 (.agg #[.int .i64 0, .int .i64 0, .int .i64 0]) 3 24 Tryz.underlying42 hi hz0 hz1 hz2 rfl (by decide) _ _ _ rfl (unhide HO6) a2 (n - t) (c - t) (fun j => .int .i64 (z (t * 3 + j))) rfl (unhide HA2) (unhide HRb) (fun _ => rfl) ?_ ?_ ?_ ?_)
          · unfold maxLen; omega
          · omega
          · omega
          · intro v' w6 hown' hg
            have b6 : Below w.heap.size w w6 := b5.grown hg (by omega) (fun k hk => by have := HE.out k hk; omega)
            rw [HX.out] at hown'
            obtain ⟨m, hm⟩ : ∃ m, m = p + 1 + (n - t) := ⟨_, rfl⟩
            rw [← hm] at hown' m16
            have HM := hide hm
            obtain ⟨za, zc, rfl, hzc, _, _, ho⟩ := slice_of_owns hown'
            have HO7 := hide ho
            clear hown' hg HO6 HRb HE b5 hm ho
            have i6 : ¬ (16 : Int) < (m : Int) := by omega
            go_wp2
            go_ret2
            subst HZZ
            exact withW_yes HOK.out (by rw [HPos.out, HTo.out]; exact HM.out) b6 hzc (fun hp => by obtain ⟨b, e1, e2, e3, e4⟩ := HO7.out hp; exact ⟨b, e1, by omega, e3, e4⟩)
end Go.Proofs.YtlnenmfippedpaaGreat
