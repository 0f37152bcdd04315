/-
  Several small texts in one: GoodRef, StartStat, StartRef1, ProgProg, StartProg, WithRef, WritesStat, WritesProg.
-/
import Derived.Test.YtaaenolbfhhnfaaGreatZlac
import Derived.Test.YtaaenolbfhhnfaaGreatZhReadsRef
import Derived.Deep.Cut
import Derived.Test.YtaaenolbfhhnfaaGreatZhSessMem
import Derived.Test.YtaaenolbfhhnfaaGreatZlab
import Derived.Laws.ResultCell
import Derived.Deep.MidRow
import Derived.Deep.RegionHeld3
import Derived.Test.YtaaenolbfhhnfaaGreatZlad
import Derived.Test.YtaaenolbfhhnfaaGreatZhInstProg
import Derived.Test.YtaaenolbfhhnfaaGreatZlae
import Derived.Test.YtaaenolbfhhnfaaGreatZhWithWRef2
import Derived.WalkMore
namespace Go.Proofs.YtaaenolbfhhnfaaGreat
open Go.RowKit
set_option linter.unusedSimpArgs false
set_option linter.unusedVariables false
set_option maxRecDepth 10000 in
set_option maxHeartbeats 2000000 in
theorem rreadsThere_any (s : Nat → Sl) (a : Option Addr) (n c : Nat) (z : Nat → Int) (w : World) (hn : n ≤ 1152921504606846976) (h : Row w a (n * 3) fun i => .int .i64 (z i)) :
    Calls Tryz.prog 98 #[arenaA s, .slice a n c] w fun e w' => e = .returned (.bool (allTo (thereP s z) n)) ∧ Below w.heap.size w w' := by
  have CA := hide fun l i w => rthere_any s l i w
  unfold arenaA at *
  go_enter Tryz.func98, Tryz.ntmps98
  go_wp2
  go_loopw [5] (fun i wr => ∃ k : Nat, k ≤ n ∧ i = .int .i64 k ∧ Hid (allTo (thereP s z) k = true) ∧ Blk wr w.heap.size (arenaL s) ∧ (Row wr a (n * 3) fun i => .int .i64 (z i)) ∧ Below w.heap.size w wr) (fun i _ => n - (intOf i).toNat)
  case atStart =>
    have b0 : Below w.heap.size w (w.alloc (.cells #[.slice (s 0).a (s 0).n (s 0).c, .slice (s 1).a (s 1).n (s 1).c, .slice (s 2).a (s 2).n (s 2).c, .slice (s 3).a (s 3).n (s 3).c] 29)) := by go_grown
    exact ⟨0, Nat.zero_le _, rfl, rfl, blk_new w (arenaL s) _, h.below b0 (Nat.le_refl _), b0⟩
  case round =>
    obtain ⟨k, hk, rfl, HS, B, R, hb⟩ := hrel
    clear h
    by_cases hlt : k < n
    · have i1 : (k : Int) < (n : Int) := by omega
      obtain ⟨b, off, rfl, hbl, d0, d1, _⟩ := R.kin3 k hlt
      obtain ⟨p0, p1, p2, p3⟩ := B.kin4
      have kne : Nonempty (Kin wr) := kin_any wr
      have K : ∀ u : Kin wr, _ := fun u => Calls.kin_of (u := u) (CA.out (z (k * 3)) (z (k * 3 + 1)) _)
      have HR := hide R
      have HB := hide hb
      have HBl := hide B
      cases ht : thereP s z k
      · unfold thereP at ht
        rw [ht] at K
        have HK := hide K
        have HN : Hid (allTo (thereP s z) n = false) := allTo_no k hlt ht
        clear K ht R hb B CA
        go_upto_region 4 with (fail)
        refine wp_region_kin (by kernel_rfl) (by kernel_rfl) ?_
        repeat (go_big_quiet_step ((go_at_call 162; exact HK.out _)))
        refine wpQuiet_nil ?_
        rintro _ ⟨u, rfl⟩
        have b2 : Below w.heap.size w u.at_ := HB.out.trans (u.below.mono HB.out.size)
        clear d0 d1 p0 p1 p2 p3 HK kne HR HB HBl
        generalize u.at_ = V at *
        clear u
        go_wp2
        go_ret
        exact ⟨ret_bool HN.out.symm, b2⟩
      · unfold thereP at ht
        rw [ht] at K
        have HK := hide K
        have HN : Hid (allTo (thereP s z) (k + 1) = true) := by
          show allTo (thereP s z) (k + 1) = true
          rw [allTo, HS.out]
          exact ht
        clear K ht R hb B CA
        go_upto_region 4 with (fail)
        refine wp_region_kin (by kernel_rfl) (by kernel_rfl) ?_
        repeat (go_big_quiet_step ((go_at_call 162; exact HK.out _)))
        refine wpQuiet_nil ?_
        rintro _ ⟨u, rfl⟩
        have b2 : Below w.heap.size w u.at_ := HB.out.trans (u.below.mono HB.out.size)
        have R2 := hide (HR.out.below u.below (Nat.le_refl _))
        have B2 := hide (HBl.out.kin u)
        clear d0 d1 p0 p1 p2 p3 HK kne HR HB HBl
        generalize u.at_ = V at *
        clear u
        go_wp2
        go_roundw
        case rel =>
          first
            | exact ⟨k + 1, by omega, by go_num, HN, B2.out, R2.out, b2⟩
            | (repeat apply Exists.intro
               exact ⟨⟨k + 1, by omega, by go_num, HN, B2.out, R2.out, b2⟩, rfl⟩)
        case measure => simp [intOf]; omega
    · obtain rfl : k = n := by omega
      go_wp2
      go_ret
      exact ⟨ret_bool HS.out.symm, hb⟩
/-- The word of a read that is there. -/
theorem there_word {s : Nat → Sl} {y : Nat → Nat → Int} {z : Nat → Int} {W : World} {k : Nat} (ht : thereP s z k = true) (hA : Arn W s y) :
    ∃ (g j b off : Nat), z (k * 3) = (g : Int) ∧ z (k * 3 + 1) = (j : Int) ∧ g < 4 ∧ j < (s g).n ∧ (s g).a = some ⟨b, off, none⟩ ∧ b < W.heap.size ∧ W.cell? ⟨b, off + j * 3, none⟩ = some (.int .i64 (y g (j * 3))) ∧ W.cell? ⟨b, off + j * 3 + 1, none⟩ = some (.int .i64 (y g (j * 3 + 1))) ∧ W.cell? ⟨b, off + j * 3 + 2, none⟩ = some (.int .i64 (y g (j * 3 + 2))) ∧
      sameP y z k = (y g (j * 3 + 1) == z (k * 3 + 2)) ∧ ∀ d, freeP y z d k = ((y g (j * 3 + 2) == 0) || (y g (j * 3 + 2) == d + 1)) := by
  obtain ⟨g, j, hg, hj, hg4, hjn⟩ := thereV_get ht
  obtain ⟨b, off, e, hb, c0, c1, c2⟩ := (hA g hg4).at3 j hjn
  refine ⟨g, j, b, off, hg, hj, hg4, hjn, e, hb, c0, c1, c2, ?_, fun d => ?_⟩
  · unfold sameP
    rw [hg, hj, Int.toNat_natCast, Int.toNat_natCast]
  · unfold freeP
    rw [hg, hj, Int.toNat_natCast, Int.toNat_natCast]
set_option maxRecDepth 10000 in
set_option maxHeartbeats 4000000 in
theorem rchanged_any (s : Nat → Sl) (y : Nat → Nat → Int) (a : Option Addr) (n c : Nat) (z : Nat → Int) (w : World) (hf : Short s) (hA : Arn w s y) (hn : n ≤ 1152921504606846976) (h : Row w a (n * 3) fun i => .int .i64 (z i)) :
    Calls Tryz.prog 150 #[arenaA s, .slice a n c] w fun e w' => e = .returned (.tuple #[.bool (chgV s y n z), .int .i64 (chgE s y n z)]) ∧ Below w.heap.size w w' := by
  have CA := hide fun w h => rarenaMay_any s y w hf h
  have CR := hide fun w h => rreadsMay_any a n c z w hn h
  have CT := hide fun w h => rreadsThere_any s a n c z w hn h
  have HA := hide hA
  have b0 : Below w.heap.size w (w.alloc (.cells (arenaL s).toArray 29)) := by go_grown
  have B := blk_new w (arenaL s) 29
  have HR := hide (h.below b0 (Nat.le_refl _))
  have HA0 := hide (hA.below b0 (Nat.le_refl _))
  clear h hA hf
  unfold arenaA at *
  cases ha : amay s y
  · obtain ⟨e1, e2⟩ := chg_no (fitR_arena (n := n) (z := z) ha)
    rw [e1, e2]
    clear e1 e2
    go_enter Tryz.func150, Tryz.ntmps150
    go_wp2_with fail
    refine (CA.out _ HA0.out).mono ?_
    rintro e w1 ⟨rfl, hb⟩
    rw [ha]
    have b1 := Below.on b0 hb
    clear hb
    go_wp2
    go_ret2
    exact ⟨rfl, b1⟩
  · go_enter Tryz.func150, Tryz.ntmps150
    go_wp2_with fail
    refine (CA.out _ HA0.out).mono ?_
    rintro e w1 ⟨rfl, hb⟩
    rw [ha]
    have b1 := Below.on b0 hb
    have R1 := hide (HR.out.below hb (Nat.le_refl _))
    have B1 := hide (B.on hb)
    clear hb b0 HR HA0 B CA
    go_wp2_with fail
    refine (CR.out _ R1.out).mono ?_
    rintro e w2 ⟨rfl, hb⟩
    have b2 := Below.on b1 hb
    have R2 := hide (R1.out.below hb (Nat.le_refl _))
    have B2 := B1.out.on hb
    clear hb b1 R1 B1 CR
    cases hr : readsMay n z
    · obtain ⟨e1, e2⟩ := chg_no (fitR_reads (s := s) (y := y) hr)
      have HE := hide (And.intro e1 e2)
      clear B2 e1 e2
      go_wp2
      go_ret2
      exact ⟨ret_bool_int HE.out.1.symm HE.out.2.symm, b2⟩
    · obtain ⟨⟨c0, c1, c2, c3⟩, f0, f1, f2, f3⟩ := B2.four
      go_wp2_with fail
      refine (CT.out _ R2.out).mono ?_
      rintro e w3 ⟨rfl, hb⟩
      have b3 := Below.on b2 hb
      have R3 := hide (R2.out.below hb (Nat.le_refl _))
      have B3 := B2.on hb
      clear hb b2 R2 B2 CT c0 c1 c2 c3 f0 f1 f2 f3
      cases ht : allTo (thereP s z) n
      · obtain ⟨e1, e2⟩ := chg_no (fitR_there (s := s) (y := y) ht)
        have HE := hide (And.intro e1 e2)
        clear B3 e1 e2
        go_wp2
        go_ret2
        exact ⟨ret_bool_int HE.out.1.symm HE.out.2.symm, b3⟩
      · obtain ⟨e1, e2⟩ := chg_yes (fitR_mk ha hr ht)
        have HE := hide (And.intro e1 e2)
        have HT := hide ht
        clear e1 e2 ht hr ha
        go_wp2
        go_loopw [6] (fun i wr => ∃ k : Nat, k ≤ n ∧ i = .int .i64 k ∧ Hid (allTo (sameP y z) k = true) ∧ Blk wr w.heap.size (arenaL s) ∧ (Row wr a (n * 3) fun i => .int .i64 (z i)) ∧ Below w.heap.size w wr) (fun i _ => n - (intOf i).toNat)
        case atStart => exact ⟨0, Nat.zero_le _, rfl, rfl, B3, R3.out, b3⟩
        case round =>
          clear B3 R3 b3
          obtain ⟨k, hk, rfl, HS, B, R, hb⟩ := hrel
          by_cases hlt : k < n
          · have i1 : (k : Int) < (n : Int) := by omega
            obtain ⟨b, off, rfl, hbl, d0, d1, d2⟩ := R.at3 k hlt
            obtain ⟨g, j, b', off', hg, hj, hg4, hjn, hsa, hb', q0, q1, q2, hsm, _⟩ := there_word (allTo_get HT.out k hlt) (HA.out.below hb (Nat.le_refl _))
            have c1 := B.cell g _ (arenaL_get s hg4)
            rw [hsa] at c1
            rw [hg] at d0
            rw [hj] at d1
            have i2 : (g : Int) < 4 := by omega
            have i3 : (j : Int) < ((s g).n : Int) := by omega
            have HR := hide R
            have HB := hide hb
            have HBl := hide B
            cases hv : (y g (j * 3 + 1) == z (k * 3 + 2))
            · have hv2 : (y g (j * 3 + 1) != z (k * 3 + 2)) = true := by rw [bne, hv]; rfl
              have hv3 : ¬ y g (j * 3 + 1) = z (k * 3 + 2) := by simpa using hv
              have HN : Hid (allTo (sameP y z) n = false) := allTo_no k hlt (by rw [hsm, hv])
              clear R hb B hsa hg hj hsm hv
              go_wp2
              go_quiet (fail)
              go_wp2
              go_ret2
              exact ⟨ret_bool_int (by rw [HE.out.1, HN.out]; rfl) HE.out.2.symm, Below.drawn HB.out _⟩
            · have hv2 : (y g (j * 3 + 1) != z (k * 3 + 2)) = false := by rw [bne, hv]; rfl
              have hv3 : y g (j * 3 + 1) = z (k * 3 + 2) := by simpa using hv
              have HN : Hid (allTo (sameP y z) (k + 1) = true) := by
                show allTo (sameP y z) (k + 1) = true
                rw [allTo, HS.out, hsm, hv]
                rfl
              clear R hb B hsa hg hj hsm hv
              go_wp2
              go_quiet (fail)
              go_wp2
              go_roundw
              case rel =>
                first
                  | exact ⟨k + 1, by omega, by go_num, HN, HBl.out.drawn _, HR.out.drewN _, Below.drawn HB.out _⟩
                  | (repeat apply Exists.intro
                     exact ⟨⟨k + 1, by omega, by go_num, HN, HBl.out.drawn _, HR.out.drewN _, Below.drawn HB.out _⟩, rfl⟩)
              case measure => simp [intOf]; omega
          · obtain rfl : k = n := by omega
            go_wp2
            go_ret2
            exact ⟨ret_bool_int (by rw [HE.out.1, HS.out]; rfl) HE.out.2.symm, hb⟩
end Go.Proofs.YtaaenolbfhhnfaaGreat
namespace Go.Proofs.YtaaenolbfhhnfaaGreat
open Go.RowKit
set_option linter.unusedSimpArgs false
theorem Tryz.sizeSess : (Tryz.prog.info? 59).map (·.size) = some 17 := by kernel_rfl
theorem Tryz.rowSess : (Tryz.prog.underlying 59).any (·.isRow) = true := by kernel_rfl
def MaySC : Prop := ∀ (id l cl : Int) (a : Option Addr) (n c : Nat) (z : Nat → Int) (w : World), n ≤ 1152921504606846976 → (Row w a (n * 4) fun k => .int .i64 (z k)) → Calls Tryz.prog 100 #[startA id l cl (.slice a n c)] w fun e w' => e = .returned (.bool (startMay id l cl n z)) ∧ Below w.heap.size w w'
end Go.Proofs.YtaaenolbfhhnfaaGreat
namespace Go.Proofs.YtaaenolbfhhnfaaGreat
open Go.RowKit
set_option linter.unusedSimpArgs false
set_option linter.unusedVariables false
def underV (a b : Int) : Bool := bits .or .i64 a b == b
theorem runder_any (a b : Int) (w : World) :
    Calls Tryz.prog 159 #[.int .i64 a, .int .i64 b] w fun e w' => e = .returned (.bool (underV a b)) ∧ w = w' := by
  unfold underV
  go_enter Tryz.func159, Tryz.ntmps159
  go_wp2
  go_ret
  exact ⟨rfl, rfl⟩
theorem below_under {a b : Int} : belowV a b = (upToV a 3 && (upToV b 3 && underV a b)) := by
  by_cases ha : Lab a
  · by_cases hb : Lab b
    · rw [belowV_yes ha hb]
      unfold underV
      rcases lab_cases ha with rfl | rfl | rfl | rfl <;> rcases lab_cases hb with rfl | rfl | rfl | rfl <;> rfl
    · rw [belowV_no2 (noLab_of hb), ← mayV_up b, mayV_no (noLab_of hb), Bool.false_and, Bool.and_false]
  · rw [belowV_no1 (noLab_of ha), ← mayV_up a, mayV_no (noLab_of ha), Bool.false_and]
set_option maxRecDepth 100000 in
set_option maxHeartbeats 1000000 in
theorem rstartMay_any (id l cl : Int) (a : Option Addr) (n c : Nat) (z : Nat → Int) (w : World) (hn : n ≤ 1152921504606846976) (h : Row w a (n * 4) fun k => .int .i64 (z k)) :
    Calls Tryz.prog 102 #[startA id l cl (.slice a n c)] w fun e w' => e = .returned (.bool (startMay id l cl n z)) ∧ Below w.heap.size w w' := by
  unfold startMay startA
  rw [below_under]
  have C1 := hide fun w => rid_any id w
  have C2 := hide fun w => rlabel_any l w
  have C3 := hide fun w => rlabel_any cl w
  have C4 := hide fun w => runder_any l cl w
  have C5 := hide fun (w : World) h => rprogMay_any a n c z w hn h
  have R1 := hide (h.below ((Below.refl _ w).alloc (Nat.le_refl _) (.cells #[.int .i64 id, .int .i64 l, .int .i64 cl, .slice a n c] 64)) (Nat.le_refl _))
  generalize progMay n z = m at *
  generalize upToV id 254 = u at *
  generalize upToV l 3 = v at *
  generalize upToV cl 3 = x at *
  generalize underV l cl = y at *
  clear h
  cases u
  · rw [Bool.false_and]
    go_enter Tryz.func102, Tryz.ntmps102
    go_wp2_with (go_at_call 97; refine (C1.out _).mono ?_; rintro e w' ⟨rfl, rfl⟩)
    go_ret
    exact ⟨rfl, by go_grown⟩
  · cases v
    · rw [Bool.false_and, Bool.false_and, Bool.and_false]
      go_enter Tryz.func102, Tryz.ntmps102
      go_wp2_with (first | (go_at_call 97; refine (C1.out _).mono ?_; rintro e w' ⟨rfl, rfl⟩) | (go_at_call 64; refine (C2.out _).mono ?_; rintro e w' ⟨rfl, rfl⟩))
      go_ret
      exact ⟨rfl, by go_grown⟩
    · cases x
      · rw [Bool.false_and, Bool.and_false, Bool.false_and, Bool.and_false]
        go_enter Tryz.func102, Tryz.ntmps102
        go_wp2_with (first | (go_at_call 97; refine (C1.out _).mono ?_; rintro e w' ⟨rfl, rfl⟩) | (go_at_call 64; refine (C2.out _).mono ?_; rintro e w' ⟨rfl, rfl⟩) | (go_at_call 64; refine (C3.out _).mono ?_; rintro e w' ⟨rfl, rfl⟩))
        go_ret
        exact ⟨rfl, by go_grown⟩
      · cases y
        · rw [Bool.and_false, Bool.and_false, Bool.false_and, Bool.and_false]
          go_enter Tryz.func102, Tryz.ntmps102
          go_wp2_with (first | (go_at_call 97; refine (C1.out _).mono ?_; rintro e w' ⟨rfl, rfl⟩) | (go_at_call 64; refine (C2.out _).mono ?_; rintro e w' ⟨rfl, rfl⟩) | (go_at_call 64; refine (C3.out _).mono ?_; rintro e w' ⟨rfl, rfl⟩) | (go_at_call 159; refine (C4.out _).mono ?_; rintro e w' ⟨rfl, rfl⟩))
          go_ret
          exact ⟨rfl, by go_grown⟩
        · rw [Bool.and_self, Bool.and_self, Bool.true_and, Bool.true_and]
          go_enter Tryz.func102, Tryz.ntmps102
          go_wp2_with (first | (go_at_call 97; refine (C1.out _).mono ?_; rintro e w' ⟨rfl, rfl⟩) | (go_at_call 64; refine (C2.out _).mono ?_; rintro e w' ⟨rfl, rfl⟩) | (go_at_call 64; refine (C3.out _).mono ?_; rintro e w' ⟨rfl, rfl⟩) | (go_at_call 159; refine (C4.out _).mono ?_; rintro e w' ⟨rfl, rfl⟩))
          refine (C5.out _ R1.out).mono ?_
          rintro e w1 ⟨rfl, hb⟩
          have b1 : Below w.heap.size w w1 := Below.on (by go_grown) hb
          clear hb R1 C1 C2 C3 C4 C5
          go_wp2
          go_ret
          exact ⟨rfl, b1⟩
end Go.Proofs.YtaaenolbfhhnfaaGreat
namespace Go.Proofs.YtaaenolbfhhnfaaGreat
open Go.RowKit
set_option linter.unusedSimpArgs false
set_option linter.unusedVariables false
def fwdV (i : Nat → Int) (at_ many : Int) : Bool := (i 0 != 4) || (decide (at_ < i 2) && decide (i 2 ≤ many))
set_option maxHeartbeats 1000000 in
theorem fwd_any (i : Nat → Int) (at_ many : Int) (w : World) :
    Calls Tryz.prog 180 #[quadA i, .int .i64 at_, .int .i64 many] w fun e w' => e = .returned (.bool (fwdV i at_ many)) ∧ Below w.heap.size w w' := by
  unfold fwdV quadA
  by_cases h0 : i 0 = 4
  · rw [h0, show ((4 : Int) != 4) = false from rfl, Bool.false_or]
    by_cases h1 : at_ < i 2
    · rw [decide_eq_true h1, Bool.true_and]
      go_enter Tryz.func180, Tryz.ntmps180
      go_wp2
      go_ret
      exact ⟨rfl, by go_grown⟩
    · rw [decide_eq_false h1, Bool.false_and]
      go_enter Tryz.func180, Tryz.ntmps180
      go_wp2
      go_ret
      exact ⟨rfl, by go_grown⟩
  · have h0' : (i 0 != 4) = true := by simpa using h0
    rw [h0', Bool.true_or]
    go_enter Tryz.func180, Tryz.ntmps180
    go_wp2
    go_ret
    exact ⟨rfl, by go_grown⟩
theorem fwd_bad (z : Nat → Int) (n k : Nat) : fwdV (instAt z k) (k : Int) (n : Int) = !badJump z n k := by
  unfold fwdV badJump instAt
  show ((z (k * 4) != 4) || (decide ((k : Int) < z (k * 4 + 2)) && decide (z (k * 4 + 2) ≤ (n : Int)))) = _
  by_cases h0 : z (k * 4) = 4
  · by_cases h1 : (k : Int) < z (k * 4 + 2) <;> by_cases h2 : z (k * 4 + 2) ≤ (n : Int)
    all_goals
      simp [h0, h1, h2]
      try omega
  · have : (z (k * 4) == 4) = false := by simpa using h0
    simp [bne, this]
set_option maxRecDepth 10000 in
set_option maxHeartbeats 2000000 in
theorem may_pc : MayPC := by
  intro a n c z w hn h
  by_cases h16 : n ≤ 16
  · have i16 : ¬ (16 : Int) < (n : Int) := by omega
    go_enter Tryz.func163, Tryz.ntmps163
    go_wp2
    go_loopw [10] (fun i wr => ∃ k : Nat, k ≤ n ∧ i = .int .i64 k ∧ Hid (progTo z n k = true) ∧ Below w.heap.size w wr) (fun i _ => n - (intOf i).toNat)
    case atStart => exact ⟨0, Nat.zero_le _, rfl, rfl, by go_grown⟩
    case round =>
      obtain ⟨k, hk, rfl, HS, hb⟩ := hrel
      by_cases hlt : k < n
      · have i1 : (k : Int) < (n : Int) := by omega
        obtain ⟨b, off, hsa, hbl, d0, d1, d2, d3⟩ := (h.below hb (Nat.le_refl _)).at4 k hlt
        subst hsa
        have s0 := hb.size
        have C := hide fun w => may_ic (instAt z k) w
        have D := hide fun w => fwd_any (instAt z k) k n w
        rw [fwd_bad] at D
        rw [quadA_at] at C D
        have B := blk_new wr [.int .i64 (z (k * 4)), .int .i64 (z (k * 4 + 1)), .int .i64 (z (k * 4 + 2)), .int .i64 (z (k * 4 + 3))] 62
        cases hm : instMay (instAt z k)
        · rw [hm] at C
          go_wp2_with fail
          refine (C.out _).mono ?_
          rintro e w1 ⟨rfl, hb1⟩
          have b1 : Below w.heap.size w w1 := Below.on (hb.alloc s0 _) hb1
          clear hb1 d0 d1 d2 d3 C D
          go_wp2
          go_ret
          exact ⟨ret_bool (progMay_no k hlt (by rw [hm]; rfl)).symm, b1⟩
        · rw [hm] at C
          cases hj : badJump z n k
          · rw [hj] at D
            have HN : Hid (progTo z n (k + 1) = true) := by
              show progTo z n (k + 1) = true
              rw [progTo, HS.out, hm, hj]
              rfl
            go_wp2_with fail
            refine (C.out _).mono ?_
            rintro e w1 ⟨rfl, hb1⟩
            have b1 : Below w.heap.size w w1 := Below.on (hb.alloc s0 _) hb1
            replace B := B.on hb1
            clear hb1 d0 d1 d2 d3 C
            obtain ⟨c0, c1, c2, c3⟩ := B.cells4
            go_wp2_with fail
            refine (D.out _).mono ?_
            rintro e w2 ⟨rfl, hb2⟩
            have b2 : Below w.heap.size w w2 := Below.on b1 hb2
            clear hb2 D c0 c1 c2 c3 b1
            go_wp2
            go_roundw
            case rel => exact ⟨k + 1, by omega, by go_num, HN, b2⟩
            case measure => simp [intOf]; omega
          · rw [hj] at D
            go_wp2_with fail
            refine (C.out _).mono ?_
            rintro e w1 ⟨rfl, hb1⟩
            have b1 : Below w.heap.size w w1 := Below.on (hb.alloc s0 _) hb1
            replace B := B.on hb1
            clear hb1 d0 d1 d2 d3 C
            obtain ⟨c0, c1, c2, c3⟩ := B.cells4
            go_wp2_with fail
            refine (D.out _).mono ?_
            rintro e w2 ⟨rfl, hb2⟩
            have b2 : Below w.heap.size w w2 := Below.on b1 hb2
            clear hb2 D c0 c1 c2 c3 b1
            go_wp2
            go_ret
            exact ⟨ret_bool (progMay_no k hlt (by rw [hj, Bool.not_true, Bool.and_false])).symm, b2⟩
      · obtain rfl : k = n := by omega
        go_wp2
        go_ret
        exact ⟨ret_bool (progMay_mk HS.out h16).symm, hb⟩
  · have i16 : (16 : Int) < (n : Int) := by omega
    go_enter Tryz.func163, Tryz.ntmps163
    go_wp2
    go_ret
    exact ⟨ret_bool (progMay_long (by omega)).symm, Below.refl _ _⟩
end Go.Proofs.YtaaenolbfhhnfaaGreat
namespace Go.Proofs.YtaaenolbfhhnfaaGreat
open Go.RowKit
set_option linter.unusedSimpArgs false
set_option linter.unusedVariables false
set_option maxHeartbeats 1000000 in
theorem may_sc : MaySC := by
  intro id l cl a n c z w hn h
  unfold startMay startA
  have C1 := hide fun w => askUpTo_any id 254 w
  have C2 := hide fun w => below_any l cl w
  have C3 := hide fun (w : World) h => may_pc a n c z w hn h
  have R1 := hide (h.below ((Below.refl _ w).alloc (Nat.le_refl _) (.cells #[.int .i64 id, .int .i64 l, .int .i64 cl, .slice a n c] 64)) (Nat.le_refl _))
  generalize labE l cl = E at *
  generalize progMay n z = m at *
  generalize upToV id 254 = u at *
  generalize belowV l cl = v at *
  clear h
  cases u
  · rw [Bool.false_and]
    go_enter Tryz.func100, Tryz.ntmps100
    go_wp2_with (first | (go_at_call 75; refine (C2.out _).mono ?_; rintro e w' ⟨rfl, rfl⟩) | (go_at_call 47; refine (C1.out _).mono ?_; rintro e w' ⟨rfl, rfl⟩))
    go_ret
    exact ⟨rfl, by go_grown⟩
  · rw [Bool.true_and]
    cases v
    · rw [Bool.false_and]
      go_enter Tryz.func100, Tryz.ntmps100
      go_wp2_with (first | (go_at_call 75; refine (C2.out _).mono ?_; rintro e w' ⟨rfl, rfl⟩) | (go_at_call 47; refine (C1.out _).mono ?_; rintro e w' ⟨rfl, rfl⟩))
      go_ret
      exact ⟨rfl, by go_grown⟩
    · rw [Bool.true_and]
      go_enter Tryz.func100, Tryz.ntmps100
      go_wp2_with (first | (go_at_call 75; refine (C2.out _).mono ?_; rintro e w' ⟨rfl, rfl⟩) | (go_at_call 47; refine (C1.out _).mono ?_; rintro e w' ⟨rfl, rfl⟩))
      refine (C3.out _ R1.out).mono ?_
      rintro e w1 ⟨rfl, hb⟩
      have b1 : Below w.heap.size w w1 := Below.on (by go_grown) hb
      clear hb R1 C1 C2 C3
      go_wp2
      go_ret
      exact ⟨rfl, b1⟩
end Go.Proofs.YtaaenolbfhhnfaaGreat
namespace Go.Proofs.YtaaenolbfhhnfaaGreat
open Go.RowKit
set_option linter.unusedSimpArgs false
set_option linter.unusedVariables false
/-- One read's numbers. -/
def oneR (l i v : Int) : Nat → Int := putR (fun _ => 0) 0 l i v
theorem Blk.read {w : World} {b : Nat} {l i v : Int} (h : Blk w b [.int .i64 l, .int .i64 i, .int .i64 v]) : Row w (some ⟨b, 0, none⟩) (1 * 3) fun j => .int .i64 (oneR l i v j) := by
  refine Own.row ⟨_, h, fun j hj => ?_⟩
  have : j = 0 ∨ j = 1 ∨ j = 2 := by omega
  rcases this with rfl | rfl | rfl <;> rfl
theorem readsMay_one (l i v : Int) : readsMay 1 (oneR l i v) = readMay l i v := by
  show ((true && readMay l i v) && (true && noneTo (oneR l i v) l i 0) && true) = _
  rw [Bool.true_and, Bool.and_true, show noneTo (oneR l i v) l i 0 = true from rfl, Bool.and_self, Bool.and_true]
/-- What With hands back: in new memory the reads and the one more, or nothing. -/
def WithPost (n : Nat) (z : Nat → Int) (l i v : Int) (w : World) (e : Ending) (w' : World) : Prop :=
  ∃ x : Sl, e = .returned (.tuple #[.slice x.a x.n x.c, .int .i64 (withE n z l i v)]) ∧ (x.a = none → x.n = 0 ∧ x.c = 0) ∧ x.n ≤ x.c ∧ x.n = withN n z l i v ∧ (withOk n z l i v = false → x = ⟨none, 0, 0⟩) ∧
    (0 < x.n → ∃ b, x.a = some ⟨b, 0, none⟩ ∧ w.heap.size ≤ b ∧ b < w'.heap.size ∧ Own w' b (x.n * 3) (intF (putR z n l i v))) ∧ Below w.heap.size w w'
theorem with_no {n : Nat} {z : Nat → Int} {l i v : Int} {w w' : World} (h : withOk n z l i v = false) (hb : Below w.heap.size w w') : WithPost n z l i v w (.returned (.tuple #[.slice none 0 0, .int .i64 900])) w' :=
  ⟨⟨none, 0, 0⟩, by unfold withE; rw [h]; rfl, fun _ => ⟨rfl, rfl⟩, Nat.le_refl _, by unfold withN; rw [h]; rfl, fun _ => rfl, fun hp => absurd hp (Nat.lt_irrefl 0), hb⟩
/-- The reads as they are. -/
theorem with_old {n : Nat} {z : Nat → Int} {l i v : Int} {w w' : World} {a : Option Addr} {c : Nat} (h : withOk n z l i v = true) (hn : noneTo z l i n = false) (hb : Below w.heap.size w w')
    (hc : n ≤ c) (ha : a = none → n = 0 ∧ c = 0) (ho : 0 < n → ∃ b, a = some ⟨b, 0, none⟩ ∧ w.heap.size ≤ b ∧ b < w'.heap.size ∧ Own w' b (n * 3) (intF z)) : WithPost n z l i v w (.returned (.tuple #[.slice a n c, .int .i64 0])) w' := by
  refine ⟨⟨a, n, c⟩, by unfold withE; rw [h]; rfl, ha, hc, by unfold withN; rw [h, hn]; rfl, (fun h' => by rw [h] at h'; cases h'), fun hp => ?_, hb⟩
  obtain ⟨b, e1, e2, e3, e4⟩ := ho hp
  exact ⟨b, e1, e2, e3, e4.congr fun j hj => by unfold intF; rw [putR_old hj]⟩
/-- The reads, and one more. -/
theorem with_new {n : Nat} {z : Nat → Int} {l i v : Int} {w w' : World} {a : Option Addr} {c : Nat} (h : withOk n z l i v = true) (hn : noneTo z l i n = true) (hb : Below w.heap.size w w')
    (hc : n + 1 ≤ c) (ho : 0 < n + 1 → ∃ b, a = some ⟨b, 0, none⟩ ∧ w.heap.size ≤ b ∧ b < w'.heap.size ∧ Own w' b ((n + 1) * 3) (intF (putR z n l i v))) : WithPost n z l i v w (.returned (.tuple #[.slice a (n + 1) c, .int .i64 0])) w' := by
  obtain ⟨b, e1, e2, e3, e4⟩ := ho (by omega)
  refine ⟨⟨a, n + 1, c⟩, by unfold withE; rw [h]; rfl, (fun ha => by rw [e1] at ha; cases ha), hc, by unfold withN; rw [h, hn]; rfl, (fun h' => by rw [h] at h'; cases h'), fun hp => ⟨b, e1, e2, e3, e4⟩, hb⟩
theorem putR_row (z : Nat → Int) (n : Nat) (l i v : Int) : rowL (intF z) (n * 3) ++ [.int .i64 l, .int .i64 i, .int .i64 v] = rowL (intF (putR z n l i v)) ((n + 1) * 3) := by
  obtain ⟨e0, e1, e2⟩ := putR_new z n l i v
  rw [show (n + 1) * 3 = n * 3 + 3 by omega, rowL_add]
  congr 1
  · exact rowL_congr fun j hj => by unfold intF; rw [putR_old hj]
  · show _ = [intF (putR z n l i v) (n * 3 + 0), intF (putR z n l i v) (n * 3 + 1), intF (putR z n l i v) (n * 3 + 2)]
    unfold intF
    rw [Nat.add_zero, e0, e1, e2]
theorem withOk_mk {n : Nat} {z : Nat → Int} {l i v : Int} (h : readsMay n z = true) (hr : readMay l i v = true) : withOk n z l i v = (!noneTo z l i n || decide (n + 1 ≤ 16)) := by
  rw [withOk, h, hr]; rfl
theorem withOk_reads {n : Nat} {z : Nat → Int} {l i v : Int} (h : readsMay n z = false) : withOk n z l i v = false := by rw [withOk, h]; rfl
theorem withOk_read {n : Nat} {z : Nat → Int} {l i v : Int} (h : readMay l i v = false) : withOk n z l i v = false := by rw [withOk, h, Bool.and_false, Bool.false_and]
set_option maxRecDepth 10000 in
set_option maxHeartbeats 4000000 in
theorem rwithRead_any (a : Option Addr) (n c : Nat) (z : Nat → Int) (l i v : Int) (w : World) (hn : n ≤ 1152921504606846976) (ha : a = none → n = 0 ∧ c = 0) (h : Row w a (n * 3) fun i => .int .i64 (z i)) :
    Calls Tryz.prog 94 #[.slice a n c, wordA l i v] w (WithPost n z l i v w) := by
  obtain ⟨i0, hi, hz0, hz1, hz2⟩ := info_parts Tryz.infoRead
  have CR := hide fun w h => rreadsMay_any a n c z w hn h
  have C1 := hide fun b w h => rreadsMay_any (some ⟨b, 0, none⟩) 1 1 (oneR l i v) w (by omega) h
  rw [readsMay_one] at C1
  have b0 : Below w.heap.size w (w.alloc (.cells #[.int .i64 l, .int .i64 i, .int .i64 v] 66)) := by go_grown
  have B := blk_new w [.int .i64 l, .int .i64 i, .int .i64 v] 66
  have HR := hide (h.below b0 (Nat.le_refl _))
  clear h
  unfold wordA
  go_enter Tryz.func94, Tryz.ntmps94
  go_wp2_with fail
  refine (CR.out _ HR.out).mono ?_
  rintro e w1 ⟨rfl, hb⟩
  have b1 := Below.on b0 hb
  have R1 := hide (HR.out.below hb (Nat.le_refl _))
  have B1 := B.on hb
  clear hb b0 HR B CR
  cases hr : readsMay n z
  · have HN := hide (withOk_reads (l := l) (i := i) (v := v) hr)
    clear B1
    go_wp2
    go_ret2
    exact with_no HN.out b1
  · obtain ⟨⟨c0, c1, c2⟩, f0, f1, f2⟩ := B1.three
    have bl := B1.lt
    go_wp2_with fail
    have bb := (Below.refl w1.heap.size w1).alloc (Nat.le_refl _) (.cells #[.int .i64 l, .int .i64 i, .int .i64 v] 66)
    refine (C1.out _ _ (blk_new w1 [.int .i64 l, .int .i64 i, .int .i64 v] 66).read).mono ?_
    rintro e w2 ⟨rfl, hb⟩
    replace bb := Below.on bb hb
    have b2 := Below.on b1 bb
    have R2 := hide (R1.out.below bb (Nat.le_refl _))
    have B2 := B1.on bb
    have s2 := b2.size
    have s1 := b1.size
    clear hb b1 R1 bb B1 C1 c0 c1 c2 f0 f1 f2
    cases hm : readMay l i v
    · have HN := hide (withOk_read (n := n) (z := z) hm)
      clear B2
      go_wp2
      go_ret2
      exact with_no HN.out b2
    · have HOK := hide (withOk_mk hr hm)
      have n16 := (readsMay_get hr).2.2
      have hown : (w2.alloc (.cells #[] 66)).ownsRow w.heap.size 66 3 (.slice (some ⟨w2.heap.size, 0, none⟩) 0 0) 0 [] := World.ownsRow_made w2 #[] 0 s2 (by decide) rfl
      have HO := hide hown
      have bb := (Below.refl w2.heap.size w2).alloc (Nat.le_refl _) (.cells #[] 66)
      have R3 := hide (R2.out.below bb (Nat.le_refl _))
      have HA := hide ha
      clear hown hr hm ha bb
      go_wp2_with (at_builtin; refine wpList_append_row rfl (.tmp 17) (.tmp 18) 56 rfl w.heap.size 66 i0 (.agg #[.int .i64 0, .int .i64 0, .int .i64 0]) 3 24 Tryz.underlying56 hi hz0 hz1 hz2 rfl (by decide) _ _ _ rfl (unhide HO) a n c (fun i => .int .i64 (z i)) rfl (unhide HA) (unhide R3) (fun _ => rfl) ?_ ?_ ?_ ?_)
      · unfold maxLen; omega
      · omega
      · simp; omega
      · intro v' w3 hown' hg
        have bw : Below w2.heap.size w2 w3 := ((Below.refl w2.heap.size w2).alloc (Nat.le_refl _) (.cells #[] 66)).grown hg (by simp) (by intro j hj; simp [Value.ownBlock] at hj; omega)
        have hown2 : w3.ownsRow w.heap.size 66 3 v' n (rowL (intF z) (n * 3)) := hown'
        obtain ⟨xa, xc, rfl, _⟩ := slice_of_owns hown2
        have HO2 := hide hown2
        have R4 := hide (R2.out.below bw (Nat.le_refl _))
        have B3 := B2.on bw
        have b3 := Below.on b2 bw
        clear hown' hg hown2 HO R2 R3 bw B2 b2
        go_wp2
        go_loopw [7] (fun j wr => ∃ k : Nat, k ≤ n ∧ j = .int .i64 k ∧ Hid (noneTo z l i k = true) ∧ Hid (wr.ownsRow w.heap.size 66 3 (.slice xa n xc) n (rowL (intF z) (n * 3))) ∧ Blk wr w.heap.size [.int .i64 l, .int .i64 i, .int .i64 v] ∧ Hid (Row wr a (n * 3) fun i => .int .i64 (z i)) ∧ Below w.heap.size w wr) (fun j _ => n - (intOf j).toNat)
        case atStart => exact ⟨0, Nat.zero_le _, rfl, rfl, HO2, B3, R4, b3⟩
        case round =>
          clear HO2 B3 R4 b3
          obtain ⟨k, hk, rfl, HS, HO, B, HR, hb⟩ := hrel
          obtain ⟨⟨c0, c1, c2⟩, f0, f1, f2⟩ := B.three
          have bl2 := B.lt
          by_cases hlt : k < n
          · have i1 : (k : Int) < (n : Int) := by omega
            obtain ⟨b, off, hsa, hbl, d0, d1, d2⟩ := HR.out.at3 k hlt
            subst hsa
            by_cases v0 : z (k * 3) = l
            · by_cases v1 : z (k * 3 + 1) = i
              · have HN : Hid (noneTo z l i n = false) := allTo_no k hlt (by unfold isWord; rw [v0, v1]; simp)
                rw [v0] at d0
                rw [v1] at d1
                clear v0 v1
                go_wp2
                go_quiet (fail)
                go_wp2
                go_ret2
                obtain ⟨_, _, e, hc, hnn, _, ho⟩ := slice_of_owns (owns_drawn HO.out nq)
                simp only [Value.slice.injEq, true_and] at e
                obtain ⟨rfl, rfl⟩ := e
                exact with_old (by rw [HOK.out, HN.out]; rfl) HN.out (Below.drawn hb _) hc hnn ho
              · have HN : Hid (noneTo z l i (k + 1) = true) := by
                  show allTo _ (k + 1) = true
                  rw [allTo, show allTo _ k = true from HS.out]
                  unfold isWord
                  rw [beq_eq_false_iff_ne.2 v1, Bool.and_false]
                  rfl
                have dv : decide (z (k * 3 + 1) = i) = false := decide_eq_false v1
                rw [v0] at d0
                clear v0
                go_wp2
                go_quiet (fail)
                go_wp2
                go_roundw
                case rel =>
                  first
                    | exact ⟨k + 1, by omega, by go_num, HN, owns_drawn HO.out _, B.drawn _, HR.out.drewN _, Below.drawn hb _⟩
                    | (repeat apply Exists.intro
                       exact ⟨⟨k + 1, by omega, by go_num, HN, owns_drawn HO.out _, B.drawn _, HR.out.drewN _, Below.drawn hb _⟩, rfl⟩)
                case measure => simp [intOf]; omega
            · have HN : Hid (noneTo z l i (k + 1) = true) := by
                show allTo _ (k + 1) = true
                rw [allTo, show allTo _ k = true from HS.out]
                unfold isWord
                rw [beq_eq_false_iff_ne.2 v0, Bool.false_and]
                rfl
              have dv : decide (z (k * 3) = l) = false := decide_eq_false v0
              go_wp2
              go_quiet (fail)
              go_wp2
              go_roundw
              case rel =>
                first
                  | exact ⟨k + 1, by omega, by go_num, HN, owns_drawn HO.out _, B.drawn _, HR.out.drewN _, Below.drawn hb _⟩
                  | (repeat apply Exists.intro
                     exact ⟨⟨k + 1, by omega, by go_num, HN, owns_drawn HO.out _, B.drawn _, HR.out.drewN _, Below.drawn hb _⟩, rfl⟩)
              case measure => simp [intOf]; omega
          · obtain rfl : k = n := by omega
            have s3 := hb.size
            have HO3 := hide (HO.out.alloc (.cells #[.int .i64 l, .int .i64 i, .int .i64 v] 66))
            have HE := hide (owns_block HO.out)
            have HNW := hide (World.news_of_block (cs := #[.int .i64 l, .int .i64 i, .int .i64 v]) (t := 66) (fr := (0, 0)) (heap_alloc_new wr (.cells #[.int .i64 l, .int .i64 i, .int .i64 v] 66)))
            clear HO HR B
            go_wp2_with (at_builtin; refine wpList_append_own _ rfl (.tmp 45) (.tmp 47) 56 rfl w.heap.size 66 i0 (.agg #[.int .i64 0, .int .i64 0, .int .i64 0]) 3 24 Tryz.underlying56 hi hz0 hz1 hz2 rfl (by decide) _ _ _ rfl (unhide HO3) ⟨wr.heap.size, 0, none⟩ 1 1 [.int .i64 l, .int .i64 i, .int .i64 v] rfl rfl (unhide HNW) ?_ ?_ ?_ ?_ ?_)
            · simp [Value.oneCell']
            · unfold maxLen; omega
            · omega
            · first | omega | (simp only [World.size_alloc]; omega)
            · intro v' w4 hown1 hgrow _
              have b4 : Below w.heap.size w w4 := (hb.alloc s3 _).grown hgrow (by simp only [World.size_alloc]; omega) HE.out
              rw [putR_row] at hown1
              obtain ⟨ya, yc, rfl, hyc, _, _, ho⟩ := slice_of_owns hown1
              have HO4 := hide ho
              clear hown1 hgrow HO3 HNW HE hb ho
              by_cases h16 : k + 1 ≤ 16
              · have i6 : ¬ (16 : Int) < (k : Int) + 1 := by omega
                go_wp2
                go_ret2
                exact with_new (by rw [HOK.out, HS.out, decide_eq_true h16]; rfl) HS.out b4 hyc HO4.out
              · have i6 : (16 : Int) < (k : Int) + 1 := by omega
                go_wp2
                go_ret2
                exact with_no (by rw [HOK.out, HS.out, decide_eq_false h16]; rfl) b4
end Go.Proofs.YtaaenolbfhhnfaaGreat
namespace Go.Proofs.YtaaenolbfhhnfaaGreat
open Go.RowKit
def MayWC : Prop := ∀ (a : Option Addr) (n c : Nat) (z : Nat → Int) (w : World), n ≤ 1152921504606846976 → n ≤ c → (Row w a (n * 3) fun i => .int .i64 (z i)) → Calls Tryz.prog 120 #[.slice a n c] w fun e w' => e = .returned (.bool (writesMay n z)) ∧ Below w.heap.size w w'
end Go.Proofs.YtaaenolbfhhnfaaGreat
namespace Go.Proofs.YtaaenolbfhhnfaaGreat
open Go.RowKit
set_option linter.unusedSimpArgs false
set_option linter.unusedVariables false
theorem wAlone_any (l i v : Int) (w : World) :
    Calls Tryz.prog 170 #[.agg #[.int .i64 l, .int .i64 i, .int .i64 v]] w fun e w' => e = .returned (.bool (writeMay l i v)) ∧ Below w.heap.size w w' := by
  have C1 := fun w => may_any l w
  rw [mayV_up] at C1
  have C2 := fun w => askUpTo_any i 3 w
  have C3 := hide fun w => askUpTo_any v 255 w
  unfold writeMay
  cases hl : upToV l 3
  · rw [hl] at C1
    have H1 := hide C1
    clear C1 C2 C3
    go_enter Tryz.func170, Tryz.ntmps170
    go_wp2_with (go_at_call 117; refine (H1.out _).mono ?_; rintro e w' ⟨rfl, rfl⟩)
    go_ret
    exact ⟨rfl, by go_grown⟩
  · rw [hl] at C1
    have H1 := hide C1
    cases hi : upToV i 3
    · rw [hi] at C2
      have H2 := hide C2
      clear C1 C2 C3
      go_enter Tryz.func170, Tryz.ntmps170
      go_wp2_with (first | (go_at_call 117; refine (H1.out _).mono ?_; rintro e w' ⟨rfl, rfl⟩) | (go_at_call 47; refine (H2.out _).mono ?_; rintro e w' ⟨rfl, rfl⟩))
      go_ret
      exact ⟨rfl, by go_grown⟩
    · rw [hi] at C2
      have H2 := hide C2
      clear C1 C2
      go_enter Tryz.func170, Tryz.ntmps170
      go_wp2_with (first | (go_at_call 117; refine (H1.out _).mono ?_; rintro e w' ⟨rfl, rfl⟩) | (go_at_call 47; with_reducible refine (H2.out _).mono ?_; rintro e w' ⟨rfl, rfl⟩) | (go_at_call 47; with_reducible refine (C3.out _).mono ?_; rintro e w' ⟨rfl, rfl⟩))
      go_ret
      exact ⟨rfl, by go_grown⟩
/-- How many, from the first on, are ahead of that word. -/
theorem wPlace_any (a : Option Addr) (n c : Nat) (z : Nat → Int) (l i : Int) (w : World) (hn : n ≤ 1152921504606846976) (h : Row w a (n * 3) fun i => .int .i64 (z i)) :
    Calls Tryz.prog 171 #[.slice a n c, .int .i64 l, .int .i64 i] w fun e w' => e = .returned (.int .i64 (posW n z l i : Int)) ∧ Below w.heap.size w w' := by
  go_enter Tryz.func171, Tryz.ntmps171
  go_wp2
  go_step3
  go_wp2
  go_step3
  go_wp2
  go_loopw [7] (fun j wr => ∃ k : Nat, k ≤ n ∧ j = .int .i64 k ∧ Hid (allTo (ltW z l i) k = true) ∧ Below w.heap.size w wr) (fun j _ => n - (intOf j).toNat)
  case atStart => exact ⟨0, Nat.zero_le _, rfl, rfl, Below.refl _ _⟩
  case round =>
    obtain ⟨k, hk, rfl, HS, hb⟩ := hrel
    have s0 := hb.size
    by_cases hlt : k < n
    · have i1 : (k : Int) < (n : Int) := by omega
      obtain ⟨b, off, hsa, hbl, d0, d1, d2⟩ := (h.below hb (Nat.le_refl _)).at3 k hlt
      subst hsa
      clear h
      by_cases v0 : z (k * 3) < l
      · have HN : Hid (allTo (ltW z l i) (k + 1) = true) := by
          show allTo (ltW z l i) (k + 1) = true
          rw [allTo, HS.out, ltW_iff.2 (.inl v0)]
          rfl
        go_wp2
        go_roundw
        case rel => exact ⟨k + 1, by omega, by go_num, HN, by go_grown⟩
        case measure => simp [intOf]; omega
      · by_cases v1 : l < z (k * 3)
        · have HN : Hid (posW n z l i = k) := lead_is HS.out (by omega) fun _ => by
            cases e : ltW z l i k with
            | false => rfl
            | true => rw [ltW_iff] at e; omega
          go_wp2
          try rw [Exit.noGoto_ret]
          go_ret
          exact ⟨ret_int (by rw [HN.out]), by go_grown⟩
        · by_cases v2 : i ≤ z (k * 3 + 1)
          · have HN : Hid (posW n z l i = k) := lead_is HS.out (by omega) fun _ => by
              cases e : ltW z l i k with
              | false => rfl
              | true => rw [ltW_iff] at e; omega
            go_wp2
            try rw [Exit.noGoto_ret]
            go_ret
            exact ⟨ret_int (by rw [HN.out]), by go_grown⟩
          · have HN : Hid (allTo (ltW z l i) (k + 1) = true) := by
              show allTo (ltW z l i) (k + 1) = true
              rw [allTo, HS.out, ltW_iff.2 (by omega)]
              rfl
            go_wp2
            go_roundw
            case rel => exact ⟨k + 1, by omega, by go_num, HN, by go_grown⟩
            case measure => simp [intOf]; omega
    · obtain rfl : k = n := by omega
      have HN : Hid (posW k z l i = k) := lead_is HS.out (Nat.le_refl _) fun h => absurd h (Nat.lt_irrefl _)
      clear h
      go_wp2
      try rw [Exit.noGoto_ret]
      go_ret
      exact ⟨ret_int (by rw [HN.out]), hb⟩
set_option maxRecDepth 100000 in
theorem run_wUpto (a : Option Addr) (n c m : Nat) (hm : m ≤ c) (W : World) : Sem.run Tryz.prog (Instr.slice 57 (.slice a n c) none (some (.int .i64 (m : Int))) none) W = .ok (.slice a m c) W := by
  rw [run_slice_h W 57 a n c (by kernel_rfl) .i64 (m : Int) (by omega) (by omega), Int.toNat_natCast]
  have e : Sem.run Tryz.prog (Go.sizeOf (Tryz.prog.elem 57)) W = .ok 3 W := by rfl
  rw [e]
  have e0 : ∀ x : Addr, x.add 0 = x := fun x => by
    obtain ⟨b, o, p⟩ := x
    simp [Addr.add]
  cases a <;> simp [Result.andThen, sliced, e0]
theorem ahead_pos {z : Nat → Int} {k : Nat} (h : aheadW z k = true) : posW k z (z (k * 3)) (z (k * 3 + 1)) = k := lead_is h (Nat.le_refl _) fun h => absurd h (Nat.lt_irrefl _)
theorem ahead_not {z : Nat → Int} {k : Nat} (h : aheadW z k = false) : posW k z (z (k * 3)) (z (k * 3 + 1)) < k := by
  have h1 := posW_le k z (z (k * 3)) (z (k * 3 + 1))
  have h2 := lead_all (ltW z (z (k * 3)) (z (k * 3 + 1))) k
  by_cases e : posW k z (z (k * 3)) (z (k * 3 + 1)) = k
  · rw [show lead (ltW z (z (k * 3)) (z (k * 3 + 1))) k = k from e] at h2
    rw [show aheadW z k = allTo (ltW z (z (k * 3)) (z (k * 3 + 1))) k from rfl, h2] at h
    cases h
  · omega
set_option maxRecDepth 10000 in
set_option maxHeartbeats 2000000 in
theorem may_wc : MayWC := by
  intro a n c z w hn hc h
  by_cases h16 : n ≤ 16
  · have i16 : ¬ (16 : Int) < (n : Int) := by omega
    have CA := askAllW_any 170 #[] #[] (aloneW z) a n c z w hn h (fun _ _ => rfl) (fun k hk W hb => wAlone_any _ _ _ W)
    cases hl : allTo (aloneW z) n
    · rw [hl] at CA
      have HC := hide CA
      have HN := hide (writesMay_alones hl)
      clear CA h hl
      go_enter Tryz.func120, Tryz.ntmps120
      go_wp2_with fail
      refine HC.out.mono ?_
      rintro e w1 ⟨rfl, b1⟩
      clear HC
      go_wp2
      go_ret
      exact ⟨ret_bool HN.out.symm, b1⟩
    · rw [hl] at CA
      have HC := hide CA
      have HL := hide hl
      clear CA hl
      go_enter Tryz.func120, Tryz.ntmps120
      go_wp2_with fail
      refine HC.out.mono ?_
      rintro e w1 ⟨rfl, b1⟩
      clear HC
      go_wp2
      go_loopw [15] (fun i wr => ∃ k : Nat, k ≤ n ∧ i = .int .i64 k ∧ Hid (allTo (aheadW z) k = true) ∧ Below w.heap.size w wr) (fun i _ => n - (intOf i).toNat)
      case atStart => exact ⟨0, Nat.zero_le _, rfl, rfl, b1⟩
      case round =>
        clear b1
        obtain ⟨k, hk, rfl, HS, hb⟩ := hrel
        by_cases hlt : k < n
        · have i1 : (k : Int) < (n : Int) := by omega
          obtain ⟨b, off, hsa, hbl, d0, d1, d2⟩ := (h.below hb (Nat.le_refl _)).at3 k hlt
          subst hsa
          have s0 := hb.size
          go_upto_region 6 with (fail)
          have b2 : Below w.heap.size w (wr.alloc (.cells #[.int .i64 (z (k * 3)), .int .i64 (z (k * 3 + 1)), .int .i64 (z (k * 3 + 2))] 68)) := by go_grown
          have B := blk_new wr [.int .i64 (z (k * 3)), .int .i64 (z (k * 3 + 1)), .int .i64 (z (k * 3 + 2))] 68
          clear d0 d1 d2 hbl hb
          change Blk (wr.alloc (.cells #[.int .i64 (z (k * 3)), .int .i64 (z (k * 3 + 1)), .int .i64 (z (k * 3 + 2))] 68)) wr.heap.size _ at B
          generalize wr.alloc (.cells #[.int .i64 (z (k * 3)), .int .i64 (z (k * 3 + 1)), .int .i64 (z (k * 3 + 2))] 68) = W at *
          obtain ⟨p0, p1, p2⟩ := B.kin3
          have hs := fun W => run_wUpto (some ⟨b, off, none⟩) n c k (by omega) W
          have K : ∀ u : Kin W, _ := fun u => Calls.kin_of (u := u) (wPlace_any (some ⟨b, off, none⟩) k c z (z (k * 3)) (z (k * 3 + 1)) u.at_ (by omega) (((h.below b2 (Nat.le_refl _)).below u.below (Nat.le_refl _)).less (by omega)))
          have kne : Nonempty (Kin W) := kin_any W
          cases hp : aheadW z k
          · have HN : Hid (writesMay n z = false) := writesMay_not_ahead k hlt hp
            have hp' := ahead_not hp
            have HK := hide K
            clear K hp
            generalize posW k z (z (k * 3)) (z (k * 3 + 1)) = P at *
            have i2 : (P : Int) < (k : Int) := by omega
            refine wp_region_kin (by kernel_rfl) (by kernel_rfl) ?_
            repeat (go_big_quiet_step ((go_at_call 171; exact HK.out _)))
            refine wpQuiet_nil ?_
            rintro _ ⟨u, rfl⟩
            have b3 : Below w.heap.size w u.at_ := b2.trans (u.below.mono b2.size)
            clear p0 p1 p2 hs HK kne B b2 h
            generalize u.at_ = V at *
            clear u
            go_wp2
            go_ret
            exact ⟨ret_bool HN.out.symm, b3⟩
          · rw [ahead_pos hp] at K
            have HK := hide K
            have HN : Hid (allTo (aheadW z) (k + 1) = true) := by
              show allTo (aheadW z) (k + 1) = true
              rw [allTo, HS.out]
              exact hp
            clear K hp
            refine wp_region_kin (by kernel_rfl) (by kernel_rfl) ?_
            repeat (go_big_quiet_step ((go_at_call 171; exact HK.out _)))
            refine wpQuiet_nil ?_
            rintro _ ⟨u, rfl⟩
            have b3 : Below w.heap.size w u.at_ := b2.trans (u.below.mono b2.size)
            clear p0 p1 p2 hs HK kne B b2 h
            generalize u.at_ = V at *
            clear u
            go_wp2
            go_roundw
            case rel => exact ⟨k + 1, by omega, by go_num, HN, b3⟩
            case measure => simp [intOf]; omega
        · obtain rfl : k = n := by omega
          clear h
          go_wp2
          go_ret
          exact ⟨ret_bool (writesMay_ahead HL.out HS.out h16).symm, hb⟩
  · have i16 : (16 : Int) < (n : Int) := by omega
    clear h
    go_enter Tryz.func120, Tryz.ntmps120
    go_wp2
    go_ret
    exact ⟨ret_bool (writesMay_long (by omega)).symm, Below.refl _ _⟩
end Go.Proofs.YtaaenolbfhhnfaaGreat
