/-
  The law ProgBack, if package prog's functions keep their statements.
-/
import Derived.Test.YtkomapgmhipkaaaProgStat
import Derived.Test.YtkomapgmhipkaaaProgMore
namespace Go.Proofs.Ytkomapgmhipkaaa
open Go.RowKit
set_option linter.unusedSimpArgs false
set_option linter.unusedVariables false

set_option maxRecDepth 100000 in
set_option maxHeartbeats 4000000 in
theorem progBack_said (hM : MayPC) (hP : PutPC) (hG : GetPC) (a : Option Addr) (n c : Nat) (z : Nat → Int) (l : List UInt8) (w : World) (hn : n * 32 ≤ 140737488351232) (h : Row w a (n * 4) fun i => .int .i64 (z i)) :
    Calls Try.prog 4 #[.slice a n c, textS l] w fun e w' => e = .returned (.bool true) ∧ Below w.heap.size w w' := by
  have C0 := hide fun w => awake8_any hM hP hG w
  cases hi : progMay n z <;> cases hl : getPOk l
  · have A1 := fun (w : World) h => hP a n c z w (by omega) h
    rw [(putP_not hi).1, (putP_not hi).2] at A1
    unfold textS at A1
    have C1 := hide A1
    clear A1
    have A3 := fun (w : World) => hG.no hl w
    unfold textS at A3
    have C3 := hide A3
    clear A3
    clear hM hP hG hi hl
    unfold textS
    go_enter Try.func4, Try.ntmps4
    go_wp2_with fail
    refine (C0.out _).mono ?_
    rintro e w1 ⟨rfl, b1⟩
    have R1 := h.below b1 (Nat.le_refl _)
    clear C0
    go_wp2_with fail
    refine (C1.out _ R1).mono ?_
    rintro e w2 ⟨rfl, hb⟩
    have b2 : Below w.heap.size w w2 := Below.on b1 hb
    have R2 := R1.below hb (Nat.le_refl _)
    clear hb C1 b1 R1
    clear R2
    go_wp2_with (go_at_call 13; refine (num_any _ _).mono ?_; rintro e w' ⟨rfl, rfl⟩)
    refine (C3.out _).mono ?_
    rintro e w4 ⟨rfl, hb⟩
    have b4 : Below w.heap.size w w4 := Below.on b2 hb
    clear hb C3 b2
    go_wp2_with (go_at_call 13; refine (num_any _ _).mono ?_; rintro e w' ⟨rfl, rfl⟩)
    go_ret
    exact ⟨rfl, b4⟩
  · have A1 := fun (w : World) h => hP a n c z w (by omega) h
    rw [(putP_not hi).1, (putP_not hi).2] at A1
    unfold textS at A1
    have C1 := hide A1
    clear A1
    have A3 := fun (w : World) => hG.yes hl w
    obtain ⟨g1, g2, g3⟩ := putP_get hl
    have HJ : Hid (∀ i, i < textN l → badJump (textZ l) (textN l) i = false) := fun i hi => (progTo_get (progMay_get g3).1 i hi).2
    have nl := textN_le l
    have A4 := fun (a : Option Addr) (c : Nat) (w : World) h => hP a (textN l) c (textZ l) w (by omega) h
    rw [g1, g2] at A4
    have tx := text_list l
    clear g1 g2 g3
    generalize textZ l = y', textN l = m at *
    unfold textS at A3 A4
    have C3 := hide A3
    have C4 := hide A4
    clear A3 A4
    clear hM hP hG hi hl
    unfold textS
    go_enter Try.func4, Try.ntmps4
    go_wp2_with fail
    refine (C0.out _).mono ?_
    rintro e w1 ⟨rfl, b1⟩
    have R1 := h.below b1 (Nat.le_refl _)
    clear C0
    go_wp2_with fail
    refine (C1.out _ R1).mono ?_
    rintro e w2 ⟨rfl, hb⟩
    have b2 : Below w.heap.size w w2 := Below.on b1 hb
    have R2 := R1.below hb (Nat.le_refl _)
    clear hb C1 b1 R1
    clear R2
    go_wp2_with (go_at_call 13; refine (num_any _ _).mono ?_; rintro e w' ⟨rfl, rfl⟩)
    refine (C3.out _).mono ?_
    rintro e w4 ⟨a3, c3, rfl, _, R4, _, hb⟩
    have b4 : Below w.heap.size w w4 := Below.on b2 hb
    clear hb C3 b2
    go_wp2_with (go_at_call 13; refine (num_any _ _).mono ?_; rintro e w' ⟨rfl, rfl⟩)
    go_loop [11] (fun i => ∃ k : Nat, k ≤ m ∧ i = .int .i64 k) (fun i => m - (intOf i).toNat)
    case atStart => exact ⟨0, Nat.zero_le _, rfl⟩
    case round =>
      obtain ⟨k, hk, rfl⟩ := hrel
      by_cases hlt : k < m
      · have i1 : (k : Int) < (m : Int) := by omega
        obtain ⟨b, off, rfl, hbl, d0, d1, d2, d3⟩ := R4.at4 k hlt
        have hj := HJ.out k hlt
        unfold badJump at hj
        by_cases h4 : y' (k * 4) = 4
        · have hB : ¬ y' (k * 4 + 2) ≤ (k : Int) := by
            intro h
            rw [h4, decide_eq_true h] at hj
            cases hj
          rw [h4] at d0
          clear hj
          go_wp2
          go_round
          case rel => exact ⟨k + 1, by omega, by go_num⟩
          case measure => simp [intOf]; omega
        · clear hj
          go_wp2
          go_round
          case rel => exact ⟨k + 1, by omega, by go_num⟩
          case measure => simp [intOf]; omega
      · obtain rfl : k = m := by omega
        go_wp2_with fail
        refine (C4.out _ _ _ R4).mono ?_
        rintro e w5 ⟨rfl, hb⟩
        have b5 : Below w.heap.size w w5 := Below.on b4 hb
        clear hb C4 b4 R4
        go_wp2_with (go_at_call 13; refine (num_any _ _).mono ?_; rintro e w' ⟨rfl, rfl⟩)
        go_ret
        exact ⟨rfl, b5⟩
  · have A1 := fun (w : World) h => hP a n c z w (by omega) h
    rw [(putP_yes hi).1, (putP_yes hi).2] at A1
    obtain ⟨ok, okN, okZ⟩ := getP_put hi
    have A2 := fun (w : World) => hG.yes ok w
    rw [okN] at A2
    have HZ : Hid (eqTo z (textZ (byteOf n :: progB z n)) (n * 4) = true) := eqTo_mk fun i hi => (okZ i hi).symm
    have n16 := (progMay_get hi).2
    clear ok okN okZ
    generalize textZ (byteOf n :: progB z n) = y at *
    generalize byteOf n :: progB z n = t at *
    unfold textS at A1 A2
    have C1 := hide A1
    have C2 := hide A2
    clear A1 A2
    have A3 := fun (w : World) => hG.no hl w
    unfold textS at A3
    have C3 := hide A3
    clear A3
    clear hM hP hG hi hl
    unfold textS
    go_enter Try.func4, Try.ntmps4
    go_wp2_with fail
    refine (C0.out _).mono ?_
    rintro e w1 ⟨rfl, b1⟩
    have R1 := h.below b1 (Nat.le_refl _)
    clear C0
    go_wp2_with fail
    refine (C1.out _ R1).mono ?_
    rintro e w2 ⟨rfl, hb⟩
    have b2 : Below w.heap.size w w2 := Below.on b1 hb
    have R2 := R1.below hb (Nat.le_refl _)
    clear hb C1 b1 R1
    go_wp2_with (go_at_call 13; refine (num_any _ _).mono ?_; rintro e w' ⟨rfl, rfl⟩)
    refine (C2.out _).mono ?_
    rintro e w3 ⟨a2, c2, rfl, _, Y, _, hb⟩
    have b3 : Below w.heap.size w w3 := Below.on b2 hb
    have R3 := R2.below hb (Nat.le_refl _)
    have CS : Hid (Calls Try.prog 14 #[.slice a n c, .slice a2 n c2] w3 fun e w' => e = .returned (.bool true) ∧ ∃ q, w' = w3.drewN q) := by
      have := sameInsts_any a a2 n c n c2 z y w3 (by omega) R3 Y
      rw [HZ.out, decide_eq_true rfl] at this
      exact this
    clear hb C2 b2 R2 R3 Y
    go_wp2_with (first | (go_at_call 13; refine (num_any _ _).mono ?_; rintro e w' ⟨rfl, rfl⟩) | (go_at_call 14; refine CS.out.mono ?_; rintro e w' ⟨rfl, q, rfl⟩))
    replace b3 := Below.drawn b3 q
    clear CS
    generalize w3.drewN q = w2 at *
    have b2 := b3
    clear b3
    refine (C3.out _).mono ?_
    rintro e w4 ⟨rfl, hb⟩
    have b4 : Below w.heap.size w w4 := Below.on b2 hb
    clear hb C3 b2
    go_wp2_with (go_at_call 13; refine (num_any _ _).mono ?_; rintro e w' ⟨rfl, rfl⟩)
    go_ret
    exact ⟨rfl, b4⟩
  · have A1 := fun (w : World) h => hP a n c z w (by omega) h
    rw [(putP_yes hi).1, (putP_yes hi).2] at A1
    obtain ⟨ok, okN, okZ⟩ := getP_put hi
    have A2 := fun (w : World) => hG.yes ok w
    rw [okN] at A2
    have HZ : Hid (eqTo z (textZ (byteOf n :: progB z n)) (n * 4) = true) := eqTo_mk fun i hi => (okZ i hi).symm
    have n16 := (progMay_get hi).2
    clear ok okN okZ
    generalize textZ (byteOf n :: progB z n) = y at *
    generalize byteOf n :: progB z n = t at *
    unfold textS at A1 A2
    have C1 := hide A1
    have C2 := hide A2
    clear A1 A2
    have A3 := fun (w : World) => hG.yes hl w
    obtain ⟨g1, g2, g3⟩ := putP_get hl
    have HJ : Hid (∀ i, i < textN l → badJump (textZ l) (textN l) i = false) := fun i hi => (progTo_get (progMay_get g3).1 i hi).2
    have nl := textN_le l
    have A4 := fun (a : Option Addr) (c : Nat) (w : World) h => hP a (textN l) c (textZ l) w (by omega) h
    rw [g1, g2] at A4
    have tx := text_list l
    clear g1 g2 g3
    generalize textZ l = y', textN l = m at *
    unfold textS at A3 A4
    have C3 := hide A3
    have C4 := hide A4
    clear A3 A4
    clear hM hP hG hi hl
    unfold textS
    go_enter Try.func4, Try.ntmps4
    go_wp2_with fail
    refine (C0.out _).mono ?_
    rintro e w1 ⟨rfl, b1⟩
    have R1 := h.below b1 (Nat.le_refl _)
    clear C0
    go_wp2_with fail
    refine (C1.out _ R1).mono ?_
    rintro e w2 ⟨rfl, hb⟩
    have b2 : Below w.heap.size w w2 := Below.on b1 hb
    have R2 := R1.below hb (Nat.le_refl _)
    clear hb C1 b1 R1
    go_wp2_with (go_at_call 13; refine (num_any _ _).mono ?_; rintro e w' ⟨rfl, rfl⟩)
    refine (C2.out _).mono ?_
    rintro e w3 ⟨a2, c2, rfl, _, Y, _, hb⟩
    have b3 : Below w.heap.size w w3 := Below.on b2 hb
    have R3 := R2.below hb (Nat.le_refl _)
    have CS : Hid (Calls Try.prog 14 #[.slice a n c, .slice a2 n c2] w3 fun e w' => e = .returned (.bool true) ∧ ∃ q, w' = w3.drewN q) := by
      have := sameInsts_any a a2 n c n c2 z y w3 (by omega) R3 Y
      rw [HZ.out, decide_eq_true rfl] at this
      exact this
    clear hb C2 b2 R2 R3 Y
    go_wp2_with (first | (go_at_call 13; refine (num_any _ _).mono ?_; rintro e w' ⟨rfl, rfl⟩) | (go_at_call 14; refine CS.out.mono ?_; rintro e w' ⟨rfl, q, rfl⟩))
    replace b3 := Below.drawn b3 q
    clear CS
    generalize w3.drewN q = w2 at *
    have b2 := b3
    clear b3
    refine (C3.out _).mono ?_
    rintro e w4 ⟨a3, c3, rfl, _, R4, _, hb⟩
    have b4 : Below w.heap.size w w4 := Below.on b2 hb
    clear hb C3 b2
    go_wp2_with (go_at_call 13; refine (num_any _ _).mono ?_; rintro e w' ⟨rfl, rfl⟩)
    go_loop [11] (fun i => ∃ k : Nat, k ≤ m ∧ i = .int .i64 k) (fun i => m - (intOf i).toNat)
    case atStart => exact ⟨0, Nat.zero_le _, rfl⟩
    case round =>
      obtain ⟨k, hk, rfl⟩ := hrel
      by_cases hlt : k < m
      · have i1 : (k : Int) < (m : Int) := by omega
        obtain ⟨b, off, rfl, hbl, d0, d1, d2, d3⟩ := R4.at4 k hlt
        have hj := HJ.out k hlt
        unfold badJump at hj
        by_cases h4 : y' (k * 4) = 4
        · have hB : ¬ y' (k * 4 + 2) ≤ (k : Int) := by
            intro h
            rw [h4, decide_eq_true h] at hj
            cases hj
          rw [h4] at d0
          clear hj
          go_wp2
          go_round
          case rel => exact ⟨k + 1, by omega, by go_num⟩
          case measure => simp [intOf]; omega
        · clear hj
          go_wp2
          go_round
          case rel => exact ⟨k + 1, by omega, by go_num⟩
          case measure => simp [intOf]; omega
      · obtain rfl : k = m := by omega
        go_wp2_with fail
        refine (C4.out _ _ _ R4).mono ?_
        rintro e w5 ⟨rfl, hb⟩
        have b5 : Below w.heap.size w w5 := Below.on b4 hb
        clear hb C4 b4 R4
        go_wp2_with (go_at_call 13; refine (num_any _ _).mono ?_; rintro e w' ⟨rfl, rfl⟩)
        go_ret
        exact ⟨rfl, b5⟩

end Go.Proofs.Ytkomapgmhipkaaa
