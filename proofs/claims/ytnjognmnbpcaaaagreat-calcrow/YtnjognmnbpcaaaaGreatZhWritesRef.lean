/-
  The document's answers to chapter 10: which writes may be, whether all are of a level, the value of one.
-/
import Derived.Test.YtnjognmnbpcaaaaGreatZlac
import Derived.Test.YtnjognmnbpcaaaaGreatZlab
namespace Go.Proofs.YtnjognmnbpcaaaaGreat
open Go.RowKit
set_option linter.unusedSimpArgs false
set_option linter.unusedVariables false
theorem rplace_any (l i : Int) (h : (0 ≤ l ∧ l ≤ 3) ∧ 0 ≤ i ∧ i ≤ 3) (w : World) :
    Calls Tryz.prog 135 #[.int .i64 l, .int .i64 i] w fun e w' => e = .returned (.int .i64 (4 * l + i)) ∧ w = w' := by
  obtain ⟨⟨h0, h1⟩, h2, h3⟩ := h
  go_enter Tryz.func135, Tryz.ntmps135
  go_wp2
  go_ret
  exact ⟨rfl, rfl⟩
set_option maxRecDepth 10000 in
set_option maxHeartbeats 2000000 in
theorem rwritesMay_any (a : Option Addr) (n c : Nat) (z : Nat → Int) (w : World) (hn : n ≤ 1152921504606846976) (h : Row w a (n * 3) fun i => .int .i64 (z i)) :
    Calls Tryz.prog 107 #[.slice a n c] w fun e w' => e = .returned (.bool (writesMay n z)) ∧ ∃ q, w' = w.drewN q := by
  go_enter Tryz.func107, Tryz.ntmps107
  go_wp2
  go_loopw [3] (fun i wr => ∃ k : Nat, k ≤ n ∧ i = .int .i64 k ∧ Hid (allTo (aloneW z) k = true) ∧ Hid (allTo (riseW z) k = true) ∧ ∃ q, wr = w.drewN q) (fun i _ => n - (intOf i).toNat)
  case atStart => exact ⟨0, Nat.zero_le _, rfl, rfl, rfl, 0, rfl⟩
  case round =>
    obtain ⟨k, hk, rfl, HS, HP, hq⟩ := hrel
    have HQ : Hid (∃ q, wr = w.drewN q) := hq
    replace h : Row wr a (n * 3) fun i => .int .i64 (z i) := by obtain ⟨q, rfl⟩ := hq; exact h
    clear hq
    by_cases hlt : k < n
    · have i1 : (k : Int) < (n : Int) := by omega
      obtain ⟨b, off, hsa, hbl, d0, d1, d2⟩ := h.at3 k hlt
      subst hsa
      have C1 := fun W => flip (rwordName_any (z (k * 3)) (z (k * 3 + 1)) W)
      have C2 := fun W => flip (rvalue_any (z (k * 3 + 2)) W)
      cases hw : (upToV (z (k * 3)) 3 && upToV (z (k * 3 + 1)) 3)
      · rw [hw] at C1
        have H1 := hide C1
        have HN : Hid (writesMay n z = false) := writesMay_alone k hlt (by unfold aloneW writeMay; rw [hw]; rfl)
        clear C1 C2 hw h
        go_wp2
        go_quiet ((go_at_call 134; exact Calls.quiet_of_same (H1.out _)))
        go_wp2
        go_ret
        exact ⟨ret_bool HN.out.symm, drewN_on HQ.out _⟩
      · rw [hw] at C1
        have H1 := hide C1
        cases hv : upToV (z (k * 3 + 2)) 255
        · rw [hv] at C2
          have H2 := hide C2
          have HN : Hid (writesMay n z = false) := writesMay_alone k hlt (by unfold aloneW writeMay; rw [hw, hv]; rfl)
          clear C1 C2 hw hv h
          go_wp2
          go_quiet ((first | (go_at_call 134; exact Calls.quiet_of_same (H1.out _)) | (go_at_call 52; exact Calls.quiet_of_same (H2.out _))))
          go_wp2
          go_ret
          exact ⟨ret_bool HN.out.symm, drewN_on HQ.out _⟩
        · rw [hv] at C2
          have H2 := hide C2
          have hA : aloneW z k = true := by unfold aloneW writeMay; rw [hw, hv]; rfl
          have HA : Hid (allTo (aloneW z) (k + 1) = true) := by
            show allTo (aloneW z) (k + 1) = true
            rw [allTo, HS.out, hA]
            rfl
          clear C1 C2 hw hv
          by_cases k0 : k = 0
          · have HR : Hid (allTo (riseW z) (k + 1) = true) := by subst k0; rfl
            have i5 : ¬ (0 : Int) < (k : Int) := by omega
            have dk : decide (0 < k) = false := decide_eq_false (by omega)
            clear h hA k0
            go_wp2
            go_quiet ((first | (go_at_call 134; exact Calls.quiet_of_same (H1.out _)) | (go_at_call 52; exact Calls.quiet_of_same (H2.out _))))
            go_wp2
            go_roundw
            case rel => exact ⟨k + 1, by omega, by go_num, HA, HR, drewN_on HQ.out _⟩
            case measure => simp [intOf]; omega
          · obtain ⟨j, hj⟩ : ∃ j : Nat, k - 1 = j := ⟨_, rfl⟩
            obtain ⟨_, _, hsa, _, e0, e1, e2⟩ := h.at3 j (by omega)
            cases hsa
            have m1 := writeMay_yes hA
            have m2 := writeMay_yes (allTo_get HS.out j (by omega))
            have H3 := hide fun W => flip (rplace_any _ _ ⟨m1.1, m1.2.1⟩ W)
            have H4 := hide fun W => flip (rplace_any _ _ ⟨m2.1, m2.2.1⟩ W)
            have ek : wkey z k = 4 * z (k * 3) + z (k * 3 + 1) := rfl
            have ej : wkey z j = 4 * z (j * 3) + z (j * 3 + 1) := rfl
            rw [← ek] at H3
            rw [← ej] at H4
            have i4 : (k : Int) - 1 = (j : Int) := by omega
            have i5 : (0 : Int) < (k : Int) := by omega
            have dk : decide (0 < k) = true := decide_eq_true (by omega)
            have i6 : (j : Int) < (n : Int) := by omega
            clear h hA m1 m2 ek ej
            by_cases hr : wkey z j < wkey z k
            · have HR : Hid (allTo (riseW z) (k + 1) = true) := by
                show allTo (riseW z) (k + 1) = true
                rw [allTo, HP.out, riseW, hj, decide_eq_true hr, Bool.or_true]
                rfl
              have i7 : ¬ wkey z k ≤ wkey z j := by omega
              clear hr hj k0
              generalize wkey z j = B, wkey z k = A at *
              go_wp2
              go_quiet ((first | (go_at_call 134; exact Calls.quiet_of_same (H1.out _)) | (go_at_call 52; exact Calls.quiet_of_same (H2.out _)) | (go_at_call 135; with_reducible exact Calls.quiet_of_same (H3.out _)) | (go_at_call 135; with_reducible exact Calls.quiet_of_same (H4.out _))))
              go_wp2
              go_roundw
              case rel => exact ⟨k + 1, by omega, by go_num, HA, HR, drewN_on HQ.out _⟩
              case measure => simp [intOf]; omega
            · have HN : Hid (writesMay n z = false) := writesMay_rise k hlt (by rw [riseW, hj, decide_eq_false hr, decide_eq_false k0]; rfl)
              have i7 : wkey z k ≤ wkey z j := by omega
              clear hr hj k0
              generalize wkey z j = B, wkey z k = A at *
              go_wp2
              go_quiet ((first | (go_at_call 134; exact Calls.quiet_of_same (H1.out _)) | (go_at_call 52; exact Calls.quiet_of_same (H2.out _)) | (go_at_call 135; with_reducible exact Calls.quiet_of_same (H3.out _)) | (go_at_call 135; with_reducible exact Calls.quiet_of_same (H4.out _))))
              go_wp2
              go_ret
              exact ⟨ret_bool HN.out.symm, drewN_on HQ.out _⟩
    · obtain rfl : k = n := by omega
      clear h
      go_wp2
      go_ret
      refine ⟨ret_bool ?_, HQ.out⟩
      rw [writesMay, HS.out, HP.out]
      simp only [Bool.true_and]
      exact decide_eq_decide.2 (by omega)
theorem rwritesAt_any (a : Option Addr) (n c : Nat) (z : Nat → Int) (l : Int) (w : World) (hn : n ≤ 1152921504606846976) (h : Row w a (n * 3) fun i => .int .i64 (z i)) :
    Calls Tryz.prog 87 #[.slice a n c, .int .i64 l] w fun e w' => e = .returned (.bool (atW n z l)) ∧ ∃ q, w' = w.drewN q := by
  have CM := hide (rwritesMay_any a n c z w hn h)
  go_enter Tryz.func87, Tryz.ntmps87
  go_wp2
  go_loop [5] (fun i => ∃ k : Nat, k ≤ n ∧ i = .int .i64 k ∧ Hid (allTo (atLv z l) k = true)) (fun i => n - (intOf i).toNat)
  case atStart => exact ⟨0, Nat.zero_le _, rfl, rfl⟩
  case round =>
    obtain ⟨k, hk, rfl, HS⟩ := hrel
    by_cases hlt : k < n
    · have i1 : (k : Int) < (n : Int) := by omega
      obtain ⟨b, off, hsa, hbl, d0, d1, d2⟩ := h.at3 k hlt
      subst hsa
      clear h CM
      by_cases v0 : z (k * 3) = l
      · have HN : Hid (allTo (atLv z l) (k + 1) = true) := by
          show allTo (atLv z l) (k + 1) = true
          rw [allTo, HS.out, atLv, v0]
          simp
        rw [v0] at d0
        clear v0
        go_wp2
        go_round
        case rel => exact ⟨k + 1, by omega, by go_num, HN⟩
        case measure => simp [intOf]; omega
      · have HN : Hid (atW n z l = false) := by
          show atW n z l = false
          rw [atW, allTo_no k hlt (show atLv z l k = false from beq_eq_false_iff_ne.2 v0), Bool.and_false]
        have dv : (z (k * 3) != l) = true := by simpa using v0
        go_wp2
        go_ret
        exact ⟨ret_bool HN.out.symm, 0, rfl⟩
    · obtain rfl : k = n := by omega
      clear h
      go_wp2_with fail
      refine CM.out.mono ?_
      rintro e w1 ⟨rfl, q, rfl⟩
      go_wp2
      go_ret
      exact ⟨ret_bool (by rw [atW, HS.out, Bool.and_true]), q, rfl⟩
set_option maxHeartbeats 1000000 in
theorem rfindWrite_any (a : Option Addr) (n c : Nat) (z : Nat → Int) (l i : Int) (w : World) (hn : n ≤ 1152921504606846976) (h : Row w a (n * 3) fun i => .int .i64 (z i)) :
    Calls Tryz.prog 111 #[.slice a n c, .int .i64 l, .int .i64 i] w fun e w' => e = .returned (.tuple #[.int .i64 (findVal n z l i), .bool (findIs n z l i)]) ∧ ∃ q, w' = w.drewN q := by
  have CM := fun W h => rwritesMay_any a n c z W hn h
  cases hm : writesMay n z
  · rw [hm] at CM
    have HN : Hid (findIs n z l i = false) := by show findIs n z l i = false; rw [findIs, hm]; rfl
    have CC := hide CM
    clear CM hm
    go_enter Tryz.func111, Tryz.ntmps111
    go_wp2
    go_loop [8] (fun i => i = .int .i64 0) (fun i => 0)
    case atStart => rfl
    case round =>
      subst hrel
      by_cases hlt : 0 < n
      · have i1 : (0 : Int) < (n : Int) := by omega
        go_wp2_with fail
        refine (CC.out _ h).mono ?_
        rintro e w1 ⟨rfl, q, rfl⟩
        clear CC h
        go_wp2
        go_ret2
        exact ⟨ret_int_bool (find_no HN.out).symm HN.out.symm, q, rfl⟩
      · have i1 : ¬ (0 : Int) < (n : Int) := by omega
        clear CC h
        go_wp2
        go_ret2
        exact ⟨ret_int_bool (find_no HN.out).symm HN.out.symm, 0, rfl⟩
  · rw [hm] at CM
    have HW := hide (writesMay_get hm)
    have CC := hide CM
    clear CM hm
    go_enter Tryz.func111, Tryz.ntmps111
    go_wp2
    go_loopw [8] (fun j wr => ∃ k : Nat, k ≤ n ∧ j = .int .i64 k ∧ Hid (noneTo z l i k = true) ∧ ∃ q, wr = w.drewN q) (fun j _ => n - (intOf j).toNat)
    case atStart => exact ⟨0, Nat.zero_le _, rfl, rfl, 0, rfl⟩
    case round =>
      obtain ⟨k, hk, rfl, HS, hq⟩ := hrel
      have HQ : Hid (∃ q, wr = w.drewN q) := hq
      replace h : Row wr a (n * 3) fun i => .int .i64 (z i) := by obtain ⟨q, rfl⟩ := hq; exact h
      clear hq
      by_cases hlt : k < n
      · have i1 : (k : Int) < (n : Int) := by omega
        go_wp2_with fail
        refine (CC.out _ h).mono ?_
        rintro e w1 ⟨rfl, q, rfl⟩
        replace HQ := hide (drewN_on HQ.out q)
        replace h := h.drewN q
        clear CC
        generalize wr.drewN q = W at *
        obtain ⟨b, off, hsa, hbl, d0, d1, d2⟩ := h.at3 k hlt
        subst hsa
        clear h
        by_cases v0 : z (k * 3) = l
        · by_cases v1 : z (k * 3 + 1) = i
          · have HF := hide (find_in HW.out ⟨k, hlt, v0, v1, rfl⟩)
            rw [v0] at d0
            rw [v1] at d1
            clear v0 v1
            go_wp2
            go_ret2
            exact ⟨ret_int_bool HF.out.2.symm HF.out.1.symm, HQ.out⟩
          · have HN : Hid (noneTo z l i (k + 1) = true) := by
              show allTo _ (k + 1) = true
              rw [allTo, show allTo _ k = true from HS.out]
              unfold isWord
              rw [beq_eq_false_iff_ne.2 v1, Bool.and_false]
              rfl
            rw [v0] at d0
            clear v0
            go_wp2
            go_roundw
            case rel => exact ⟨k + 1, by omega, by go_num, HN, HQ.out⟩
            case measure => simp [intOf]; omega
        · have HN : Hid (noneTo z l i (k + 1) = true) := by
            show allTo _ (k + 1) = true
            rw [allTo, show allTo _ k = true from HS.out]
            unfold isWord
            rw [beq_eq_false_iff_ne.2 v0, Bool.false_and]
            rfl
          go_wp2
          go_roundw
          case rel => exact ⟨k + 1, by omega, by go_num, HN, HQ.out⟩
          case measure => simp [intOf]; omega
      · obtain rfl : k = n := by omega
        have HN : Hid (findIs k z l i = false) := by
          show findIs k z l i = false
          rw [findIs, hasW, HS.out, Bool.not_true, Bool.and_false]
        clear h CC
        go_wp2
        go_ret2
        exact ⟨ret_int_bool (find_no HN.out).symm HN.out.symm, HQ.out⟩
end Go.Proofs.YtnjognmnbpcaaaaGreat
