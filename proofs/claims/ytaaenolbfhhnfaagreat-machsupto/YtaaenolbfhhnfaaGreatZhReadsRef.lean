/-
  The document's answers to chapter 9: which reads may be, whose words are there.
-/
import Derived.Test.YtaaenolbfhhnfaaGreatZlad
import Derived.Test.YtaaenolbfhhnfaaGreatZlae
import Derived.Test.YtaaenolbfhhnfaaGreatZlab
import Derived.Test.YtaaenolbfhhnfaaGreatZlac
namespace Go.Proofs.YtaaenolbfhhnfaaGreat
open Go.RowKit
set_option linter.unusedSimpArgs false
set_option linter.unusedVariables false
set_option maxRecDepth 10000 in
set_option maxHeartbeats 2000000 in
theorem rreadsMay_any (a : Option Addr) (n c : Nat) (z : Nat → Int) (w : World) (hn : n ≤ 1152921504606846976) (h : Row w a (n * 3) fun i => .int .i64 (z i)) :
    Calls Tryz.prog 96 #[.slice a n c] w fun e w' => e = .returned (.bool (readsMay n z)) ∧ Below w.heap.size w w' := by
  go_enter Tryz.func96, Tryz.ntmps96
  go_wp2
  go_loopw [3] (fun i wr => ∃ k : Nat, k ≤ n ∧ i = .int .i64 k ∧ Hid (allTo (aloneP z) k = true) ∧ Hid (allTo (apartP z) k = true) ∧ (Row wr a (n * 3) fun i => .int .i64 (z i)) ∧ Below w.heap.size w wr) (fun i _ => n - (intOf i).toNat)
  case atStart => exact ⟨0, Nat.zero_le _, rfl, rfl, rfl, h, Below.refl _ _⟩
  case round =>
    obtain ⟨k, hk, rfl, HS, HP, R, hb⟩ := hrel
    clear h
    have HR := hide R
    have HB := hide hb
    clear R hb
    by_cases hlt : k < n
    · have i1 : (k : Int) < (n : Int) := by omega
      obtain ⟨b, off, hsa, hbl, d0, d1, d2⟩ := HR.out.at3 k hlt
      subst hsa
      have C1 := fun W => flip (rwordName_any (z (k * 3)) (z (k * 3 + 1)) W)
      have C2 := fun W => flip (rclock_any (z (k * 3 + 2)) W)
      cases hw : (upToV (z (k * 3)) 3 && upToV (z (k * 3 + 1)) 3)
      · rw [hw] at C1
        have H1 := hide C1
        have HN : Hid (readsMay n z = false) := readsMay_alone k hlt (by unfold aloneP readMay; rw [hw]; rfl)
        clear C1 C2 hw
        go_wp2
        go_quiet ((go_at_call 161; exact Calls.quiet_of_same (H1.out _)))
        go_wp2
        go_ret
        exact ⟨ret_bool HN.out.symm, Below.drawn HB.out _⟩
      · rw [hw] at C1
        have H1 := hide C1
        cases hv : upToV (z (k * 3 + 2)) 65535
        · rw [hv] at C2
          have H2 := hide C2
          have HN : Hid (readsMay n z = false) := readsMay_alone k hlt (by unfold aloneP readMay; rw [hw, hv]; rfl)
          clear C1 C2 hw hv
          go_wp2
          go_quiet ((first | (go_at_call 161; exact Calls.quiet_of_same (H1.out _)) | (go_at_call 62; exact Calls.quiet_of_same (H2.out _))))
          go_wp2
          go_ret
          exact ⟨ret_bool HN.out.symm, Below.drawn HB.out _⟩
        · rw [hv] at C2
          have H2 := hide C2
          have HA : Hid (allTo (aloneP z) (k + 1) = true) := by
            show allTo (aloneP z) (k + 1) = true
            rw [allTo, HS.out]
            unfold aloneP readMay
            rw [hw, hv]
            rfl
          clear C1 C2 hw hv
          go_wp2
          go_quiet ((first | (go_at_call 161; exact Calls.quiet_of_same (H1.out _)) | (go_at_call 62; exact Calls.quiet_of_same (H2.out _))))
          replace HR : Hid (Row (wr.drewN nq) (some ⟨b, off, none⟩) (n * 3) fun i => .int .i64 (z i)) := HR.out.drewN nq
          replace HB := hide (Below.drawn HB.out nq)
          clear H1 H2 d0 d1 d2 hbl HS
          generalize wr.drewN nq = W at *
          go_wp2
          go_loopw [4] (fun j wr => ∃ m : Nat, m ≤ k ∧ j = .int .i64 m ∧ Hid (noneTo z (z (k * 3)) (z (k * 3 + 1)) m = true) ∧ (Row wr (some ⟨b, off, none⟩) (n * 3) fun i => .int .i64 (z i)) ∧ Below w.heap.size w wr) (fun j _ => k - (intOf j).toNat)
          case atStart => exact ⟨0, Nat.zero_le _, rfl, rfl, HR.out, HB.out⟩
          case round =>
            rename_i wi
            obtain ⟨m, hm, rfl, HM, R, hb⟩ := hrel
            clear HR HB
            have HR := hide R
            have HB := hide hb
            clear R hb
            by_cases hmk : m < k
            · have i2 : (m : Int) < (k : Int) := by omega
              have i3 : (m : Int) < (n : Int) := by omega
              obtain ⟨_, _, hsa, hbl, d0, d1, d2⟩ := HR.out.at3 k hlt
              cases hsa
              obtain ⟨_, _, hsa, _, e0, e1, e2⟩ := HR.out.at3 m (by omega)
              cases hsa
              by_cases v0 : z (m * 3) = z (k * 3)
              · by_cases v1 : z (m * 3 + 1) = z (k * 3 + 1)
                · have HN : Hid (readsMay n z = false) := readsMay_apart k hlt (allTo_no m hmk (by unfold isWord; rw [v0, v1]; simp))
                  rw [v0] at e0
                  rw [v1] at e1
                  clear v0 v1
                  go_wp2
                  go_quiet (fail)
                  go_wp2
                  go_ret
                  exact ⟨ret_bool HN.out.symm, Below.drawn HB.out _⟩
                · have HN : Hid (noneTo z (z (k * 3)) (z (k * 3 + 1)) (m + 1) = true) := by
                    show allTo _ (m + 1) = true
                    rw [allTo, show allTo _ m = true from HM.out]
                    unfold isWord
                    rw [beq_eq_false_iff_ne.2 v1, Bool.and_false]
                    rfl
                  have dv : decide (z (m * 3 + 1) = z (k * 3 + 1)) = false := decide_eq_false v1
                  rw [v0] at e0
                  clear v0
                  go_wp2
                  go_quiet (fail)
                  go_wp2
                  go_roundw
                  case rel =>
                    first
                      | exact ⟨m + 1, by omega, by go_num, HN, HR.out.drewN _, Below.drawn HB.out _⟩
                      | (repeat apply Exists.intro
                         exact ⟨⟨m + 1, by omega, by go_num, HN, HR.out.drewN _, Below.drawn HB.out _⟩, rfl⟩)
                  case measure => simp [intOf]; omega
              · have HN : Hid (noneTo z (z (k * 3)) (z (k * 3 + 1)) (m + 1) = true) := by
                  show allTo _ (m + 1) = true
                  rw [allTo, show allTo _ m = true from HM.out]
                  unfold isWord
                  rw [beq_eq_false_iff_ne.2 v0, Bool.false_and]
                  rfl
                have dv : decide (z (m * 3) = z (k * 3)) = false := decide_eq_false v0
                go_wp2
                go_quiet (fail)
                go_wp2
                go_roundw
                case rel =>
                  first
                    | exact ⟨m + 1, by omega, by go_num, HN, HR.out.drewN _, Below.drawn HB.out _⟩
                    | (repeat apply Exists.intro
                       exact ⟨⟨m + 1, by omega, by go_num, HN, HR.out.drewN _, Below.drawn HB.out _⟩, rfl⟩)
                case measure => simp [intOf]; omega
            · obtain rfl : m = k := by omega
              have HN : Hid (allTo (apartP z) (m + 1) = true) := by
                show allTo (apartP z) (m + 1) = true
                rw [allTo, HP.out]
                exact HM.out
              go_wp2
              go_roundw
              case rel =>
                first
                  | exact ⟨m + 1, by omega, by go_num, HA, HN, HR.out, HB.out⟩
                  | (repeat apply Exists.intro
                     exact ⟨⟨m + 1, by omega, by go_num, HA, HN, HR.out, HB.out⟩, rfl⟩)
              case measure => simp [intOf]; omega
    · obtain rfl : k = n := by omega
      go_wp2
      go_ret
      refine ⟨ret_bool ?_, HB.out⟩
      rw [readsMay, HS.out, HP.out]
      simp only [Bool.true_and]
      exact decide_eq_decide.2 (by omega)
end Go.Proofs.YtaaenolbfhhnfaaGreat
