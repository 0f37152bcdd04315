/-
  What a step of layer 6 turns: nothing, or one session's registers and place; laid back, the machine is as it was. Nothing of a program here.
-/
import Derived.Test.YtnjognmnbpcaaaaGreatZhCalcProg
namespace Go.Proofs.YtnjognmnbpcaaaaGreat
open Go.RowKit
set_option linter.unusedSimpArgs false
set_option linter.unusedVariables false
theorem calc_cases {A : MacM} {M : PMach} {w : World} (h : MachIs w A M) (i : Int) :
    calcP M i = (noMach, 1700) ∨ ∃ (k : Nat) (R : Nat → Int) (T : Int), i = k ∧ k < M.sess.length ∧ hereP M k = true ∧ calcP M i = ((M.doR k (R 0) (R 1) (R 2) (R 3)).doN k 4 T, 0) ∧ lz (M.at k).num 4 < T ∧ T ≤ ((A.q k).p.n : Int) ∧ (A.q k).p.n ≤ 16 ∧ 0 ≤ lz (M.at k).num 4 := by
  cases hc : (hereP M i && (decide (runP (M.at i.toNat) = 0) || (decide (runP (M.at i.toNat) = 1) || decide (runP (M.at i.toNat) = 4))))
  · refine .inl ?_
    unfold calcP
    rw [hc]
    rfl
  · simp only [Bool.and_eq_true, Bool.or_eq_true, decide_eq_true_eq] at hc
    obtain ⟨hh, hr⟩ := hc
    obtain ⟨hmay, k, rfl, hk0⟩ := hereP_yes hh
    rw [Int.toNat_natCast] at hr
    have hk : k < A.s.n := by have := h.sess.1; omega
    have hok := here_sess hmay hk0
    obtain ⟨p, hI⟩ := ins_at h hk hok rfl (show runP (M.at k) ≠ -1 by omega)
    have hp := hI.pc
    have hlt := hI.lt
    refine .inr ⟨k, calcR (M.at k), calcTo (M.at k), rfl, hk0, hh, calcP_yes hh hr rfl rfl, ?_, ?_, hI.few, by omega⟩
    · unfold calcTo
      split
      · rename_i h4
        have hj := hI.jump
        have hcd := hI.code h4.1 (by decide)
        unfold badJump at hj
        rw [hcd] at hj
        simp only [beq_self_eq_true, Bool.true_and, Bool.or_eq_false_iff, decide_eq_false_iff_not] at hj
        rw [hI.ins 2]
        omega
      · show _ < lz (M.at k).num 4 + 1
        omega
    · unfold calcTo
      split
      · rename_i h4
        have hj := hI.jump
        have hcd := hI.code h4.1 (by decide)
        unfold badJump at hj
        rw [hcd] at hj
        simp only [beq_self_eq_true, Bool.true_and, Bool.or_eq_false_iff, decide_eq_false_iff_not] at hj
        rw [hI.ins 2]
        omega
      · show lz (M.at k).num 4 + 1 ≤ _
        omega
theorem list14 {l : List Int} (h : l.length = 14) : l = [lz l 0, lz l 1, lz l 2, lz l 3, lz l 4, lz l 5, lz l 6, lz l 7, lz l 8, lz l 9, lz l 10, lz l 11, lz l 12, lz l 13] := by
  refine List.ext_getElem (by simp [h]) fun i h1 h2 => ?_
  have e : l[i] = lz l i := by simp [lz, List.getD, h1]
  rw [e]
  have : i = 0 ∨ i = 1 ∨ i = 2 ∨ i = 3 ∨ i = 4 ∨ i = 5 ∨ i = 6 ∨ i = 7 ∨ i = 8 ∨ i = 9 ∨ i = 10 ∨ i = 11 ∨ i = 12 ∨ i = 13 := by omega
  rcases this with rfl | rfl | rfl | rfl | rfl | rfl | rfl | rfl | rfl | rfl | rfl | rfl | rfl | rfl <;> rfl
theorem setS_same {M : PMach} {k : Nat} (hk : k < M.sess.length) : M.setS k (M.at k) = M := by
  have e2 : M.sess.set k (M.at k) = M.sess := by
    refine List.ext_getElem (by simp) fun i h1 h2 => ?_
    rw [List.getElem_set]
    split
    · rename_i e; subst e; simp [PMach.at, List.getD, hk]
    · rfl
  show (⟨M.words, M.clocks, M.ceil, M.sess.set k (M.at k), M.trace⟩ : PMach) = M
  rw [e2]
/-- Place and registers laid back. -/
theorem calc_back {M : PMach} {k : Nat} {a b c d T : Int} (hk : k < M.sess.length) (h : (M.at k).num.length = 14) :
    (((M.doR k a b c d).doN k 4 T).doN k 4 (lz (M.at k).num 4)).doR k (lz (M.at k).num 5) (lz (M.at k).num 6) (lz (M.at k).num 7) (lz (M.at k).num 8) = M := by
  unfold PMach.doR
  rw [show M.doN k 5 a = M.setS k ((M.at k).setN 5 a) from rfl]
  rw [setS_doN' hk, setS_doN' hk, setS_doN' hk, setS_doN' hk, setS_doN' hk, setS_doN' hk, setS_doN' hk, setS_doN' hk, setS_doN' hk]
  have e : ((((((((((M.at k).setN 5 a).setN 6 b).setN 7 c).setN 8 d).setN 4 T).setN 4 (lz (M.at k).num 4)).setN 5 (lz (M.at k).num 5)).setN 6 (lz (M.at k).num 6)).setN 7 (lz (M.at k).num 7)).setN 8 (lz (M.at k).num 8) = M.at k := by
    generalize M.at k = x at h
    obtain ⟨num, p, r, t⟩ := x
    have h' : num.length = 14 := h
    have e := list14 h'
    unfold PSess.setN
    simp only [PSess.mk.injEq, and_true]
    generalize lz num 0 = n0 at *
    generalize lz num 1 = n1 at *
    generalize lz num 2 = n2 at *
    generalize lz num 3 = n3 at *
    generalize lz num 4 = n4 at *
    generalize lz num 5 = n5 at *
    generalize lz num 6 = n6 at *
    generalize lz num 7 = n7 at *
    generalize lz num 8 = n8 at *
    generalize lz num 9 = n9 at *
    generalize lz num 10 = n10 at *
    generalize lz num 11 = n11 at *
    generalize lz num 12 = n12 at *
    generalize lz num 13 = n13 at *
    subst e
    rfl
  rw [e]
  exact setS_same hk
end Go.Proofs.YtnjognmnbpcaaaaGreat
