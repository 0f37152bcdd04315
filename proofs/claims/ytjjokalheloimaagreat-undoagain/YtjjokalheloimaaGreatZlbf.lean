/-
  A machine that may be, and tells one event more, may be.
-/
import Derived.Test.YtjjokalheloimaaGreatZlbc
namespace Go.Proofs.YtjjokalheloimaaGreat
open Go.RowKit
set_option linter.unusedSimpArgs false
set_option linter.unusedVariables false
theorem SessOk.label {s : Nat → Sl} {x : PSess} (h : SessOk s x) : upToV (lz x.num 1) 3 = true := by
  have h1 := h.start
  unfold startMay at h1
  simp only [Bool.and_eq_true] at h1
  have h2 := h1.2.1
  unfold belowV at h2
  split at h2
  · rename_i hc
    exact upToV_of hc.1.1 (by omega)
  · cases h2
theorem tell_may {M : PMach} {k : Nat} (h : machMay M = true) (hk : k < M.sess.length) (ht : M.trace.length % 4 = 0) (c v : Int) : machMay (tellP M k c v) = true := by
  unfold tellP
  split
  case isFalse => exact h
  rename_i hlt
  obtain ⟨h1, h2, h3, h4, h5, h6, h7⟩ := machMay_parts h
  have hl := (here_sess h hk).label
  have htn : M.tn = M.trace.length / 4 := rfl
  have htn' : (M.trace ++ [lz (M.at k).num 0, lz (M.at k).num 1, c, v]).length / 4 = M.tn + 1 := by rw [List.length_append]; show (M.trace.length + 4) / 4 = _; omega
  have hlab : allTo (labOk { M with trace := M.trace ++ [lz (M.at k).num 0, lz (M.at k).num 1, c, v] }) (M.tn + 1) = true := by
    refine allTo_mk fun j hj => ?_
    show upToV (lz (M.trace ++ [lz (M.at k).num 0, lz (M.at k).num 1, c, v]) (j * 4 + 1)) 3 = true
    by_cases e : j < M.tn
    · have := allTo_get h7 j e
      have e2 : lz (M.trace ++ [lz (M.at k).num 0, lz (M.at k).num 1, c, v]) (j * 4 + 1) = lz M.trace (j * 4 + 1) := by
        unfold lz
        rw [List.getD_eq_getElem?_getD, List.getElem?_append_left (by omega), ← List.getD_eq_getElem?_getD]
      rw [e2]
      exact this
    · have ej : j * 4 + 1 = M.trace.length + 1 := by omega
      rw [ej]
      have e2 : lz (M.trace ++ [lz (M.at k).num 0, lz (M.at k).num 1, c, v]) (M.trace.length + 1) = lz (M.at k).num 1 := by
        unfold lz
        rw [List.getD_eq_getElem?_getD, List.getElem?_append_right (by omega), show M.trace.length + 1 - M.trace.length = 1 by omega]
        rfl
      rw [e2]
      exact hl
  have e0 : ({ M with trace := M.trace ++ [lz (M.at k).num 0, lz (M.at k).num 1, c, v] } : PMach).tn = M.tn + 1 := htn'
  unfold machMay
  rw [e0]
  rw [show ({ M with trace := M.trace ++ [lz (M.at k).num 0, lz (M.at k).num 1, c, v] } : PMach).ceil = M.ceil from rfl]
  simp only [Bool.and_eq_true, decide_eq_true_eq]
  exact ⟨⟨h1, h2, h3, by omega⟩, h5, h6, hlab⟩
theorem againM_trace (M : PMach) (k : Nat) : (againM M k).trace = M.trace := by
  unfold againM
  have eN : ∀ (X : PMach) (a : Nat) (u : Int), (X.doN k a u).trace = X.trace := fun _ _ _ => rfl
  have eR : ∀ (X : PMach) (a b c d : Int), (X.doR k a b c d).trace = X.trace := fun X a b c d => by unfold PMach.doR; rw [eN, eN, eN, eN]
  rw [eN, eR, eN, eN]; rfl
theorem again_here {M : PMach} {k : Nat} (hm : machMay M = true) (h4 : M.words.length = 4) (hk : k < M.sess.length) (h14 : (M.at k).num.length = 14) (ht : M.trace.length % 4 = 0) (c : Int) : hereP (againR M k c) k = true := by
  have h1 := againM_may hm h4 hk h14
  have h2 := againR_loosed h4 hk c
  have hl : (againM M k).sess.length = M.sess.length := by
    have := h2.len
    unfold againR at this
    rw [tellP_sess] at this
    exact this
  have htr : (againM M k).trace = M.trace := by
    unfold againM
    have eN : ∀ (X : PMach) (a : Nat) (u : Int), (X.doN k a u).trace = X.trace := fun _ _ _ => rfl
    have eR : ∀ (X : PMach) (a b c d : Int), (X.doR k a b c d).trace = X.trace := fun X a b c d => by unfold PMach.doR; rw [eN, eN, eN, eN]
    rw [eN, eR, eN, eN]; rfl
  have h3 := tell_may (k := k) (c := c) (v := triesP M k) h1 (by omega) (by rw [htr]; exact ht)
  unfold hereP
  rw [show againR M k c = tellP (againM M k) k c (triesP M k) from rfl, h3, decide_eq_true (by omega : (0 : Int) ≤ k), tellP_sess, hl, decide_eq_true (by omega : (k : Int) < (M.sess.length : Int))]
  rfl
theorem end_here {M : PMach} {k : Nat} {r t : Int} (hm : machMay M = true) (h4 : M.words.length = 4) (hk : k < M.sess.length) (h14 : (M.at k).num.length = 14) (ht : M.trace.length % 4 = 0) (ur : upToV r 5 = true) (ut : upToV t 255 = true) : hereP (endR M k r t) k = true := by
  have h1 := endM_may (r := r) (t := t) hm h4 hk h14 ur ut
  have h2 := endR_loosed h4 hk r t
  have hl : (endM M k r t).sess.length = M.sess.length := by
    have := h2.len
    unfold endR at this
    rw [tellP_sess] at this
    exact this
  have htr : (endM M k r t).trace = M.trace := rfl
  have h3 := tell_may (k := k) (c := 6) (v := r) h1 (by omega) (by rw [htr]; exact ht)
  unfold hereP
  rw [show endR M k r t = tellP (endM M k r t) k 6 r from rfl, h3, decide_eq_true (by omega : (0 : Int) ≤ k), tellP_sess, hl, decide_eq_true (by omega : (k : Int) < (M.sess.length : Int))]
  rfl
end Go.Proofs.YtjjokalheloimaaGreat
