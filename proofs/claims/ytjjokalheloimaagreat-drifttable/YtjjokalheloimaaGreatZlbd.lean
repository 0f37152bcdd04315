/-
  A level of words of one's own is laid into a machine of one's own.
-/
import Derived.Test.YtjjokalheloimaaGreatZlac
import Derived.Test.YtjjokalheloimaaGreatZlad
import Derived.Test.YtjjokalheloimaaGreatZlaf
namespace Go.Proofs.YtjjokalheloimaaGreat
open Go.RowKit
set_option linter.unusedSimpArgs false
set_option linter.unusedVariables false
def MacM.setW (A : MacM) (g : Nat) (s : Sl) : MacM := { A with w := fun j => if j = g then s else A.w j }
theorem MacM.sl_setW (A : MacM) {g : Nat} (hg : g < 4) (s : Sl) (j : Nat) : (A.setW g s).sl j = if j = g then s else A.sl j := by
  unfold MacM.sl MacM.setW
  by_cases h1 : j < 4
  · rw [if_pos h1, if_pos h1]
  · rw [if_neg h1, if_neg h1, if_neg (by omega : ¬ j = g)]
theorem PMach.lv_setLv' (M : PMach) {g : Nat} (hg : g < M.words.length) (l : List Int) (k : Nat) : (M.setLv g l).lv k = if k = g then l else M.lv k := by
  show (M.words.set g l).getD k [] = _
  by_cases e : k = g
  · subst e; rw [if_pos rfl, getD_set_eq _ _ hg]
  · rw [if_neg e, getD_set_ne' _ _ (Ne.symm e)]; rfl
theorem MachOwn.withLv {D D2 : Nat → Prop} {W : World} {A : MacM} {M : PMach} (h : MachOwn D W A M) (hd : ∀ k, D k → D2 k → False) {g : Nat} (hg : g < 4) {s : Sl} {l : List Int} (hs : SlIs W 3 s l) (ho : SlOwn D2 W s) :
    MachOwn (fun k => D k ∨ D2 k) W (A.setW g s) (M.setLv g l) := by
  have hn : (A.setW g s).num = A.num := rfl
  have key : ∀ j, j < A.num → 0 < (A.sl j).n → 0 < s.n → (A.sl j).a ≠ s.a := fun j hj h0 h1 => (h.own j hj).ne ho hd h0 h1
  have h4 := h.is.four
  refine ⟨⟨by show (M.words.set g l).length = 4; rw [List.length_set]; exact h4, h.is.clocks, fun k hk => ?_, h.is.sess, h.is.trace⟩, fun j hj => ?_, fun i j hij hj h0 h1 => ?_, ?_⟩
  · rw [PMach.lv_setLv' M (by omega)]
    show SlIs W 3 (if k = g then s else A.w k) _
    by_cases e : k = g
    · rw [if_pos e, if_pos e]; exact hs
    · rw [if_neg e, if_neg e]; exact h.is.words k hk
  · rw [A.sl_setW hg]
    split
    · exact ho.mono fun k hk => .inr hk
    · exact (h.own j hj).mono fun k hk => .inl hk
  · rw [hn] at hj
    rw [A.sl_setW hg] at h0 h1 ⊢
    rw [A.sl_setW hg]
    by_cases i5 : i = g
    · rw [if_pos i5] at h0 ⊢
      rw [if_neg (by omega)] at h1 ⊢
      exact (key j hj h1 h0).symm
    · rw [if_neg i5] at h0 ⊢
      by_cases j5 : j = g
      · rw [if_pos j5] at h1 ⊢
        exact key i (by omega) h0 h1
      · rw [if_neg j5] at h1 ⊢
        exact h.apart i j hij hj h0 h1
  · obtain ⟨v, hv, hr, hb⟩ := h.trace
    refine ⟨v, hv, hr, fun x hx => ⟨.inl (hb x hx).1, fun j hj hj5 h0 => ?_⟩⟩
    rw [A.sl_setW hg] at h0 ⊢
    split at h0
    · rename_i e
      rw [if_pos e]
      intro e2
      obtain ⟨b, e3, hD, _⟩ := ho h0
      rw [e3] at e2
      simp only [Option.some.injEq, Addr.mk.injEq, and_true] at e2
      exact hd b (e2 ▸ (hb x hx).1) hD
    · rename_i e
      rw [if_neg e]
      exact (hb x hx).2 j hj hj5 h0
theorem St.withLv {w0 W : World} {L : List Itm} (h : St w0 W L) (i i2 : Nat) {D D2 : Nat → Prop} {A : MacM} {M : PMach} {g : Nat} {s : Sl} {l : List Int} (ei : L[i]? = some (machI D A M)) (e2 : L[i2]? = some (lisI D2 3 s l)) (hne : i ≠ i2) (hg : g < 4) :
    St w0 W ((L.set i (machI (fun k => D k ∨ D2 k) (A.setW g s) (M.setLv g l))).set i2 empI) := by
  have hL : SlIs W 3 s l ∧ SlOwn D2 W s := h.get i2 e2
  exact h.give i i2 ei e2 hne (machI (fun k => D k ∨ D2 k) (A.setW g s) (M.setLv g l)) (machI_loc _ _ _) (MachOwn.withLv (show MachOwn D W A M from h.get i ei) (h.apart i i2 _ _ ei e2 hne) hg hL.1 hL.2) fun k hk => hk
end Go.Proofs.YtjjokalheloimaaGreat
