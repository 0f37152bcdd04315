/-
  The law FetchOwn: what a session reads that it is to write itself.
-/
import Derived.Test.YtaaenolbfhhnfaaGreatZlba
namespace Go.Proofs.YtaaenolbfhhnfaaGreat
open Go.RowKit
set_option linter.unusedSimpArgs false
set_option linter.unusedVariables false
def ownM (v : Int) : PMach := begunM.setS 0 ((begunM.at 0).setL 2 [0, 0, v])
def ownL (v : Int) : PMach := (ownM v).setLv 0 (((ownM v).lv 0).set 2 6)
def ownOk (M : PMach) (v : Int) : Bool :=
  decide ((fetchP M 0).2 = 0) && decide ((fetchP M 0).1.sess.length = 2) && decide (lz ((fetchP M 0).1.at 0).num 5 = v) && decide (((fetchP M 0).1.at 0).reads.length = 0) && decide (lz ((fetchP M 0).1.at 0).num 4 = 1) && decide (lz ((fetchP M 0).1.at 0).num 11 = 0) && decide ((fetchP M 0).1.words = M.words) && decide ((fetchP M 0).1.trace = [3, 0, 0, v])
theorem ownOk_get {M : PMach} {v : Int} (h : ownOk M v = true) : ∃ X, fetchP M 0 = (X, 0) ∧ X.sess.length = 2 ∧ lz (X.at 0).num 5 = v ∧ (X.at 0).reads.length = 0 ∧ lz (X.at 0).num 4 = 1 ∧ lz (X.at 0).num 11 = 0 ∧ X.words = M.words ∧ X.trace = [3, 0, 0, v] := by
  unfold ownOk at h
  simp only [Bool.and_eq_true, decide_eq_true_eq] at h
  obtain ⟨⟨⟨⟨⟨⟨⟨h1, h2⟩, h3⟩, h4⟩, h5⟩, h6⟩, h7⟩, h8⟩ := h
  exact ⟨_, Prod.ext rfl h1, h2, h3, h4, h5, h6, h7, h8⟩
theorem own_all : ∀ v : Nat, v < 256 → (ownOk (ownM v) v && ownOk (ownL v) v) = true := by decide +kernel
theorem own_get {v : Int} (h0 : 0 ≤ v) (h1 : v ≤ 255) (b : Bool) : ∃ X, fetchP (bif b then ownL v else ownM v) 0 = (X, 0) ∧ X.sess.length = 2 ∧ lz (X.at 0).num 5 = v ∧ (X.at 0).reads.length = 0 ∧ lz (X.at 0).num 4 = 1 ∧ lz (X.at 0).num 11 = 0 ∧ X.words = (bif b then ownL v else ownM v).words ∧ X.trace = [3, 0, 0, v] := by
  obtain ⟨n, rfl⟩ : ∃ n : Nat, v = n := ⟨v.toNat, by omega⟩
  have := own_all n (by omega)
  simp only [Bool.and_eq_true] at this
  cases b
  · exact ownOk_get this.1
  · exact ownOk_get this.2
end Go.Proofs.YtaaenolbfhhnfaaGreat
