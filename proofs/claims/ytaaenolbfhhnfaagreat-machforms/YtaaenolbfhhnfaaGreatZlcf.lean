/-
  A machine that may be, behind a fetch, may be.
-/
import Derived.Test.YtaaenolbfhhnfaaGreatZlbd
namespace Go.Proofs.YtaaenolbfhhnfaaGreat
open Go.RowKit
set_option linter.unusedSimpArgs false
set_option linter.unusedVariables false
theorem word_may {M : PMach} (hm : machMay M = true) {l i : Int} (h : thereV M.lens l i = true) : 0 ≤ M.wz l.toNat (i.toNat * 3) ∧ M.wz l.toNat (i.toNat * 3) ≤ 255 := by
  unfold thereV at h
  rw [decide_eq_true_eq] at h
  obtain ⟨⟨h0, h1⟩, h2, h3⟩ := h
  obtain ⟨h4, hw⟩ := lvMay_get (lvTo_get (machMay_parts hm).1 l.toNat (by omega))
  exact upToV_yes (wmay_yes (wordsTo_get hw i.toNat (by omega))).1
end Go.Proofs.YtaaenolbfhhnfaaGreat
