/-
  SameReads, of what two sessions read.
-/
import Derived.Test.YtlnenmfippedpaaGreatZlba
namespace Go.Proofs.YtlnenmfippedpaaGreat
open Go.RowKit
set_option linter.unusedSimpArgs false
set_option linter.unusedVariables false
theorem sameReads_yes (q q' : SesM) (x x' : PSess) (W : World) (h : SessIs W q x) (h' : SessIs W q' x') (e : x'.reads = x.reads) :
    Calls Tryz.prog 16 #[.slice q.r.a q.r.n q.r.c, .slice q'.r.a q'.r.n q'.r.c] W fun e w' => e = .returned (.bool true) ∧ ∃ q, w' = W.drewN q := by
  obtain ⟨_, _, r1, _⟩ := h
  obtain ⟨_, _, r2, _⟩ := h'
  rw [e] at r2
  have er : q'.r.n = q.r.n := (r2.len (by decide)).symm.trans (r1.len (by decide))
  have R2 := r2.2.2
  rw [er] at R2 ⊢
  have := sameReads_any q.r.a q'.r.a q.r.n q.r.c q.r.n q'.r.c (lz x.reads) (lz x.reads) W (by have := r1.2.1.1; omega) r1.2.2 R2
  rw [show (decide (q.r.n = q.r.n) && eqTo (lz x.reads) (lz x.reads) (q.r.n * 3)) = true from by rw [decide_eq_true rfl, eqTo_mk fun _ _ => rfl]; rfl] at this
  exact this
end Go.Proofs.YtlnenmfippedpaaGreat
