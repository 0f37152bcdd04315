/-
  Of three parts of a drawn region, the middle one not wanted. Nothing of a program here.
-/
import Derived.Test.YtlnenmfippedpaaGreatZlah
namespace Go.Proofs.YtlnenmfippedpaaGreat
open Go.RowKit
set_option linter.unusedSimpArgs false
set_option linter.unusedVariables false
theorem wpMid_skip {P : Program} {ops : Array Oper} {Q : Exit → Act → World → Prop} {C : World → Prop} {o : Oper} {os : List Oper} {a : Act} {w : World} (hw : Region.wanted o (yielded ops a.tmps) = false)
    (hC : InC C w) (h : wpQuiet P ops (fun w' => ∃ u : Cls C, w' = u.at_) (fun a'' => Q .normal a'' w) os (a.put o.dst undef)) : wpMid P ops Q C o os a w := by
  unfold wpMid
  rw [if_neg (by rw [hw]; decide)]
  exact ⟨hC, h⟩
end Go.Proofs.YtlnenmfippedpaaGreat
