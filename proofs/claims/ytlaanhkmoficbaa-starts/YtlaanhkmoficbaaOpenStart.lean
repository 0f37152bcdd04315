/-
  What came in, opened: a Start.
-/
import Derived.Test.YtlaanhkmoficbaaOpenDeep
import Derived.Test.YtlaanhkmoficbaaSessPure
namespace Go.Proofs.Ytlaanhkmoficbaa
open Go.ChangeShapes Go.WideShapes

section
variable {H : Type} {enc : TypeId × Value → H} {w : World} {base : Nat} {spare : Nat → Bool} {held : Bool}

def StartR (w : World) (cs : List Value) : Prop := ∃ (id l cl : Int) (a : Option Addr) (n c : Nat) (z : Nat → Int), cs = startL id l cl (.slice a n c) ∧ ((Lit.int .i64 id).wf = true ∧ (Lit.int .i64 l).wf = true ∧ (Lit.int .i64 cl).wf = true) ∧ (n * 32 ≤ 140737488351232 ∧ n ≤ c ∧ (a = none → n = 0 ∧ c = 0)) ∧ Row w a (n * 4) fun i => .int .i64 (z i)

theorem opens_insts : Opens enc Try.prog w base spare held 22 (RowsR w 4 32) :=
  opens_ints Try.underlying22 (by decide) (by kernel_rfl) (by kernel_rfl) (intsAt_flat Try.underlying43 (e := 3) (by kernel_rfl) Try.underlying3 (by kernel_rfl) (by kernel_rfl))

theorem one_cell {cs : List Value} {o : Nat} {v : Value} (h : (cs.drop o).take 1 = [v]) : cs[o]? = some v := by
  have : ((cs.drop o).take 1)[0]? = some v := by rw [h]; rfl
  simpa using this

theorem Try.layoutStart : layout Try.prog 24 = some [(3, 0), (3, 1), (3, 2), (22, 3)] := by kernel_rfl
theorem opens_start : Opens enc Try.prog w base spare held 24 (StartR w) := by
  refine opens_imp (opens_layout (R := fun i => match i with | 3 => RowsR w 4 32 | _ => IntR) Try.layoutStart fun i y hy => ?_) ?_
  · match i, hy with
    | 0, hy => cases hy; exact opens_int Try.underlying3
    | 1, hy => cases hy; exact opens_int Try.underlying3
    | 2, hy => cases hy; exact opens_int Try.underlying3
    | 3, hy => cases hy; exact opens_insts
    | i + 4, hy => cases hy
  · rintro cs ⟨hl, h⟩
    rw [show Try.prog.cellsOf 24 = 4 by kernel_rfl] at hl
    obtain ⟨id, e0, w0⟩ := h 0 _ rfl
    obtain ⟨l, e1, w1⟩ := h 1 _ rfl
    obtain ⟨cl, e2, w2⟩ := h 2 _ rfl
    obtain ⟨a, n, c, z, e3, hf, hr⟩ := h 3 _ rfl
    simp only [show Try.prog.cellsOf 3 = 1 by kernel_rfl, show Try.prog.cellsOf 22 = 1 by kernel_rfl] at e0 e1 e2 e3
    replace e0 := one_cell e0; replace e1 := one_cell e1; replace e2 := one_cell e2; replace e3 := one_cell e3
    refine ⟨id, l, cl, a, n, c, z, ?_, ⟨w0, w1, w2⟩, hf, hr⟩
    apply List.ext_getElem?
    intro i
    match i with
    | 0 => exact e0
    | 1 => exact e1
    | 2 => exact e2
    | 3 => exact e3
    | i + 4 => rw [List.getElem?_eq_none (by omega), List.getElem?_eq_none (by simp [startL])]

end
end Go.Proofs.Ytlaanhkmoficbaa
