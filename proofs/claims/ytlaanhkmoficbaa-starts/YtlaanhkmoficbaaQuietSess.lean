/-
  A session read whole within a region that draws its order, as a quiet walk meets it.
-/
import Derived.Test.YtlaanhkmoficbaaStartAwake
import Derived.Test.YtlaanhkmoficbaaKin
namespace Go.Proofs.Ytlaanhkmoficbaa
open Go.RowKit

theorem wpQuiet_load_sess {ops : Array Oper} {w : World} {Q : Act → Prop} {a : Act} {o : Oper} {rest : List Oper} (hw : Region.wanted o (yielded ops a.tmps) = true) (x : Operand) (ho : o.op = .load 30 x) (b : Nat) (hx : a.eval x = .pointer (some ⟨b, 0, none⟩)) {i : Nat → Int} {p r t : Value} (h : Blk w b (sessL i p r t))
    (hk : wpQuiet Try.prog ops (fun w' => ∃ u : Kin w, w' = u.at_) Q rest (a.put o.dst (sessA i p r t))) : wpQuiet Try.prog ops (fun w' => ∃ u : Kin w, w' = u.at_) Q (o :: rest) a := by
  refine BigFrame.wpQuiet_want hw fun K hK => ⟨sessA i p r t, ?_, hK _ hk⟩
  rintro _ ⟨u, rfl⟩
  have := run_load_sess (h.kin u)
  unfold Oper.quietAt execOp
  simp only [ho, hx, Sem.run_bind, this, Result.andThen_ok]
  exact ⟨rfl, rfl⟩

end Go.Proofs.Ytlaanhkmoficbaa
