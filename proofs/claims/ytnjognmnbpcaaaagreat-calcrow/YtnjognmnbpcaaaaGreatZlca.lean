/-
  Literals of any elements.
-/
import Derived.Test.YtnjognmnbpcaaaaGreatZlag
namespace Go.Proofs.YtnjognmnbpcaaaaGreat
open Go.RowKit
set_option linter.unusedSimpArgs false
set_option linter.unusedVariables false
theorem stw_litB {w0 w : World} {L : List Itm} {P : Program} {op : Oper} {a : Act} {K : Act → World → Prop} {Q : Exit → Act → World → Prop} (HS : Hid (St w0 w L)) (ts te : TypeId) (n : Nat) (es : List (Nat × Operand)) (ho : op.op = .buildSlice ts n es.toArray) (hu : P.underlying ts = some (.slice te)) {z : Value} {sz bt : Nat} (hinfo : (P.info? te).map (fun i => (i.zero, i.size, i.bytes)) = some (some z, sz, bt)) (h1 : ¬ n * sz > 2 ^ 24) (h2 : ¬ n * sz = 0)
    (vs : List (Nat × Value)) (hv : (es.map fun (i, x) => (i, a.eval x)) = vs) (cs : List Value) (hf : Instr.fill (fun i => some (i * sz, sz)) ((Array.range (n * sz)).map (z.cells[· % z.cells.size]!)) vs = some cs.toArray)
    (hw : ∀ W b, Hid (St w0 W (blkI b cs :: L)) → K (a.put op.dst (.slice (some ⟨b, 0, none⟩) n n)) W) : op.wp P a w K Q := by
  obtain ⟨i, hi, hz, hs, hy⟩ := info_parts hinfo
  subst hs
  refine wp_buildSlice ts te n _ ho cs.toArray i z hu hi hz h1 h2 ?_ (hw _ _ (HS.out.alloc cs te))
  rw [show (es.toArray.map fun (i, x) => (i, a.eval x)).toList = vs from by rw [← hv]; simp]
  exact hf
theorem st_litB {w0 w : World} {L : List Itm} {P : Program} {ops : Array Oper} {rest : List Oper} {op : Oper} {a : Act} {Q : Exit → Act → World → Prop} (HS : Hid (St w0 w L)) (ts te : TypeId) (n : Nat) (es : List (Nat × Operand)) (ho : op.op = .buildSlice ts n es.toArray) (hgd : Region.wanted op (yielded ops a.tmps) = true) (hu : P.underlying ts = some (.slice te)) {z : Value} {sz bt : Nat} (hinfo : (P.info? te).map (fun i => (i.zero, i.size, i.bytes)) = some (some z, sz, bt)) (h1 : ¬ n * sz > 2 ^ 24) (h2 : ¬ n * sz = 0)
    (vs : List (Nat × Value)) (hv : (es.map fun (i, x) => (i, a.eval x)) = vs) (cs : List Value) (hf : Instr.fill (fun i => some (i * sz, sz)) ((Array.range (n * sz)).map (z.cells[· % z.cells.size]!)) vs = some cs.toArray)
    (hw : ∀ W b, Hid (St w0 W (blkI b cs :: L)) → wpList P ops Q rest (a.put op.dst (.slice (some ⟨b, 0, none⟩) n n)) W) : wpList P ops Q (op :: rest) a w :=
  BigFrame.wpList_want hgd fun _ hK => stw_litB HS ts te n es ho hu hinfo h1 h2 vs hv cs hf fun W b h => hK _ _ (hw W b h)
theorem fill_i1 (x0 x1 x2 x3 : Int) : Instr.fill (fun i => some (i * 4, 4)) ((Array.range (1 * 4)).map ((Value.agg #[.int .i64 0, .int .i64 0, .int .i64 0, .int .i64 0]).cells[· % (Value.agg #[.int .i64 0, .int .i64 0, .int .i64 0, .int .i64 0]).cells.size]!)) [(0, .agg #[.int .i64 x0, .int .i64 x1, .int .i64 x2, .int .i64 x3])] = some [Value.int .i64 x0, .int .i64 x1, .int .i64 x2, .int .i64 x3].toArray := by kernel_rfl
end Go.Proofs.YtnjognmnbpcaaaaGreat
