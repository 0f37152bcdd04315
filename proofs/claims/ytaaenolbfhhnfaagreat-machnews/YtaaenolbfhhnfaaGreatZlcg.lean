/-
  Literals of any elements; scripts with one thing wrong.
-/
import Derived.Test.YtaaenolbfhhnfaaGreatZlcc
namespace Go.Proofs.YtaaenolbfhhnfaaGreat
open Go.RowKit
set_option linter.unusedSimpArgs false
set_option linter.unusedVariables false
theorem Tryz.infoN : (Tryz.prog.info? 3).map (fun i => (i.zero, i.size, i.bytes)) = some (some (.int .i64 0), 1, 8) := by kernel_rfl
theorem Tryz.infoC : (Tryz.prog.info? 64).map (fun i => (i.zero, i.size, i.bytes)) = some (some (.agg zeroCL.toArray), 4, 48) := by kernel_rfl
def zeroPL : List Value := [.slice none 0 0, .slice none 0 0, .slice none 0 0, .slice none 0 0, .int .i64 0, .slice none 0 0, .slice none 0 0]
theorem zeroP : ((Tryz.prog.info? 27).bind (·.zero)).map (·.cells) = some zeroPL.toArray := by kernel_rfl
theorem stw_litB {w0 w : World} {L : List Itm} {P : Program} {op : Oper} {a : Act} {K : Act → World → Prop} {Q : Exit → Act → World → Prop} (HS : Hid (St w0 w L)) (ts te : TypeId) (n : Nat) (es : List (Nat × Operand)) (ho : op.op = .buildSlice ts n es.toArray) (hu : P.underlying ts = some (.slice te)) {z : Value} {sz bt : Nat} (hinfo : (P.info? te).map (fun i => (i.zero, i.size, i.bytes)) = some (some z, sz, bt)) (h1 : ¬ n * sz > 2 ^ 24) (h2 : ¬ n * sz = 0)
    (vs : List (Nat × Value)) (hv : (es.map fun (i, x) => (i, a.eval x)) = vs) (cs : List Value) (hf : Instr.fill (fun i => some (i * sz, sz)) ((Array.range (n * sz)).map (z.cells[· % z.cells.size]!)) vs = some cs.toArray)
    (hw : ∀ W b, Hid (St w0 W (blkI b cs :: L)) → K (a.put op.dst (.slice (some ⟨b, 0, none⟩) n n)) W) : op.wp P a w K Q := by
  obtain ⟨i, hi, hz, hs, hy⟩ := info_parts hinfo
  subst hs
  refine wp_buildSlice ts te n _ ho cs.toArray i z hu hi hz h1 h2 ?_ (hw _ _ (HS.out.alloc cs te))
  rw [show (es.toArray.map fun (i, x) => (i, a.eval x)).toList = vs from by rw [← hv]; simp]
  exact hf
theorem st_litB {w0 w : World} {L : List Itm} {P : Program} {ops : Array Oper} {rest : List Oper} {op : Oper} {a : Act} {Q : Exit → Act → World → Prop} (HS : Hid (St w0 w L)) (ts te : TypeId) (n : Nat) (es : List (Nat × Operand)) (ho : op.op = .buildSlice ts n es.toArray) (hgd : Region.wanted op (yielded ops a.tmps) = true) (hu : P.underlying ts = some (.slice te)) {z : Value} {sz bt : Nat} (hinfo : (P.info? te).map (fun i => (i.zero, i.size, i.bytes)) = some (some z, sz, bt)) (h1 : ¬ n * sz > 2 ^ 24) (h2 : ¬ n * sz = 0)
    (vs : List (Nat × Value)) (hv : (es.map fun (i, x) => (i, a.eval x)) = vs) (cs : List Value) (hf : Instr.fill (fun i => some (i * sz, sz)) ((Array.range (n * sz)).map (z.cells[· % z.cells.size]!)) vs = some cs.toArray)
    (hw : ∀ W b, Hid (St w0 W (blkI b cs :: L)) → wpList P ops Q rest (a.put op.dst (.slice (some ⟨b, 0, none⟩) n n)) W) : wpList P ops Q (op :: rest) a w :=
  BigFrame.wpList_want hgd fun _ hK => stw_litB HS ts te n es ho hu hinfo h1 h2 vs hv cs hf fun W b h => hK _ _ (hw W b h)
/-- One number; five; an instruction; two Starts; three. -/
theorem fill_n1 (x : Int) : Instr.fill (fun i => some (i * 1, 1)) ((Array.range (1 * 1)).map ((Value.int .i64 0).cells[· % (Value.int .i64 0).cells.size]!)) [(0, .int .i64 x)] = some [Value.int .i64 x].toArray := by kernel_rfl
theorem fill_n5 (x0 x1 x2 x3 x4 : Int) : Instr.fill (fun i => some (i * 1, 1)) ((Array.range (5 * 1)).map ((Value.int .i64 0).cells[· % (Value.int .i64 0).cells.size]!)) [(0, .int .i64 x0), (1, .int .i64 x1), (2, .int .i64 x2), (3, .int .i64 x3), (4, .int .i64 x4)] = some [Value.int .i64 x0, .int .i64 x1, .int .i64 x2, .int .i64 x3, .int .i64 x4].toArray := by kernel_rfl
theorem fill_i1 (x0 x1 x2 x3 : Int) : Instr.fill (fun i => some (i * 4, 4)) ((Array.range (1 * 4)).map ((Value.agg #[.int .i64 0, .int .i64 0, .int .i64 0, .int .i64 0]).cells[· % (Value.agg #[.int .i64 0, .int .i64 0, .int .i64 0, .int .i64 0]).cells.size]!)) [(0, .agg #[.int .i64 x0, .int .i64 x1, .int .i64 x2, .int .i64 x3])] = some [Value.int .i64 x0, .int .i64 x1, .int .i64 x2, .int .i64 x3].toArray := by kernel_rfl
theorem fill_c2 (x0 x1 x2 y0 y1 y2 : Int) (p q : Value) : Instr.fill (fun i => some (i * 4, 4)) ((Array.range (2 * 4)).map ((Value.agg zeroCL.toArray).cells[· % (Value.agg zeroCL.toArray).cells.size]!)) [(0, .agg #[.int .i64 x0, .int .i64 x1, .int .i64 x2, p]), (1, .agg #[.int .i64 y0, .int .i64 y1, .int .i64 y2, q])] = some [Value.int .i64 x0, .int .i64 x1, .int .i64 x2, p, .int .i64 y0, .int .i64 y1, .int .i64 y2, q].toArray := by kernel_rfl
theorem fill_c3 (x0 x1 x2 y0 y1 y2 z0 z1 z2 : Int) (p q r : Value) : Instr.fill (fun i => some (i * 4, 4)) ((Array.range (3 * 4)).map ((Value.agg zeroCL.toArray).cells[· % (Value.agg zeroCL.toArray).cells.size]!)) [(0, .agg #[.int .i64 x0, .int .i64 x1, .int .i64 x2, p]), (1, .agg #[.int .i64 y0, .int .i64 y1, .int .i64 y2, q]), (2, .agg #[.int .i64 z0, .int .i64 z1, .int .i64 z2, r])] = some [Value.int .i64 x0, .int .i64 x1, .int .i64 x2, p, .int .i64 y0, .int .i64 y1, .int .i64 y2, q, .int .i64 z0, .int .i64 z1, .int .i64 z2, r].toArray := by kernel_rfl
def newsS (v0 v2 : List Int) (c i0 l0 i1 : Int) (p : List Int) : PScript := ⟨[v0, [], v2, []], c, [⟨[i0, l0, 0], p⟩, ⟨[i1, 0, 0], []⟩], []⟩
theorem scr_vals {S : PScript} (h : valsOk S = false) : newP S = (noMach, 1200) := newP_no (by unfold scrOk; rw [h, Bool.false_and, Bool.and_false])
theorem scr_mach {S : PScript} (h : machMay (initM S) = false) : newP S = (noMach, 1200) := newP_no (by unfold scrOk; rw [h, Bool.and_false, Bool.and_false])
theorem news_value {x c i0 l0 i1 : Int} {p : List Int} (hx : upToV x 255 = false) : valsOk (newsS [x] [] c i0 l0 i1 p) = false := by
  cases hm : valsOk (newsS [x] [] c i0 l0 i1 p)
  · rfl
  · obtain ⟨_, hv⟩ := lvNew_get (newTo_get hm 0 (by decide))
    have := valsTo_get hv 0 Nat.zero_lt_one
    exact absurd (show upToV x 255 = true from this) (by rw [hx]; decide)
/-- Where such a script lies. -/
theorem news_is {W : World} {bt bi : Nat} {s0 s2 : Sl} {v0 v2 : List Int} {c i0 l0 i1 : Int} {p : List Int} {n : Nat} (h0 : SlIs W 1 s0 v0) (h2 : SlIs W 1 s2 v2) (ht : Blk W bt [.int .i64 i0, .int .i64 l0, .int .i64 0, .slice (some ⟨bi, 0, none⟩) n n, .int .i64 i1, .int .i64 0, .int .i64 0, .slice none 0 0]) (hi : Blk W bi (p.map (Value.int .i64))) (hl : p.length = n * 4) (hf : n * (8 * 4) ≤ 140737488351232) :
    ScrIs W ⟨fourSl s0 noSl s2 noSl, ⟨some ⟨bt, 0, none⟩, 2, 2⟩, (fun i => if i = 0 then ⟨some ⟨bi, 0, none⟩, n, n⟩ else noSl), noSl⟩ (newsS v0 v2 c i0 l0 i1 p) :=
  ⟨rfl, fun g hg => (match g, hg with
    | 0, _ => h0
    | 1, _ => slIs_none _ 1
    | 2, _ => h2
    | 3, _ => slIs_none _ 1), staIs_two (p0 := ⟨some ⟨bi, 0, none⟩, n, n⟩) (p1 := noSl) (x := ⟨[i0, l0, 0], p⟩) (y := ⟨[i1, 0, 0], []⟩) ht rfl rfl (slIs_blk hi hl hf) (slIs_none _ 4), slIs_none _ 2⟩
end Go.Proofs.YtaaenolbfhhnfaaGreat
