/-
  Literals: slices of structs of ints, in memory of their own. (Written by wip/tools/gen_lits.py)
-/
import Derived.Test.YtaaenolbfhhnfaaGreatZlac
import Derived.Test.YtaaenolbfhhnfaaGreatZlag
import Derived.Test.YtaaenolbfhhnfaaGreatZlad
namespace Go.Proofs.YtaaenolbfhhnfaaGreat
open Go.RowKit
set_option linter.unusedSimpArgs false
set_option linter.unusedVariables false
theorem Tryz.infoR : (Tryz.prog.info? 66).map (fun i => (i.zero, i.size, i.bytes)) = some (some (.agg #[.int .i64 0, .int .i64 0, .int .i64 0]), 3, 24) := by kernel_rfl
theorem Tryz.infoT : (Tryz.prog.info? 68).map (fun i => (i.zero, i.size, i.bytes)) = some (some (.agg #[.int .i64 0, .int .i64 0, .int .i64 0]), 3, 24) := by kernel_rfl
theorem Tryz.infoI : (Tryz.prog.info? 62).map (fun i => (i.zero, i.size, i.bytes)) = some (some (.agg #[.int .i64 0, .int .i64 0, .int .i64 0, .int .i64 0]), 4, 32) := by kernel_rfl
theorem Tryz.infoE : (Tryz.prog.info? 70).map (fun i => (i.zero, i.size, i.bytes)) = some (some (.agg #[.int .i64 0, .int .i64 0, .int .i64 0, .int .i64 0]), 4, 32) := by kernel_rfl
/-- A literal list is a thing that a call holds. -/
theorem St.lit {w0 W : World} {L : List Itm} (h : St w0 W L) (k n : Nat) (l : List Int) (t : TypeId) (hl : l.length = n * k) (hf : n * (8 * k) ≤ 140737488351232) :
    St w0 (W.alloc (.cells (l.map (Value.int .i64)).toArray t)) (lisI (fun j => j = W.heap.size) k ⟨some ⟨W.heap.size, 0, none⟩, n, n⟩ l :: L) := by
  have hb := blk_new W (l.map (Value.int .i64)) t
  exact h.push ((Below.refl _ W).alloc (Nat.le_refl _) _) (lisI (fun j => j = W.heap.size) k ⟨some ⟨W.heap.size, 0, none⟩, n, n⟩ l) (lisI_loc _ _ _ _) ⟨⟨hl, ⟨hf, Nat.le_refl _, fun h => by cases h⟩, fun i hi => ⟨W.heap.size, 0, rfl, hb.lt, by
    rw [Nat.zero_add]
    have hi' : i < l.length := by rw [hl]; exact hi
    refine hb.cell i _ ?_
    simp [lz, List.getD, hi']⟩⟩, fun _ => ⟨_, rfl, rfl, _, hb⟩⟩ fun k hk => by
      have hk : k = W.heap.size := hk
      subst hk
      exact ⟨Nat.le_refl _, by simp⟩
set_option maxRecDepth 100000 in
theorem fill_1_3 (x0_0 x0_1 x0_2 : Int) : Instr.fill (fun i => some (i * 3, 3)) ((Array.range (1 * 3)).map (#[Value.int .i64 0, Value.int .i64 0, Value.int .i64 0][· % 3]!)) [(0, .agg #[.int .i64 x0_0, .int .i64 x0_1, .int .i64 x0_2])] = some #[.int .i64 x0_0, .int .i64 x0_1, .int .i64 x0_2] := by
  kernel_rfl
theorem stw_lit_1_3 {w0 w : World} {L : List Itm} {P : Program} {op : Oper} {a : Act} {K : Act → World → Prop} {Q : Exit → Act → World → Prop} (HS : Hid (St w0 w L)) (ts te : TypeId) (o0 : Operand) (ho : op.op = .buildSlice ts 1 #[(0, o0)]) (hu : P.underlying ts = some (.slice te)) (hinfo : (P.info? te).map (fun i => (i.zero, i.size, i.bytes)) = some (some (.agg #[Value.int .i64 0, Value.int .i64 0, Value.int .i64 0]), 3, 24)) {x0_0 x0_1 x0_2 : Int} (h0 : ValOf a o0 (.agg #[.int .i64 x0_0, .int .i64 x0_1, .int .i64 x0_2]))
    (hw : ∀ W b, Hid (St w0 W (lisI (fun j => j = b) 3 ⟨some ⟨b, 0, none⟩, 1, 1⟩ [x0_0, x0_1, x0_2] :: L)) → K (a.put op.dst (.slice (some ⟨b, 0, none⟩) 1 1)) W) : op.wp P a w K Q := by
  obtain ⟨i, hi, hz, hs, hy⟩ := info_parts hinfo
  refine wp_buildSlice ts te 1 _ ho #[.int .i64 x0_0, .int .i64 x0_1, .int .i64 x0_2] i (.agg #[Value.int .i64 0, Value.int .i64 0, Value.int .i64 0]) hu hi hz (by rw [hs]; decide) (by rw [hs]; decide) ?_ (hw _ _ (HS.out.lit 3 1 [x0_0, x0_1, x0_2] te rfl (by decide)))
  simp only [List.map_toArray, List.map_cons, List.map_nil, h0.eval]
  rw [hs]
  exact fill_1_3 x0_0 x0_1 x0_2
theorem st_lit_1_3 {w0 w : World} {L : List Itm} {P : Program} {ops : Array Oper} {rest : List Oper} {op : Oper} {a : Act} {Q : Exit → Act → World → Prop} (HS : Hid (St w0 w L)) (ts te : TypeId) (o0 : Operand) (ho : op.op = .buildSlice ts 1 #[(0, o0)]) (hgd : Region.wanted op (yielded ops a.tmps) = true) (hu : P.underlying ts = some (.slice te)) (hinfo : (P.info? te).map (fun i => (i.zero, i.size, i.bytes)) = some (some (.agg #[Value.int .i64 0, Value.int .i64 0, Value.int .i64 0]), 3, 24)) {x0_0 x0_1 x0_2 : Int} (h0 : ValOf a o0 (.agg #[.int .i64 x0_0, .int .i64 x0_1, .int .i64 x0_2]))
    (hw : ∀ W b, Hid (St w0 W (lisI (fun j => j = b) 3 ⟨some ⟨b, 0, none⟩, 1, 1⟩ [x0_0, x0_1, x0_2] :: L)) → wpList P ops Q rest (a.put op.dst (.slice (some ⟨b, 0, none⟩) 1 1)) W) : wpList P ops Q (op :: rest) a w :=
  BigFrame.wpList_want hgd fun _ hK => stw_lit_1_3 HS ts te o0 ho hu hinfo h0 fun W b h => hK _ _ (hw W b h)
set_option maxRecDepth 100000 in
theorem fill_1_4 (x0_0 x0_1 x0_2 x0_3 : Int) : Instr.fill (fun i => some (i * 4, 4)) ((Array.range (1 * 4)).map (#[Value.int .i64 0, Value.int .i64 0, Value.int .i64 0, Value.int .i64 0][· % 4]!)) [(0, .agg #[.int .i64 x0_0, .int .i64 x0_1, .int .i64 x0_2, .int .i64 x0_3])] = some #[.int .i64 x0_0, .int .i64 x0_1, .int .i64 x0_2, .int .i64 x0_3] := by
  kernel_rfl
theorem stw_lit_1_4 {w0 w : World} {L : List Itm} {P : Program} {op : Oper} {a : Act} {K : Act → World → Prop} {Q : Exit → Act → World → Prop} (HS : Hid (St w0 w L)) (ts te : TypeId) (o0 : Operand) (ho : op.op = .buildSlice ts 1 #[(0, o0)]) (hu : P.underlying ts = some (.slice te)) (hinfo : (P.info? te).map (fun i => (i.zero, i.size, i.bytes)) = some (some (.agg #[Value.int .i64 0, Value.int .i64 0, Value.int .i64 0, Value.int .i64 0]), 4, 32)) {x0_0 x0_1 x0_2 x0_3 : Int} (h0 : ValOf a o0 (.agg #[.int .i64 x0_0, .int .i64 x0_1, .int .i64 x0_2, .int .i64 x0_3]))
    (hw : ∀ W b, Hid (St w0 W (lisI (fun j => j = b) 4 ⟨some ⟨b, 0, none⟩, 1, 1⟩ [x0_0, x0_1, x0_2, x0_3] :: L)) → K (a.put op.dst (.slice (some ⟨b, 0, none⟩) 1 1)) W) : op.wp P a w K Q := by
  obtain ⟨i, hi, hz, hs, hy⟩ := info_parts hinfo
  refine wp_buildSlice ts te 1 _ ho #[.int .i64 x0_0, .int .i64 x0_1, .int .i64 x0_2, .int .i64 x0_3] i (.agg #[Value.int .i64 0, Value.int .i64 0, Value.int .i64 0, Value.int .i64 0]) hu hi hz (by rw [hs]; decide) (by rw [hs]; decide) ?_ (hw _ _ (HS.out.lit 4 1 [x0_0, x0_1, x0_2, x0_3] te rfl (by decide)))
  simp only [List.map_toArray, List.map_cons, List.map_nil, h0.eval]
  rw [hs]
  exact fill_1_4 x0_0 x0_1 x0_2 x0_3
theorem st_lit_1_4 {w0 w : World} {L : List Itm} {P : Program} {ops : Array Oper} {rest : List Oper} {op : Oper} {a : Act} {Q : Exit → Act → World → Prop} (HS : Hid (St w0 w L)) (ts te : TypeId) (o0 : Operand) (ho : op.op = .buildSlice ts 1 #[(0, o0)]) (hgd : Region.wanted op (yielded ops a.tmps) = true) (hu : P.underlying ts = some (.slice te)) (hinfo : (P.info? te).map (fun i => (i.zero, i.size, i.bytes)) = some (some (.agg #[Value.int .i64 0, Value.int .i64 0, Value.int .i64 0, Value.int .i64 0]), 4, 32)) {x0_0 x0_1 x0_2 x0_3 : Int} (h0 : ValOf a o0 (.agg #[.int .i64 x0_0, .int .i64 x0_1, .int .i64 x0_2, .int .i64 x0_3]))
    (hw : ∀ W b, Hid (St w0 W (lisI (fun j => j = b) 4 ⟨some ⟨b, 0, none⟩, 1, 1⟩ [x0_0, x0_1, x0_2, x0_3] :: L)) → wpList P ops Q rest (a.put op.dst (.slice (some ⟨b, 0, none⟩) 1 1)) W) : wpList P ops Q (op :: rest) a w :=
  BigFrame.wpList_want hgd fun _ hK => stw_lit_1_4 HS ts te o0 ho hu hinfo h0 fun W b h => hK _ _ (hw W b h)
set_option maxRecDepth 100000 in
theorem fill_2_3 (x0_0 x0_1 x0_2 x1_0 x1_1 x1_2 : Int) : Instr.fill (fun i => some (i * 3, 3)) ((Array.range (2 * 3)).map (#[Value.int .i64 0, Value.int .i64 0, Value.int .i64 0][· % 3]!)) [(0, .agg #[.int .i64 x0_0, .int .i64 x0_1, .int .i64 x0_2]), (1, .agg #[.int .i64 x1_0, .int .i64 x1_1, .int .i64 x1_2])] = some #[.int .i64 x0_0, .int .i64 x0_1, .int .i64 x0_2, .int .i64 x1_0, .int .i64 x1_1, .int .i64 x1_2] := by
  kernel_rfl
theorem stw_lit_2_3 {w0 w : World} {L : List Itm} {P : Program} {op : Oper} {a : Act} {K : Act → World → Prop} {Q : Exit → Act → World → Prop} (HS : Hid (St w0 w L)) (ts te : TypeId) (o0 o1 : Operand) (ho : op.op = .buildSlice ts 2 #[(0, o0), (1, o1)]) (hu : P.underlying ts = some (.slice te)) (hinfo : (P.info? te).map (fun i => (i.zero, i.size, i.bytes)) = some (some (.agg #[Value.int .i64 0, Value.int .i64 0, Value.int .i64 0]), 3, 24)) {x0_0 x0_1 x0_2 x1_0 x1_1 x1_2 : Int} (h0 : ValOf a o0 (.agg #[.int .i64 x0_0, .int .i64 x0_1, .int .i64 x0_2])) (h1 : ValOf a o1 (.agg #[.int .i64 x1_0, .int .i64 x1_1, .int .i64 x1_2]))
    (hw : ∀ W b, Hid (St w0 W (lisI (fun j => j = b) 3 ⟨some ⟨b, 0, none⟩, 2, 2⟩ [x0_0, x0_1, x0_2, x1_0, x1_1, x1_2] :: L)) → K (a.put op.dst (.slice (some ⟨b, 0, none⟩) 2 2)) W) : op.wp P a w K Q := by
  obtain ⟨i, hi, hz, hs, hy⟩ := info_parts hinfo
  refine wp_buildSlice ts te 2 _ ho #[.int .i64 x0_0, .int .i64 x0_1, .int .i64 x0_2, .int .i64 x1_0, .int .i64 x1_1, .int .i64 x1_2] i (.agg #[Value.int .i64 0, Value.int .i64 0, Value.int .i64 0]) hu hi hz (by rw [hs]; decide) (by rw [hs]; decide) ?_ (hw _ _ (HS.out.lit 3 2 [x0_0, x0_1, x0_2, x1_0, x1_1, x1_2] te rfl (by decide)))
  simp only [List.map_toArray, List.map_cons, List.map_nil, h0.eval, h1.eval]
  rw [hs]
  exact fill_2_3 x0_0 x0_1 x0_2 x1_0 x1_1 x1_2
theorem st_lit_2_3 {w0 w : World} {L : List Itm} {P : Program} {ops : Array Oper} {rest : List Oper} {op : Oper} {a : Act} {Q : Exit → Act → World → Prop} (HS : Hid (St w0 w L)) (ts te : TypeId) (o0 o1 : Operand) (ho : op.op = .buildSlice ts 2 #[(0, o0), (1, o1)]) (hgd : Region.wanted op (yielded ops a.tmps) = true) (hu : P.underlying ts = some (.slice te)) (hinfo : (P.info? te).map (fun i => (i.zero, i.size, i.bytes)) = some (some (.agg #[Value.int .i64 0, Value.int .i64 0, Value.int .i64 0]), 3, 24)) {x0_0 x0_1 x0_2 x1_0 x1_1 x1_2 : Int} (h0 : ValOf a o0 (.agg #[.int .i64 x0_0, .int .i64 x0_1, .int .i64 x0_2])) (h1 : ValOf a o1 (.agg #[.int .i64 x1_0, .int .i64 x1_1, .int .i64 x1_2]))
    (hw : ∀ W b, Hid (St w0 W (lisI (fun j => j = b) 3 ⟨some ⟨b, 0, none⟩, 2, 2⟩ [x0_0, x0_1, x0_2, x1_0, x1_1, x1_2] :: L)) → wpList P ops Q rest (a.put op.dst (.slice (some ⟨b, 0, none⟩) 2 2)) W) : wpList P ops Q (op :: rest) a w :=
  BigFrame.wpList_want hgd fun _ hK => stw_lit_2_3 HS ts te o0 o1 ho hu hinfo h0 h1 fun W b h => hK _ _ (hw W b h)
set_option maxRecDepth 100000 in
theorem fill_3_4 (x0_0 x0_1 x0_2 x0_3 x1_0 x1_1 x1_2 x1_3 x2_0 x2_1 x2_2 x2_3 : Int) : Instr.fill (fun i => some (i * 4, 4)) ((Array.range (3 * 4)).map (#[Value.int .i64 0, Value.int .i64 0, Value.int .i64 0, Value.int .i64 0][· % 4]!)) [(0, .agg #[.int .i64 x0_0, .int .i64 x0_1, .int .i64 x0_2, .int .i64 x0_3]), (1, .agg #[.int .i64 x1_0, .int .i64 x1_1, .int .i64 x1_2, .int .i64 x1_3]), (2, .agg #[.int .i64 x2_0, .int .i64 x2_1, .int .i64 x2_2, .int .i64 x2_3])] = some #[.int .i64 x0_0, .int .i64 x0_1, .int .i64 x0_2, .int .i64 x0_3, .int .i64 x1_0, .int .i64 x1_1, .int .i64 x1_2, .int .i64 x1_3, .int .i64 x2_0, .int .i64 x2_1, .int .i64 x2_2, .int .i64 x2_3] := by
  kernel_rfl
theorem stw_lit_3_4 {w0 w : World} {L : List Itm} {P : Program} {op : Oper} {a : Act} {K : Act → World → Prop} {Q : Exit → Act → World → Prop} (HS : Hid (St w0 w L)) (ts te : TypeId) (o0 o1 o2 : Operand) (ho : op.op = .buildSlice ts 3 #[(0, o0), (1, o1), (2, o2)]) (hu : P.underlying ts = some (.slice te)) (hinfo : (P.info? te).map (fun i => (i.zero, i.size, i.bytes)) = some (some (.agg #[Value.int .i64 0, Value.int .i64 0, Value.int .i64 0, Value.int .i64 0]), 4, 32)) {x0_0 x0_1 x0_2 x0_3 x1_0 x1_1 x1_2 x1_3 x2_0 x2_1 x2_2 x2_3 : Int} (h0 : ValOf a o0 (.agg #[.int .i64 x0_0, .int .i64 x0_1, .int .i64 x0_2, .int .i64 x0_3])) (h1 : ValOf a o1 (.agg #[.int .i64 x1_0, .int .i64 x1_1, .int .i64 x1_2, .int .i64 x1_3])) (h2 : ValOf a o2 (.agg #[.int .i64 x2_0, .int .i64 x2_1, .int .i64 x2_2, .int .i64 x2_3]))
    (hw : ∀ W b, Hid (St w0 W (lisI (fun j => j = b) 4 ⟨some ⟨b, 0, none⟩, 3, 3⟩ [x0_0, x0_1, x0_2, x0_3, x1_0, x1_1, x1_2, x1_3, x2_0, x2_1, x2_2, x2_3] :: L)) → K (a.put op.dst (.slice (some ⟨b, 0, none⟩) 3 3)) W) : op.wp P a w K Q := by
  obtain ⟨i, hi, hz, hs, hy⟩ := info_parts hinfo
  refine wp_buildSlice ts te 3 _ ho #[.int .i64 x0_0, .int .i64 x0_1, .int .i64 x0_2, .int .i64 x0_3, .int .i64 x1_0, .int .i64 x1_1, .int .i64 x1_2, .int .i64 x1_3, .int .i64 x2_0, .int .i64 x2_1, .int .i64 x2_2, .int .i64 x2_3] i (.agg #[Value.int .i64 0, Value.int .i64 0, Value.int .i64 0, Value.int .i64 0]) hu hi hz (by rw [hs]; decide) (by rw [hs]; decide) ?_ (hw _ _ (HS.out.lit 4 3 [x0_0, x0_1, x0_2, x0_3, x1_0, x1_1, x1_2, x1_3, x2_0, x2_1, x2_2, x2_3] te rfl (by decide)))
  simp only [List.map_toArray, List.map_cons, List.map_nil, h0.eval, h1.eval, h2.eval]
  rw [hs]
  exact fill_3_4 x0_0 x0_1 x0_2 x0_3 x1_0 x1_1 x1_2 x1_3 x2_0 x2_1 x2_2 x2_3
theorem st_lit_3_4 {w0 w : World} {L : List Itm} {P : Program} {ops : Array Oper} {rest : List Oper} {op : Oper} {a : Act} {Q : Exit → Act → World → Prop} (HS : Hid (St w0 w L)) (ts te : TypeId) (o0 o1 o2 : Operand) (ho : op.op = .buildSlice ts 3 #[(0, o0), (1, o1), (2, o2)]) (hgd : Region.wanted op (yielded ops a.tmps) = true) (hu : P.underlying ts = some (.slice te)) (hinfo : (P.info? te).map (fun i => (i.zero, i.size, i.bytes)) = some (some (.agg #[Value.int .i64 0, Value.int .i64 0, Value.int .i64 0, Value.int .i64 0]), 4, 32)) {x0_0 x0_1 x0_2 x0_3 x1_0 x1_1 x1_2 x1_3 x2_0 x2_1 x2_2 x2_3 : Int} (h0 : ValOf a o0 (.agg #[.int .i64 x0_0, .int .i64 x0_1, .int .i64 x0_2, .int .i64 x0_3])) (h1 : ValOf a o1 (.agg #[.int .i64 x1_0, .int .i64 x1_1, .int .i64 x1_2, .int .i64 x1_3])) (h2 : ValOf a o2 (.agg #[.int .i64 x2_0, .int .i64 x2_1, .int .i64 x2_2, .int .i64 x2_3]))
    (hw : ∀ W b, Hid (St w0 W (lisI (fun j => j = b) 4 ⟨some ⟨b, 0, none⟩, 3, 3⟩ [x0_0, x0_1, x0_2, x0_3, x1_0, x1_1, x1_2, x1_3, x2_0, x2_1, x2_2, x2_3] :: L)) → wpList P ops Q rest (a.put op.dst (.slice (some ⟨b, 0, none⟩) 3 3)) W) : wpList P ops Q (op :: rest) a w :=
  BigFrame.wpList_want hgd fun _ hK => stw_lit_3_4 HS ts te o0 o1 o2 ho hu hinfo h0 h1 h2 fun W b h => hK _ _ (hw W b h)
set_option maxRecDepth 100000 in
theorem fill_4_4 (x0_0 x0_1 x0_2 x0_3 x1_0 x1_1 x1_2 x1_3 x2_0 x2_1 x2_2 x2_3 x3_0 x3_1 x3_2 x3_3 : Int) : Instr.fill (fun i => some (i * 4, 4)) ((Array.range (4 * 4)).map (#[Value.int .i64 0, Value.int .i64 0, Value.int .i64 0, Value.int .i64 0][· % 4]!)) [(0, .agg #[.int .i64 x0_0, .int .i64 x0_1, .int .i64 x0_2, .int .i64 x0_3]), (1, .agg #[.int .i64 x1_0, .int .i64 x1_1, .int .i64 x1_2, .int .i64 x1_3]), (2, .agg #[.int .i64 x2_0, .int .i64 x2_1, .int .i64 x2_2, .int .i64 x2_3]), (3, .agg #[.int .i64 x3_0, .int .i64 x3_1, .int .i64 x3_2, .int .i64 x3_3])] = some #[.int .i64 x0_0, .int .i64 x0_1, .int .i64 x0_2, .int .i64 x0_3, .int .i64 x1_0, .int .i64 x1_1, .int .i64 x1_2, .int .i64 x1_3, .int .i64 x2_0, .int .i64 x2_1, .int .i64 x2_2, .int .i64 x2_3, .int .i64 x3_0, .int .i64 x3_1, .int .i64 x3_2, .int .i64 x3_3] := by
  kernel_rfl
theorem stw_lit_4_4 {w0 w : World} {L : List Itm} {P : Program} {op : Oper} {a : Act} {K : Act → World → Prop} {Q : Exit → Act → World → Prop} (HS : Hid (St w0 w L)) (ts te : TypeId) (o0 o1 o2 o3 : Operand) (ho : op.op = .buildSlice ts 4 #[(0, o0), (1, o1), (2, o2), (3, o3)]) (hu : P.underlying ts = some (.slice te)) (hinfo : (P.info? te).map (fun i => (i.zero, i.size, i.bytes)) = some (some (.agg #[Value.int .i64 0, Value.int .i64 0, Value.int .i64 0, Value.int .i64 0]), 4, 32)) {x0_0 x0_1 x0_2 x0_3 x1_0 x1_1 x1_2 x1_3 x2_0 x2_1 x2_2 x2_3 x3_0 x3_1 x3_2 x3_3 : Int} (h0 : ValOf a o0 (.agg #[.int .i64 x0_0, .int .i64 x0_1, .int .i64 x0_2, .int .i64 x0_3])) (h1 : ValOf a o1 (.agg #[.int .i64 x1_0, .int .i64 x1_1, .int .i64 x1_2, .int .i64 x1_3])) (h2 : ValOf a o2 (.agg #[.int .i64 x2_0, .int .i64 x2_1, .int .i64 x2_2, .int .i64 x2_3])) (h3 : ValOf a o3 (.agg #[.int .i64 x3_0, .int .i64 x3_1, .int .i64 x3_2, .int .i64 x3_3]))
    (hw : ∀ W b, Hid (St w0 W (lisI (fun j => j = b) 4 ⟨some ⟨b, 0, none⟩, 4, 4⟩ [x0_0, x0_1, x0_2, x0_3, x1_0, x1_1, x1_2, x1_3, x2_0, x2_1, x2_2, x2_3, x3_0, x3_1, x3_2, x3_3] :: L)) → K (a.put op.dst (.slice (some ⟨b, 0, none⟩) 4 4)) W) : op.wp P a w K Q := by
  obtain ⟨i, hi, hz, hs, hy⟩ := info_parts hinfo
  refine wp_buildSlice ts te 4 _ ho #[.int .i64 x0_0, .int .i64 x0_1, .int .i64 x0_2, .int .i64 x0_3, .int .i64 x1_0, .int .i64 x1_1, .int .i64 x1_2, .int .i64 x1_3, .int .i64 x2_0, .int .i64 x2_1, .int .i64 x2_2, .int .i64 x2_3, .int .i64 x3_0, .int .i64 x3_1, .int .i64 x3_2, .int .i64 x3_3] i (.agg #[Value.int .i64 0, Value.int .i64 0, Value.int .i64 0, Value.int .i64 0]) hu hi hz (by rw [hs]; decide) (by rw [hs]; decide) ?_ (hw _ _ (HS.out.lit 4 4 [x0_0, x0_1, x0_2, x0_3, x1_0, x1_1, x1_2, x1_3, x2_0, x2_1, x2_2, x2_3, x3_0, x3_1, x3_2, x3_3] te rfl (by decide)))
  simp only [List.map_toArray, List.map_cons, List.map_nil, h0.eval, h1.eval, h2.eval, h3.eval]
  rw [hs]
  exact fill_4_4 x0_0 x0_1 x0_2 x0_3 x1_0 x1_1 x1_2 x1_3 x2_0 x2_1 x2_2 x2_3 x3_0 x3_1 x3_2 x3_3
theorem st_lit_4_4 {w0 w : World} {L : List Itm} {P : Program} {ops : Array Oper} {rest : List Oper} {op : Oper} {a : Act} {Q : Exit → Act → World → Prop} (HS : Hid (St w0 w L)) (ts te : TypeId) (o0 o1 o2 o3 : Operand) (ho : op.op = .buildSlice ts 4 #[(0, o0), (1, o1), (2, o2), (3, o3)]) (hgd : Region.wanted op (yielded ops a.tmps) = true) (hu : P.underlying ts = some (.slice te)) (hinfo : (P.info? te).map (fun i => (i.zero, i.size, i.bytes)) = some (some (.agg #[Value.int .i64 0, Value.int .i64 0, Value.int .i64 0, Value.int .i64 0]), 4, 32)) {x0_0 x0_1 x0_2 x0_3 x1_0 x1_1 x1_2 x1_3 x2_0 x2_1 x2_2 x2_3 x3_0 x3_1 x3_2 x3_3 : Int} (h0 : ValOf a o0 (.agg #[.int .i64 x0_0, .int .i64 x0_1, .int .i64 x0_2, .int .i64 x0_3])) (h1 : ValOf a o1 (.agg #[.int .i64 x1_0, .int .i64 x1_1, .int .i64 x1_2, .int .i64 x1_3])) (h2 : ValOf a o2 (.agg #[.int .i64 x2_0, .int .i64 x2_1, .int .i64 x2_2, .int .i64 x2_3])) (h3 : ValOf a o3 (.agg #[.int .i64 x3_0, .int .i64 x3_1, .int .i64 x3_2, .int .i64 x3_3]))
    (hw : ∀ W b, Hid (St w0 W (lisI (fun j => j = b) 4 ⟨some ⟨b, 0, none⟩, 4, 4⟩ [x0_0, x0_1, x0_2, x0_3, x1_0, x1_1, x1_2, x1_3, x2_0, x2_1, x2_2, x2_3, x3_0, x3_1, x3_2, x3_3] :: L)) → wpList P ops Q rest (a.put op.dst (.slice (some ⟨b, 0, none⟩) 4 4)) W) : wpList P ops Q (op :: rest) a w :=
  BigFrame.wpList_want hgd fun _ hK => stw_lit_4_4 HS ts te o0 o1 o2 o3 ho hu hinfo h0 h1 h2 h3 fun W b h => hK _ _ (hw W b h)
end Go.Proofs.YtaaenolbfhhnfaaGreat
