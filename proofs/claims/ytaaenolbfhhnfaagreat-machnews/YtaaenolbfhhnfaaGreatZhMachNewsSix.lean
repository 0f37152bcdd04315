/-
  The law MachNews: too many Starts; all ways.
-/
import Derived.Test.YtaaenolbfhhnfaaGreatZcMachNewsSaid
namespace Go.Proofs.YtaaenolbfhhnfaaGreat
open Go.RowKit
set_option linter.unusedSimpArgs false
set_option linter.unusedVariables false
/-- A list of one's own, whatever its elements. -/
def ownR (D : Nat → Prop) (te : TypeId) (sz : Nat) (s : Sl) (cs : List Value) : Itm := ⟨D, fun W => W.ownsRow 0 te sz s.v s.n cs ∧ ∀ g, s.v.ownBlock = some g → D g⟩
theorem ownR_loc (D : Nat → Prop) (te : TypeId) (sz : Nat) (s : Sl) (cs : List Value) : (ownR D te sz s cs).Loc := fun W W' h hs hk => by
  obtain ⟨h1, h2⟩ := (h : W.ownsRow 0 te sz s.v s.n cs ∧ _)
  exact ⟨ownsRow_keep h1 fun g hg => hk g (h2 g hg), h2⟩
theorem stw_litR {w0 w : World} {L : List Itm} {P : Program} {op : Oper} {a : Act} {K : Act → World → Prop} {Q : Exit → Act → World → Prop} (HS : Hid (St w0 w L)) (ts te : TypeId) (n : Nat) (es : List (Nat × Operand)) (ho : op.op = .buildSlice ts n es.toArray) (hu : P.underlying ts = some (.slice te)) {z : Value} {sz bt : Nat} (hinfo : (P.info? te).map (fun i => (i.zero, i.size, i.bytes)) = some (some z, sz, bt)) (h1 : ¬ n * sz > 2 ^ 24) (h2 : ¬ n * sz = 0) (hm : n ≤ 1000)
    (vs : List (Nat × Value)) (hv : (es.map fun (i, x) => (i, a.eval x)) = vs) (cs : List Value) (hcs : cs.length = n * sz) (hf : Instr.fill (fun i => some (i * sz, sz)) ((Array.range (n * sz)).map (z.cells[· % z.cells.size]!)) vs = some cs.toArray)
    (hw : ∀ W b, Hid (St w0 W (ownR (fun k => k = b) te sz ⟨some ⟨b, 0, none⟩, n, n⟩ cs :: L)) → K (a.put op.dst (.slice (some ⟨b, 0, none⟩) n n)) W) : op.wp P a w K Q := by
  obtain ⟨i, hi, hz, hs, hy⟩ := info_parts hinfo
  subst hs
  have hO := World.ownsRow_lit (base := 0) (e := te) (size := i.size) w cs.toArray n (Nat.zero_le _) (by unfold maxLen; omega) (by simp [hcs])
  rw [List.toList_toArray] at hO
  refine wp_buildSlice ts te n _ ho cs.toArray i z hu hi hz h1 h2 ?_ (hw _ _ (HS.out.push ((Below.refl _ w).alloc (Nat.le_refl _) _) (ownR (fun k => k = w.heap.size) te i.size ⟨some ⟨w.heap.size, 0, none⟩, n, n⟩ cs) (ownR_loc _ _ _ _ _) ⟨hO, fun g hg => by simpa [Sl.v, Value.ownBlock, eq_comm] using hg⟩ fun k hk => by
    have hk : k = w.heap.size := hk
    subst hk
    exact ⟨Nat.le_refl _, by simp⟩))
  rw [show (es.toArray.map fun (i, x) => (i, a.eval x)).toList = vs from by rw [← hv]; simp]
  exact hf
theorem st_litR {w0 w : World} {L : List Itm} {P : Program} {ops : Array Oper} {rest : List Oper} {op : Oper} {a : Act} {Q : Exit → Act → World → Prop} (HS : Hid (St w0 w L)) (ts te : TypeId) (n : Nat) (es : List (Nat × Operand)) (ho : op.op = .buildSlice ts n es.toArray) (hgd : Region.wanted op (yielded ops a.tmps) = true) (hu : P.underlying ts = some (.slice te)) {z : Value} {sz bt : Nat} (hinfo : (P.info? te).map (fun i => (i.zero, i.size, i.bytes)) = some (some z, sz, bt)) (h1 : ¬ n * sz > 2 ^ 24) (h2 : ¬ n * sz = 0) (hm : n ≤ 1000)
    (vs : List (Nat × Value)) (hv : (es.map fun (i, x) => (i, a.eval x)) = vs) (cs : List Value) (hcs : cs.length = n * sz) (hf : Instr.fill (fun i => some (i * sz, sz)) ((Array.range (n * sz)).map (z.cells[· % z.cells.size]!)) vs = some cs.toArray)
    (hw : ∀ W b, Hid (St w0 W (ownR (fun k => k = b) te sz ⟨some ⟨b, 0, none⟩, n, n⟩ cs :: L)) → wpList P ops Q rest (a.put op.dst (.slice (some ⟨b, 0, none⟩) n n)) W) : wpList P ops Q (op :: rest) a w :=
  BigFrame.wpList_want hgd fun _ hK => stw_litR HS ts te n es ho hu hinfo h1 h2 hm vs hv cs hcs hf fun W b h => hK _ _ (hw W b h)
/-- More at the end of a list of one's own. -/
theorem stw_appR {w0 w : World} {L : List Itm} {P : Program} {op : Oper} {a : Act} {K : Act → World → Prop} {Q : Exit → Act → World → Prop} (HS : Hid (St w0 w L)) (i i2 : Nat) {D : Nat → Prop} {te : TypeId} {sz bt : Nat} {s : Sl} {cs ys : List Value} {b m : Nat} (ei : L[i]? = some (ownR D te sz s cs)) (e2 : L[i2]? = some (blkI b ys)) (hn : s.n ≤ 1000) (hm0 : 0 < m) (hm : m ≤ 1000) (hyl : ys.length = m * sz) (h1 : ∀ u ∈ ys, u.oneCell' = true)
    (x y : Operand) (t : TypeId) (ho : op.op = .call { callee := .builtin .append, args := #[x, y], argTypes := #[t, t] }) {z : Value} (ht : P.underlying t = some (.slice te)) (hi : (P.info? te).map (fun i => (i.zero, i.size, i.bytes)) = some (some z, sz, bt)) (hzs : z.cells.size = sz) (hsz : 0 < sz) (hb : bt ≤ 10000)
    (hx : a.eval x = .slice s.a s.n s.c) (hy : a.eval y = .slice (some ⟨b, 0, none⟩) m m)
    (h : ∀ W D' g cap, Hid (St w0 W (L.set i (ownR D' te sz ⟨some ⟨g, 0, none⟩, s.n + m, cap⟩ (cs ++ ys)))) → K (a.put op.dst (.slice (some ⟨g, 0, none⟩) (s.n + m) cap)) W) : op.wp P a w K Q := by
  obtain ⟨ie, hie, hz, hsize, hby⟩ := info_parts hi
  obtain ⟨hO, hD⟩ := (show w.ownsRow 0 te sz s.v s.n cs ∧ ∀ g, s.v.ownBlock = some g → D g from HS.out.get i ei)
  have B := HS.out.blk i2 e2
  refine wp_append_lies w x y t ho 0 te ie z sz bt ht hie hz hsize hby hzs hsz s.v s.n cs hx hO ⟨b, 0, none⟩ m m ys hy hyl (fun q u hq => ?_) h1 hm0 (by unfold maxLen; omega) (by have : (s.n + m) * bt ≤ 2000 * 10000 := Nat.mul_le_mul (by omega) hb; omega) (Nat.zero_le _) w.heap.size rfl fun g cap W' hown hgrow hat hlt => ?_
  · have hadd : (⟨b, 0, none⟩ : Addr).add q = ⟨b, q, none⟩ := by unfold Addr.add; split <;> simp_all
    rw [hadd]
    exact B.cell q u hq
  · refine h W' (fun k => D k ∨ k = g) g cap (HS.out.set i ei (ownR (fun k => D k ∨ k = g) te sz ⟨some ⟨g, 0, none⟩, s.n + m, cap⟩ (cs ++ ys)) (chg_grown hgrow fun g' hg' => hD g' hg') (ownR_loc _ _ _ _ _) ⟨hown, fun q hq => ?_⟩ fun q hq => ?_)
    · right
      simpa [Sl.v, Value.ownBlock, eq_comm] using hq
    · rcases hq with hq | rfl
      · exact .inl hq
      · rcases hat with hat | hat
        · exact .inl (hD q hat)
        · exact .inr ⟨by omega, hlt⟩
theorem st_appR {w0 w : World} {L : List Itm} {P : Program} {ops : Array Oper} {rest : List Oper} {op : Oper} {a : Act} {Q : Exit → Act → World → Prop} (HS : Hid (St w0 w L)) (i i2 : Nat) {D : Nat → Prop} {te : TypeId} {sz bt : Nat} {s : Sl} {cs ys : List Value} {b m : Nat} (ei : L[i]? = some (ownR D te sz s cs)) (e2 : L[i2]? = some (blkI b ys)) (hn : s.n ≤ 1000) (hm0 : 0 < m) (hm : m ≤ 1000) (hyl : ys.length = m * sz) (h1 : ∀ u ∈ ys, u.oneCell' = true) (hgd : Region.wanted op (yielded ops a.tmps) = true)
    (x y : Operand) (t : TypeId) (ho : op.op = .call { callee := .builtin .append, args := #[x, y], argTypes := #[t, t] }) {z : Value} (ht : P.underlying t = some (.slice te)) (hi : (P.info? te).map (fun i => (i.zero, i.size, i.bytes)) = some (some z, sz, bt)) (hzs : z.cells.size = sz) (hsz : 0 < sz) (hb : bt ≤ 10000)
    (hx : a.eval x = .slice s.a s.n s.c) (hy : a.eval y = .slice (some ⟨b, 0, none⟩) m m)
    (h : ∀ W D' g cap, Hid (St w0 W (L.set i (ownR D' te sz ⟨some ⟨g, 0, none⟩, s.n + m, cap⟩ (cs ++ ys)))) → wpList P ops Q rest (a.put op.dst (.slice (some ⟨g, 0, none⟩) (s.n + m) cap)) W) : wpList P ops Q (op :: rest) a w :=
  BigFrame.wpList_want hgd fun _ hK => stw_appR HS i i2 ei e2 hn hm0 hm hyl h1 x y t ho ht hi hzs hsz hb hx hy fun W D' g cap h2 => hK _ _ (h W D' g cap h2)
/-- Five Starts, where they lie. -/
def sixS : PScript := ⟨[[1], [], [], []], 5, [⟨[3, 0, 0], [2, 0, 0, 0]⟩, ⟨[5, 0, 0], []⟩, ⟨[6, 0, 0], []⟩, ⟨[7, 0, 0], []⟩, ⟨[8, 0, 0], []⟩], []⟩
def twoC (bi : Nat) : List Value := [.int .i64 3, .int .i64 0, .int .i64 0, .slice (some ⟨bi, 0, none⟩) 1 1, .int .i64 5, .int .i64 0, .int .i64 0, .slice none 0 0]
def threeC : List Value := [.int .i64 6, .int .i64 0, .int .i64 0, .slice none 0 0, .int .i64 7, .int .i64 0, .int .i64 0, .slice none 0 0, .int .i64 8, .int .i64 0, .int .i64 0, .slice none 0 0]
theorem sixC (bi : Nat) : twoC bi ++ threeC = rowL (startCell (fun i => if i = 0 then ⟨some ⟨bi, 0, none⟩, 1, 1⟩ else noSl) sixS.starts) (5 * 4) := rfl
theorem two_is {W : World} {bt bi : Nat} (h : W.ownsRow 0 64 4 (.slice (some ⟨bt, 0, none⟩) 2 2) 2 (twoC bi)) (hi : Blk W bi [.int .i64 2, .int .i64 0, .int .i64 0, .int .i64 0]) :
    StaIs W ⟨some ⟨bt, 0, none⟩, 2, 2⟩ (fun i => if i = 0 then ⟨some ⟨bi, 0, none⟩, 1, 1⟩ else noSl) [⟨[3, 0, 0], [2, 0, 0, 0]⟩, ⟨[5, 0, 0], []⟩] := by
  have e : twoC bi = rowL (startCell (fun i => if i = 0 then ⟨some ⟨bi, 0, none⟩, 1, 1⟩ else noSl) [⟨[3, 0, 0], [2, 0, 0, 0]⟩, ⟨[5, 0, 0], []⟩]) (2 * 4) := rfl
  rw [e] at h
  obtain ⟨a, c, e1, _, _, hr, _⟩ := slice_of_owns h
  simp only [Value.slice.injEq] at e1
  obtain ⟨rfl, _, rfl⟩ := e1
  refine ⟨rfl, ⟨by show 2 * 48 ≤ _; decide, Nat.le_refl _, fun h => by cases h⟩, hr, fun i hi2 => ?_⟩
  have hi2 : i < 2 := hi2
  have : i = 0 ∨ i = 1 := by omega
  rcases this with rfl | rfl
  · exact ⟨rfl, slIs_blk hi rfl (by decide)⟩
  · exact ⟨rfl, slIs_none _ 4⟩
theorem six_is {W : World} {g cap bi bv : Nat} (h : W.ownsRow 0 64 4 (.slice (some ⟨g, 0, none⟩) 5 cap) 5 (twoC bi ++ threeC)) (hi : Blk W bi [.int .i64 2, .int .i64 0, .int .i64 0, .int .i64 0]) (hv : Blk W bv [.int .i64 1]) :
    ScrIs W ⟨fourSl ⟨some ⟨bv, 0, none⟩, 1, 1⟩ noSl noSl noSl, ⟨some ⟨g, 0, none⟩, 5, cap⟩, (fun i => if i = 0 then ⟨some ⟨bi, 0, none⟩, 1, 1⟩ else noSl), noSl⟩ sixS := by
  rw [sixC] at h
  obtain ⟨a, c, e1, hc, _, hr, _⟩ := slice_of_owns h
  simp only [Value.slice.injEq] at e1
  obtain ⟨rfl, _, rfl⟩ := e1
  refine ⟨rfl, fun g hg => (match g, hg with
    | 0, _ => slIs_blk hv rfl (by decide)
    | 1, _ => slIs_none _ 1
    | 2, _ => slIs_none _ 1
    | 3, _ => slIs_none _ 1), ⟨rfl, ⟨by show 5 * 48 ≤ _; decide, hc, fun h => by cases h⟩, hr, fun i hi2 => ?_⟩, slIs_none _ 2⟩
  have hi2 : i < 5 := hi2
  have : i = 0 ∨ i = 1 ∨ i = 2 ∨ i = 3 ∨ i = 4 := by omega
  rcases this with rfl | rfl | rfl | rfl | rfl
  · exact ⟨rfl, slIs_blk hi rfl (by decide)⟩
  all_goals exact ⟨rfl, slIs_none _ 4⟩
set_option maxRecDepth 100000 in
set_option maxHeartbeats 4000000 in
theorem machNews_6 (a0 a1 r : Int) (w : World) (hd : bits .and .i64 a1 1023 = r) (r0 : 0 ≤ r) (r1 : r ≤ 1023) (hp : (IntKind.u64.wrap a0).tmod 9 = 6) :
    Calls Tryz.prog 5 #[.int .i64 a0, .int .i64 a1] w fun e w' => e = .returned (.bool true) ∧ Below w.heap.size w w' := by
  have HS := hide (St.refl w)
  have hAw := hide fun (W : World) => awake12_any W
  obtain ⟨X, hX⟩ : ∃ X, newP (newsS [1] [] 5 3 0 5 [2, 0, 0, 0]) = (X, 0) := ⟨_, newP_yes (by decide +kernel)⟩
  have hN := hide fun (B : ScrM) (W : World) (h : ScrIs W B (newsS [1] [] 5 3 0 5 [2, 0, 0, 0])) => machNew_any B (newsS [1] [] 5 3 0 5 [2, 0, 0, 0]) W h
  rw [hX] at hN
  clear hX
  have hM := hide fun (B : ScrM) (W : World) (h : ScrIs W B sixS) => machNew_any B sixS W h
  rw [show newP sixS = (noMach, 1200) from newP_many (by decide)] at hM
  go_enter Tryz.func5, Tryz.ntmps5
  go_wp2_with fail
  refine (hAw.out _).mono ?_
  (rintro e Wq ⟨rfl, hb⟩; have HSq := hide (HS.out.on hb); clear HS hb; replace HS := HSq; clear HSq)
  clear hAw
  go_upto_region 5 with (first | ((with_reducible refine isList ?_); first | (refine st_litB HS _ 3 1 _ rfl rfl Tryz.underlying22 Tryz.infoN (by decide) (by decide) [(0, .int .i64 1)] rfl _ (fill_n1 1) ?_; clear HS; intro W bv HS) | (refine st_litB HS _ 62 1 _ rfl rfl Tryz.underlying55 Tryz.infoI (by decide) (by decide) [(0, .agg #[.int .i64 2, .int .i64 0, .int .i64 0, .int .i64 0])] rfl _ (fill_i1 2 0 0 0) ?_; clear HS; intro W bi HS) | (refine st_litR HS _ 64 2 _ rfl rfl Tryz.underlying24 Tryz.infoC (by decide) (by decide) (by decide) [(0, .agg #[.int .i64 3, .int .i64 0, .int .i64 0, .slice (some ⟨bi, 0, none⟩) 1 1]), (1, .agg #[.int .i64 5, .int .i64 0, .int .i64 0, .slice none 0 0])] rfl (twoC bi) rfl (fill_c2 3 0 0 5 0 0 _ _) ?_; clear HS; intro W bt HS) | (refine st_alloc HS _ rfl rfl zeroPL zeroP ?_; clear HS; intro W b6 HS) | (refine st_storeA HS 0 rfl _ _ _ rfl rfl rfl _ rfl rfl (by kernel_rfl) rfl ?_; clear HS; intro W HS)))
  replace HS : Hid (St w W [blkI b6 (scrL ⟨fourSl ⟨some ⟨bv, 0, none⟩, 1, 1⟩ noSl noSl noSl, ⟨some ⟨bt, 0, none⟩, 2, 2⟩, (fun i => if i = 0 then ⟨some ⟨bi, 0, none⟩, 1, 1⟩ else noSl), noSl⟩ (newsS [1] [] 5 3 0 5 [2, 0, 0, 0])), ownR (fun k => k = bt) 64 4 ⟨some ⟨bt, 0, none⟩, 2, 2⟩ (twoC bi), blkI bi [.int .i64 2, .int .i64 0, .int .i64 0, .int .i64 0], blkI bv [.int .i64 1]]) := HS
  go_wp2_with (first | ((with_reducible refine isList ?_); first | (refine st_loadA HS 0 rfl _ _ rfl rfl rfl (by decide +kernel) (by kernel_rfl) ?_)))
  refine (hN.out ⟨fourSl ⟨some ⟨bv, 0, none⟩, 1, 1⟩ noSl noSl noSl, ⟨some ⟨bt, 0, none⟩, 2, 2⟩, (fun i => if i = 0 then ⟨some ⟨bi, 0, none⟩, 1, 1⟩ else noSl), noSl⟩ _ ⟨rfl, fun g hg => (match g, hg with
    | 0, _ => slIs_blk (HS.out.blk 3 rfl) rfl (by decide)
    | 1, _ => slIs_none _ 1
    | 2, _ => slIs_none _ 1
    | 3, _ => slIs_none _ 1), two_is (show _ ∧ _ from HS.out.get 1 rfl).1 (HS.out.blk 2 rfl), slIs_none _ 2⟩).mono ?_
  (rintro e Wq ⟨AX, rfl, hO, hb⟩; have HSq := hide (HS.out.push hb (machI (fun k => _) AX _) (machI_loc _ _ _) hO fun k hk => hk); generalize (fun k => _) = DX at HSq; clear HS hb hO; replace HS := HSq; clear HSq)
  clear hN
  go_upto_region 6 with (first | ((with_reducible refine isList ?_); first | (refine st_alloc HS _ rfl rfl zeroML zeroM ?_; clear HS; intro W b7 HS) | (refine st_storeA HS 0 rfl _ _ _ rfl rfl rfl _ rfl rfl (by kernel_rfl) rfl ?_; clear HS; intro W HS)))
  replace HS : Hid (St w W [blkI b6 (scrL ⟨fourSl ⟨some ⟨bv, 0, none⟩, 1, 1⟩ noSl noSl noSl, ⟨some ⟨bt, 0, none⟩, 2, 2⟩, (fun i => if i = 0 then ⟨some ⟨bi, 0, none⟩, 1, 1⟩ else noSl), noSl⟩ (newsS [1] [] 5 3 0 5 [2, 0, 0, 0])), ownR (fun k => k = bt) 64 4 ⟨some ⟨bt, 0, none⟩, 2, 2⟩ (twoC bi), blkI bi [.int .i64 2, .int .i64 0, .int .i64 0, .int .i64 0], blkI bv [.int .i64 1]]) := hide (HS.out.sel [2, 3, 4, 5] (by decide) rfl)
  go_upto_region 24 with (first | ((with_reducible refine isList ?_); first | (refine st_load1 HS 0 rfl _ _ rfl _ rfl rfl (by decide +kernel) rfl ?_) | (refine st_litB HS _ 64 3 _ rfl rfl Tryz.underlying24 Tryz.infoC (by decide) (by decide) [(0, .agg #[.int .i64 6, .int .i64 0, .int .i64 0, .slice none 0 0]), (1, .agg #[.int .i64 7, .int .i64 0, .int .i64 0, .slice none 0 0]), (2, .agg #[.int .i64 8, .int .i64 0, .int .i64 0, .slice none 0 0])] rfl threeC (fill_c3 6 0 0 7 0 0 8 0 0 _ _ _) ?_; clear HS; intro W bc HS) | (refine st_appR HS 2 0 (m := 3) rfl rfl (by show 2 ≤ 1000; decide) (by decide) (by decide) rfl (by simp [threeC, Value.oneCell']) rfl _ _ _ rfl Tryz.underlying24 Tryz.infoC rfl (by decide) (by decide) rfl rfl ?_; clear HS; intro W D5 g5 cap HS) | (refine st_store1 HS 1 rfl _ _ _ rfl _ rfl rfl rfl (by decide +kernel) rfl rfl ?_; clear HS; intro W HS)))
  replace HS : Hid (St w W [blkI bc threeC, blkI b6 (scrL ⟨fourSl ⟨some ⟨bv, 0, none⟩, 1, 1⟩ noSl noSl noSl, ⟨some ⟨g5, 0, none⟩, 5, cap⟩, (fun i => if i = 0 then ⟨some ⟨bi, 0, none⟩, 1, 1⟩ else noSl), noSl⟩ sixS), ownR D5 64 4 ⟨some ⟨g5, 0, none⟩, 5, cap⟩ (twoC bi ++ threeC), blkI bi [.int .i64 2, .int .i64 0, .int .i64 0, .int .i64 0], blkI bv [.int .i64 1]]) := HS
  go_wp2_with (first | ((with_reducible refine isList ?_); first | (refine st_loadA HS 1 rfl _ _ rfl rfl rfl (by decide +kernel) (by kernel_rfl) ?_)))
  refine (hM.out ⟨fourSl ⟨some ⟨bv, 0, none⟩, 1, 1⟩ noSl noSl noSl, ⟨some ⟨g5, 0, none⟩, 5, cap⟩, (fun i => if i = 0 then ⟨some ⟨bi, 0, none⟩, 1, 1⟩ else noSl), noSl⟩ _ (six_is (show _ ∧ _ from HS.out.get 2 rfl).1 (HS.out.blk 3 rfl) (HS.out.blk 4 rfl))).mono ?_
  (rintro e Wq ⟨A2, rfl, hO, hb⟩; have HSq := hide (HS.out.push hb (machI (fun k => _) A2 _) (machI_loc _ _ _) hO fun k hk => hk); generalize (fun k => _) = D2 at HSq; clear HS hb hO; replace HS := HSq; clear HSq)
  go_wp2_with (first | ((with_reducible refine isList ?_); first | (refine st_alloc HS _ rfl rfl zeroML zeroM ?_; clear HS; intro W b9 HS) | (refine st_storeA HS 0 rfl _ _ _ rfl rfl rfl _ rfl rfl (by kernel_rfl) rfl ?_; clear HS; intro W HS) | (refine st_loadA HS 0 rfl _ _ rfl rfl rfl (by decide +kernel) (by kernel_rfl) ?_)) | (go_at_call 21; refine (num_any _ _).mono ?_; rintro e w' ⟨rfl, rfl⟩))
  refine (sameMachine_yes A2 noMac noMach _ (MachOwn.is (show MachOwn D2 _ A2 noMach from HS.out.get 1 rfl)) (machIs_none _)).mono ?_
  (rintro e Wq ⟨rfl, hb⟩; have HSq := hide (HS.out.on hb); clear HS hb; replace HS := HSq; clear HSq)
  go_wp2_with (go_at_call 21; refine (num_any _ _).mono ?_; rintro e w' ⟨rfl, rfl⟩)
  go_ret
  exact ⟨rfl, HS.out.below⟩
theorem machNews_any (a0 a1 : Int) (w : World) :
    Calls Tryz.prog 5 #[.int .i64 a0, .int .i64 a1] w fun e w' => e = .returned (.bool true) ∧ Below w.heap.size w w' := by
  have h0 : 0 ≤ IntKind.u64.wrap a0 := by rw [IntKind.wrap_u64]; omega
  have h1 := Int.tmod_nonneg 9 h0
  have h2 := Int.tmod_lt_of_pos (IntKind.u64.wrap a0) (show (0 : Int) < 9 by decide)
  have r0 : 0 ≤ a1 % 1024 := by omega
  have r1 : a1 % 1024 ≤ 1023 := by omega
  generalize hq : (IntKind.u64.wrap a0).tmod 9 = c at h1 h2
  have : c = 0 ∨ c = 1 ∨ c = 2 ∨ c = 3 ∨ c = 4 ∨ c = 5 ∨ c = 6 ∨ c = 7 ∨ c = 8 := by omega
  rcases this with rfl | rfl | rfl | rfl | rfl | rfl | rfl | rfl | rfl
  · exact machNews_0 a0 a1 _ w (mask1023 _) r0 r1 hq
  · exact machNews_1 a0 a1 _ w (mask1023 _) r0 r1 hq
  · exact machNews_2 a0 a1 _ w (mask1023 _) r0 r1 hq
  · exact machNews_3 a0 a1 _ w (mask1023 _) r0 r1 hq
  · exact machNews_4 a0 a1 _ w (mask1023 _) r0 r1 hq
  · exact machNews_5 a0 a1 _ w (mask1023 _) r0 r1 hq
  · exact machNews_6 a0 a1 _ w (mask1023 _) r0 r1 hq
  · exact machNews_7 a0 a1 _ w (mask1023 _) r0 r1 hq
  · exact machNews_8 a0 a1 _ w (mask1023 _) r0 r1 hq
end Go.Proofs.YtaaenolbfhhnfaaGreat
