/-
  A trace of one's own is laid into a machine of one's own; a full one of zeros.
-/
import Derived.Test.YtjjokalheloimaaGreatZlac
import Derived.Test.YtjjokalheloimaaGreatZlad
import Derived.Test.YtjjokalheloimaaGreatZlaf
import Derived.Test.YtjjokalheloimaaGreatZlai
import Derived.Laws.MakeOwn
namespace Go.Proofs.YtjjokalheloimaaGreat
open Go.RowKit
set_option linter.unusedSimpArgs false
set_option linter.unusedVariables false
theorem MachOwn.withTr {D D2 : Nat → Prop} {W : World} {A : MacM} {M : PMach} (h : MachOwn D W A M) (hd : ∀ k, D k → D2 k → False) {s : Sl} {l : List Int} (hs : ListOwn D2 66 4 W s l) :
    MachOwn (fun k => D k ∨ D2 k) W (A.setE s) { M with trace := l } := by
  have key : ∀ j, j < A.num → 0 < (A.sl j).n → 0 < s.n → (A.sl j).a ≠ s.a := fun j hj h0 h1 => (h.own j hj).ne hs.own hd h0 h1
  refine ⟨⟨h.is.four, h.is.clocks, h.is.words, h.is.sess, hs.is⟩, fun j hj => ?_, fun i j hij hj h0 h1 => ?_, ?_⟩
  · rw [A.num_setE] at hj
    rw [A.sl_setE]
    split
    · exact hs.own.mono fun k hk => .inr hk
    · exact (h.own j hj).mono fun k hk => .inl hk
  · rw [A.num_setE] at hj
    rw [A.sl_setE] at h0 h1 ⊢
    rw [A.sl_setE]
    by_cases i5 : i = 5
    · rw [if_pos i5] at h0 ⊢
      rw [if_neg (by omega)] at h1 ⊢
      exact (key j hj h1 h0).symm
    · rw [if_neg i5] at h0 ⊢
      by_cases j5 : j = 5
      · rw [if_pos j5] at h1 ⊢
        exact key i (by omega) h0 h1
      · rw [if_neg j5] at h1 ⊢
        exact h.apart i j hij hj h0 h1
  · obtain ⟨v, hv, hr, hb⟩ := hs.row
    refine ⟨v, hv, hr, fun x hx => ⟨.inr (hb x hx), fun j hj hj5 h0 => ?_⟩⟩
    rw [A.num_setE] at hj
    rw [A.sl_setE, if_neg hj5] at h0 ⊢
    intro e
    obtain ⟨b, e3, hD, _⟩ := h.own j hj h0
    rw [e3] at e
    simp only [Option.some.injEq, Addr.mk.injEq, and_true] at e
    exact hd b hD (e ▸ hb x hx)
theorem St.withTr {w0 W : World} {L : List Itm} (h : St w0 W L) (i i2 : Nat) {D D2 : Nat → Prop} {A : MacM} {M : PMach} {s : Sl} {l : List Int} (ei : L[i]? = some (machI D A M)) (e2 : L[i2]? = some (slI D2 66 4 s l)) (hne : i ≠ i2) :
    St w0 W ((L.set i (machI (fun k => D k ∨ D2 k) (A.setE s) { M with trace := l })).set i2 empI) :=
  h.give i i2 ei e2 hne (machI (fun k => D k ∨ D2 k) (A.setE s) { M with trace := l }) (machI_loc _ _ _) (MachOwn.withTr (show MachOwn D W A M from h.get i ei) (h.apart i i2 _ _ ei e2 hne) (h.get i2 e2)) fun k hk => hk
/-- So many zeros. -/
def zerosL (n : Nat) : List Int := List.replicate n 0
theorem zerosL_rowL (n : Nat) : (zerosL n).map (Value.int .i64) = rowL (intF (lz (zerosL n))) n := by
  apply List.ext_getElem?
  intro i
  by_cases h : i < n
  · rw [rowL_get h]
    unfold intF zerosL lz
    simp [h]
  · rw [rowL_none (by omega)]
    unfold zerosL
    simp; omega
theorem made_zeros (k : Nat) : madeCells #[.int .i64 0, .int .i64 0, .int .i64 0, .int .i64 0] k = ((zerosL k).map (Value.int .i64)).toArray := by
  apply Array.ext_getElem?
  intro i
  by_cases h : i < k
  · have : i % 4 < 4 := Nat.mod_lt _ (by omega)
    have e : i % 4 = 0 ∨ i % 4 = 1 ∨ i % 4 = 2 ∨ i % 4 = 3 := by omega
    unfold madeCells
    rw [Array.getElem?_map, Array.getElem?_range, if_pos h, Option.map_some]
    have e2 : ((zerosL k).map (Value.int .i64)).toArray[i]? = some (.int .i64 0) := by unfold zerosL; simp [h]
    rw [e2]
    show some (#[Value.int .i64 0, .int .i64 0, .int .i64 0, .int .i64 0][i % 4]!) = _
    rcases e with e | e | e | e <;> rw [e] <;> rfl
  · rw [Array.getElem?_eq_none (by rw [size_madeCells]; omega), Array.getElem?_eq_none (by unfold zerosL; simp; omega)]
/-- A list made of zeros, of events. -/
theorem stw_makeE {w0 w : World} {L : List Itm} {op : Oper} {a : Act} {K : Act → World → Prop} {Q : Exit → Act → World → Prop} (HS : Hid (St w0 w L)) (x y : Operand) (ho : op.op = .makeSlice 32 x y) (n : Nat) (hn : n ≤ 100000) (hx : a.eval x = .int .i64 n) (hy : a.eval y = .int .i64 n)
    (h : ∀ W D' b, Hid (St w0 W (slI D' 66 4 ⟨some ⟨b, 0, none⟩, n, n⟩ (zerosL (n * 4)) :: L)) → K (a.put op.dst (.slice (some ⟨b, 0, none⟩) n n)) W) : op.wp Tryz.prog a w K Q := by
  obtain ⟨i, hi, hz, hs, hb⟩ := info_parts Tryz.infoEvent
  have hr := run_make w 32 66 i _ Tryz.underlying32 hi hz .i64 .i64 (n : Int) (n : Int) (by omega) (Int.le_refl _) (by rw [hb]; omega) (by omega)
  rw [hs] at hr
  rw [show (Value.agg #[.int .i64 0, .int .i64 0, .int .i64 0, .int .i64 0]).cells = #[.int .i64 0, .int .i64 0, .int .i64 0, .int .i64 0] from rfl, made_zeros, Int.toNat_natCast] at hr
  have hB := blk_new w ((zerosL (n * 4)).map (Value.int .i64)) 66
  have hlen : (zerosL (n * 4)).length = n * 4 := by unfold zerosL; simp
  have hO := World.ownsRow_lit (base := 0) (e := 66) (size := 4) w ((zerosL (n * 4)).map (Value.int .i64)).toArray n (Nat.zero_le _) (by unfold maxLen; omega) (by simp [hlen])
  rw [List.toList_toArray, zerosL_rowL] at hO
  have hL : ListOwn (fun k => k = w.heap.size) 66 4 (w.alloc (.cells ((zerosL (n * 4)).map (Value.int .i64)).toArray 66)) ⟨some ⟨w.heap.size, 0, none⟩, n, n⟩ (zerosL (n * 4)) := by
    refine ⟨slIs_blk hB hlen (by omega), fun _ => ⟨w.heap.size, rfl, rfl, _, hB⟩, _, rfl, ?_, fun g hg => ?_⟩
    · rw [zerosL_rowL]; exact hO
    · simpa [Value.ownBlock, eq_comm] using hg
  unfold Oper.wp execOp
  simp only [ho, hx, hy, Sem.run_bind, hr, Sem.run_pure, Result.andThen_ok]
  have HS2 : Hid (St w0 (w.alloc (.cells ((zerosL (n * 4)).map (Value.int .i64)).toArray 66)) (slI (fun k => k = w.heap.size) 66 4 ⟨some ⟨w.heap.size, 0, none⟩, n, n⟩ (zerosL (n * 4)) :: L)) :=
    HS.out.push ((Below.refl _ w).alloc (Nat.le_refl _) _) (slI (fun k => k = w.heap.size) 66 4 ⟨some ⟨w.heap.size, 0, none⟩, n, n⟩ (zerosL (n * 4))) (slI_loc _ _ _ _ _) hL fun k hk => by
      have hk' : k = w.heap.size := hk
      rw [World.size_alloc]; omega
  exact h _ _ _ HS2
theorem st_makeE {w0 w : World} {L : List Itm} {ops : Array Oper} {rest : List Oper} {op : Oper} {a : Act} {Q : Exit → Act → World → Prop} (HS : Hid (St w0 w L)) (x y : Operand) (ho : op.op = .makeSlice 32 x y) (hgd : Region.wanted op (yielded ops a.tmps) = true) (n : Nat) (hn : n ≤ 100000) (hx : a.eval x = .int .i64 n) (hy : a.eval y = .int .i64 n)
    (h : ∀ W D' b, Hid (St w0 W (slI D' 66 4 ⟨some ⟨b, 0, none⟩, n, n⟩ (zerosL (n * 4)) :: L)) → wpList Tryz.prog ops Q rest (a.put op.dst (.slice (some ⟨b, 0, none⟩) n n)) W) : wpList Tryz.prog ops Q (op :: rest) a w :=
  BigFrame.wpList_want hgd fun _ hK => stw_makeE HS x y ho n hn hx hy fun W D' b h2 => hK _ _ (h W D' b h2)
end Go.Proofs.YtjjokalheloimaaGreat
