/-
  make([]Inst, n) at a size that is no literal.
-/
import Derived.Test.YtlaanhkmoficbaaProgStat
namespace Go.Proofs.Ytlaanhkmoficbaa
open Go.RowKit
set_option linter.unusedSimpArgs false

theorem made_zero (k : Nat) : madeCells #[.int .i64 0, .int .i64 0, .int .i64 0, .int .i64 0] k = (rowL (intF fun _ => 0) k).toArray := by
  apply Array.ext_getElem?
  intro i
  by_cases h : i < k
  · have : i % 4 < 4 := Nat.mod_lt _ (by omega)
    have e : i % 4 = 0 ∨ i % 4 = 1 ∨ i % 4 = 2 ∨ i % 4 = 3 := by omega
    rw [show (rowL (intF fun _ => 0) k).toArray[i]? = (rowL (intF fun _ => 0) k)[i]? by simp, rowL_get h]
    unfold madeCells
    rw [Array.getElem?_map, Array.getElem?_range, if_pos h, Option.map_some]
    show some (#[Value.int .i64 0, .int .i64 0, .int .i64 0, .int .i64 0][i % 4]!) = _
    rcases e with e | e | e | e <;> rw [e] <;> rfl
  · rw [show (rowL (intF fun _ => 0) k).toArray[i]? = (rowL (intF fun _ => 0) k)[i]? by simp, rowL_none (by omega), Array.getElem?_eq_none (by rw [size_madeCells]; omega)]
theorem make_insts (r : Int) (r0 : 0 ≤ r) (r1 : r ≤ 1023) (W : World) :
    Sem.run Try.prog (Instr.makeSlice 22 (.int .i64 (16 + (1 + r))) (.int .i64 (16 + (1 + r)))) W = .ok (.slice (some ⟨W.heap.size, 0, none⟩) (17 + r.toNat) (17 + r.toNat)) (W.alloc (.cells (rowL (intF fun _ => 0) ((17 + r.toNat) * 4)).toArray 43)) := by
  obtain ⟨i0, hi, hz0, hz1, hz2⟩ := info_parts Try.infoInst
  rw [run_make W 22 43 i0 _ Try.underlying22 hi hz0 .i64 .i64 _ _ (by omega) (by omega) (by rw [hz2]; omega) (by omega), hz1, ← made_zero, show (16 + (1 + r)).toNat = 17 + r.toNat by omega]
  rfl

end Go.Proofs.Ytlaanhkmoficbaa
