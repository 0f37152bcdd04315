/-
  The document's Get of a program.
-/
import Derived.Test.YtlaanhkmoficbaaProgPutRef
import Derived.Test.YtlaanhkmoficbaaAppendRow
import Derived.Test.YtlaanhkmoficbaaSl
import Derived.Laws.AppendOwnNone
import Derived.OwnWalk
import Derived.Deep.AppendLies
namespace Go.Proofs.Ytlaanhkmoficbaa
open Go.RowKit
set_option linter.unusedSimpArgs false

theorem Try.infoInst : (Try.prog.info? 43).map (fun i => (i.zero, i.size, i.bytes)) = some (some (.agg #[.int .i64 0, .int .i64 0, .int .i64 0, .int .i64 0]), 4, 32) := by kernel_rfl
/-- What Get hands back: nothing, or the instructions of the text, in new memory. -/
def GetPPost (l : List UInt8) (w : World) (e : Ending) (w' : World) : Prop :=
  ∃ x : Sl, e = .returned (.tuple #[.slice x.a x.n x.c, .int .i64 (getPE l)]) ∧ (x.a = none → x.n = 0 ∧ x.c = 0) ∧ (getPOk l = true → x.n = textN l) ∧ (getPOk l = false → x = ⟨none, 0, 0⟩) ∧
    (0 < x.n → ∃ b, x.a = some ⟨b, 0, none⟩ ∧ w.heap.size ≤ b ∧ b < w'.heap.size ∧ Own w' b (x.n * 4) (intF (textZ l))) ∧ Below w.heap.size w w'
theorem getP_no {l : List UInt8} {w w' : World} (h : getPOk l = false) (hb : Below w.heap.size w w') : GetPPost l w (.returned (.tuple #[.slice none 0 0, .int .i64 800])) w' := by
  refine ⟨⟨none, 0, 0⟩, ?_, fun _ => ⟨rfl, rfl⟩, fun h' => ?_, fun _ => rfl, fun h' => absurd h' (Nat.lt_irrefl 0), hb⟩
  · unfold getPE; rw [h]; rfl
  · rw [h] at h'; cases h'
/-- The bytes of the k-th instruction of a text. -/
def partT (l : List UInt8) (k : Nat) : List UInt8 := (l.drop (1 + 4 * k)).take 4
theorem partT_len {l : List UInt8} {k : Nat} (h : 1 + 4 * k + 4 ≤ l.length) : (partT l k).length = 4 := by
  unfold partT
  rw [List.length_take, List.length_drop]
  omega
theorem partT_of {l : List UInt8} {k j : Nat} (hj : j < 4) : instOf (partT l k) j = instAt (textZ l) k j := by
  unfold instOf instAt textZ partT
  congr 2
  rw [List.getD_eq_getElem?_getD, List.getD_eq_getElem?_getD, List.getElem?_take, if_pos hj, List.getElem?_drop]
  congr 2
  omega
theorem part_may (l : List UInt8) (k : Nat) : instMay (instOf (partT l k)) = instMay (instAt (textZ l) k) := instMay_congr fun _ hj => partT_of hj
theorem part_quad (l : List UInt8) (k : Nat) : quadA (instOf (partT l k)) = .agg #[.int .i64 (textZ l (k * 4)), .int .i64 (textZ l (k * 4 + 1)), .int .i64 (textZ l (k * 4 + 2)), .int .i64 (textZ l (k * 4 + 3))] := by
  unfold quadA
  rw [partT_of (by omega), partT_of (by omega), partT_of (by omega), partT_of (by omega)]
  rfl
theorem rowL_more4 (z : Nat → Int) (k : Nat) : rowL (intF z) (k * 4) ++ [.int .i64 (z (k * 4)), .int .i64 (z (k * 4 + 1)), .int .i64 (z (k * 4 + 2)), .int .i64 (z (k * 4 + 3))] = rowL (intF z) ((k + 1) * 4) := by
  rw [show (k + 1) * 4 = k * 4 + 4 by omega, rowL_add]
  rfl

theorem text_list (l : List UInt8) : (⟨l.toArray⟩ : ByteArray).toList = l := by
  rw [ByteArray.toList_eq]
theorem textN_le (l : List UInt8) : textN l ≤ 255 := by
  unfold textN
  have := (l.getD 0 0).toNat_lt
  omega


end Go.Proofs.Ytlaanhkmoficbaa
