/-
  The document's Put and Get of an instruction.
-/
import Derived.Test.YtlaanhkmoficbaaInstRef
namespace Go.Proofs.Ytlaanhkmoficbaa
open Go.RowKit
set_option linter.unusedSimpArgs false

theorem u8_byte {n : Int} (h0 : 0 ≤ n) (h1 : n ≤ 255) : IntKind.u8.wrap n = n := by
  simp only [IntKind.wrap, IntKind.bits, IntKind.signed]
  simp
  omega

/-- An instruction's bytes, just laid. -/
theorem bytes_lie (w1 : World) (i : Nat → Int) (hb : ∀ k, k < 4 → 0 ≤ i k ∧ i k ≤ 255) : ∀ j (hj : j < (instT i).length), (w1.alloc (.cells #[.int .u8 (i 0), .int .u8 (i 1), .int .u8 (i 2), .int .u8 (i 3)] 5)).cell? ((⟨w1.heap.size, 0, none⟩ : Addr).add j) = some (.int .u8 ((instT i)[j].toNat : Int)) := by
  intro j hj
  have hj4 : j < 4 := hj
  have B := blk_new w1 [.int .u8 (i 0), .int .u8 (i 1), .int .u8 (i 2), .int .u8 (i 3)] 5
  obtain ⟨c0, c1, c2, c3⟩ := B.cells4
  have e : (⟨w1.heap.size, 0, none⟩ : Addr).add j = ⟨w1.heap.size, j, none⟩ := Go.WideShapes.add_plain _ _ _ |>.trans (by rw [Nat.zero_add])
  rw [e]
  have : j = 0 ∨ j = 1 ∨ j = 2 ∨ j = 3 := by omega
  rcases this with rfl | rfl | rfl | rfl
  · rw [show ((instT i)[0].toNat : Int) = i 0 from byteOf_nat (hb 0 (by omega)).1 (hb 0 (by omega)).2]; exact c0
  · rw [show ((instT i)[1].toNat : Int) = i 1 from byteOf_nat (hb 1 (by omega)).1 (hb 1 (by omega)).2]; exact c1
  · rw [show ((instT i)[2].toNat : Int) = i 2 from byteOf_nat (hb 2 (by omega)).1 (hb 2 (by omega)).2]; exact c2
  · rw [show ((instT i)[3].toNat : Int) = i 3 from byteOf_nat (hb 3 (by omega)).1 (hb 3 (by omega)).2]; exact c3


/-- The length and the bytes of a text, as a walk asks for them. -/
theorem text_size (l : List UInt8) : (⟨l.toArray⟩ : ByteArray).size = l.length := by
  show l.toArray.size = _
  simp
theorem text_at (l : List UInt8) {k : Nat} (h : k < (⟨l.toArray⟩ : ByteArray).size) : ((⟨l.toArray⟩ : ByteArray)[k]'h) = l.getD k 0 := by
  have h' : k < l.length := by rw [← text_size]; exact h
  show l.toArray[k]'_ = _
  simp [List.getD, h']
theorem text_num (l : List UInt8) {k : Nat} (h : k < (⟨l.toArray⟩ : ByteArray).size) : (((⟨l.toArray⟩ : ByteArray)[k]'h).toNat : Int) = instOf l k := by
  rw [text_at]; rfl
theorem instOf_byte (l : List UInt8) (k : Nat) : 0 ≤ instOf l k ∧ instOf l k ≤ 255 := by
  unfold instOf
  have := (l.getD k 0).toNat_lt
  omega
theorem text_wrap (l : List UInt8) {k : Nat} (h : k < (⟨l.toArray⟩ : ByteArray).size) : wrap64 (((⟨l.toArray⟩ : ByteArray)[k]'h).toNat : Int) = instOf l k := by
  rw [text_num]
  have := instOf_byte l k
  exact IntWalk.wrap64_in _ ⟨by omega, by omega⟩


end Go.Proofs.Ytlaanhkmoficbaa
