/-
  The document's Put and Get of an instruction.
-/
import Derived.Test.YtkomapgmhipkaaaInstRef
namespace Go.Proofs.Ytkomapgmhipkaaa
open Go.RowKit
set_option linter.unusedSimpArgs false

theorem u8_byte {n : Int} (h0 : 0 ≤ n) (h1 : n ≤ 255) : IntKind.u8.wrap n = n := by
  simp only [IntKind.wrap, IntKind.bits, IntKind.signed]
  simp
  omega

/-- An instruction's bytes, just laid. -/
theorem bytes_lie (w1 : World) (i : Nat → Int) (hb : ∀ k, k < 4 → 0 ≤ i k ∧ i k ≤ 255) : ∀ j (hj : j < (instT i).length), (w1.alloc (.cells #[.int .u8 (i 0), .int .u8 (i 1), .int .u8 (i 2), .int .u8 (i 3)] 5)).cell? ((⟨w1.heap.size, 0, none⟩ : Addr).add j) = some (.int .u8 ((instT i)[j].toNat : Int)) := by
  intro j hj
  have hj4 : j < 4 := hj
  have B := blk_new w1 [.int .u8 (i 0), .int .u8 (i 1), .int .u8 (i 2), .int .u8 (i 3)] 5
  obtain ⟨c0, c1, c2, c3⟩ := B.cells4
  have e : (⟨w1.heap.size, 0, none⟩ : Addr).add j = ⟨w1.heap.size, j, none⟩ := Go.WideShapes.add_plain _ _ _ |>.trans (by rw [Nat.zero_add])
  rw [e]
  have : j = 0 ∨ j = 1 ∨ j = 2 ∨ j = 3 := by omega
  rcases this with rfl | rfl | rfl | rfl
  · rw [show ((instT i)[0].toNat : Int) = i 0 from byteOf_nat (hb 0 (by omega)).1 (hb 0 (by omega)).2]; exact c0
  · rw [show ((instT i)[1].toNat : Int) = i 1 from byteOf_nat (hb 1 (by omega)).1 (hb 1 (by omega)).2]; exact c1
  · rw [show ((instT i)[2].toNat : Int) = i 2 from byteOf_nat (hb 2 (by omega)).1 (hb 2 (by omega)).2]; exact c2
  · rw [show ((instT i)[3].toNat : Int) = i 3 from byteOf_nat (hb 3 (by omega)).1 (hb 3 (by omega)).2]; exact c3

set_option maxHeartbeats 1000000 in
theorem rputInst_any (i : Nat → Int) (w : World) :
    Calls Try.prog 22 #[quadA i] w fun e w' => e = .returned (.tuple #[textS (putIT i), .int .i64 (putIE i)]) ∧ Below w.heap.size w w' := by
  unfold quadA putIT putIE
  cases hm : instMay i
  · go_enter Try.func22, Try.ntmps22
    go_wp2_with fail
    refine (rinstMay_any i _).mono ?_
    rintro e w1 ⟨rfl, hb⟩
    rw [hm]
    have b1 : Below w.heap.size w w1 := Below.on (by go_grown) hb
    clear hb
    go_wp2
    go_ret2
    exact ⟨rfl, b1⟩
  · have hb := instMay_bytes hm
    have u0 := u8_byte (hb 0 (by omega)).1 (hb 0 (by omega)).2
    have u1 := u8_byte (hb 1 (by omega)).1 (hb 1 (by omega)).2
    have u2 := u8_byte (hb 2 (by omega)).1 (hb 2 (by omega)).2
    have u3 := u8_byte (hb 3 (by omega)).1 (hb 3 (by omega)).2
    have HB := hide hb
    clear hb
    go_enter Try.func22, Try.ntmps22
    go_wp2_with fail
    refine (rinstMay_any i _).mono ?_
    rintro e w1 ⟨rfl, hb⟩
    rw [hm]
    have b1 : Below w.heap.size w w1 := Below.on (by go_grown) hb
    have B0 := (blk_new w (quadL i) 40).on hb
    obtain ⟨c0, c1, c2, c3⟩ := B0.cells4
    have y0 := B0.lt
    clear hb
    have hconv := run_convert_bytes_back (P := Try.prog) (w1.alloc (.cells #[.int .u8 (i 0), .int .u8 (i 1), .int .u8 (i 2), .int .u8 (i 3)] 5)) 44 9 5 ⟨w1.heap.size, 0, none⟩ 4 (instT i) (by kernel_rfl) (by kernel_rfl) (by kernel_rfl) ?_
    · rw [instT_len] at hconv
      go_wp2
      go_ret2
      exact ⟨rfl, b1.alloc b1.size _⟩
    · exact bytes_lie w1 i HB.out

/-- The length and the bytes of a text, as a walk asks for them. -/
theorem text_size (l : List UInt8) : (⟨l.toArray⟩ : ByteArray).size = l.length := by
  show l.toArray.size = _
  simp
theorem text_at (l : List UInt8) {k : Nat} (h : k < (⟨l.toArray⟩ : ByteArray).size) : ((⟨l.toArray⟩ : ByteArray)[k]'h) = l.getD k 0 := by
  have h' : k < l.length := by rw [← text_size]; exact h
  show l.toArray[k]'_ = _
  simp [List.getD, h']
theorem text_num (l : List UInt8) {k : Nat} (h : k < (⟨l.toArray⟩ : ByteArray).size) : (((⟨l.toArray⟩ : ByteArray)[k]'h).toNat : Int) = instOf l k := by
  rw [text_at]; rfl
theorem instOf_byte (l : List UInt8) (k : Nat) : 0 ≤ instOf l k ∧ instOf l k ≤ 255 := by
  unfold instOf
  have := (l.getD k 0).toNat_lt
  omega
theorem text_wrap (l : List UInt8) {k : Nat} (h : k < (⟨l.toArray⟩ : ByteArray).size) : wrap64 (((⟨l.toArray⟩ : ByteArray)[k]'h).toNat : Int) = instOf l k := by
  rw [text_num]
  have := instOf_byte l k
  exact IntWalk.wrap64_in _ ⟨by omega, by omega⟩

set_option maxHeartbeats 1000000 in
theorem rgetInst_any (l : List UInt8) (w : World) :
    Calls Try.prog 24 #[textS l] w fun e w' => e = .returned (.tuple #[quadA (getII l), .int .i64 (getIE l)]) ∧ Below w.heap.size w w' := by
  by_cases hl : l.length = 4
  · have sz := text_size l
    rw [hl] at sz
    have t0 := text_wrap l (k := 0) (by omega)
    have t1 := text_wrap l (k := 1) (by omega)
    have t2 := text_wrap l (k := 2) (by omega)
    have t3 := text_wrap l (k := 3) (by omega)
    unfold textS quadA
    cases hm : instMay (instOf l)
    · have HE : Hid (getII l = (fun _ => 0) ∧ getIE l = 700) := by
        unfold getII getIE getIOk; rw [hm, Bool.and_false]; exact ⟨rfl, rfl⟩
      go_enter Try.func24, Try.ntmps24
      go_upto_region 3 with (fail)
      go_region
      have B2 : Blk (((w.alloc (.cells #[.int .i64 0, .int .i64 0, .int .i64 0, .int .i64 0] 40)).alloc (.cells #[.int .i64 (instOf l 0), .int .i64 (instOf l 1), .int .i64 (instOf l 2), .int .i64 (instOf l 3)] 40)).drew) w.heap.size (quadL fun _ => 0) := ((blk_new w (quadL fun _ => 0) 40).alloc (.cells (quadL (instOf l)).toArray 40)).drew
      have B4 : Blk (((w.alloc (.cells #[.int .i64 0, .int .i64 0, .int .i64 0, .int .i64 0] 40)).alloc (.cells #[.int .i64 (instOf l 0), .int .i64 (instOf l 1), .int .i64 (instOf l 2), .int .i64 (instOf l 3)] 40)).drew) (w.heap.size + 1) (quadL (instOf l)) := by
        have := (blk_new (w.alloc (.cells (quadL fun _ => 0).toArray 40)) (quadL (instOf l)) 40).drew
        rw [World.size_alloc] at this
        exact this
      simp only [t0, t1, t2, t3]
      have b2 : Below w.heap.size w (((w.alloc (.cells #[.int .i64 0, .int .i64 0, .int .i64 0, .int .i64 0] 40)).alloc (.cells #[.int .i64 (instOf l 0), .int .i64 (instOf l 1), .int .i64 (instOf l 2), .int .i64 (instOf l 3)] 40)).drew) := by go_grown
      generalize ((w.alloc (.cells #[.int .i64 0, .int .i64 0, .int .i64 0, .int .i64 0] 40)).alloc (.cells #[.int .i64 (instOf l 0), .int .i64 (instOf l 1), .int .i64 (instOf l 2), .int .i64 (instOf l 3)] 40)).drew = W at *
      obtain ⟨c0, c1, c2, c3⟩ := B4.cells4
      clear t0 t1 t2 t3
      go_wp2_with fail
      refine (rinstMay_any (instOf l) _).mono ?_
      rintro e w1 ⟨rfl, hb⟩
      rw [hm]
      have b3 : Below w.heap.size w w1 := Below.on b2 hb
      replace B2 := B2.on hb
      replace B4 := B4.on hb
      clear hb b2 c0 c1 c2 c3
      obtain ⟨⟨d0, d1, d2, d3⟩, g0, g1, g2, g3⟩ := B2.four
      go_wp2
      exact bodyPost_ret (v := .tuple #[.agg #[.int .i64 0, .int .i64 0, .int .i64 0, .int .i64 0], .int .i64 700]) (by simp [results, Try.results24, go_sem, d0, d1, d2, d3]) rfl ⟨by rw [HE.out.1, HE.out.2], by go_grown⟩
    · have HE : Hid (getII l = instOf l ∧ getIE l = 0) := by
        unfold getII getIE getIOk; rw [hm, decide_eq_true hl]; exact ⟨rfl, rfl⟩
      go_enter Try.func24, Try.ntmps24
      go_upto_region 3 with (fail)
      go_region
      have B2 : Blk (((w.alloc (.cells #[.int .i64 0, .int .i64 0, .int .i64 0, .int .i64 0] 40)).alloc (.cells #[.int .i64 (instOf l 0), .int .i64 (instOf l 1), .int .i64 (instOf l 2), .int .i64 (instOf l 3)] 40)).drew) w.heap.size (quadL fun _ => 0) := ((blk_new w (quadL fun _ => 0) 40).alloc (.cells (quadL (instOf l)).toArray 40)).drew
      have B4 : Blk (((w.alloc (.cells #[.int .i64 0, .int .i64 0, .int .i64 0, .int .i64 0] 40)).alloc (.cells #[.int .i64 (instOf l 0), .int .i64 (instOf l 1), .int .i64 (instOf l 2), .int .i64 (instOf l 3)] 40)).drew) (w.heap.size + 1) (quadL (instOf l)) := by
        have := (blk_new (w.alloc (.cells (quadL fun _ => 0).toArray 40)) (quadL (instOf l)) 40).drew
        rw [World.size_alloc] at this
        exact this
      simp only [t0, t1, t2, t3]
      have b2 : Below w.heap.size w (((w.alloc (.cells #[.int .i64 0, .int .i64 0, .int .i64 0, .int .i64 0] 40)).alloc (.cells #[.int .i64 (instOf l 0), .int .i64 (instOf l 1), .int .i64 (instOf l 2), .int .i64 (instOf l 3)] 40)).drew) := by go_grown
      generalize ((w.alloc (.cells #[.int .i64 0, .int .i64 0, .int .i64 0, .int .i64 0] 40)).alloc (.cells #[.int .i64 (instOf l 0), .int .i64 (instOf l 1), .int .i64 (instOf l 2), .int .i64 (instOf l 3)] 40)).drew = W at *
      obtain ⟨c0, c1, c2, c3⟩ := B4.cells4
      clear t0 t1 t2 t3
      go_wp2_with fail
      refine (rinstMay_any (instOf l) _).mono ?_
      rintro e w1 ⟨rfl, hb⟩
      rw [hm]
      have b3 : Below w.heap.size w w1 := Below.on b2 hb
      replace B2 := B2.on hb
      replace B4 := B4.on hb
      clear hb b2 c0 c1 c2 c3
      obtain ⟨⟨d0, d1, d2, d3⟩, g0, g1, g2, g3⟩ := B2.four
      obtain ⟨c0, c1, c2, c3⟩ := B4.cells4
      go_wp2
      exact bodyPost_ret (v := .tuple #[quadA (instOf l), .int .i64 0]) (by simp [results, Try.results24, go_sem, d0, d1, d2, d3, quadA]) rfl ⟨by rw [HE.out.1, HE.out.2]; rfl, by go_grown⟩
  · have HE : Hid (getII l = (fun _ => 0) ∧ getIE l = 700) := by
      unfold getII getIE getIOk; rw [decide_eq_false hl]; exact ⟨rfl, rfl⟩
    have sz : (((⟨l.toArray⟩ : ByteArray).size : Int) != 4) = true := by rw [text_size, bne_iff_ne]; omega
    have nl : ((l.length : Int) != 4) = true := by rw [bne_iff_ne]; omega
    unfold textS quadA
    go_enter Try.func24, Try.ntmps24
    go_wp2
    exact bodyPost_ret (v := .tuple #[.agg #[.int .i64 0, .int .i64 0, .int .i64 0, .int .i64 0], .int .i64 700]) (by simp [results, Try.results24, go_sem]) rfl ⟨by rw [HE.out.1, HE.out.2], by go_grown⟩

end Go.Proofs.Ytkomapgmhipkaaa
