/-
  The document's Put of a program.
-/
import Derived.Test.YtkomapgmhipkaaaProgRef
namespace Go.Proofs.Ytkomapgmhipkaaa
open Go.RowKit
set_option linter.unusedSimpArgs false

theorem text_append (l m : List UInt8) : (⟨l.toArray⟩ : ByteArray) ++ (⟨m.toArray⟩ : ByteArray) = ⟨(l ++ m).toArray⟩ := by
  apply ByteArray.ext
  rw [ByteArray.data_append]
  simp

set_option maxRecDepth 10000 in
set_option maxHeartbeats 2000000 in
theorem rputProg_any (a : Option Addr) (n c : Nat) (z : Nat → Int) (w : World) (hn : n ≤ 1152921504606846976) (h : Row w a (n * 4) fun i => .int .i64 (z i)) :
    Calls Try.prog 10 #[.slice a n c] w fun e w' => e = .returned (.tuple #[textS (putPT n z), .int .i64 (putPE n z)]) ∧ Below w.heap.size w w' := by
  unfold putPT putPE
  cases hm : progMay n z
  · go_enter Try.func10, Try.ntmps10
    go_wp2_with fail
    refine (rprogMay_any a n c z _ hn h).mono ?_
    rintro e w1 ⟨rfl, hb⟩
    rw [hm]
    go_wp2
    go_ret2
    exact ⟨rfl, hb⟩
  · obtain ⟨hp, h16⟩ := progMay_get hm
    have u0 : IntKind.u8.wrap (n : Int) = n := u8_byte (by omega) (by omega)
    go_enter Try.func10, Try.ntmps10
    go_wp2_with fail
    refine (rprogMay_any a n c z _ hn h).mono ?_
    rintro e w1 ⟨rfl, b1⟩
    rw [hm]
    have s1 := b1.size
    have hconv := run_convert_bytes_back (P := Try.prog) (w1.alloc (.cells #[.int .u8 (n : Int)] 5)) 44 9 5 ⟨w1.heap.size, 0, none⟩ 1 [byteOf n] (by kernel_rfl) (by kernel_rfl) (by kernel_rfl) (by
      intro j hj
      obtain rfl : j = 0 := by simpa using hj
      rw [show (([byteOf (n : Int)][0]).toNat : Int) = n from byteOf_nat (by omega) (by omega)]
      exact (blk_new w1 [.int .u8 (n : Int)] 5).cell 0 _ rfl)
    rw [show [byteOf (n : Int)].length = 1 from rfl] at hconv
    have HP := hide hp
    clear hp hm
    go_wp2
    go_loopw [4, 5] (fun t i wr => ∃ k : Nat, k ≤ n ∧ t = textS (byteOf n :: progB z k) ∧ i = .int .i64 k ∧ Below w.heap.size w wr) (fun _ i _ => n - (intOf i).toNat)
    case atStart => exact ⟨0, Nat.zero_le _, rfl, rfl, b1.alloc s1 _⟩
    case round =>
      obtain ⟨k, hk, rfl, rfl, hb⟩ := hrel
      by_cases hlt : k < n
      · have i1 : (k : Int) < (n : Int) := by omega
        obtain ⟨b, off, hsa, hbl, d0, d1, d2, d3⟩ := (h.below hb (Nat.le_refl _)).at4 k hlt
        subst hsa
        have C := hide fun w => rputInst_any (instAt z k) w
        unfold putIT putIE at C
        rw [quadA_at, (progTo_get HP.out k hlt).1] at C
        simp only [cond_true] at C
        have ta := text_append (byteOf n :: progB z k) (instT (instAt z k))
        rw [show (byteOf (n : Int) :: progB z k) ++ instT (instAt z k) = byteOf n :: progB z (k + 1) from rfl] at ta
        have sb : ¬ 9223372036854775807 < (progB z k).length + 1 + (instT (instAt z k)).length := by rw [progB_len, instT_len]; omega
        generalize instT (instAt z k) = t at *
        unfold textS at *
        go_wp2_with fail
        refine (C.out _).mono ?_
        rintro e w2 ⟨rfl, hb2⟩
        have b2 : Below w.heap.size w w2 := Below.on hb hb2
        clear hb2 d0 d1 d2 d3 C hconv
        go_wp2
        go_roundw
        case rel => exact ⟨k + 1, by omega, rfl, by go_num, b2⟩
        case measure => simp [intOf]; omega
      · obtain rfl : k = n := by omega
        clear hconv
        go_wp2
        go_ret2
        exact ⟨rfl, hb⟩

end Go.Proofs.Ytkomapgmhipkaaa
