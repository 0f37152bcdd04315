/-
  The law ProgForms, if package prog's functions keep their statements.
-/
import Derived.Test.YtkomapgmhipkaaaProgStat
import Derived.Test.YtkomapgmhipkaaaProgMore
import Derived.Test.YtkomapgmhipkaaaPlain
import Derived.Test.YtkomapgmhipkaaaProgFormsReg9
namespace Go.Proofs.Ytkomapgmhipkaaa
open Go.RowKit
set_option linter.unusedSimpArgs false
set_option linter.unusedVariables false

theorem made_zero (k : Nat) : madeCells #[.int .i64 0, .int .i64 0, .int .i64 0, .int .i64 0] k = (rowL (intF fun _ => 0) k).toArray := by
  apply Array.ext_getElem?
  intro i
  by_cases h : i < k
  · have : i % 4 < 4 := Nat.mod_lt _ (by omega)
    have e : i % 4 = 0 ∨ i % 4 = 1 ∨ i % 4 = 2 ∨ i % 4 = 3 := by omega
    rw [show (rowL (intF fun _ => 0) k).toArray[i]? = (rowL (intF fun _ => 0) k)[i]? by simp, rowL_get h]
    unfold madeCells
    rw [Array.getElem?_map, Array.getElem?_range, if_pos h, Option.map_some]
    show some (#[Value.int .i64 0, .int .i64 0, .int .i64 0, .int .i64 0][i % 4]!) = _
    rcases e with e | e | e | e <;> rw [e] <;> rfl
  · rw [show (rowL (intF fun _ => 0) k).toArray[i]? = (rowL (intF fun _ => 0) k)[i]? by simp, rowL_none (by omega), Array.getElem?_eq_none (by rw [size_madeCells]; omega)]
theorem make_insts (r : Int) (r0 : 0 ≤ r) (r1 : r ≤ 1023) (W : World) :
    Sem.run Try.prog (Instr.makeSlice 22 (.int .i64 (16 + (1 + r))) (.int .i64 (16 + (1 + r)))) W = .ok (.slice (some ⟨W.heap.size, 0, none⟩) (17 + r.toNat) (17 + r.toNat)) (W.alloc (.cells (rowL (intF fun _ => 0) ((17 + r.toNat) * 4)).toArray 40)) := by
  obtain ⟨i0, hi, hz0, hz1, hz2⟩ := info_parts Try.infoInst
  rw [run_make W 22 40 i0 _ Try.underlying22 hi hz0 .i64 .i64 _ _ (by omega) (by omega) (by rw [hz2]; omega) (by omega), hz1, ← made_zero, show (16 + (1 + r)).toNat = 17 + r.toNat by omega]
  rfl
theorem make_bytes (W : World) : Sem.run Try.prog (Instr.makeSlice 44 (.int .i64 68) (.int .i64 68)) W = .ok (.slice (some ⟨W.heap.size, 0, none⟩) 68 68) (W.alloc (.cells ((List.replicate 68 (0 : UInt8)).map fun x => Value.int .u8 (x.toNat : Int)).toArray 5)) := by kernel_rfl

/-- The texts that are none. -/
def badPT : Nat → List UInt8
  | 0 => []
  | 1 => [1]
  | 2 => [0, 0]
  | 3 => [1, 7, 0, 0, 0]
  | 4 => [1, 4, 0, 0, 0]
  | 5 => [1, 4, 0, 2, 0]
  | 6 => [2, 5, 0, 0, 0]
  | _ => [1, 5, 0, 0, 0, 0]
theorem nt0 : getPOk [] = false := by kernel_rfl
theorem nt1 : getPOk [1] = false := by kernel_rfl
theorem nt2 : getPOk [0, 0] = false := by kernel_rfl
theorem nt3 : getPOk [1, 7, 0, 0, 0] = false := by kernel_rfl
theorem nt4 : getPOk [1, 4, 0, 0, 0] = false := by kernel_rfl
theorem nt5 : getPOk [1, 4, 0, 2, 0] = false := by kernel_rfl
theorem nt6 : getPOk [2, 5, 0, 0, 0] = false := by kernel_rfl
theorem nt7 : getPOk [1, 5, 0, 0, 0, 0] = false := by kernel_rfl
theorem badPT_not (p : Nat) (h : p < 8) : getPOk (badPT p) = false := by
  have : p = 0 ∨ p = 1 ∨ p = 2 ∨ p = 3 ∨ p = 4 ∨ p = 5 ∨ p = 6 ∨ p = 7 := by omega
  rcases this with rfl | rfl | rfl | rfl | rfl | rfl | rfl | rfl
  · exact nt0
  · exact nt1
  · exact nt2
  · exact nt3
  · exact nt4
  · exact nt5
  · exact nt6
  · exact nt7
theorem badPT_at (p : Nat) (h : p < 8) : [textS [], textS [1], textS [0, 0], textS [1, 7, 0, 0, 0], textS [1, 4, 0, 0, 0], textS [1, 4, 0, 2, 0], textS [2, 5, 0, 0, 0], textS [1, 5, 0, 0, 0, 0]][p]? = some (textS (badPT p)) := by
  have : p = 0 ∨ p = 1 ∨ p = 2 ∨ p = 3 ∨ p = 4 ∨ p = 5 ∨ p = 6 ∨ p = 7 := by omega
  rcases this with rfl | rfl | rfl | rfl | rfl | rfl | rfl | rfl <;> rfl
theorem bigT_not : getPOk (17 :: List.replicate 68 0) = false := by kernel_rfl

/-- One of the five that may not be. -/
theorem bad_pick {W : World} {b0 b1 b2 b3 b4 bl N : Nat} {r : Int} (r0 : 0 ≤ r) (hN : 16 < N) (hN2 : N ≤ 2000) (B0 : Blk W b0 [.int .i64 (6 + (1 + r)), .int .i64 0, .int .i64 0, .int .i64 0]) (B1 : Blk W b1 [.int .i64 4, .int .i64 0, .int .i64 0, .int .i64 0]) (B2 : Blk W b2 [.int .i64 0, .int .i64 0, .int .i64 0, .int .i64 0, .int .i64 4, .int .i64 0, .int .i64 1, .int .i64 0]) (B3 : Blk W b3 [.int .i64 4, .int .i64 0, .int .i64 2, .int .i64 0]) (B4 : Blk W b4 (rowL (intF fun _ => 0) (N * 4)))
    (BL : Blk W bl [.slice (some ⟨b0, 0, none⟩) 1 1, .slice (some ⟨b1, 0, none⟩) 1 1, .slice (some ⟨b2, 0, none⟩) 2 2, .slice (some ⟨b3, 0, none⟩) 1 1, .slice (some ⟨b4, 0, none⟩) N N]) (m : Nat) (hm : m < 5) :
    ∃ (b n : Nat) (z : Nat → Int), W.cell? ⟨bl, m, none⟩ = some (.slice (some ⟨b, 0, none⟩) n n) ∧ (Row W (some ⟨b, 0, none⟩) (n * 4) fun i => .int .i64 (z i)) ∧ progMay n z = false ∧ n ≤ 2000 := by
  have : m = 0 ∨ m = 1 ∨ m = 2 ∨ m = 3 ∨ m = 4 := by omega
  rcases this with rfl | rfl | rfl | rfl | rfl
  · refine ⟨b0, 1, zOf [6 + (1 + r), 0, 0, 0], BL.cell 0 _ rfl, B0.ints 4 _ rfl, progMay_no 0 (by omega) ?_, by omega⟩
    rw [instMay_no (.inr (show 6 < 6 + (1 + r) by omega))]
    rfl
  · exact ⟨b1, 1, zOf [4, 0, 0, 0], BL.cell 1 _ rfl, B1.ints 4 _ rfl, by kernel_rfl, by omega⟩
  · exact ⟨b2, 2, zOf [0, 0, 0, 0, 4, 0, 1, 0], BL.cell 2 _ rfl, B2.ints 8 _ rfl, by kernel_rfl, by omega⟩
  · exact ⟨b3, 1, zOf [4, 0, 2, 0], BL.cell 3 _ rfl, B3.ints 4 _ rfl, by kernel_rfl, by omega⟩
  · exact ⟨b4, N, fun _ => 0, BL.cell 4 _ rfl, B4.ints (N * 4) _ rfl, progMay_long hN, hN2⟩

set_option maxRecDepth 100000 in
set_option maxHeartbeats 4000000 in
theorem progForms_at (hM : MayPC) (hP : PutPC) (hG : GetPC) (a0 a1 r : Int) (m p : Nat) (w : World) (hd : bits .and .i64 a1 1023 = r) (r0 : 0 ≤ r) (r1 : r ≤ 1023) (hm : wrap64 ((IntKind.u64.wrap a0).tmod 5) = m) (hm5 : m < 5) (hp : bits .and .i64 (a0 / 8) 7 = p) (hp8 : p < 8) :
    Calls Try.prog 5 #[.int .i64 a0, .int .i64 a1] w fun e w' => e = .returned (.bool true) ∧ Below w.heap.size w w' := by
  have C0 := hide fun w => awake8_any hM hP hG w
  have C2 := hide fun w => hG.no (badPT_not p hp8) w
  have C4 := hide fun w => hG.no bigT_not w
  have CP := hide hP
  have CM := hide hM
  clear hM hP hG
  have mk := make_insts r r0 r1
  have hN : 16 < 17 + r.toNat := by omega
  have hN2 : 17 + r.toNat ≤ 2000 := by omega
  generalize 17 + r.toNat = N at *
  obtain ⟨ZZ, hZZ⟩ : ∃ ZZ : Array Value, ZZ = (rowL (intF fun _ => 0) (N * 4)).toArray := ⟨_, rfl⟩
  rw [← hZZ] at mk
  have HZZ := hide hZZ
  clear hZZ
  have i1 : (m : Int) < 5 := by omega
  have i2 : (p : Int) < 8 := by omega
  go_enter Try.func5, Try.ntmps5
  go_wp2_with fail
  refine (C0.out _).mono ?_
  rintro e w1 ⟨rfl, b1⟩
  have s1 := b1.size
  clear C0
  go_upto_region 5 with (fail)
  have B0 : Blk ((((((w1.alloc (.cells #[.int .i64 (6 + (1 + r)), .int .i64 0, .int .i64 0, .int .i64 0] 40)).alloc (.cells #[.int .i64 4, .int .i64 0, .int .i64 0, .int .i64 0] 40)).alloc (.cells #[.int .i64 0, .int .i64 0, .int .i64 0, .int .i64 0, .int .i64 4, .int .i64 0, .int .i64 1, .int .i64 0] 40)).alloc (.cells #[.int .i64 4, .int .i64 0, .int .i64 2, .int .i64 0] 40)).alloc (.cells ZZ 40)).alloc (.cells #[.slice (some ⟨w1.heap.size, 0, none⟩) 1 1, .slice (some ⟨w1.heap.size + 1, 0, none⟩) 1 1, .slice (some ⟨w1.heap.size + 1 + 1, 0, none⟩) 2 2, .slice (some ⟨w1.heap.size + 1 + 1 + 1, 0, none⟩) 1 1, .slice (some ⟨w1.heap.size + 1 + 1 + 1 + 1, 0, none⟩) N N] 22)) (w1.heap.size) [.int .i64 (6 + (1 + r)), .int .i64 0, .int .i64 0, .int .i64 0] := by
    have := blk_new w1 [.int .i64 (6 + (1 + r)), .int .i64 0, .int .i64 0, .int .i64 0] 40
    exact (((((this.alloc _).alloc _).alloc _).alloc _).alloc _)
  have B1 : Blk ((((((w1.alloc (.cells #[.int .i64 (6 + (1 + r)), .int .i64 0, .int .i64 0, .int .i64 0] 40)).alloc (.cells #[.int .i64 4, .int .i64 0, .int .i64 0, .int .i64 0] 40)).alloc (.cells #[.int .i64 0, .int .i64 0, .int .i64 0, .int .i64 0, .int .i64 4, .int .i64 0, .int .i64 1, .int .i64 0] 40)).alloc (.cells #[.int .i64 4, .int .i64 0, .int .i64 2, .int .i64 0] 40)).alloc (.cells ZZ 40)).alloc (.cells #[.slice (some ⟨w1.heap.size, 0, none⟩) 1 1, .slice (some ⟨w1.heap.size + 1, 0, none⟩) 1 1, .slice (some ⟨w1.heap.size + 1 + 1, 0, none⟩) 2 2, .slice (some ⟨w1.heap.size + 1 + 1 + 1, 0, none⟩) 1 1, .slice (some ⟨w1.heap.size + 1 + 1 + 1 + 1, 0, none⟩) N N] 22)) (w1.heap.size + 1) [.int .i64 4, .int .i64 0, .int .i64 0, .int .i64 0] := by
    have := blk_new (w1.alloc (.cells #[.int .i64 (6 + (1 + r)), .int .i64 0, .int .i64 0, .int .i64 0] 40)) [.int .i64 4, .int .i64 0, .int .i64 0, .int .i64 0] 40
    simp only [World.size_alloc] at this
    exact ((((this.alloc _).alloc _).alloc _).alloc _)
  have B2 : Blk ((((((w1.alloc (.cells #[.int .i64 (6 + (1 + r)), .int .i64 0, .int .i64 0, .int .i64 0] 40)).alloc (.cells #[.int .i64 4, .int .i64 0, .int .i64 0, .int .i64 0] 40)).alloc (.cells #[.int .i64 0, .int .i64 0, .int .i64 0, .int .i64 0, .int .i64 4, .int .i64 0, .int .i64 1, .int .i64 0] 40)).alloc (.cells #[.int .i64 4, .int .i64 0, .int .i64 2, .int .i64 0] 40)).alloc (.cells ZZ 40)).alloc (.cells #[.slice (some ⟨w1.heap.size, 0, none⟩) 1 1, .slice (some ⟨w1.heap.size + 1, 0, none⟩) 1 1, .slice (some ⟨w1.heap.size + 1 + 1, 0, none⟩) 2 2, .slice (some ⟨w1.heap.size + 1 + 1 + 1, 0, none⟩) 1 1, .slice (some ⟨w1.heap.size + 1 + 1 + 1 + 1, 0, none⟩) N N] 22)) (w1.heap.size + 1 + 1) [.int .i64 0, .int .i64 0, .int .i64 0, .int .i64 0, .int .i64 4, .int .i64 0, .int .i64 1, .int .i64 0] := by
    have := blk_new ((w1.alloc (.cells #[.int .i64 (6 + (1 + r)), .int .i64 0, .int .i64 0, .int .i64 0] 40)).alloc (.cells #[.int .i64 4, .int .i64 0, .int .i64 0, .int .i64 0] 40)) [.int .i64 0, .int .i64 0, .int .i64 0, .int .i64 0, .int .i64 4, .int .i64 0, .int .i64 1, .int .i64 0] 40
    simp only [World.size_alloc] at this
    exact (((this.alloc _).alloc _).alloc _)
  have B3 : Blk ((((((w1.alloc (.cells #[.int .i64 (6 + (1 + r)), .int .i64 0, .int .i64 0, .int .i64 0] 40)).alloc (.cells #[.int .i64 4, .int .i64 0, .int .i64 0, .int .i64 0] 40)).alloc (.cells #[.int .i64 0, .int .i64 0, .int .i64 0, .int .i64 0, .int .i64 4, .int .i64 0, .int .i64 1, .int .i64 0] 40)).alloc (.cells #[.int .i64 4, .int .i64 0, .int .i64 2, .int .i64 0] 40)).alloc (.cells ZZ 40)).alloc (.cells #[.slice (some ⟨w1.heap.size, 0, none⟩) 1 1, .slice (some ⟨w1.heap.size + 1, 0, none⟩) 1 1, .slice (some ⟨w1.heap.size + 1 + 1, 0, none⟩) 2 2, .slice (some ⟨w1.heap.size + 1 + 1 + 1, 0, none⟩) 1 1, .slice (some ⟨w1.heap.size + 1 + 1 + 1 + 1, 0, none⟩) N N] 22)) (w1.heap.size + 1 + 1 + 1) [.int .i64 4, .int .i64 0, .int .i64 2, .int .i64 0] := by
    have := blk_new (((w1.alloc (.cells #[.int .i64 (6 + (1 + r)), .int .i64 0, .int .i64 0, .int .i64 0] 40)).alloc (.cells #[.int .i64 4, .int .i64 0, .int .i64 0, .int .i64 0] 40)).alloc (.cells #[.int .i64 0, .int .i64 0, .int .i64 0, .int .i64 0, .int .i64 4, .int .i64 0, .int .i64 1, .int .i64 0] 40)) [.int .i64 4, .int .i64 0, .int .i64 2, .int .i64 0] 40
    simp only [World.size_alloc] at this
    exact ((this.alloc _).alloc _)
  have B4 : Blk ((((((w1.alloc (.cells #[.int .i64 (6 + (1 + r)), .int .i64 0, .int .i64 0, .int .i64 0] 40)).alloc (.cells #[.int .i64 4, .int .i64 0, .int .i64 0, .int .i64 0] 40)).alloc (.cells #[.int .i64 0, .int .i64 0, .int .i64 0, .int .i64 0, .int .i64 4, .int .i64 0, .int .i64 1, .int .i64 0] 40)).alloc (.cells #[.int .i64 4, .int .i64 0, .int .i64 2, .int .i64 0] 40)).alloc (.cells ZZ 40)).alloc (.cells #[.slice (some ⟨w1.heap.size, 0, none⟩) 1 1, .slice (some ⟨w1.heap.size + 1, 0, none⟩) 1 1, .slice (some ⟨w1.heap.size + 1 + 1, 0, none⟩) 2 2, .slice (some ⟨w1.heap.size + 1 + 1 + 1, 0, none⟩) 1 1, .slice (some ⟨w1.heap.size + 1 + 1 + 1 + 1, 0, none⟩) N N] 22)) (w1.heap.size + 1 + 1 + 1 + 1) (rowL (intF fun _ => 0) (N * 4)) := by
    have := blk_new ((((w1.alloc (.cells #[.int .i64 (6 + (1 + r)), .int .i64 0, .int .i64 0, .int .i64 0] 40)).alloc (.cells #[.int .i64 4, .int .i64 0, .int .i64 0, .int .i64 0] 40)).alloc (.cells #[.int .i64 0, .int .i64 0, .int .i64 0, .int .i64 0, .int .i64 4, .int .i64 0, .int .i64 1, .int .i64 0] 40)).alloc (.cells #[.int .i64 4, .int .i64 0, .int .i64 2, .int .i64 0] 40)) (rowL (intF fun _ => 0) (N * 4)) 40
    rw [← HZZ.out] at this
    simp only [World.size_alloc] at this
    exact (this.alloc _)
  have B5 : Blk ((((((w1.alloc (.cells #[.int .i64 (6 + (1 + r)), .int .i64 0, .int .i64 0, .int .i64 0] 40)).alloc (.cells #[.int .i64 4, .int .i64 0, .int .i64 0, .int .i64 0] 40)).alloc (.cells #[.int .i64 0, .int .i64 0, .int .i64 0, .int .i64 0, .int .i64 4, .int .i64 0, .int .i64 1, .int .i64 0] 40)).alloc (.cells #[.int .i64 4, .int .i64 0, .int .i64 2, .int .i64 0] 40)).alloc (.cells ZZ 40)).alloc (.cells #[.slice (some ⟨w1.heap.size, 0, none⟩) 1 1, .slice (some ⟨w1.heap.size + 1, 0, none⟩) 1 1, .slice (some ⟨w1.heap.size + 1 + 1, 0, none⟩) 2 2, .slice (some ⟨w1.heap.size + 1 + 1 + 1, 0, none⟩) 1 1, .slice (some ⟨w1.heap.size + 1 + 1 + 1 + 1, 0, none⟩) N N] 22)) (w1.heap.size + 1 + 1 + 1 + 1 + 1) [.slice (some ⟨w1.heap.size, 0, none⟩) 1 1, .slice (some ⟨w1.heap.size + 1, 0, none⟩) 1 1, .slice (some ⟨w1.heap.size + 1 + 1, 0, none⟩) 2 2, .slice (some ⟨w1.heap.size + 1 + 1 + 1, 0, none⟩) 1 1, .slice (some ⟨w1.heap.size + 1 + 1 + 1 + 1, 0, none⟩) N N] := by
    have := blk_new (((((w1.alloc (.cells #[.int .i64 (6 + (1 + r)), .int .i64 0, .int .i64 0, .int .i64 0] 40)).alloc (.cells #[.int .i64 4, .int .i64 0, .int .i64 0, .int .i64 0] 40)).alloc (.cells #[.int .i64 0, .int .i64 0, .int .i64 0, .int .i64 0, .int .i64 4, .int .i64 0, .int .i64 1, .int .i64 0] 40)).alloc (.cells #[.int .i64 4, .int .i64 0, .int .i64 2, .int .i64 0] 40)).alloc (.cells ZZ 40)) [.slice (some ⟨w1.heap.size, 0, none⟩) 1 1, .slice (some ⟨w1.heap.size + 1, 0, none⟩) 1 1, .slice (some ⟨w1.heap.size + 1 + 1, 0, none⟩) 2 2, .slice (some ⟨w1.heap.size + 1 + 1 + 1, 0, none⟩) 1 1, .slice (some ⟨w1.heap.size + 1 + 1 + 1 + 1, 0, none⟩) N N] 22
    simp only [World.size_alloc] at this
    exact this
  have b2 : Below w.heap.size w ((((((w1.alloc (.cells #[.int .i64 (6 + (1 + r)), .int .i64 0, .int .i64 0, .int .i64 0] 40)).alloc (.cells #[.int .i64 4, .int .i64 0, .int .i64 0, .int .i64 0] 40)).alloc (.cells #[.int .i64 0, .int .i64 0, .int .i64 0, .int .i64 0, .int .i64 4, .int .i64 0, .int .i64 1, .int .i64 0] 40)).alloc (.cells #[.int .i64 4, .int .i64 0, .int .i64 2, .int .i64 0] 40)).alloc (.cells ZZ 40)).alloc (.cells #[.slice (some ⟨w1.heap.size, 0, none⟩) 1 1, .slice (some ⟨w1.heap.size + 1, 0, none⟩) 1 1, .slice (some ⟨w1.heap.size + 1 + 1, 0, none⟩) 2 2, .slice (some ⟨w1.heap.size + 1 + 1 + 1, 0, none⟩) 1 1, .slice (some ⟨w1.heap.size + 1 + 1 + 1 + 1, 0, none⟩) N N] 22)) := (((((b1.alloc s1 (.cells #[.int .i64 (6 + (1 + r)), .int .i64 0, .int .i64 0, .int .i64 0] 40)).alloc (by simp only [World.size_alloc]; omega) (.cells #[.int .i64 4, .int .i64 0, .int .i64 0, .int .i64 0] 40)).alloc (by simp only [World.size_alloc]; omega) (.cells #[.int .i64 0, .int .i64 0, .int .i64 0, .int .i64 0, .int .i64 4, .int .i64 0, .int .i64 1, .int .i64 0] 40)).alloc (by simp only [World.size_alloc]; omega) (.cells #[.int .i64 4, .int .i64 0, .int .i64 2, .int .i64 0] 40)).alloc (by simp only [World.size_alloc]; omega) (.cells ZZ 40)).alloc (by simp only [World.size_alloc]; omega) (.cells #[.slice (some ⟨w1.heap.size, 0, none⟩) 1 1, .slice (some ⟨w1.heap.size + 1, 0, none⟩) 1 1, .slice (some ⟨w1.heap.size + 1 + 1, 0, none⟩) 2 2, .slice (some ⟨w1.heap.size + 1 + 1 + 1, 0, none⟩) 1 1, .slice (some ⟨w1.heap.size + 1 + 1 + 1 + 1, 0, none⟩) N N] 22)
  generalize ((((((w1.alloc (.cells #[.int .i64 (6 + (1 + r)), .int .i64 0, .int .i64 0, .int .i64 0] 40)).alloc (.cells #[.int .i64 4, .int .i64 0, .int .i64 0, .int .i64 0] 40)).alloc (.cells #[.int .i64 0, .int .i64 0, .int .i64 0, .int .i64 0, .int .i64 4, .int .i64 0, .int .i64 1, .int .i64 0] 40)).alloc (.cells #[.int .i64 4, .int .i64 0, .int .i64 2, .int .i64 0] 40)).alloc (.cells ZZ 40)).alloc (.cells #[.slice (some ⟨w1.heap.size, 0, none⟩) 1 1, .slice (some ⟨w1.heap.size + 1, 0, none⟩) 1 1, .slice (some ⟨w1.heap.size + 1 + 1, 0, none⟩) 2 2, .slice (some ⟨w1.heap.size + 1 + 1 + 1, 0, none⟩) 1 1, .slice (some ⟨w1.heap.size + 1 + 1 + 1 + 1, 0, none⟩) N N] 22)) = W at *
  have s2 := b2.size
  obtain ⟨b, n, z, c0, RB, hbad, hn2⟩ := bad_pick r0 hN hN2 B0 B1 B2 B3 B4 B5 m hm5
  have y5 := B5.lt
  have A1 := fun (w : World) h => CP.out (some ⟨b, 0, none⟩) n n z w (by omega) h
  have A3 := fun (w : World) h => CM.out (some ⟨b, 0, none⟩) n n z w (by omega) h
  rw [(putP_not hbad).1, (putP_not hbad).2] at A1
  rw [hbad] at A3
  have C1 := hide A1
  have C3 := hide A3
  unfold textS at C1
  clear A1 A3 CP CM B0 B1 B2 B3 B4 B5 mk HZZ hbad b1 s1
  go_wp2_with fail
  refine (C1.out _ RB).mono ?_
  rintro e w2 ⟨rfl, hb⟩
  have b3 : Below w.heap.size w w2 := Below.on b2 hb
  have s3 := b3.size
  replace RB := RB.below hb (Nat.le_refl _)
  clear hb C1 b2 c0 s2 y5
  go_upto_region 8 with (fail)
  have B8 : Blk (w2.alloc (.cells #[.string ⟨#[]⟩, .string ⟨#[1]⟩, .string ⟨#[0, 0]⟩, .string ⟨#[1, 7, 0, 0, 0]⟩, .string ⟨#[1, 4, 0, 0, 0]⟩, .string ⟨#[1, 4, 0, 2, 0]⟩, .string ⟨#[2, 5, 0, 0, 0]⟩, .string ⟨#[1, 5, 0, 0, 0, 0]⟩] 9)) w2.heap.size [textS [], textS [1], textS [0, 0], textS [1, 7, 0, 0, 0], textS [1, 4, 0, 0, 0], textS [1, 4, 0, 2, 0], textS [2, 5, 0, 0, 0], textS [1, 5, 0, 0, 0, 0]] := blk_new w2 [textS [], textS [1], textS [0, 0], textS [1, 7, 0, 0, 0], textS [1, 4, 0, 0, 0], textS [1, 4, 0, 2, 0], textS [2, 5, 0, 0, 0], textS [1, 5, 0, 0, 0, 0]] 9
  have b4 := b3.alloc s3 (.cells #[.string ⟨#[]⟩, .string ⟨#[1]⟩, .string ⟨#[0, 0]⟩, .string ⟨#[1, 7, 0, 0, 0]⟩, .string ⟨#[1, 4, 0, 0, 0]⟩, .string ⟨#[1, 4, 0, 2, 0]⟩, .string ⟨#[2, 5, 0, 0, 0]⟩, .string ⟨#[1, 5, 0, 0, 0, 0]⟩] 9)
  replace RB := RB.below ((Below.refl w2.heap.size w2).alloc (Nat.le_refl _) (.cells #[.string ⟨#[]⟩, .string ⟨#[1]⟩, .string ⟨#[0, 0]⟩, .string ⟨#[1, 7, 0, 0, 0]⟩, .string ⟨#[1, 4, 0, 0, 0]⟩, .string ⟨#[1, 4, 0, 2, 0]⟩, .string ⟨#[2, 5, 0, 0, 0]⟩, .string ⟨#[1, 5, 0, 0, 0, 0]⟩] 9)) (Nat.le_refl _)
  have c0 := B8.cell p _ (badPT_at p hp8)
  have y8 := B8.lt
  generalize w2.alloc (.cells #[.string ⟨#[]⟩, .string ⟨#[1]⟩, .string ⟨#[0, 0]⟩, .string ⟨#[1, 7, 0, 0, 0]⟩, .string ⟨#[1, 4, 0, 0, 0]⟩, .string ⟨#[1, 4, 0, 2, 0]⟩, .string ⟨#[2, 5, 0, 0, 0]⟩, .string ⟨#[1, 5, 0, 0, 0, 0]⟩] 9) = W8 at *
  generalize badPT p = t at *
  unfold textS at c0 C2 C4
  clear B8 b3 s3
  go_wp2_with fail
  refine (C2.out _).mono ?_
  rintro e w3 ⟨rfl, hb⟩
  have b5 : Below w.heap.size w w3 := Below.on b4 hb
  have s5 := b5.size
  replace RB := RB.below hb (Nat.le_refl _)
  clear hb C2 b4 c0 hd hm hp y8
  go_upto_region 9 with (fail)
  refine progs_reg9 w3 (List.replicate 68 0) ⟨(17 :: List.replicate 68 0).toArray⟩ (by simp) (text_append [17] (List.replicate 68 0)) (by simp) make_bytes C4 _ _ _ _ _ _ _ _ _ _ _ _ _ _ _ _ _ _ _ _ _ _ _ _ _ _ _ _ _ _ _ _ _ _ _ _ _ _ _ _ _ _ _ _ _ _ _ _ _ _ _ _ _ _ _ _ _ _ _ _ _ _ _ _ _ _ _ _ _ _ _ _ _ _ _ _ _ _ _ _ _ _ _ _ _ _ _ _ _ _ _ ?_
  intro _ _ _ _ _ _ _ _ _ _ wc hw
  have b6 := Below.on b5 hw
  replace RB := RB.below hw (Nat.le_refl _)
  clear hw C4 b5 s5
  go_wp2_with fail
  refine (C3.out _ RB).mono ?_
  rintro e w4 ⟨rfl, hb⟩
  have b7 : Below w.heap.size w w4 := Below.on b6 hb
  clear hb C3 b6 RB
  go_wp2_with (go_at_call 13; refine (num_any _ _).mono ?_; rintro e w' ⟨rfl, rfl⟩)
  go_ret
  exact ⟨rfl, b7⟩

theorem mask7 (n : Int) : bits .and .i64 n 7 = n % 8 := mask 3 (by decide) n
theorem progForms_said (hM : MayPC) (hP : PutPC) (hG : GetPC) (a0 a1 : Int) (w : World) :
    Calls Try.prog 5 #[.int .i64 a0, .int .i64 a1] w fun e w' => e = .returned (.bool true) ∧ Below w.heap.size w w' := by
  obtain ⟨m, h1, h2⟩ := pick_at a0 5 (by omega) (by omega)
  exact progForms_at hM hP hG a0 a1 (a1 % 1024) m (a0 / 8 % 8).toNat w (mask1023 _) (by omega) (by omega) h2 (by omega) (by rw [mask7]; omega) (by omega)

end Go.Proofs.Ytkomapgmhipkaaa
