/-
  Several small texts in one: Begun12, Awake12, WithTr, MayNot.
-/
import Derived.Test.YtaaenolbfhhnfaaGreatZlaj
import Derived.Test.YtaaenolbfhhnfaaGreatZhMachNewProg
import Derived.Test.YtaaenolbfhhnfaaGreatZlbc
import Derived.Test.YtaaenolbfhhnfaaGreatZlcb
import Derived.Test.YtaaenolbfhhnfaaGreatZlag
import Derived.Test.YtaaenolbfhhnfaaGreatZlcd
import Derived.Laws.MakeOwn
import Derived.Test.YtaaenolbfhhnfaaGreatZlbd
import Derived.Test.YtaaenolbfhhnfaaGreatZlcf
import Derived.Test.YtaaenolbfhhnfaaGreatZlac
namespace Go.Proofs.YtaaenolbfhhnfaaGreat
open Go.RowKit
set_option linter.unusedSimpArgs false
set_option linter.unusedVariables false
set_option maxRecDepth 100000 in
set_option maxHeartbeats 4000000 in
theorem begun12_any (w : World) :
    Calls Tryz.prog 71 #[] w fun e w' => ∃ A', e = .returned (machA A' begunM) ∧ MachOwn (fun k => w.heap.size ≤ k ∧ k < w'.heap.size) w' A' begunM ∧ Below w.heap.size w w' := by
  have HS0 := ((((((((St.refl w).alloc [.slice none 0 0, .slice none 0 0, .slice none 0 0, .slice none 0 0, .int .i64 0, .int .i64 0, .int .i64 0, .int .i64 0, .int .i64 0, .slice none 0 0, .slice none 0 0] 34).alloc [.int .i64 5, .int .i64 6] 3).alloc [.int .i64 7] 3).alloc [.int .i64 9] 3).alloc [.int .i64 2, .int .i64 0, .int .i64 0, .int .i64 0, .int .i64 1, .int .i64 0, .int .i64 0, .int .i64 0, .int .i64 3, .int .i64 0, .int .i64 0, .int .i64 0] 62).alloc [.int .i64 2, .int .i64 0, .int .i64 0, .int .i64 1, .int .i64 3, .int .i64 0, .int .i64 1, .int .i64 0] 62).alloc [.int .i64 3, .int .i64 0, .int .i64 3, .slice (some ⟨w.heap.size + 1 + 1 + 1 + 1, 0, none⟩) 3 3, .int .i64 5, .int .i64 1, .int .i64 1, .slice (some ⟨w.heap.size + 1 + 1 + 1 + 1 + 1, 0, none⟩) 2 2] 64)
  simp only [World.size_alloc] at HS0
  have hIs := (show ScrIs _ ⟨fourSl ⟨some ⟨w.heap.size + 1, 0, none⟩, 2, 2⟩ ⟨some ⟨w.heap.size + 1 + 1, 0, none⟩, 1, 1⟩ noSl ⟨some ⟨w.heap.size + 1 + 1 + 1, 0, none⟩, 1, 1⟩, ⟨some ⟨w.heap.size + 1 + 1 + 1 + 1 + 1 + 1, 0, none⟩, 2, 2⟩, (fun i => if i = 0 then ⟨some ⟨w.heap.size + 1 + 1 + 1 + 1, 0, none⟩, 3, 3⟩ else ⟨some ⟨w.heap.size + 1 + 1 + 1 + 1 + 1, 0, none⟩, 2, 2⟩), noSl⟩ begunS from
    ⟨rfl, fun g hg => (match g, hg with
      | 0, _ => slIs_blk (HS0.blk 5 rfl) rfl (by decide)
      | 1, _ => slIs_blk (HS0.blk 4 rfl) rfl (by decide)
      | 2, _ => slIs_none _ 1
      | 3, _ => slIs_blk (HS0.blk 3 rfl) rfl (by decide)), staIs_two (HS0.blk 0 rfl) rfl rfl (slIs_blk (HS0.blk 2 rfl) rfl (by decide)) (slIs_blk (HS0.blk 1 rfl) rfl (by decide)), slIs_none _ 2⟩)
  have hN := rnewMach_any _ begunS _ hIs (by show 2 * 184 ≤ _; decide)
  rw [newP_begun] at hN
  have HS := hide HS0
  replace hN := hide hN
  clear hIs HS0
  go_enter Tryz.func71, Tryz.ntmps71
  go_wp2_with fail
  refine hN.out.mono ?_
  (rintro e Wq ⟨A1, rfl, hO, hb⟩; have HSq := hide (HS.out.push hb (machI (fun k => _) A1 _) (machI_loc _ _ _) hO fun k hk => hk); generalize (fun k => _) = D1 at HSq; clear HS hb hO; replace HS := HSq; clear HSq)
  clear hN
  go_wp2_with (first | ((with_reducible refine isList ?_); first | (refine st_alloc HS _ rfl rfl zeroML zeroM ?_; clear HS; intro W bq HS) | (refine st_storeA HS 0 rfl _ _ _ rfl rfl rfl _ rfl rfl (by kernel_rfl) rfl ?_; clear HS; intro W HS) | (refine st_loadA HS 0 rfl _ _ rfl rfl rfl (by decide +kernel) (by kernel_rfl) ?_) | (refine st_storeA HS 8 rfl _ _ _ rfl rfl rfl _ rfl rfl (by kernel_rfl) rfl ?_; clear HS; intro W HS)))
  refine bodyPost_ret (ret_mach Tryz.results71 (HS.out.blk 8 rfl) rfl rfl) rfl ⟨A1, rfl, ?_, HS.out.below⟩
  exact (show MachOwn D1 _ A1 begunM from HS.out.get 1 rfl).mono (HS.out.here 1 _ rfl).2.2
set_option maxRecDepth 100000 in
set_option maxHeartbeats 4000000 in
theorem stepped12_any (i : Int) (n : Nat) (hn : n ≤ 1000) (w : World) :
    Calls Tryz.prog 27 #[.int .i64 i, .int .i64 n] w fun e w' => ∃ A', e = .returned (machA A' (stepM begunM i n)) ∧ MachOwn (fun k => w.heap.size ≤ k ∧ k < w'.heap.size) w' A' (stepM begunM i n) ∧ Below w.heap.size w w' := by
  have HS := hide (St.refl w)
  have hB := hide fun (W : World) => begun12_any W
  have hP := hide fun (A : MacM) (M : PMach) (W : World) (h : MachIs W A M) => rstep_any A M i W h
  go_enter Tryz.func27, Tryz.ntmps27
  go_wp2_with (first | ((with_reducible refine isList ?_); first | (refine st_alloc HS _ rfl rfl zeroML zeroM ?_; clear HS; intro W b0 HS)))
  refine (hB.out _).mono ?_
  (rintro e Wq ⟨A1, rfl, hO, hb⟩; have HSq := hide (HS.out.push hb (machI (fun k => _) A1 _) (machI_loc _ _ _) hO fun k hk => hk); generalize (fun k => _) = D1 at HSq; clear HS hb hO; replace HS := HSq; clear HSq)
  clear hB
  go_wp2_with (first | ((with_reducible refine isList ?_); first | (refine st_alloc HS _ rfl rfl zeroML zeroM ?_; clear HS; intro W b5 HS) | (refine st_storeA HS 0 rfl _ _ _ rfl rfl rfl _ rfl rfl (by kernel_rfl) rfl ?_; clear HS; intro W HS)))
  replace HS : Hid (St w W [blkI b5 (machL A1 begunM), machI D1 A1 begunM, blkI b0 zeroML]) := HS
  go_loopw [6] (fun j wr => ∃ (k : Nat) (D : Nat → Prop) (B : MacM), k ≤ n ∧ j = .int .i64 k ∧ Hid (St w wr [blkI b5 (machL B (stepM begunM i k)), machI D B (stepM begunM i k), blkI b0 zeroML])) (fun j _ => n - (intOf j).toNat)
  case atStart => exact ⟨0, D1, A1, Nat.zero_le _, rfl, HS⟩
  case round =>
    clear HS
    obtain ⟨k, D, B, hk, rfl, HS⟩ := hrel
    by_cases hlt : k < n
    · have i1 : (k : Int) < (n : Int) := by omega
      go_wp2_with (first | ((with_reducible refine isList ?_); first | (refine st_loadA HS 0 rfl _ _ rfl rfl rfl (by decide +kernel) (by kernel_rfl) ?_)))
      refine (hP.out B _ _ (MachOwn.is (show MachOwn D _ B (stepM begunM i k) from HS.out.get 1 rfl))).mono ?_
      (rintro e Wq ⟨B2, rfl, hO, hb⟩; have HSq := hide (HS.out.push hb (machI (fun k => _) B2 _) (machI_loc _ _ _) hO fun k hk => hk); generalize (fun k => _) = D2 at HSq; clear HS hb hO; replace HS := HSq; clear HSq)
      go_wp2_with (first | ((with_reducible refine isList ?_); first | (refine st_storeA HS 1 rfl _ _ _ rfl rfl rfl _ rfl rfl (by kernel_rfl) rfl ?_; clear HS; intro W HS)))
      replace HS : Hid (St w W [machI D2 B2 (stepM begunM i (k + 1)), blkI b5 (machL B2 (stepM begunM i (k + 1))), machI D B (stepM begunM i k), blkI b0 zeroML]) := HS
      replace HS : Hid (St w W [blkI b5 (machL B2 (stepM begunM i (k + 1))), machI D2 B2 (stepM begunM i (k + 1)), blkI b0 zeroML]) := hide (HS.out.sel [1, 0, 3] (by decide) rfl)
      go_roundw
      case rel =>
        first
          | exact ⟨k + 1, D2, B2, by omega, by go_num, HS⟩
          | (repeat apply Exists.intro
             exact ⟨⟨k + 1, D2, B2, by omega, by go_num, HS⟩, rfl⟩)
      case measure => simp [intOf]; omega
    · obtain rfl : k = n := by omega
      go_wp2_with (first | ((with_reducible refine isList ?_); first | (refine st_loadA HS 0 rfl _ _ rfl rfl rfl (by decide +kernel) (by kernel_rfl) ?_) | (refine st_storeA HS 2 rfl _ _ _ rfl rfl rfl _ rfl rfl (by kernel_rfl) rfl ?_; clear HS; intro W HS)))
      refine bodyPost_ret (ret_mach Tryz.results27 (HS.out.blk 2 rfl) rfl rfl) rfl ⟨B, rfl, ?_, HS.out.below⟩
      exact (show MachOwn D _ B (stepM begunM i k) from HS.out.get 1 rfl).mono (HS.out.here 1 _ rfl).2.2
end Go.Proofs.YtaaenolbfhhnfaaGreat
namespace Go.Proofs.YtaaenolbfhhnfaaGreat
open Go.RowKit
set_option linter.unusedSimpArgs false
set_option linter.unusedVariables false
/-- The script of no list, with this ceiling. -/
def noScrM : ScrM := ⟨fun _ => noSl, noSl, fun _ => noSl, noSl⟩
def ceilS (c : Int) : PScript := ⟨[[], [], [], []], c, [], []⟩
theorem scrIs_ceil (W : World) (c : Int) : ScrIs W noScrM (ceilS c) := by
  refine ⟨rfl, fun g hg => ?_, ⟨rfl, ⟨by decide, Nat.le_refl _, fun _ => ⟨rfl, rfl⟩⟩, ?_, fun i hi => absurd hi (Nat.not_lt_zero _)⟩, slIs_none W 2⟩
  · have : g = 0 ∨ g = 1 ∨ g = 2 ∨ g = 3 := by omega
    rcases this with rfl | rfl | rfl | rfl <;> exact slIs_none W 1
  · exact row_zero _ _ _
theorem newP_ceil : newP (ceilS 9) = ({ noMach with ceil := 9 }, 0) := newP_yes (by decide +kernel)
theorem newP_low : newP (ceilS (-1)) = (noMach, 1200) := newP_no (by decide +kernel)
set_option maxRecDepth 100000 in
set_option maxHeartbeats 4000000 in
theorem awake12_any (w : World) :
    Calls Tryz.prog 26 #[] w fun e w' => e = .returned (.bool true) ∧ Below w.heap.size w w' := by
  have HS := hide (St.refl w)
  have hB := hide fun (W : World) => begun12_any W
  have hP := hide fun (W : World) => stepped12_any 0 2 (by decide) W
  have g1 := fun (A : MacM) (W : World) (h : MachIs W A begunM) => gtelling_any A begunM 1 4 4 W h
  have g2 := fun (A : MacM) (W : World) (h : MachIs W A begunM) => gtelling_any A begunM 2 4 4 W h
  have g3 := fun (W : World) => machNew_any noScrM (ceilS 9) W (scrIs_ceil W 9)
  have g4 := fun (W : World) => machNew_any noScrM (ceilS (-1)) W (scrIs_ceil W (-1))
  have g5 := fun (A : MacM) (W : World) (h : MachIs W A (stepM begunM 0 2)) => gmachMay_any A (stepM begunM 0 2) W h
  have g6 := fun (A : MacM) (W : World) (h : MachIs W A (begunM.doN 0 4 4)) => gmachMay_any A (begunM.doN 0 4 4) W h
  rw [show machMay (stepM begunM 0 2) = true by decide +kernel] at g5
  rw [show machMay (begunM.doN 0 4 4) = false by decide +kernel] at g6
  rw [newP_ceil] at g3
  rw [newP_low] at g4
  obtain ⟨X, hX, tX⟩ : ∃ X, tellingP begunM 1 4 4 = (X, 0) ∧ X.trace = [5, 1, 4, 4] := ⟨(tellingP begunM 1 4 4).1, by rw [show (0 : Int) = (tellingP begunM 1 4 4).2 by decide +kernel], by decide +kernel⟩
  obtain ⟨Z, hZ⟩ : ∃ Z, tellingP begunM 2 4 4 = (Z, 1200) := ⟨(tellingP begunM 2 4 4).1, by rw [show (1200 : Int) = (tellingP begunM 2 4 4).2 by decide +kernel]⟩
  have sN : Hid (begunM.sess.length = 2) := by show _ = 2; decide +kernel
  rw [hX] at g1
  rw [hZ] at g2
  clear hX hZ
  generalize stepM begunM 0 2 = S2 at hP g5
  generalize hNB : begunM.doN 0 4 4 = NB at g6
  generalize begunM = N at *
  replace g1 := hide g1; replace g2 := hide g2; replace g3 := hide g3; replace g4 := hide g4; replace g5 := hide g5; replace g6 := hide g6
  replace tX := hide tX; replace hNB := hide hNB
  go_enter Tryz.func26, Tryz.ntmps26
  go_wp2_with fail
  refine (hB.out _).mono ?_
  (rintro e Wq ⟨A1, rfl, hO, hb⟩; have HSq := hide (HS.out.push hb (machI (fun k => _) A1 _) (machI_loc _ _ _) hO fun k hk => hk); generalize (fun k => _) = D1 at HSq; clear HS hb hO; replace HS := HSq; clear HSq)
  go_wp2_with fail
  refine (g1.out A1 _ (MachOwn.is (show MachOwn D1 _ A1 N from HS.out.get 0 rfl))).mono ?_
  (rintro e Wq ⟨AX, rfl, hO, hb⟩; have HSq := hide (HS.out.push hb (machI (fun k => _) AX _) (machI_loc _ _ _) hO fun k hk => hk); generalize (fun k => _) = DX at HSq; clear HS hb hO; replace HS := HSq; clear HSq)
  go_wp2_with (first | ((with_reducible refine isList ?_); first | (refine st_alloc HS _ rfl rfl zeroML zeroM ?_; clear HS; intro W b1 HS) | (refine st_storeA HS 0 rfl _ _ _ rfl rfl rfl _ rfl rfl (by kernel_rfl) rfl ?_; clear HS; intro W HS)))
  refine (hB.out _).mono ?_
  (rintro e Wq ⟨A2, rfl, hO, hb⟩; have HSq := hide (HS.out.push hb (machI (fun k => _) A2 _) (machI_loc _ _ _) hO fun k hk => hk); generalize (fun k => _) = D2 at HSq; clear HS hb hO; replace HS := HSq; clear HSq)
  go_wp2_with fail
  refine (g2.out A2 _ (MachOwn.is (show MachOwn D2 _ A2 N from HS.out.get 0 rfl))).mono ?_
  (rintro e Wq ⟨AZ, rfl, hO, hb⟩; have HSq := hide (HS.out.push hb (machI (fun k => _) AZ _) (machI_loc _ _ _) hO fun k hk => hk); generalize (fun k => _) = DZ at HSq; clear HS hb hO; replace HS := HSq; clear HSq)
  go_wp2_with (first | ((with_reducible refine isList ?_); first | (refine st_alloc HS _ rfl rfl zeroML zeroM ?_; clear HS; intro W b3 HS) | (refine st_storeA HS 0 rfl _ _ _ rfl rfl rfl _ rfl rfl (by kernel_rfl) rfl ?_; clear HS; intro W HS)))
  refine (g3.out _).mono ?_
  (rintro e Wq ⟨A3, rfl, hO, hb⟩; have HSq := hide (HS.out.push hb (machI (fun k => _) A3 _) (machI_loc _ _ _) hO fun k hk => hk); generalize (fun k => _) = D3 at HSq; clear HS hb hO; replace HS := HSq; clear HSq)
  go_wp2_with (first | ((with_reducible refine isList ?_); first | (refine st_alloc HS _ rfl rfl zeroML zeroM ?_; clear HS; intro W b5 HS) | (refine st_storeA HS 0 rfl _ _ _ rfl rfl rfl _ rfl rfl (by kernel_rfl) rfl ?_; clear HS; intro W HS)))
  refine (g4.out _).mono ?_
  (rintro e Wq ⟨A4, rfl, hO, hb⟩; have HSq := hide (HS.out.push hb (machI (fun k => _) A4 _) (machI_loc _ _ _) hO fun k hk => hk); generalize (fun k => _) = D4 at HSq; clear HS hb hO; replace HS := HSq; clear HSq)
  go_wp2_with (first | ((with_reducible refine isList ?_); first | (refine st_alloc HS _ rfl rfl zeroML zeroM ?_; clear HS; intro W b7 HS) | (refine st_storeA HS 0 rfl _ _ _ rfl rfl rfl _ rfl rfl (by kernel_rfl) rfl ?_; clear HS; intro W HS)))
  refine (hB.out _).mono ?_
  (rintro e Wq ⟨A5, rfl, hO, hb⟩; have HSq := hide (HS.out.push hb (machI (fun k => _) A5 _) (machI_loc _ _ _) hO fun k hk => hk); generalize (fun k => _) = D5 at HSq; clear HS hb hO; replace HS := HSq; clear HSq)
  have hk1 : 0 < A5.s.n := by
    have := (MachOwn.is (show MachOwn D5 _ A5 N from HS.out.get 0 rfl)).sess.1
    have := sN.out; omega
  have i1 : (0 : Int) < (A5.s.n : Int) := by omega
  obtain ⟨bs1, hbs1, _⟩ := MachOwn.sblk (show MachOwn D5 _ A5 N from HS.out.get 0 rfl) hk1
  go_upto_region 6 with (first | ((with_reducible refine isList ?_); first | (refine st_alloc HS _ rfl rfl zeroML zeroM ?_; clear HS; intro W b9 HS) | (refine st_storeA HS 0 rfl _ _ _ rfl rfl rfl _ rfl rfl (by kernel_rfl) rfl ?_; clear HS; intro W HS)))
  replace HS : Hid (St w W [blkI b9 (machL A5 N), machI D5 A5 N, blkI b7 (machL A4 noMach), machI D4 A4 noMach, blkI b5 (machL A3 { noMach with ceil := 9 }), machI D3 A3 { noMach with ceil := 9 }, blkI b3 (machL AZ Z), machI DZ AZ Z, machI D2 A2 N, blkI b1 (machL AX X), machI DX AX X, machI D1 A1 N]) := HS
  replace HS : Hid (St w W [blkI b9 (machL A5 N), machI D5 A5 N, blkI b5 (machL A3 { noMach with ceil := 9 }), machI D3 A3 { noMach with ceil := 9 }, blkI b1 (machL AX X), machI DX AX X]) := hide (HS.out.sel [0, 1, 4, 5, 9, 10] (by decide) rfl)
  go_upto_region 7 with (first | ((with_reducible refine isList ?_); first | (refine st_load1 HS 0 rfl _ _ rfl _ rfl rfl (by decide +kernel) rfl ?_) | (refine st_storeN HS 1 rfl hk1 hbs1 4 (by decide) _ _ _ rfl _ rfl rfl rfl rfl (by decide +kernel) ?_; clear HS; intro W HS)))
  replace HS : Hid (St w W [blkI b9 (machL A5 (N.doN 0 4 4)), machI D5 A5 (N.doN 0 4 4), blkI b5 (machL A3 { noMach with ceil := 9 }), machI D3 A3 { noMach with ceil := 9 }, blkI b1 (machL AX X), machI DX AX X]) := HS
  rw [hNB.out] at HS
  have hT := (MachOwn.is (show MachOwn DX _ AX X from HS.out.get 5 rfl)).trace
  have nT : AX.e.n = 1 := by have := hT.1; rw [tX.out] at this; simp at this; omega
  have c10 : W.cell? ⟨b1, 10, none⟩ = some (.slice AX.e.a 1 AX.e.c) := by rw [← nT]; exact (HS.out.blk 4 rfl).cell 10 _ rfl
  clear hT
  replace nT := hide nT
  go_wp2_with fail
  clear c10
  replace HS := hide (HS.out.alloc [.int .i64 5, .int .i64 1, .int .i64 4, .int .i64 4] 70)
  have hT := (MachOwn.is (show MachOwn DX _ AX X from HS.out.get 6 rfl)).trace
  have hE := sameEvents_any AX.e.a (some ⟨W.heap.size, 0, none⟩) AX.e.n AX.e.c 1 1 (lz X.trace) (lz [5, 1, 4, 4]) _ (by rw [nT.out]; decide) hT.2.2 (slIs_blk (L := [5, 1, 4, 4]) (n := 1) (k := 4) (HS.out.blk 0 rfl) rfl (by decide)).2.2
  rw [nT.out, tX.out] at hE
  rw [show (decide (1 = 1) && eqTo (lz [5, 1, 4, 4]) (lz [5, 1, 4, 4]) (1 * 4)) = true by decide +kernel] at hE
  replace hE := hide hE
  clear hT
  refine hE.out.mono ?_
  rintro e Wq ⟨rfl, q, rfl⟩
  replace HS := hide (HS.out.drawn q)
  clear hE
  generalize World.drewN _ _ = Wd at *
  go_wp2_with (first | ((with_reducible refine isList ?_); first | (refine st_loadA HS 3 rfl _ _ rfl rfl rfl (by decide +kernel) (by kernel_rfl) ?_)) | (go_at_call 21; refine (num_any _ _).mono ?_; rintro e w' ⟨rfl, rfl⟩))
  refine (sameMachine_yes A3 noMac { noMach with ceil := 9 } _ (MachOwn.is (show MachOwn D3 _ A3 { noMach with ceil := 9 } from HS.out.get 4 rfl)) ((machIs_none _).ceilTo 9)).mono ?_
  (rintro e Wq ⟨rfl, hb⟩; have HSq := hide (HS.out.on hb); clear HS hb; replace HS := HSq; clear HSq)
  go_wp2_with (first | (go_at_call 21; refine (num_any _ _).mono ?_; rintro e w' ⟨rfl, rfl⟩))
  refine (hP.out _).mono ?_
  (rintro e Wq ⟨A6, rfl, hO, hb⟩; have HSq := hide (HS.out.push hb (machI (fun k => _) A6 _) (machI_loc _ _ _) hO fun k hk => hk); generalize (fun k => _) = D6 at HSq; clear HS hb hO; replace HS := HSq; clear HSq)
  go_wp2_with fail
  refine (g5.out A6 _ (MachOwn.is (show MachOwn D6 _ A6 S2 from HS.out.get 0 rfl))).mono ?_
  (rintro e Wq ⟨rfl, hb⟩; have HSq := hide (HS.out.on hb); clear HS hb; replace HS := HSq; clear HSq)
  go_wp2_with (first | ((with_reducible refine isList ?_); first | (refine st_loadA HS 2 rfl _ _ rfl rfl rfl (by decide +kernel) (by kernel_rfl) ?_)))
  refine (g6.out A5 _ (MachOwn.is (show MachOwn D5 _ A5 NB from HS.out.get 3 rfl))).mono ?_
  (rintro e Wq ⟨rfl, hb⟩; have HSq := hide (HS.out.on hb); clear HS hb; replace HS := HSq; clear HSq)
  go_wp2
  go_ret
  exact ⟨rfl, HS.out.below⟩
end Go.Proofs.YtaaenolbfhhnfaaGreat
namespace Go.Proofs.YtaaenolbfhhnfaaGreat
open Go.RowKit
set_option linter.unusedSimpArgs false
set_option linter.unusedVariables false
theorem MachOwn.withTr {D D2 : Nat → Prop} {W : World} {A : MacM} {M : PMach} (h : MachOwn D W A M) (hd : ∀ k, D k → D2 k → False) {s : Sl} {l : List Int} (hs : ListOwn D2 70 4 W s l) :
    MachOwn (fun k => D k ∨ D2 k) W (A.setE s) { M with trace := l } := by
  have key : ∀ j, j < A.num → 0 < (A.sl j).n → 0 < s.n → (A.sl j).a ≠ s.a := fun j hj h0 h1 => (h.own j hj).ne hs.own hd h0 h1
  refine ⟨⟨h.is.four, h.is.clocks, h.is.words, h.is.sess, hs.is⟩, fun j hj => ?_, fun i j hij hj h0 h1 => ?_, ?_⟩
  · rw [A.num_setE] at hj
    rw [A.sl_setE]
    split
    · exact hs.own.mono fun k hk => .inr hk
    · exact (h.own j hj).mono fun k hk => .inl hk
  · rw [A.num_setE] at hj
    rw [A.sl_setE] at h0 h1 ⊢
    rw [A.sl_setE]
    by_cases i5 : i = 5
    · rw [if_pos i5] at h0 ⊢
      rw [if_neg (by omega)] at h1 ⊢
      exact (key j hj h1 h0).symm
    · rw [if_neg i5] at h0 ⊢
      by_cases j5 : j = 5
      · rw [if_pos j5] at h1 ⊢
        exact key i (by omega) h0 h1
      · rw [if_neg j5] at h1 ⊢
        exact h.apart i j hij hj h0 h1
  · obtain ⟨v, hv, hr, hb⟩ := hs.row
    refine ⟨v, hv, hr, fun x hx => ⟨.inr (hb x hx), fun j hj hj5 h0 => ?_⟩⟩
    rw [A.num_setE] at hj
    rw [A.sl_setE, if_neg hj5] at h0 ⊢
    intro e
    obtain ⟨b, e3, hD, _⟩ := h.own j hj h0
    rw [e3] at e
    simp only [Option.some.injEq, Addr.mk.injEq, and_true] at e
    exact hd b hD (e ▸ hb x hx)
theorem St.withTr {w0 W : World} {L : List Itm} (h : St w0 W L) (i i2 : Nat) {D D2 : Nat → Prop} {A : MacM} {M : PMach} {s : Sl} {l : List Int} (ei : L[i]? = some (machI D A M)) (e2 : L[i2]? = some (slI D2 70 4 s l)) (hne : i ≠ i2) :
    St w0 W ((L.set i (machI (fun k => D k ∨ D2 k) (A.setE s) { M with trace := l })).set i2 empI) :=
  h.give i i2 ei e2 hne (machI (fun k => D k ∨ D2 k) (A.setE s) { M with trace := l }) (machI_loc _ _ _) (MachOwn.withTr (show MachOwn D W A M from h.get i ei) (h.apart i i2 _ _ ei e2 hne) (h.get i2 e2)) fun k hk => hk
/-- So many zeros. -/
def zerosL (n : Nat) : List Int := List.replicate n 0
theorem zerosL_rowL (n : Nat) : (zerosL n).map (Value.int .i64) = rowL (intF (lz (zerosL n))) n := by
  apply List.ext_getElem?
  intro i
  by_cases h : i < n
  · rw [rowL_get h]
    unfold intF zerosL lz
    simp [h]
  · rw [rowL_none (by omega)]
    unfold zerosL
    simp; omega
theorem made_zeros (k : Nat) : madeCells #[.int .i64 0, .int .i64 0, .int .i64 0, .int .i64 0] k = ((zerosL k).map (Value.int .i64)).toArray := by
  apply Array.ext_getElem?
  intro i
  by_cases h : i < k
  · have : i % 4 < 4 := Nat.mod_lt _ (by omega)
    have e : i % 4 = 0 ∨ i % 4 = 1 ∨ i % 4 = 2 ∨ i % 4 = 3 := by omega
    unfold madeCells
    rw [Array.getElem?_map, Array.getElem?_range, if_pos h, Option.map_some]
    have e2 : ((zerosL k).map (Value.int .i64)).toArray[i]? = some (.int .i64 0) := by unfold zerosL; simp [h]
    rw [e2]
    show some (#[Value.int .i64 0, .int .i64 0, .int .i64 0, .int .i64 0][i % 4]!) = _
    rcases e with e | e | e | e <;> rw [e] <;> rfl
  · rw [Array.getElem?_eq_none (by rw [size_madeCells]; omega), Array.getElem?_eq_none (by unfold zerosL; simp; omega)]
/-- A list made of zeros, of events. -/
theorem stw_makeE {w0 w : World} {L : List Itm} {op : Oper} {a : Act} {K : Act → World → Prop} {Q : Exit → Act → World → Prop} (HS : Hid (St w0 w L)) (x y : Operand) (ho : op.op = .makeSlice 32 x y) (n : Nat) (hn : n ≤ 100000) (hx : a.eval x = .int .i64 n) (hy : a.eval y = .int .i64 n)
    (h : ∀ W D' b, Hid (St w0 W (slI D' 70 4 ⟨some ⟨b, 0, none⟩, n, n⟩ (zerosL (n * 4)) :: L)) → K (a.put op.dst (.slice (some ⟨b, 0, none⟩) n n)) W) : op.wp Tryz.prog a w K Q := by
  obtain ⟨i, hi, hz, hs, hb⟩ := info_parts Tryz.infoEvent
  have hr := run_make w 32 70 i _ Tryz.underlying32 hi hz .i64 .i64 (n : Int) (n : Int) (by omega) (Int.le_refl _) (by rw [hb]; omega) (by omega)
  rw [hs] at hr
  rw [show (Value.agg #[.int .i64 0, .int .i64 0, .int .i64 0, .int .i64 0]).cells = #[.int .i64 0, .int .i64 0, .int .i64 0, .int .i64 0] from rfl, made_zeros, Int.toNat_natCast] at hr
  have hB := blk_new w ((zerosL (n * 4)).map (Value.int .i64)) 70
  have hlen : (zerosL (n * 4)).length = n * 4 := by unfold zerosL; simp
  have hO := World.ownsRow_lit (base := 0) (e := 70) (size := 4) w ((zerosL (n * 4)).map (Value.int .i64)).toArray n (Nat.zero_le _) (by unfold maxLen; omega) (by simp [hlen])
  rw [List.toList_toArray, zerosL_rowL] at hO
  have hL : ListOwn (fun k => k = w.heap.size) 70 4 (w.alloc (.cells ((zerosL (n * 4)).map (Value.int .i64)).toArray 70)) ⟨some ⟨w.heap.size, 0, none⟩, n, n⟩ (zerosL (n * 4)) := by
    refine ⟨slIs_blk hB hlen (by omega), fun _ => ⟨w.heap.size, rfl, rfl, _, hB⟩, _, rfl, ?_, fun g hg => ?_⟩
    · rw [zerosL_rowL]; exact hO
    · simpa [Value.ownBlock, eq_comm] using hg
  unfold Oper.wp execOp
  simp only [ho, hx, hy, Sem.run_bind, hr, Sem.run_pure, Result.andThen_ok]
  have HS2 : Hid (St w0 (w.alloc (.cells ((zerosL (n * 4)).map (Value.int .i64)).toArray 70)) (slI (fun k => k = w.heap.size) 70 4 ⟨some ⟨w.heap.size, 0, none⟩, n, n⟩ (zerosL (n * 4)) :: L)) :=
    HS.out.push ((Below.refl _ w).alloc (Nat.le_refl _) _) (slI (fun k => k = w.heap.size) 70 4 ⟨some ⟨w.heap.size, 0, none⟩, n, n⟩ (zerosL (n * 4))) (slI_loc _ _ _ _ _) hL fun k hk => by
      have hk' : k = w.heap.size := hk
      rw [World.size_alloc]; omega
  exact h _ _ _ HS2
theorem st_makeE {w0 w : World} {L : List Itm} {ops : Array Oper} {rest : List Oper} {op : Oper} {a : Act} {Q : Exit → Act → World → Prop} (HS : Hid (St w0 w L)) (x y : Operand) (ho : op.op = .makeSlice 32 x y) (hgd : Region.wanted op (yielded ops a.tmps) = true) (n : Nat) (hn : n ≤ 100000) (hx : a.eval x = .int .i64 n) (hy : a.eval y = .int .i64 n)
    (h : ∀ W D' b, Hid (St w0 W (slI D' 70 4 ⟨some ⟨b, 0, none⟩, n, n⟩ (zerosL (n * 4)) :: L)) → wpList Tryz.prog ops Q rest (a.put op.dst (.slice (some ⟨b, 0, none⟩) n n)) W) : wpList Tryz.prog ops Q (op :: rest) a w :=
  BigFrame.wpList_want hgd fun _ hK => stw_makeE HS x y ho n hn hx hy fun W D' b h2 => hK _ _ (h W D' b h2)
end Go.Proofs.YtaaenolbfhhnfaaGreat
namespace Go.Proofs.YtaaenolbfhhnfaaGreat
open Go.RowKit
set_option linter.unusedSimpArgs false
set_option linter.unusedVariables false
theorem may_not {M : PMach} (h : machMay M = true → False) : machMay M = false := by
  cases hm : machMay M
  · rfl
  · exact (h hm).elim
theorem telling_not {M : PMach} {i k v : Int} (h : machMay M = false) : tellingP M i k v = (noMach, 1200) := by
  unfold tellingP
  rw [here_may i h]
  rfl
/-- A session's number is such that it may not be. -/
theorem may_num {M : PMach} {k j : Nat} {v : Int} (hk : k < M.sess.length) (h14 : (M.at k).num.length = 14) (hj : j < 14) (h : ∀ s, SessOk s ((M.at k).setN j v) → lz ((M.at k).setN j v).num j = v → False) : machMay (M.doN k j v) = false :=
  may_not fun hm => by
    have ok := here_sess hm (k := k) (by unfold PMach.doN; rw [PMach.len_setS]; exact hk)
    rw [at_doN hk] at ok
    exact h _ ok (by rw [setN_lz (by rw [h14]; exact hj), if_pos rfl])
/-- A clock that is above the ceiling, or below 0. -/
theorem may_clock {M : PMach} {c : Nat} (hc : c < 4) (h : upToV (lz M.clocks c) M.ceil = false) : machMay M = false :=
  may_not fun hm => by
    have := allUp_get (machMay_parts hm).2.2.2.2.1 c hc
    rw [h] at this
    cases this
/-- A word whose value is none. -/
theorem may_value {M : PMach} {l i : Int} (ht : thereV M.lens l i = true) (h : upToV (M.wz l.toNat (i.toNat * 3)) 255 = false) : machMay M = false :=
  may_not fun hm => by
    have := word_may hm ht
    rw [upToV_of this.1 this.2] at h
    cases h
/-- A trace too long; one with a label that is none. -/
theorem may_long {M : PMach} (h : 512 < M.trace.length / 4) : machMay M = false :=
  may_not fun hm => by
    have := (machMay_parts hm).2.2.2.1
    unfold PMach.tn at this
    omega
theorem may_event {M : PMach} (h1 : 0 < M.trace.length / 4) (h : upToV (lz M.trace 1) 3 = false) : machMay M = false :=
  may_not fun hm => by
    have := allTo_get (machMay_parts hm).2.2.2.2.2.2 0 h1
    unfold labOk at this
    rw [show 0 * 4 + 1 = 1 from rfl, h] at this
    cases this
theorem may_clock2 {M : PMach} {a b v d : Int} (h : upToV v M.ceil = false) : machMay { M with clocks := [a, b, v, d] } = false := may_clock (c := 2) (by decide) h
theorem may_value0 {M : PMach} {v : Int} (h4 : M.words.length = 4) (hl : (M.lv 0).length = 2 * 3) (hv : upToV v 255 = false) : machMay (M.setLv 0 ((M.lv 0).set 0 v)) = false := by
  have e0 : (M.setLv 0 ((M.lv 0).set 0 v)).lv 0 = (M.lv 0).set 0 v := by
    show (M.words.set 0 _).getD 0 [] = _
    exact getD_set_eq _ _ (by omega)
  refine may_value (l := 0) (i := 0) ?_ ?_
  · unfold thereV PMach.lens
    rw [show Int.toNat 0 = 0 from rfl, e0, List.length_set, hl]
    decide
  · unfold PMach.wz
    rw [show Int.toNat 0 = 0 from rfl, e0, lz_set (by omega), if_pos rfl]
    exact hv
theorem setN_pn (x : PSess) (j : Nat) (v : Int) : (x.setN j v).pn = x.pn := rfl
theorem setN_tn (x : PSess) (j : Nat) (v : Int) : (x.setN j v).tn = x.tn := rfl
theorem MachIs.clocksTo {W : World} {A : MacM} {M : PMach} (h : MachIs W A M) {l : List Int} (hl : l.length = 4) : MachIs W A { M with clocks := l } := ⟨h.four, hl, h.words, h.sess, h.trace⟩
theorem St.withClk {w0 W : World} {L : List Itm} (h : St w0 W L) (i : Nat) {D : Nat → Prop} {A : MacM} {M : PMach} (ei : L[i]? = some (machI D A M)) {l : List Int} (hl : l.length = 4) : St w0 W (L.set i (machI D A { M with clocks := l })) := by
  have hM : MachOwn D W A M := h.get i ei
  exact h.set i ei _ (Chg.refl _ W) (machI_loc _ _ _) ⟨hM.is.clocksTo hl, hM.own, hM.apart, hM.trace⟩ fun k hk => .inl hk
/-- A level of words, cut short. -/
theorem MachOwn.cutLv {D : Nat → Prop} {W : World} {A : MacM} {M : PMach} (h : MachOwn D W A M) {g m : Nat} (hg : g < 4) (hm0 : 0 < m) (hm : m ≤ (A.w g).n) :
    MachOwn D W (A.setW g ⟨(A.w g).a, m, (A.w g).c⟩) (M.setLv g ((M.lv g).take (m * 3))) := by
  have h4 := h.is.four
  have hw := h.is.words g hg
  have hlt : ∀ j, (A.sl j).n = 0 ∨ 0 < (A.sl j).n := fun j => by omega
  have e1 : ∀ j, 0 < ((A.setW g ⟨(A.w g).a, m, (A.w g).c⟩).sl j).n → 0 < (A.sl j).n := fun j => by
    rw [A.sl_setW hg]
    split
    · rename_i e; intro _; rw [e, A.sl_w hg]; omega
    · exact id
  have e2 : ∀ j, ((A.setW g ⟨(A.w g).a, m, (A.w g).c⟩).sl j).a = (A.sl j).a := fun j => by
    rw [A.sl_setW hg]
    split
    · rename_i e; rw [e, A.sl_w hg]
    · rfl
  have hn : (A.setW g ⟨(A.w g).a, m, (A.w g).c⟩).num = A.num := rfl
  refine ⟨⟨by show (M.words.set g _).length = 4; rw [List.length_set]; exact h4, h.is.clocks, fun k hk => ?_, h.is.sess, h.is.trace⟩, fun j hj h0 => ?_, fun i j hij hj h0 h1 => ?_, ?_⟩
  · rw [PMach.lv_setLv' M (by omega)]
    show SlIs W 3 (if k = g then _ else A.w k) _
    by_cases e : k = g
    · rw [if_pos e, if_pos e]
      obtain ⟨w1, ⟨w2, w3, w4⟩, w5⟩ := hw
      refine ⟨by rw [List.length_take, w1]; exact Nat.min_eq_left (by omega), ⟨by show m * _ ≤ _; omega, by show m ≤ (A.w g).c; omega, fun ea => by have := (w4 ea).1; omega⟩, fun i hi => ?_⟩
      obtain ⟨b, o, q1, q2, q3⟩ := w5 i (by have hi' : i < m * 3 := hi; omega)
      refine ⟨b, o, q1, q2, ?_⟩
      rw [q3]
      unfold lz
      have hi' : i < m * 3 := hi
      simp only [List.getD_eq_getElem?_getD, List.getElem?_take, if_pos hi']
    · rw [if_neg e, if_neg e]; exact h.is.words k hk
  · rw [hn] at hj
    rw [e2]
    exact h.own j hj (e1 j h0)
  · rw [hn] at hj
    rw [e2, e2]
    exact h.apart i j hij hj (e1 i h0) (e1 j h1)
  · obtain ⟨v, hv, hr, hb⟩ := h.trace
    refine ⟨v, hv, hr, fun x hx => ⟨(hb x hx).1, fun j hj hj5 h0 => ?_⟩⟩
    rw [e2]
    exact (hb x hx).2 j hj hj5 (e1 j h0)
theorem St.cutLv {w0 W : World} {L : List Itm} (h : St w0 W L) (i : Nat) {D : Nat → Prop} {A : MacM} {M : PMach} (ei : L[i]? = some (machI D A M)) {g m : Nat} (hg : g < 4) (hm0 : 0 < m) (hm : m ≤ (A.w g).n) : St w0 W (L.set i (machI D (A.setW g ⟨(A.w g).a, m, (A.w g).c⟩) (M.setLv g ((M.lv g).take (m * 3))))) :=
  h.set i ei _ (Chg.refl _ W) (machI_loc _ _ _) (MachOwn.cutLv (show MachOwn D W A M from h.get i ei) hg hm0 hm) fun k hk => .inl hk
theorem rowL_list {l : List Int} {n : Nat} (hl : l.length = n) : l.map (Value.int .i64) = rowL (intF (lz l)) n := by
  apply List.ext_getElem?
  intro i
  by_cases h : i < n
  · rw [rowL_get h]
    unfold intF lz
    have : i < l.length := by omega
    simp [List.getD, this]
  · rw [rowL_none (by omega)]
    simp; omega
/-- A literal list that may grow. -/
theorem St.litS {w0 W : World} {L : List Itm} (h : St w0 W L) (k n : Nat) (l : List Int) (t : TypeId) (hl : l.length = n * k) (hf : n * (8 * k) ≤ 140737488351232) (hm : n ≤ 1000) :
    St w0 (W.alloc (.cells (l.map (Value.int .i64)).toArray t)) (slI (fun j => j = W.heap.size) t k ⟨some ⟨W.heap.size, 0, none⟩, n, n⟩ l :: L) := by
  have hb := blk_new W (l.map (Value.int .i64)) t
  refine h.push ((Below.refl _ W).alloc (Nat.le_refl _) _) (slI (fun j => j = W.heap.size) t k ⟨some ⟨W.heap.size, 0, none⟩, n, n⟩ l) (slI_loc _ _ _ _ _) ⟨slIs_blk hb hl hf, fun _ => ⟨_, rfl, rfl, _, hb⟩, _, rfl, ?_, fun g hg => ?_⟩ fun j hj => by
    have hj : j = W.heap.size := hj
    subst hj
    exact ⟨Nat.le_refl _, by simp⟩
  · have := World.ownsRow_lit (base := 0) (e := t) (size := k) W (l.map (Value.int .i64)).toArray n (Nat.zero_le _) (by unfold maxLen; omega) (by simp [hl])
    rw [List.toList_toArray, rowL_list hl] at this
    rw [rowL_list hl]
    exact this
  · simpa [Value.ownBlock, eq_comm] using hg
theorem stw_lits_1_4 {w0 w : World} {L : List Itm} {P : Program} {op : Oper} {a : Act} {K : Act → World → Prop} {Q : Exit → Act → World → Prop} (HS : Hid (St w0 w L)) (ts te : TypeId) (o0 : Operand) (ho : op.op = .buildSlice ts 1 #[(0, o0)]) (hu : P.underlying ts = some (.slice te)) (hinfo : (P.info? te).map (fun i => (i.zero, i.size, i.bytes)) = some (some (.agg #[.int .i64 0, .int .i64 0, .int .i64 0, .int .i64 0]), 4, 32)) {x0 x1 x2 x3 : Int} (h0 : ValOf a o0 (.agg #[.int .i64 x0, .int .i64 x1, .int .i64 x2, .int .i64 x3]))
    (hw : ∀ W b, Hid (St w0 W (slI (fun j => j = b) te 4 ⟨some ⟨b, 0, none⟩, 1, 1⟩ [x0, x1, x2, x3] :: L)) → K (a.put op.dst (.slice (some ⟨b, 0, none⟩) 1 1)) W) : op.wp P a w K Q := by
  obtain ⟨i, hi, hz, hs, hy⟩ := info_parts hinfo
  refine wp_buildSlice ts te 1 _ ho #[.int .i64 x0, .int .i64 x1, .int .i64 x2, .int .i64 x3] i (.agg #[Value.int .i64 0, Value.int .i64 0, Value.int .i64 0, Value.int .i64 0]) hu hi hz (by rw [hs]; decide) (by rw [hs]; decide) ?_ (hw _ _ (HS.out.litS 4 1 [x0, x1, x2, x3] te rfl (by decide) (by decide)))
  simp only [List.map_toArray, List.map_cons, List.map_nil, h0.eval]
  rw [hs]
  exact fill_1_4 x0 x1 x2 x3
theorem st_lits_1_4 {w0 w : World} {L : List Itm} {P : Program} {ops : Array Oper} {rest : List Oper} {op : Oper} {a : Act} {Q : Exit → Act → World → Prop} (HS : Hid (St w0 w L)) (ts te : TypeId) (o0 : Operand) (ho : op.op = .buildSlice ts 1 #[(0, o0)]) (hgd : Region.wanted op (yielded ops a.tmps) = true) (hu : P.underlying ts = some (.slice te)) (hinfo : (P.info? te).map (fun i => (i.zero, i.size, i.bytes)) = some (some (.agg #[.int .i64 0, .int .i64 0, .int .i64 0, .int .i64 0]), 4, 32)) {x0 x1 x2 x3 : Int} (h0 : ValOf a o0 (.agg #[.int .i64 x0, .int .i64 x1, .int .i64 x2, .int .i64 x3]))
    (hw : ∀ W b, Hid (St w0 W (slI (fun j => j = b) te 4 ⟨some ⟨b, 0, none⟩, 1, 1⟩ [x0, x1, x2, x3] :: L)) → wpList P ops Q rest (a.put op.dst (.slice (some ⟨b, 0, none⟩) 1 1)) W) : wpList P ops Q (op :: rest) a w :=
  BigFrame.wpList_want hgd fun _ hK => stw_lits_1_4 HS ts te o0 ho hu hinfo h0 fun W b h => hK _ _ (hw W b h)
end Go.Proofs.YtaaenolbfhhnfaaGreat
