/-
  Several small texts in one: Begun15, Awake15.
-/
import Derived.Test.YtaaenolbfhhnfaaGreatZlaj
import Derived.Test.YtaaenolbfhhnfaaGreatZhFetchProg2
import Derived.Test.YtaaenolbfhhnfaaGreatZlad
import Derived.Test.YtaaenolbfhhnfaaGreatZlag
import Derived.Test.YtaaenolbfhhnfaaGreatZlbc
namespace Go.Proofs.YtaaenolbfhhnfaaGreat
open Go.RowKit
set_option linter.unusedSimpArgs false
set_option linter.unusedVariables false
set_option maxRecDepth 100000 in
set_option maxHeartbeats 4000000 in
theorem begun15_any (w : World) :
    Calls Tryz.prog 38 #[] w fun e w' => ∃ A', e = .returned (machA A' begunM) ∧ MachOwn (fun k => w.heap.size ≤ k ∧ k < w'.heap.size) w' A' begunM ∧ Below w.heap.size w w' := by
  have HS0 := ((((((((St.refl w).alloc [.slice none 0 0, .slice none 0 0, .slice none 0 0, .slice none 0 0, .int .i64 0, .int .i64 0, .int .i64 0, .int .i64 0, .int .i64 0, .slice none 0 0, .slice none 0 0] 34).alloc [.int .i64 5, .int .i64 6] 3).alloc [.int .i64 7] 3).alloc [.int .i64 9] 3).alloc [.int .i64 2, .int .i64 0, .int .i64 0, .int .i64 0, .int .i64 1, .int .i64 0, .int .i64 0, .int .i64 0, .int .i64 3, .int .i64 0, .int .i64 0, .int .i64 0] 62).alloc [.int .i64 2, .int .i64 0, .int .i64 0, .int .i64 1, .int .i64 3, .int .i64 0, .int .i64 1, .int .i64 0] 62).alloc [.int .i64 3, .int .i64 0, .int .i64 3, .slice (some ⟨w.heap.size + 1 + 1 + 1 + 1, 0, none⟩) 3 3, .int .i64 5, .int .i64 1, .int .i64 1, .slice (some ⟨w.heap.size + 1 + 1 + 1 + 1 + 1, 0, none⟩) 2 2] 64)
  simp only [World.size_alloc] at HS0
  have hIs := (show ScrIs _ ⟨fourSl ⟨some ⟨w.heap.size + 1, 0, none⟩, 2, 2⟩ ⟨some ⟨w.heap.size + 1 + 1, 0, none⟩, 1, 1⟩ noSl ⟨some ⟨w.heap.size + 1 + 1 + 1, 0, none⟩, 1, 1⟩, ⟨some ⟨w.heap.size + 1 + 1 + 1 + 1 + 1 + 1, 0, none⟩, 2, 2⟩, (fun i => if i = 0 then ⟨some ⟨w.heap.size + 1 + 1 + 1 + 1, 0, none⟩, 3, 3⟩ else ⟨some ⟨w.heap.size + 1 + 1 + 1 + 1 + 1, 0, none⟩, 2, 2⟩), noSl⟩ begunS from
    ⟨rfl, fun g hg => (match g, hg with
      | 0, _ => slIs_blk (HS0.blk 5 rfl) rfl (by decide)
      | 1, _ => slIs_blk (HS0.blk 4 rfl) rfl (by decide)
      | 2, _ => slIs_none _ 1
      | 3, _ => slIs_blk (HS0.blk 3 rfl) rfl (by decide)), staIs_two (HS0.blk 0 rfl) rfl rfl (slIs_blk (HS0.blk 2 rfl) rfl (by decide)) (slIs_blk (HS0.blk 1 rfl) rfl (by decide)), slIs_none _ 2⟩)
  have hN := rnewMach_any _ begunS _ hIs (by show 2 * 184 ≤ _; decide)
  rw [newP_begun] at hN
  have HS := hide HS0
  replace hN := hide hN
  clear hIs HS0
  go_enter Tryz.func38, Tryz.ntmps38
  go_wp2_with fail
  refine hN.out.mono ?_
  (rintro e Wq ⟨A1, rfl, hO, hb⟩; have HSq := hide (HS.out.push hb (machI (fun k => _) A1 _) (machI_loc _ _ _) hO fun k hk => hk); generalize (fun k => _) = D1 at HSq; clear HS hb hO; replace HS := HSq; clear HSq)
  clear hN
  go_wp2_with (first | ((with_reducible refine isList ?_); first | (refine st_alloc HS _ rfl rfl zeroML zeroM ?_; clear HS; intro W bq HS) | (refine st_storeA HS 0 rfl _ _ _ rfl rfl rfl _ rfl rfl (by kernel_rfl) rfl ?_; clear HS; intro W HS) | (refine st_loadA HS 0 rfl _ _ rfl rfl rfl (by decide +kernel) (by kernel_rfl) ?_) | (refine st_storeA HS 8 rfl _ _ _ rfl rfl rfl _ rfl rfl (by kernel_rfl) rfl ?_; clear HS; intro W HS)))
  refine bodyPost_ret (ret_mach Tryz.results38 (HS.out.blk 8 rfl) rfl rfl) rfl ⟨A1, rfl, ?_, HS.out.below⟩
  exact (show MachOwn D1 _ A1 begunM from HS.out.get 1 rfl).mono (HS.out.here 1 _ rfl).2.2
set_option maxRecDepth 100000 in
set_option maxHeartbeats 4000000 in
theorem stepped15_any (i : Int) (n : Nat) (hn : n ≤ 1000) (w : World) :
    Calls Tryz.prog 95 #[.int .i64 i, .int .i64 n] w fun e w' => ∃ A', e = .returned (machA A' (stepM begunM i n)) ∧ MachOwn (fun k => w.heap.size ≤ k ∧ k < w'.heap.size) w' A' (stepM begunM i n) ∧ Below w.heap.size w w' := by
  have HS := hide (St.refl w)
  have hB := hide fun (W : World) => begun15_any W
  have hP := hide fun (A : MacM) (M : PMach) (W : World) (h : MachIs W A M) => rstep_any A M i W h
  go_enter Tryz.func95, Tryz.ntmps95
  go_wp2_with (first | ((with_reducible refine isList ?_); first | (refine st_alloc HS _ rfl rfl zeroML zeroM ?_; clear HS; intro W b0 HS)))
  refine (hB.out _).mono ?_
  (rintro e Wq ⟨A1, rfl, hO, hb⟩; have HSq := hide (HS.out.push hb (machI (fun k => _) A1 _) (machI_loc _ _ _) hO fun k hk => hk); generalize (fun k => _) = D1 at HSq; clear HS hb hO; replace HS := HSq; clear HSq)
  clear hB
  go_wp2_with (first | ((with_reducible refine isList ?_); first | (refine st_alloc HS _ rfl rfl zeroML zeroM ?_; clear HS; intro W b5 HS) | (refine st_storeA HS 0 rfl _ _ _ rfl rfl rfl _ rfl rfl (by kernel_rfl) rfl ?_; clear HS; intro W HS)))
  replace HS : Hid (St w W [blkI b5 (machL A1 begunM), machI D1 A1 begunM, blkI b0 zeroML]) := HS
  go_loopw [6] (fun j wr => ∃ (k : Nat) (D : Nat → Prop) (B : MacM), k ≤ n ∧ j = .int .i64 k ∧ Hid (St w wr [blkI b5 (machL B (stepM begunM i k)), machI D B (stepM begunM i k), blkI b0 zeroML])) (fun j _ => n - (intOf j).toNat)
  case atStart => exact ⟨0, D1, A1, Nat.zero_le _, rfl, HS⟩
  case round =>
    clear HS
    obtain ⟨k, D, B, hk, rfl, HS⟩ := hrel
    by_cases hlt : k < n
    · have i1 : (k : Int) < (n : Int) := by omega
      go_wp2_with (first | ((with_reducible refine isList ?_); first | (refine st_loadA HS 0 rfl _ _ rfl rfl rfl (by decide +kernel) (by kernel_rfl) ?_)))
      refine (hP.out B _ _ (MachOwn.is (show MachOwn D _ B (stepM begunM i k) from HS.out.get 1 rfl))).mono ?_
      (rintro e Wq ⟨B2, rfl, hO, hb⟩; have HSq := hide (HS.out.push hb (machI (fun k => _) B2 _) (machI_loc _ _ _) hO fun k hk => hk); generalize (fun k => _) = D2 at HSq; clear HS hb hO; replace HS := HSq; clear HSq)
      go_wp2_with (first | ((with_reducible refine isList ?_); first | (refine st_storeA HS 1 rfl _ _ _ rfl rfl rfl _ rfl rfl (by kernel_rfl) rfl ?_; clear HS; intro W HS)))
      replace HS : Hid (St w W [machI D2 B2 (stepM begunM i (k + 1)), blkI b5 (machL B2 (stepM begunM i (k + 1))), machI D B (stepM begunM i k), blkI b0 zeroML]) := HS
      replace HS : Hid (St w W [blkI b5 (machL B2 (stepM begunM i (k + 1))), machI D2 B2 (stepM begunM i (k + 1)), blkI b0 zeroML]) := hide (HS.out.sel [1, 0, 3] (by decide) rfl)
      go_roundw
      case rel =>
        first
          | exact ⟨k + 1, D2, B2, by omega, by go_num, HS⟩
          | (repeat apply Exists.intro
             exact ⟨⟨k + 1, D2, B2, by omega, by go_num, HS⟩, rfl⟩)
      case measure => simp [intOf]; omega
    · obtain rfl : k = n := by omega
      go_wp2_with (first | ((with_reducible refine isList ?_); first | (refine st_loadA HS 0 rfl _ _ rfl rfl rfl (by decide +kernel) (by kernel_rfl) ?_) | (refine st_storeA HS 2 rfl _ _ _ rfl rfl rfl _ rfl rfl (by kernel_rfl) rfl ?_; clear HS; intro W HS)))
      refine bodyPost_ret (ret_mach Tryz.results95 (HS.out.blk 2 rfl) rfl rfl) rfl ⟨B, rfl, ?_, HS.out.below⟩
      exact (show MachOwn D _ B (stepM begunM i k) from HS.out.get 1 rfl).mono (HS.out.here 1 _ rfl).2.2
end Go.Proofs.YtaaenolbfhhnfaaGreat
namespace Go.Proofs.YtaaenolbfhhnfaaGreat
open Go.RowKit
set_option linter.unusedSimpArgs false
set_option linter.unusedVariables false
/-- Word 0 of level 0 is locked by another. -/
def lockM : PMach := begunM.setLv 0 ((begunM.lv 0).set 2 6)
set_option maxRecDepth 100000 in
set_option maxHeartbeats 4000000 in
theorem awake15_any (w : World) :
    Calls Tryz.prog 35 #[] w fun e w' => e = .returned (.bool true) ∧ Below w.heap.size w w' := by
  have HS := hide (St.refl w)
  have hB := hide fun (W : World) => begun15_any W
  have hP := hide fun (W : World) => stepped15_any 0 1 (by decide) W
  have g1 := fun (A : MacM) (W : World) (h : MachIs W A begunM) => fetchStep_any A begunM 0 W h
  have g2 := fun (A : MacM) (W : World) (h : MachIs W A lockM) => fetchStep_any A lockM 0 W h
  have g3 := fun (A : MacM) (W : World) (h : MachIs W A (stepM begunM 0 1)) => fetchStep_any A (stepM begunM 0 1) 0 W h
  obtain ⟨X, hX, sX, x5, x4, xr⟩ : ∃ X, fetchP begunM 0 = (X, 0) ∧ X.sess.length = 2 ∧ lz (X.at 0).num 5 = 5 ∧ lz (X.at 0).num 4 = 1 ∧ (X.at 0).reads.length = 3 := ⟨(fetchP begunM 0).1, Prod.ext rfl (by decide +kernel), by decide +kernel, by decide +kernel, by decide +kernel, by decide +kernel⟩
  obtain ⟨Y, hY, sY, y11, yr⟩ : ∃ Y, fetchP lockM 0 = (Y, 0) ∧ Y.sess.length = 2 ∧ lz (Y.at 0).num 11 = 1 ∧ (Y.at 0).reads.length = 0 := ⟨(fetchP lockM 0).1, Prod.ext rfl (by decide +kernel), by decide +kernel, by decide +kernel, by decide +kernel⟩
  obtain ⟨Z, hZ⟩ : ∃ Z, fetchP (stepM begunM 0 1) 0 = (Z, 1500) := ⟨(fetchP (stepM begunM 0 1) 0).1, Prod.ext rfl (by decide +kernel)⟩
  rw [hX] at g1
  rw [hY] at g2
  rw [hZ] at g3
  clear hX hY hZ
  replace g1 := hide g1; replace g2 := hide g2; replace g3 := hide g3
  replace sX := hide sX; replace x5 := hide x5; replace x4 := hide x4; replace xr := hide xr; replace sY := hide sY; replace y11 := hide y11; replace yr := hide yr
  have lB : Hid ((begunM.lv 0).length = 2 * 3) := by show _ = _; decide +kernel
  have eL : Hid (lockM = begunM.setLv 0 ((begunM.lv 0).set 2 6)) := rfl
  generalize lockM = L at *
  go_enter Tryz.func35, Tryz.ntmps35
  go_wp2_with fail
  refine (hB.out _).mono ?_
  (rintro e Wq ⟨A1, rfl, hO, hb⟩; have HSq := hide (HS.out.push hb (machI (fun k => _) A1 _) (machI_loc _ _ _) hO fun k hk => hk); generalize (fun k => _) = D1 at HSq; clear HS hb hO; replace HS := HSq; clear HSq)
  go_wp2_with fail
  refine (g1.out A1 _ (MachOwn.is (show MachOwn D1 _ A1 begunM from HS.out.get 0 rfl))).mono ?_
  (rintro e Wq ⟨AX, rfl, hO, hb⟩; have HSq := hide (HS.out.push hb (machI (fun k => _) AX _) (machI_loc _ _ _) hO fun k hk => hk); generalize (fun k => _) = DX at HSq; clear HS hb hO; replace HS := HSq; clear HSq)
  go_wp2_with (first | ((with_reducible refine isList ?_); first | (refine st_alloc HS _ rfl rfl zeroML zeroM ?_; clear HS; intro W b1 HS) | (refine st_storeA HS 0 rfl _ _ _ rfl rfl rfl _ rfl rfl (by kernel_rfl) rfl ?_; clear HS; intro W HS)))
  refine (hB.out _).mono ?_
  (rintro e Wq ⟨A2, rfl, hO, hb⟩; have HSq := hide (HS.out.push hb (machI (fun k => _) A2 _) (machI_loc _ _ _) hO fun k hk => hk); generalize (fun k => _) = D2 at HSq; clear HS hb hO; replace HS := HSq; clear HSq)
  go_upto_region 3 with (first | ((with_reducible refine isList ?_); first | (refine st_alloc HS _ rfl rfl zeroML zeroM ?_; clear HS; intro W b3 HS) | (refine st_storeA HS 0 rfl _ _ _ rfl rfl rfl _ rfl rfl (by kernel_rfl) rfl ?_; clear HS; intro W HS)))
  replace HS : Hid (St w W [blkI b3 (machL A2 begunM), machI D2 A2 begunM, blkI b1 (machL AX X), machI DX AX X, machI D1 A1 begunM]) := HS
  obtain ⟨n0, g⟩ := MachOwn.wfact (show MachOwn D2 _ A2 begunM from HS.out.get 1 rfl) (g := 0) (m := 2) (by decide) lB.out
  obtain ⟨w0, e0, _⟩ := g (by decide)
  clear g
  have i0 : (0 : Int) < ((A2.w 0).n : Int) := by omega
  have i2 : 2 < (A2.w 0).n * 3 := by omega
  replace n0 := hide n0
  go_upto_region 4 with (first | ((with_reducible refine isList ?_); first | (refine st_load1 HS 0 rfl _ _ rfl _ rfl rfl (by decide +kernel) rfl ?_) | (refine st_storeW HS 1 rfl (g := 0) (c := 2) (by decide) i2 e0 _ _ _ rfl rfl rfl rfl (by decide +kernel) ?_; clear HS; intro W HS)))
  clear e0 i0
  replace HS : Hid (St w W [blkI b3 (machL A2 (begunM.setLv 0 ((begunM.lv 0).set 2 6))), machI D2 A2 (begunM.setLv 0 ((begunM.lv 0).set 2 6)), blkI b1 (machL AX X), machI DX AX X, machI D1 A1 begunM]) := HS
  rw [← eL.out] at HS
  go_wp2_with (first | ((with_reducible refine isList ?_); first | (refine st_loadA HS 0 rfl _ _ rfl rfl rfl (by decide +kernel) (by kernel_rfl) ?_)))
  refine (g2.out A2 _ (MachOwn.is (show MachOwn D2 _ A2 L from HS.out.get 1 rfl))).mono ?_
  (rintro e Wq ⟨AY, rfl, hO, hb⟩; have HSq := hide (HS.out.push hb (machI (fun k => _) AY _) (machI_loc _ _ _) hO fun k hk => hk); generalize (fun k => _) = DY at HSq; clear HS hb hO; replace HS := HSq; clear HSq)
  go_wp2_with (first | ((with_reducible refine isList ?_); first | (refine st_alloc HS _ rfl rfl zeroML zeroM ?_; clear HS; intro W b4 HS) | (refine st_storeA HS 0 rfl _ _ _ rfl rfl rfl _ rfl rfl (by kernel_rfl) rfl ?_; clear HS; intro W HS)))
  refine (hP.out _).mono ?_
  (rintro e Wq ⟨A4, rfl, hO, hb⟩; have HSq := hide (HS.out.push hb (machI (fun k => _) A4 _) (machI_loc _ _ _) hO fun k hk => hk); generalize (fun k => _) = D4 at HSq; clear HS hb hO; replace HS := HSq; clear HSq)
  go_wp2_with fail
  refine (g3.out A4 _ (MachOwn.is (show MachOwn D4 _ A4 (stepM begunM 0 1) from HS.out.get 0 rfl))).mono ?_
  (rintro e Wq ⟨AZ, rfl, hO, hb⟩; have HSq := hide (HS.out.push hb (machI (fun k => _) AZ _) (machI_loc _ _ _) hO fun k hk => hk); generalize (fun k => _) = DZ at HSq; clear HS hb hO; replace HS := HSq; clear HSq)
  go_upto_region 6 with (first | ((with_reducible refine isList ?_); first | (refine st_alloc HS _ rfl rfl zeroML zeroM ?_; clear HS; intro W b6 HS) | (refine st_storeA HS 0 rfl _ _ _ rfl rfl rfl _ rfl rfl (by kernel_rfl) rfl ?_; clear HS; intro W HS)))
  replace HS : Hid (St w W [blkI b4 (machL AY Y), machI DY AY Y, blkI b1 (machL AX X), machI DX AX X]) := hide (HS.out.sel [3, 4, 7, 8] (by decide) rfl)
  obtain ⟨n2, g⟩ := MachOwn.sfact (show MachOwn DX _ AX X from HS.out.get 3 rfl) sX.out
  obtain ⟨s2, e2, _⟩ := g (by decide)
  clear g
  obtain ⟨n4, g⟩ := MachOwn.sfact (show MachOwn DY _ AY Y from HS.out.get 1 rfl) sY.out
  obtain ⟨s4, e4, _⟩ := g (by decide)
  clear g
  have nXr : (AX.q 0).r.n = 1 := by have := ((MachOwn.is (show MachOwn DX _ AX X from HS.out.get 3 rfl)).sess.2.2.2 0 (by omega)).2.2.1.1; have h2 := xr.out; unfold PMach.at at h2; omega
  have nYr : (AY.q 0).r.n = 0 := by have := ((MachOwn.is (show MachOwn DY _ AY Y from HS.out.get 1 rfl)).sess.2.2.2 0 (by omega)).2.2.1.1; have h2 := yr.out; unfold PMach.at at h2; omega
  obtain ⟨c9, r9⟩ := MachOwn.scell (show MachOwn DX _ AX X from HS.out.get 3 rfl) (HS.out.blk 2 rfl) sX.out e2
  obtain ⟨d9, q9⟩ := MachOwn.scell (show MachOwn DY _ AY Y from HS.out.get 1 rfl) (HS.out.blk 0 rfl) sY.out e4
  have c5 : W.cell? ⟨s2, 5, none⟩ = some (.int .i64 1) := by rw [← x4.out]; exact r9 0 (by decide) 5 _ rfl
  have c6 : W.cell? ⟨s2, 6, none⟩ = some (.int .i64 5) := by rw [← x5.out]; exact r9 0 (by decide) 6 _ rfl
  have c10 : W.cell? ⟨s2, 10, none⟩ = some (.slice (AX.q 0).r.a 1 (AX.q 0).r.c) := by
    have := r9 0 (by decide) 10 (.slice (AX.q 0).r.a (AX.q 0).r.n (AX.q 0).r.c) rfl
    rw [nXr] at this
    exact this
  have d14 : W.cell? ⟨s4, 14, none⟩ = some (.int .i64 1) := by rw [← y11.out]; exact q9 0 (by decide) 14 _ rfl
  have d10 : W.cell? ⟨s4, 10, none⟩ = some (.slice (AY.q 0).r.a 0 (AY.q 0).r.c) := by
    have := q9 0 (by decide) 10 (.slice (AY.q 0).r.a (AY.q 0).r.n (AY.q 0).r.c) rfl
    rw [nYr] at this
    exact this
  clear r9 q9
  replace e2 := hide e2; replace e4 := hide e4; replace n2 := hide n2; replace n4 := hide n4; replace nXr := hide nXr; replace nYr := hide nYr
  go_wp2_with (go_at_call 21; refine (num_any _ _).mono ?_; rintro e w' ⟨rfl, rfl⟩)
  go_ret
  exact ⟨rfl, HS.out.below⟩
end Go.Proofs.YtaaenolbfhhnfaaGreat
