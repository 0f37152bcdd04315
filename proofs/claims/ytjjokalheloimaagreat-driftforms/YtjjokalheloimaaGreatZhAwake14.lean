/-
  What every program answers that is one: chapter 14's own example holds.
-/
import Derived.Test.YtjjokalheloimaaGreatZlai
import Derived.Test.YtjjokalheloimaaGreatZhDriftProg
import Derived.Test.YtjjokalheloimaaGreatZlaf
import Derived.Test.YtjjokalheloimaaGreatZlbb
namespace Go.Proofs.YtjjokalheloimaaGreat
open Go.RowKit
set_option linter.unusedSimpArgs false
set_option linter.unusedVariables false
/-- Session 5 reads level 3, with this clearance. -/
def highM (c : Int) : PMach := (begunM.setS 1 ((begunM.at 1).setL 0 [2, 0, 3, 0])).doN 1 2 c
set_option maxRecDepth 100000 in
set_option maxHeartbeats 4000000 in
theorem high14_any (c : Int) (w : World) :
    Calls Tryz.prog 51 #[.int .i64 c] w fun e w' => ∃ A', e = .returned (machA A' (highM c)) ∧ MachOwn (fun k => w.heap.size ≤ k ∧ k < w'.heap.size) w' A' (highM c) ∧ Below w.heap.size w w' := by
  have HS := hide (St.refl w)
  have hB := hide fun (W : World) => begun14_any W
  have sN : Hid (begunM.sess.length = 2) := by show _ = 2; decide +kernel
  have eH : Hid (highM c = (begunM.setS 1 ((begunM.at 1).setL 0 [2, 0, 3, 0])).doN 1 2 c) := rfl
  generalize begunM = N at hB sN eH
  generalize highM c = H at eH ⊢
  go_enter Tryz.func51, Tryz.ntmps51
  go_wp2_with (first | ((with_reducible refine isList ?_); first | (refine st_alloc HS _ rfl rfl zeroML zeroM ?_; clear HS; intro W b2 HS)))
  refine (hB.out _).mono ?_
  (rintro e Wq ⟨A1, rfl, hO, hb⟩; have HSq := hide (HS.out.push hb (machI (fun k => _) A1 _) (machI_loc _ _ _) hO fun k hk => hk); generalize (fun k => _) = D1 at HSq; clear HS hb hO; replace HS := HSq; clear HSq)
  clear hB
  have hk1 : 1 < A1.s.n := by
    have := (MachOwn.is (show MachOwn D1 _ A1 N from HS.out.get 0 rfl)).sess.1
    have := sN.out; omega
  have i1 : (1 : Int) < (A1.s.n : Int) := by omega
  obtain ⟨bs1, hbs1, _⟩ := MachOwn.sblk (show MachOwn D1 _ A1 N from HS.out.get 0 rfl) hk1
  go_upto_region 2 with (first | ((with_reducible refine isList ?_); first | (refine st_alloc HS _ rfl rfl zeroML zeroM ?_; clear HS; intro W b3 HS) | (refine st_storeA HS 0 rfl _ _ _ rfl rfl rfl _ rfl rfl (by kernel_rfl) rfl ?_; clear HS; intro W HS)))
  replace HS : Hid (St w W [blkI b3 (machL A1 N), machI D1 A1 N, blkI b2 zeroML]) := HS
  go_upto_region 3 with (first | ((with_reducible refine isList ?_); first | (refine st_load1 HS 0 rfl _ _ rfl _ rfl rfl (by decide +kernel) rfl ?_) | (refine st_lit_1_4 HS _ 62 _ rfl rfl Tryz.underlying55 Tryz.infoI rfl ?_; clear HS; intro W bl HS) | (refine st_storeL HS 2 0 rfl 0 (by decide) rfl (by decide) hk1 hbs1 _ _ _ rfl _ rfl rfl rfl rfl (by decide +kernel) ?_; clear HS; intro W HS)))
  replace HS : Hid (St w W [blkI b3 (machL (A1.setQ 1 ((A1.q 1).setL 0 ⟨some ⟨bl, 0, none⟩, 1, 1⟩)) (N.setS 1 ((N.at 1).setL 0 [2, 0, 3, 0]))), machI (fun k => D1 k ∨ k = bl) (A1.setQ 1 ((A1.q 1).setL 0 ⟨some ⟨bl, 0, none⟩, 1, 1⟩)) (N.setS 1 ((N.at 1).setL 0 [2, 0, 3, 0])), blkI b2 zeroML]) := hide (HS.out.sel [1, 2, 3] (by decide) rfl)
  generalize N.setS 1 ((N.at 1).setL 0 [2, 0, 3, 0]) = N1 at HS eH
  generalize (fun k => D1 k ∨ k = bl) = D2 at HS
  have e1 : (A1.setQ 1 ((A1.q 1).setL 0 ⟨some ⟨bl, 0, none⟩, 1, 1⟩)).s = A1.s := rfl
  rw [← e1] at hk1 hbs1 i1
  clear e1
  generalize A1.setQ 1 ((A1.q 1).setL 0 ⟨some ⟨bl, 0, none⟩, 1, 1⟩) = A2 at HS hk1 hbs1 i1
  go_upto_region 4 with (first | ((with_reducible refine isList ?_); first | (refine st_load1 HS 0 rfl _ _ rfl _ rfl rfl (by decide +kernel) rfl ?_) | (refine st_storeN HS 1 rfl hk1 hbs1 2 (by decide) _ _ _ rfl _ rfl rfl rfl rfl (by decide +kernel) ?_; clear HS; intro W HS)))
  replace HS : Hid (St w W [blkI b3 (machL A2 (N1.doN 1 2 c)), machI D2 A2 (N1.doN 1 2 c), blkI b2 zeroML]) := HS
  rw [← eH.out] at HS
  go_wp2_with (first | ((with_reducible refine isList ?_); first | (refine st_loadA HS 0 rfl _ _ rfl rfl rfl (by decide +kernel) (by kernel_rfl) ?_) | (refine st_storeA HS 2 rfl _ _ _ rfl rfl rfl _ rfl rfl (by kernel_rfl) rfl ?_; clear HS; intro W HS)))
  refine bodyPost_ret (ret_mach Tryz.results51 (HS.out.blk 2 rfl) rfl rfl) rfl ⟨A2, rfl, ?_, HS.out.below⟩
  exact (show MachOwn D2 _ A2 H from HS.out.get 1 rfl).mono (HS.out.here 1 _ rfl).2.2
set_option maxRecDepth 100000 in
set_option maxHeartbeats 4000000 in
theorem awake14_any (w : World) :
    Calls Tryz.prog 48 #[] w fun e w' => e = .returned (.bool true) ∧ Below w.heap.size w w' := by
  have HS := hide (St.refl w)
  have hB := hide fun (W : World) => begun14_any W
  have hH := hide fun (c : Int) (W : World) => high14_any c W
  have hP := hide fun (W : World) => stepped14_any 0 1 (by decide) W
  have g1 := fun (A : MacM) (W : World) (h : MachIs W A (highM 3)) => driftNeeds_any A (highM 3) 1 W h
  have g2 := fun (A : MacM) (W : World) (h : MachIs W A begunM) => driftNeeds_any A begunM 1 W h
  have g3 := fun (A : MacM) (W : World) (h : MachIs W A (highM 3)) => driftStep_any A (highM 3) 1 W h
  have g4 := fun (A : MacM) (W : World) (h : MachIs W A (highM 1)) => driftStep_any A (highM 1) 1 W h
  have g5 := fun (A : MacM) (W : World) (h : MachIs W A begunM) => driftStep_any A begunM 1 W h
  have g6 := fun (A : MacM) (W : World) (h : MachIs W A (stepM begunM 0 1)) => driftNeeds_any A (stepM begunM 0 1) 0 W h
  rw [show needsP (highM 3) 1 = (true, 0) by decide +kernel] at g1
  rw [show needsP begunM 1 = (false, 0) by decide +kernel] at g2
  rw [show needsP (stepM begunM 0 1) 0 = (false, 1400) by decide +kernel] at g6
  obtain ⟨X, hX, sX, x1, tX⟩ : ∃ X, driftP (highM 3) 1 = (X, 0) ∧ X.sess.length = 2 ∧ lz (X.at 1).num 1 = 3 ∧ X.trace = [5, 1, 2, 3] := ⟨(driftP (highM 3) 1).1, by rw [show (0 : Int) = (driftP (highM 3) 1).2 by decide +kernel], by decide +kernel, by decide +kernel, by decide +kernel⟩
  obtain ⟨Y, hY, sY, y12⟩ : ∃ Y, driftP (highM 1) 1 = (Y, 0) ∧ Y.sess.length = 2 ∧ lz (Y.at 1).num 12 = 4 := ⟨(driftP (highM 1) 1).1, by rw [show (0 : Int) = (driftP (highM 1) 1).2 by decide +kernel], by decide +kernel, by decide +kernel⟩
  obtain ⟨Z, hZ⟩ : ∃ Z, driftP begunM 1 = (Z, 1400) := ⟨(driftP begunM 1).1, by rw [show (1400 : Int) = (driftP begunM 1).2 by decide +kernel]⟩
  rw [hX] at g3
  rw [hY] at g4
  rw [hZ] at g5
  clear hX hY hZ
  replace g1 := hide g1; replace g2 := hide g2; replace g3 := hide g3; replace g4 := hide g4; replace g5 := hide g5; replace g6 := hide g6
  replace sX := hide sX; replace x1 := hide x1; replace tX := hide tX; replace sY := hide sY; replace y12 := hide y12
  go_enter Tryz.func48, Tryz.ntmps48
  go_wp2_with fail
  refine (hH.out 3 _).mono ?_
  (rintro e Wq ⟨A1, rfl, hO, hb⟩; have HSq := hide (HS.out.push hb (machI (fun k => _) A1 _) (machI_loc _ _ _) hO fun k hk => hk); generalize (fun k => _) = D1 at HSq; clear HS hb hO; replace HS := HSq; clear HSq)
  go_wp2_with fail
  refine (g1.out A1 _ (MachOwn.is (show MachOwn D1 _ A1 (highM 3) from HS.out.get 0 rfl))).mono ?_
  (rintro e Wq ⟨rfl, hb⟩; have HSq := hide (HS.out.on hb); clear HS hb; replace HS := HSq; clear HSq)
  go_wp2_with fail
  refine (hB.out _).mono ?_
  (rintro e Wq ⟨A2, rfl, hO, hb⟩; have HSq := hide (HS.out.push hb (machI (fun k => _) A2 _) (machI_loc _ _ _) hO fun k hk => hk); generalize (fun k => _) = D2 at HSq; clear HS hb hO; replace HS := HSq; clear HSq)
  go_wp2_with fail
  refine (g2.out A2 _ (MachOwn.is (show MachOwn D2 _ A2 begunM from HS.out.get 0 rfl))).mono ?_
  (rintro e Wq ⟨rfl, hb⟩; have HSq := hide (HS.out.on hb); clear HS hb; replace HS := HSq; clear HSq)
  go_wp2_with fail
  refine (hH.out 3 _).mono ?_
  (rintro e Wq ⟨A3, rfl, hO, hb⟩; have HSq := hide (HS.out.push hb (machI (fun k => _) A3 _) (machI_loc _ _ _) hO fun k hk => hk); generalize (fun k => _) = D3 at HSq; clear HS hb hO; replace HS := HSq; clear HSq)
  go_wp2_with fail
  refine (g3.out A3 _ (MachOwn.is (show MachOwn D3 _ A3 (highM 3) from HS.out.get 0 rfl))).mono ?_
  (rintro e Wq ⟨AX, rfl, hO, hb⟩; have HSq := hide (HS.out.push hb (machI (fun k => _) AX _) (machI_loc _ _ _) hO fun k hk => hk); generalize (fun k => _) = DX at HSq; clear HS hb hO; replace HS := HSq; clear HSq)
  go_wp2_with (first | ((with_reducible refine isList ?_); first | (refine st_alloc HS _ rfl rfl zeroML zeroM ?_; clear HS; intro W b5 HS) | (refine st_storeA HS 0 rfl _ _ _ rfl rfl rfl _ rfl rfl (by kernel_rfl) rfl ?_; clear HS; intro W HS)))
  refine (hH.out 1 _).mono ?_
  (rintro e Wq ⟨A4, rfl, hO, hb⟩; have HSq := hide (HS.out.push hb (machI (fun k => _) A4 _) (machI_loc _ _ _) hO fun k hk => hk); generalize (fun k => _) = D4 at HSq; clear HS hb hO; replace HS := HSq; clear HSq)
  go_wp2_with fail
  refine (g4.out A4 _ (MachOwn.is (show MachOwn D4 _ A4 (highM 1) from HS.out.get 0 rfl))).mono ?_
  (rintro e Wq ⟨AY, rfl, hO, hb⟩; have HSq := hide (HS.out.push hb (machI (fun k => _) AY _) (machI_loc _ _ _) hO fun k hk => hk); generalize (fun k => _) = DY at HSq; clear HS hb hO; replace HS := HSq; clear HSq)
  go_wp2_with (first | ((with_reducible refine isList ?_); first | (refine st_alloc HS _ rfl rfl zeroML zeroM ?_; clear HS; intro W b7 HS) | (refine st_storeA HS 0 rfl _ _ _ rfl rfl rfl _ rfl rfl (by kernel_rfl) rfl ?_; clear HS; intro W HS)))
  refine (hB.out _).mono ?_
  (rintro e Wq ⟨A5, rfl, hO, hb⟩; have HSq := hide (HS.out.push hb (machI (fun k => _) A5 _) (machI_loc _ _ _) hO fun k hk => hk); generalize (fun k => _) = D5 at HSq; clear HS hb hO; replace HS := HSq; clear HSq)
  go_wp2_with fail
  refine (g5.out A5 _ (MachOwn.is (show MachOwn D5 _ A5 begunM from HS.out.get 0 rfl))).mono ?_
  (rintro e Wq ⟨AZ, rfl, hO, hb⟩; have HSq := hide (HS.out.push hb (machI (fun k => _) AZ _) (machI_loc _ _ _) hO fun k hk => hk); generalize (fun k => _) = DZ at HSq; clear HS hb hO; replace HS := HSq; clear HSq)
  go_wp2_with (first | ((with_reducible refine isList ?_); first | (refine st_alloc HS _ rfl rfl zeroML zeroM ?_; clear HS; intro W b9 HS) | (refine st_storeA HS 0 rfl _ _ _ rfl rfl rfl _ rfl rfl (by kernel_rfl) rfl ?_; clear HS; intro W HS)))
  refine (hP.out _).mono ?_
  (rintro e Wq ⟨A6, rfl, hO, hb⟩; have HSq := hide (HS.out.push hb (machI (fun k => _) A6 _) (machI_loc _ _ _) hO fun k hk => hk); generalize (fun k => _) = D6 at HSq; clear HS hb hO; replace HS := HSq; clear HSq)
  go_wp2_with fail
  refine (g6.out A6 _ (MachOwn.is (show MachOwn D6 _ A6 (stepM begunM 0 1) from HS.out.get 0 rfl))).mono ?_
  (rintro e Wq ⟨rfl, hb⟩; have HSq := hide (HS.out.on hb); clear HS hb; replace HS := HSq; clear HSq)
  replace HS : Hid (St w Wq [blkI b7 (machL AY Y), machI DY AY Y, blkI b5 (machL AX X), machI DX AX X]) := hide (HS.out.sel [4, 5, 7, 8] (by decide) rfl)
  obtain ⟨n2, g⟩ := MachOwn.sfact (show MachOwn DX _ AX X from HS.out.get 3 rfl) sX.out
  obtain ⟨s2, e2, _⟩ := g (by decide)
  clear g
  obtain ⟨n4, g⟩ := MachOwn.sfact (show MachOwn DY _ AY Y from HS.out.get 1 rfl) sY.out
  obtain ⟨s4, e4, _⟩ := g (by decide)
  clear g
  obtain ⟨c9, r9⟩ := MachOwn.scell (show MachOwn DX _ AX X from HS.out.get 3 rfl) (HS.out.blk 2 rfl) sX.out e2
  obtain ⟨d9, q9⟩ := MachOwn.scell (show MachOwn DY _ AY Y from HS.out.get 1 rfl) (HS.out.blk 0 rfl) sY.out e4
  have c1 : Wq.cell? ⟨s2, 18, none⟩ = some (.int .i64 3) := by rw [← x1.out]; exact r9 1 (by decide) 1 _ rfl
  have hT := (MachOwn.is (show MachOwn DX _ AX X from HS.out.get 3 rfl)).trace
  have nT : AX.e.n = 1 := by have := hT.1; rw [tX.out] at this; simp at this; omega
  have c10 : Wq.cell? ⟨b5, 10, none⟩ = some (.slice AX.e.a 1 AX.e.c) := by rw [← nT]; exact (HS.out.blk 2 rfl).cell 10 _ rfl
  clear r9 q9 hT
  replace nT := hide nT; replace e2 := hide e2; replace e4 := hide e4; replace n2 := hide n2; replace n4 := hide n4
  go_wp2_with (go_at_call 27; refine (num_any _ _).mono ?_; rintro e w' ⟨rfl, rfl⟩)
  clear c9 d9 c1 c10
  replace HS := hide (HS.out.alloc [.int .i64 5, .int .i64 1, .int .i64 2, .int .i64 3] 66)
  have hT := (MachOwn.is (show MachOwn DX _ AX X from HS.out.get 4 rfl)).trace
  have hE := sameEvents_any AX.e.a (some ⟨Wq.heap.size, 0, none⟩) AX.e.n AX.e.c 1 1 (lz X.trace) (lz [5, 1, 2, 3]) _ (by rw [nT.out]; decide) hT.2.2 (slIs_blk (L := [5, 1, 2, 3]) (n := 1) (k := 4) (HS.out.blk 0 rfl) rfl (by decide)).2.2
  rw [nT.out, tX.out] at hE
  rw [show (decide (1 = 1) && eqTo (lz [5, 1, 2, 3]) (lz [5, 1, 2, 3]) (1 * 4)) = true by decide +kernel] at hE
  replace hE := hide hE
  clear hT
  refine hE.out.mono ?_
  rintro e Wq ⟨rfl, q, rfl⟩
  replace HS := hide (HS.out.drawn q)
  clear hE
  generalize World.drewN _ _ = Wd at *
  obtain ⟨d9, q9⟩ := MachOwn.scell (show MachOwn DY _ AY Y from HS.out.get 2 rfl) (HS.out.blk 1 rfl) sY.out e4.out
  have c1 : Wd.cell? ⟨s4, 17 + 15, none⟩ = some (.int .i64 4) := by rw [← y12.out]; exact q9 1 (by decide) 15 _ rfl
  clear q9
  go_wp2_with (go_at_call 27; refine (num_any _ _).mono ?_; rintro e w' ⟨rfl, rfl⟩)
  go_ret
  exact ⟨rfl, HS.out.below⟩
end Go.Proofs.YtjjokalheloimaaGreat
