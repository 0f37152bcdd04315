/-
  The law MachSessions. (Written by wip/tools/gen_machforms.py)
-/
import Derived.Test.YtaaenolbfhhnfaaGreatZlcc
import Derived.Test.YtaaenolbfhhnfaaGreatZlab
namespace Go.Proofs.YtaaenolbfhhnfaaGreat
open Go.RowKit
set_option linter.unusedSimpArgs false
set_option linter.unusedVariables false
set_option maxRecDepth 100000 in
set_option maxHeartbeats 4000000 in
theorem machSessions_0 (a0 a1 r : Int) (w : World) (hd : bits .and .i64 a1 1023 = r) (r0 : 0 ≤ r) (r1 : r ≤ 1023) (hp : (IntKind.u64.wrap a0).tmod 16 = 0) :
    Calls Tryz.prog 6 #[.int .i64 a0, .int .i64 a1] w fun e w' => e = .returned (.bool true) ∧ Below w.heap.size w w' := by
  have HS := hide (St.refl w)
  have hAw := hide fun (W : World) => awake12_any W
  have hB := hide fun (W : World) => stepped12_any 0 4 (by decide) W
  have sN : Hid ((stepM begunM 0 4).sess.length = 2) := by show _ = 2; decide +kernel
  have lN : Hid (((stepM begunM 0 4).lv 0).length = 2 * 3) := by show _ = _; decide +kernel
  have cN : Hid ((stepM begunM 0 4).ceil = 9) := by show _ = _; decide +kernel
  have hZ := hide fun (A : MacM) (W : World) (h : MachIs W A (stepM begunM 0 4)) => gmachMay_any A (stepM begunM 0 4) W h
  rw [show machMay (stepM begunM 0 4) = true by decide +kernel] at hZ
  obtain ⟨N1, hN1⟩ : ∃ N1, N1 = (stepM begunM 0 4).doN 0 3 (6 + (1 + r)) := ⟨_, rfl⟩
  have hMay : machMay N1 = false := by
    rw [hN1]
    exact (may_num (by decide +kernel) (by decide +kernel) (by decide) fun s ok e => by have := ok.step; rw [e] at this; omega)
  have hT := hide fun (A : MacM) (W : World) (h : MachIs W A N1) => gtelling_any A N1 0 6 0 W h
  rw [telling_not hMay] at hT
  have hY := hide fun (A : MacM) (W : World) (h : MachIs W A N1) => gmachMay_any A N1 W h
  rw [hMay] at hY
  clear hMay
  replace hN1 := hide hN1
  generalize stepM begunM 0 4 = N at *
  go_enter Tryz.func6, Tryz.ntmps6
  go_wp2_with fail
  refine (hAw.out _).mono ?_
  (rintro e Wq ⟨rfl, hb⟩; have HSq := hide (HS.out.on hb); clear HS hb; replace HS := HSq; clear HSq)
  clear hAw
  go_wp2_with fail
  refine (hB.out _).mono ?_
  (rintro e Wq ⟨A1, rfl, hO, hb⟩; have HSq := hide (HS.out.push hb (machI (fun k => _) A1 _) (machI_loc _ _ _) hO fun k hk => hk); generalize (fun k => _) = D1 at HSq; clear HS hb hO; replace HS := HSq; clear HSq)
  go_upto_region 5 with (first | ((with_reducible refine isList ?_); first | (refine st_alloc HS _ rfl rfl zeroML zeroM ?_; clear HS; intro W b6 HS) | (refine st_storeA HS 0 rfl _ _ _ rfl rfl rfl _ rfl rfl (by kernel_rfl) rfl ?_; clear HS; intro W HS)))
  replace HS : Hid (St w W [blkI b6 (machL A1 N), machI D1 A1 N]) := HS
  obtain ⟨n1, g⟩ := MachOwn.sfact (show MachOwn D1 _ A1 N from HS.out.get 1 rfl) sN.out
  obtain ⟨bs1, hbs1, _⟩ := g (by decide)
  clear g
  obtain ⟨n0, g⟩ := MachOwn.wfact (show MachOwn D1 _ A1 N from HS.out.get 1 rfl) (g := 0) (m := 2) (by decide) lN.out
  obtain ⟨w0, e0, _⟩ := g (by decide)
  clear g
  obtain ⟨c9, _⟩ := MachOwn.scell (show MachOwn D1 _ A1 N from HS.out.get 1 rfl) (HS.out.blk 0 rfl) sN.out hbs1
  obtain ⟨c0, _⟩ := MachOwn.lcell (show MachOwn D1 _ A1 N from HS.out.get 1 rfl) (g := 0) (by decide) (HS.out.blk 0 rfl) lN.out e0
  replace n1 := hide n1; replace n0 := hide n0; replace hbs1 := hide hbs1; replace e0 := hide e0
  have v0 : IntKind.i64.wrap (6 + (1 + r)) = (6 + (1 + r)) := IntWalk.i64_in _ ⟨by omega, by omega⟩
  go_upto_region 10 with fail
  clear c9 c0
  have hk1 : 0 < A1.s.n := by have := n1.out; omega
  have i1 : (0 : Int) < (A1.s.n : Int) := by omega
  replace hbs1 := hbs1.out
  go_upto_region 39 with (first | ((with_reducible refine isList ?_); first | (refine st_load1 HS 0 rfl _ _ rfl _ rfl rfl (by decide +kernel) rfl ?_) | (refine st_storeN HS 1 rfl (k := 0) hk1 hbs1 3 (by decide) _ _ _ rfl _ rfl rfl rfl rfl (by decide +kernel) ?_; clear HS; intro W HS)))
  clear hbs1 i1
  replace HS : Hid (St w W [blkI b6 (machL A1 (N.doN 0 3 (6 + (1 + r)))), machI D1 A1 (N.doN 0 3 (6 + (1 + r)))]) := HS
  rw [← hN1.out] at HS
  replace HS : Hid (St w _ [blkI b6 (machL A1 N1), machI D1 A1 N1]) := HS
  go_wp2_with (first | ((with_reducible refine isList ?_); first | (refine st_loadA HS 0 rfl _ _ rfl rfl rfl (by decide +kernel) (by kernel_rfl) ?_)))
  refine (hT.out _ _ (MachOwn.is (show MachOwn D1 _ A1 N1 from HS.out.get 1 rfl))).mono ?_
  (rintro e Wq ⟨A2, rfl, hO, hb⟩; have HSq := hide (HS.out.push hb (machI (fun k => _) A2 _) (machI_loc _ _ _) hO fun k hk => hk); generalize (fun k => _) = D2 at HSq; clear HS hb hO; replace HS := HSq; clear HSq)
  clear hT
  go_wp2_with (first | ((with_reducible refine isList ?_); first | (refine st_alloc HS _ rfl rfl zeroML zeroM ?_; clear HS; intro W b7 HS) | (refine st_storeA HS 0 rfl _ _ _ rfl rfl rfl _ rfl rfl (by kernel_rfl) rfl ?_; clear HS; intro W HS)))
  refine (hB.out _).mono ?_
  (rintro e Wq ⟨A3, rfl, hO, hb⟩; have HSq := hide (HS.out.push hb (machI (fun k => _) A3 _) (machI_loc _ _ _) hO fun k hk => hk); generalize (fun k => _) = D3 at HSq; clear HS hb hO; replace HS := HSq; clear HSq)
  go_wp2_with fail
  refine (hZ.out A3 _ (MachOwn.is (show MachOwn D3 _ A3 N from HS.out.get 0 rfl))).mono ?_
  (rintro e Wq ⟨rfl, hb⟩; have HSq := hide (HS.out.on hb); clear HS hb; replace HS := HSq; clear HSq)
  go_wp2_with (first | ((with_reducible refine isList ?_); first | (refine st_loadA HS 3 rfl _ _ rfl rfl rfl (by decide +kernel) (by kernel_rfl) ?_)))
  refine (hY.out _ _ (MachOwn.is (show MachOwn D1 _ A1 N1 from HS.out.get 4 rfl))).mono ?_
  (rintro e Wq ⟨rfl, hb⟩; have HSq := hide (HS.out.on hb); clear HS hb; replace HS := HSq; clear HSq)
  go_wp2_with (go_at_call 21; refine (num_any _ _).mono ?_; rintro e w' ⟨rfl, rfl⟩)
  go_ret
  exact ⟨rfl, HS.out.below⟩
set_option maxRecDepth 100000 in
set_option maxHeartbeats 4000000 in
theorem machSessions_1 (a0 a1 r : Int) (w : World) (hd : bits .and .i64 a1 1023 = r) (r0 : 0 ≤ r) (r1 : r ≤ 1023) (hp : (IntKind.u64.wrap a0).tmod 16 = 1) :
    Calls Tryz.prog 6 #[.int .i64 a0, .int .i64 a1] w fun e w' => e = .returned (.bool true) ∧ Below w.heap.size w w' := by
  have HS := hide (St.refl w)
  have hAw := hide fun (W : World) => awake12_any W
  have hB := hide fun (W : World) => stepped12_any 0 4 (by decide) W
  have sN : Hid ((stepM begunM 0 4).sess.length = 2) := by show _ = 2; decide +kernel
  have lN : Hid (((stepM begunM 0 4).lv 0).length = 2 * 3) := by show _ = _; decide +kernel
  have cN : Hid ((stepM begunM 0 4).ceil = 9) := by show _ = _; decide +kernel
  have hZ := hide fun (A : MacM) (W : World) (h : MachIs W A (stepM begunM 0 4)) => gmachMay_any A (stepM begunM 0 4) W h
  rw [show machMay (stepM begunM 0 4) = true by decide +kernel] at hZ
  obtain ⟨N1, hN1⟩ : ∃ N1, N1 = (stepM begunM 0 4).doN 0 4 (3 + (1 + r)) := ⟨_, rfl⟩
  have hMay : machMay N1 = false := by
    rw [hN1]
    exact (may_num (by decide +kernel) (by decide +kernel) (by decide) fun s ok e => by have h := ok.pc; rw [e] at h; have h2 := h.2; rw [setN_pn, show ((stepM begunM 0 4).at 0).pn = 3 by decide +kernel] at h2; omega)
  have hT := hide fun (A : MacM) (W : World) (h : MachIs W A N1) => gtelling_any A N1 0 6 0 W h
  rw [telling_not hMay] at hT
  have hY := hide fun (A : MacM) (W : World) (h : MachIs W A N1) => gmachMay_any A N1 W h
  rw [hMay] at hY
  clear hMay
  replace hN1 := hide hN1
  generalize stepM begunM 0 4 = N at *
  go_enter Tryz.func6, Tryz.ntmps6
  go_wp2_with fail
  refine (hAw.out _).mono ?_
  (rintro e Wq ⟨rfl, hb⟩; have HSq := hide (HS.out.on hb); clear HS hb; replace HS := HSq; clear HSq)
  clear hAw
  go_wp2_with fail
  refine (hB.out _).mono ?_
  (rintro e Wq ⟨A1, rfl, hO, hb⟩; have HSq := hide (HS.out.push hb (machI (fun k => _) A1 _) (machI_loc _ _ _) hO fun k hk => hk); generalize (fun k => _) = D1 at HSq; clear HS hb hO; replace HS := HSq; clear HSq)
  go_upto_region 5 with (first | ((with_reducible refine isList ?_); first | (refine st_alloc HS _ rfl rfl zeroML zeroM ?_; clear HS; intro W b6 HS) | (refine st_storeA HS 0 rfl _ _ _ rfl rfl rfl _ rfl rfl (by kernel_rfl) rfl ?_; clear HS; intro W HS)))
  replace HS : Hid (St w W [blkI b6 (machL A1 N), machI D1 A1 N]) := HS
  obtain ⟨n1, g⟩ := MachOwn.sfact (show MachOwn D1 _ A1 N from HS.out.get 1 rfl) sN.out
  obtain ⟨bs1, hbs1, _⟩ := g (by decide)
  clear g
  obtain ⟨n0, g⟩ := MachOwn.wfact (show MachOwn D1 _ A1 N from HS.out.get 1 rfl) (g := 0) (m := 2) (by decide) lN.out
  obtain ⟨w0, e0, _⟩ := g (by decide)
  clear g
  obtain ⟨c9, _⟩ := MachOwn.scell (show MachOwn D1 _ A1 N from HS.out.get 1 rfl) (HS.out.blk 0 rfl) sN.out hbs1
  obtain ⟨c0, _⟩ := MachOwn.lcell (show MachOwn D1 _ A1 N from HS.out.get 1 rfl) (g := 0) (by decide) (HS.out.blk 0 rfl) lN.out e0
  replace n1 := hide n1; replace n0 := hide n0; replace hbs1 := hide hbs1; replace e0 := hide e0
  have v0 : IntKind.i64.wrap (3 + (1 + r)) = (3 + (1 + r)) := IntWalk.i64_in _ ⟨by omega, by omega⟩
  go_upto_region 12 with fail
  clear c9 c0
  have hk1 : 0 < A1.s.n := by have := n1.out; omega
  have i1 : (0 : Int) < (A1.s.n : Int) := by omega
  replace hbs1 := hbs1.out
  go_upto_region 39 with (first | ((with_reducible refine isList ?_); first | (refine st_load1 HS 0 rfl _ _ rfl _ rfl rfl (by decide +kernel) rfl ?_) | (refine st_storeN HS 1 rfl (k := 0) hk1 hbs1 4 (by decide) _ _ _ rfl _ rfl rfl rfl rfl (by decide +kernel) ?_; clear HS; intro W HS)))
  clear hbs1 i1
  replace HS : Hid (St w W [blkI b6 (machL A1 (N.doN 0 4 (3 + (1 + r)))), machI D1 A1 (N.doN 0 4 (3 + (1 + r)))]) := HS
  rw [← hN1.out] at HS
  replace HS : Hid (St w _ [blkI b6 (machL A1 N1), machI D1 A1 N1]) := HS
  go_wp2_with (first | ((with_reducible refine isList ?_); first | (refine st_loadA HS 0 rfl _ _ rfl rfl rfl (by decide +kernel) (by kernel_rfl) ?_)))
  refine (hT.out _ _ (MachOwn.is (show MachOwn D1 _ A1 N1 from HS.out.get 1 rfl))).mono ?_
  (rintro e Wq ⟨A2, rfl, hO, hb⟩; have HSq := hide (HS.out.push hb (machI (fun k => _) A2 _) (machI_loc _ _ _) hO fun k hk => hk); generalize (fun k => _) = D2 at HSq; clear HS hb hO; replace HS := HSq; clear HSq)
  clear hT
  go_wp2_with (first | ((with_reducible refine isList ?_); first | (refine st_alloc HS _ rfl rfl zeroML zeroM ?_; clear HS; intro W b7 HS) | (refine st_storeA HS 0 rfl _ _ _ rfl rfl rfl _ rfl rfl (by kernel_rfl) rfl ?_; clear HS; intro W HS)))
  refine (hB.out _).mono ?_
  (rintro e Wq ⟨A3, rfl, hO, hb⟩; have HSq := hide (HS.out.push hb (machI (fun k => _) A3 _) (machI_loc _ _ _) hO fun k hk => hk); generalize (fun k => _) = D3 at HSq; clear HS hb hO; replace HS := HSq; clear HSq)
  go_wp2_with fail
  refine (hZ.out A3 _ (MachOwn.is (show MachOwn D3 _ A3 N from HS.out.get 0 rfl))).mono ?_
  (rintro e Wq ⟨rfl, hb⟩; have HSq := hide (HS.out.on hb); clear HS hb; replace HS := HSq; clear HSq)
  go_wp2_with (first | ((with_reducible refine isList ?_); first | (refine st_loadA HS 3 rfl _ _ rfl rfl rfl (by decide +kernel) (by kernel_rfl) ?_)))
  refine (hY.out _ _ (MachOwn.is (show MachOwn D1 _ A1 N1 from HS.out.get 4 rfl))).mono ?_
  (rintro e Wq ⟨rfl, hb⟩; have HSq := hide (HS.out.on hb); clear HS hb; replace HS := HSq; clear HSq)
  go_wp2_with (go_at_call 21; refine (num_any _ _).mono ?_; rintro e w' ⟨rfl, rfl⟩)
  go_ret
  exact ⟨rfl, HS.out.below⟩
set_option maxRecDepth 100000 in
set_option maxHeartbeats 4000000 in
theorem machSessions_2 (a0 a1 r : Int) (w : World) (hd : bits .and .i64 a1 1023 = r) (r0 : 0 ≤ r) (r1 : r ≤ 1023) (hp : (IntKind.u64.wrap a0).tmod 16 = 2) :
    Calls Tryz.prog 6 #[.int .i64 a0, .int .i64 a1] w fun e w' => e = .returned (.bool true) ∧ Below w.heap.size w w' := by
  have HS := hide (St.refl w)
  have hAw := hide fun (W : World) => awake12_any W
  have hB := hide fun (W : World) => stepped12_any 0 4 (by decide) W
  have sN : Hid ((stepM begunM 0 4).sess.length = 2) := by show _ = 2; decide +kernel
  have lN : Hid (((stepM begunM 0 4).lv 0).length = 2 * 3) := by show _ = _; decide +kernel
  have cN : Hid ((stepM begunM 0 4).ceil = 9) := by show _ = _; decide +kernel
  have hZ := hide fun (A : MacM) (W : World) (h : MachIs W A (stepM begunM 0 4)) => gmachMay_any A (stepM begunM 0 4) W h
  rw [show machMay (stepM begunM 0 4) = true by decide +kernel] at hZ
  obtain ⟨N1, hN1⟩ : ∃ N1, N1 = (stepM begunM 0 4).doN 0 4 (-(1 + r)) := ⟨_, rfl⟩
  have hMay : machMay N1 = false := by
    rw [hN1]
    exact (may_num (by decide +kernel) (by decide +kernel) (by decide) fun s ok e => by have := ok.pc; rw [e] at this; omega)
  have hT := hide fun (A : MacM) (W : World) (h : MachIs W A N1) => gtelling_any A N1 0 6 0 W h
  rw [telling_not hMay] at hT
  have hY := hide fun (A : MacM) (W : World) (h : MachIs W A N1) => gmachMay_any A N1 W h
  rw [hMay] at hY
  clear hMay
  replace hN1 := hide hN1
  generalize stepM begunM 0 4 = N at *
  go_enter Tryz.func6, Tryz.ntmps6
  go_wp2_with fail
  refine (hAw.out _).mono ?_
  (rintro e Wq ⟨rfl, hb⟩; have HSq := hide (HS.out.on hb); clear HS hb; replace HS := HSq; clear HSq)
  clear hAw
  go_wp2_with fail
  refine (hB.out _).mono ?_
  (rintro e Wq ⟨A1, rfl, hO, hb⟩; have HSq := hide (HS.out.push hb (machI (fun k => _) A1 _) (machI_loc _ _ _) hO fun k hk => hk); generalize (fun k => _) = D1 at HSq; clear HS hb hO; replace HS := HSq; clear HSq)
  go_upto_region 5 with (first | ((with_reducible refine isList ?_); first | (refine st_alloc HS _ rfl rfl zeroML zeroM ?_; clear HS; intro W b6 HS) | (refine st_storeA HS 0 rfl _ _ _ rfl rfl rfl _ rfl rfl (by kernel_rfl) rfl ?_; clear HS; intro W HS)))
  replace HS : Hid (St w W [blkI b6 (machL A1 N), machI D1 A1 N]) := HS
  obtain ⟨n1, g⟩ := MachOwn.sfact (show MachOwn D1 _ A1 N from HS.out.get 1 rfl) sN.out
  obtain ⟨bs1, hbs1, _⟩ := g (by decide)
  clear g
  obtain ⟨n0, g⟩ := MachOwn.wfact (show MachOwn D1 _ A1 N from HS.out.get 1 rfl) (g := 0) (m := 2) (by decide) lN.out
  obtain ⟨w0, e0, _⟩ := g (by decide)
  clear g
  obtain ⟨c9, _⟩ := MachOwn.scell (show MachOwn D1 _ A1 N from HS.out.get 1 rfl) (HS.out.blk 0 rfl) sN.out hbs1
  obtain ⟨c0, _⟩ := MachOwn.lcell (show MachOwn D1 _ A1 N from HS.out.get 1 rfl) (g := 0) (by decide) (HS.out.blk 0 rfl) lN.out e0
  replace n1 := hide n1; replace n0 := hide n0; replace hbs1 := hide hbs1; replace e0 := hide e0
  have v0 : IntKind.i64.wrap (-(1 + r)) = (-(1 + r)) := IntWalk.i64_in _ ⟨by omega, by omega⟩
  go_upto_region 14 with fail
  clear c9 c0
  have hk1 : 0 < A1.s.n := by have := n1.out; omega
  have i1 : (0 : Int) < (A1.s.n : Int) := by omega
  replace hbs1 := hbs1.out
  go_upto_region 39 with (first | ((with_reducible refine isList ?_); first | (refine st_load1 HS 0 rfl _ _ rfl _ rfl rfl (by decide +kernel) rfl ?_) | (refine st_storeN HS 1 rfl (k := 0) hk1 hbs1 4 (by decide) _ _ _ rfl _ rfl rfl rfl rfl (by decide +kernel) ?_; clear HS; intro W HS)))
  clear hbs1 i1
  replace HS : Hid (St w W [blkI b6 (machL A1 (N.doN 0 4 (-(1 + r)))), machI D1 A1 (N.doN 0 4 (-(1 + r)))]) := HS
  rw [← hN1.out] at HS
  replace HS : Hid (St w _ [blkI b6 (machL A1 N1), machI D1 A1 N1]) := HS
  go_wp2_with (first | ((with_reducible refine isList ?_); first | (refine st_loadA HS 0 rfl _ _ rfl rfl rfl (by decide +kernel) (by kernel_rfl) ?_)))
  refine (hT.out _ _ (MachOwn.is (show MachOwn D1 _ A1 N1 from HS.out.get 1 rfl))).mono ?_
  (rintro e Wq ⟨A2, rfl, hO, hb⟩; have HSq := hide (HS.out.push hb (machI (fun k => _) A2 _) (machI_loc _ _ _) hO fun k hk => hk); generalize (fun k => _) = D2 at HSq; clear HS hb hO; replace HS := HSq; clear HSq)
  clear hT
  go_wp2_with (first | ((with_reducible refine isList ?_); first | (refine st_alloc HS _ rfl rfl zeroML zeroM ?_; clear HS; intro W b7 HS) | (refine st_storeA HS 0 rfl _ _ _ rfl rfl rfl _ rfl rfl (by kernel_rfl) rfl ?_; clear HS; intro W HS)))
  refine (hB.out _).mono ?_
  (rintro e Wq ⟨A3, rfl, hO, hb⟩; have HSq := hide (HS.out.push hb (machI (fun k => _) A3 _) (machI_loc _ _ _) hO fun k hk => hk); generalize (fun k => _) = D3 at HSq; clear HS hb hO; replace HS := HSq; clear HSq)
  go_wp2_with fail
  refine (hZ.out A3 _ (MachOwn.is (show MachOwn D3 _ A3 N from HS.out.get 0 rfl))).mono ?_
  (rintro e Wq ⟨rfl, hb⟩; have HSq := hide (HS.out.on hb); clear HS hb; replace HS := HSq; clear HSq)
  go_wp2_with (first | ((with_reducible refine isList ?_); first | (refine st_loadA HS 3 rfl _ _ rfl rfl rfl (by decide +kernel) (by kernel_rfl) ?_)))
  refine (hY.out _ _ (MachOwn.is (show MachOwn D1 _ A1 N1 from HS.out.get 4 rfl))).mono ?_
  (rintro e Wq ⟨rfl, hb⟩; have HSq := hide (HS.out.on hb); clear HS hb; replace HS := HSq; clear HSq)
  go_wp2_with (go_at_call 21; refine (num_any _ _).mono ?_; rintro e w' ⟨rfl, rfl⟩)
  go_ret
  exact ⟨rfl, HS.out.below⟩
set_option maxRecDepth 100000 in
set_option maxHeartbeats 4000000 in
theorem machSessions_3 (a0 a1 r : Int) (w : World) (hd : bits .and .i64 a1 1023 = r) (r0 : 0 ≤ r) (r1 : r ≤ 1023) (hp : (IntKind.u64.wrap a0).tmod 16 = 3) :
    Calls Tryz.prog 6 #[.int .i64 a0, .int .i64 a1] w fun e w' => e = .returned (.bool true) ∧ Below w.heap.size w w' := by
  have HS := hide (St.refl w)
  have hAw := hide fun (W : World) => awake12_any W
  have hB := hide fun (W : World) => stepped12_any 0 4 (by decide) W
  have sN : Hid ((stepM begunM 0 4).sess.length = 2) := by show _ = 2; decide +kernel
  have lN : Hid (((stepM begunM 0 4).lv 0).length = 2 * 3) := by show _ = _; decide +kernel
  have cN : Hid ((stepM begunM 0 4).ceil = 9) := by show _ = _; decide +kernel
  have hZ := hide fun (A : MacM) (W : World) (h : MachIs W A (stepM begunM 0 4)) => gmachMay_any A (stepM begunM 0 4) W h
  rw [show machMay (stepM begunM 0 4) = true by decide +kernel] at hZ
  obtain ⟨N1, hN1⟩ : ∃ N1, N1 = (stepM begunM 0 4).doN 0 8 (-(1 + r)) := ⟨_, rfl⟩
  have hMay : machMay N1 = false := by
    rw [hN1]
    exact (may_num (by decide +kernel) (by decide +kernel) (by decide) fun s ok e => by have := ok.reg (a := 3) (by decide); rw [show 5 + 3 = 8 from rfl, e] at this; omega)
  have hT := hide fun (A : MacM) (W : World) (h : MachIs W A N1) => gtelling_any A N1 0 6 0 W h
  rw [telling_not hMay] at hT
  have hY := hide fun (A : MacM) (W : World) (h : MachIs W A N1) => gmachMay_any A N1 W h
  rw [hMay] at hY
  clear hMay
  replace hN1 := hide hN1
  generalize stepM begunM 0 4 = N at *
  go_enter Tryz.func6, Tryz.ntmps6
  go_wp2_with fail
  refine (hAw.out _).mono ?_
  (rintro e Wq ⟨rfl, hb⟩; have HSq := hide (HS.out.on hb); clear HS hb; replace HS := HSq; clear HSq)
  clear hAw
  go_wp2_with fail
  refine (hB.out _).mono ?_
  (rintro e Wq ⟨A1, rfl, hO, hb⟩; have HSq := hide (HS.out.push hb (machI (fun k => _) A1 _) (machI_loc _ _ _) hO fun k hk => hk); generalize (fun k => _) = D1 at HSq; clear HS hb hO; replace HS := HSq; clear HSq)
  go_upto_region 5 with (first | ((with_reducible refine isList ?_); first | (refine st_alloc HS _ rfl rfl zeroML zeroM ?_; clear HS; intro W b6 HS) | (refine st_storeA HS 0 rfl _ _ _ rfl rfl rfl _ rfl rfl (by kernel_rfl) rfl ?_; clear HS; intro W HS)))
  replace HS : Hid (St w W [blkI b6 (machL A1 N), machI D1 A1 N]) := HS
  obtain ⟨n1, g⟩ := MachOwn.sfact (show MachOwn D1 _ A1 N from HS.out.get 1 rfl) sN.out
  obtain ⟨bs1, hbs1, _⟩ := g (by decide)
  clear g
  obtain ⟨n0, g⟩ := MachOwn.wfact (show MachOwn D1 _ A1 N from HS.out.get 1 rfl) (g := 0) (m := 2) (by decide) lN.out
  obtain ⟨w0, e0, _⟩ := g (by decide)
  clear g
  obtain ⟨c9, _⟩ := MachOwn.scell (show MachOwn D1 _ A1 N from HS.out.get 1 rfl) (HS.out.blk 0 rfl) sN.out hbs1
  obtain ⟨c0, _⟩ := MachOwn.lcell (show MachOwn D1 _ A1 N from HS.out.get 1 rfl) (g := 0) (by decide) (HS.out.blk 0 rfl) lN.out e0
  replace n1 := hide n1; replace n0 := hide n0; replace hbs1 := hide hbs1; replace e0 := hide e0
  have v0 : IntKind.i64.wrap (-(1 + r)) = (-(1 + r)) := IntWalk.i64_in _ ⟨by omega, by omega⟩
  go_upto_region 16 with fail
  clear c9 c0
  have hk1 : 0 < A1.s.n := by have := n1.out; omega
  have i1 : (0 : Int) < (A1.s.n : Int) := by omega
  replace hbs1 := hbs1.out
  go_upto_region 39 with (first | ((with_reducible refine isList ?_); first | (refine st_load1 HS 0 rfl _ _ rfl _ rfl rfl (by decide +kernel) rfl ?_) | (refine st_storeN HS 1 rfl (k := 0) hk1 hbs1 8 (by decide) _ _ _ rfl _ rfl rfl rfl rfl (by decide +kernel) ?_; clear HS; intro W HS)))
  clear hbs1 i1
  replace HS : Hid (St w W [blkI b6 (machL A1 (N.doN 0 8 (-(1 + r)))), machI D1 A1 (N.doN 0 8 (-(1 + r)))]) := HS
  rw [← hN1.out] at HS
  replace HS : Hid (St w _ [blkI b6 (machL A1 N1), machI D1 A1 N1]) := HS
  go_wp2_with (first | ((with_reducible refine isList ?_); first | (refine st_loadA HS 0 rfl _ _ rfl rfl rfl (by decide +kernel) (by kernel_rfl) ?_)))
  refine (hT.out _ _ (MachOwn.is (show MachOwn D1 _ A1 N1 from HS.out.get 1 rfl))).mono ?_
  (rintro e Wq ⟨A2, rfl, hO, hb⟩; have HSq := hide (HS.out.push hb (machI (fun k => _) A2 _) (machI_loc _ _ _) hO fun k hk => hk); generalize (fun k => _) = D2 at HSq; clear HS hb hO; replace HS := HSq; clear HSq)
  clear hT
  go_wp2_with (first | ((with_reducible refine isList ?_); first | (refine st_alloc HS _ rfl rfl zeroML zeroM ?_; clear HS; intro W b7 HS) | (refine st_storeA HS 0 rfl _ _ _ rfl rfl rfl _ rfl rfl (by kernel_rfl) rfl ?_; clear HS; intro W HS)))
  refine (hB.out _).mono ?_
  (rintro e Wq ⟨A3, rfl, hO, hb⟩; have HSq := hide (HS.out.push hb (machI (fun k => _) A3 _) (machI_loc _ _ _) hO fun k hk => hk); generalize (fun k => _) = D3 at HSq; clear HS hb hO; replace HS := HSq; clear HSq)
  go_wp2_with fail
  refine (hZ.out A3 _ (MachOwn.is (show MachOwn D3 _ A3 N from HS.out.get 0 rfl))).mono ?_
  (rintro e Wq ⟨rfl, hb⟩; have HSq := hide (HS.out.on hb); clear HS hb; replace HS := HSq; clear HSq)
  go_wp2_with (first | ((with_reducible refine isList ?_); first | (refine st_loadA HS 3 rfl _ _ rfl rfl rfl (by decide +kernel) (by kernel_rfl) ?_)))
  refine (hY.out _ _ (MachOwn.is (show MachOwn D1 _ A1 N1 from HS.out.get 4 rfl))).mono ?_
  (rintro e Wq ⟨rfl, hb⟩; have HSq := hide (HS.out.on hb); clear HS hb; replace HS := HSq; clear HSq)
  go_wp2_with (go_at_call 21; refine (num_any _ _).mono ?_; rintro e w' ⟨rfl, rfl⟩)
  go_ret
  exact ⟨rfl, HS.out.below⟩
set_option maxRecDepth 100000 in
set_option maxHeartbeats 4000000 in
theorem machSessions_4 (a0 a1 r : Int) (w : World) (hd : bits .and .i64 a1 1023 = r) (r0 : 0 ≤ r) (r1 : r ≤ 1023) (hp : (IntKind.u64.wrap a0).tmod 16 = 4) :
    Calls Tryz.prog 6 #[.int .i64 a0, .int .i64 a1] w fun e w' => e = .returned (.bool true) ∧ Below w.heap.size w w' := by
  have HS := hide (St.refl w)
  have hAw := hide fun (W : World) => awake12_any W
  have hB := hide fun (W : World) => stepped12_any 0 4 (by decide) W
  have sN : Hid ((stepM begunM 0 4).sess.length = 2) := by show _ = 2; decide +kernel
  have lN : Hid (((stepM begunM 0 4).lv 0).length = 2 * 3) := by show _ = _; decide +kernel
  have cN : Hid ((stepM begunM 0 4).ceil = 9) := by show _ = _; decide +kernel
  have hZ := hide fun (A : MacM) (W : World) (h : MachIs W A (stepM begunM 0 4)) => gmachMay_any A (stepM begunM 0 4) W h
  rw [show machMay (stepM begunM 0 4) = true by decide +kernel] at hZ
  obtain ⟨N1, hN1⟩ : ∃ N1, N1 = (stepM begunM 0 4).setS 0 (((stepM begunM 0 4).at 0).setL 1 [2, 0, 0]) := ⟨_, rfl⟩
  have hMay : machMay N1 = false := by
    rw [hN1]
    exact (by decide +kernel)
  have hT := hide fun (A : MacM) (W : World) (h : MachIs W A N1) => gtelling_any A N1 0 6 0 W h
  rw [telling_not hMay] at hT
  have hY := hide fun (A : MacM) (W : World) (h : MachIs W A N1) => gmachMay_any A N1 W h
  rw [hMay] at hY
  clear hMay
  replace hN1 := hide hN1
  generalize stepM begunM 0 4 = N at *
  go_enter Tryz.func6, Tryz.ntmps6
  go_wp2_with fail
  refine (hAw.out _).mono ?_
  (rintro e Wq ⟨rfl, hb⟩; have HSq := hide (HS.out.on hb); clear HS hb; replace HS := HSq; clear HSq)
  clear hAw
  go_wp2_with fail
  refine (hB.out _).mono ?_
  (rintro e Wq ⟨A1, rfl, hO, hb⟩; have HSq := hide (HS.out.push hb (machI (fun k => _) A1 _) (machI_loc _ _ _) hO fun k hk => hk); generalize (fun k => _) = D1 at HSq; clear HS hb hO; replace HS := HSq; clear HSq)
  go_upto_region 5 with (first | ((with_reducible refine isList ?_); first | (refine st_alloc HS _ rfl rfl zeroML zeroM ?_; clear HS; intro W b6 HS) | (refine st_storeA HS 0 rfl _ _ _ rfl rfl rfl _ rfl rfl (by kernel_rfl) rfl ?_; clear HS; intro W HS)))
  replace HS : Hid (St w W [blkI b6 (machL A1 N), machI D1 A1 N]) := HS
  obtain ⟨n1, g⟩ := MachOwn.sfact (show MachOwn D1 _ A1 N from HS.out.get 1 rfl) sN.out
  obtain ⟨bs1, hbs1, _⟩ := g (by decide)
  clear g
  obtain ⟨n0, g⟩ := MachOwn.wfact (show MachOwn D1 _ A1 N from HS.out.get 1 rfl) (g := 0) (m := 2) (by decide) lN.out
  obtain ⟨w0, e0, _⟩ := g (by decide)
  clear g
  obtain ⟨c9, _⟩ := MachOwn.scell (show MachOwn D1 _ A1 N from HS.out.get 1 rfl) (HS.out.blk 0 rfl) sN.out hbs1
  obtain ⟨c0, _⟩ := MachOwn.lcell (show MachOwn D1 _ A1 N from HS.out.get 1 rfl) (g := 0) (by decide) (HS.out.blk 0 rfl) lN.out e0
  replace n1 := hide n1; replace n0 := hide n0; replace hbs1 := hide hbs1; replace e0 := hide e0
  go_upto_region 18 with fail
  clear c9 c0
  have hk1 : 0 < A1.s.n := by have := n1.out; omega
  have i1 : (0 : Int) < (A1.s.n : Int) := by omega
  replace hbs1 := hbs1.out
  go_upto_region 39 with (first | ((with_reducible refine isList ?_); first | (refine st_load1 HS 0 rfl _ _ rfl _ rfl rfl (by decide +kernel) rfl ?_) | (refine st_lit_1_3 HS _ 66 _ rfl rfl Tryz.underlying56 Tryz.infoR rfl ?_; clear HS; intro W bl HS) | (refine st_storeL HS 2 0 rfl 1 (by decide) rfl (by decide) hk1 hbs1 _ _ _ rfl _ rfl rfl rfl rfl (by decide +kernel) ?_; clear HS; intro W HS)))
  clear hbs1 i1 hk1
  replace HS : Hid (St w W [blkI b6 (machL (A1.setQ 0 ((A1.q 0).setL 1 ⟨some ⟨bl, 0, none⟩, 1, 1⟩)) (N.setS 0 ((N.at 0).setL 1 [2, 0, 0]))), machI (fun k => D1 k ∨ k = bl) (A1.setQ 0 ((A1.q 0).setL 1 ⟨some ⟨bl, 0, none⟩, 1, 1⟩)) (N.setS 0 ((N.at 0).setL 1 [2, 0, 0]))]) := hide (HS.out.sel [1, 2] (by decide) rfl)
  rw [← hN1.out] at HS
  generalize (fun k => D1 k ∨ k = bl) = Dx at HS
  generalize A1.setQ 0 ((A1.q 0).setL 1 ⟨some ⟨bl, 0, none⟩, 1, 1⟩) = Ax at HS
  replace HS : Hid (St w _ [blkI b6 (machL Ax N1), machI Dx Ax N1]) := HS
  go_wp2_with (first | ((with_reducible refine isList ?_); first | (refine st_loadA HS 0 rfl _ _ rfl rfl rfl (by decide +kernel) (by kernel_rfl) ?_)))
  refine (hT.out _ _ (MachOwn.is (show MachOwn Dx _ Ax N1 from HS.out.get 1 rfl))).mono ?_
  (rintro e Wq ⟨A2, rfl, hO, hb⟩; have HSq := hide (HS.out.push hb (machI (fun k => _) A2 _) (machI_loc _ _ _) hO fun k hk => hk); generalize (fun k => _) = D2 at HSq; clear HS hb hO; replace HS := HSq; clear HSq)
  clear hT
  go_wp2_with (first | ((with_reducible refine isList ?_); first | (refine st_alloc HS _ rfl rfl zeroML zeroM ?_; clear HS; intro W b7 HS) | (refine st_storeA HS 0 rfl _ _ _ rfl rfl rfl _ rfl rfl (by kernel_rfl) rfl ?_; clear HS; intro W HS)))
  refine (hB.out _).mono ?_
  (rintro e Wq ⟨A3, rfl, hO, hb⟩; have HSq := hide (HS.out.push hb (machI (fun k => _) A3 _) (machI_loc _ _ _) hO fun k hk => hk); generalize (fun k => _) = D3 at HSq; clear HS hb hO; replace HS := HSq; clear HSq)
  go_wp2_with fail
  refine (hZ.out A3 _ (MachOwn.is (show MachOwn D3 _ A3 N from HS.out.get 0 rfl))).mono ?_
  (rintro e Wq ⟨rfl, hb⟩; have HSq := hide (HS.out.on hb); clear HS hb; replace HS := HSq; clear HSq)
  go_wp2_with (first | ((with_reducible refine isList ?_); first | (refine st_loadA HS 3 rfl _ _ rfl rfl rfl (by decide +kernel) (by kernel_rfl) ?_)))
  refine (hY.out _ _ (MachOwn.is (show MachOwn Dx _ Ax N1 from HS.out.get 4 rfl))).mono ?_
  (rintro e Wq ⟨rfl, hb⟩; have HSq := hide (HS.out.on hb); clear HS hb; replace HS := HSq; clear HSq)
  go_wp2_with (go_at_call 21; refine (num_any _ _).mono ?_; rintro e w' ⟨rfl, rfl⟩)
  go_ret
  exact ⟨rfl, HS.out.below⟩
set_option maxRecDepth 100000 in
set_option maxHeartbeats 4000000 in
theorem machSessions_5 (a0 a1 r : Int) (w : World) (hd : bits .and .i64 a1 1023 = r) (r0 : 0 ≤ r) (r1 : r ≤ 1023) (hp : (IntKind.u64.wrap a0).tmod 16 = 5) :
    Calls Tryz.prog 6 #[.int .i64 a0, .int .i64 a1] w fun e w' => e = .returned (.bool true) ∧ Below w.heap.size w w' := by
  have HS := hide (St.refl w)
  have hAw := hide fun (W : World) => awake12_any W
  have hB := hide fun (W : World) => stepped12_any 0 4 (by decide) W
  have sN : Hid ((stepM begunM 0 4).sess.length = 2) := by show _ = 2; decide +kernel
  have lN : Hid (((stepM begunM 0 4).lv 0).length = 2 * 3) := by show _ = _; decide +kernel
  have cN : Hid ((stepM begunM 0 4).ceil = 9) := by show _ = _; decide +kernel
  have hZ := hide fun (A : MacM) (W : World) (h : MachIs W A (stepM begunM 0 4)) => gmachMay_any A (stepM begunM 0 4) W h
  rw [show machMay (stepM begunM 0 4) = true by decide +kernel] at hZ
  obtain ⟨N1, hN1⟩ : ∃ N1, N1 = (stepM begunM 0 4).setS 0 (((stepM begunM 0 4).at 0).setL 1 [0, 0, 0, 0, 0, 0]) := ⟨_, rfl⟩
  have hMay : machMay N1 = false := by
    rw [hN1]
    exact (by decide +kernel)
  have hT := hide fun (A : MacM) (W : World) (h : MachIs W A N1) => gtelling_any A N1 0 6 0 W h
  rw [telling_not hMay] at hT
  have hY := hide fun (A : MacM) (W : World) (h : MachIs W A N1) => gmachMay_any A N1 W h
  rw [hMay] at hY
  clear hMay
  replace hN1 := hide hN1
  generalize stepM begunM 0 4 = N at *
  go_enter Tryz.func6, Tryz.ntmps6
  go_wp2_with fail
  refine (hAw.out _).mono ?_
  (rintro e Wq ⟨rfl, hb⟩; have HSq := hide (HS.out.on hb); clear HS hb; replace HS := HSq; clear HSq)
  clear hAw
  go_wp2_with fail
  refine (hB.out _).mono ?_
  (rintro e Wq ⟨A1, rfl, hO, hb⟩; have HSq := hide (HS.out.push hb (machI (fun k => _) A1 _) (machI_loc _ _ _) hO fun k hk => hk); generalize (fun k => _) = D1 at HSq; clear HS hb hO; replace HS := HSq; clear HSq)
  go_upto_region 5 with (first | ((with_reducible refine isList ?_); first | (refine st_alloc HS _ rfl rfl zeroML zeroM ?_; clear HS; intro W b6 HS) | (refine st_storeA HS 0 rfl _ _ _ rfl rfl rfl _ rfl rfl (by kernel_rfl) rfl ?_; clear HS; intro W HS)))
  replace HS : Hid (St w W [blkI b6 (machL A1 N), machI D1 A1 N]) := HS
  obtain ⟨n1, g⟩ := MachOwn.sfact (show MachOwn D1 _ A1 N from HS.out.get 1 rfl) sN.out
  obtain ⟨bs1, hbs1, _⟩ := g (by decide)
  clear g
  obtain ⟨n0, g⟩ := MachOwn.wfact (show MachOwn D1 _ A1 N from HS.out.get 1 rfl) (g := 0) (m := 2) (by decide) lN.out
  obtain ⟨w0, e0, _⟩ := g (by decide)
  clear g
  obtain ⟨c9, _⟩ := MachOwn.scell (show MachOwn D1 _ A1 N from HS.out.get 1 rfl) (HS.out.blk 0 rfl) sN.out hbs1
  obtain ⟨c0, _⟩ := MachOwn.lcell (show MachOwn D1 _ A1 N from HS.out.get 1 rfl) (g := 0) (by decide) (HS.out.blk 0 rfl) lN.out e0
  replace n1 := hide n1; replace n0 := hide n0; replace hbs1 := hide hbs1; replace e0 := hide e0
  go_upto_region 20 with fail
  clear c9 c0
  have hk1 : 0 < A1.s.n := by have := n1.out; omega
  have i1 : (0 : Int) < (A1.s.n : Int) := by omega
  replace hbs1 := hbs1.out
  go_upto_region 39 with (first | ((with_reducible refine isList ?_); first | (refine st_load1 HS 0 rfl _ _ rfl _ rfl rfl (by decide +kernel) rfl ?_) | (refine st_lit_2_3 HS _ 66 _ _ rfl rfl Tryz.underlying56 Tryz.infoR rfl rfl ?_; clear HS; intro W bl HS) | (refine st_storeL HS 2 0 rfl 1 (by decide) rfl (by decide) hk1 hbs1 _ _ _ rfl _ rfl rfl rfl rfl (by decide +kernel) ?_; clear HS; intro W HS)))
  clear hbs1 i1 hk1
  replace HS : Hid (St w W [blkI b6 (machL (A1.setQ 0 ((A1.q 0).setL 1 ⟨some ⟨bl, 0, none⟩, 2, 2⟩)) (N.setS 0 ((N.at 0).setL 1 [0, 0, 0, 0, 0, 0]))), machI (fun k => D1 k ∨ k = bl) (A1.setQ 0 ((A1.q 0).setL 1 ⟨some ⟨bl, 0, none⟩, 2, 2⟩)) (N.setS 0 ((N.at 0).setL 1 [0, 0, 0, 0, 0, 0]))]) := hide (HS.out.sel [1, 2] (by decide) rfl)
  rw [← hN1.out] at HS
  generalize (fun k => D1 k ∨ k = bl) = Dx at HS
  generalize A1.setQ 0 ((A1.q 0).setL 1 ⟨some ⟨bl, 0, none⟩, 2, 2⟩) = Ax at HS
  replace HS : Hid (St w _ [blkI b6 (machL Ax N1), machI Dx Ax N1]) := HS
  go_wp2_with (first | ((with_reducible refine isList ?_); first | (refine st_loadA HS 0 rfl _ _ rfl rfl rfl (by decide +kernel) (by kernel_rfl) ?_)))
  refine (hT.out _ _ (MachOwn.is (show MachOwn Dx _ Ax N1 from HS.out.get 1 rfl))).mono ?_
  (rintro e Wq ⟨A2, rfl, hO, hb⟩; have HSq := hide (HS.out.push hb (machI (fun k => _) A2 _) (machI_loc _ _ _) hO fun k hk => hk); generalize (fun k => _) = D2 at HSq; clear HS hb hO; replace HS := HSq; clear HSq)
  clear hT
  go_wp2_with (first | ((with_reducible refine isList ?_); first | (refine st_alloc HS _ rfl rfl zeroML zeroM ?_; clear HS; intro W b7 HS) | (refine st_storeA HS 0 rfl _ _ _ rfl rfl rfl _ rfl rfl (by kernel_rfl) rfl ?_; clear HS; intro W HS)))
  refine (hB.out _).mono ?_
  (rintro e Wq ⟨A3, rfl, hO, hb⟩; have HSq := hide (HS.out.push hb (machI (fun k => _) A3 _) (machI_loc _ _ _) hO fun k hk => hk); generalize (fun k => _) = D3 at HSq; clear HS hb hO; replace HS := HSq; clear HSq)
  go_wp2_with fail
  refine (hZ.out A3 _ (MachOwn.is (show MachOwn D3 _ A3 N from HS.out.get 0 rfl))).mono ?_
  (rintro e Wq ⟨rfl, hb⟩; have HSq := hide (HS.out.on hb); clear HS hb; replace HS := HSq; clear HSq)
  go_wp2_with (first | ((with_reducible refine isList ?_); first | (refine st_loadA HS 3 rfl _ _ rfl rfl rfl (by decide +kernel) (by kernel_rfl) ?_)))
  refine (hY.out _ _ (MachOwn.is (show MachOwn Dx _ Ax N1 from HS.out.get 4 rfl))).mono ?_
  (rintro e Wq ⟨rfl, hb⟩; have HSq := hide (HS.out.on hb); clear HS hb; replace HS := HSq; clear HSq)
  go_wp2_with (go_at_call 21; refine (num_any _ _).mono ?_; rintro e w' ⟨rfl, rfl⟩)
  go_ret
  exact ⟨rfl, HS.out.below⟩
set_option maxRecDepth 100000 in
set_option maxHeartbeats 4000000 in
theorem machSessions_6 (a0 a1 r : Int) (w : World) (hd : bits .and .i64 a1 1023 = r) (r0 : 0 ≤ r) (r1 : r ≤ 1023) (hp : (IntKind.u64.wrap a0).tmod 16 = 6) :
    Calls Tryz.prog 6 #[.int .i64 a0, .int .i64 a1] w fun e w' => e = .returned (.bool true) ∧ Below w.heap.size w w' := by
  have HS := hide (St.refl w)
  have hAw := hide fun (W : World) => awake12_any W
  have hB := hide fun (W : World) => stepped12_any 0 4 (by decide) W
  have sN : Hid ((stepM begunM 0 4).sess.length = 2) := by show _ = 2; decide +kernel
  have lN : Hid (((stepM begunM 0 4).lv 0).length = 2 * 3) := by show _ = _; decide +kernel
  have cN : Hid ((stepM begunM 0 4).ceil = 9) := by show _ = _; decide +kernel
  have hZ := hide fun (A : MacM) (W : World) (h : MachIs W A (stepM begunM 0 4)) => gmachMay_any A (stepM begunM 0 4) W h
  rw [show machMay (stepM begunM 0 4) = true by decide +kernel] at hZ
  obtain ⟨N1, hN1⟩ : ∃ N1, N1 = (stepM begunM 0 4).setS 0 (((stepM begunM 0 4).at 0).setL 2 [2, 0, 0]) := ⟨_, rfl⟩
  have hMay : machMay N1 = false := by
    rw [hN1]
    exact (by decide +kernel)
  have hT := hide fun (A : MacM) (W : World) (h : MachIs W A N1) => gtelling_any A N1 0 6 0 W h
  rw [telling_not hMay] at hT
  have hY := hide fun (A : MacM) (W : World) (h : MachIs W A N1) => gmachMay_any A N1 W h
  rw [hMay] at hY
  clear hMay
  replace hN1 := hide hN1
  generalize stepM begunM 0 4 = N at *
  go_enter Tryz.func6, Tryz.ntmps6
  go_wp2_with fail
  refine (hAw.out _).mono ?_
  (rintro e Wq ⟨rfl, hb⟩; have HSq := hide (HS.out.on hb); clear HS hb; replace HS := HSq; clear HSq)
  clear hAw
  go_wp2_with fail
  refine (hB.out _).mono ?_
  (rintro e Wq ⟨A1, rfl, hO, hb⟩; have HSq := hide (HS.out.push hb (machI (fun k => _) A1 _) (machI_loc _ _ _) hO fun k hk => hk); generalize (fun k => _) = D1 at HSq; clear HS hb hO; replace HS := HSq; clear HSq)
  go_upto_region 5 with (first | ((with_reducible refine isList ?_); first | (refine st_alloc HS _ rfl rfl zeroML zeroM ?_; clear HS; intro W b6 HS) | (refine st_storeA HS 0 rfl _ _ _ rfl rfl rfl _ rfl rfl (by kernel_rfl) rfl ?_; clear HS; intro W HS)))
  replace HS : Hid (St w W [blkI b6 (machL A1 N), machI D1 A1 N]) := HS
  obtain ⟨n1, g⟩ := MachOwn.sfact (show MachOwn D1 _ A1 N from HS.out.get 1 rfl) sN.out
  obtain ⟨bs1, hbs1, _⟩ := g (by decide)
  clear g
  obtain ⟨n0, g⟩ := MachOwn.wfact (show MachOwn D1 _ A1 N from HS.out.get 1 rfl) (g := 0) (m := 2) (by decide) lN.out
  obtain ⟨w0, e0, _⟩ := g (by decide)
  clear g
  obtain ⟨c9, _⟩ := MachOwn.scell (show MachOwn D1 _ A1 N from HS.out.get 1 rfl) (HS.out.blk 0 rfl) sN.out hbs1
  obtain ⟨c0, _⟩ := MachOwn.lcell (show MachOwn D1 _ A1 N from HS.out.get 1 rfl) (g := 0) (by decide) (HS.out.blk 0 rfl) lN.out e0
  replace n1 := hide n1; replace n0 := hide n0; replace hbs1 := hide hbs1; replace e0 := hide e0
  go_upto_region 22 with fail
  clear c9 c0
  have hk1 : 0 < A1.s.n := by have := n1.out; omega
  have i1 : (0 : Int) < (A1.s.n : Int) := by omega
  replace hbs1 := hbs1.out
  go_upto_region 39 with (first | ((with_reducible refine isList ?_); first | (refine st_load1 HS 0 rfl _ _ rfl _ rfl rfl (by decide +kernel) rfl ?_) | (refine st_lit_1_3 HS _ 68 _ rfl rfl Tryz.underlying57 Tryz.infoT rfl ?_; clear HS; intro W bl HS) | (refine st_storeL HS 2 0 rfl 2 (by decide) rfl (by decide) hk1 hbs1 _ _ _ rfl _ rfl rfl rfl rfl (by decide +kernel) ?_; clear HS; intro W HS)))
  clear hbs1 i1 hk1
  replace HS : Hid (St w W [blkI b6 (machL (A1.setQ 0 ((A1.q 0).setL 2 ⟨some ⟨bl, 0, none⟩, 1, 1⟩)) (N.setS 0 ((N.at 0).setL 2 [2, 0, 0]))), machI (fun k => D1 k ∨ k = bl) (A1.setQ 0 ((A1.q 0).setL 2 ⟨some ⟨bl, 0, none⟩, 1, 1⟩)) (N.setS 0 ((N.at 0).setL 2 [2, 0, 0]))]) := hide (HS.out.sel [1, 2] (by decide) rfl)
  rw [← hN1.out] at HS
  generalize (fun k => D1 k ∨ k = bl) = Dx at HS
  generalize A1.setQ 0 ((A1.q 0).setL 2 ⟨some ⟨bl, 0, none⟩, 1, 1⟩) = Ax at HS
  replace HS : Hid (St w _ [blkI b6 (machL Ax N1), machI Dx Ax N1]) := HS
  go_wp2_with (first | ((with_reducible refine isList ?_); first | (refine st_loadA HS 0 rfl _ _ rfl rfl rfl (by decide +kernel) (by kernel_rfl) ?_)))
  refine (hT.out _ _ (MachOwn.is (show MachOwn Dx _ Ax N1 from HS.out.get 1 rfl))).mono ?_
  (rintro e Wq ⟨A2, rfl, hO, hb⟩; have HSq := hide (HS.out.push hb (machI (fun k => _) A2 _) (machI_loc _ _ _) hO fun k hk => hk); generalize (fun k => _) = D2 at HSq; clear HS hb hO; replace HS := HSq; clear HSq)
  clear hT
  go_wp2_with (first | ((with_reducible refine isList ?_); first | (refine st_alloc HS _ rfl rfl zeroML zeroM ?_; clear HS; intro W b7 HS) | (refine st_storeA HS 0 rfl _ _ _ rfl rfl rfl _ rfl rfl (by kernel_rfl) rfl ?_; clear HS; intro W HS)))
  refine (hB.out _).mono ?_
  (rintro e Wq ⟨A3, rfl, hO, hb⟩; have HSq := hide (HS.out.push hb (machI (fun k => _) A3 _) (machI_loc _ _ _) hO fun k hk => hk); generalize (fun k => _) = D3 at HSq; clear HS hb hO; replace HS := HSq; clear HSq)
  go_wp2_with fail
  refine (hZ.out A3 _ (MachOwn.is (show MachOwn D3 _ A3 N from HS.out.get 0 rfl))).mono ?_
  (rintro e Wq ⟨rfl, hb⟩; have HSq := hide (HS.out.on hb); clear HS hb; replace HS := HSq; clear HSq)
  go_wp2_with (first | ((with_reducible refine isList ?_); first | (refine st_loadA HS 3 rfl _ _ rfl rfl rfl (by decide +kernel) (by kernel_rfl) ?_)))
  refine (hY.out _ _ (MachOwn.is (show MachOwn Dx _ Ax N1 from HS.out.get 4 rfl))).mono ?_
  (rintro e Wq ⟨rfl, hb⟩; have HSq := hide (HS.out.on hb); clear HS hb; replace HS := HSq; clear HSq)
  go_wp2_with (go_at_call 21; refine (num_any _ _).mono ?_; rintro e w' ⟨rfl, rfl⟩)
  go_ret
  exact ⟨rfl, HS.out.below⟩
set_option maxRecDepth 100000 in
set_option maxHeartbeats 4000000 in
theorem machSessions_7 (a0 a1 r : Int) (w : World) (hd : bits .and .i64 a1 1023 = r) (r0 : 0 ≤ r) (r1 : r ≤ 1023) (hp : (IntKind.u64.wrap a0).tmod 16 = 7) :
    Calls Tryz.prog 6 #[.int .i64 a0, .int .i64 a1] w fun e w' => e = .returned (.bool true) ∧ Below w.heap.size w w' := by
  have HS := hide (St.refl w)
  have hAw := hide fun (W : World) => awake12_any W
  have hB := hide fun (W : World) => stepped12_any 0 4 (by decide) W
  have sN : Hid ((stepM begunM 0 4).sess.length = 2) := by show _ = 2; decide +kernel
  have lN : Hid (((stepM begunM 0 4).lv 0).length = 2 * 3) := by show _ = _; decide +kernel
  have cN : Hid ((stepM begunM 0 4).ceil = 9) := by show _ = _; decide +kernel
  have hZ := hide fun (A : MacM) (W : World) (h : MachIs W A (stepM begunM 0 4)) => gmachMay_any A (stepM begunM 0 4) W h
  rw [show machMay (stepM begunM 0 4) = true by decide +kernel] at hZ
  obtain ⟨N1, hN1⟩ : ∃ N1, N1 = (stepM begunM 0 4).setS 0 (((stepM begunM 0 4).at 0).setL 2 [0, 0, 0, 0, 0, 0]) := ⟨_, rfl⟩
  have hMay : machMay N1 = false := by
    rw [hN1]
    exact (by decide +kernel)
  have hT := hide fun (A : MacM) (W : World) (h : MachIs W A N1) => gtelling_any A N1 0 6 0 W h
  rw [telling_not hMay] at hT
  have hY := hide fun (A : MacM) (W : World) (h : MachIs W A N1) => gmachMay_any A N1 W h
  rw [hMay] at hY
  clear hMay
  replace hN1 := hide hN1
  generalize stepM begunM 0 4 = N at *
  go_enter Tryz.func6, Tryz.ntmps6
  go_wp2_with fail
  refine (hAw.out _).mono ?_
  (rintro e Wq ⟨rfl, hb⟩; have HSq := hide (HS.out.on hb); clear HS hb; replace HS := HSq; clear HSq)
  clear hAw
  go_wp2_with fail
  refine (hB.out _).mono ?_
  (rintro e Wq ⟨A1, rfl, hO, hb⟩; have HSq := hide (HS.out.push hb (machI (fun k => _) A1 _) (machI_loc _ _ _) hO fun k hk => hk); generalize (fun k => _) = D1 at HSq; clear HS hb hO; replace HS := HSq; clear HSq)
  go_upto_region 5 with (first | ((with_reducible refine isList ?_); first | (refine st_alloc HS _ rfl rfl zeroML zeroM ?_; clear HS; intro W b6 HS) | (refine st_storeA HS 0 rfl _ _ _ rfl rfl rfl _ rfl rfl (by kernel_rfl) rfl ?_; clear HS; intro W HS)))
  replace HS : Hid (St w W [blkI b6 (machL A1 N), machI D1 A1 N]) := HS
  obtain ⟨n1, g⟩ := MachOwn.sfact (show MachOwn D1 _ A1 N from HS.out.get 1 rfl) sN.out
  obtain ⟨bs1, hbs1, _⟩ := g (by decide)
  clear g
  obtain ⟨n0, g⟩ := MachOwn.wfact (show MachOwn D1 _ A1 N from HS.out.get 1 rfl) (g := 0) (m := 2) (by decide) lN.out
  obtain ⟨w0, e0, _⟩ := g (by decide)
  clear g
  obtain ⟨c9, _⟩ := MachOwn.scell (show MachOwn D1 _ A1 N from HS.out.get 1 rfl) (HS.out.blk 0 rfl) sN.out hbs1
  obtain ⟨c0, _⟩ := MachOwn.lcell (show MachOwn D1 _ A1 N from HS.out.get 1 rfl) (g := 0) (by decide) (HS.out.blk 0 rfl) lN.out e0
  replace n1 := hide n1; replace n0 := hide n0; replace hbs1 := hide hbs1; replace e0 := hide e0
  go_upto_region 24 with fail
  clear c9 c0
  have hk1 : 0 < A1.s.n := by have := n1.out; omega
  have i1 : (0 : Int) < (A1.s.n : Int) := by omega
  replace hbs1 := hbs1.out
  go_upto_region 39 with (first | ((with_reducible refine isList ?_); first | (refine st_load1 HS 0 rfl _ _ rfl _ rfl rfl (by decide +kernel) rfl ?_) | (refine st_lit_2_3 HS _ 68 _ _ rfl rfl Tryz.underlying57 Tryz.infoT rfl rfl ?_; clear HS; intro W bl HS) | (refine st_storeL HS 2 0 rfl 2 (by decide) rfl (by decide) hk1 hbs1 _ _ _ rfl _ rfl rfl rfl rfl (by decide +kernel) ?_; clear HS; intro W HS)))
  clear hbs1 i1 hk1
  replace HS : Hid (St w W [blkI b6 (machL (A1.setQ 0 ((A1.q 0).setL 2 ⟨some ⟨bl, 0, none⟩, 2, 2⟩)) (N.setS 0 ((N.at 0).setL 2 [0, 0, 0, 0, 0, 0]))), machI (fun k => D1 k ∨ k = bl) (A1.setQ 0 ((A1.q 0).setL 2 ⟨some ⟨bl, 0, none⟩, 2, 2⟩)) (N.setS 0 ((N.at 0).setL 2 [0, 0, 0, 0, 0, 0]))]) := hide (HS.out.sel [1, 2] (by decide) rfl)
  rw [← hN1.out] at HS
  generalize (fun k => D1 k ∨ k = bl) = Dx at HS
  generalize A1.setQ 0 ((A1.q 0).setL 2 ⟨some ⟨bl, 0, none⟩, 2, 2⟩) = Ax at HS
  replace HS : Hid (St w _ [blkI b6 (machL Ax N1), machI Dx Ax N1]) := HS
  go_wp2_with (first | ((with_reducible refine isList ?_); first | (refine st_loadA HS 0 rfl _ _ rfl rfl rfl (by decide +kernel) (by kernel_rfl) ?_)))
  refine (hT.out _ _ (MachOwn.is (show MachOwn Dx _ Ax N1 from HS.out.get 1 rfl))).mono ?_
  (rintro e Wq ⟨A2, rfl, hO, hb⟩; have HSq := hide (HS.out.push hb (machI (fun k => _) A2 _) (machI_loc _ _ _) hO fun k hk => hk); generalize (fun k => _) = D2 at HSq; clear HS hb hO; replace HS := HSq; clear HSq)
  clear hT
  go_wp2_with (first | ((with_reducible refine isList ?_); first | (refine st_alloc HS _ rfl rfl zeroML zeroM ?_; clear HS; intro W b7 HS) | (refine st_storeA HS 0 rfl _ _ _ rfl rfl rfl _ rfl rfl (by kernel_rfl) rfl ?_; clear HS; intro W HS)))
  refine (hB.out _).mono ?_
  (rintro e Wq ⟨A3, rfl, hO, hb⟩; have HSq := hide (HS.out.push hb (machI (fun k => _) A3 _) (machI_loc _ _ _) hO fun k hk => hk); generalize (fun k => _) = D3 at HSq; clear HS hb hO; replace HS := HSq; clear HSq)
  go_wp2_with fail
  refine (hZ.out A3 _ (MachOwn.is (show MachOwn D3 _ A3 N from HS.out.get 0 rfl))).mono ?_
  (rintro e Wq ⟨rfl, hb⟩; have HSq := hide (HS.out.on hb); clear HS hb; replace HS := HSq; clear HSq)
  go_wp2_with (first | ((with_reducible refine isList ?_); first | (refine st_loadA HS 3 rfl _ _ rfl rfl rfl (by decide +kernel) (by kernel_rfl) ?_)))
  refine (hY.out _ _ (MachOwn.is (show MachOwn Dx _ Ax N1 from HS.out.get 4 rfl))).mono ?_
  (rintro e Wq ⟨rfl, hb⟩; have HSq := hide (HS.out.on hb); clear HS hb; replace HS := HSq; clear HSq)
  go_wp2_with (go_at_call 21; refine (num_any _ _).mono ?_; rintro e w' ⟨rfl, rfl⟩)
  go_ret
  exact ⟨rfl, HS.out.below⟩
set_option maxRecDepth 100000 in
set_option maxHeartbeats 4000000 in
theorem machSessions_8 (a0 a1 r : Int) (w : World) (hd : bits .and .i64 a1 1023 = r) (r0 : 0 ≤ r) (r1 : r ≤ 1023) (hp : (IntKind.u64.wrap a0).tmod 16 = 8) :
    Calls Tryz.prog 6 #[.int .i64 a0, .int .i64 a1] w fun e w' => e = .returned (.bool true) ∧ Below w.heap.size w w' := by
  have HS := hide (St.refl w)
  have hAw := hide fun (W : World) => awake12_any W
  have hB := hide fun (W : World) => stepped12_any 0 4 (by decide) W
  have sN : Hid ((stepM begunM 0 4).sess.length = 2) := by show _ = 2; decide +kernel
  have lN : Hid (((stepM begunM 0 4).lv 0).length = 2 * 3) := by show _ = _; decide +kernel
  have cN : Hid ((stepM begunM 0 4).ceil = 9) := by show _ = _; decide +kernel
  have hZ := hide fun (A : MacM) (W : World) (h : MachIs W A (stepM begunM 0 4)) => gmachMay_any A (stepM begunM 0 4) W h
  rw [show machMay (stepM begunM 0 4) = true by decide +kernel] at hZ
  obtain ⟨N1, hN1⟩ : ∃ N1, N1 = (stepM begunM 0 4).doN 0 9 (1 + (1 + r)) := ⟨_, rfl⟩
  have hMay : machMay N1 = false := by
    rw [hN1]
    exact (may_num (by decide +kernel) (by decide +kernel) (by decide) fun s ok e => by have h := ok.at_; rw [e] at h; have h2 := h.2; rw [setN_tn, show ((stepM begunM 0 4).at 0).tn = 1 by decide +kernel] at h2; omega)
  have hT := hide fun (A : MacM) (W : World) (h : MachIs W A N1) => gtelling_any A N1 0 6 0 W h
  rw [telling_not hMay] at hT
  have hY := hide fun (A : MacM) (W : World) (h : MachIs W A N1) => gmachMay_any A N1 W h
  rw [hMay] at hY
  clear hMay
  replace hN1 := hide hN1
  generalize stepM begunM 0 4 = N at *
  go_enter Tryz.func6, Tryz.ntmps6
  go_wp2_with fail
  refine (hAw.out _).mono ?_
  (rintro e Wq ⟨rfl, hb⟩; have HSq := hide (HS.out.on hb); clear HS hb; replace HS := HSq; clear HSq)
  clear hAw
  go_wp2_with fail
  refine (hB.out _).mono ?_
  (rintro e Wq ⟨A1, rfl, hO, hb⟩; have HSq := hide (HS.out.push hb (machI (fun k => _) A1 _) (machI_loc _ _ _) hO fun k hk => hk); generalize (fun k => _) = D1 at HSq; clear HS hb hO; replace HS := HSq; clear HSq)
  go_upto_region 5 with (first | ((with_reducible refine isList ?_); first | (refine st_alloc HS _ rfl rfl zeroML zeroM ?_; clear HS; intro W b6 HS) | (refine st_storeA HS 0 rfl _ _ _ rfl rfl rfl _ rfl rfl (by kernel_rfl) rfl ?_; clear HS; intro W HS)))
  replace HS : Hid (St w W [blkI b6 (machL A1 N), machI D1 A1 N]) := HS
  obtain ⟨n1, g⟩ := MachOwn.sfact (show MachOwn D1 _ A1 N from HS.out.get 1 rfl) sN.out
  obtain ⟨bs1, hbs1, _⟩ := g (by decide)
  clear g
  obtain ⟨n0, g⟩ := MachOwn.wfact (show MachOwn D1 _ A1 N from HS.out.get 1 rfl) (g := 0) (m := 2) (by decide) lN.out
  obtain ⟨w0, e0, _⟩ := g (by decide)
  clear g
  obtain ⟨c9, _⟩ := MachOwn.scell (show MachOwn D1 _ A1 N from HS.out.get 1 rfl) (HS.out.blk 0 rfl) sN.out hbs1
  obtain ⟨c0, _⟩ := MachOwn.lcell (show MachOwn D1 _ A1 N from HS.out.get 1 rfl) (g := 0) (by decide) (HS.out.blk 0 rfl) lN.out e0
  replace n1 := hide n1; replace n0 := hide n0; replace hbs1 := hide hbs1; replace e0 := hide e0
  have v0 : IntKind.i64.wrap (1 + (1 + r)) = (1 + (1 + r)) := IntWalk.i64_in _ ⟨by omega, by omega⟩
  go_upto_region 26 with fail
  clear c9 c0
  have hk1 : 0 < A1.s.n := by have := n1.out; omega
  have i1 : (0 : Int) < (A1.s.n : Int) := by omega
  replace hbs1 := hbs1.out
  go_upto_region 39 with (first | ((with_reducible refine isList ?_); first | (refine st_load1 HS 0 rfl _ _ rfl _ rfl rfl (by decide +kernel) rfl ?_) | (refine st_storeN HS 1 rfl (k := 0) hk1 hbs1 9 (by decide) _ _ _ rfl _ rfl rfl rfl rfl (by decide +kernel) ?_; clear HS; intro W HS)))
  clear hbs1 i1
  replace HS : Hid (St w W [blkI b6 (machL A1 (N.doN 0 9 (1 + (1 + r)))), machI D1 A1 (N.doN 0 9 (1 + (1 + r)))]) := HS
  rw [← hN1.out] at HS
  replace HS : Hid (St w _ [blkI b6 (machL A1 N1), machI D1 A1 N1]) := HS
  go_wp2_with (first | ((with_reducible refine isList ?_); first | (refine st_loadA HS 0 rfl _ _ rfl rfl rfl (by decide +kernel) (by kernel_rfl) ?_)))
  refine (hT.out _ _ (MachOwn.is (show MachOwn D1 _ A1 N1 from HS.out.get 1 rfl))).mono ?_
  (rintro e Wq ⟨A2, rfl, hO, hb⟩; have HSq := hide (HS.out.push hb (machI (fun k => _) A2 _) (machI_loc _ _ _) hO fun k hk => hk); generalize (fun k => _) = D2 at HSq; clear HS hb hO; replace HS := HSq; clear HSq)
  clear hT
  go_wp2_with (first | ((with_reducible refine isList ?_); first | (refine st_alloc HS _ rfl rfl zeroML zeroM ?_; clear HS; intro W b7 HS) | (refine st_storeA HS 0 rfl _ _ _ rfl rfl rfl _ rfl rfl (by kernel_rfl) rfl ?_; clear HS; intro W HS)))
  refine (hB.out _).mono ?_
  (rintro e Wq ⟨A3, rfl, hO, hb⟩; have HSq := hide (HS.out.push hb (machI (fun k => _) A3 _) (machI_loc _ _ _) hO fun k hk => hk); generalize (fun k => _) = D3 at HSq; clear HS hb hO; replace HS := HSq; clear HSq)
  go_wp2_with fail
  refine (hZ.out A3 _ (MachOwn.is (show MachOwn D3 _ A3 N from HS.out.get 0 rfl))).mono ?_
  (rintro e Wq ⟨rfl, hb⟩; have HSq := hide (HS.out.on hb); clear HS hb; replace HS := HSq; clear HSq)
  go_wp2_with (first | ((with_reducible refine isList ?_); first | (refine st_loadA HS 3 rfl _ _ rfl rfl rfl (by decide +kernel) (by kernel_rfl) ?_)))
  refine (hY.out _ _ (MachOwn.is (show MachOwn D1 _ A1 N1 from HS.out.get 4 rfl))).mono ?_
  (rintro e Wq ⟨rfl, hb⟩; have HSq := hide (HS.out.on hb); clear HS hb; replace HS := HSq; clear HSq)
  go_wp2_with (go_at_call 21; refine (num_any _ _).mono ?_; rintro e w' ⟨rfl, rfl⟩)
  go_ret
  exact ⟨rfl, HS.out.below⟩
set_option maxRecDepth 100000 in
set_option maxHeartbeats 4000000 in
theorem machSessions_9 (a0 a1 r : Int) (w : World) (hd : bits .and .i64 a1 1023 = r) (r0 : 0 ≤ r) (r1 : r ≤ 1023) (hp : (IntKind.u64.wrap a0).tmod 16 = 9) :
    Calls Tryz.prog 6 #[.int .i64 a0, .int .i64 a1] w fun e w' => e = .returned (.bool true) ∧ Below w.heap.size w w' := by
  have HS := hide (St.refl w)
  have hAw := hide fun (W : World) => awake12_any W
  have hB := hide fun (W : World) => stepped12_any 0 4 (by decide) W
  have sN : Hid ((stepM begunM 0 4).sess.length = 2) := by show _ = 2; decide +kernel
  have lN : Hid (((stepM begunM 0 4).lv 0).length = 2 * 3) := by show _ = _; decide +kernel
  have cN : Hid ((stepM begunM 0 4).ceil = 9) := by show _ = _; decide +kernel
  have hZ := hide fun (A : MacM) (W : World) (h : MachIs W A (stepM begunM 0 4)) => gmachMay_any A (stepM begunM 0 4) W h
  rw [show machMay (stepM begunM 0 4) = true by decide +kernel] at hZ
  obtain ⟨N1, hN1⟩ : ∃ N1, N1 = (stepM begunM 0 4).doN 0 10 (65535 + (1 + r)) := ⟨_, rfl⟩
  have hMay : machMay N1 = false := by
    rw [hN1]
    exact (may_num (by decide +kernel) (by decide +kernel) (by decide) fun s ok e => by have := ok.stamp; rw [e] at this; omega)
  have hT := hide fun (A : MacM) (W : World) (h : MachIs W A N1) => gtelling_any A N1 0 6 0 W h
  rw [telling_not hMay] at hT
  have hY := hide fun (A : MacM) (W : World) (h : MachIs W A N1) => gmachMay_any A N1 W h
  rw [hMay] at hY
  clear hMay
  replace hN1 := hide hN1
  generalize stepM begunM 0 4 = N at *
  go_enter Tryz.func6, Tryz.ntmps6
  go_wp2_with fail
  refine (hAw.out _).mono ?_
  (rintro e Wq ⟨rfl, hb⟩; have HSq := hide (HS.out.on hb); clear HS hb; replace HS := HSq; clear HSq)
  clear hAw
  go_wp2_with fail
  refine (hB.out _).mono ?_
  (rintro e Wq ⟨A1, rfl, hO, hb⟩; have HSq := hide (HS.out.push hb (machI (fun k => _) A1 _) (machI_loc _ _ _) hO fun k hk => hk); generalize (fun k => _) = D1 at HSq; clear HS hb hO; replace HS := HSq; clear HSq)
  go_upto_region 5 with (first | ((with_reducible refine isList ?_); first | (refine st_alloc HS _ rfl rfl zeroML zeroM ?_; clear HS; intro W b6 HS) | (refine st_storeA HS 0 rfl _ _ _ rfl rfl rfl _ rfl rfl (by kernel_rfl) rfl ?_; clear HS; intro W HS)))
  replace HS : Hid (St w W [blkI b6 (machL A1 N), machI D1 A1 N]) := HS
  obtain ⟨n1, g⟩ := MachOwn.sfact (show MachOwn D1 _ A1 N from HS.out.get 1 rfl) sN.out
  obtain ⟨bs1, hbs1, _⟩ := g (by decide)
  clear g
  obtain ⟨n0, g⟩ := MachOwn.wfact (show MachOwn D1 _ A1 N from HS.out.get 1 rfl) (g := 0) (m := 2) (by decide) lN.out
  obtain ⟨w0, e0, _⟩ := g (by decide)
  clear g
  obtain ⟨c9, _⟩ := MachOwn.scell (show MachOwn D1 _ A1 N from HS.out.get 1 rfl) (HS.out.blk 0 rfl) sN.out hbs1
  obtain ⟨c0, _⟩ := MachOwn.lcell (show MachOwn D1 _ A1 N from HS.out.get 1 rfl) (g := 0) (by decide) (HS.out.blk 0 rfl) lN.out e0
  replace n1 := hide n1; replace n0 := hide n0; replace hbs1 := hide hbs1; replace e0 := hide e0
  have v0 : IntKind.i64.wrap (65535 + (1 + r)) = (65535 + (1 + r)) := IntWalk.i64_in _ ⟨by omega, by omega⟩
  go_upto_region 28 with fail
  clear c9 c0
  have hk1 : 0 < A1.s.n := by have := n1.out; omega
  have i1 : (0 : Int) < (A1.s.n : Int) := by omega
  replace hbs1 := hbs1.out
  go_upto_region 39 with (first | ((with_reducible refine isList ?_); first | (refine st_load1 HS 0 rfl _ _ rfl _ rfl rfl (by decide +kernel) rfl ?_) | (refine st_storeN HS 1 rfl (k := 0) hk1 hbs1 10 (by decide) _ _ _ rfl _ rfl rfl rfl rfl (by decide +kernel) ?_; clear HS; intro W HS)))
  clear hbs1 i1
  replace HS : Hid (St w W [blkI b6 (machL A1 (N.doN 0 10 (65535 + (1 + r)))), machI D1 A1 (N.doN 0 10 (65535 + (1 + r)))]) := HS
  rw [← hN1.out] at HS
  replace HS : Hid (St w _ [blkI b6 (machL A1 N1), machI D1 A1 N1]) := HS
  go_wp2_with (first | ((with_reducible refine isList ?_); first | (refine st_loadA HS 0 rfl _ _ rfl rfl rfl (by decide +kernel) (by kernel_rfl) ?_)))
  refine (hT.out _ _ (MachOwn.is (show MachOwn D1 _ A1 N1 from HS.out.get 1 rfl))).mono ?_
  (rintro e Wq ⟨A2, rfl, hO, hb⟩; have HSq := hide (HS.out.push hb (machI (fun k => _) A2 _) (machI_loc _ _ _) hO fun k hk => hk); generalize (fun k => _) = D2 at HSq; clear HS hb hO; replace HS := HSq; clear HSq)
  clear hT
  go_wp2_with (first | ((with_reducible refine isList ?_); first | (refine st_alloc HS _ rfl rfl zeroML zeroM ?_; clear HS; intro W b7 HS) | (refine st_storeA HS 0 rfl _ _ _ rfl rfl rfl _ rfl rfl (by kernel_rfl) rfl ?_; clear HS; intro W HS)))
  refine (hB.out _).mono ?_
  (rintro e Wq ⟨A3, rfl, hO, hb⟩; have HSq := hide (HS.out.push hb (machI (fun k => _) A3 _) (machI_loc _ _ _) hO fun k hk => hk); generalize (fun k => _) = D3 at HSq; clear HS hb hO; replace HS := HSq; clear HSq)
  go_wp2_with fail
  refine (hZ.out A3 _ (MachOwn.is (show MachOwn D3 _ A3 N from HS.out.get 0 rfl))).mono ?_
  (rintro e Wq ⟨rfl, hb⟩; have HSq := hide (HS.out.on hb); clear HS hb; replace HS := HSq; clear HSq)
  go_wp2_with (first | ((with_reducible refine isList ?_); first | (refine st_loadA HS 3 rfl _ _ rfl rfl rfl (by decide +kernel) (by kernel_rfl) ?_)))
  refine (hY.out _ _ (MachOwn.is (show MachOwn D1 _ A1 N1 from HS.out.get 4 rfl))).mono ?_
  (rintro e Wq ⟨rfl, hb⟩; have HSq := hide (HS.out.on hb); clear HS hb; replace HS := HSq; clear HSq)
  go_wp2_with (go_at_call 21; refine (num_any _ _).mono ?_; rintro e w' ⟨rfl, rfl⟩)
  go_ret
  exact ⟨rfl, HS.out.below⟩
set_option maxRecDepth 100000 in
set_option maxHeartbeats 4000000 in
theorem machSessions_10 (a0 a1 r : Int) (w : World) (hd : bits .and .i64 a1 1023 = r) (r0 : 0 ≤ r) (r1 : r ≤ 1023) (hp : (IntKind.u64.wrap a0).tmod 16 = 10) :
    Calls Tryz.prog 6 #[.int .i64 a0, .int .i64 a1] w fun e w' => e = .returned (.bool true) ∧ Below w.heap.size w w' := by
  have HS := hide (St.refl w)
  have hAw := hide fun (W : World) => awake12_any W
  have hB := hide fun (W : World) => stepped12_any 0 4 (by decide) W
  have sN : Hid ((stepM begunM 0 4).sess.length = 2) := by show _ = 2; decide +kernel
  have lN : Hid (((stepM begunM 0 4).lv 0).length = 2 * 3) := by show _ = _; decide +kernel
  have cN : Hid ((stepM begunM 0 4).ceil = 9) := by show _ = _; decide +kernel
  have hZ := hide fun (A : MacM) (W : World) (h : MachIs W A (stepM begunM 0 4)) => gmachMay_any A (stepM begunM 0 4) W h
  rw [show machMay (stepM begunM 0 4) = true by decide +kernel] at hZ
  obtain ⟨N1, hN1⟩ : ∃ N1, N1 = (stepM begunM 0 4).doN 0 11 (-(1 + r)) := ⟨_, rfl⟩
  have hMay : machMay N1 = false := by
    rw [hN1]
    exact (may_num (by decide +kernel) (by decide +kernel) (by decide) fun s ok e => by have := ok.tries; rw [e] at this; omega)
  have hT := hide fun (A : MacM) (W : World) (h : MachIs W A N1) => gtelling_any A N1 0 6 0 W h
  rw [telling_not hMay] at hT
  have hY := hide fun (A : MacM) (W : World) (h : MachIs W A N1) => gmachMay_any A N1 W h
  rw [hMay] at hY
  clear hMay
  replace hN1 := hide hN1
  generalize stepM begunM 0 4 = N at *
  go_enter Tryz.func6, Tryz.ntmps6
  go_wp2_with fail
  refine (hAw.out _).mono ?_
  (rintro e Wq ⟨rfl, hb⟩; have HSq := hide (HS.out.on hb); clear HS hb; replace HS := HSq; clear HSq)
  clear hAw
  go_wp2_with fail
  refine (hB.out _).mono ?_
  (rintro e Wq ⟨A1, rfl, hO, hb⟩; have HSq := hide (HS.out.push hb (machI (fun k => _) A1 _) (machI_loc _ _ _) hO fun k hk => hk); generalize (fun k => _) = D1 at HSq; clear HS hb hO; replace HS := HSq; clear HSq)
  go_upto_region 5 with (first | ((with_reducible refine isList ?_); first | (refine st_alloc HS _ rfl rfl zeroML zeroM ?_; clear HS; intro W b6 HS) | (refine st_storeA HS 0 rfl _ _ _ rfl rfl rfl _ rfl rfl (by kernel_rfl) rfl ?_; clear HS; intro W HS)))
  replace HS : Hid (St w W [blkI b6 (machL A1 N), machI D1 A1 N]) := HS
  obtain ⟨n1, g⟩ := MachOwn.sfact (show MachOwn D1 _ A1 N from HS.out.get 1 rfl) sN.out
  obtain ⟨bs1, hbs1, _⟩ := g (by decide)
  clear g
  obtain ⟨n0, g⟩ := MachOwn.wfact (show MachOwn D1 _ A1 N from HS.out.get 1 rfl) (g := 0) (m := 2) (by decide) lN.out
  obtain ⟨w0, e0, _⟩ := g (by decide)
  clear g
  obtain ⟨c9, _⟩ := MachOwn.scell (show MachOwn D1 _ A1 N from HS.out.get 1 rfl) (HS.out.blk 0 rfl) sN.out hbs1
  obtain ⟨c0, _⟩ := MachOwn.lcell (show MachOwn D1 _ A1 N from HS.out.get 1 rfl) (g := 0) (by decide) (HS.out.blk 0 rfl) lN.out e0
  replace n1 := hide n1; replace n0 := hide n0; replace hbs1 := hide hbs1; replace e0 := hide e0
  have v0 : IntKind.i64.wrap (-(1 + r)) = (-(1 + r)) := IntWalk.i64_in _ ⟨by omega, by omega⟩
  go_upto_region 30 with fail
  clear c9 c0
  have hk1 : 0 < A1.s.n := by have := n1.out; omega
  have i1 : (0 : Int) < (A1.s.n : Int) := by omega
  replace hbs1 := hbs1.out
  go_upto_region 39 with (first | ((with_reducible refine isList ?_); first | (refine st_load1 HS 0 rfl _ _ rfl _ rfl rfl (by decide +kernel) rfl ?_) | (refine st_storeN HS 1 rfl (k := 0) hk1 hbs1 11 (by decide) _ _ _ rfl _ rfl rfl rfl rfl (by decide +kernel) ?_; clear HS; intro W HS)))
  clear hbs1 i1
  replace HS : Hid (St w W [blkI b6 (machL A1 (N.doN 0 11 (-(1 + r)))), machI D1 A1 (N.doN 0 11 (-(1 + r)))]) := HS
  rw [← hN1.out] at HS
  replace HS : Hid (St w _ [blkI b6 (machL A1 N1), machI D1 A1 N1]) := HS
  go_wp2_with (first | ((with_reducible refine isList ?_); first | (refine st_loadA HS 0 rfl _ _ rfl rfl rfl (by decide +kernel) (by kernel_rfl) ?_)))
  refine (hT.out _ _ (MachOwn.is (show MachOwn D1 _ A1 N1 from HS.out.get 1 rfl))).mono ?_
  (rintro e Wq ⟨A2, rfl, hO, hb⟩; have HSq := hide (HS.out.push hb (machI (fun k => _) A2 _) (machI_loc _ _ _) hO fun k hk => hk); generalize (fun k => _) = D2 at HSq; clear HS hb hO; replace HS := HSq; clear HSq)
  clear hT
  go_wp2_with (first | ((with_reducible refine isList ?_); first | (refine st_alloc HS _ rfl rfl zeroML zeroM ?_; clear HS; intro W b7 HS) | (refine st_storeA HS 0 rfl _ _ _ rfl rfl rfl _ rfl rfl (by kernel_rfl) rfl ?_; clear HS; intro W HS)))
  refine (hB.out _).mono ?_
  (rintro e Wq ⟨A3, rfl, hO, hb⟩; have HSq := hide (HS.out.push hb (machI (fun k => _) A3 _) (machI_loc _ _ _) hO fun k hk => hk); generalize (fun k => _) = D3 at HSq; clear HS hb hO; replace HS := HSq; clear HSq)
  go_wp2_with fail
  refine (hZ.out A3 _ (MachOwn.is (show MachOwn D3 _ A3 N from HS.out.get 0 rfl))).mono ?_
  (rintro e Wq ⟨rfl, hb⟩; have HSq := hide (HS.out.on hb); clear HS hb; replace HS := HSq; clear HSq)
  go_wp2_with (first | ((with_reducible refine isList ?_); first | (refine st_loadA HS 3 rfl _ _ rfl rfl rfl (by decide +kernel) (by kernel_rfl) ?_)))
  refine (hY.out _ _ (MachOwn.is (show MachOwn D1 _ A1 N1 from HS.out.get 4 rfl))).mono ?_
  (rintro e Wq ⟨rfl, hb⟩; have HSq := hide (HS.out.on hb); clear HS hb; replace HS := HSq; clear HSq)
  go_wp2_with (go_at_call 21; refine (num_any _ _).mono ?_; rintro e w' ⟨rfl, rfl⟩)
  go_ret
  exact ⟨rfl, HS.out.below⟩
set_option maxRecDepth 100000 in
set_option maxHeartbeats 4000000 in
theorem machSessions_11 (a0 a1 r : Int) (w : World) (hd : bits .and .i64 a1 1023 = r) (r0 : 0 ≤ r) (r1 : r ≤ 1023) (hp : (IntKind.u64.wrap a0).tmod 16 = 11) :
    Calls Tryz.prog 6 #[.int .i64 a0, .int .i64 a1] w fun e w' => e = .returned (.bool true) ∧ Below w.heap.size w w' := by
  have HS := hide (St.refl w)
  have hAw := hide fun (W : World) => awake12_any W
  have hB := hide fun (W : World) => stepped12_any 0 4 (by decide) W
  have sN : Hid ((stepM begunM 0 4).sess.length = 2) := by show _ = 2; decide +kernel
  have lN : Hid (((stepM begunM 0 4).lv 0).length = 2 * 3) := by show _ = _; decide +kernel
  have cN : Hid ((stepM begunM 0 4).ceil = 9) := by show _ = _; decide +kernel
  have hZ := hide fun (A : MacM) (W : World) (h : MachIs W A (stepM begunM 0 4)) => gmachMay_any A (stepM begunM 0 4) W h
  rw [show machMay (stepM begunM 0 4) = true by decide +kernel] at hZ
  obtain ⟨N1, hN1⟩ : ∃ N1, N1 = (stepM begunM 0 4).doN 0 12 (5 + (1 + r)) := ⟨_, rfl⟩
  have hMay : machMay N1 = false := by
    rw [hN1]
    exact (may_num (by decide +kernel) (by decide +kernel) (by decide) fun s ok e => by have := ok.result; rw [e] at this; omega)
  have hT := hide fun (A : MacM) (W : World) (h : MachIs W A N1) => gtelling_any A N1 0 6 0 W h
  rw [telling_not hMay] at hT
  have hY := hide fun (A : MacM) (W : World) (h : MachIs W A N1) => gmachMay_any A N1 W h
  rw [hMay] at hY
  clear hMay
  replace hN1 := hide hN1
  generalize stepM begunM 0 4 = N at *
  go_enter Tryz.func6, Tryz.ntmps6
  go_wp2_with fail
  refine (hAw.out _).mono ?_
  (rintro e Wq ⟨rfl, hb⟩; have HSq := hide (HS.out.on hb); clear HS hb; replace HS := HSq; clear HSq)
  clear hAw
  go_wp2_with fail
  refine (hB.out _).mono ?_
  (rintro e Wq ⟨A1, rfl, hO, hb⟩; have HSq := hide (HS.out.push hb (machI (fun k => _) A1 _) (machI_loc _ _ _) hO fun k hk => hk); generalize (fun k => _) = D1 at HSq; clear HS hb hO; replace HS := HSq; clear HSq)
  go_upto_region 5 with (first | ((with_reducible refine isList ?_); first | (refine st_alloc HS _ rfl rfl zeroML zeroM ?_; clear HS; intro W b6 HS) | (refine st_storeA HS 0 rfl _ _ _ rfl rfl rfl _ rfl rfl (by kernel_rfl) rfl ?_; clear HS; intro W HS)))
  replace HS : Hid (St w W [blkI b6 (machL A1 N), machI D1 A1 N]) := HS
  obtain ⟨n1, g⟩ := MachOwn.sfact (show MachOwn D1 _ A1 N from HS.out.get 1 rfl) sN.out
  obtain ⟨bs1, hbs1, _⟩ := g (by decide)
  clear g
  obtain ⟨n0, g⟩ := MachOwn.wfact (show MachOwn D1 _ A1 N from HS.out.get 1 rfl) (g := 0) (m := 2) (by decide) lN.out
  obtain ⟨w0, e0, _⟩ := g (by decide)
  clear g
  obtain ⟨c9, _⟩ := MachOwn.scell (show MachOwn D1 _ A1 N from HS.out.get 1 rfl) (HS.out.blk 0 rfl) sN.out hbs1
  obtain ⟨c0, _⟩ := MachOwn.lcell (show MachOwn D1 _ A1 N from HS.out.get 1 rfl) (g := 0) (by decide) (HS.out.blk 0 rfl) lN.out e0
  replace n1 := hide n1; replace n0 := hide n0; replace hbs1 := hide hbs1; replace e0 := hide e0
  have v0 : IntKind.i64.wrap (5 + (1 + r)) = (5 + (1 + r)) := IntWalk.i64_in _ ⟨by omega, by omega⟩
  go_upto_region 32 with fail
  clear c9 c0
  have hk1 : 0 < A1.s.n := by have := n1.out; omega
  have i1 : (0 : Int) < (A1.s.n : Int) := by omega
  replace hbs1 := hbs1.out
  go_upto_region 39 with (first | ((with_reducible refine isList ?_); first | (refine st_load1 HS 0 rfl _ _ rfl _ rfl rfl (by decide +kernel) rfl ?_) | (refine st_storeN HS 1 rfl (k := 0) hk1 hbs1 12 (by decide) _ _ _ rfl _ rfl rfl rfl rfl (by decide +kernel) ?_; clear HS; intro W HS)))
  clear hbs1 i1
  replace HS : Hid (St w W [blkI b6 (machL A1 (N.doN 0 12 (5 + (1 + r)))), machI D1 A1 (N.doN 0 12 (5 + (1 + r)))]) := HS
  rw [← hN1.out] at HS
  replace HS : Hid (St w _ [blkI b6 (machL A1 N1), machI D1 A1 N1]) := HS
  go_wp2_with (first | ((with_reducible refine isList ?_); first | (refine st_loadA HS 0 rfl _ _ rfl rfl rfl (by decide +kernel) (by kernel_rfl) ?_)))
  refine (hT.out _ _ (MachOwn.is (show MachOwn D1 _ A1 N1 from HS.out.get 1 rfl))).mono ?_
  (rintro e Wq ⟨A2, rfl, hO, hb⟩; have HSq := hide (HS.out.push hb (machI (fun k => _) A2 _) (machI_loc _ _ _) hO fun k hk => hk); generalize (fun k => _) = D2 at HSq; clear HS hb hO; replace HS := HSq; clear HSq)
  clear hT
  go_wp2_with (first | ((with_reducible refine isList ?_); first | (refine st_alloc HS _ rfl rfl zeroML zeroM ?_; clear HS; intro W b7 HS) | (refine st_storeA HS 0 rfl _ _ _ rfl rfl rfl _ rfl rfl (by kernel_rfl) rfl ?_; clear HS; intro W HS)))
  refine (hB.out _).mono ?_
  (rintro e Wq ⟨A3, rfl, hO, hb⟩; have HSq := hide (HS.out.push hb (machI (fun k => _) A3 _) (machI_loc _ _ _) hO fun k hk => hk); generalize (fun k => _) = D3 at HSq; clear HS hb hO; replace HS := HSq; clear HSq)
  go_wp2_with fail
  refine (hZ.out A3 _ (MachOwn.is (show MachOwn D3 _ A3 N from HS.out.get 0 rfl))).mono ?_
  (rintro e Wq ⟨rfl, hb⟩; have HSq := hide (HS.out.on hb); clear HS hb; replace HS := HSq; clear HSq)
  go_wp2_with (first | ((with_reducible refine isList ?_); first | (refine st_loadA HS 3 rfl _ _ rfl rfl rfl (by decide +kernel) (by kernel_rfl) ?_)))
  refine (hY.out _ _ (MachOwn.is (show MachOwn D1 _ A1 N1 from HS.out.get 4 rfl))).mono ?_
  (rintro e Wq ⟨rfl, hb⟩; have HSq := hide (HS.out.on hb); clear HS hb; replace HS := HSq; clear HSq)
  go_wp2_with (go_at_call 21; refine (num_any _ _).mono ?_; rintro e w' ⟨rfl, rfl⟩)
  go_ret
  exact ⟨rfl, HS.out.below⟩
set_option maxRecDepth 100000 in
set_option maxHeartbeats 4000000 in
theorem machSessions_12 (a0 a1 r : Int) (w : World) (hd : bits .and .i64 a1 1023 = r) (r0 : 0 ≤ r) (r1 : r ≤ 1023) (hp : (IntKind.u64.wrap a0).tmod 16 = 12) :
    Calls Tryz.prog 6 #[.int .i64 a0, .int .i64 a1] w fun e w' => e = .returned (.bool true) ∧ Below w.heap.size w w' := by
  have HS := hide (St.refl w)
  have hAw := hide fun (W : World) => awake12_any W
  have hB := hide fun (W : World) => stepped12_any 0 4 (by decide) W
  have sN : Hid ((stepM begunM 0 4).sess.length = 2) := by show _ = 2; decide +kernel
  have lN : Hid (((stepM begunM 0 4).lv 0).length = 2 * 3) := by show _ = _; decide +kernel
  have cN : Hid ((stepM begunM 0 4).ceil = 9) := by show _ = _; decide +kernel
  have hZ := hide fun (A : MacM) (W : World) (h : MachIs W A (stepM begunM 0 4)) => gmachMay_any A (stepM begunM 0 4) W h
  rw [show machMay (stepM begunM 0 4) = true by decide +kernel] at hZ
  obtain ⟨N1, hN1⟩ : ∃ N1, N1 = (stepM begunM 0 4).doN 0 13 (255 + (1 + r)) := ⟨_, rfl⟩
  have hMay : machMay N1 = false := by
    rw [hN1]
    exact (may_num (by decide +kernel) (by decide +kernel) (by decide) fun s ok e => by have := ok.told; rw [e] at this; omega)
  have hT := hide fun (A : MacM) (W : World) (h : MachIs W A N1) => gtelling_any A N1 0 6 0 W h
  rw [telling_not hMay] at hT
  have hY := hide fun (A : MacM) (W : World) (h : MachIs W A N1) => gmachMay_any A N1 W h
  rw [hMay] at hY
  clear hMay
  replace hN1 := hide hN1
  generalize stepM begunM 0 4 = N at *
  go_enter Tryz.func6, Tryz.ntmps6
  go_wp2_with fail
  refine (hAw.out _).mono ?_
  (rintro e Wq ⟨rfl, hb⟩; have HSq := hide (HS.out.on hb); clear HS hb; replace HS := HSq; clear HSq)
  clear hAw
  go_wp2_with fail
  refine (hB.out _).mono ?_
  (rintro e Wq ⟨A1, rfl, hO, hb⟩; have HSq := hide (HS.out.push hb (machI (fun k => _) A1 _) (machI_loc _ _ _) hO fun k hk => hk); generalize (fun k => _) = D1 at HSq; clear HS hb hO; replace HS := HSq; clear HSq)
  go_upto_region 5 with (first | ((with_reducible refine isList ?_); first | (refine st_alloc HS _ rfl rfl zeroML zeroM ?_; clear HS; intro W b6 HS) | (refine st_storeA HS 0 rfl _ _ _ rfl rfl rfl _ rfl rfl (by kernel_rfl) rfl ?_; clear HS; intro W HS)))
  replace HS : Hid (St w W [blkI b6 (machL A1 N), machI D1 A1 N]) := HS
  obtain ⟨n1, g⟩ := MachOwn.sfact (show MachOwn D1 _ A1 N from HS.out.get 1 rfl) sN.out
  obtain ⟨bs1, hbs1, _⟩ := g (by decide)
  clear g
  obtain ⟨n0, g⟩ := MachOwn.wfact (show MachOwn D1 _ A1 N from HS.out.get 1 rfl) (g := 0) (m := 2) (by decide) lN.out
  obtain ⟨w0, e0, _⟩ := g (by decide)
  clear g
  obtain ⟨c9, _⟩ := MachOwn.scell (show MachOwn D1 _ A1 N from HS.out.get 1 rfl) (HS.out.blk 0 rfl) sN.out hbs1
  obtain ⟨c0, _⟩ := MachOwn.lcell (show MachOwn D1 _ A1 N from HS.out.get 1 rfl) (g := 0) (by decide) (HS.out.blk 0 rfl) lN.out e0
  replace n1 := hide n1; replace n0 := hide n0; replace hbs1 := hide hbs1; replace e0 := hide e0
  have v0 : IntKind.i64.wrap (255 + (1 + r)) = (255 + (1 + r)) := IntWalk.i64_in _ ⟨by omega, by omega⟩
  go_upto_region 34 with fail
  clear c9 c0
  have hk1 : 0 < A1.s.n := by have := n1.out; omega
  have i1 : (0 : Int) < (A1.s.n : Int) := by omega
  replace hbs1 := hbs1.out
  go_upto_region 39 with (first | ((with_reducible refine isList ?_); first | (refine st_load1 HS 0 rfl _ _ rfl _ rfl rfl (by decide +kernel) rfl ?_) | (refine st_storeN HS 1 rfl (k := 0) hk1 hbs1 13 (by decide) _ _ _ rfl _ rfl rfl rfl rfl (by decide +kernel) ?_; clear HS; intro W HS)))
  clear hbs1 i1
  replace HS : Hid (St w W [blkI b6 (machL A1 (N.doN 0 13 (255 + (1 + r)))), machI D1 A1 (N.doN 0 13 (255 + (1 + r)))]) := HS
  rw [← hN1.out] at HS
  replace HS : Hid (St w _ [blkI b6 (machL A1 N1), machI D1 A1 N1]) := HS
  go_wp2_with (first | ((with_reducible refine isList ?_); first | (refine st_loadA HS 0 rfl _ _ rfl rfl rfl (by decide +kernel) (by kernel_rfl) ?_)))
  refine (hT.out _ _ (MachOwn.is (show MachOwn D1 _ A1 N1 from HS.out.get 1 rfl))).mono ?_
  (rintro e Wq ⟨A2, rfl, hO, hb⟩; have HSq := hide (HS.out.push hb (machI (fun k => _) A2 _) (machI_loc _ _ _) hO fun k hk => hk); generalize (fun k => _) = D2 at HSq; clear HS hb hO; replace HS := HSq; clear HSq)
  clear hT
  go_wp2_with (first | ((with_reducible refine isList ?_); first | (refine st_alloc HS _ rfl rfl zeroML zeroM ?_; clear HS; intro W b7 HS) | (refine st_storeA HS 0 rfl _ _ _ rfl rfl rfl _ rfl rfl (by kernel_rfl) rfl ?_; clear HS; intro W HS)))
  refine (hB.out _).mono ?_
  (rintro e Wq ⟨A3, rfl, hO, hb⟩; have HSq := hide (HS.out.push hb (machI (fun k => _) A3 _) (machI_loc _ _ _) hO fun k hk => hk); generalize (fun k => _) = D3 at HSq; clear HS hb hO; replace HS := HSq; clear HSq)
  go_wp2_with fail
  refine (hZ.out A3 _ (MachOwn.is (show MachOwn D3 _ A3 N from HS.out.get 0 rfl))).mono ?_
  (rintro e Wq ⟨rfl, hb⟩; have HSq := hide (HS.out.on hb); clear HS hb; replace HS := HSq; clear HSq)
  go_wp2_with (first | ((with_reducible refine isList ?_); first | (refine st_loadA HS 3 rfl _ _ rfl rfl rfl (by decide +kernel) (by kernel_rfl) ?_)))
  refine (hY.out _ _ (MachOwn.is (show MachOwn D1 _ A1 N1 from HS.out.get 4 rfl))).mono ?_
  (rintro e Wq ⟨rfl, hb⟩; have HSq := hide (HS.out.on hb); clear HS hb; replace HS := HSq; clear HSq)
  go_wp2_with (go_at_call 21; refine (num_any _ _).mono ?_; rintro e w' ⟨rfl, rfl⟩)
  go_ret
  exact ⟨rfl, HS.out.below⟩
set_option maxRecDepth 100000 in
set_option maxHeartbeats 4000000 in
theorem machSessions_13 (a0 a1 r : Int) (w : World) (hd : bits .and .i64 a1 1023 = r) (r0 : 0 ≤ r) (r1 : r ≤ 1023) (hp : (IntKind.u64.wrap a0).tmod 16 = 13) :
    Calls Tryz.prog 6 #[.int .i64 a0, .int .i64 a1] w fun e w' => e = .returned (.bool true) ∧ Below w.heap.size w w' := by
  have HS := hide (St.refl w)
  have hAw := hide fun (W : World) => awake12_any W
  have hB := hide fun (W : World) => stepped12_any 0 4 (by decide) W
  have sN : Hid ((stepM begunM 0 4).sess.length = 2) := by show _ = 2; decide +kernel
  have lN : Hid (((stepM begunM 0 4).lv 0).length = 2 * 3) := by show _ = _; decide +kernel
  have cN : Hid ((stepM begunM 0 4).ceil = 9) := by show _ = _; decide +kernel
  have hZ := hide fun (A : MacM) (W : World) (h : MachIs W A (stepM begunM 0 4)) => gmachMay_any A (stepM begunM 0 4) W h
  rw [show machMay (stepM begunM 0 4) = true by decide +kernel] at hZ
  obtain ⟨N1, hN1⟩ : ∃ N1, N1 = { (stepM begunM 0 4) with trace := [0, 3 + (1 + r), 0, 0] } := ⟨_, rfl⟩
  have hMay : machMay N1 = false := by
    rw [hN1]
    exact (may_event (by show 0 < 4 / 4; decide) (upToV_not (.inr (by show (3 : Int) < 3 + (1 + r); omega))))
  have hT := hide fun (A : MacM) (W : World) (h : MachIs W A N1) => gtelling_any A N1 0 6 0 W h
  rw [telling_not hMay] at hT
  have hY := hide fun (A : MacM) (W : World) (h : MachIs W A N1) => gmachMay_any A N1 W h
  rw [hMay] at hY
  clear hMay
  replace hN1 := hide hN1
  generalize stepM begunM 0 4 = N at *
  go_enter Tryz.func6, Tryz.ntmps6
  go_wp2_with fail
  refine (hAw.out _).mono ?_
  (rintro e Wq ⟨rfl, hb⟩; have HSq := hide (HS.out.on hb); clear HS hb; replace HS := HSq; clear HSq)
  clear hAw
  go_wp2_with fail
  refine (hB.out _).mono ?_
  (rintro e Wq ⟨A1, rfl, hO, hb⟩; have HSq := hide (HS.out.push hb (machI (fun k => _) A1 _) (machI_loc _ _ _) hO fun k hk => hk); generalize (fun k => _) = D1 at HSq; clear HS hb hO; replace HS := HSq; clear HSq)
  go_upto_region 5 with (first | ((with_reducible refine isList ?_); first | (refine st_alloc HS _ rfl rfl zeroML zeroM ?_; clear HS; intro W b6 HS) | (refine st_storeA HS 0 rfl _ _ _ rfl rfl rfl _ rfl rfl (by kernel_rfl) rfl ?_; clear HS; intro W HS)))
  replace HS : Hid (St w W [blkI b6 (machL A1 N), machI D1 A1 N]) := HS
  obtain ⟨n1, g⟩ := MachOwn.sfact (show MachOwn D1 _ A1 N from HS.out.get 1 rfl) sN.out
  obtain ⟨bs1, hbs1, _⟩ := g (by decide)
  clear g
  obtain ⟨n0, g⟩ := MachOwn.wfact (show MachOwn D1 _ A1 N from HS.out.get 1 rfl) (g := 0) (m := 2) (by decide) lN.out
  obtain ⟨w0, e0, _⟩ := g (by decide)
  clear g
  obtain ⟨c9, _⟩ := MachOwn.scell (show MachOwn D1 _ A1 N from HS.out.get 1 rfl) (HS.out.blk 0 rfl) sN.out hbs1
  obtain ⟨c0, _⟩ := MachOwn.lcell (show MachOwn D1 _ A1 N from HS.out.get 1 rfl) (g := 0) (by decide) (HS.out.blk 0 rfl) lN.out e0
  replace n1 := hide n1; replace n0 := hide n0; replace hbs1 := hide hbs1; replace e0 := hide e0
  go_upto_region 36 with fail
  clear c9 c0
  have v0 : IntKind.i64.wrap (3 + (1 + r)) = 3 + (1 + r) := IntWalk.i64_in _ ⟨by omega, by omega⟩
  go_upto_region 39 with (first | ((with_reducible refine isList ?_); first | (refine st_lits_1_4 HS _ 70 _ rfl rfl Tryz.underlying32 Tryz.infoE rfl ?_; clear HS; intro W bl HS) | (refine st_store1 HS 1 rfl _ _ _ rfl _ rfl rfl rfl (by decide +kernel) rfl rfl ?_; clear HS; intro W HS)))
  replace HS := hide ((HS.out.withTr 2 0 rfl rfl (by decide)).sel [1, 2] (by decide) rfl)
  replace HS : Hid (St w W [blkI b6 (machL (A1.setE ⟨some ⟨bl, 0, none⟩, 1, 1⟩) { N with trace := [0, 3 + (1 + r), 0, 0] }), machI (fun k => D1 k ∨ k = bl) (A1.setE ⟨some ⟨bl, 0, none⟩, 1, 1⟩) { N with trace := [0, 3 + (1 + r), 0, 0] }]) := HS
  rw [← hN1.out] at HS
  generalize (fun k => D1 k ∨ k = bl) = Dx at HS
  generalize A1.setE ⟨some ⟨bl, 0, none⟩, 1, 1⟩ = Ax at HS
  replace HS : Hid (St w _ [blkI b6 (machL Ax N1), machI Dx Ax N1]) := HS
  go_wp2_with (first | ((with_reducible refine isList ?_); first | (refine st_loadA HS 0 rfl _ _ rfl rfl rfl (by decide +kernel) (by kernel_rfl) ?_)))
  refine (hT.out _ _ (MachOwn.is (show MachOwn Dx _ Ax N1 from HS.out.get 1 rfl))).mono ?_
  (rintro e Wq ⟨A2, rfl, hO, hb⟩; have HSq := hide (HS.out.push hb (machI (fun k => _) A2 _) (machI_loc _ _ _) hO fun k hk => hk); generalize (fun k => _) = D2 at HSq; clear HS hb hO; replace HS := HSq; clear HSq)
  clear hT
  go_wp2_with (first | ((with_reducible refine isList ?_); first | (refine st_alloc HS _ rfl rfl zeroML zeroM ?_; clear HS; intro W b7 HS) | (refine st_storeA HS 0 rfl _ _ _ rfl rfl rfl _ rfl rfl (by kernel_rfl) rfl ?_; clear HS; intro W HS)))
  refine (hB.out _).mono ?_
  (rintro e Wq ⟨A3, rfl, hO, hb⟩; have HSq := hide (HS.out.push hb (machI (fun k => _) A3 _) (machI_loc _ _ _) hO fun k hk => hk); generalize (fun k => _) = D3 at HSq; clear HS hb hO; replace HS := HSq; clear HSq)
  go_wp2_with fail
  refine (hZ.out A3 _ (MachOwn.is (show MachOwn D3 _ A3 N from HS.out.get 0 rfl))).mono ?_
  (rintro e Wq ⟨rfl, hb⟩; have HSq := hide (HS.out.on hb); clear HS hb; replace HS := HSq; clear HSq)
  go_wp2_with (first | ((with_reducible refine isList ?_); first | (refine st_loadA HS 3 rfl _ _ rfl rfl rfl (by decide +kernel) (by kernel_rfl) ?_)))
  refine (hY.out _ _ (MachOwn.is (show MachOwn Dx _ Ax N1 from HS.out.get 4 rfl))).mono ?_
  (rintro e Wq ⟨rfl, hb⟩; have HSq := hide (HS.out.on hb); clear HS hb; replace HS := HSq; clear HSq)
  go_wp2_with (go_at_call 21; refine (num_any _ _).mono ?_; rintro e w' ⟨rfl, rfl⟩)
  go_ret
  exact ⟨rfl, HS.out.below⟩
set_option maxRecDepth 100000 in
set_option maxHeartbeats 4000000 in
theorem machSessions_14 (a0 a1 r : Int) (w : World) (hd : bits .and .i64 a1 1023 = r) (r0 : 0 ≤ r) (r1 : r ≤ 1023) (hp : (IntKind.u64.wrap a0).tmod 16 = 14) :
    Calls Tryz.prog 6 #[.int .i64 a0, .int .i64 a1] w fun e w' => e = .returned (.bool true) ∧ Below w.heap.size w w' := by
  have HS := hide (St.refl w)
  have hAw := hide fun (W : World) => awake12_any W
  have hB := hide fun (W : World) => stepped12_any 0 4 (by decide) W
  have sN : Hid ((stepM begunM 0 4).sess.length = 2) := by show _ = 2; decide +kernel
  have lN : Hid (((stepM begunM 0 4).lv 0).length = 2 * 3) := by show _ = _; decide +kernel
  have cN : Hid ((stepM begunM 0 4).ceil = 9) := by show _ = _; decide +kernel
  have hZ := hide fun (A : MacM) (W : World) (h : MachIs W A (stepM begunM 0 4)) => gmachMay_any A (stepM begunM 0 4) W h
  rw [show machMay (stepM begunM 0 4) = true by decide +kernel] at hZ
  obtain ⟨N1, hN1⟩ : ∃ N1, N1 = { (stepM begunM 0 4) with trace := zerosL ((512 + (1 + r)).toNat * 4) } := ⟨_, rfl⟩
  have hMay : machMay N1 = false := by
    rw [hN1]
    exact (may_long (by show 512 < (zerosL ((512 + (1 + r)).toNat * 4)).length / 4; unfold zerosL; rw [List.length_replicate]; omega))
  have hT := hide fun (A : MacM) (W : World) (h : MachIs W A N1) => gtelling_any A N1 0 6 0 W h
  rw [telling_not hMay] at hT
  have hY := hide fun (A : MacM) (W : World) (h : MachIs W A N1) => gmachMay_any A N1 W h
  rw [hMay] at hY
  clear hMay
  replace hN1 := hide hN1
  generalize stepM begunM 0 4 = N at *
  go_enter Tryz.func6, Tryz.ntmps6
  go_wp2_with fail
  refine (hAw.out _).mono ?_
  (rintro e Wq ⟨rfl, hb⟩; have HSq := hide (HS.out.on hb); clear HS hb; replace HS := HSq; clear HSq)
  clear hAw
  go_wp2_with fail
  refine (hB.out _).mono ?_
  (rintro e Wq ⟨A1, rfl, hO, hb⟩; have HSq := hide (HS.out.push hb (machI (fun k => _) A1 _) (machI_loc _ _ _) hO fun k hk => hk); generalize (fun k => _) = D1 at HSq; clear HS hb hO; replace HS := HSq; clear HSq)
  go_upto_region 5 with (first | ((with_reducible refine isList ?_); first | (refine st_alloc HS _ rfl rfl zeroML zeroM ?_; clear HS; intro W b6 HS) | (refine st_storeA HS 0 rfl _ _ _ rfl rfl rfl _ rfl rfl (by kernel_rfl) rfl ?_; clear HS; intro W HS)))
  replace HS : Hid (St w W [blkI b6 (machL A1 N), machI D1 A1 N]) := HS
  obtain ⟨n1, g⟩ := MachOwn.sfact (show MachOwn D1 _ A1 N from HS.out.get 1 rfl) sN.out
  obtain ⟨bs1, hbs1, _⟩ := g (by decide)
  clear g
  obtain ⟨n0, g⟩ := MachOwn.wfact (show MachOwn D1 _ A1 N from HS.out.get 1 rfl) (g := 0) (m := 2) (by decide) lN.out
  obtain ⟨w0, e0, _⟩ := g (by decide)
  clear g
  obtain ⟨c9, _⟩ := MachOwn.scell (show MachOwn D1 _ A1 N from HS.out.get 1 rfl) (HS.out.blk 0 rfl) sN.out hbs1
  obtain ⟨c0, _⟩ := MachOwn.lcell (show MachOwn D1 _ A1 N from HS.out.get 1 rfl) (g := 0) (by decide) (HS.out.blk 0 rfl) lN.out e0
  replace n1 := hide n1; replace n0 := hide n0; replace hbs1 := hide hbs1; replace e0 := hide e0
  go_upto_region 38 with fail
  clear c9 c0
  obtain ⟨m, hm⟩ : ∃ m : Nat, m = (512 + (1 + r)).toNat := ⟨_, rfl⟩
  have v0 : IntKind.i64.wrap (512 + (1 + r)) = (m : Int) := by rw [hm, Int.toNat_of_nonneg (by omega)]; exact IntWalk.i64_in _ ⟨by omega, by omega⟩
  have m1 : m ≤ 100000 := by omega
  rw [← hm] at hN1
  clear hm
  go_upto_region 39 with (first | ((with_reducible refine isList ?_); first | (refine st_makeE HS _ _ rfl rfl m m1 rfl rfl ?_; clear HS; intro W D4 bl HS) | (refine st_store1 HS 1 rfl _ _ _ rfl _ rfl rfl rfl (by decide +kernel) rfl rfl ?_; clear HS; intro W HS)))
  replace HS := hide ((HS.out.withTr 2 0 rfl rfl (by decide)).sel [1, 2] (by decide) rfl)
  replace HS : Hid (St w W [blkI b6 (machL (A1.setE ⟨some ⟨bl, 0, none⟩, m, m⟩) { N with trace := zerosL (m * 4) }), machI (fun k => D1 k ∨ D4 k) (A1.setE ⟨some ⟨bl, 0, none⟩, m, m⟩) { N with trace := zerosL (m * 4) }]) := HS
  rw [← hN1.out] at HS
  generalize (fun k => D1 k ∨ D4 k) = Dx at HS
  generalize A1.setE ⟨some ⟨bl, 0, none⟩, m, m⟩ = Ax at HS
  replace HS : Hid (St w _ [blkI b6 (machL Ax N1), machI Dx Ax N1]) := HS
  go_wp2_with (first | ((with_reducible refine isList ?_); first | (refine st_loadA HS 0 rfl _ _ rfl rfl rfl (by decide +kernel) (by kernel_rfl) ?_)))
  refine (hT.out _ _ (MachOwn.is (show MachOwn Dx _ Ax N1 from HS.out.get 1 rfl))).mono ?_
  (rintro e Wq ⟨A2, rfl, hO, hb⟩; have HSq := hide (HS.out.push hb (machI (fun k => _) A2 _) (machI_loc _ _ _) hO fun k hk => hk); generalize (fun k => _) = D2 at HSq; clear HS hb hO; replace HS := HSq; clear HSq)
  clear hT
  go_wp2_with (first | ((with_reducible refine isList ?_); first | (refine st_alloc HS _ rfl rfl zeroML zeroM ?_; clear HS; intro W b7 HS) | (refine st_storeA HS 0 rfl _ _ _ rfl rfl rfl _ rfl rfl (by kernel_rfl) rfl ?_; clear HS; intro W HS)))
  refine (hB.out _).mono ?_
  (rintro e Wq ⟨A3, rfl, hO, hb⟩; have HSq := hide (HS.out.push hb (machI (fun k => _) A3 _) (machI_loc _ _ _) hO fun k hk => hk); generalize (fun k => _) = D3 at HSq; clear HS hb hO; replace HS := HSq; clear HSq)
  go_wp2_with fail
  refine (hZ.out A3 _ (MachOwn.is (show MachOwn D3 _ A3 N from HS.out.get 0 rfl))).mono ?_
  (rintro e Wq ⟨rfl, hb⟩; have HSq := hide (HS.out.on hb); clear HS hb; replace HS := HSq; clear HSq)
  go_wp2_with (first | ((with_reducible refine isList ?_); first | (refine st_loadA HS 3 rfl _ _ rfl rfl rfl (by decide +kernel) (by kernel_rfl) ?_)))
  refine (hY.out _ _ (MachOwn.is (show MachOwn Dx _ Ax N1 from HS.out.get 4 rfl))).mono ?_
  (rintro e Wq ⟨rfl, hb⟩; have HSq := hide (HS.out.on hb); clear HS hb; replace HS := HSq; clear HSq)
  go_wp2_with (go_at_call 21; refine (num_any _ _).mono ?_; rintro e w' ⟨rfl, rfl⟩)
  go_ret
  exact ⟨rfl, HS.out.below⟩
set_option maxRecDepth 100000 in
set_option maxHeartbeats 4000000 in
theorem machSessions_15 (a0 a1 r : Int) (w : World) (hd : bits .and .i64 a1 1023 = r) (r0 : 0 ≤ r) (r1 : r ≤ 1023) (hp : (IntKind.u64.wrap a0).tmod 16 = 15) :
    Calls Tryz.prog 6 #[.int .i64 a0, .int .i64 a1] w fun e w' => e = .returned (.bool true) ∧ Below w.heap.size w w' := by
  have HS := hide (St.refl w)
  have hAw := hide fun (W : World) => awake12_any W
  have hB := hide fun (W : World) => stepped12_any 0 4 (by decide) W
  have sN : Hid ((stepM begunM 0 4).sess.length = 2) := by show _ = 2; decide +kernel
  have lN : Hid (((stepM begunM 0 4).lv 0).length = 2 * 3) := by show _ = _; decide +kernel
  have cN : Hid ((stepM begunM 0 4).ceil = 9) := by show _ = _; decide +kernel
  have hZ := hide fun (A : MacM) (W : World) (h : MachIs W A (stepM begunM 0 4)) => gmachMay_any A (stepM begunM 0 4) W h
  rw [show machMay (stepM begunM 0 4) = true by decide +kernel] at hZ
  obtain ⟨N1, hN1⟩ : ∃ N1, N1 = (stepM begunM 0 4).setS 0 (((stepM begunM 0 4).at 0).setL 0 [2, 0, 2, 0, 5, 0, 0, 0, 5, 0, 0, 0]) := ⟨_, rfl⟩
  have hMay : machMay N1 = false := by
    rw [hN1]
    exact (by decide +kernel)
  have hT := hide fun (A : MacM) (W : World) (h : MachIs W A N1) => gtelling_any A N1 0 6 0 W h
  rw [telling_not hMay] at hT
  have hY := hide fun (A : MacM) (W : World) (h : MachIs W A N1) => gmachMay_any A N1 W h
  rw [hMay] at hY
  clear hMay
  replace hN1 := hide hN1
  generalize stepM begunM 0 4 = N at *
  go_enter Tryz.func6, Tryz.ntmps6
  go_wp2_with fail
  refine (hAw.out _).mono ?_
  (rintro e Wq ⟨rfl, hb⟩; have HSq := hide (HS.out.on hb); clear HS hb; replace HS := HSq; clear HSq)
  clear hAw
  go_wp2_with fail
  refine (hB.out _).mono ?_
  (rintro e Wq ⟨A1, rfl, hO, hb⟩; have HSq := hide (HS.out.push hb (machI (fun k => _) A1 _) (machI_loc _ _ _) hO fun k hk => hk); generalize (fun k => _) = D1 at HSq; clear HS hb hO; replace HS := HSq; clear HSq)
  go_upto_region 5 with (first | ((with_reducible refine isList ?_); first | (refine st_alloc HS _ rfl rfl zeroML zeroM ?_; clear HS; intro W b6 HS) | (refine st_storeA HS 0 rfl _ _ _ rfl rfl rfl _ rfl rfl (by kernel_rfl) rfl ?_; clear HS; intro W HS)))
  replace HS : Hid (St w W [blkI b6 (machL A1 N), machI D1 A1 N]) := HS
  obtain ⟨n1, g⟩ := MachOwn.sfact (show MachOwn D1 _ A1 N from HS.out.get 1 rfl) sN.out
  obtain ⟨bs1, hbs1, _⟩ := g (by decide)
  clear g
  obtain ⟨n0, g⟩ := MachOwn.wfact (show MachOwn D1 _ A1 N from HS.out.get 1 rfl) (g := 0) (m := 2) (by decide) lN.out
  obtain ⟨w0, e0, _⟩ := g (by decide)
  clear g
  obtain ⟨c9, _⟩ := MachOwn.scell (show MachOwn D1 _ A1 N from HS.out.get 1 rfl) (HS.out.blk 0 rfl) sN.out hbs1
  obtain ⟨c0, _⟩ := MachOwn.lcell (show MachOwn D1 _ A1 N from HS.out.get 1 rfl) (g := 0) (by decide) (HS.out.blk 0 rfl) lN.out e0
  replace n1 := hide n1; replace n0 := hide n0; replace hbs1 := hide hbs1; replace e0 := hide e0
  go_upto_region 8 with fail
  clear c9 c0
  have hk1 : 0 < A1.s.n := by have := n1.out; omega
  have i1 : (0 : Int) < (A1.s.n : Int) := by omega
  replace hbs1 := hbs1.out
  go_upto_region 39 with (first | ((with_reducible refine isList ?_); first | (refine st_load1 HS 0 rfl _ _ rfl _ rfl rfl (by decide +kernel) rfl ?_) | (refine st_lit_3_4 HS _ 62 _ _ _ rfl rfl Tryz.underlying55 Tryz.infoI rfl rfl rfl ?_; clear HS; intro W bl HS) | (refine st_storeL HS 2 0 rfl 0 (by decide) rfl (by decide) hk1 hbs1 _ _ _ rfl _ rfl rfl rfl rfl (by decide +kernel) ?_; clear HS; intro W HS)))
  clear hbs1 i1 hk1
  replace HS : Hid (St w W [blkI b6 (machL (A1.setQ 0 ((A1.q 0).setL 0 ⟨some ⟨bl, 0, none⟩, 3, 3⟩)) (N.setS 0 ((N.at 0).setL 0 [2, 0, 2, 0, 5, 0, 0, 0, 5, 0, 0, 0]))), machI (fun k => D1 k ∨ k = bl) (A1.setQ 0 ((A1.q 0).setL 0 ⟨some ⟨bl, 0, none⟩, 3, 3⟩)) (N.setS 0 ((N.at 0).setL 0 [2, 0, 2, 0, 5, 0, 0, 0, 5, 0, 0, 0]))]) := hide (HS.out.sel [1, 2] (by decide) rfl)
  rw [← hN1.out] at HS
  generalize (fun k => D1 k ∨ k = bl) = Dx at HS
  generalize A1.setQ 0 ((A1.q 0).setL 0 ⟨some ⟨bl, 0, none⟩, 3, 3⟩) = Ax at HS
  replace HS : Hid (St w _ [blkI b6 (machL Ax N1), machI Dx Ax N1]) := HS
  go_wp2_with (first | ((with_reducible refine isList ?_); first | (refine st_loadA HS 0 rfl _ _ rfl rfl rfl (by decide +kernel) (by kernel_rfl) ?_)))
  refine (hT.out _ _ (MachOwn.is (show MachOwn Dx _ Ax N1 from HS.out.get 1 rfl))).mono ?_
  (rintro e Wq ⟨A2, rfl, hO, hb⟩; have HSq := hide (HS.out.push hb (machI (fun k => _) A2 _) (machI_loc _ _ _) hO fun k hk => hk); generalize (fun k => _) = D2 at HSq; clear HS hb hO; replace HS := HSq; clear HSq)
  clear hT
  go_wp2_with (first | ((with_reducible refine isList ?_); first | (refine st_alloc HS _ rfl rfl zeroML zeroM ?_; clear HS; intro W b7 HS) | (refine st_storeA HS 0 rfl _ _ _ rfl rfl rfl _ rfl rfl (by kernel_rfl) rfl ?_; clear HS; intro W HS)))
  refine (hB.out _).mono ?_
  (rintro e Wq ⟨A3, rfl, hO, hb⟩; have HSq := hide (HS.out.push hb (machI (fun k => _) A3 _) (machI_loc _ _ _) hO fun k hk => hk); generalize (fun k => _) = D3 at HSq; clear HS hb hO; replace HS := HSq; clear HSq)
  go_wp2_with fail
  refine (hZ.out A3 _ (MachOwn.is (show MachOwn D3 _ A3 N from HS.out.get 0 rfl))).mono ?_
  (rintro e Wq ⟨rfl, hb⟩; have HSq := hide (HS.out.on hb); clear HS hb; replace HS := HSq; clear HSq)
  go_wp2_with (first | ((with_reducible refine isList ?_); first | (refine st_loadA HS 3 rfl _ _ rfl rfl rfl (by decide +kernel) (by kernel_rfl) ?_)))
  refine (hY.out _ _ (MachOwn.is (show MachOwn Dx _ Ax N1 from HS.out.get 4 rfl))).mono ?_
  (rintro e Wq ⟨rfl, hb⟩; have HSq := hide (HS.out.on hb); clear HS hb; replace HS := HSq; clear HSq)
  go_wp2_with (go_at_call 21; refine (num_any _ _).mono ?_; rintro e w' ⟨rfl, rfl⟩)
  go_ret
  exact ⟨rfl, HS.out.below⟩
theorem machSessions_any (a0 a1 : Int) (w : World) :
    Calls Tryz.prog 6 #[.int .i64 a0, .int .i64 a1] w fun e w' => e = .returned (.bool true) ∧ Below w.heap.size w w' := by
  have h0 : 0 ≤ IntKind.u64.wrap a0 := by rw [IntKind.wrap_u64]; omega
  have h1 := Int.tmod_nonneg 16 h0
  have h2 := Int.tmod_lt_of_pos (IntKind.u64.wrap a0) (show (0 : Int) < 16 by decide)
  have r0 : 0 ≤ a1 % 1024 := by omega
  have r1 : a1 % 1024 ≤ 1023 := by omega
  generalize hq : (IntKind.u64.wrap a0).tmod 16 = c at h1 h2
  have : c = 0 ∨ c = 1 ∨ c = 2 ∨ c = 3 ∨ c = 4 ∨ c = 5 ∨ c = 6 ∨ c = 7 ∨ c = 8 ∨ c = 9 ∨ c = 10 ∨ c = 11 ∨ c = 12 ∨ c = 13 ∨ c = 14 ∨ c = 15 := by omega
  rcases this with rfl | rfl | rfl | rfl | rfl | rfl | rfl | rfl | rfl | rfl | rfl | rfl | rfl | rfl | rfl | rfl
  · exact machSessions_0 a0 a1 _ w (mask1023 _) r0 r1 hq
  · exact machSessions_1 a0 a1 _ w (mask1023 _) r0 r1 hq
  · exact machSessions_2 a0 a1 _ w (mask1023 _) r0 r1 hq
  · exact machSessions_3 a0 a1 _ w (mask1023 _) r0 r1 hq
  · exact machSessions_4 a0 a1 _ w (mask1023 _) r0 r1 hq
  · exact machSessions_5 a0 a1 _ w (mask1023 _) r0 r1 hq
  · exact machSessions_6 a0 a1 _ w (mask1023 _) r0 r1 hq
  · exact machSessions_7 a0 a1 _ w (mask1023 _) r0 r1 hq
  · exact machSessions_8 a0 a1 _ w (mask1023 _) r0 r1 hq
  · exact machSessions_9 a0 a1 _ w (mask1023 _) r0 r1 hq
  · exact machSessions_10 a0 a1 _ w (mask1023 _) r0 r1 hq
  · exact machSessions_11 a0 a1 _ w (mask1023 _) r0 r1 hq
  · exact machSessions_12 a0 a1 _ w (mask1023 _) r0 r1 hq
  · exact machSessions_13 a0 a1 _ w (mask1023 _) r0 r1 hq
  · exact machSessions_14 a0 a1 _ w (mask1023 _) r0 r1 hq
  · exact machSessions_15 a0 a1 _ w (mask1023 _) r0 r1 hq
end Go.Proofs.YtaaenolbfhhnfaaGreat
