/-
  The law MachForms. (Written by wip/tools/gen_machforms.py)
-/
import Derived.Test.YtaaenolbfhhnfaaGreatZlcc
import Derived.Test.YtaaenolbfhhnfaaGreatZlab
namespace Go.Proofs.YtaaenolbfhhnfaaGreat
open Go.RowKit
set_option linter.unusedSimpArgs false
set_option linter.unusedVariables false
set_option maxRecDepth 100000 in
set_option maxHeartbeats 4000000 in
theorem machForms_0 (a0 a1 r : Int) (w : World) (hd : bits .and .i64 a1 1023 = r) (r0 : 0 ≤ r) (r1 : r ≤ 1023) (hp : (IntKind.u64.wrap a0).tmod 10 = 0) :
    Calls Tryz.prog 4 #[.int .i64 a0, .int .i64 a1] w fun e w' => e = .returned (.bool true) ∧ Below w.heap.size w w' := by
  have HS := hide (St.refl w)
  have hAw := hide fun (W : World) => awake12_any W
  have hB := hide fun (W : World) => stepped12_any 0 4 (by decide) W
  have sN : Hid ((stepM begunM 0 4).sess.length = 2) := by show _ = 2; decide +kernel
  have lN : Hid (((stepM begunM 0 4).lv 0).length = 2 * 3) := by show _ = _; decide +kernel
  have cN : Hid ((stepM begunM 0 4).ceil = 9) := by show _ = _; decide +kernel
  have hZ := hide fun (A : MacM) (W : World) (h : MachIs W A (stepM begunM 0 4)) => gmachMay_any A (stepM begunM 0 4) W h
  rw [show machMay (stepM begunM 0 4) = true by decide +kernel] at hZ
  obtain ⟨N1, hN1⟩ : ∃ N1, N1 = (stepM begunM 0 4).setLv 0 (((stepM begunM 0 4).lv 0).set 0 (-(1 + r))) := ⟨_, rfl⟩
  have hMay : machMay N1 = false := by
    rw [hN1]
    exact (may_value0 (by decide +kernel) (by decide +kernel) (upToV_not (.inl (by omega))))
  have hT := hide fun (A : MacM) (W : World) (h : MachIs W A N1) => gtelling_any A N1 0 6 0 W h
  rw [telling_not hMay] at hT
  have hY := hide fun (A : MacM) (W : World) (h : MachIs W A N1) => gmachMay_any A N1 W h
  rw [hMay] at hY
  clear hMay
  replace hN1 := hide hN1
  generalize stepM begunM 0 4 = N at *
  go_enter Tryz.func4, Tryz.ntmps4
  go_wp2_with fail
  refine (hAw.out _).mono ?_
  (rintro e Wq ⟨rfl, hb⟩; have HSq := hide (HS.out.on hb); clear HS hb; replace HS := HSq; clear HSq)
  clear hAw
  go_wp2_with fail
  refine (hB.out _).mono ?_
  (rintro e Wq ⟨A1, rfl, hO, hb⟩; have HSq := hide (HS.out.push hb (machI (fun k => _) A1 _) (machI_loc _ _ _) hO fun k hk => hk); generalize (fun k => _) = D1 at HSq; clear HS hb hO; replace HS := HSq; clear HSq)
  go_upto_region 5 with (first | ((with_reducible refine isList ?_); first | (refine st_alloc HS _ rfl rfl zeroML zeroM ?_; clear HS; intro W b6 HS) | (refine st_storeA HS 0 rfl _ _ _ rfl rfl rfl _ rfl rfl (by kernel_rfl) rfl ?_; clear HS; intro W HS)))
  replace HS : Hid (St w W [blkI b6 (machL A1 N), machI D1 A1 N]) := HS
  obtain ⟨n1, g⟩ := MachOwn.sfact (show MachOwn D1 _ A1 N from HS.out.get 1 rfl) sN.out
  obtain ⟨bs1, hbs1, _⟩ := g (by decide)
  clear g
  obtain ⟨n0, g⟩ := MachOwn.wfact (show MachOwn D1 _ A1 N from HS.out.get 1 rfl) (g := 0) (m := 2) (by decide) lN.out
  obtain ⟨w0, e0, _⟩ := g (by decide)
  clear g
  obtain ⟨c9, _⟩ := MachOwn.scell (show MachOwn D1 _ A1 N from HS.out.get 1 rfl) (HS.out.blk 0 rfl) sN.out hbs1
  obtain ⟨c0, _⟩ := MachOwn.lcell (show MachOwn D1 _ A1 N from HS.out.get 1 rfl) (g := 0) (by decide) (HS.out.blk 0 rfl) lN.out e0
  replace n1 := hide n1; replace n0 := hide n0; replace hbs1 := hide hbs1; replace e0 := hide e0
  go_upto_region 9 with fail
  clear c9 c0
  have v0 : IntKind.i64.wrap (-(1 + r)) = -(1 + r) := IntWalk.i64_in _ ⟨by omega, by omega⟩
  have i0 : (0 : Int) < ((A1.w 0).n : Int) := by have := n0.out; omega
  have i2 : 0 < (A1.w 0).n * 3 := by have := n0.out; omega
  replace e0 := e0.out
  go_upto_region 28 with (first | ((with_reducible refine isList ?_); first | (refine st_load1 HS 0 rfl _ _ rfl _ rfl rfl (by decide +kernel) rfl ?_) | (refine st_storeW HS 1 rfl (g := 0) (c := 0) (by decide) i2 e0 _ _ _ rfl rfl rfl rfl (by decide +kernel) ?_; clear HS; intro W HS)))
  clear e0 i0
  replace HS : Hid (St w W [blkI b6 (machL A1 (N.setLv 0 ((N.lv 0).set 0 (-(1 + r))))), machI D1 A1 (N.setLv 0 ((N.lv 0).set 0 (-(1 + r))))]) := HS
  rw [← hN1.out] at HS
  replace HS : Hid (St w _ [blkI b6 (machL A1 N1), machI D1 A1 N1]) := HS
  go_wp2_with (first | ((with_reducible refine isList ?_); first | (refine st_loadA HS 0 rfl _ _ rfl rfl rfl (by decide +kernel) (by kernel_rfl) ?_)))
  refine (hT.out _ _ (MachOwn.is (show MachOwn D1 _ A1 N1 from HS.out.get 1 rfl))).mono ?_
  (rintro e Wq ⟨A2, rfl, hO, hb⟩; have HSq := hide (HS.out.push hb (machI (fun k => _) A2 _) (machI_loc _ _ _) hO fun k hk => hk); generalize (fun k => _) = D2 at HSq; clear HS hb hO; replace HS := HSq; clear HSq)
  clear hT
  go_wp2_with (first | ((with_reducible refine isList ?_); first | (refine st_alloc HS _ rfl rfl zeroML zeroM ?_; clear HS; intro W b7 HS) | (refine st_storeA HS 0 rfl _ _ _ rfl rfl rfl _ rfl rfl (by kernel_rfl) rfl ?_; clear HS; intro W HS)))
  refine (hB.out _).mono ?_
  (rintro e Wq ⟨A3, rfl, hO, hb⟩; have HSq := hide (HS.out.push hb (machI (fun k => _) A3 _) (machI_loc _ _ _) hO fun k hk => hk); generalize (fun k => _) = D3 at HSq; clear HS hb hO; replace HS := HSq; clear HSq)
  go_wp2_with fail
  refine (hZ.out A3 _ (MachOwn.is (show MachOwn D3 _ A3 N from HS.out.get 0 rfl))).mono ?_
  (rintro e Wq ⟨rfl, hb⟩; have HSq := hide (HS.out.on hb); clear HS hb; replace HS := HSq; clear HSq)
  go_wp2_with (first | ((with_reducible refine isList ?_); first | (refine st_loadA HS 3 rfl _ _ rfl rfl rfl (by decide +kernel) (by kernel_rfl) ?_)))
  refine (hY.out _ _ (MachOwn.is (show MachOwn D1 _ A1 N1 from HS.out.get 4 rfl))).mono ?_
  (rintro e Wq ⟨rfl, hb⟩; have HSq := hide (HS.out.on hb); clear HS hb; replace HS := HSq; clear HSq)
  go_wp2_with (go_at_call 21; refine (num_any _ _).mono ?_; rintro e w' ⟨rfl, rfl⟩)
  go_ret
  exact ⟨rfl, HS.out.below⟩
set_option maxRecDepth 100000 in
set_option maxHeartbeats 4000000 in
theorem machForms_1 (a0 a1 r : Int) (w : World) (hd : bits .and .i64 a1 1023 = r) (r0 : 0 ≤ r) (r1 : r ≤ 1023) (hp : (IntKind.u64.wrap a0).tmod 10 = 1) :
    Calls Tryz.prog 4 #[.int .i64 a0, .int .i64 a1] w fun e w' => e = .returned (.bool true) ∧ Below w.heap.size w w' := by
  have HS := hide (St.refl w)
  have hAw := hide fun (W : World) => awake12_any W
  have hB := hide fun (W : World) => stepped12_any 0 4 (by decide) W
  have sN : Hid ((stepM begunM 0 4).sess.length = 2) := by show _ = 2; decide +kernel
  have lN : Hid (((stepM begunM 0 4).lv 0).length = 2 * 3) := by show _ = _; decide +kernel
  have cN : Hid ((stepM begunM 0 4).ceil = 9) := by show _ = _; decide +kernel
  have hZ := hide fun (A : MacM) (W : World) (h : MachIs W A (stepM begunM 0 4)) => gmachMay_any A (stepM begunM 0 4) W h
  rw [show machMay (stepM begunM 0 4) = true by decide +kernel] at hZ
  obtain ⟨N1, hN1⟩ : ∃ N1, N1 = (stepM begunM 0 4).setLv 0 (((stepM begunM 0 4).lv 0).take (1 * 3)) := ⟨_, rfl⟩
  have hMay : machMay N1 = false := by
    rw [hN1]
    exact (by decide +kernel)
  have hT := hide fun (A : MacM) (W : World) (h : MachIs W A N1) => gtelling_any A N1 0 6 0 W h
  rw [telling_not hMay] at hT
  have hY := hide fun (A : MacM) (W : World) (h : MachIs W A N1) => gmachMay_any A N1 W h
  rw [hMay] at hY
  clear hMay
  replace hN1 := hide hN1
  generalize stepM begunM 0 4 = N at *
  go_enter Tryz.func4, Tryz.ntmps4
  go_wp2_with fail
  refine (hAw.out _).mono ?_
  (rintro e Wq ⟨rfl, hb⟩; have HSq := hide (HS.out.on hb); clear HS hb; replace HS := HSq; clear HSq)
  clear hAw
  go_wp2_with fail
  refine (hB.out _).mono ?_
  (rintro e Wq ⟨A1, rfl, hO, hb⟩; have HSq := hide (HS.out.push hb (machI (fun k => _) A1 _) (machI_loc _ _ _) hO fun k hk => hk); generalize (fun k => _) = D1 at HSq; clear HS hb hO; replace HS := HSq; clear HSq)
  go_upto_region 5 with (first | ((with_reducible refine isList ?_); first | (refine st_alloc HS _ rfl rfl zeroML zeroM ?_; clear HS; intro W b6 HS) | (refine st_storeA HS 0 rfl _ _ _ rfl rfl rfl _ rfl rfl (by kernel_rfl) rfl ?_; clear HS; intro W HS)))
  replace HS : Hid (St w W [blkI b6 (machL A1 N), machI D1 A1 N]) := HS
  obtain ⟨n1, g⟩ := MachOwn.sfact (show MachOwn D1 _ A1 N from HS.out.get 1 rfl) sN.out
  obtain ⟨bs1, hbs1, _⟩ := g (by decide)
  clear g
  obtain ⟨n0, g⟩ := MachOwn.wfact (show MachOwn D1 _ A1 N from HS.out.get 1 rfl) (g := 0) (m := 2) (by decide) lN.out
  obtain ⟨w0, e0, _⟩ := g (by decide)
  clear g
  obtain ⟨c9, _⟩ := MachOwn.scell (show MachOwn D1 _ A1 N from HS.out.get 1 rfl) (HS.out.blk 0 rfl) sN.out hbs1
  obtain ⟨c0, _⟩ := MachOwn.lcell (show MachOwn D1 _ A1 N from HS.out.get 1 rfl) (g := 0) (by decide) (HS.out.blk 0 rfl) lN.out e0
  replace n1 := hide n1; replace n0 := hide n0; replace hbs1 := hide hbs1; replace e0 := hide e0
  go_upto_region 11 with fail
  clear c9 c0
  have c0 : W.cell? ⟨b6, 0, none⟩ = some (.slice (A1.w 0).a 2 (A1.w 0).c) := by rw [← n0.out]; exact (HS.out.blk 0 rfl).cell 0 _ rfl
  have ic : (1 : Int) ≤ ((A1.w 0).c : Int) := by
    have h1 := ((MachOwn.is (show MachOwn D1 _ A1 N from HS.out.get 1 rfl)).words 0 (by decide)).2.1.2.1
    have h2 := n0.out
    omega
  go_upto_region 28 with (first | ((with_reducible refine isList ?_); first | (refine st_store1 HS 0 rfl _ _ _ rfl _ rfl rfl rfl (by decide +kernel) rfl rfl ?_; clear HS; intro W HS)))
  clear c0
  replace HS := hide (HS.out.cutLv 1 rfl (g := 0) (m := 1) (by decide) (by decide) (by have := n0.out; omega))
  replace HS : Hid (St w W [blkI b6 (machL (A1.setW 0 ⟨(A1.w 0).a, 1, (A1.w 0).c⟩) (N.setLv 0 ((N.lv 0).take (1 * 3)))), machI D1 (A1.setW 0 ⟨(A1.w 0).a, 1, (A1.w 0).c⟩) (N.setLv 0 ((N.lv 0).take (1 * 3)))]) := HS
  rw [← hN1.out] at HS
  generalize A1.setW 0 ⟨(A1.w 0).a, 1, (A1.w 0).c⟩ = Ax at HS
  replace HS : Hid (St w _ [blkI b6 (machL Ax N1), machI D1 Ax N1]) := HS
  go_wp2_with (first | ((with_reducible refine isList ?_); first | (refine st_loadA HS 0 rfl _ _ rfl rfl rfl (by decide +kernel) (by kernel_rfl) ?_)))
  refine (hT.out _ _ (MachOwn.is (show MachOwn D1 _ Ax N1 from HS.out.get 1 rfl))).mono ?_
  (rintro e Wq ⟨A2, rfl, hO, hb⟩; have HSq := hide (HS.out.push hb (machI (fun k => _) A2 _) (machI_loc _ _ _) hO fun k hk => hk); generalize (fun k => _) = D2 at HSq; clear HS hb hO; replace HS := HSq; clear HSq)
  clear hT
  go_wp2_with (first | ((with_reducible refine isList ?_); first | (refine st_alloc HS _ rfl rfl zeroML zeroM ?_; clear HS; intro W b7 HS) | (refine st_storeA HS 0 rfl _ _ _ rfl rfl rfl _ rfl rfl (by kernel_rfl) rfl ?_; clear HS; intro W HS)))
  refine (hB.out _).mono ?_
  (rintro e Wq ⟨A3, rfl, hO, hb⟩; have HSq := hide (HS.out.push hb (machI (fun k => _) A3 _) (machI_loc _ _ _) hO fun k hk => hk); generalize (fun k => _) = D3 at HSq; clear HS hb hO; replace HS := HSq; clear HSq)
  go_wp2_with fail
  refine (hZ.out A3 _ (MachOwn.is (show MachOwn D3 _ A3 N from HS.out.get 0 rfl))).mono ?_
  (rintro e Wq ⟨rfl, hb⟩; have HSq := hide (HS.out.on hb); clear HS hb; replace HS := HSq; clear HSq)
  go_wp2_with (first | ((with_reducible refine isList ?_); first | (refine st_loadA HS 3 rfl _ _ rfl rfl rfl (by decide +kernel) (by kernel_rfl) ?_)))
  refine (hY.out _ _ (MachOwn.is (show MachOwn D1 _ Ax N1 from HS.out.get 4 rfl))).mono ?_
  (rintro e Wq ⟨rfl, hb⟩; have HSq := hide (HS.out.on hb); clear HS hb; replace HS := HSq; clear HSq)
  go_wp2_with (go_at_call 21; refine (num_any _ _).mono ?_; rintro e w' ⟨rfl, rfl⟩)
  go_ret
  exact ⟨rfl, HS.out.below⟩
set_option maxRecDepth 100000 in
set_option maxHeartbeats 4000000 in
theorem machForms_2 (a0 a1 r : Int) (w : World) (hd : bits .and .i64 a1 1023 = r) (r0 : 0 ≤ r) (r1 : r ≤ 1023) (hp : (IntKind.u64.wrap a0).tmod 10 = 2) :
    Calls Tryz.prog 4 #[.int .i64 a0, .int .i64 a1] w fun e w' => e = .returned (.bool true) ∧ Below w.heap.size w w' := by
  have HS := hide (St.refl w)
  have hAw := hide fun (W : World) => awake12_any W
  have hB := hide fun (W : World) => stepped12_any 0 4 (by decide) W
  have sN : Hid ((stepM begunM 0 4).sess.length = 2) := by show _ = 2; decide +kernel
  have lN : Hid (((stepM begunM 0 4).lv 0).length = 2 * 3) := by show _ = _; decide +kernel
  have cN : Hid ((stepM begunM 0 4).ceil = 9) := by show _ = _; decide +kernel
  have hZ := hide fun (A : MacM) (W : World) (h : MachIs W A (stepM begunM 0 4)) => gmachMay_any A (stepM begunM 0 4) W h
  rw [show machMay (stepM begunM 0 4) = true by decide +kernel] at hZ
  obtain ⟨N1, hN1⟩ : ∃ N1, N1 = { (stepM begunM 0 4) with ceil := (-(1 + r)) } := ⟨_, rfl⟩
  have hMay : machMay N1 = false := by
    rw [hN1]
    exact (may_ceil (upToV_not (.inl (by show -(1 + r) < 0; omega))))
  have hT := hide fun (A : MacM) (W : World) (h : MachIs W A N1) => gtelling_any A N1 0 6 0 W h
  rw [telling_not hMay] at hT
  have hY := hide fun (A : MacM) (W : World) (h : MachIs W A N1) => gmachMay_any A N1 W h
  rw [hMay] at hY
  clear hMay
  replace hN1 := hide hN1
  generalize stepM begunM 0 4 = N at *
  go_enter Tryz.func4, Tryz.ntmps4
  go_wp2_with fail
  refine (hAw.out _).mono ?_
  (rintro e Wq ⟨rfl, hb⟩; have HSq := hide (HS.out.on hb); clear HS hb; replace HS := HSq; clear HSq)
  clear hAw
  go_wp2_with fail
  refine (hB.out _).mono ?_
  (rintro e Wq ⟨A1, rfl, hO, hb⟩; have HSq := hide (HS.out.push hb (machI (fun k => _) A1 _) (machI_loc _ _ _) hO fun k hk => hk); generalize (fun k => _) = D1 at HSq; clear HS hb hO; replace HS := HSq; clear HSq)
  go_upto_region 5 with (first | ((with_reducible refine isList ?_); first | (refine st_alloc HS _ rfl rfl zeroML zeroM ?_; clear HS; intro W b6 HS) | (refine st_storeA HS 0 rfl _ _ _ rfl rfl rfl _ rfl rfl (by kernel_rfl) rfl ?_; clear HS; intro W HS)))
  replace HS : Hid (St w W [blkI b6 (machL A1 N), machI D1 A1 N]) := HS
  obtain ⟨n1, g⟩ := MachOwn.sfact (show MachOwn D1 _ A1 N from HS.out.get 1 rfl) sN.out
  obtain ⟨bs1, hbs1, _⟩ := g (by decide)
  clear g
  obtain ⟨n0, g⟩ := MachOwn.wfact (show MachOwn D1 _ A1 N from HS.out.get 1 rfl) (g := 0) (m := 2) (by decide) lN.out
  obtain ⟨w0, e0, _⟩ := g (by decide)
  clear g
  obtain ⟨c9, _⟩ := MachOwn.scell (show MachOwn D1 _ A1 N from HS.out.get 1 rfl) (HS.out.blk 0 rfl) sN.out hbs1
  obtain ⟨c0, _⟩ := MachOwn.lcell (show MachOwn D1 _ A1 N from HS.out.get 1 rfl) (g := 0) (by decide) (HS.out.blk 0 rfl) lN.out e0
  replace n1 := hide n1; replace n0 := hide n0; replace hbs1 := hide hbs1; replace e0 := hide e0
  go_upto_region 13 with fail
  clear c9 c0
  have v0 : IntKind.i64.wrap (-(1 + r)) = (-(1 + r)) := IntWalk.i64_in _ ⟨by omega, by omega⟩
  go_upto_region 28 with (first | ((with_reducible refine isList ?_); first | (refine st_store1 HS 0 rfl _ _ _ rfl _ rfl rfl rfl (by decide +kernel) rfl rfl ?_; clear HS; intro W HS)))
  replace HS : Hid (St w W [blkI b6 (machL A1 { N with ceil := (-(1 + r)) }), machI D1 A1 { N with ceil := (-(1 + r)) }]) := hide (HS.out.withCeil 1 rfl (-(1 + r)))
  rw [← hN1.out] at HS
  replace HS : Hid (St w _ [blkI b6 (machL A1 N1), machI D1 A1 N1]) := HS
  go_wp2_with (first | ((with_reducible refine isList ?_); first | (refine st_loadA HS 0 rfl _ _ rfl rfl rfl (by decide +kernel) (by kernel_rfl) ?_)))
  refine (hT.out _ _ (MachOwn.is (show MachOwn D1 _ A1 N1 from HS.out.get 1 rfl))).mono ?_
  (rintro e Wq ⟨A2, rfl, hO, hb⟩; have HSq := hide (HS.out.push hb (machI (fun k => _) A2 _) (machI_loc _ _ _) hO fun k hk => hk); generalize (fun k => _) = D2 at HSq; clear HS hb hO; replace HS := HSq; clear HSq)
  clear hT
  go_wp2_with (first | ((with_reducible refine isList ?_); first | (refine st_alloc HS _ rfl rfl zeroML zeroM ?_; clear HS; intro W b7 HS) | (refine st_storeA HS 0 rfl _ _ _ rfl rfl rfl _ rfl rfl (by kernel_rfl) rfl ?_; clear HS; intro W HS)))
  refine (hB.out _).mono ?_
  (rintro e Wq ⟨A3, rfl, hO, hb⟩; have HSq := hide (HS.out.push hb (machI (fun k => _) A3 _) (machI_loc _ _ _) hO fun k hk => hk); generalize (fun k => _) = D3 at HSq; clear HS hb hO; replace HS := HSq; clear HSq)
  go_wp2_with fail
  refine (hZ.out A3 _ (MachOwn.is (show MachOwn D3 _ A3 N from HS.out.get 0 rfl))).mono ?_
  (rintro e Wq ⟨rfl, hb⟩; have HSq := hide (HS.out.on hb); clear HS hb; replace HS := HSq; clear HSq)
  go_wp2_with (first | ((with_reducible refine isList ?_); first | (refine st_loadA HS 3 rfl _ _ rfl rfl rfl (by decide +kernel) (by kernel_rfl) ?_)))
  refine (hY.out _ _ (MachOwn.is (show MachOwn D1 _ A1 N1 from HS.out.get 4 rfl))).mono ?_
  (rintro e Wq ⟨rfl, hb⟩; have HSq := hide (HS.out.on hb); clear HS hb; replace HS := HSq; clear HSq)
  go_wp2_with (go_at_call 21; refine (num_any _ _).mono ?_; rintro e w' ⟨rfl, rfl⟩)
  go_ret
  exact ⟨rfl, HS.out.below⟩
set_option maxRecDepth 100000 in
set_option maxHeartbeats 4000000 in
theorem machForms_3 (a0 a1 r : Int) (w : World) (hd : bits .and .i64 a1 1023 = r) (r0 : 0 ≤ r) (r1 : r ≤ 1023) (hp : (IntKind.u64.wrap a0).tmod 10 = 3) :
    Calls Tryz.prog 4 #[.int .i64 a0, .int .i64 a1] w fun e w' => e = .returned (.bool true) ∧ Below w.heap.size w w' := by
  have HS := hide (St.refl w)
  have hAw := hide fun (W : World) => awake12_any W
  have hB := hide fun (W : World) => stepped12_any 0 4 (by decide) W
  have sN : Hid ((stepM begunM 0 4).sess.length = 2) := by show _ = 2; decide +kernel
  have lN : Hid (((stepM begunM 0 4).lv 0).length = 2 * 3) := by show _ = _; decide +kernel
  have cN : Hid ((stepM begunM 0 4).ceil = 9) := by show _ = _; decide +kernel
  have hZ := hide fun (A : MacM) (W : World) (h : MachIs W A (stepM begunM 0 4)) => gmachMay_any A (stepM begunM 0 4) W h
  rw [show machMay (stepM begunM 0 4) = true by decide +kernel] at hZ
  obtain ⟨N1, hN1⟩ : ∃ N1, N1 = { (stepM begunM 0 4) with ceil := (65535 + (1 + r)) } := ⟨_, rfl⟩
  have hMay : machMay N1 = false := by
    rw [hN1]
    exact (may_ceil (upToV_not (.inr (by show (65535 : Int) < 65535 + (1 + r); omega))))
  have hT := hide fun (A : MacM) (W : World) (h : MachIs W A N1) => gtelling_any A N1 0 6 0 W h
  rw [telling_not hMay] at hT
  have hY := hide fun (A : MacM) (W : World) (h : MachIs W A N1) => gmachMay_any A N1 W h
  rw [hMay] at hY
  clear hMay
  replace hN1 := hide hN1
  generalize stepM begunM 0 4 = N at *
  go_enter Tryz.func4, Tryz.ntmps4
  go_wp2_with fail
  refine (hAw.out _).mono ?_
  (rintro e Wq ⟨rfl, hb⟩; have HSq := hide (HS.out.on hb); clear HS hb; replace HS := HSq; clear HSq)
  clear hAw
  go_wp2_with fail
  refine (hB.out _).mono ?_
  (rintro e Wq ⟨A1, rfl, hO, hb⟩; have HSq := hide (HS.out.push hb (machI (fun k => _) A1 _) (machI_loc _ _ _) hO fun k hk => hk); generalize (fun k => _) = D1 at HSq; clear HS hb hO; replace HS := HSq; clear HSq)
  go_upto_region 5 with (first | ((with_reducible refine isList ?_); first | (refine st_alloc HS _ rfl rfl zeroML zeroM ?_; clear HS; intro W b6 HS) | (refine st_storeA HS 0 rfl _ _ _ rfl rfl rfl _ rfl rfl (by kernel_rfl) rfl ?_; clear HS; intro W HS)))
  replace HS : Hid (St w W [blkI b6 (machL A1 N), machI D1 A1 N]) := HS
  obtain ⟨n1, g⟩ := MachOwn.sfact (show MachOwn D1 _ A1 N from HS.out.get 1 rfl) sN.out
  obtain ⟨bs1, hbs1, _⟩ := g (by decide)
  clear g
  obtain ⟨n0, g⟩ := MachOwn.wfact (show MachOwn D1 _ A1 N from HS.out.get 1 rfl) (g := 0) (m := 2) (by decide) lN.out
  obtain ⟨w0, e0, _⟩ := g (by decide)
  clear g
  obtain ⟨c9, _⟩ := MachOwn.scell (show MachOwn D1 _ A1 N from HS.out.get 1 rfl) (HS.out.blk 0 rfl) sN.out hbs1
  obtain ⟨c0, _⟩ := MachOwn.lcell (show MachOwn D1 _ A1 N from HS.out.get 1 rfl) (g := 0) (by decide) (HS.out.blk 0 rfl) lN.out e0
  replace n1 := hide n1; replace n0 := hide n0; replace hbs1 := hide hbs1; replace e0 := hide e0
  go_upto_region 15 with fail
  clear c9 c0
  have v0 : IntKind.i64.wrap (65535 + (1 + r)) = (65535 + (1 + r)) := IntWalk.i64_in _ ⟨by omega, by omega⟩
  go_upto_region 28 with (first | ((with_reducible refine isList ?_); first | (refine st_store1 HS 0 rfl _ _ _ rfl _ rfl rfl rfl (by decide +kernel) rfl rfl ?_; clear HS; intro W HS)))
  replace HS : Hid (St w W [blkI b6 (machL A1 { N with ceil := (65535 + (1 + r)) }), machI D1 A1 { N with ceil := (65535 + (1 + r)) }]) := hide (HS.out.withCeil 1 rfl (65535 + (1 + r)))
  rw [← hN1.out] at HS
  replace HS : Hid (St w _ [blkI b6 (machL A1 N1), machI D1 A1 N1]) := HS
  go_wp2_with (first | ((with_reducible refine isList ?_); first | (refine st_loadA HS 0 rfl _ _ rfl rfl rfl (by decide +kernel) (by kernel_rfl) ?_)))
  refine (hT.out _ _ (MachOwn.is (show MachOwn D1 _ A1 N1 from HS.out.get 1 rfl))).mono ?_
  (rintro e Wq ⟨A2, rfl, hO, hb⟩; have HSq := hide (HS.out.push hb (machI (fun k => _) A2 _) (machI_loc _ _ _) hO fun k hk => hk); generalize (fun k => _) = D2 at HSq; clear HS hb hO; replace HS := HSq; clear HSq)
  clear hT
  go_wp2_with (first | ((with_reducible refine isList ?_); first | (refine st_alloc HS _ rfl rfl zeroML zeroM ?_; clear HS; intro W b7 HS) | (refine st_storeA HS 0 rfl _ _ _ rfl rfl rfl _ rfl rfl (by kernel_rfl) rfl ?_; clear HS; intro W HS)))
  refine (hB.out _).mono ?_
  (rintro e Wq ⟨A3, rfl, hO, hb⟩; have HSq := hide (HS.out.push hb (machI (fun k => _) A3 _) (machI_loc _ _ _) hO fun k hk => hk); generalize (fun k => _) = D3 at HSq; clear HS hb hO; replace HS := HSq; clear HSq)
  go_wp2_with fail
  refine (hZ.out A3 _ (MachOwn.is (show MachOwn D3 _ A3 N from HS.out.get 0 rfl))).mono ?_
  (rintro e Wq ⟨rfl, hb⟩; have HSq := hide (HS.out.on hb); clear HS hb; replace HS := HSq; clear HSq)
  go_wp2_with (first | ((with_reducible refine isList ?_); first | (refine st_loadA HS 3 rfl _ _ rfl rfl rfl (by decide +kernel) (by kernel_rfl) ?_)))
  refine (hY.out _ _ (MachOwn.is (show MachOwn D1 _ A1 N1 from HS.out.get 4 rfl))).mono ?_
  (rintro e Wq ⟨rfl, hb⟩; have HSq := hide (HS.out.on hb); clear HS hb; replace HS := HSq; clear HSq)
  go_wp2_with (go_at_call 21; refine (num_any _ _).mono ?_; rintro e w' ⟨rfl, rfl⟩)
  go_ret
  exact ⟨rfl, HS.out.below⟩
set_option maxRecDepth 100000 in
set_option maxHeartbeats 4000000 in
theorem machForms_4 (a0 a1 r : Int) (w : World) (hd : bits .and .i64 a1 1023 = r) (r0 : 0 ≤ r) (r1 : r ≤ 1023) (hp : (IntKind.u64.wrap a0).tmod 10 = 4) :
    Calls Tryz.prog 4 #[.int .i64 a0, .int .i64 a1] w fun e w' => e = .returned (.bool true) ∧ Below w.heap.size w w' := by
  have HS := hide (St.refl w)
  have hAw := hide fun (W : World) => awake12_any W
  have hB := hide fun (W : World) => stepped12_any 0 4 (by decide) W
  have sN : Hid ((stepM begunM 0 4).sess.length = 2) := by show _ = 2; decide +kernel
  have lN : Hid (((stepM begunM 0 4).lv 0).length = 2 * 3) := by show _ = _; decide +kernel
  have cN : Hid ((stepM begunM 0 4).ceil = 9) := by show _ = _; decide +kernel
  have hZ := hide fun (A : MacM) (W : World) (h : MachIs W A (stepM begunM 0 4)) => gmachMay_any A (stepM begunM 0 4) W h
  rw [show machMay (stepM begunM 0 4) = true by decide +kernel] at hZ
  obtain ⟨N1, hN1⟩ : ∃ N1, N1 = { (stepM begunM 0 4) with clocks := [lz (stepM begunM 0 4).clocks 0, lz (stepM begunM 0 4).clocks 1, (9 + (1 + r)), lz (stepM begunM 0 4).clocks 3] } := ⟨_, rfl⟩
  have hMay : machMay N1 = false := by
    rw [hN1]
    exact (may_clock2 (upToV_not (.inr (by rw [cN.out]; omega))))
  have hT := hide fun (A : MacM) (W : World) (h : MachIs W A N1) => gtelling_any A N1 0 6 0 W h
  rw [telling_not hMay] at hT
  have hY := hide fun (A : MacM) (W : World) (h : MachIs W A N1) => gmachMay_any A N1 W h
  rw [hMay] at hY
  clear hMay
  replace hN1 := hide hN1
  generalize stepM begunM 0 4 = N at *
  go_enter Tryz.func4, Tryz.ntmps4
  go_wp2_with fail
  refine (hAw.out _).mono ?_
  (rintro e Wq ⟨rfl, hb⟩; have HSq := hide (HS.out.on hb); clear HS hb; replace HS := HSq; clear HSq)
  clear hAw
  go_wp2_with fail
  refine (hB.out _).mono ?_
  (rintro e Wq ⟨A1, rfl, hO, hb⟩; have HSq := hide (HS.out.push hb (machI (fun k => _) A1 _) (machI_loc _ _ _) hO fun k hk => hk); generalize (fun k => _) = D1 at HSq; clear HS hb hO; replace HS := HSq; clear HSq)
  go_upto_region 5 with (first | ((with_reducible refine isList ?_); first | (refine st_alloc HS _ rfl rfl zeroML zeroM ?_; clear HS; intro W b6 HS) | (refine st_storeA HS 0 rfl _ _ _ rfl rfl rfl _ rfl rfl (by kernel_rfl) rfl ?_; clear HS; intro W HS)))
  replace HS : Hid (St w W [blkI b6 (machL A1 N), machI D1 A1 N]) := HS
  obtain ⟨n1, g⟩ := MachOwn.sfact (show MachOwn D1 _ A1 N from HS.out.get 1 rfl) sN.out
  obtain ⟨bs1, hbs1, _⟩ := g (by decide)
  clear g
  obtain ⟨n0, g⟩ := MachOwn.wfact (show MachOwn D1 _ A1 N from HS.out.get 1 rfl) (g := 0) (m := 2) (by decide) lN.out
  obtain ⟨w0, e0, _⟩ := g (by decide)
  clear g
  obtain ⟨c9, _⟩ := MachOwn.scell (show MachOwn D1 _ A1 N from HS.out.get 1 rfl) (HS.out.blk 0 rfl) sN.out hbs1
  obtain ⟨c0, _⟩ := MachOwn.lcell (show MachOwn D1 _ A1 N from HS.out.get 1 rfl) (g := 0) (by decide) (HS.out.blk 0 rfl) lN.out e0
  replace n1 := hide n1; replace n0 := hide n0; replace hbs1 := hide hbs1; replace e0 := hide e0
  go_upto_region 17 with fail
  clear c9 c0
  have c8 : W.cell? ⟨b6, 8, none⟩ = some (.int .i64 9) := by rw [← cN.out]; exact (HS.out.blk 0 rfl).cell 8 _ rfl
  have v0 : IntKind.i64.wrap (9 + (1 + r)) = (9 + (1 + r)) := IntWalk.i64_in _ ⟨by omega, by omega⟩
  go_upto_region 28 with (first | ((with_reducible refine isList ?_); first | (refine st_store1 HS 0 rfl _ _ _ rfl _ rfl rfl rfl (by decide +kernel) rfl rfl ?_; clear HS; intro W HS)))
  clear c8
  replace HS : Hid (St w W [blkI b6 (machL A1 { N with clocks := [lz N.clocks 0, lz N.clocks 1, (9 + (1 + r)), lz N.clocks 3] }), machI D1 A1 { N with clocks := [lz N.clocks 0, lz N.clocks 1, (9 + (1 + r)), lz N.clocks 3] }]) := hide (HS.out.withClk 1 rfl (l := [lz N.clocks 0, lz N.clocks 1, (9 + (1 + r)), lz N.clocks 3]) rfl)
  rw [← hN1.out] at HS
  replace HS : Hid (St w _ [blkI b6 (machL A1 N1), machI D1 A1 N1]) := HS
  go_wp2_with (first | ((with_reducible refine isList ?_); first | (refine st_loadA HS 0 rfl _ _ rfl rfl rfl (by decide +kernel) (by kernel_rfl) ?_)))
  refine (hT.out _ _ (MachOwn.is (show MachOwn D1 _ A1 N1 from HS.out.get 1 rfl))).mono ?_
  (rintro e Wq ⟨A2, rfl, hO, hb⟩; have HSq := hide (HS.out.push hb (machI (fun k => _) A2 _) (machI_loc _ _ _) hO fun k hk => hk); generalize (fun k => _) = D2 at HSq; clear HS hb hO; replace HS := HSq; clear HSq)
  clear hT
  go_wp2_with (first | ((with_reducible refine isList ?_); first | (refine st_alloc HS _ rfl rfl zeroML zeroM ?_; clear HS; intro W b7 HS) | (refine st_storeA HS 0 rfl _ _ _ rfl rfl rfl _ rfl rfl (by kernel_rfl) rfl ?_; clear HS; intro W HS)))
  refine (hB.out _).mono ?_
  (rintro e Wq ⟨A3, rfl, hO, hb⟩; have HSq := hide (HS.out.push hb (machI (fun k => _) A3 _) (machI_loc _ _ _) hO fun k hk => hk); generalize (fun k => _) = D3 at HSq; clear HS hb hO; replace HS := HSq; clear HSq)
  go_wp2_with fail
  refine (hZ.out A3 _ (MachOwn.is (show MachOwn D3 _ A3 N from HS.out.get 0 rfl))).mono ?_
  (rintro e Wq ⟨rfl, hb⟩; have HSq := hide (HS.out.on hb); clear HS hb; replace HS := HSq; clear HSq)
  go_wp2_with (first | ((with_reducible refine isList ?_); first | (refine st_loadA HS 3 rfl _ _ rfl rfl rfl (by decide +kernel) (by kernel_rfl) ?_)))
  refine (hY.out _ _ (MachOwn.is (show MachOwn D1 _ A1 N1 from HS.out.get 4 rfl))).mono ?_
  (rintro e Wq ⟨rfl, hb⟩; have HSq := hide (HS.out.on hb); clear HS hb; replace HS := HSq; clear HSq)
  go_wp2_with (go_at_call 21; refine (num_any _ _).mono ?_; rintro e w' ⟨rfl, rfl⟩)
  go_ret
  exact ⟨rfl, HS.out.below⟩
set_option maxRecDepth 100000 in
set_option maxHeartbeats 4000000 in
theorem machForms_5 (a0 a1 r : Int) (w : World) (hd : bits .and .i64 a1 1023 = r) (r0 : 0 ≤ r) (r1 : r ≤ 1023) (hp : (IntKind.u64.wrap a0).tmod 10 = 5) :
    Calls Tryz.prog 4 #[.int .i64 a0, .int .i64 a1] w fun e w' => e = .returned (.bool true) ∧ Below w.heap.size w w' := by
  have HS := hide (St.refl w)
  have hAw := hide fun (W : World) => awake12_any W
  have hB := hide fun (W : World) => stepped12_any 0 4 (by decide) W
  have sN : Hid ((stepM begunM 0 4).sess.length = 2) := by show _ = 2; decide +kernel
  have lN : Hid (((stepM begunM 0 4).lv 0).length = 2 * 3) := by show _ = _; decide +kernel
  have cN : Hid ((stepM begunM 0 4).ceil = 9) := by show _ = _; decide +kernel
  have hZ := hide fun (A : MacM) (W : World) (h : MachIs W A (stepM begunM 0 4)) => gmachMay_any A (stepM begunM 0 4) W h
  rw [show machMay (stepM begunM 0 4) = true by decide +kernel] at hZ
  obtain ⟨N1, hN1⟩ : ∃ N1, N1 = { (stepM begunM 0 4) with clocks := [lz (stepM begunM 0 4).clocks 0, lz (stepM begunM 0 4).clocks 1, (-(1 + r)), lz (stepM begunM 0 4).clocks 3] } := ⟨_, rfl⟩
  have hMay : machMay N1 = false := by
    rw [hN1]
    exact (may_clock2 (upToV_not (.inl (by omega))))
  have hT := hide fun (A : MacM) (W : World) (h : MachIs W A N1) => gtelling_any A N1 0 6 0 W h
  rw [telling_not hMay] at hT
  have hY := hide fun (A : MacM) (W : World) (h : MachIs W A N1) => gmachMay_any A N1 W h
  rw [hMay] at hY
  clear hMay
  replace hN1 := hide hN1
  generalize stepM begunM 0 4 = N at *
  go_enter Tryz.func4, Tryz.ntmps4
  go_wp2_with fail
  refine (hAw.out _).mono ?_
  (rintro e Wq ⟨rfl, hb⟩; have HSq := hide (HS.out.on hb); clear HS hb; replace HS := HSq; clear HSq)
  clear hAw
  go_wp2_with fail
  refine (hB.out _).mono ?_
  (rintro e Wq ⟨A1, rfl, hO, hb⟩; have HSq := hide (HS.out.push hb (machI (fun k => _) A1 _) (machI_loc _ _ _) hO fun k hk => hk); generalize (fun k => _) = D1 at HSq; clear HS hb hO; replace HS := HSq; clear HSq)
  go_upto_region 5 with (first | ((with_reducible refine isList ?_); first | (refine st_alloc HS _ rfl rfl zeroML zeroM ?_; clear HS; intro W b6 HS) | (refine st_storeA HS 0 rfl _ _ _ rfl rfl rfl _ rfl rfl (by kernel_rfl) rfl ?_; clear HS; intro W HS)))
  replace HS : Hid (St w W [blkI b6 (machL A1 N), machI D1 A1 N]) := HS
  obtain ⟨n1, g⟩ := MachOwn.sfact (show MachOwn D1 _ A1 N from HS.out.get 1 rfl) sN.out
  obtain ⟨bs1, hbs1, _⟩ := g (by decide)
  clear g
  obtain ⟨n0, g⟩ := MachOwn.wfact (show MachOwn D1 _ A1 N from HS.out.get 1 rfl) (g := 0) (m := 2) (by decide) lN.out
  obtain ⟨w0, e0, _⟩ := g (by decide)
  clear g
  obtain ⟨c9, _⟩ := MachOwn.scell (show MachOwn D1 _ A1 N from HS.out.get 1 rfl) (HS.out.blk 0 rfl) sN.out hbs1
  obtain ⟨c0, _⟩ := MachOwn.lcell (show MachOwn D1 _ A1 N from HS.out.get 1 rfl) (g := 0) (by decide) (HS.out.blk 0 rfl) lN.out e0
  replace n1 := hide n1; replace n0 := hide n0; replace hbs1 := hide hbs1; replace e0 := hide e0
  go_upto_region 19 with fail
  clear c9 c0
  have v0 : IntKind.i64.wrap (-(1 + r)) = (-(1 + r)) := IntWalk.i64_in _ ⟨by omega, by omega⟩
  go_upto_region 28 with (first | ((with_reducible refine isList ?_); first | (refine st_store1 HS 0 rfl _ _ _ rfl _ rfl rfl rfl (by decide +kernel) rfl rfl ?_; clear HS; intro W HS)))
  replace HS : Hid (St w W [blkI b6 (machL A1 { N with clocks := [lz N.clocks 0, lz N.clocks 1, (-(1 + r)), lz N.clocks 3] }), machI D1 A1 { N with clocks := [lz N.clocks 0, lz N.clocks 1, (-(1 + r)), lz N.clocks 3] }]) := hide (HS.out.withClk 1 rfl (l := [lz N.clocks 0, lz N.clocks 1, (-(1 + r)), lz N.clocks 3]) rfl)
  rw [← hN1.out] at HS
  replace HS : Hid (St w _ [blkI b6 (machL A1 N1), machI D1 A1 N1]) := HS
  go_wp2_with (first | ((with_reducible refine isList ?_); first | (refine st_loadA HS 0 rfl _ _ rfl rfl rfl (by decide +kernel) (by kernel_rfl) ?_)))
  refine (hT.out _ _ (MachOwn.is (show MachOwn D1 _ A1 N1 from HS.out.get 1 rfl))).mono ?_
  (rintro e Wq ⟨A2, rfl, hO, hb⟩; have HSq := hide (HS.out.push hb (machI (fun k => _) A2 _) (machI_loc _ _ _) hO fun k hk => hk); generalize (fun k => _) = D2 at HSq; clear HS hb hO; replace HS := HSq; clear HSq)
  clear hT
  go_wp2_with (first | ((with_reducible refine isList ?_); first | (refine st_alloc HS _ rfl rfl zeroML zeroM ?_; clear HS; intro W b7 HS) | (refine st_storeA HS 0 rfl _ _ _ rfl rfl rfl _ rfl rfl (by kernel_rfl) rfl ?_; clear HS; intro W HS)))
  refine (hB.out _).mono ?_
  (rintro e Wq ⟨A3, rfl, hO, hb⟩; have HSq := hide (HS.out.push hb (machI (fun k => _) A3 _) (machI_loc _ _ _) hO fun k hk => hk); generalize (fun k => _) = D3 at HSq; clear HS hb hO; replace HS := HSq; clear HSq)
  go_wp2_with fail
  refine (hZ.out A3 _ (MachOwn.is (show MachOwn D3 _ A3 N from HS.out.get 0 rfl))).mono ?_
  (rintro e Wq ⟨rfl, hb⟩; have HSq := hide (HS.out.on hb); clear HS hb; replace HS := HSq; clear HSq)
  go_wp2_with (first | ((with_reducible refine isList ?_); first | (refine st_loadA HS 3 rfl _ _ rfl rfl rfl (by decide +kernel) (by kernel_rfl) ?_)))
  refine (hY.out _ _ (MachOwn.is (show MachOwn D1 _ A1 N1 from HS.out.get 4 rfl))).mono ?_
  (rintro e Wq ⟨rfl, hb⟩; have HSq := hide (HS.out.on hb); clear HS hb; replace HS := HSq; clear HSq)
  go_wp2_with (go_at_call 21; refine (num_any _ _).mono ?_; rintro e w' ⟨rfl, rfl⟩)
  go_ret
  exact ⟨rfl, HS.out.below⟩
set_option maxRecDepth 100000 in
set_option maxHeartbeats 4000000 in
theorem machForms_6 (a0 a1 r : Int) (w : World) (hd : bits .and .i64 a1 1023 = r) (r0 : 0 ≤ r) (r1 : r ≤ 1023) (hp : (IntKind.u64.wrap a0).tmod 10 = 6) :
    Calls Tryz.prog 4 #[.int .i64 a0, .int .i64 a1] w fun e w' => e = .returned (.bool true) ∧ Below w.heap.size w w' := by
  have HS := hide (St.refl w)
  have hAw := hide fun (W : World) => awake12_any W
  have hB := hide fun (W : World) => stepped12_any 0 4 (by decide) W
  have sN : Hid ((stepM begunM 0 4).sess.length = 2) := by show _ = 2; decide +kernel
  have lN : Hid (((stepM begunM 0 4).lv 0).length = 2 * 3) := by show _ = _; decide +kernel
  have cN : Hid ((stepM begunM 0 4).ceil = 9) := by show _ = _; decide +kernel
  have hZ := hide fun (A : MacM) (W : World) (h : MachIs W A (stepM begunM 0 4)) => gmachMay_any A (stepM begunM 0 4) W h
  rw [show machMay (stepM begunM 0 4) = true by decide +kernel] at hZ
  obtain ⟨N1, hN1⟩ : ∃ N1, N1 = (stepM begunM 0 4).doN 1 0 3 := ⟨_, rfl⟩
  have hMay : machMay N1 = false := by
    rw [hN1]
    exact (by decide +kernel)
  have hT := hide fun (A : MacM) (W : World) (h : MachIs W A N1) => gtelling_any A N1 0 6 0 W h
  rw [telling_not hMay] at hT
  have hY := hide fun (A : MacM) (W : World) (h : MachIs W A N1) => gmachMay_any A N1 W h
  rw [hMay] at hY
  clear hMay
  replace hN1 := hide hN1
  generalize stepM begunM 0 4 = N at *
  go_enter Tryz.func4, Tryz.ntmps4
  go_wp2_with fail
  refine (hAw.out _).mono ?_
  (rintro e Wq ⟨rfl, hb⟩; have HSq := hide (HS.out.on hb); clear HS hb; replace HS := HSq; clear HSq)
  clear hAw
  go_wp2_with fail
  refine (hB.out _).mono ?_
  (rintro e Wq ⟨A1, rfl, hO, hb⟩; have HSq := hide (HS.out.push hb (machI (fun k => _) A1 _) (machI_loc _ _ _) hO fun k hk => hk); generalize (fun k => _) = D1 at HSq; clear HS hb hO; replace HS := HSq; clear HSq)
  go_upto_region 5 with (first | ((with_reducible refine isList ?_); first | (refine st_alloc HS _ rfl rfl zeroML zeroM ?_; clear HS; intro W b6 HS) | (refine st_storeA HS 0 rfl _ _ _ rfl rfl rfl _ rfl rfl (by kernel_rfl) rfl ?_; clear HS; intro W HS)))
  replace HS : Hid (St w W [blkI b6 (machL A1 N), machI D1 A1 N]) := HS
  obtain ⟨n1, g⟩ := MachOwn.sfact (show MachOwn D1 _ A1 N from HS.out.get 1 rfl) sN.out
  obtain ⟨bs1, hbs1, _⟩ := g (by decide)
  clear g
  obtain ⟨n0, g⟩ := MachOwn.wfact (show MachOwn D1 _ A1 N from HS.out.get 1 rfl) (g := 0) (m := 2) (by decide) lN.out
  obtain ⟨w0, e0, _⟩ := g (by decide)
  clear g
  obtain ⟨c9, _⟩ := MachOwn.scell (show MachOwn D1 _ A1 N from HS.out.get 1 rfl) (HS.out.blk 0 rfl) sN.out hbs1
  obtain ⟨c0, _⟩ := MachOwn.lcell (show MachOwn D1 _ A1 N from HS.out.get 1 rfl) (g := 0) (by decide) (HS.out.blk 0 rfl) lN.out e0
  replace n1 := hide n1; replace n0 := hide n0; replace hbs1 := hide hbs1; replace e0 := hide e0
  go_upto_region 21 with fail
  clear c9 c0
  have hk1 : 1 < A1.s.n := by have := n1.out; omega
  have i1 : (1 : Int) < (A1.s.n : Int) := by omega
  replace hbs1 := hbs1.out
  go_upto_region 28 with (first | ((with_reducible refine isList ?_); first | (refine st_load1 HS 0 rfl _ _ rfl _ rfl rfl (by decide +kernel) rfl ?_) | (refine st_storeN HS 1 rfl (k := 1) hk1 hbs1 0 (by decide) _ _ _ rfl _ rfl rfl rfl rfl (by decide +kernel) ?_; clear HS; intro W HS)))
  clear hbs1 i1
  replace HS : Hid (St w W [blkI b6 (machL A1 (N.doN 1 0 3)), machI D1 A1 (N.doN 1 0 3)]) := HS
  rw [← hN1.out] at HS
  replace HS : Hid (St w _ [blkI b6 (machL A1 N1), machI D1 A1 N1]) := HS
  go_wp2_with (first | ((with_reducible refine isList ?_); first | (refine st_loadA HS 0 rfl _ _ rfl rfl rfl (by decide +kernel) (by kernel_rfl) ?_)))
  refine (hT.out _ _ (MachOwn.is (show MachOwn D1 _ A1 N1 from HS.out.get 1 rfl))).mono ?_
  (rintro e Wq ⟨A2, rfl, hO, hb⟩; have HSq := hide (HS.out.push hb (machI (fun k => _) A2 _) (machI_loc _ _ _) hO fun k hk => hk); generalize (fun k => _) = D2 at HSq; clear HS hb hO; replace HS := HSq; clear HSq)
  clear hT
  go_wp2_with (first | ((with_reducible refine isList ?_); first | (refine st_alloc HS _ rfl rfl zeroML zeroM ?_; clear HS; intro W b7 HS) | (refine st_storeA HS 0 rfl _ _ _ rfl rfl rfl _ rfl rfl (by kernel_rfl) rfl ?_; clear HS; intro W HS)))
  refine (hB.out _).mono ?_
  (rintro e Wq ⟨A3, rfl, hO, hb⟩; have HSq := hide (HS.out.push hb (machI (fun k => _) A3 _) (machI_loc _ _ _) hO fun k hk => hk); generalize (fun k => _) = D3 at HSq; clear HS hb hO; replace HS := HSq; clear HSq)
  go_wp2_with fail
  refine (hZ.out A3 _ (MachOwn.is (show MachOwn D3 _ A3 N from HS.out.get 0 rfl))).mono ?_
  (rintro e Wq ⟨rfl, hb⟩; have HSq := hide (HS.out.on hb); clear HS hb; replace HS := HSq; clear HSq)
  go_wp2_with (first | ((with_reducible refine isList ?_); first | (refine st_loadA HS 3 rfl _ _ rfl rfl rfl (by decide +kernel) (by kernel_rfl) ?_)))
  refine (hY.out _ _ (MachOwn.is (show MachOwn D1 _ A1 N1 from HS.out.get 4 rfl))).mono ?_
  (rintro e Wq ⟨rfl, hb⟩; have HSq := hide (HS.out.on hb); clear HS hb; replace HS := HSq; clear HSq)
  go_wp2_with (go_at_call 21; refine (num_any _ _).mono ?_; rintro e w' ⟨rfl, rfl⟩)
  go_ret
  exact ⟨rfl, HS.out.below⟩
set_option maxRecDepth 100000 in
set_option maxHeartbeats 4000000 in
theorem machForms_7 (a0 a1 r : Int) (w : World) (hd : bits .and .i64 a1 1023 = r) (r0 : 0 ≤ r) (r1 : r ≤ 1023) (hp : (IntKind.u64.wrap a0).tmod 10 = 7) :
    Calls Tryz.prog 4 #[.int .i64 a0, .int .i64 a1] w fun e w' => e = .returned (.bool true) ∧ Below w.heap.size w w' := by
  have HS := hide (St.refl w)
  have hAw := hide fun (W : World) => awake12_any W
  have hB := hide fun (W : World) => stepped12_any 0 4 (by decide) W
  have sN : Hid ((stepM begunM 0 4).sess.length = 2) := by show _ = 2; decide +kernel
  have lN : Hid (((stepM begunM 0 4).lv 0).length = 2 * 3) := by show _ = _; decide +kernel
  have cN : Hid ((stepM begunM 0 4).ceil = 9) := by show _ = _; decide +kernel
  have hZ := hide fun (A : MacM) (W : World) (h : MachIs W A (stepM begunM 0 4)) => gmachMay_any A (stepM begunM 0 4) W h
  rw [show machMay (stepM begunM 0 4) = true by decide +kernel] at hZ
  obtain ⟨N1, hN1⟩ : ∃ N1, N1 = (stepM begunM 0 4).doN 1 0 2 := ⟨_, rfl⟩
  have hMay : machMay N1 = false := by
    rw [hN1]
    exact (by decide +kernel)
  have hT := hide fun (A : MacM) (W : World) (h : MachIs W A N1) => gtelling_any A N1 0 6 0 W h
  rw [telling_not hMay] at hT
  have hY := hide fun (A : MacM) (W : World) (h : MachIs W A N1) => gmachMay_any A N1 W h
  rw [hMay] at hY
  clear hMay
  replace hN1 := hide hN1
  generalize stepM begunM 0 4 = N at *
  go_enter Tryz.func4, Tryz.ntmps4
  go_wp2_with fail
  refine (hAw.out _).mono ?_
  (rintro e Wq ⟨rfl, hb⟩; have HSq := hide (HS.out.on hb); clear HS hb; replace HS := HSq; clear HSq)
  clear hAw
  go_wp2_with fail
  refine (hB.out _).mono ?_
  (rintro e Wq ⟨A1, rfl, hO, hb⟩; have HSq := hide (HS.out.push hb (machI (fun k => _) A1 _) (machI_loc _ _ _) hO fun k hk => hk); generalize (fun k => _) = D1 at HSq; clear HS hb hO; replace HS := HSq; clear HSq)
  go_upto_region 5 with (first | ((with_reducible refine isList ?_); first | (refine st_alloc HS _ rfl rfl zeroML zeroM ?_; clear HS; intro W b6 HS) | (refine st_storeA HS 0 rfl _ _ _ rfl rfl rfl _ rfl rfl (by kernel_rfl) rfl ?_; clear HS; intro W HS)))
  replace HS : Hid (St w W [blkI b6 (machL A1 N), machI D1 A1 N]) := HS
  obtain ⟨n1, g⟩ := MachOwn.sfact (show MachOwn D1 _ A1 N from HS.out.get 1 rfl) sN.out
  obtain ⟨bs1, hbs1, _⟩ := g (by decide)
  clear g
  obtain ⟨n0, g⟩ := MachOwn.wfact (show MachOwn D1 _ A1 N from HS.out.get 1 rfl) (g := 0) (m := 2) (by decide) lN.out
  obtain ⟨w0, e0, _⟩ := g (by decide)
  clear g
  obtain ⟨c9, _⟩ := MachOwn.scell (show MachOwn D1 _ A1 N from HS.out.get 1 rfl) (HS.out.blk 0 rfl) sN.out hbs1
  obtain ⟨c0, _⟩ := MachOwn.lcell (show MachOwn D1 _ A1 N from HS.out.get 1 rfl) (g := 0) (by decide) (HS.out.blk 0 rfl) lN.out e0
  replace n1 := hide n1; replace n0 := hide n0; replace hbs1 := hide hbs1; replace e0 := hide e0
  go_upto_region 23 with fail
  clear c9 c0
  have hk1 : 1 < A1.s.n := by have := n1.out; omega
  have i1 : (1 : Int) < (A1.s.n : Int) := by omega
  replace hbs1 := hbs1.out
  go_upto_region 28 with (first | ((with_reducible refine isList ?_); first | (refine st_load1 HS 0 rfl _ _ rfl _ rfl rfl (by decide +kernel) rfl ?_) | (refine st_storeN HS 1 rfl (k := 1) hk1 hbs1 0 (by decide) _ _ _ rfl _ rfl rfl rfl rfl (by decide +kernel) ?_; clear HS; intro W HS)))
  clear hbs1 i1
  replace HS : Hid (St w W [blkI b6 (machL A1 (N.doN 1 0 2)), machI D1 A1 (N.doN 1 0 2)]) := HS
  rw [← hN1.out] at HS
  replace HS : Hid (St w _ [blkI b6 (machL A1 N1), machI D1 A1 N1]) := HS
  go_wp2_with (first | ((with_reducible refine isList ?_); first | (refine st_loadA HS 0 rfl _ _ rfl rfl rfl (by decide +kernel) (by kernel_rfl) ?_)))
  refine (hT.out _ _ (MachOwn.is (show MachOwn D1 _ A1 N1 from HS.out.get 1 rfl))).mono ?_
  (rintro e Wq ⟨A2, rfl, hO, hb⟩; have HSq := hide (HS.out.push hb (machI (fun k => _) A2 _) (machI_loc _ _ _) hO fun k hk => hk); generalize (fun k => _) = D2 at HSq; clear HS hb hO; replace HS := HSq; clear HSq)
  clear hT
  go_wp2_with (first | ((with_reducible refine isList ?_); first | (refine st_alloc HS _ rfl rfl zeroML zeroM ?_; clear HS; intro W b7 HS) | (refine st_storeA HS 0 rfl _ _ _ rfl rfl rfl _ rfl rfl (by kernel_rfl) rfl ?_; clear HS; intro W HS)))
  refine (hB.out _).mono ?_
  (rintro e Wq ⟨A3, rfl, hO, hb⟩; have HSq := hide (HS.out.push hb (machI (fun k => _) A3 _) (machI_loc _ _ _) hO fun k hk => hk); generalize (fun k => _) = D3 at HSq; clear HS hb hO; replace HS := HSq; clear HSq)
  go_wp2_with fail
  refine (hZ.out A3 _ (MachOwn.is (show MachOwn D3 _ A3 N from HS.out.get 0 rfl))).mono ?_
  (rintro e Wq ⟨rfl, hb⟩; have HSq := hide (HS.out.on hb); clear HS hb; replace HS := HSq; clear HSq)
  go_wp2_with (first | ((with_reducible refine isList ?_); first | (refine st_loadA HS 3 rfl _ _ rfl rfl rfl (by decide +kernel) (by kernel_rfl) ?_)))
  refine (hY.out _ _ (MachOwn.is (show MachOwn D1 _ A1 N1 from HS.out.get 4 rfl))).mono ?_
  (rintro e Wq ⟨rfl, hb⟩; have HSq := hide (HS.out.on hb); clear HS hb; replace HS := HSq; clear HSq)
  go_wp2_with (go_at_call 21; refine (num_any _ _).mono ?_; rintro e w' ⟨rfl, rfl⟩)
  go_ret
  exact ⟨rfl, HS.out.below⟩
set_option maxRecDepth 100000 in
set_option maxHeartbeats 4000000 in
theorem machForms_8 (a0 a1 r : Int) (w : World) (hd : bits .and .i64 a1 1023 = r) (r0 : 0 ≤ r) (r1 : r ≤ 1023) (hp : (IntKind.u64.wrap a0).tmod 10 = 8) :
    Calls Tryz.prog 4 #[.int .i64 a0, .int .i64 a1] w fun e w' => e = .returned (.bool true) ∧ Below w.heap.size w w' := by
  have HS := hide (St.refl w)
  have hAw := hide fun (W : World) => awake12_any W
  have hB := hide fun (W : World) => stepped12_any 0 4 (by decide) W
  have sN : Hid ((stepM begunM 0 4).sess.length = 2) := by show _ = 2; decide +kernel
  have lN : Hid (((stepM begunM 0 4).lv 0).length = 2 * 3) := by show _ = _; decide +kernel
  have cN : Hid ((stepM begunM 0 4).ceil = 9) := by show _ = _; decide +kernel
  have hZ := hide fun (A : MacM) (W : World) (h : MachIs W A (stepM begunM 0 4)) => gmachMay_any A (stepM begunM 0 4) W h
  rw [show machMay (stepM begunM 0 4) = true by decide +kernel] at hZ
  obtain ⟨N1, hN1⟩ : ∃ N1, N1 = (stepM begunM 0 4).doN 0 1 (3 + (1 + r)) := ⟨_, rfl⟩
  have hMay : machMay N1 = false := by
    rw [hN1]
    exact (may_num (by decide +kernel) (by decide +kernel) (by decide) fun s ok e => by have := upToV_yes ok.label; rw [e] at this; omega)
  have hT := hide fun (A : MacM) (W : World) (h : MachIs W A N1) => gtelling_any A N1 0 6 0 W h
  rw [telling_not hMay] at hT
  have hY := hide fun (A : MacM) (W : World) (h : MachIs W A N1) => gmachMay_any A N1 W h
  rw [hMay] at hY
  clear hMay
  replace hN1 := hide hN1
  generalize stepM begunM 0 4 = N at *
  go_enter Tryz.func4, Tryz.ntmps4
  go_wp2_with fail
  refine (hAw.out _).mono ?_
  (rintro e Wq ⟨rfl, hb⟩; have HSq := hide (HS.out.on hb); clear HS hb; replace HS := HSq; clear HSq)
  clear hAw
  go_wp2_with fail
  refine (hB.out _).mono ?_
  (rintro e Wq ⟨A1, rfl, hO, hb⟩; have HSq := hide (HS.out.push hb (machI (fun k => _) A1 _) (machI_loc _ _ _) hO fun k hk => hk); generalize (fun k => _) = D1 at HSq; clear HS hb hO; replace HS := HSq; clear HSq)
  go_upto_region 5 with (first | ((with_reducible refine isList ?_); first | (refine st_alloc HS _ rfl rfl zeroML zeroM ?_; clear HS; intro W b6 HS) | (refine st_storeA HS 0 rfl _ _ _ rfl rfl rfl _ rfl rfl (by kernel_rfl) rfl ?_; clear HS; intro W HS)))
  replace HS : Hid (St w W [blkI b6 (machL A1 N), machI D1 A1 N]) := HS
  obtain ⟨n1, g⟩ := MachOwn.sfact (show MachOwn D1 _ A1 N from HS.out.get 1 rfl) sN.out
  obtain ⟨bs1, hbs1, _⟩ := g (by decide)
  clear g
  obtain ⟨n0, g⟩ := MachOwn.wfact (show MachOwn D1 _ A1 N from HS.out.get 1 rfl) (g := 0) (m := 2) (by decide) lN.out
  obtain ⟨w0, e0, _⟩ := g (by decide)
  clear g
  obtain ⟨c9, _⟩ := MachOwn.scell (show MachOwn D1 _ A1 N from HS.out.get 1 rfl) (HS.out.blk 0 rfl) sN.out hbs1
  obtain ⟨c0, _⟩ := MachOwn.lcell (show MachOwn D1 _ A1 N from HS.out.get 1 rfl) (g := 0) (by decide) (HS.out.blk 0 rfl) lN.out e0
  replace n1 := hide n1; replace n0 := hide n0; replace hbs1 := hide hbs1; replace e0 := hide e0
  have v0 : IntKind.i64.wrap (3 + (1 + r)) = (3 + (1 + r)) := IntWalk.i64_in _ ⟨by omega, by omega⟩
  go_upto_region 25 with fail
  clear c9 c0
  have hk1 : 0 < A1.s.n := by have := n1.out; omega
  have i1 : (0 : Int) < (A1.s.n : Int) := by omega
  replace hbs1 := hbs1.out
  go_upto_region 28 with (first | ((with_reducible refine isList ?_); first | (refine st_load1 HS 0 rfl _ _ rfl _ rfl rfl (by decide +kernel) rfl ?_) | (refine st_storeN HS 1 rfl (k := 0) hk1 hbs1 1 (by decide) _ _ _ rfl _ rfl rfl rfl rfl (by decide +kernel) ?_; clear HS; intro W HS)))
  clear hbs1 i1
  replace HS : Hid (St w W [blkI b6 (machL A1 (N.doN 0 1 (3 + (1 + r)))), machI D1 A1 (N.doN 0 1 (3 + (1 + r)))]) := HS
  rw [← hN1.out] at HS
  replace HS : Hid (St w _ [blkI b6 (machL A1 N1), machI D1 A1 N1]) := HS
  go_wp2_with (first | ((with_reducible refine isList ?_); first | (refine st_loadA HS 0 rfl _ _ rfl rfl rfl (by decide +kernel) (by kernel_rfl) ?_)))
  refine (hT.out _ _ (MachOwn.is (show MachOwn D1 _ A1 N1 from HS.out.get 1 rfl))).mono ?_
  (rintro e Wq ⟨A2, rfl, hO, hb⟩; have HSq := hide (HS.out.push hb (machI (fun k => _) A2 _) (machI_loc _ _ _) hO fun k hk => hk); generalize (fun k => _) = D2 at HSq; clear HS hb hO; replace HS := HSq; clear HSq)
  clear hT
  go_wp2_with (first | ((with_reducible refine isList ?_); first | (refine st_alloc HS _ rfl rfl zeroML zeroM ?_; clear HS; intro W b7 HS) | (refine st_storeA HS 0 rfl _ _ _ rfl rfl rfl _ rfl rfl (by kernel_rfl) rfl ?_; clear HS; intro W HS)))
  refine (hB.out _).mono ?_
  (rintro e Wq ⟨A3, rfl, hO, hb⟩; have HSq := hide (HS.out.push hb (machI (fun k => _) A3 _) (machI_loc _ _ _) hO fun k hk => hk); generalize (fun k => _) = D3 at HSq; clear HS hb hO; replace HS := HSq; clear HSq)
  go_wp2_with fail
  refine (hZ.out A3 _ (MachOwn.is (show MachOwn D3 _ A3 N from HS.out.get 0 rfl))).mono ?_
  (rintro e Wq ⟨rfl, hb⟩; have HSq := hide (HS.out.on hb); clear HS hb; replace HS := HSq; clear HSq)
  go_wp2_with (first | ((with_reducible refine isList ?_); first | (refine st_loadA HS 3 rfl _ _ rfl rfl rfl (by decide +kernel) (by kernel_rfl) ?_)))
  refine (hY.out _ _ (MachOwn.is (show MachOwn D1 _ A1 N1 from HS.out.get 4 rfl))).mono ?_
  (rintro e Wq ⟨rfl, hb⟩; have HSq := hide (HS.out.on hb); clear HS hb; replace HS := HSq; clear HSq)
  go_wp2_with (go_at_call 21; refine (num_any _ _).mono ?_; rintro e w' ⟨rfl, rfl⟩)
  go_ret
  exact ⟨rfl, HS.out.below⟩
set_option maxRecDepth 100000 in
set_option maxHeartbeats 4000000 in
theorem machForms_9 (a0 a1 r : Int) (w : World) (hd : bits .and .i64 a1 1023 = r) (r0 : 0 ≤ r) (r1 : r ≤ 1023) (hp : (IntKind.u64.wrap a0).tmod 10 = 9) :
    Calls Tryz.prog 4 #[.int .i64 a0, .int .i64 a1] w fun e w' => e = .returned (.bool true) ∧ Below w.heap.size w w' := by
  have HS := hide (St.refl w)
  have hAw := hide fun (W : World) => awake12_any W
  have hB := hide fun (W : World) => stepped12_any 0 4 (by decide) W
  have sN : Hid ((stepM begunM 0 4).sess.length = 2) := by show _ = 2; decide +kernel
  have lN : Hid (((stepM begunM 0 4).lv 0).length = 2 * 3) := by show _ = _; decide +kernel
  have cN : Hid ((stepM begunM 0 4).ceil = 9) := by show _ = _; decide +kernel
  have hZ := hide fun (A : MacM) (W : World) (h : MachIs W A (stepM begunM 0 4)) => gmachMay_any A (stepM begunM 0 4) W h
  rw [show machMay (stepM begunM 0 4) = true by decide +kernel] at hZ
  obtain ⟨N1, hN1⟩ : ∃ N1, N1 = (stepM begunM 0 4).doN 1 2 2 := ⟨_, rfl⟩
  have hMay : machMay N1 = false := by
    rw [hN1]
    exact (by decide +kernel)
  have hT := hide fun (A : MacM) (W : World) (h : MachIs W A N1) => gtelling_any A N1 0 6 0 W h
  rw [telling_not hMay] at hT
  have hY := hide fun (A : MacM) (W : World) (h : MachIs W A N1) => gmachMay_any A N1 W h
  rw [hMay] at hY
  clear hMay
  replace hN1 := hide hN1
  generalize stepM begunM 0 4 = N at *
  go_enter Tryz.func4, Tryz.ntmps4
  go_wp2_with fail
  refine (hAw.out _).mono ?_
  (rintro e Wq ⟨rfl, hb⟩; have HSq := hide (HS.out.on hb); clear HS hb; replace HS := HSq; clear HSq)
  clear hAw
  go_wp2_with fail
  refine (hB.out _).mono ?_
  (rintro e Wq ⟨A1, rfl, hO, hb⟩; have HSq := hide (HS.out.push hb (machI (fun k => _) A1 _) (machI_loc _ _ _) hO fun k hk => hk); generalize (fun k => _) = D1 at HSq; clear HS hb hO; replace HS := HSq; clear HSq)
  go_upto_region 5 with (first | ((with_reducible refine isList ?_); first | (refine st_alloc HS _ rfl rfl zeroML zeroM ?_; clear HS; intro W b6 HS) | (refine st_storeA HS 0 rfl _ _ _ rfl rfl rfl _ rfl rfl (by kernel_rfl) rfl ?_; clear HS; intro W HS)))
  replace HS : Hid (St w W [blkI b6 (machL A1 N), machI D1 A1 N]) := HS
  obtain ⟨n1, g⟩ := MachOwn.sfact (show MachOwn D1 _ A1 N from HS.out.get 1 rfl) sN.out
  obtain ⟨bs1, hbs1, _⟩ := g (by decide)
  clear g
  obtain ⟨n0, g⟩ := MachOwn.wfact (show MachOwn D1 _ A1 N from HS.out.get 1 rfl) (g := 0) (m := 2) (by decide) lN.out
  obtain ⟨w0, e0, _⟩ := g (by decide)
  clear g
  obtain ⟨c9, _⟩ := MachOwn.scell (show MachOwn D1 _ A1 N from HS.out.get 1 rfl) (HS.out.blk 0 rfl) sN.out hbs1
  obtain ⟨c0, _⟩ := MachOwn.lcell (show MachOwn D1 _ A1 N from HS.out.get 1 rfl) (g := 0) (by decide) (HS.out.blk 0 rfl) lN.out e0
  replace n1 := hide n1; replace n0 := hide n0; replace hbs1 := hide hbs1; replace e0 := hide e0
  go_upto_region 27 with fail
  clear c9 c0
  have hk1 : 1 < A1.s.n := by have := n1.out; omega
  have i1 : (1 : Int) < (A1.s.n : Int) := by omega
  replace hbs1 := hbs1.out
  go_upto_region 28 with (first | ((with_reducible refine isList ?_); first | (refine st_load1 HS 0 rfl _ _ rfl _ rfl rfl (by decide +kernel) rfl ?_) | (refine st_storeN HS 1 rfl (k := 1) hk1 hbs1 2 (by decide) _ _ _ rfl _ rfl rfl rfl rfl (by decide +kernel) ?_; clear HS; intro W HS)))
  clear hbs1 i1
  replace HS : Hid (St w W [blkI b6 (machL A1 (N.doN 1 2 2)), machI D1 A1 (N.doN 1 2 2)]) := HS
  rw [← hN1.out] at HS
  replace HS : Hid (St w _ [blkI b6 (machL A1 N1), machI D1 A1 N1]) := HS
  go_wp2_with (first | ((with_reducible refine isList ?_); first | (refine st_loadA HS 0 rfl _ _ rfl rfl rfl (by decide +kernel) (by kernel_rfl) ?_)))
  refine (hT.out _ _ (MachOwn.is (show MachOwn D1 _ A1 N1 from HS.out.get 1 rfl))).mono ?_
  (rintro e Wq ⟨A2, rfl, hO, hb⟩; have HSq := hide (HS.out.push hb (machI (fun k => _) A2 _) (machI_loc _ _ _) hO fun k hk => hk); generalize (fun k => _) = D2 at HSq; clear HS hb hO; replace HS := HSq; clear HSq)
  clear hT
  go_wp2_with (first | ((with_reducible refine isList ?_); first | (refine st_alloc HS _ rfl rfl zeroML zeroM ?_; clear HS; intro W b7 HS) | (refine st_storeA HS 0 rfl _ _ _ rfl rfl rfl _ rfl rfl (by kernel_rfl) rfl ?_; clear HS; intro W HS)))
  refine (hB.out _).mono ?_
  (rintro e Wq ⟨A3, rfl, hO, hb⟩; have HSq := hide (HS.out.push hb (machI (fun k => _) A3 _) (machI_loc _ _ _) hO fun k hk => hk); generalize (fun k => _) = D3 at HSq; clear HS hb hO; replace HS := HSq; clear HSq)
  go_wp2_with fail
  refine (hZ.out A3 _ (MachOwn.is (show MachOwn D3 _ A3 N from HS.out.get 0 rfl))).mono ?_
  (rintro e Wq ⟨rfl, hb⟩; have HSq := hide (HS.out.on hb); clear HS hb; replace HS := HSq; clear HSq)
  go_wp2_with (first | ((with_reducible refine isList ?_); first | (refine st_loadA HS 3 rfl _ _ rfl rfl rfl (by decide +kernel) (by kernel_rfl) ?_)))
  refine (hY.out _ _ (MachOwn.is (show MachOwn D1 _ A1 N1 from HS.out.get 4 rfl))).mono ?_
  (rintro e Wq ⟨rfl, hb⟩; have HSq := hide (HS.out.on hb); clear HS hb; replace HS := HSq; clear HSq)
  go_wp2_with (go_at_call 21; refine (num_any _ _).mono ?_; rintro e w' ⟨rfl, rfl⟩)
  go_ret
  exact ⟨rfl, HS.out.below⟩
theorem machForms_any (a0 a1 : Int) (w : World) :
    Calls Tryz.prog 4 #[.int .i64 a0, .int .i64 a1] w fun e w' => e = .returned (.bool true) ∧ Below w.heap.size w w' := by
  have h0 : 0 ≤ IntKind.u64.wrap a0 := by rw [IntKind.wrap_u64]; omega
  have h1 := Int.tmod_nonneg 10 h0
  have h2 := Int.tmod_lt_of_pos (IntKind.u64.wrap a0) (show (0 : Int) < 10 by decide)
  have r0 : 0 ≤ a1 % 1024 := by omega
  have r1 : a1 % 1024 ≤ 1023 := by omega
  generalize hq : (IntKind.u64.wrap a0).tmod 10 = c at h1 h2
  have : c = 0 ∨ c = 1 ∨ c = 2 ∨ c = 3 ∨ c = 4 ∨ c = 5 ∨ c = 6 ∨ c = 7 ∨ c = 8 ∨ c = 9 := by omega
  rcases this with rfl | rfl | rfl | rfl | rfl | rfl | rfl | rfl | rfl | rfl
  · exact machForms_0 a0 a1 _ w (mask1023 _) r0 r1 hq
  · exact machForms_1 a0 a1 _ w (mask1023 _) r0 r1 hq
  · exact machForms_2 a0 a1 _ w (mask1023 _) r0 r1 hq
  · exact machForms_3 a0 a1 _ w (mask1023 _) r0 r1 hq
  · exact machForms_4 a0 a1 _ w (mask1023 _) r0 r1 hq
  · exact machForms_5 a0 a1 _ w (mask1023 _) r0 r1 hq
  · exact machForms_6 a0 a1 _ w (mask1023 _) r0 r1 hq
  · exact machForms_7 a0 a1 _ w (mask1023 _) r0 r1 hq
  · exact machForms_8 a0 a1 _ w (mask1023 _) r0 r1 hq
  · exact machForms_9 a0 a1 _ w (mask1023 _) r0 r1 hq
end Go.Proofs.YtaaenolbfhhnfaaGreat
