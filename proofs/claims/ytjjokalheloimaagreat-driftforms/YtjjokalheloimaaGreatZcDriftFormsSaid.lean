/-
  The law DriftForms. (Written by wip/tools/gen_driftforms.py)
-/
import Derived.Test.YtjjokalheloimaaGreatZhAwake14
import Derived.Test.YtjjokalheloimaaGreatZlbb
import Derived.Test.YtjjokalheloimaaGreatZlaf
import Derived.Test.YtjjokalheloimaaGreatZlab
import Derived.Test.YtjjokalheloimaaGreatZlbe
namespace Go.Proofs.YtjjokalheloimaaGreat
open Go.RowKit
set_option linter.unusedSimpArgs false
set_option linter.unusedVariables false
theorem field_sess (v0 v1 v2 v3 v4 v5 v6 v7 v8 v9 v10 : Value) (W : World) : Sem.run Tryz.prog (Instr.field 34 (.agg #[v0, v1, v2, v3, v4, v5, v6, v7, v8, v9, v10]) 3) W = .ok v9 W := by
  kernel_rfl
set_option maxRecDepth 100000 in
set_option maxHeartbeats 4000000 in
theorem driftForms_0 (a0 a1 r : Int) (w : World) (hd : bits .and .i64 a1 1023 = r) (r0 : 0 ≤ r) (r1 : r ≤ 1023) (hp : (IntKind.u64.wrap a0).tmod 6 = 0) (p : Nat) (hq : bits .and .i64 (a0 / 8) 1 = p) (hp2 : (p : Int) < 2) :
    Calls Tryz.prog 18 #[.int .i64 a0, .int .i64 a1] w fun e w' => e = .returned (.bool true) ∧ Below w.heap.size w w' := by
  have HS := hide (St.refl w)
  have hAw := hide fun (W : World) => awake14_any W
  have hH := hide fun (W : World) => high14_any 3 W
  have hB := hide fun (W : World) => begun14_any W
  have hP := hide fun (W : World) => stepped14_any 0 1 (by decide) W
  have sP : Hid ((stepM begunM 0 1).sess.length = 2) := by show _ = 2; decide +kernel
  have hR := hide fun (A : MacM) (W : World) (h : MachIs W A begunM) => rneeds_any A begunM 0 W h
  rw [show needsP begunM 0 = (false, 0) by decide +kernel] at hR
  have sN : Hid ((highM 3).sess.length = 2) := by show _ = 2; decide +kernel
  obtain ⟨x, hx, hxx⟩ := pick_two (-(1 + r)) (1 + (1 + r)) p (by omega)
  generalize highM 3 = N at *
  have hN : needsP N x = (false, 1400) := needs_out (here_out (by rw [sN.out]; omega))
  have hA := hide fun (A : MacM) (W : World) (h : MachIs W A N) => driftNeeds_any A N x W h
  have hE := hide fun (A : MacM) (W : World) (h : MachIs W A N) => driftStep_any A N x W h
  rw [hN] at hA
  rw [drift_out hN] at hE
  clear hN
  go_enter Tryz.func18, Tryz.ntmps18
  go_wp2_with fail
  refine (hAw.out _).mono ?_
  (rintro e Wq ⟨rfl, hb⟩; have HSq := hide (HS.out.on hb); clear HS hb; replace HS := HSq; clear HSq)
  clear hAw
  go_wp2_with fail
  refine (hH.out _).mono ?_
  (rintro e Wq ⟨A1, rfl, hO, hb⟩; have HSq := hide (HS.out.push hb (machI (fun k => _) A1 _) (machI_loc _ _ _) hO fun k hk => hk); generalize (fun k => _) = D1 at HSq; clear HS hb hO; replace HS := HSq; clear HSq)
  clear hH
  replace hxx := hide hxx
  go_upto_region 8 with (first | ((with_reducible refine isList ?_); first | (refine st_alloc HS _ rfl rfl zeroML zeroM ?_; clear HS; intro W b6 HS) | (refine st_storeA HS 0 rfl _ _ _ rfl rfl rfl _ rfl rfl (by kernel_rfl) rfl ?_; clear HS; intro W HS)))
  go_upto_region 17 with fail
  replace HS := hide ((HS.out.alloc [.int .i64 (-(1 + r)), .int .i64 (1 + (1 + r))] 3).sel [1, 2] (by decide) rfl)
  replace HS : Hid (St w _ [blkI b6 (machL A1 N), machI D1 A1 N]) := HS
  go_wp2_with (first | ((with_reducible refine isList ?_); first | (refine st_loadA HS 0 rfl _ _ rfl rfl rfl (by decide +kernel) (by kernel_rfl) ?_)))
  refine (hA.out _ _ (MachOwn.is (show MachOwn D1 _ A1 N from HS.out.get 1 rfl))).mono ?_
  (rintro e Wq ⟨rfl, hb⟩; have HSq := hide (HS.out.on hb); clear HS hb; replace HS := HSq; clear HSq)
  go_wp2_with (first | ((with_reducible refine isList ?_); first | (refine st_loadA HS 0 rfl _ _ rfl rfl rfl (by decide +kernel) (by kernel_rfl) ?_)))
  refine (hE.out _ _ (MachOwn.is (show MachOwn D1 _ A1 N from HS.out.get 1 rfl))).mono ?_
  (rintro e Wq ⟨A2, rfl, hO, hb⟩; have HSq := hide (HS.out.push hb (machI (fun k => _) A2 _) (machI_loc _ _ _) hO fun k hk => hk); generalize (fun k => _) = D2 at HSq; clear HS hb hO; replace HS := HSq; clear HSq)
  go_wp2_with (first | ((with_reducible refine isList ?_); first | (refine st_alloc HS _ rfl rfl zeroML zeroM ?_; clear HS; intro W ba HS) | (refine st_storeA HS 0 rfl _ _ _ rfl rfl rfl _ rfl rfl (by kernel_rfl) rfl ?_; clear HS; intro W HS) | (refine st_loadA HS 2 rfl _ _ rfl rfl rfl (by decide +kernel) (by kernel_rfl) ?_)))
  refine (hB.out _).mono ?_
  (rintro e Wq ⟨A3, rfl, hO, hb⟩; have HSq := hide (HS.out.push hb (machI (fun k => _) A3 _) (machI_loc _ _ _) hO fun k hk => hk); generalize (fun k => _) = D3 at HSq; clear HS hb hO; replace HS := HSq; clear HSq)
  go_wp2_with (first | ((with_reducible refine isList ?_); first | (refine st_loadA HS 0 rfl _ _ rfl rfl rfl (by decide +kernel) (by kernel_rfl) ?_)))
  refine (hR.out A3 _ (MachOwn.is (show MachOwn D3 _ A3 begunM from HS.out.get 0 rfl))).mono ?_
  (rintro e Wq ⟨rfl, hb⟩; have HSq := hide (HS.out.on hb); clear HS hb; replace HS := HSq; clear HSq)
  go_wp2_with (first | ((with_reducible refine isList ?_); first | (refine st_loadA HS 1 rfl _ _ rfl rfl rfl (by decide +kernel) (by kernel_rfl) ?_)) | (go_at_call 27; refine (num_any _ _).mono ?_; rintro e w' ⟨rfl, rfl⟩))
  refine (sameMachine_yes A2 noMac noMach _ (MachOwn.is (show MachOwn D2 _ A2 noMach from HS.out.get 2 rfl)) (machIs_none _)).mono ?_
  (rintro e Wq ⟨rfl, hb⟩; have HSq := hide (HS.out.on hb); clear HS hb; replace HS := HSq; clear HSq)
  go_wp2_with (first | (go_at_call 27; refine (num_any _ _).mono ?_; rintro e w' ⟨rfl, rfl⟩))
  refine (hP.out _).mono ?_
  (rintro e Wq ⟨A4, rfl, hO, hb⟩; have HSq := hide (HS.out.push hb (machI (fun k => _) A4 _) (machI_loc _ _ _) hO fun k hk => hk); generalize (fun k => _) = D4 at HSq; clear HS hb hO; replace HS := HSq; clear HSq)
  have n4 : A4.s.n = 2 := by
    have h1 := (MachOwn.is (show MachOwn D4 _ A4 (stepM begunM 0 1) from HS.out.get 0 rfl)).sess.1
    rw [sP.out] at h1
    omega
  rw [show machA A4 (stepM begunM 0 1) = .agg (macL A4.w (lz (stepM begunM 0 1).clocks) (stepM begunM 0 1).ceil (.slice A4.s.a A4.s.n A4.s.c) (.slice A4.e.a A4.e.n A4.e.c)).toArray from rfl, n4]
  unfold macL
  have hF := fun (v0 v1 v2 v3 v4 v5 v6 v7 v8 v9 v10 : Value) (W : World) => field_sess v0 v1 v2 v3 v4 v5 v6 v7 v8 v9 v10 W
  go_wp2_with (go_at_call 27; refine (num_any _ _).mono ?_; rintro e w' ⟨rfl, rfl⟩)
  go_ret
  exact ⟨rfl, HS.out.below⟩
set_option maxRecDepth 100000 in
set_option maxHeartbeats 4000000 in
theorem driftForms_1 (a0 a1 r : Int) (w : World) (hd : bits .and .i64 a1 1023 = r) (r0 : 0 ≤ r) (r1 : r ≤ 1023) (hp : (IntKind.u64.wrap a0).tmod 6 = 1) :
    Calls Tryz.prog 18 #[.int .i64 a0, .int .i64 a1] w fun e w' => e = .returned (.bool true) ∧ Below w.heap.size w w' := by
  have HS := hide (St.refl w)
  have hAw := hide fun (W : World) => awake14_any W
  have hH := hide fun (W : World) => high14_any 3 W
  have hB := hide fun (W : World) => begun14_any W
  have hP := hide fun (W : World) => stepped14_any 0 1 (by decide) W
  have sP : Hid ((stepM begunM 0 1).sess.length = 2) := by show _ = 2; decide +kernel
  have hR := hide fun (A : MacM) (W : World) (h : MachIs W A begunM) => rneeds_any A begunM 0 W h
  rw [show needsP begunM 0 = (false, 0) by decide +kernel] at hR
  have sN : Hid ((highM 3).sess.length = 2) := by show _ = 2; decide +kernel
  generalize highM 3 = N at *
  have hN : needsP { N with ceil := -(1 + r) } 1 = (false, 1400) := needs_out (here_may _ (may_ceil (M := { N with ceil := -(1 + r) }) (upToV_not (.inl (by show -(1 + r) < 0; omega)))))
  have hA := hide fun (A : MacM) (W : World) (h : MachIs W A { N with ceil := -(1 + r) }) => driftNeeds_any A { N with ceil := -(1 + r) } 1 W h
  have hE := hide fun (A : MacM) (W : World) (h : MachIs W A { N with ceil := -(1 + r) }) => driftStep_any A { N with ceil := -(1 + r) } 1 W h
  rw [hN] at hA
  rw [drift_out hN] at hE
  clear hN
  go_enter Tryz.func18, Tryz.ntmps18
  go_wp2_with fail
  refine (hAw.out _).mono ?_
  (rintro e Wq ⟨rfl, hb⟩; have HSq := hide (HS.out.on hb); clear HS hb; replace HS := HSq; clear HSq)
  clear hAw
  go_wp2_with fail
  refine (hH.out _).mono ?_
  (rintro e Wq ⟨A1, rfl, hO, hb⟩; have HSq := hide (HS.out.push hb (machI (fun k => _) A1 _) (machI_loc _ _ _) hO fun k hk => hk); generalize (fun k => _) = D1 at HSq; clear HS hb hO; replace HS := HSq; clear HSq)
  clear hH
  have v0 : IntKind.i64.wrap (-(1 + r)) = -(1 + r) := IntWalk.i64_in _ ⟨by omega, by omega⟩
  go_upto_region 17 with (first | ((with_reducible refine isList ?_); first | (refine st_alloc HS _ rfl rfl zeroML zeroM ?_; clear HS; intro W b6 HS) | (refine st_storeA HS 0 rfl _ _ _ rfl rfl rfl _ rfl rfl (by kernel_rfl) rfl ?_; clear HS; intro W HS) | (refine st_store1 HS 0 rfl _ _ _ rfl _ rfl rfl rfl (by decide +kernel) rfl rfl ?_; clear HS; intro W HS)))
  replace HS : Hid (St w _ [blkI b6 (machL A1 { N with ceil := -(1 + r) }), machI D1 A1 N]) := HS
  go_wp2_with (first | ((with_reducible refine isList ?_); first | (refine st_loadA HS 0 rfl _ _ rfl rfl rfl (by decide +kernel) (by kernel_rfl) ?_)))
  refine (hA.out _ _ ((MachOwn.is (show MachOwn D1 _ A1 N from HS.out.get 1 rfl)).ceilTo (-(1 + r)))).mono ?_
  (rintro e Wq ⟨rfl, hb⟩; have HSq := hide (HS.out.on hb); clear HS hb; replace HS := HSq; clear HSq)
  go_wp2_with (first | ((with_reducible refine isList ?_); first | (refine st_loadA HS 0 rfl _ _ rfl rfl rfl (by decide +kernel) (by kernel_rfl) ?_)))
  refine (hE.out _ _ ((MachOwn.is (show MachOwn D1 _ A1 N from HS.out.get 1 rfl)).ceilTo (-(1 + r)))).mono ?_
  (rintro e Wq ⟨A2, rfl, hO, hb⟩; have HSq := hide (HS.out.push hb (machI (fun k => _) A2 _) (machI_loc _ _ _) hO fun k hk => hk); generalize (fun k => _) = D2 at HSq; clear HS hb hO; replace HS := HSq; clear HSq)
  go_wp2_with (first | ((with_reducible refine isList ?_); first | (refine st_alloc HS _ rfl rfl zeroML zeroM ?_; clear HS; intro W ba HS) | (refine st_storeA HS 0 rfl _ _ _ rfl rfl rfl _ rfl rfl (by kernel_rfl) rfl ?_; clear HS; intro W HS) | (refine st_loadA HS 2 rfl _ _ rfl rfl rfl (by decide +kernel) (by kernel_rfl) ?_)))
  refine (hB.out _).mono ?_
  (rintro e Wq ⟨A3, rfl, hO, hb⟩; have HSq := hide (HS.out.push hb (machI (fun k => _) A3 _) (machI_loc _ _ _) hO fun k hk => hk); generalize (fun k => _) = D3 at HSq; clear HS hb hO; replace HS := HSq; clear HSq)
  go_wp2_with (first | ((with_reducible refine isList ?_); first | (refine st_loadA HS 0 rfl _ _ rfl rfl rfl (by decide +kernel) (by kernel_rfl) ?_)))
  refine (hR.out A3 _ (MachOwn.is (show MachOwn D3 _ A3 begunM from HS.out.get 0 rfl))).mono ?_
  (rintro e Wq ⟨rfl, hb⟩; have HSq := hide (HS.out.on hb); clear HS hb; replace HS := HSq; clear HSq)
  go_wp2_with (first | ((with_reducible refine isList ?_); first | (refine st_loadA HS 1 rfl _ _ rfl rfl rfl (by decide +kernel) (by kernel_rfl) ?_)) | (go_at_call 27; refine (num_any _ _).mono ?_; rintro e w' ⟨rfl, rfl⟩))
  refine (sameMachine_yes A2 noMac noMach _ (MachOwn.is (show MachOwn D2 _ A2 noMach from HS.out.get 2 rfl)) (machIs_none _)).mono ?_
  (rintro e Wq ⟨rfl, hb⟩; have HSq := hide (HS.out.on hb); clear HS hb; replace HS := HSq; clear HSq)
  go_wp2_with (first | (go_at_call 27; refine (num_any _ _).mono ?_; rintro e w' ⟨rfl, rfl⟩))
  refine (hP.out _).mono ?_
  (rintro e Wq ⟨A4, rfl, hO, hb⟩; have HSq := hide (HS.out.push hb (machI (fun k => _) A4 _) (machI_loc _ _ _) hO fun k hk => hk); generalize (fun k => _) = D4 at HSq; clear HS hb hO; replace HS := HSq; clear HSq)
  have n4 : A4.s.n = 2 := by
    have h1 := (MachOwn.is (show MachOwn D4 _ A4 (stepM begunM 0 1) from HS.out.get 0 rfl)).sess.1
    rw [sP.out] at h1
    omega
  rw [show machA A4 (stepM begunM 0 1) = .agg (macL A4.w (lz (stepM begunM 0 1).clocks) (stepM begunM 0 1).ceil (.slice A4.s.a A4.s.n A4.s.c) (.slice A4.e.a A4.e.n A4.e.c)).toArray from rfl, n4]
  unfold macL
  have hF := fun (v0 v1 v2 v3 v4 v5 v6 v7 v8 v9 v10 : Value) (W : World) => field_sess v0 v1 v2 v3 v4 v5 v6 v7 v8 v9 v10 W
  go_wp2_with (go_at_call 27; refine (num_any _ _).mono ?_; rintro e w' ⟨rfl, rfl⟩)
  go_ret
  exact ⟨rfl, HS.out.below⟩
set_option maxRecDepth 100000 in
set_option maxHeartbeats 4000000 in
theorem driftForms_2 (a0 a1 r : Int) (w : World) (hd : bits .and .i64 a1 1023 = r) (r0 : 0 ≤ r) (r1 : r ≤ 1023) (hp : (IntKind.u64.wrap a0).tmod 6 = 2) (m : Int) (hm : wrap64 (((IntKind.u64.wrap a0) / 8).tmod 6) = m) (m0 : 0 ≤ m) (m6 : m < 6) :
    Calls Tryz.prog 18 #[.int .i64 a0, .int .i64 a1] w fun e w' => e = .returned (.bool true) ∧ Below w.heap.size w w' := by
  have HS := hide (St.refl w)
  have hAw := hide fun (W : World) => awake14_any W
  have hH := hide fun (W : World) => high14_any 3 W
  have hB := hide fun (W : World) => begun14_any W
  have hP := hide fun (W : World) => stepped14_any 0 1 (by decide) W
  have sP : Hid ((stepM begunM 0 1).sess.length = 2) := by show _ = 2; decide +kernel
  have hR := hide fun (A : MacM) (W : World) (h : MachIs W A begunM) => rneeds_any A begunM 0 W h
  rw [show needsP begunM 0 = (false, 0) by decide +kernel] at hR
  have sN : Hid ((highM 3).sess.length = 2) := by show _ = 2; decide +kernel
  have hAll : ∀ m : Int, 0 ≤ m → m < 6 → needsP ((highM 3).doN 1 3 (1 + m)) 1 = (false, 1400) := by
    intro m h0 h6
    have : m = 0 ∨ m = 1 ∨ m = 2 ∨ m = 3 ∨ m = 4 ∨ m = 5 := by omega
    rcases this with rfl | rfl | rfl | rfl | rfl | rfl <;> decide +kernel
  have v1 : IntKind.i64.wrap (1 + m) = 1 + m := IntWalk.i64_in _ ⟨by omega, by omega⟩
  obtain ⟨N1, hN1⟩ : ∃ N1, N1 = (highM 3).doN 1 3 (1 + m) := ⟨_, rfl⟩
  have hNo : needsP N1 1 = (false, 1400) := by rw [hN1]; exact hAll m m0 m6
  generalize highM 3 = N at *
  have hN : needsP N1 1 = (false, 1400) := hNo
  have hA := hide fun (A : MacM) (W : World) (h : MachIs W A N1) => driftNeeds_any A N1 1 W h
  have hE := hide fun (A : MacM) (W : World) (h : MachIs W A N1) => driftStep_any A N1 1 W h
  rw [hN] at hA
  rw [drift_out hN] at hE
  clear hN
  clear hNo
  replace hN1 := hide hN1
  go_enter Tryz.func18, Tryz.ntmps18
  go_wp2_with fail
  refine (hAw.out _).mono ?_
  (rintro e Wq ⟨rfl, hb⟩; have HSq := hide (HS.out.on hb); clear HS hb; replace HS := HSq; clear HSq)
  clear hAw
  go_wp2_with fail
  refine (hH.out _).mono ?_
  (rintro e Wq ⟨A1, rfl, hO, hb⟩; have HSq := hide (HS.out.push hb (machI (fun k => _) A1 _) (machI_loc _ _ _) hO fun k hk => hk); generalize (fun k => _) = D1 at HSq; clear HS hb hO; replace HS := HSq; clear HSq)
  clear hH
  have hk1 : 1 < A1.s.n := by
    have := (MachOwn.is (show MachOwn D1 _ A1 N from HS.out.get 0 rfl)).sess.1
    have := sN.out; omega
  have i1 : (1 : Int) < (A1.s.n : Int) := by omega
  obtain ⟨bs1, hbs1, _⟩ := MachOwn.sblk (show MachOwn D1 _ A1 N from HS.out.get 0 rfl) hk1
  go_upto_region 12 with (first | ((with_reducible refine isList ?_); first | (refine st_alloc HS _ rfl rfl zeroML zeroM ?_; clear HS; intro W b6 HS) | (refine st_storeA HS 0 rfl _ _ _ rfl rfl rfl _ rfl rfl (by kernel_rfl) rfl ?_; clear HS; intro W HS)))
  replace HS : Hid (St w W [blkI b6 (machL A1 N), machI D1 A1 N]) := HS
  go_upto_region 17 with (first | ((with_reducible refine isList ?_); first | (refine st_load1 HS 0 rfl _ _ rfl _ rfl rfl (by decide +kernel) rfl ?_) | (refine st_storeN HS 1 rfl hk1 hbs1 3 (by decide) _ _ _ rfl _ rfl rfl rfl rfl (by decide +kernel) ?_; clear HS; intro W HS)))
  replace HS : Hid (St w W [blkI b6 (machL A1 (N.doN 1 3 (1 + m))), machI D1 A1 (N.doN 1 3 (1 + m))]) := HS
  rw [← hN1.out] at HS
  replace HS : Hid (St w _ [blkI b6 (machL A1 N1), machI D1 A1 N1]) := HS
  go_wp2_with (first | ((with_reducible refine isList ?_); first | (refine st_loadA HS 0 rfl _ _ rfl rfl rfl (by decide +kernel) (by kernel_rfl) ?_)))
  refine (hA.out _ _ (MachOwn.is (show MachOwn D1 _ A1 N1 from HS.out.get 1 rfl))).mono ?_
  (rintro e Wq ⟨rfl, hb⟩; have HSq := hide (HS.out.on hb); clear HS hb; replace HS := HSq; clear HSq)
  go_wp2_with (first | ((with_reducible refine isList ?_); first | (refine st_loadA HS 0 rfl _ _ rfl rfl rfl (by decide +kernel) (by kernel_rfl) ?_)))
  refine (hE.out _ _ (MachOwn.is (show MachOwn D1 _ A1 N1 from HS.out.get 1 rfl))).mono ?_
  (rintro e Wq ⟨A2, rfl, hO, hb⟩; have HSq := hide (HS.out.push hb (machI (fun k => _) A2 _) (machI_loc _ _ _) hO fun k hk => hk); generalize (fun k => _) = D2 at HSq; clear HS hb hO; replace HS := HSq; clear HSq)
  go_wp2_with (first | ((with_reducible refine isList ?_); first | (refine st_alloc HS _ rfl rfl zeroML zeroM ?_; clear HS; intro W ba HS) | (refine st_storeA HS 0 rfl _ _ _ rfl rfl rfl _ rfl rfl (by kernel_rfl) rfl ?_; clear HS; intro W HS) | (refine st_loadA HS 2 rfl _ _ rfl rfl rfl (by decide +kernel) (by kernel_rfl) ?_)))
  refine (hB.out _).mono ?_
  (rintro e Wq ⟨A3, rfl, hO, hb⟩; have HSq := hide (HS.out.push hb (machI (fun k => _) A3 _) (machI_loc _ _ _) hO fun k hk => hk); generalize (fun k => _) = D3 at HSq; clear HS hb hO; replace HS := HSq; clear HSq)
  go_wp2_with (first | ((with_reducible refine isList ?_); first | (refine st_loadA HS 0 rfl _ _ rfl rfl rfl (by decide +kernel) (by kernel_rfl) ?_)))
  refine (hR.out A3 _ (MachOwn.is (show MachOwn D3 _ A3 begunM from HS.out.get 0 rfl))).mono ?_
  (rintro e Wq ⟨rfl, hb⟩; have HSq := hide (HS.out.on hb); clear HS hb; replace HS := HSq; clear HSq)
  go_wp2_with (first | ((with_reducible refine isList ?_); first | (refine st_loadA HS 1 rfl _ _ rfl rfl rfl (by decide +kernel) (by kernel_rfl) ?_)) | (go_at_call 27; refine (num_any _ _).mono ?_; rintro e w' ⟨rfl, rfl⟩))
  refine (sameMachine_yes A2 noMac noMach _ (MachOwn.is (show MachOwn D2 _ A2 noMach from HS.out.get 2 rfl)) (machIs_none _)).mono ?_
  (rintro e Wq ⟨rfl, hb⟩; have HSq := hide (HS.out.on hb); clear HS hb; replace HS := HSq; clear HSq)
  go_wp2_with (first | (go_at_call 27; refine (num_any _ _).mono ?_; rintro e w' ⟨rfl, rfl⟩))
  refine (hP.out _).mono ?_
  (rintro e Wq ⟨A4, rfl, hO, hb⟩; have HSq := hide (HS.out.push hb (machI (fun k => _) A4 _) (machI_loc _ _ _) hO fun k hk => hk); generalize (fun k => _) = D4 at HSq; clear HS hb hO; replace HS := HSq; clear HSq)
  have n4 : A4.s.n = 2 := by
    have h1 := (MachOwn.is (show MachOwn D4 _ A4 (stepM begunM 0 1) from HS.out.get 0 rfl)).sess.1
    rw [sP.out] at h1
    omega
  rw [show machA A4 (stepM begunM 0 1) = .agg (macL A4.w (lz (stepM begunM 0 1).clocks) (stepM begunM 0 1).ceil (.slice A4.s.a A4.s.n A4.s.c) (.slice A4.e.a A4.e.n A4.e.c)).toArray from rfl, n4]
  unfold macL
  have hF := fun (v0 v1 v2 v3 v4 v5 v6 v7 v8 v9 v10 : Value) (W : World) => field_sess v0 v1 v2 v3 v4 v5 v6 v7 v8 v9 v10 W
  go_wp2_with (go_at_call 27; refine (num_any _ _).mono ?_; rintro e w' ⟨rfl, rfl⟩)
  go_ret
  exact ⟨rfl, HS.out.below⟩
set_option maxRecDepth 100000 in
set_option maxHeartbeats 4000000 in
theorem driftForms_3 (a0 a1 r : Int) (w : World) (hd : bits .and .i64 a1 1023 = r) (r0 : 0 ≤ r) (r1 : r ≤ 1023) (hp : (IntKind.u64.wrap a0).tmod 6 = 3) :
    Calls Tryz.prog 18 #[.int .i64 a0, .int .i64 a1] w fun e w' => e = .returned (.bool true) ∧ Below w.heap.size w w' := by
  have HS := hide (St.refl w)
  have hAw := hide fun (W : World) => awake14_any W
  have hH := hide fun (W : World) => high14_any 3 W
  have hB := hide fun (W : World) => begun14_any W
  have hP := hide fun (W : World) => stepped14_any 0 1 (by decide) W
  have sP : Hid ((stepM begunM 0 1).sess.length = 2) := by show _ = 2; decide +kernel
  have hR := hide fun (A : MacM) (W : World) (h : MachIs W A begunM) => rneeds_any A begunM 0 W h
  rw [show needsP begunM 0 = (false, 0) by decide +kernel] at hR
  have sN : Hid ((highM 3).sess.length = 2) := by show _ = 2; decide +kernel
  obtain ⟨N1, hN1⟩ : ∃ N1, N1 = (highM 3).doN 1 4 1 := ⟨_, rfl⟩
  have hNo : needsP N1 1 = (false, 1400) := by rw [hN1]; exact (by decide +kernel)
  generalize highM 3 = N at *
  have hN : needsP N1 1 = (false, 1400) := hNo
  have hA := hide fun (A : MacM) (W : World) (h : MachIs W A N1) => driftNeeds_any A N1 1 W h
  have hE := hide fun (A : MacM) (W : World) (h : MachIs W A N1) => driftStep_any A N1 1 W h
  rw [hN] at hA
  rw [drift_out hN] at hE
  clear hN
  clear hNo
  replace hN1 := hide hN1
  go_enter Tryz.func18, Tryz.ntmps18
  go_wp2_with fail
  refine (hAw.out _).mono ?_
  (rintro e Wq ⟨rfl, hb⟩; have HSq := hide (HS.out.on hb); clear HS hb; replace HS := HSq; clear HSq)
  clear hAw
  go_wp2_with fail
  refine (hH.out _).mono ?_
  (rintro e Wq ⟨A1, rfl, hO, hb⟩; have HSq := hide (HS.out.push hb (machI (fun k => _) A1 _) (machI_loc _ _ _) hO fun k hk => hk); generalize (fun k => _) = D1 at HSq; clear HS hb hO; replace HS := HSq; clear HSq)
  clear hH
  have hk1 : 1 < A1.s.n := by
    have := (MachOwn.is (show MachOwn D1 _ A1 N from HS.out.get 0 rfl)).sess.1
    have := sN.out; omega
  have i1 : (1 : Int) < (A1.s.n : Int) := by omega
  obtain ⟨bs1, hbs1, _⟩ := MachOwn.sblk (show MachOwn D1 _ A1 N from HS.out.get 0 rfl) hk1
  go_upto_region 14 with (first | ((with_reducible refine isList ?_); first | (refine st_alloc HS _ rfl rfl zeroML zeroM ?_; clear HS; intro W b6 HS) | (refine st_storeA HS 0 rfl _ _ _ rfl rfl rfl _ rfl rfl (by kernel_rfl) rfl ?_; clear HS; intro W HS)))
  replace HS : Hid (St w W [blkI b6 (machL A1 N), machI D1 A1 N]) := HS
  go_upto_region 17 with (first | ((with_reducible refine isList ?_); first | (refine st_load1 HS 0 rfl _ _ rfl _ rfl rfl (by decide +kernel) rfl ?_) | (refine st_storeN HS 1 rfl hk1 hbs1 4 (by decide) _ _ _ rfl _ rfl rfl rfl rfl (by decide +kernel) ?_; clear HS; intro W HS)))
  replace HS : Hid (St w W [blkI b6 (machL A1 (N.doN 1 4 1)), machI D1 A1 (N.doN 1 4 1)]) := HS
  rw [← hN1.out] at HS
  replace HS : Hid (St w _ [blkI b6 (machL A1 N1), machI D1 A1 N1]) := HS
  go_wp2_with (first | ((with_reducible refine isList ?_); first | (refine st_loadA HS 0 rfl _ _ rfl rfl rfl (by decide +kernel) (by kernel_rfl) ?_)))
  refine (hA.out _ _ (MachOwn.is (show MachOwn D1 _ A1 N1 from HS.out.get 1 rfl))).mono ?_
  (rintro e Wq ⟨rfl, hb⟩; have HSq := hide (HS.out.on hb); clear HS hb; replace HS := HSq; clear HSq)
  go_wp2_with (first | ((with_reducible refine isList ?_); first | (refine st_loadA HS 0 rfl _ _ rfl rfl rfl (by decide +kernel) (by kernel_rfl) ?_)))
  refine (hE.out _ _ (MachOwn.is (show MachOwn D1 _ A1 N1 from HS.out.get 1 rfl))).mono ?_
  (rintro e Wq ⟨A2, rfl, hO, hb⟩; have HSq := hide (HS.out.push hb (machI (fun k => _) A2 _) (machI_loc _ _ _) hO fun k hk => hk); generalize (fun k => _) = D2 at HSq; clear HS hb hO; replace HS := HSq; clear HSq)
  go_wp2_with (first | ((with_reducible refine isList ?_); first | (refine st_alloc HS _ rfl rfl zeroML zeroM ?_; clear HS; intro W ba HS) | (refine st_storeA HS 0 rfl _ _ _ rfl rfl rfl _ rfl rfl (by kernel_rfl) rfl ?_; clear HS; intro W HS) | (refine st_loadA HS 2 rfl _ _ rfl rfl rfl (by decide +kernel) (by kernel_rfl) ?_)))
  refine (hB.out _).mono ?_
  (rintro e Wq ⟨A3, rfl, hO, hb⟩; have HSq := hide (HS.out.push hb (machI (fun k => _) A3 _) (machI_loc _ _ _) hO fun k hk => hk); generalize (fun k => _) = D3 at HSq; clear HS hb hO; replace HS := HSq; clear HSq)
  go_wp2_with (first | ((with_reducible refine isList ?_); first | (refine st_loadA HS 0 rfl _ _ rfl rfl rfl (by decide +kernel) (by kernel_rfl) ?_)))
  refine (hR.out A3 _ (MachOwn.is (show MachOwn D3 _ A3 begunM from HS.out.get 0 rfl))).mono ?_
  (rintro e Wq ⟨rfl, hb⟩; have HSq := hide (HS.out.on hb); clear HS hb; replace HS := HSq; clear HSq)
  go_wp2_with (first | ((with_reducible refine isList ?_); first | (refine st_loadA HS 1 rfl _ _ rfl rfl rfl (by decide +kernel) (by kernel_rfl) ?_)) | (go_at_call 27; refine (num_any _ _).mono ?_; rintro e w' ⟨rfl, rfl⟩))
  refine (sameMachine_yes A2 noMac noMach _ (MachOwn.is (show MachOwn D2 _ A2 noMach from HS.out.get 2 rfl)) (machIs_none _)).mono ?_
  (rintro e Wq ⟨rfl, hb⟩; have HSq := hide (HS.out.on hb); clear HS hb; replace HS := HSq; clear HSq)
  go_wp2_with (first | (go_at_call 27; refine (num_any _ _).mono ?_; rintro e w' ⟨rfl, rfl⟩))
  refine (hP.out _).mono ?_
  (rintro e Wq ⟨A4, rfl, hO, hb⟩; have HSq := hide (HS.out.push hb (machI (fun k => _) A4 _) (machI_loc _ _ _) hO fun k hk => hk); generalize (fun k => _) = D4 at HSq; clear HS hb hO; replace HS := HSq; clear HSq)
  have n4 : A4.s.n = 2 := by
    have h1 := (MachOwn.is (show MachOwn D4 _ A4 (stepM begunM 0 1) from HS.out.get 0 rfl)).sess.1
    rw [sP.out] at h1
    omega
  rw [show machA A4 (stepM begunM 0 1) = .agg (macL A4.w (lz (stepM begunM 0 1).clocks) (stepM begunM 0 1).ceil (.slice A4.s.a A4.s.n A4.s.c) (.slice A4.e.a A4.e.n A4.e.c)).toArray from rfl, n4]
  unfold macL
  have hF := fun (v0 v1 v2 v3 v4 v5 v6 v7 v8 v9 v10 : Value) (W : World) => field_sess v0 v1 v2 v3 v4 v5 v6 v7 v8 v9 v10 W
  go_wp2_with (go_at_call 27; refine (num_any _ _).mono ?_; rintro e w' ⟨rfl, rfl⟩)
  go_ret
  exact ⟨rfl, HS.out.below⟩
set_option maxRecDepth 100000 in
set_option maxHeartbeats 4000000 in
theorem driftForms_4 (a0 a1 r : Int) (w : World) (hd : bits .and .i64 a1 1023 = r) (r0 : 0 ≤ r) (r1 : r ≤ 1023) (hp : (IntKind.u64.wrap a0).tmod 6 = 4) :
    Calls Tryz.prog 18 #[.int .i64 a0, .int .i64 a1] w fun e w' => e = .returned (.bool true) ∧ Below w.heap.size w w' := by
  have HS := hide (St.refl w)
  have hAw := hide fun (W : World) => awake14_any W
  have hH := hide fun (W : World) => high14_any 3 W
  have hB := hide fun (W : World) => begun14_any W
  have hP := hide fun (W : World) => stepped14_any 0 1 (by decide) W
  have sP : Hid ((stepM begunM 0 1).sess.length = 2) := by show _ = 2; decide +kernel
  have hR := hide fun (A : MacM) (W : World) (h : MachIs W A begunM) => rneeds_any A begunM 0 W h
  rw [show needsP begunM 0 = (false, 0) by decide +kernel] at hR
  have sN : Hid ((highM 3).sess.length = 2) := by show _ = 2; decide +kernel
  obtain ⟨N1, hN1⟩ : ∃ N1, N1 = (highM 3).setS 1 (((highM 3).at 1).setL 0 [5, 0, 0, 0]) := ⟨_, rfl⟩
  have hNo : needsP N1 1 = (false, 1400) := by rw [hN1]; decide +kernel
  generalize highM 3 = N at *
  have hN : needsP N1 1 = (false, 1400) := hNo
  have hA := hide fun (A : MacM) (W : World) (h : MachIs W A N1) => driftNeeds_any A N1 1 W h
  have hE := hide fun (A : MacM) (W : World) (h : MachIs W A N1) => driftStep_any A N1 1 W h
  rw [hN] at hA
  rw [drift_out hN] at hE
  clear hN
  clear hNo
  replace hN1 := hide hN1
  go_enter Tryz.func18, Tryz.ntmps18
  go_wp2_with fail
  refine (hAw.out _).mono ?_
  (rintro e Wq ⟨rfl, hb⟩; have HSq := hide (HS.out.on hb); clear HS hb; replace HS := HSq; clear HSq)
  clear hAw
  go_wp2_with fail
  refine (hH.out _).mono ?_
  (rintro e Wq ⟨A1, rfl, hO, hb⟩; have HSq := hide (HS.out.push hb (machI (fun k => _) A1 _) (machI_loc _ _ _) hO fun k hk => hk); generalize (fun k => _) = D1 at HSq; clear HS hb hO; replace HS := HSq; clear HSq)
  clear hH
  have hk1 : 1 < A1.s.n := by
    have := (MachOwn.is (show MachOwn D1 _ A1 N from HS.out.get 0 rfl)).sess.1
    have := sN.out; omega
  have i1 : (1 : Int) < (A1.s.n : Int) := by omega
  obtain ⟨bs1, hbs1, _⟩ := MachOwn.sblk (show MachOwn D1 _ A1 N from HS.out.get 0 rfl) hk1
  go_upto_region 16 with (first | ((with_reducible refine isList ?_); first | (refine st_alloc HS _ rfl rfl zeroML zeroM ?_; clear HS; intro W b6 HS) | (refine st_storeA HS 0 rfl _ _ _ rfl rfl rfl _ rfl rfl (by kernel_rfl) rfl ?_; clear HS; intro W HS)))
  replace HS : Hid (St w W [blkI b6 (machL A1 N), machI D1 A1 N]) := HS
  go_upto_region 17 with (first | ((with_reducible refine isList ?_); first | (refine st_load1 HS 0 rfl _ _ rfl _ rfl rfl (by decide +kernel) rfl ?_) | (refine st_lit_1_4 HS _ 62 _ rfl rfl Tryz.underlying55 Tryz.infoI rfl ?_; clear HS; intro W bl HS) | (refine st_storeL HS 2 0 rfl 0 (by decide) rfl (by decide) hk1 hbs1 _ _ _ rfl _ rfl rfl rfl rfl (by decide +kernel) ?_; clear HS; intro W HS)))
  replace HS : Hid (St w W [blkI b6 (machL (A1.setQ 1 ((A1.q 1).setL 0 ⟨some ⟨bl, 0, none⟩, 1, 1⟩)) (N.setS 1 ((N.at 1).setL 0 [5, 0, 0, 0]))), machI (fun k => D1 k ∨ k = bl) (A1.setQ 1 ((A1.q 1).setL 0 ⟨some ⟨bl, 0, none⟩, 1, 1⟩)) (N.setS 1 ((N.at 1).setL 0 [5, 0, 0, 0]))]) := hide (HS.out.sel [1, 2] (by decide) rfl)
  rw [← hN1.out] at HS
  generalize (fun k => D1 k ∨ k = bl) = Dx at HS
  generalize A1.setQ 1 ((A1.q 1).setL 0 ⟨some ⟨bl, 0, none⟩, 1, 1⟩) = Ax at HS
  replace HS : Hid (St w _ [blkI b6 (machL Ax N1), machI Dx Ax N1]) := HS
  go_wp2_with (first | ((with_reducible refine isList ?_); first | (refine st_loadA HS 0 rfl _ _ rfl rfl rfl (by decide +kernel) (by kernel_rfl) ?_)))
  refine (hA.out _ _ (MachOwn.is (show MachOwn Dx _ Ax N1 from HS.out.get 1 rfl))).mono ?_
  (rintro e Wq ⟨rfl, hb⟩; have HSq := hide (HS.out.on hb); clear HS hb; replace HS := HSq; clear HSq)
  go_wp2_with (first | ((with_reducible refine isList ?_); first | (refine st_loadA HS 0 rfl _ _ rfl rfl rfl (by decide +kernel) (by kernel_rfl) ?_)))
  refine (hE.out _ _ (MachOwn.is (show MachOwn Dx _ Ax N1 from HS.out.get 1 rfl))).mono ?_
  (rintro e Wq ⟨A2, rfl, hO, hb⟩; have HSq := hide (HS.out.push hb (machI (fun k => _) A2 _) (machI_loc _ _ _) hO fun k hk => hk); generalize (fun k => _) = D2 at HSq; clear HS hb hO; replace HS := HSq; clear HSq)
  go_wp2_with (first | ((with_reducible refine isList ?_); first | (refine st_alloc HS _ rfl rfl zeroML zeroM ?_; clear HS; intro W ba HS) | (refine st_storeA HS 0 rfl _ _ _ rfl rfl rfl _ rfl rfl (by kernel_rfl) rfl ?_; clear HS; intro W HS) | (refine st_loadA HS 2 rfl _ _ rfl rfl rfl (by decide +kernel) (by kernel_rfl) ?_)))
  refine (hB.out _).mono ?_
  (rintro e Wq ⟨A3, rfl, hO, hb⟩; have HSq := hide (HS.out.push hb (machI (fun k => _) A3 _) (machI_loc _ _ _) hO fun k hk => hk); generalize (fun k => _) = D3 at HSq; clear HS hb hO; replace HS := HSq; clear HSq)
  go_wp2_with (first | ((with_reducible refine isList ?_); first | (refine st_loadA HS 0 rfl _ _ rfl rfl rfl (by decide +kernel) (by kernel_rfl) ?_)))
  refine (hR.out A3 _ (MachOwn.is (show MachOwn D3 _ A3 begunM from HS.out.get 0 rfl))).mono ?_
  (rintro e Wq ⟨rfl, hb⟩; have HSq := hide (HS.out.on hb); clear HS hb; replace HS := HSq; clear HSq)
  go_wp2_with (first | ((with_reducible refine isList ?_); first | (refine st_loadA HS 1 rfl _ _ rfl rfl rfl (by decide +kernel) (by kernel_rfl) ?_)) | (go_at_call 27; refine (num_any _ _).mono ?_; rintro e w' ⟨rfl, rfl⟩))
  refine (sameMachine_yes A2 noMac noMach _ (MachOwn.is (show MachOwn D2 _ A2 noMach from HS.out.get 2 rfl)) (machIs_none _)).mono ?_
  (rintro e Wq ⟨rfl, hb⟩; have HSq := hide (HS.out.on hb); clear HS hb; replace HS := HSq; clear HSq)
  go_wp2_with (first | (go_at_call 27; refine (num_any _ _).mono ?_; rintro e w' ⟨rfl, rfl⟩))
  refine (hP.out _).mono ?_
  (rintro e Wq ⟨A4, rfl, hO, hb⟩; have HSq := hide (HS.out.push hb (machI (fun k => _) A4 _) (machI_loc _ _ _) hO fun k hk => hk); generalize (fun k => _) = D4 at HSq; clear HS hb hO; replace HS := HSq; clear HSq)
  have n4 : A4.s.n = 2 := by
    have h1 := (MachOwn.is (show MachOwn D4 _ A4 (stepM begunM 0 1) from HS.out.get 0 rfl)).sess.1
    rw [sP.out] at h1
    omega
  rw [show machA A4 (stepM begunM 0 1) = .agg (macL A4.w (lz (stepM begunM 0 1).clocks) (stepM begunM 0 1).ceil (.slice A4.s.a A4.s.n A4.s.c) (.slice A4.e.a A4.e.n A4.e.c)).toArray from rfl, n4]
  unfold macL
  have hF := fun (v0 v1 v2 v3 v4 v5 v6 v7 v8 v9 v10 : Value) (W : World) => field_sess v0 v1 v2 v3 v4 v5 v6 v7 v8 v9 v10 W
  go_wp2_with (go_at_call 27; refine (num_any _ _).mono ?_; rintro e w' ⟨rfl, rfl⟩)
  go_ret
  exact ⟨rfl, HS.out.below⟩
set_option maxRecDepth 100000 in
set_option maxHeartbeats 4000000 in
theorem driftForms_5 (a0 a1 r : Int) (w : World) (hd : bits .and .i64 a1 1023 = r) (r0 : 0 ≤ r) (r1 : r ≤ 1023) (hp : (IntKind.u64.wrap a0).tmod 6 = 5) :
    Calls Tryz.prog 18 #[.int .i64 a0, .int .i64 a1] w fun e w' => e = .returned (.bool true) ∧ Below w.heap.size w w' := by
  have HS := hide (St.refl w)
  have hAw := hide fun (W : World) => awake14_any W
  have hH := hide fun (W : World) => high14_any 3 W
  have hB := hide fun (W : World) => begun14_any W
  have hP := hide fun (W : World) => stepped14_any 0 1 (by decide) W
  have sP : Hid ((stepM begunM 0 1).sess.length = 2) := by show _ = 2; decide +kernel
  have hR := hide fun (A : MacM) (W : World) (h : MachIs W A begunM) => rneeds_any A begunM 0 W h
  rw [show needsP begunM 0 = (false, 0) by decide +kernel] at hR
  have sN : Hid ((highM 3).sess.length = 2) := by show _ = 2; decide +kernel
  obtain ⟨N1, hN1⟩ : ∃ N1, N1 = (highM 3).setS 1 (((highM 3).at 1).setL 0 [3, 0, 3, 0]) := ⟨_, rfl⟩
  have hNo : needsP N1 1 = (false, 1400) := by rw [hN1]; decide +kernel
  generalize highM 3 = N at *
  have hN : needsP N1 1 = (false, 1400) := hNo
  have hA := hide fun (A : MacM) (W : World) (h : MachIs W A N1) => driftNeeds_any A N1 1 W h
  have hE := hide fun (A : MacM) (W : World) (h : MachIs W A N1) => driftStep_any A N1 1 W h
  rw [hN] at hA
  rw [drift_out hN] at hE
  clear hN
  clear hNo
  replace hN1 := hide hN1
  go_enter Tryz.func18, Tryz.ntmps18
  go_wp2_with fail
  refine (hAw.out _).mono ?_
  (rintro e Wq ⟨rfl, hb⟩; have HSq := hide (HS.out.on hb); clear HS hb; replace HS := HSq; clear HSq)
  clear hAw
  go_wp2_with fail
  refine (hH.out _).mono ?_
  (rintro e Wq ⟨A1, rfl, hO, hb⟩; have HSq := hide (HS.out.push hb (machI (fun k => _) A1 _) (machI_loc _ _ _) hO fun k hk => hk); generalize (fun k => _) = D1 at HSq; clear HS hb hO; replace HS := HSq; clear HSq)
  clear hH
  have hk1 : 1 < A1.s.n := by
    have := (MachOwn.is (show MachOwn D1 _ A1 N from HS.out.get 0 rfl)).sess.1
    have := sN.out; omega
  have i1 : (1 : Int) < (A1.s.n : Int) := by omega
  obtain ⟨bs1, hbs1, _⟩ := MachOwn.sblk (show MachOwn D1 _ A1 N from HS.out.get 0 rfl) hk1
  go_upto_region 6 with (first | ((with_reducible refine isList ?_); first | (refine st_alloc HS _ rfl rfl zeroML zeroM ?_; clear HS; intro W b6 HS) | (refine st_storeA HS 0 rfl _ _ _ rfl rfl rfl _ rfl rfl (by kernel_rfl) rfl ?_; clear HS; intro W HS)))
  replace HS : Hid (St w W [blkI b6 (machL A1 N), machI D1 A1 N]) := HS
  go_upto_region 17 with (first | ((with_reducible refine isList ?_); first | (refine st_load1 HS 0 rfl _ _ rfl _ rfl rfl (by decide +kernel) rfl ?_) | (refine st_lit_1_4 HS _ 62 _ rfl rfl Tryz.underlying55 Tryz.infoI rfl ?_; clear HS; intro W bl HS) | (refine st_storeL HS 2 0 rfl 0 (by decide) rfl (by decide) hk1 hbs1 _ _ _ rfl _ rfl rfl rfl rfl (by decide +kernel) ?_; clear HS; intro W HS)))
  replace HS : Hid (St w W [blkI b6 (machL (A1.setQ 1 ((A1.q 1).setL 0 ⟨some ⟨bl, 0, none⟩, 1, 1⟩)) (N.setS 1 ((N.at 1).setL 0 [3, 0, 3, 0]))), machI (fun k => D1 k ∨ k = bl) (A1.setQ 1 ((A1.q 1).setL 0 ⟨some ⟨bl, 0, none⟩, 1, 1⟩)) (N.setS 1 ((N.at 1).setL 0 [3, 0, 3, 0]))]) := hide (HS.out.sel [1, 2] (by decide) rfl)
  rw [← hN1.out] at HS
  generalize (fun k => D1 k ∨ k = bl) = Dx at HS
  generalize A1.setQ 1 ((A1.q 1).setL 0 ⟨some ⟨bl, 0, none⟩, 1, 1⟩) = Ax at HS
  replace HS : Hid (St w _ [blkI b6 (machL Ax N1), machI Dx Ax N1]) := HS
  go_wp2_with (first | ((with_reducible refine isList ?_); first | (refine st_loadA HS 0 rfl _ _ rfl rfl rfl (by decide +kernel) (by kernel_rfl) ?_)))
  refine (hA.out _ _ (MachOwn.is (show MachOwn Dx _ Ax N1 from HS.out.get 1 rfl))).mono ?_
  (rintro e Wq ⟨rfl, hb⟩; have HSq := hide (HS.out.on hb); clear HS hb; replace HS := HSq; clear HSq)
  go_wp2_with (first | ((with_reducible refine isList ?_); first | (refine st_loadA HS 0 rfl _ _ rfl rfl rfl (by decide +kernel) (by kernel_rfl) ?_)))
  refine (hE.out _ _ (MachOwn.is (show MachOwn Dx _ Ax N1 from HS.out.get 1 rfl))).mono ?_
  (rintro e Wq ⟨A2, rfl, hO, hb⟩; have HSq := hide (HS.out.push hb (machI (fun k => _) A2 _) (machI_loc _ _ _) hO fun k hk => hk); generalize (fun k => _) = D2 at HSq; clear HS hb hO; replace HS := HSq; clear HSq)
  go_wp2_with (first | ((with_reducible refine isList ?_); first | (refine st_alloc HS _ rfl rfl zeroML zeroM ?_; clear HS; intro W ba HS) | (refine st_storeA HS 0 rfl _ _ _ rfl rfl rfl _ rfl rfl (by kernel_rfl) rfl ?_; clear HS; intro W HS) | (refine st_loadA HS 2 rfl _ _ rfl rfl rfl (by decide +kernel) (by kernel_rfl) ?_)))
  refine (hB.out _).mono ?_
  (rintro e Wq ⟨A3, rfl, hO, hb⟩; have HSq := hide (HS.out.push hb (machI (fun k => _) A3 _) (machI_loc _ _ _) hO fun k hk => hk); generalize (fun k => _) = D3 at HSq; clear HS hb hO; replace HS := HSq; clear HSq)
  go_wp2_with (first | ((with_reducible refine isList ?_); first | (refine st_loadA HS 0 rfl _ _ rfl rfl rfl (by decide +kernel) (by kernel_rfl) ?_)))
  refine (hR.out A3 _ (MachOwn.is (show MachOwn D3 _ A3 begunM from HS.out.get 0 rfl))).mono ?_
  (rintro e Wq ⟨rfl, hb⟩; have HSq := hide (HS.out.on hb); clear HS hb; replace HS := HSq; clear HSq)
  go_wp2_with (first | ((with_reducible refine isList ?_); first | (refine st_loadA HS 1 rfl _ _ rfl rfl rfl (by decide +kernel) (by kernel_rfl) ?_)) | (go_at_call 27; refine (num_any _ _).mono ?_; rintro e w' ⟨rfl, rfl⟩))
  refine (sameMachine_yes A2 noMac noMach _ (MachOwn.is (show MachOwn D2 _ A2 noMach from HS.out.get 2 rfl)) (machIs_none _)).mono ?_
  (rintro e Wq ⟨rfl, hb⟩; have HSq := hide (HS.out.on hb); clear HS hb; replace HS := HSq; clear HSq)
  go_wp2_with (first | (go_at_call 27; refine (num_any _ _).mono ?_; rintro e w' ⟨rfl, rfl⟩))
  refine (hP.out _).mono ?_
  (rintro e Wq ⟨A4, rfl, hO, hb⟩; have HSq := hide (HS.out.push hb (machI (fun k => _) A4 _) (machI_loc _ _ _) hO fun k hk => hk); generalize (fun k => _) = D4 at HSq; clear HS hb hO; replace HS := HSq; clear HSq)
  have n4 : A4.s.n = 2 := by
    have h1 := (MachOwn.is (show MachOwn D4 _ A4 (stepM begunM 0 1) from HS.out.get 0 rfl)).sess.1
    rw [sP.out] at h1
    omega
  rw [show machA A4 (stepM begunM 0 1) = .agg (macL A4.w (lz (stepM begunM 0 1).clocks) (stepM begunM 0 1).ceil (.slice A4.s.a A4.s.n A4.s.c) (.slice A4.e.a A4.e.n A4.e.c)).toArray from rfl, n4]
  unfold macL
  have hF := fun (v0 v1 v2 v3 v4 v5 v6 v7 v8 v9 v10 : Value) (W : World) => field_sess v0 v1 v2 v3 v4 v5 v6 v7 v8 v9 v10 W
  go_wp2_with (go_at_call 27; refine (num_any _ _).mono ?_; rintro e w' ⟨rfl, rfl⟩)
  go_ret
  exact ⟨rfl, HS.out.below⟩
theorem driftForms_any (a0 a1 : Int) (w : World) :
    Calls Tryz.prog 18 #[.int .i64 a0, .int .i64 a1] w fun e w' => e = .returned (.bool true) ∧ Below w.heap.size w w' := by
  have h0 : 0 ≤ IntKind.u64.wrap a0 := by rw [IntKind.wrap_u64]; omega
  have hU : IntKind.u64.wrap a0 < 18446744073709551616 := by rw [IntKind.wrap_u64]; omega
  have h1 := Int.tmod_nonneg 6 h0
  have h2 := Int.tmod_lt_of_pos (IntKind.u64.wrap a0) (show (0 : Int) < 6 by decide)
  have r0 : 0 ≤ a1 % 1024 := by omega
  have r1 : a1 % 1024 ≤ 1023 := by omega
  obtain ⟨p, hp, hp2⟩ := bit_pick (a0 / 8) 1 2 rfl (mask1 _) (by decide)
  have m0 := Int.tmod_nonneg 6 (show 0 ≤ IntKind.u64.wrap a0 / 8 by omega)
  have m6 := Int.tmod_lt_of_pos (IntKind.u64.wrap a0 / 8) (show (0 : Int) < 6 by decide)
  have hm : wrap64 ((IntKind.u64.wrap a0 / 8).tmod 6) = (IntKind.u64.wrap a0 / 8).tmod 6 := IntWalk.wrap64_in _ ⟨by omega, by omega⟩
  generalize hq : (IntKind.u64.wrap a0).tmod 6 = c at h1 h2
  replace hm := hide hm
  have : c = 0 ∨ c = 1 ∨ c = 2 ∨ c = 3 ∨ c = 4 ∨ c = 5 := by omega
  rcases this with rfl | rfl | rfl | rfl | rfl | rfl
  · exact driftForms_0 a0 a1 _ w (mask1023 _) r0 r1 hq p hp hp2
  · exact driftForms_1 a0 a1 _ w (mask1023 _) r0 r1 hq
  · exact driftForms_2 a0 a1 _ w (mask1023 _) r0 r1 (by assumption) _ hm.out m0 m6
  · exact driftForms_3 a0 a1 _ w (mask1023 _) r0 r1 hq
  · exact driftForms_4 a0 a1 _ w (mask1023 _) r0 r1 hq
  · exact driftForms_5 a0 a1 _ w (mask1023 _) r0 r1 hq
end Go.Proofs.YtjjokalheloimaaGreat
