/-
  The law CalcForms. (Written by wip/tools/gen_calcforms.py)
-/
import Derived.Test.YtnjognmnbpcaaaaGreatZlaj
import Derived.Test.YtnjognmnbpcaaaaGreatZlbg
import Derived.Test.YtnjognmnbpcaaaaGreatZlbi
import Derived.Test.YtnjognmnbpcaaaaGreatZlab
import Derived.Test.YtnjognmnbpcaaaaGreatZlag
import Derived.Test.YtnjognmnbpcaaaaGreatZlbb
namespace Go.Proofs.YtnjognmnbpcaaaaGreat
open Go.RowKit
set_option linter.unusedSimpArgs false
set_option linter.unusedVariables false
theorem calc_no {M : PMach} {i : Int} (h : (hereP M i && (decide (runP (M.at i.toNat) = 0) || (decide (runP (M.at i.toNat) = 1) || decide (runP (M.at i.toNat) = 4)))) = false) : calcP M i = (noMach, 1700) := by
  unfold calcP
  rw [h]
  rfl
theorem calc_out {M : PMach} {i : Int} (h : hereP M i = false) : calcP M i = (noMach, 1700) := calc_no (by rw [h]; rfl)
set_option maxRecDepth 100000 in
set_option maxHeartbeats 4000000 in
theorem calcForms_0 (a0 a1 r : Int) (w : World) (hd : bits .and .i64 a1 1023 = r) (r0 : 0 ≤ r) (r1 : r ≤ 1023) (hp : (IntKind.u64.wrap a0).tmod 7 = 0) (p : Nat) (hq : bits .and .i64 (a0 / 8) 1 = p) (hp2 : (p : Int) < 2) :
    Calls Tryz.prog 6 #[.int .i64 a0, .int .i64 a1] w fun e w' => e = .returned (.bool true) ∧ Below w.heap.size w w' := by
  have HS := hide (St.refl w)
  have hAw := hide fun (W : World) => awake17_any W
  have hB := hide fun (W : World) => stepped17_any 0 1 (by decide) W
  have sN : Hid ((stepM begunM 0 1).sess.length = 2) := by show _ = 2; decide +kernel
  obtain ⟨x, hx, hxx⟩ := pick_two (-(1 + r)) (1 + (1 + r)) p (by omega)
  generalize stepM begunM 0 1 = N at *
  have hN : calcP N x = (noMach, 1700) := calc_out (here_out (by rw [sN.out]; omega))
  have hE := hide fun (A : MacM) (W : World) (h : MachIs W A N) => calcStep_any A N x W h
  rw [hN] at hE
  clear hN
  go_enter Tryz.func6, Tryz.ntmps6
  go_wp2_with fail
  refine (hAw.out _).mono ?_
  (rintro e Wq ⟨rfl, hb⟩; have HSq := hide (HS.out.on hb); clear HS hb; replace HS := HSq; clear HSq)
  clear hAw
  go_wp2_with fail
  refine (hB.out _).mono ?_
  (rintro e Wq ⟨A1, rfl, hO, hb⟩; have HSq := hide (HS.out.push hb (machI (fun k => _) A1 _) (machI_loc _ _ _) hO fun k hk => hk); generalize (fun k => _) = D1 at HSq; clear HS hb hO; replace HS := HSq; clear HSq)
  clear hB
  replace hxx := hide hxx
  go_upto_region 5 with (first | ((with_reducible refine isList ?_); first | (refine st_alloc HS _ rfl rfl zeroML zeroM ?_; clear HS; intro W b6 HS) | (refine st_storeA HS 0 rfl _ _ _ rfl rfl rfl _ rfl rfl (by kernel_rfl) rfl ?_; clear HS; intro W HS)))
  go_upto_region 19 with fail
  replace HS := hide ((HS.out.alloc [.int .i64 (-(1 + r)), .int .i64 (1 + (1 + r))] 3).sel [1, 2] (by decide) rfl)
  replace HS : Hid (St w _ [blkI b6 (machL A1 N), machI D1 A1 N]) := HS
  go_wp2_with (first | ((with_reducible refine isList ?_); first | (refine st_loadA HS 0 rfl _ _ rfl rfl rfl (by decide +kernel) (by kernel_rfl) ?_)))
  refine (hE.out _ _ (MachOwn.is (show MachOwn D1 _ A1 N from HS.out.get 1 rfl))).mono ?_
  (rintro e Wq ⟨A2, rfl, hO, hb⟩; have HSq := hide (HS.out.push hb (machI (fun k => _) A2 _) (machI_loc _ _ _) hO fun k hk => hk); generalize (fun k => _) = D2 at HSq; clear HS hb hO; replace HS := HSq; clear HSq)
  go_wp2_with (first | ((with_reducible refine isList ?_); first | (refine st_alloc HS _ rfl rfl zeroML zeroM ?_; clear HS; intro W ba HS) | (refine st_storeA HS 0 rfl _ _ _ rfl rfl rfl _ rfl rfl (by kernel_rfl) rfl ?_; clear HS; intro W HS) | (refine st_loadA HS 0 rfl _ _ rfl rfl rfl (by decide +kernel) (by kernel_rfl) ?_)))
  refine (sameMachine_yes A2 noMac noMach _ (MachOwn.is (show MachOwn D2 _ A2 noMach from HS.out.get 1 rfl)) (machIs_none _)).mono ?_
  (rintro e Wq ⟨rfl, hb⟩; have HSq := hide (HS.out.on hb); clear HS hb; replace HS := HSq; clear HSq)
  go_wp2_with (go_at_call 12; refine (num_any _ _).mono ?_; rintro e w' ⟨rfl, rfl⟩)
  go_ret
  exact ⟨rfl, HS.out.below⟩
set_option maxRecDepth 100000 in
set_option maxHeartbeats 4000000 in
theorem calcForms_1 (a0 a1 r : Int) (w : World) (hd : bits .and .i64 a1 1023 = r) (r0 : 0 ≤ r) (r1 : r ≤ 1023) (hp : (IntKind.u64.wrap a0).tmod 7 = 1) :
    Calls Tryz.prog 6 #[.int .i64 a0, .int .i64 a1] w fun e w' => e = .returned (.bool true) ∧ Below w.heap.size w w' := by
  have HS := hide (St.refl w)
  have hAw := hide fun (W : World) => awake17_any W
  have hB := hide fun (W : World) => stepped17_any 0 1 (by decide) W
  have sN : Hid ((stepM begunM 0 1).sess.length = 2) := by show _ = 2; decide +kernel
  generalize stepM begunM 0 1 = N at *
  have hN : calcP { N with ceil := -(1 + r) } 0 = (noMach, 1700) := calc_out (here_may _ (may_ceil (M := { N with ceil := -(1 + r) }) (upToV_not (.inl (by show -(1 + r) < (0 : Int); omega)))))
  have hE := hide fun (A : MacM) (W : World) (h : MachIs W A { N with ceil := -(1 + r) }) => calcStep_any A { N with ceil := -(1 + r) } 0 W h
  rw [hN] at hE
  clear hN
  go_enter Tryz.func6, Tryz.ntmps6
  go_wp2_with fail
  refine (hAw.out _).mono ?_
  (rintro e Wq ⟨rfl, hb⟩; have HSq := hide (HS.out.on hb); clear HS hb; replace HS := HSq; clear HSq)
  clear hAw
  go_wp2_with fail
  refine (hB.out _).mono ?_
  (rintro e Wq ⟨A1, rfl, hO, hb⟩; have HSq := hide (HS.out.push hb (machI (fun k => _) A1 _) (machI_loc _ _ _) hO fun k hk => hk); generalize (fun k => _) = D1 at HSq; clear HS hb hO; replace HS := HSq; clear HSq)
  clear hB
  have v0 : IntKind.i64.wrap (-(1 + r)) = -(1 + r) := IntWalk.i64_in _ ⟨by omega, by omega⟩
  go_upto_region 19 with (first | ((with_reducible refine isList ?_); first | (refine st_alloc HS _ rfl rfl zeroML zeroM ?_; clear HS; intro W b6 HS) | (refine st_storeA HS 0 rfl _ _ _ rfl rfl rfl _ rfl rfl (by kernel_rfl) rfl ?_; clear HS; intro W HS) | (refine st_store1 HS 0 rfl _ _ _ rfl _ rfl rfl rfl (by decide +kernel) rfl rfl ?_; clear HS; intro W HS)))
  replace HS : Hid (St w _ [blkI b6 (machL A1 { N with ceil := -(1 + r) }), machI D1 A1 N]) := HS
  go_wp2_with (first | ((with_reducible refine isList ?_); first | (refine st_loadA HS 0 rfl _ _ rfl rfl rfl (by decide +kernel) (by kernel_rfl) ?_)))
  refine (hE.out _ _ ((MachOwn.is (show MachOwn D1 _ A1 N from HS.out.get 1 rfl)).ceilTo (-(1 + r)))).mono ?_
  (rintro e Wq ⟨A2, rfl, hO, hb⟩; have HSq := hide (HS.out.push hb (machI (fun k => _) A2 _) (machI_loc _ _ _) hO fun k hk => hk); generalize (fun k => _) = D2 at HSq; clear HS hb hO; replace HS := HSq; clear HSq)
  go_wp2_with (first | ((with_reducible refine isList ?_); first | (refine st_alloc HS _ rfl rfl zeroML zeroM ?_; clear HS; intro W ba HS) | (refine st_storeA HS 0 rfl _ _ _ rfl rfl rfl _ rfl rfl (by kernel_rfl) rfl ?_; clear HS; intro W HS) | (refine st_loadA HS 0 rfl _ _ rfl rfl rfl (by decide +kernel) (by kernel_rfl) ?_)))
  refine (sameMachine_yes A2 noMac noMach _ (MachOwn.is (show MachOwn D2 _ A2 noMach from HS.out.get 1 rfl)) (machIs_none _)).mono ?_
  (rintro e Wq ⟨rfl, hb⟩; have HSq := hide (HS.out.on hb); clear HS hb; replace HS := HSq; clear HSq)
  go_wp2_with (go_at_call 12; refine (num_any _ _).mono ?_; rintro e w' ⟨rfl, rfl⟩)
  go_ret
  exact ⟨rfl, HS.out.below⟩
set_option maxRecDepth 100000 in
set_option maxHeartbeats 4000000 in
theorem calcForms_2 (a0 a1 r : Int) (w : World) (hd : bits .and .i64 a1 1023 = r) (r0 : 0 ≤ r) (r1 : r ≤ 1023) (hp : (IntKind.u64.wrap a0).tmod 7 = 2) (p : Nat) (hq : wrap64 ((IntKind.u64.wrap a0 / 8).tmod 6) = (p : Int)) (hp2 : (p : Int) < 6) :
    Calls Tryz.prog 6 #[.int .i64 a0, .int .i64 a1] w fun e w' => e = .returned (.bool true) ∧ Below w.heap.size w w' := by
  have HS := hide (St.refl w)
  have hAw := hide fun (W : World) => awake17_any W
  have hB := hide fun (W : World) => stepped17_any 0 1 (by decide) W
  have sN : Hid ((stepM begunM 0 1).sess.length = 2) := by show _ = 2; decide +kernel
  obtain ⟨N1, hN1⟩ : ∃ N1, N1 = (stepM begunM 0 1).doN 0 3 (1 + (p : Int)) := ⟨_, rfl⟩
  have hp3 : p = 0 ∨ p = 1 ∨ p = 2 ∨ p = 3 ∨ p = 4 ∨ p = 5 := by omega
  have v1 : IntKind.i64.wrap (1 + (p : Int)) = 1 + (p : Int) := IntWalk.i64_in _ ⟨by omega, by omega⟩
  have hNo : (hereP N1 0 && (decide (runP (N1.at (0 : Int).toNat) = 0) || (decide (runP (N1.at (0 : Int).toNat) = 1) || decide (runP (N1.at (0 : Int).toNat) = 4)))) = false := by rw [hN1]; rcases hp3 with rfl | rfl | rfl | rfl | rfl | rfl <;> decide +kernel
  generalize stepM begunM 0 1 = N at *
  have hN : calcP N1 0 = (noMach, 1700) := calc_no hNo
  have hE := hide fun (A : MacM) (W : World) (h : MachIs W A N1) => calcStep_any A N1 0 W h
  rw [hN] at hE
  clear hN
  clear hNo
  replace hN1 := hide hN1
  go_enter Tryz.func6, Tryz.ntmps6
  go_wp2_with fail
  refine (hAw.out _).mono ?_
  (rintro e Wq ⟨rfl, hb⟩; have HSq := hide (HS.out.on hb); clear HS hb; replace HS := HSq; clear HSq)
  clear hAw
  go_wp2_with fail
  refine (hB.out _).mono ?_
  (rintro e Wq ⟨A1, rfl, hO, hb⟩; have HSq := hide (HS.out.push hb (machI (fun k => _) A1 _) (machI_loc _ _ _) hO fun k hk => hk); generalize (fun k => _) = D1 at HSq; clear HS hb hO; replace HS := HSq; clear HSq)
  clear hB
  have hk1 : 0 < A1.s.n := by
    have := (MachOwn.is (show MachOwn D1 _ A1 N from HS.out.get 0 rfl)).sess.1
    have := sN.out; omega
  have i1 : (0 : Int) < (A1.s.n : Int) := by omega
  obtain ⟨bs1, hbs1, _⟩ := MachOwn.sblk (show MachOwn D1 _ A1 N from HS.out.get 0 rfl) hk1
  go_upto_region 12 with (first | ((with_reducible refine isList ?_); first | (refine st_alloc HS _ rfl rfl zeroML zeroM ?_; clear HS; intro W b6 HS) | (refine st_storeA HS 0 rfl _ _ _ rfl rfl rfl _ rfl rfl (by kernel_rfl) rfl ?_; clear HS; intro W HS)))
  replace HS : Hid (St w W [blkI b6 (machL A1 N), machI D1 A1 N]) := HS
  go_upto_region 19 with (first | ((with_reducible refine isList ?_); first | (refine st_load1 HS 0 rfl _ _ rfl _ rfl rfl (by decide +kernel) rfl ?_) | (refine st_storeN HS 1 rfl hk1 hbs1 3 (by decide) _ _ _ rfl _ rfl rfl rfl rfl (by decide +kernel) ?_; clear HS; intro W HS)))
  replace HS : Hid (St w W [blkI b6 (machL A1 (N.doN 0 3 (1 + (p : Int)))), machI D1 A1 (N.doN 0 3 (1 + (p : Int)))]) := HS
  rw [← hN1.out] at HS
  replace HS : Hid (St w _ [blkI b6 (machL A1 N1), machI D1 A1 N1]) := HS
  go_wp2_with (first | ((with_reducible refine isList ?_); first | (refine st_loadA HS 0 rfl _ _ rfl rfl rfl (by decide +kernel) (by kernel_rfl) ?_)))
  refine (hE.out _ _ (MachOwn.is (show MachOwn D1 _ A1 N1 from HS.out.get 1 rfl))).mono ?_
  (rintro e Wq ⟨A2, rfl, hO, hb⟩; have HSq := hide (HS.out.push hb (machI (fun k => _) A2 _) (machI_loc _ _ _) hO fun k hk => hk); generalize (fun k => _) = D2 at HSq; clear HS hb hO; replace HS := HSq; clear HSq)
  go_wp2_with (first | ((with_reducible refine isList ?_); first | (refine st_alloc HS _ rfl rfl zeroML zeroM ?_; clear HS; intro W ba HS) | (refine st_storeA HS 0 rfl _ _ _ rfl rfl rfl _ rfl rfl (by kernel_rfl) rfl ?_; clear HS; intro W HS) | (refine st_loadA HS 0 rfl _ _ rfl rfl rfl (by decide +kernel) (by kernel_rfl) ?_)))
  refine (sameMachine_yes A2 noMac noMach _ (MachOwn.is (show MachOwn D2 _ A2 noMach from HS.out.get 1 rfl)) (machIs_none _)).mono ?_
  (rintro e Wq ⟨rfl, hb⟩; have HSq := hide (HS.out.on hb); clear HS hb; replace HS := HSq; clear HSq)
  go_wp2_with (go_at_call 12; refine (num_any _ _).mono ?_; rintro e w' ⟨rfl, rfl⟩)
  go_ret
  exact ⟨rfl, HS.out.below⟩
set_option maxRecDepth 100000 in
set_option maxHeartbeats 4000000 in
theorem calcForms_3 (a0 a1 r : Int) (w : World) (hd : bits .and .i64 a1 1023 = r) (r0 : 0 ≤ r) (r1 : r ≤ 1023) (hp : (IntKind.u64.wrap a0).tmod 7 = 3) :
    Calls Tryz.prog 6 #[.int .i64 a0, .int .i64 a1] w fun e w' => e = .returned (.bool true) ∧ Below w.heap.size w w' := by
  have HS := hide (St.refl w)
  have hAw := hide fun (W : World) => awake17_any W
  have hB := hide fun (W : World) => stepped17_any 0 1 (by decide) W
  have sN : Hid ((stepM begunM 0 1).sess.length = 2) := by show _ = 2; decide +kernel
  obtain ⟨N1, hN1⟩ : ∃ N1, N1 = (stepM begunM 0 1).doN 0 4 3 := ⟨_, rfl⟩
  have hNo : (hereP N1 0 && (decide (runP (N1.at (0 : Int).toNat) = 0) || (decide (runP (N1.at (0 : Int).toNat) = 1) || decide (runP (N1.at (0 : Int).toNat) = 4)))) = false := by rw [hN1]; decide +kernel
  generalize stepM begunM 0 1 = N at *
  have hN : calcP N1 0 = (noMach, 1700) := calc_no hNo
  have hE := hide fun (A : MacM) (W : World) (h : MachIs W A N1) => calcStep_any A N1 0 W h
  rw [hN] at hE
  clear hN
  clear hNo
  replace hN1 := hide hN1
  go_enter Tryz.func6, Tryz.ntmps6
  go_wp2_with fail
  refine (hAw.out _).mono ?_
  (rintro e Wq ⟨rfl, hb⟩; have HSq := hide (HS.out.on hb); clear HS hb; replace HS := HSq; clear HSq)
  clear hAw
  go_wp2_with fail
  refine (hB.out _).mono ?_
  (rintro e Wq ⟨A1, rfl, hO, hb⟩; have HSq := hide (HS.out.push hb (machI (fun k => _) A1 _) (machI_loc _ _ _) hO fun k hk => hk); generalize (fun k => _) = D1 at HSq; clear HS hb hO; replace HS := HSq; clear HSq)
  clear hB
  have hk1 : 0 < A1.s.n := by
    have := (MachOwn.is (show MachOwn D1 _ A1 N from HS.out.get 0 rfl)).sess.1
    have := sN.out; omega
  have i1 : (0 : Int) < (A1.s.n : Int) := by omega
  obtain ⟨bs1, hbs1, _⟩ := MachOwn.sblk (show MachOwn D1 _ A1 N from HS.out.get 0 rfl) hk1
  go_upto_region 14 with (first | ((with_reducible refine isList ?_); first | (refine st_alloc HS _ rfl rfl zeroML zeroM ?_; clear HS; intro W b6 HS) | (refine st_storeA HS 0 rfl _ _ _ rfl rfl rfl _ rfl rfl (by kernel_rfl) rfl ?_; clear HS; intro W HS)))
  replace HS : Hid (St w W [blkI b6 (machL A1 N), machI D1 A1 N]) := HS
  go_upto_region 19 with (first | ((with_reducible refine isList ?_); first | (refine st_load1 HS 0 rfl _ _ rfl _ rfl rfl (by decide +kernel) rfl ?_) | (refine st_storeN HS 1 rfl hk1 hbs1 4 (by decide) _ _ _ rfl _ rfl rfl rfl rfl (by decide +kernel) ?_; clear HS; intro W HS)))
  replace HS : Hid (St w W [blkI b6 (machL A1 (N.doN 0 4 3)), machI D1 A1 (N.doN 0 4 3)]) := HS
  rw [← hN1.out] at HS
  replace HS : Hid (St w _ [blkI b6 (machL A1 N1), machI D1 A1 N1]) := HS
  go_wp2_with (first | ((with_reducible refine isList ?_); first | (refine st_loadA HS 0 rfl _ _ rfl rfl rfl (by decide +kernel) (by kernel_rfl) ?_)))
  refine (hE.out _ _ (MachOwn.is (show MachOwn D1 _ A1 N1 from HS.out.get 1 rfl))).mono ?_
  (rintro e Wq ⟨A2, rfl, hO, hb⟩; have HSq := hide (HS.out.push hb (machI (fun k => _) A2 _) (machI_loc _ _ _) hO fun k hk => hk); generalize (fun k => _) = D2 at HSq; clear HS hb hO; replace HS := HSq; clear HSq)
  go_wp2_with (first | ((with_reducible refine isList ?_); first | (refine st_alloc HS _ rfl rfl zeroML zeroM ?_; clear HS; intro W ba HS) | (refine st_storeA HS 0 rfl _ _ _ rfl rfl rfl _ rfl rfl (by kernel_rfl) rfl ?_; clear HS; intro W HS) | (refine st_loadA HS 0 rfl _ _ rfl rfl rfl (by decide +kernel) (by kernel_rfl) ?_)))
  refine (sameMachine_yes A2 noMac noMach _ (MachOwn.is (show MachOwn D2 _ A2 noMach from HS.out.get 1 rfl)) (machIs_none _)).mono ?_
  (rintro e Wq ⟨rfl, hb⟩; have HSq := hide (HS.out.on hb); clear HS hb; replace HS := HSq; clear HSq)
  go_wp2_with (go_at_call 12; refine (num_any _ _).mono ?_; rintro e w' ⟨rfl, rfl⟩)
  go_ret
  exact ⟨rfl, HS.out.below⟩
set_option maxRecDepth 100000 in
set_option maxHeartbeats 4000000 in
theorem calcForms_4 (a0 a1 r : Int) (w : World) (hd : bits .and .i64 a1 1023 = r) (r0 : 0 ≤ r) (r1 : r ≤ 1023) (hp : (IntKind.u64.wrap a0).tmod 7 = 4) (p : Nat) (hq : bits .and .i64 (a0 / 8) 1 = p) (hp2 : (p : Int) < 2) :
    Calls Tryz.prog 6 #[.int .i64 a0, .int .i64 a1] w fun e w' => e = .returned (.bool true) ∧ Below w.heap.size w w' := by
  have HS := hide (St.refl w)
  have hAw := hide fun (W : World) => awake17_any W
  have hB := hide fun (W : World) => stepped17_any 0 1 (by decide) W
  have sN : Hid ((stepM begunM 0 1).sess.length = 2) := by show _ = 2; decide +kernel
  obtain ⟨N1, hN1⟩ : ∃ N1, N1 = (stepM begunM 0 1).doN 0 4 (2 * (p : Int)) := ⟨_, rfl⟩
  have hp3 : p = 0 ∨ p = 1 := by omega
  have v1 : IntKind.i64.wrap (2 * (p : Int)) = 2 * (p : Int) := IntWalk.i64_in _ ⟨by omega, by omega⟩
  have hNo : (hereP N1 0 && (decide (runP (N1.at (0 : Int).toNat) = 0) || (decide (runP (N1.at (0 : Int).toNat) = 1) || decide (runP (N1.at (0 : Int).toNat) = 4)))) = false := by rw [hN1]; rcases hp3 with rfl | rfl <;> decide +kernel
  generalize stepM begunM 0 1 = N at *
  have hN : calcP N1 0 = (noMach, 1700) := calc_no hNo
  have hE := hide fun (A : MacM) (W : World) (h : MachIs W A N1) => calcStep_any A N1 0 W h
  rw [hN] at hE
  clear hN
  clear hNo
  replace hN1 := hide hN1
  go_enter Tryz.func6, Tryz.ntmps6
  go_wp2_with fail
  refine (hAw.out _).mono ?_
  (rintro e Wq ⟨rfl, hb⟩; have HSq := hide (HS.out.on hb); clear HS hb; replace HS := HSq; clear HSq)
  clear hAw
  go_wp2_with fail
  refine (hB.out _).mono ?_
  (rintro e Wq ⟨A1, rfl, hO, hb⟩; have HSq := hide (HS.out.push hb (machI (fun k => _) A1 _) (machI_loc _ _ _) hO fun k hk => hk); generalize (fun k => _) = D1 at HSq; clear HS hb hO; replace HS := HSq; clear HSq)
  clear hB
  have hk1 : 0 < A1.s.n := by
    have := (MachOwn.is (show MachOwn D1 _ A1 N from HS.out.get 0 rfl)).sess.1
    have := sN.out; omega
  have i1 : (0 : Int) < (A1.s.n : Int) := by omega
  obtain ⟨bs1, hbs1, _⟩ := MachOwn.sblk (show MachOwn D1 _ A1 N from HS.out.get 0 rfl) hk1
  go_upto_region 16 with (first | ((with_reducible refine isList ?_); first | (refine st_alloc HS _ rfl rfl zeroML zeroM ?_; clear HS; intro W b6 HS) | (refine st_storeA HS 0 rfl _ _ _ rfl rfl rfl _ rfl rfl (by kernel_rfl) rfl ?_; clear HS; intro W HS)))
  replace HS : Hid (St w W [blkI b6 (machL A1 N), machI D1 A1 N]) := HS
  go_upto_region 19 with (first | ((with_reducible refine isList ?_); first | (refine st_load1 HS 0 rfl _ _ rfl _ rfl rfl (by decide +kernel) rfl ?_) | (refine st_storeN HS 1 rfl hk1 hbs1 4 (by decide) _ _ _ rfl _ rfl rfl rfl rfl (by decide +kernel) ?_; clear HS; intro W HS)))
  replace HS : Hid (St w W [blkI b6 (machL A1 (N.doN 0 4 (2 * (p : Int)))), machI D1 A1 (N.doN 0 4 (2 * (p : Int)))]) := HS
  rw [← hN1.out] at HS
  replace HS : Hid (St w _ [blkI b6 (machL A1 N1), machI D1 A1 N1]) := HS
  go_wp2_with (first | ((with_reducible refine isList ?_); first | (refine st_loadA HS 0 rfl _ _ rfl rfl rfl (by decide +kernel) (by kernel_rfl) ?_)))
  refine (hE.out _ _ (MachOwn.is (show MachOwn D1 _ A1 N1 from HS.out.get 1 rfl))).mono ?_
  (rintro e Wq ⟨A2, rfl, hO, hb⟩; have HSq := hide (HS.out.push hb (machI (fun k => _) A2 _) (machI_loc _ _ _) hO fun k hk => hk); generalize (fun k => _) = D2 at HSq; clear HS hb hO; replace HS := HSq; clear HSq)
  go_wp2_with (first | ((with_reducible refine isList ?_); first | (refine st_alloc HS _ rfl rfl zeroML zeroM ?_; clear HS; intro W ba HS) | (refine st_storeA HS 0 rfl _ _ _ rfl rfl rfl _ rfl rfl (by kernel_rfl) rfl ?_; clear HS; intro W HS) | (refine st_loadA HS 0 rfl _ _ rfl rfl rfl (by decide +kernel) (by kernel_rfl) ?_)))
  refine (sameMachine_yes A2 noMac noMach _ (MachOwn.is (show MachOwn D2 _ A2 noMach from HS.out.get 1 rfl)) (machIs_none _)).mono ?_
  (rintro e Wq ⟨rfl, hb⟩; have HSq := hide (HS.out.on hb); clear HS hb; replace HS := HSq; clear HSq)
  go_wp2_with (go_at_call 12; refine (num_any _ _).mono ?_; rintro e w' ⟨rfl, rfl⟩)
  go_ret
  exact ⟨rfl, HS.out.below⟩
set_option maxRecDepth 100000 in
set_option maxHeartbeats 4000000 in
theorem calcForms_5 (a0 a1 r : Int) (w : World) (hd : bits .and .i64 a1 1023 = r) (r0 : 0 ≤ r) (r1 : r ≤ 1023) (hp : (IntKind.u64.wrap a0).tmod 7 = 5) :
    Calls Tryz.prog 6 #[.int .i64 a0, .int .i64 a1] w fun e w' => e = .returned (.bool true) ∧ Below w.heap.size w w' := by
  have HS := hide (St.refl w)
  have hAw := hide fun (W : World) => awake17_any W
  have hB := hide fun (W : World) => stepped17_any 0 1 (by decide) W
  have sN : Hid ((stepM begunM 0 1).sess.length = 2) := by show _ = 2; decide +kernel
  obtain ⟨N1, hN1⟩ : ∃ N1, N1 = (stepM begunM 0 1).doP 0 1 5 0 0 0 := ⟨_, rfl⟩
  have hNo : (hereP N1 0 && (decide (runP (N1.at (0 : Int).toNat) = 0) || (decide (runP (N1.at (0 : Int).toNat) = 1) || decide (runP (N1.at (0 : Int).toNat) = 4)))) = false := by rw [hN1]; decide +kernel
  have pN : Hid (((stepM begunM 0 1).at 0).prog.length = 12) := by show _ = 12; decide +kernel
  generalize stepM begunM 0 1 = N at *
  have hN : calcP N1 0 = (noMach, 1700) := calc_no hNo
  have hE := hide fun (A : MacM) (W : World) (h : MachIs W A N1) => calcStep_any A N1 0 W h
  rw [hN] at hE
  clear hN
  clear hNo
  replace hN1 := hide hN1
  go_enter Tryz.func6, Tryz.ntmps6
  go_wp2_with fail
  refine (hAw.out _).mono ?_
  (rintro e Wq ⟨rfl, hb⟩; have HSq := hide (HS.out.on hb); clear HS hb; replace HS := HSq; clear HSq)
  clear hAw
  go_wp2_with fail
  refine (hB.out _).mono ?_
  (rintro e Wq ⟨A1, rfl, hO, hb⟩; have HSq := hide (HS.out.push hb (machI (fun k => _) A1 _) (machI_loc _ _ _) hO fun k hk => hk); generalize (fun k => _) = D1 at HSq; clear HS hb hO; replace HS := HSq; clear HSq)
  clear hB
  have hk1 : 0 < A1.s.n := by
    have := (MachOwn.is (show MachOwn D1 _ A1 N from HS.out.get 0 rfl)).sess.1
    have := sN.out; omega
  have i1 : (0 : Int) < (A1.s.n : Int) := by omega
  obtain ⟨bs1, hbs1, _⟩ := MachOwn.sblk (show MachOwn D1 _ A1 N from HS.out.get 0 rfl) hk1
  have hpn : (A1.q 0).p.n = 3 := by
    have := ((MachOwn.is (show MachOwn D1 _ A1 N from HS.out.get 0 rfl)).sess.2.2.2 0 hk1).2.1.1
    have h3 : (N.at 0).prog.length = (A1.q 0).p.n * 4 := this
    have := pN.out; omega
  have hp1 : 1 < (A1.q 0).p.n := by omega
  have i5 : (1 : Int) < ((A1.q 0).p.n : Int) := by omega
  obtain ⟨bp, hbp, _⟩ := MachOwn.pblk (show MachOwn D1 _ A1 N from HS.out.get 0 rfl) hk1 (by omega)
  replace hpn := hide hpn
  replace hbp := hide hbp
  go_upto_region 18 with (first | ((with_reducible refine isList ?_); first | (refine st_alloc HS _ rfl rfl zeroML zeroM ?_; clear HS; intro W b6 HS) | (refine st_storeA HS 0 rfl _ _ _ rfl rfl rfl _ rfl rfl (by kernel_rfl) rfl ?_; clear HS; intro W HS)))
  replace HS : Hid (St w W [blkI b6 (machL A1 N), machI D1 A1 N]) := HS
  have c3 : W.cell? ⟨bs1, 3, none⟩ = some (.slice (some ⟨bp, 0, none⟩) (A1.q 0).p.n (A1.q 0).p.c) := by
    obtain ⟨bs', off, e1, _, hr'⟩ := (MachOwn.is (show MachOwn D1 _ A1 N from HS.out.get 1 rfl)).sess.range hk1
    rw [hbs1] at e1; cases e1
    have := hr' 3 _ rfl
    rw [Nat.zero_add] at this
    rw [← hbp.out]; exact this
  go_upto_region 19 with (first | ((with_reducible refine isList ?_); first | (refine st_load1 HS 0 rfl _ _ rfl _ rfl rfl (by decide +kernel) rfl ?_) | (refine st_storeP HS 1 rfl hk1 hp1 hbp.out _ _ _ rfl _ rfl rfl rfl rfl (by decide +kernel) ?_; clear HS; intro W HS)))
  clear c3
  replace HS : Hid (St w W [blkI b6 (machL A1 (N.doP 0 1 5 0 0 0)), machI D1 A1 (N.doP 0 1 5 0 0 0)]) := HS
  rw [← hN1.out] at HS
  replace HS : Hid (St w _ [blkI b6 (machL A1 N1), machI D1 A1 N1]) := HS
  go_wp2_with (first | ((with_reducible refine isList ?_); first | (refine st_loadA HS 0 rfl _ _ rfl rfl rfl (by decide +kernel) (by kernel_rfl) ?_)))
  refine (hE.out _ _ (MachOwn.is (show MachOwn D1 _ A1 N1 from HS.out.get 1 rfl))).mono ?_
  (rintro e Wq ⟨A2, rfl, hO, hb⟩; have HSq := hide (HS.out.push hb (machI (fun k => _) A2 _) (machI_loc _ _ _) hO fun k hk => hk); generalize (fun k => _) = D2 at HSq; clear HS hb hO; replace HS := HSq; clear HSq)
  go_wp2_with (first | ((with_reducible refine isList ?_); first | (refine st_alloc HS _ rfl rfl zeroML zeroM ?_; clear HS; intro W ba HS) | (refine st_storeA HS 0 rfl _ _ _ rfl rfl rfl _ rfl rfl (by kernel_rfl) rfl ?_; clear HS; intro W HS) | (refine st_loadA HS 0 rfl _ _ rfl rfl rfl (by decide +kernel) (by kernel_rfl) ?_)))
  refine (sameMachine_yes A2 noMac noMach _ (MachOwn.is (show MachOwn D2 _ A2 noMach from HS.out.get 1 rfl)) (machIs_none _)).mono ?_
  (rintro e Wq ⟨rfl, hb⟩; have HSq := hide (HS.out.on hb); clear HS hb; replace HS := HSq; clear HSq)
  go_wp2_with (go_at_call 12; refine (num_any _ _).mono ?_; rintro e w' ⟨rfl, rfl⟩)
  go_ret
  exact ⟨rfl, HS.out.below⟩
set_option maxRecDepth 100000 in
set_option maxHeartbeats 4000000 in
theorem calcForms_6 (a0 a1 r : Int) (w : World) (hd : bits .and .i64 a1 1023 = r) (r0 : 0 ≤ r) (r1 : r ≤ 1023) (hp : (IntKind.u64.wrap a0).tmod 7 = 6) :
    Calls Tryz.prog 6 #[.int .i64 a0, .int .i64 a1] w fun e w' => e = .returned (.bool true) ∧ Below w.heap.size w w' := by
  have HS := hide (St.refl w)
  have hAw := hide fun (W : World) => awake17_any W
  have hB := hide fun (W : World) => stepped17_any 0 1 (by decide) W
  have sN : Hid ((stepM begunM 0 1).sess.length = 2) := by show _ = 2; decide +kernel
  obtain ⟨N1, hN1⟩ : ∃ N1, N1 = (stepM begunM 0 1).doP 0 1 6 3 0 0 := ⟨_, rfl⟩
  have hNo : (hereP N1 0 && (decide (runP (N1.at (0 : Int).toNat) = 0) || (decide (runP (N1.at (0 : Int).toNat) = 1) || decide (runP (N1.at (0 : Int).toNat) = 4)))) = false := by rw [hN1]; decide +kernel
  have pN : Hid (((stepM begunM 0 1).at 0).prog.length = 12) := by show _ = 12; decide +kernel
  generalize stepM begunM 0 1 = N at *
  have hN : calcP N1 0 = (noMach, 1700) := calc_no hNo
  have hE := hide fun (A : MacM) (W : World) (h : MachIs W A N1) => calcStep_any A N1 0 W h
  rw [hN] at hE
  clear hN
  clear hNo
  replace hN1 := hide hN1
  go_enter Tryz.func6, Tryz.ntmps6
  go_wp2_with fail
  refine (hAw.out _).mono ?_
  (rintro e Wq ⟨rfl, hb⟩; have HSq := hide (HS.out.on hb); clear HS hb; replace HS := HSq; clear HSq)
  clear hAw
  go_wp2_with fail
  refine (hB.out _).mono ?_
  (rintro e Wq ⟨A1, rfl, hO, hb⟩; have HSq := hide (HS.out.push hb (machI (fun k => _) A1 _) (machI_loc _ _ _) hO fun k hk => hk); generalize (fun k => _) = D1 at HSq; clear HS hb hO; replace HS := HSq; clear HSq)
  clear hB
  have hk1 : 0 < A1.s.n := by
    have := (MachOwn.is (show MachOwn D1 _ A1 N from HS.out.get 0 rfl)).sess.1
    have := sN.out; omega
  have i1 : (0 : Int) < (A1.s.n : Int) := by omega
  obtain ⟨bs1, hbs1, _⟩ := MachOwn.sblk (show MachOwn D1 _ A1 N from HS.out.get 0 rfl) hk1
  have hpn : (A1.q 0).p.n = 3 := by
    have := ((MachOwn.is (show MachOwn D1 _ A1 N from HS.out.get 0 rfl)).sess.2.2.2 0 hk1).2.1.1
    have h3 : (N.at 0).prog.length = (A1.q 0).p.n * 4 := this
    have := pN.out; omega
  have hp1 : 1 < (A1.q 0).p.n := by omega
  have i5 : (1 : Int) < ((A1.q 0).p.n : Int) := by omega
  obtain ⟨bp, hbp, _⟩ := MachOwn.pblk (show MachOwn D1 _ A1 N from HS.out.get 0 rfl) hk1 (by omega)
  replace hpn := hide hpn
  replace hbp := hide hbp
  go_upto_region 6 with (first | ((with_reducible refine isList ?_); first | (refine st_alloc HS _ rfl rfl zeroML zeroM ?_; clear HS; intro W b6 HS) | (refine st_storeA HS 0 rfl _ _ _ rfl rfl rfl _ rfl rfl (by kernel_rfl) rfl ?_; clear HS; intro W HS)))
  replace HS : Hid (St w W [blkI b6 (machL A1 N), machI D1 A1 N]) := HS
  have c3 : W.cell? ⟨bs1, 3, none⟩ = some (.slice (some ⟨bp, 0, none⟩) (A1.q 0).p.n (A1.q 0).p.c) := by
    obtain ⟨bs', off, e1, _, hr'⟩ := (MachOwn.is (show MachOwn D1 _ A1 N from HS.out.get 1 rfl)).sess.range hk1
    rw [hbs1] at e1; cases e1
    have := hr' 3 _ rfl
    rw [Nat.zero_add] at this
    rw [← hbp.out]; exact this
  go_upto_region 19 with (first | ((with_reducible refine isList ?_); first | (refine st_load1 HS 0 rfl _ _ rfl _ rfl rfl (by decide +kernel) rfl ?_) | (refine st_storeP HS 1 rfl hk1 hp1 hbp.out _ _ _ rfl _ rfl rfl rfl rfl (by decide +kernel) ?_; clear HS; intro W HS)))
  clear c3
  replace HS : Hid (St w W [blkI b6 (machL A1 (N.doP 0 1 6 3 0 0)), machI D1 A1 (N.doP 0 1 6 3 0 0)]) := HS
  rw [← hN1.out] at HS
  replace HS : Hid (St w _ [blkI b6 (machL A1 N1), machI D1 A1 N1]) := HS
  go_wp2_with (first | ((with_reducible refine isList ?_); first | (refine st_loadA HS 0 rfl _ _ rfl rfl rfl (by decide +kernel) (by kernel_rfl) ?_)))
  refine (hE.out _ _ (MachOwn.is (show MachOwn D1 _ A1 N1 from HS.out.get 1 rfl))).mono ?_
  (rintro e Wq ⟨A2, rfl, hO, hb⟩; have HSq := hide (HS.out.push hb (machI (fun k => _) A2 _) (machI_loc _ _ _) hO fun k hk => hk); generalize (fun k => _) = D2 at HSq; clear HS hb hO; replace HS := HSq; clear HSq)
  go_wp2_with (first | ((with_reducible refine isList ?_); first | (refine st_alloc HS _ rfl rfl zeroML zeroM ?_; clear HS; intro W ba HS) | (refine st_storeA HS 0 rfl _ _ _ rfl rfl rfl _ rfl rfl (by kernel_rfl) rfl ?_; clear HS; intro W HS) | (refine st_loadA HS 0 rfl _ _ rfl rfl rfl (by decide +kernel) (by kernel_rfl) ?_)))
  refine (sameMachine_yes A2 noMac noMach _ (MachOwn.is (show MachOwn D2 _ A2 noMach from HS.out.get 1 rfl)) (machIs_none _)).mono ?_
  (rintro e Wq ⟨rfl, hb⟩; have HSq := hide (HS.out.on hb); clear HS hb; replace HS := HSq; clear HSq)
  go_wp2_with (go_at_call 12; refine (num_any _ _).mono ?_; rintro e w' ⟨rfl, rfl⟩)
  go_ret
  exact ⟨rfl, HS.out.below⟩
theorem calcForms_any (a0 a1 : Int) (w : World) :
    Calls Tryz.prog 6 #[.int .i64 a0, .int .i64 a1] w fun e w' => e = .returned (.bool true) ∧ Below w.heap.size w w' := by
  have h0 : 0 ≤ IntKind.u64.wrap a0 := by rw [IntKind.wrap_u64]; omega
  have h1 := Int.tmod_nonneg 7 h0
  have h2 := Int.tmod_lt_of_pos (IntKind.u64.wrap a0) (show (0 : Int) < 7 by decide)
  have r0 : 0 ≤ a1 % 1024 := by omega
  have r1 : a1 % 1024 ≤ 1023 := by omega
  obtain ⟨p, hp, hp2⟩ := bit_pick (a0 / 8) 1 2 rfl (mask1 _) (by decide)
  have t0 : 0 ≤ IntKind.u64.wrap a0 / 8 := by omega
  have t1 := Int.tmod_nonneg 6 t0
  have t2 := Int.tmod_lt_of_pos (IntKind.u64.wrap a0 / 8) (show (0 : Int) < 6 by decide)
  have hm : wrap64 ((IntKind.u64.wrap a0 / 8).tmod 6) = (IntKind.u64.wrap a0 / 8).tmod 6 := IntWalk.wrap64_in _ ⟨by omega, by omega⟩
  obtain ⟨t, ht⟩ : ∃ t : Nat, wrap64 ((IntKind.u64.wrap a0 / 8).tmod 6) = (t : Int) := ⟨((IntKind.u64.wrap a0 / 8).tmod 6).toNat, by omega⟩
  generalize hq : (IntKind.u64.wrap a0).tmod 7 = c at h1 h2
  have : c = 0 ∨ c = 1 ∨ c = 2 ∨ c = 3 ∨ c = 4 ∨ c = 5 ∨ c = 6 := by omega
  rcases this with rfl | rfl | rfl | rfl | rfl | rfl | rfl
  · exact calcForms_0 a0 a1 _ w (mask1023 _) r0 r1 hq p hp hp2
  · exact calcForms_1 a0 a1 _ w (mask1023 _) r0 r1 hq
  · exact calcForms_2 a0 a1 _ w (mask1023 _) r0 r1 hq t ht (by omega)
  · exact calcForms_3 a0 a1 _ w (mask1023 _) r0 r1 hq
  · exact calcForms_4 a0 a1 _ w (mask1023 _) r0 r1 hq p hp hp2
  · exact calcForms_5 a0 a1 _ w (mask1023 _) r0 r1 hq
  · exact calcForms_6 a0 a1 _ w (mask1023 _) r0 r1 hq
end Go.Proofs.YtnjognmnbpcaaaaGreat
