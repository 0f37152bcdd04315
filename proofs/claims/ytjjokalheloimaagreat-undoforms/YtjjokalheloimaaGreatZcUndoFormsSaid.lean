/-
  The law UndoForms. (Written by wip/tools/gen_undoforms.py)
-/
import Derived.Test.YtjjokalheloimaaGreatZhAwake13
import Derived.Test.YtjjokalheloimaaGreatZlbb
import Derived.Test.YtjjokalheloimaaGreatZlbg
import Derived.Test.YtjjokalheloimaaGreatZlab
namespace Go.Proofs.YtjjokalheloimaaGreat
open Go.RowKit
set_option linter.unusedSimpArgs false
set_option linter.unusedVariables false
set_option maxRecDepth 100000 in
set_option maxHeartbeats 4000000 in
theorem undoForms_0 (a0 a1 r : Int) (w : World) (hd : bits .and .i64 a1 1023 = r) (r0 : 0 ≤ r) (r1 : r ≤ 1023) (hp : (IntKind.u64.wrap a0).tmod 4 = 0) :
    Calls Tryz.prog 11 #[.int .i64 a0, .int .i64 a1] w fun e w' => e = .returned (.bool true) ∧ Below w.heap.size w w' := by
  have HS := hide (St.refl w)
  have hAw := hide fun (W : World) => awake13_any W
  have hS := hide fun (W : World) => stepped13_any 0 5 (by decide) W
  have sN : Hid ((stepM begunM 0 5).sess.length = 2) := by show _ = 2; decide +kernel
  generalize stepM begunM 0 5 = N at hS sN
  have hno := fun (i : Int) => here_may i (may_ceil (M := { N with ceil := -(1 + r) }) (upToV_not (.inl (by show -(1 + r) < 0; omega))))
  have hA := hide fun (A : MacM) (W : World) (h : MachIs W A { N with ceil := -(1 + r) }) => undoAgain_any A { N with ceil := -(1 + r) } 0 3 W h
  have hE := hide fun (A : MacM) (W : World) (h : MachIs W A { N with ceil := -(1 + r) }) => undoEnd_any A { N with ceil := -(1 + r) } 0 1 0 W h
  rw [againP_no (.inl (hno _))] at hA
  rw [endP_no (.inl (hno _))] at hE
  go_enter Tryz.func11, Tryz.ntmps11
  go_wp2_with fail
  refine (hAw.out _).mono ?_
  (rintro e Wq ⟨rfl, hb⟩; have HSq := hide (HS.out.on hb); clear HS hb; replace HS := HSq; clear HSq)
  clear hAw
  go_wp2_with fail
  refine (hS.out _).mono ?_
  (rintro e Wq ⟨A1, rfl, hO, hb⟩; have HSq := hide (HS.out.push hb (machI (fun k => _) A1 _) (machI_loc _ _ _) hO fun k hk => hk); generalize (fun k => _) = D1 at HSq; clear HS hb hO; replace HS := HSq; clear HSq)
  clear hS
  have v0 : IntKind.i64.wrap (-(1 + r)) = -(1 + r) := IntWalk.i64_in _ ⟨by omega, by omega⟩
  go_upto_region 15 with (first | ((with_reducible refine isList ?_); first | (refine st_alloc HS _ rfl rfl zeroML zeroM ?_; clear HS; intro W b6 HS) | (refine st_storeA HS 0 rfl _ _ _ rfl rfl rfl _ rfl rfl (by kernel_rfl) rfl ?_; clear HS; intro W HS) | (refine st_store1 HS 0 rfl _ _ _ rfl _ rfl rfl rfl (by decide +kernel) rfl rfl ?_; clear HS; intro W HS)))
  replace HS : Hid (St w _ [blkI b6 (machL A1 { N with ceil := -(1 + r) }), machI D1 A1 N]) := HS
  go_wp2_with (first | ((with_reducible refine isList ?_); first | (refine st_loadA HS 0 rfl _ _ rfl rfl rfl (by decide +kernel) (by kernel_rfl) ?_)))
  refine (hA.out A1 _ ((MachOwn.is (show MachOwn D1 _ A1 N from HS.out.get 1 rfl)).ceilTo (-(1 + r)))).mono ?_
  (rintro e Wq ⟨A2, rfl, hO, hb⟩; have HSq := hide (HS.out.push hb (machI (fun k => _) A2 _) (machI_loc _ _ _) hO fun k hk => hk); generalize (fun k => _) = D2 at HSq; clear HS hb hO; replace HS := HSq; clear HSq)
  go_wp2_with (first | ((with_reducible refine isList ?_); first | (refine st_alloc HS _ rfl rfl zeroML zeroM ?_; clear HS; intro W ba HS) | (refine st_storeA HS 0 rfl _ _ _ rfl rfl rfl _ rfl rfl (by kernel_rfl) rfl ?_; clear HS; intro W HS) | (refine st_loadA HS 2 rfl _ _ rfl rfl rfl (by decide +kernel) (by kernel_rfl) ?_)))
  refine (hE.out A1 _ ((MachOwn.is (show MachOwn D1 _ A1 N from HS.out.get 3 rfl)).ceilTo (-(1 + r)))).mono ?_
  (rintro e Wq ⟨A3, rfl, hO, hb⟩; have HSq := hide (HS.out.push hb (machI (fun k => _) A3 _) (machI_loc _ _ _) hO fun k hk => hk); generalize (fun k => _) = D3 at HSq; clear HS hb hO; replace HS := HSq; clear HSq)
  go_wp2_with (first | ((with_reducible refine isList ?_); first | (refine st_alloc HS _ rfl rfl zeroML zeroM ?_; clear HS; intro W bb HS) | (refine st_storeA HS 0 rfl _ _ _ rfl rfl rfl _ rfl rfl (by kernel_rfl) rfl ?_; clear HS; intro W HS) | (refine st_loadA HS 2 rfl _ _ rfl rfl rfl (by decide +kernel) (by kernel_rfl) ?_)))
  refine (sameMachine_yes A2 noMac noMach _ (MachOwn.is (show MachOwn D2 _ A2 noMach from HS.out.get 3 rfl)) (machIs_none _)).mono ?_
  (rintro e Wq ⟨rfl, hb⟩; have HSq := hide (HS.out.on hb); clear HS hb; replace HS := HSq; clear HSq)
  go_wp2_with (first | ((with_reducible refine isList ?_); first | (refine st_loadA HS 0 rfl _ _ rfl rfl rfl (by decide +kernel) (by kernel_rfl) ?_)) | (go_at_call 27; refine (num_any _ _).mono ?_; rintro e w' ⟨rfl, rfl⟩))
  refine (sameMachine_yes A3 noMac noMach _ (MachOwn.is (show MachOwn D3 _ A3 noMach from HS.out.get 1 rfl)) (machIs_none _)).mono ?_
  (rintro e Wq ⟨rfl, hb⟩; have HSq := hide (HS.out.on hb); clear HS hb; replace HS := HSq; clear HSq)
  go_wp2_with (go_at_call 27; refine (num_any _ _).mono ?_; rintro e w' ⟨rfl, rfl⟩)
  go_ret
  exact ⟨rfl, HS.out.below⟩
set_option maxRecDepth 100000 in
set_option maxHeartbeats 4000000 in
theorem undoForms_1 (a0 a1 r : Int) (w : World) (hd : bits .and .i64 a1 1023 = r) (r0 : 0 ≤ r) (r1 : r ≤ 1023) (hp : (IntKind.u64.wrap a0).tmod 4 = 1) (p : Nat) (hq : bits .and .i64 (a0 / 4) 1 = p) (hp2 : (p : Int) < 2) :
    Calls Tryz.prog 11 #[.int .i64 a0, .int .i64 a1] w fun e w' => e = .returned (.bool true) ∧ Below w.heap.size w w' := by
  have HS := hide (St.refl w)
  have hAw := hide fun (W : World) => awake13_any W
  have hS := hide fun (W : World) => stepped13_any 0 5 (by decide) W
  have sN : Hid ((stepM begunM 0 5).sess.length = 2) := by show _ = 2; decide +kernel
  generalize stepM begunM 0 5 = N at hS sN
  obtain ⟨x, hx, hxx⟩ := pick_two (-(1 + r)) (1 + (1 + r)) p (by omega)
  have hno : hereP N x = false := here_out (by rw [sN.out]; omega)
  have hA := hide fun (A : MacM) (W : World) (h : MachIs W A N) => undoAgain_any A N x 3 W h
  have hE := hide fun (A : MacM) (W : World) (h : MachIs W A N) => undoEnd_any A N x 1 0 W h
  rw [againP_no (.inl hno)] at hA
  rw [endP_no (.inl hno)] at hE
  go_enter Tryz.func11, Tryz.ntmps11
  go_wp2_with fail
  refine (hAw.out _).mono ?_
  (rintro e Wq ⟨rfl, hb⟩; have HSq := hide (HS.out.on hb); clear HS hb; replace HS := HSq; clear HSq)
  clear hAw
  go_wp2_with fail
  refine (hS.out _).mono ?_
  (rintro e Wq ⟨A1, rfl, hO, hb⟩; have HSq := hide (HS.out.push hb (machI (fun k => _) A1 _) (machI_loc _ _ _) hO fun k hk => hk); generalize (fun k => _) = D1 at HSq; clear HS hb hO; replace HS := HSq; clear HSq)
  clear hS
  replace hxx := hide hxx
  go_upto_region 11 with (first | ((with_reducible refine isList ?_); first | (refine st_alloc HS _ rfl rfl zeroML zeroM ?_; clear HS; intro W b6 HS) | (refine st_storeA HS 0 rfl _ _ _ rfl rfl rfl _ rfl rfl (by kernel_rfl) rfl ?_; clear HS; intro W HS)))
  go_upto_region 15 with fail
  replace HS := hide ((HS.out.alloc [.int .i64 (-(1 + r)), .int .i64 (1 + (1 + r))] 3).sel [1, 2] (by decide) rfl)
  replace HS : Hid (St w _ [blkI b6 (machL A1 N), machI D1 A1 N]) := HS
  go_wp2_with (first | ((with_reducible refine isList ?_); first | (refine st_loadA HS 0 rfl _ _ rfl rfl rfl (by decide +kernel) (by kernel_rfl) ?_)))
  refine (hA.out A1 _ (MachOwn.is (show MachOwn D1 _ A1 N from HS.out.get 1 rfl))).mono ?_
  (rintro e Wq ⟨A2, rfl, hO, hb⟩; have HSq := hide (HS.out.push hb (machI (fun k => _) A2 _) (machI_loc _ _ _) hO fun k hk => hk); generalize (fun k => _) = D2 at HSq; clear HS hb hO; replace HS := HSq; clear HSq)
  go_wp2_with (first | ((with_reducible refine isList ?_); first | (refine st_alloc HS _ rfl rfl zeroML zeroM ?_; clear HS; intro W ba HS) | (refine st_storeA HS 0 rfl _ _ _ rfl rfl rfl _ rfl rfl (by kernel_rfl) rfl ?_; clear HS; intro W HS) | (refine st_loadA HS 2 rfl _ _ rfl rfl rfl (by decide +kernel) (by kernel_rfl) ?_)))
  refine (hE.out A1 _ (MachOwn.is (show MachOwn D1 _ A1 N from HS.out.get 3 rfl))).mono ?_
  (rintro e Wq ⟨A3, rfl, hO, hb⟩; have HSq := hide (HS.out.push hb (machI (fun k => _) A3 _) (machI_loc _ _ _) hO fun k hk => hk); generalize (fun k => _) = D3 at HSq; clear HS hb hO; replace HS := HSq; clear HSq)
  go_wp2_with (first | ((with_reducible refine isList ?_); first | (refine st_alloc HS _ rfl rfl zeroML zeroM ?_; clear HS; intro W bb HS) | (refine st_storeA HS 0 rfl _ _ _ rfl rfl rfl _ rfl rfl (by kernel_rfl) rfl ?_; clear HS; intro W HS) | (refine st_loadA HS 2 rfl _ _ rfl rfl rfl (by decide +kernel) (by kernel_rfl) ?_)))
  refine (sameMachine_yes A2 noMac noMach _ (MachOwn.is (show MachOwn D2 _ A2 noMach from HS.out.get 3 rfl)) (machIs_none _)).mono ?_
  (rintro e Wq ⟨rfl, hb⟩; have HSq := hide (HS.out.on hb); clear HS hb; replace HS := HSq; clear HSq)
  go_wp2_with (first | ((with_reducible refine isList ?_); first | (refine st_loadA HS 0 rfl _ _ rfl rfl rfl (by decide +kernel) (by kernel_rfl) ?_)) | (go_at_call 27; refine (num_any _ _).mono ?_; rintro e w' ⟨rfl, rfl⟩))
  refine (sameMachine_yes A3 noMac noMach _ (MachOwn.is (show MachOwn D3 _ A3 noMach from HS.out.get 1 rfl)) (machIs_none _)).mono ?_
  (rintro e Wq ⟨rfl, hb⟩; have HSq := hide (HS.out.on hb); clear HS hb; replace HS := HSq; clear HSq)
  go_wp2_with (go_at_call 27; refine (num_any _ _).mono ?_; rintro e w' ⟨rfl, rfl⟩)
  go_ret
  exact ⟨rfl, HS.out.below⟩
set_option maxRecDepth 100000 in
set_option maxHeartbeats 4000000 in
theorem undoForms_2 (a0 a1 r : Int) (w : World) (hd : bits .and .i64 a1 1023 = r) (r0 : 0 ≤ r) (r1 : r ≤ 1023) (hp : (IntKind.u64.wrap a0).tmod 4 = 2) (p q : Nat) (hp7 : bits .and .i64 (a0 / 4) 7 = p) (hq : bits .and .i64 (a0 / 4) 1 = q) (hp8 : (p : Int) < 8) (hq2 : (q : Int) < 2) :
    Calls Tryz.prog 11 #[.int .i64 a0, .int .i64 a1] w fun e w' => e = .returned (.bool true) ∧ Below w.heap.size w w' := by
  have HS := hide (St.refl w)
  have hAw := hide fun (W : World) => awake13_any W
  have hS := hide fun (W : World) => stepped13_any 0 5 (by decide) W
  have sN : Hid ((stepM begunM 0 5).sess.length = 2) := by show _ = 2; decide +kernel
  generalize stepM begunM 0 5 = N at hS sN
  obtain ⟨x, hx, hxx⟩ := pick_int [-(1 + r), 0, 1, 2, 4, 6, 6 + (1 + r), 6] p (by simp; omega)
  obtain ⟨y, hy, hyy⟩ := pick_two (-(1 + r)) (255 + (1 + r)) q (by omega)
  have hkx : (x == 3 || x == 5) = false := by
    simp only [List.mem_cons, List.not_mem_nil, or_false] at hxx
    have h3 : ¬ x = 3 := by omega
    have h5 : ¬ x = 5 := by omega
    simp [h3, h5]
  have hty : upToV y 255 = false := upToV_not (by omega)
  simp only [List.map_cons, List.map_nil] at hx
  have hA := hide fun (A : MacM) (W : World) (h : MachIs W A N) => undoAgain_any A N 0 x W h
  have hE := hide fun (A : MacM) (W : World) (h : MachIs W A N) => undoEnd_any A N 0 1 y W h
  rw [againP_no (.inr hkx)] at hA
  rw [endP_no (.inr (.inr hty))] at hE
  go_enter Tryz.func11, Tryz.ntmps11
  go_wp2_with fail
  refine (hAw.out _).mono ?_
  (rintro e Wq ⟨rfl, hb⟩; have HSq := hide (HS.out.on hb); clear HS hb; replace HS := HSq; clear HSq)
  clear hAw
  go_wp2_with fail
  refine (hS.out _).mono ?_
  (rintro e Wq ⟨A1, rfl, hO, hb⟩; have HSq := hide (HS.out.push hb (machI (fun k => _) A1 _) (machI_loc _ _ _) hO fun k hk => hk); generalize (fun k => _) = D1 at HSq; clear HS hb hO; replace HS := HSq; clear HSq)
  clear hS
  clear hxx hyy
  have v1 : IntKind.i64.wrap (6 + (1 + r)) = 6 + (1 + r) := IntWalk.i64_in _ ⟨by omega, by omega⟩
  have v2 : IntKind.i64.wrap (255 + (1 + r)) = 255 + (1 + r) := IntWalk.i64_in _ ⟨by omega, by omega⟩
  have v0 : IntKind.i64.wrap (-(1 + r)) = -(1 + r) := IntWalk.i64_in _ ⟨by omega, by omega⟩
  go_upto_region 13 with (first | ((with_reducible refine isList ?_); first | (refine st_alloc HS _ rfl rfl zeroML zeroM ?_; clear HS; intro W b6 HS) | (refine st_storeA HS 0 rfl _ _ _ rfl rfl rfl _ rfl rfl (by kernel_rfl) rfl ?_; clear HS; intro W HS)))
  go_upto_region 15 with fail
  replace HS := hide (((HS.out.alloc [.int .i64 (-(1 + r)), .int .i64 (0), .int .i64 (1), .int .i64 (2), .int .i64 (4), .int .i64 (6), .int .i64 (6 + (1 + r)), .int .i64 (6)] 3).alloc [.int .i64 (-(1 + r)), .int .i64 (255 + (1 + r))] 3).sel [2, 3] (by decide) rfl)
  replace HS : Hid (St w _ [blkI b6 (machL A1 N), machI D1 A1 N]) := HS
  go_wp2_with (first | ((with_reducible refine isList ?_); first | (refine st_loadA HS 0 rfl _ _ rfl rfl rfl (by decide +kernel) (by kernel_rfl) ?_)))
  refine (hA.out A1 _ (MachOwn.is (show MachOwn D1 _ A1 N from HS.out.get 1 rfl))).mono ?_
  (rintro e Wq ⟨A2, rfl, hO, hb⟩; have HSq := hide (HS.out.push hb (machI (fun k => _) A2 _) (machI_loc _ _ _) hO fun k hk => hk); generalize (fun k => _) = D2 at HSq; clear HS hb hO; replace HS := HSq; clear HSq)
  go_wp2_with (first | ((with_reducible refine isList ?_); first | (refine st_alloc HS _ rfl rfl zeroML zeroM ?_; clear HS; intro W ba HS) | (refine st_storeA HS 0 rfl _ _ _ rfl rfl rfl _ rfl rfl (by kernel_rfl) rfl ?_; clear HS; intro W HS) | (refine st_loadA HS 2 rfl _ _ rfl rfl rfl (by decide +kernel) (by kernel_rfl) ?_)))
  refine (hE.out A1 _ (MachOwn.is (show MachOwn D1 _ A1 N from HS.out.get 3 rfl))).mono ?_
  (rintro e Wq ⟨A3, rfl, hO, hb⟩; have HSq := hide (HS.out.push hb (machI (fun k => _) A3 _) (machI_loc _ _ _) hO fun k hk => hk); generalize (fun k => _) = D3 at HSq; clear HS hb hO; replace HS := HSq; clear HSq)
  go_wp2_with (first | ((with_reducible refine isList ?_); first | (refine st_alloc HS _ rfl rfl zeroML zeroM ?_; clear HS; intro W bb HS) | (refine st_storeA HS 0 rfl _ _ _ rfl rfl rfl _ rfl rfl (by kernel_rfl) rfl ?_; clear HS; intro W HS) | (refine st_loadA HS 2 rfl _ _ rfl rfl rfl (by decide +kernel) (by kernel_rfl) ?_)))
  refine (sameMachine_yes A2 noMac noMach _ (MachOwn.is (show MachOwn D2 _ A2 noMach from HS.out.get 3 rfl)) (machIs_none _)).mono ?_
  (rintro e Wq ⟨rfl, hb⟩; have HSq := hide (HS.out.on hb); clear HS hb; replace HS := HSq; clear HSq)
  go_wp2_with (first | ((with_reducible refine isList ?_); first | (refine st_loadA HS 0 rfl _ _ rfl rfl rfl (by decide +kernel) (by kernel_rfl) ?_)) | (go_at_call 27; refine (num_any _ _).mono ?_; rintro e w' ⟨rfl, rfl⟩))
  refine (sameMachine_yes A3 noMac noMach _ (MachOwn.is (show MachOwn D3 _ A3 noMach from HS.out.get 1 rfl)) (machIs_none _)).mono ?_
  (rintro e Wq ⟨rfl, hb⟩; have HSq := hide (HS.out.on hb); clear HS hb; replace HS := HSq; clear HSq)
  go_wp2_with (go_at_call 27; refine (num_any _ _).mono ?_; rintro e w' ⟨rfl, rfl⟩)
  go_ret
  exact ⟨rfl, HS.out.below⟩
set_option maxRecDepth 100000 in
set_option maxHeartbeats 4000000 in
theorem undoForms_3 (a0 a1 r : Int) (w : World) (hd : bits .and .i64 a1 1023 = r) (r0 : 0 ≤ r) (r1 : r ≤ 1023) (hp : (IntKind.u64.wrap a0).tmod 4 = 3) (p : Nat) (hq : bits .and .i64 (a0 / 4) 1 = p) (hp2 : (p : Int) < 2) :
    Calls Tryz.prog 11 #[.int .i64 a0, .int .i64 a1] w fun e w' => e = .returned (.bool true) ∧ Below w.heap.size w w' := by
  have HS := hide (St.refl w)
  have hAw := hide fun (W : World) => awake13_any W
  have hS := hide fun (W : World) => stepped13_any 0 5 (by decide) W
  have sN : Hid ((stepM begunM 0 5).sess.length = 2) := by show _ = 2; decide +kernel
  generalize stepM begunM 0 5 = N at hS sN
  obtain ⟨x, hx, hxx⟩ := pick_two (-(1 + r)) (5 + (1 + r)) p (by omega)
  have hkx : upToV x 5 = false := upToV_not (by omega)
  have hA := hide fun (A : MacM) (W : World) (h : MachIs W A N) => undoAgain_any A N 0 6 W h
  have hE := hide fun (A : MacM) (W : World) (h : MachIs W A N) => undoEnd_any A N 0 x 0 W h
  rw [againP_no (.inr rfl)] at hA
  rw [endP_no (.inr (.inl hkx))] at hE
  go_enter Tryz.func11, Tryz.ntmps11
  go_wp2_with fail
  refine (hAw.out _).mono ?_
  (rintro e Wq ⟨rfl, hb⟩; have HSq := hide (HS.out.on hb); clear HS hb; replace HS := HSq; clear HSq)
  clear hAw
  go_wp2_with fail
  refine (hS.out _).mono ?_
  (rintro e Wq ⟨A1, rfl, hO, hb⟩; have HSq := hide (HS.out.push hb (machI (fun k => _) A1 _) (machI_loc _ _ _) hO fun k hk => hk); generalize (fun k => _) = D1 at HSq; clear HS hb hO; replace HS := HSq; clear HSq)
  clear hS
  clear hxx
  go_upto_region 7 with (first | ((with_reducible refine isList ?_); first | (refine st_alloc HS _ rfl rfl zeroML zeroM ?_; clear HS; intro W b6 HS) | (refine st_storeA HS 0 rfl _ _ _ rfl rfl rfl _ rfl rfl (by kernel_rfl) rfl ?_; clear HS; intro W HS)))
  go_upto_region 15 with fail
  replace HS := hide ((HS.out.alloc [.int .i64 (-(1 + r)), .int .i64 (5 + (1 + r))] 3).sel [1, 2] (by decide) rfl)
  replace HS : Hid (St w _ [blkI b6 (machL A1 N), machI D1 A1 N]) := HS
  go_wp2_with (first | ((with_reducible refine isList ?_); first | (refine st_loadA HS 0 rfl _ _ rfl rfl rfl (by decide +kernel) (by kernel_rfl) ?_)))
  refine (hA.out A1 _ (MachOwn.is (show MachOwn D1 _ A1 N from HS.out.get 1 rfl))).mono ?_
  (rintro e Wq ⟨A2, rfl, hO, hb⟩; have HSq := hide (HS.out.push hb (machI (fun k => _) A2 _) (machI_loc _ _ _) hO fun k hk => hk); generalize (fun k => _) = D2 at HSq; clear HS hb hO; replace HS := HSq; clear HSq)
  go_wp2_with (first | ((with_reducible refine isList ?_); first | (refine st_alloc HS _ rfl rfl zeroML zeroM ?_; clear HS; intro W ba HS) | (refine st_storeA HS 0 rfl _ _ _ rfl rfl rfl _ rfl rfl (by kernel_rfl) rfl ?_; clear HS; intro W HS) | (refine st_loadA HS 2 rfl _ _ rfl rfl rfl (by decide +kernel) (by kernel_rfl) ?_)))
  refine (hE.out A1 _ (MachOwn.is (show MachOwn D1 _ A1 N from HS.out.get 3 rfl))).mono ?_
  (rintro e Wq ⟨A3, rfl, hO, hb⟩; have HSq := hide (HS.out.push hb (machI (fun k => _) A3 _) (machI_loc _ _ _) hO fun k hk => hk); generalize (fun k => _) = D3 at HSq; clear HS hb hO; replace HS := HSq; clear HSq)
  go_wp2_with (first | ((with_reducible refine isList ?_); first | (refine st_alloc HS _ rfl rfl zeroML zeroM ?_; clear HS; intro W bb HS) | (refine st_storeA HS 0 rfl _ _ _ rfl rfl rfl _ rfl rfl (by kernel_rfl) rfl ?_; clear HS; intro W HS) | (refine st_loadA HS 2 rfl _ _ rfl rfl rfl (by decide +kernel) (by kernel_rfl) ?_)))
  refine (sameMachine_yes A2 noMac noMach _ (MachOwn.is (show MachOwn D2 _ A2 noMach from HS.out.get 3 rfl)) (machIs_none _)).mono ?_
  (rintro e Wq ⟨rfl, hb⟩; have HSq := hide (HS.out.on hb); clear HS hb; replace HS := HSq; clear HSq)
  go_wp2_with (first | ((with_reducible refine isList ?_); first | (refine st_loadA HS 0 rfl _ _ rfl rfl rfl (by decide +kernel) (by kernel_rfl) ?_)) | (go_at_call 27; refine (num_any _ _).mono ?_; rintro e w' ⟨rfl, rfl⟩))
  refine (sameMachine_yes A3 noMac noMach _ (MachOwn.is (show MachOwn D3 _ A3 noMach from HS.out.get 1 rfl)) (machIs_none _)).mono ?_
  (rintro e Wq ⟨rfl, hb⟩; have HSq := hide (HS.out.on hb); clear HS hb; replace HS := HSq; clear HSq)
  go_wp2_with (go_at_call 27; refine (num_any _ _).mono ?_; rintro e w' ⟨rfl, rfl⟩)
  go_ret
  exact ⟨rfl, HS.out.below⟩
theorem undoForms_any (a0 a1 : Int) (w : World) :
    Calls Tryz.prog 11 #[.int .i64 a0, .int .i64 a1] w fun e w' => e = .returned (.bool true) ∧ Below w.heap.size w w' := by
  have h0 : 0 ≤ IntKind.u64.wrap a0 := by rw [IntKind.wrap_u64]; omega
  have h1 := Int.tmod_nonneg 4 h0
  have h2 := Int.tmod_lt_of_pos (IntKind.u64.wrap a0) (show (0 : Int) < 4 by decide)
  have r0 : 0 ≤ a1 % 1024 := by omega
  have r1 : a1 % 1024 ≤ 1023 := by omega
  obtain ⟨p, hp, hp2⟩ := bit_pick (a0 / 4) 1 2 rfl (mask1 _) (by decide)
  obtain ⟨q, hq, hq2⟩ := bit_pick (a0 / 4) 3 8 rfl (mask 3 (by decide) _) (by decide)
  generalize hq : (IntKind.u64.wrap a0).tmod 4 = c at h1 h2
  have : c = 0 ∨ c = 1 ∨ c = 2 ∨ c = 3 := by omega
  rcases this with rfl | rfl | rfl | rfl
  · exact undoForms_0 a0 a1 _ w (mask1023 _) r0 r1 hq
  · exact undoForms_1 a0 a1 _ w (mask1023 _) r0 r1 hq p hp hp2
  · exact undoForms_2 a0 a1 _ w (mask1023 _) r0 r1 hq q p (by assumption) hp hq2 hp2
  · exact undoForms_3 a0 a1 _ w (mask1023 _) r0 r1 hq p hp hp2
end Go.Proofs.YtjjokalheloimaaGreat
