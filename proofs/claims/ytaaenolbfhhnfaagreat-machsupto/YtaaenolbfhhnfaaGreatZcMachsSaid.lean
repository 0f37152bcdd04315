/-
  The law Machs, where the script's Starts have room for their sessions.
-/
import Derived.Test.YtaaenolbfhhnfaaGreatZlbb
import Derived.Test.YtaaenolbfhhnfaaGreatZhSameScr
import Derived.Test.YtaaenolbfhhnfaaGreatZlah
import Derived.Test.YtaaenolbfhhnfaaGreatZlbc
namespace Go.Proofs.YtaaenolbfhhnfaaGreat
open Go.RowKit
set_option linter.unusedVariables false
set_option linter.unusedSimpArgs false
set_option maxRecDepth 100000 in
set_option maxHeartbeats 8000000 in
theorem machs_any (B : ScrM) (S : PScript) (A : MacM) (M : PMach) (i kind value : Int) (w : World) (hB : ScrIs w B S) (hM : MachIs w A M) (hbd : B.t.n * 184 ≤ 140737488351232) :
    Calls Tryz.prog 3 #[scrA B S, machA A M, .int .i64 i, .int .i64 kind, .int .i64 value] w fun e w' => e = .returned (.bool true) ∧ Below w.heap.size w w' := by
  have HM := hide hM
  have HB := hide hB
  have hN1 := hide fun (A' : ScrM) (W : World) (h : ScrIs W A' S) => machNew_any A' S W h
  have hN2 := hide fun (W : World) (hb : Below w.heap.size w W) => rnewMach_any B S W (hB.below hb) hbd
  have hT1 := hide fun (A' : MacM) (W : World) (h : MachIs W A' M) => gtelling_any A' M i kind value W h
  have hT2 := hide fun (W : World) (hb : Below w.heap.size w W) => rtelling_any A M i kind value W (hM.below hb)
  have hAw := hide fun (W : World) => awake12_any W
  have HS := hide (St.refl w)
  clear hB hM hbd
  obtain ⟨V0, hV0⟩ : ∃ V0, V0 = scrA B S := ⟨_, rfl⟩
  rw [← hV0]
  have HV0 : Hid (V0.cells = (scrL B S).toArray) := by rw [hV0]; rfl
  clear hV0
  obtain ⟨V1, hV1⟩ : ∃ V1, V1 = machA A M := ⟨_, rfl⟩
  rw [← hV1]
  have HV1 : Hid (V1.cells = (machL A M).toArray) := by rw [hV1]; rfl
  clear hV1
  go_enter Tryz.func3, Tryz.ntmps3
  go_upto_region 1 with (first | ((with_reducible refine isList ?_); first | (refine st_box HS _ _ rfl rfl (scrL B S) HV0.out ?_; clear HS; intro W b5 HS) | (refine st_box HS _ _ rfl rfl (machL A M) HV1.out ?_; clear HS; intro W b6 HS)))
  replace HS : Hid (St w W [blkI b6 (machL A M), blkI b5 (scrL B S)]) := HS
  clear HV0 HV1
  (try simp only [Act.put, List.setIfInBounds_toArray, List.set_cons_zero, List.set_cons_succ])
  refine machs_copies B S A M b5 b6 w W HB.out HM.out HS _ _ _ _ _ _ _ _ _ _ _ _ _ _ _ _ _ _ _ _ _ _ _ _ _ _ _ _ _ _ _ _ _ _ _ _ _ _ _ _ _ _ _ _ _ _ _ _ _ _ _ _ _ _ _ _ _ _ _ _ _ _ _ _ _ _ _ _ _ _ _ _ _ _ _ _ _ _ _ _ _ _ _ _ _ _ _ _ _ _ _ _ _ _ _ ?_
  clear HS
  intro B2 A2 DS DA b11 b12 W u21 u22 u23 u24 HS
  go_wp2_with (first | ((with_reducible refine isList ?_); first | (refine st_loadA HS 0 rfl _ _ rfl rfl rfl (by decide +kernel) (by kernel_rfl) ?_)))
  refine (hN1.out B2 _ (ScrOwn.is (show ScrOwn DS _ B2 S from HS.out.get 2 rfl))).mono ?_
  clear hN1
  generalize newP S = xc at hN2 ⊢
  obtain ⟨X, c⟩ := xc
  (rintro e Wq ⟨A3, rfl, hO, hb⟩; have HSq := hide (HS.out.push hb (machI (fun k => _) A3 _) (machI_loc _ _ _) hO fun k hk => hk); generalize (fun k => _) = D3 at HSq; clear HS hb hO; replace HS := HSq; clear HSq)
  go_upto_region 3 with (first | ((with_reducible refine isList ?_); first | (refine st_alloc HS _ rfl rfl zeroML zeroM ?_; clear HS; intro W b13 HS) | (refine st_storeA HS 0 rfl _ _ _ rfl rfl rfl _ rfl rfl (by kernel_rfl) rfl ?_; clear HS; intro W HS)))
  replace HS : Hid (St w W [blkI b13 (machL A3 X), machI D3 A3 X, blkI b11 (scrL B2 S), blkI b12 (machL A2 M), scrI DS B2 S, machI DA A2 M, blkI b6 (machL A M), blkI b5 (scrL B S)]) := HS
  go_wp2_with (first | ((with_reducible refine isList ?_); first | (refine st_loadA HS 7 rfl _ _ rfl rfl rfl (by decide +kernel) (by kernel_rfl) ?_)))
  refine (hN2.out _ HS.out.below).mono ?_
  clear hN2
  (rintro e Wq ⟨A4, rfl, hO, hb⟩; have HSq := hide (HS.out.push hb (machI (fun k => _) A4 _) (machI_loc _ _ _) hO fun k hk => hk); generalize (fun k => _) = D4 at HSq; clear HS hb hO; replace HS := HSq; clear HSq)
  go_upto_region 4 with (first | ((with_reducible refine isList ?_); first | (refine st_alloc HS _ rfl rfl zeroML zeroM ?_; clear HS; intro W b15 HS) | (refine st_storeA HS 0 rfl _ _ _ rfl rfl rfl _ rfl rfl (by kernel_rfl) rfl ?_; clear HS; intro W HS)))
  replace HS : Hid (St w W [blkI b15 (machL A4 X), machI D4 A4 X, blkI b13 (machL A3 X), machI D3 A3 X, blkI b11 (scrL B2 S), blkI b12 (machL A2 M), scrI DS B2 S, machI DA A2 M, blkI b6 (machL A M), blkI b5 (scrL B S)]) := HS
  go_wp2_with (first | ((with_reducible refine isList ?_); first | (refine st_loadA HS 5 rfl _ _ rfl rfl rfl (by decide +kernel) (by kernel_rfl) ?_)))
  refine (hT1.out A2 _ (MachOwn.is (show MachOwn DA _ A2 M from HS.out.get 7 rfl))).mono ?_
  clear hT1
  generalize tellingP M i kind value = xd at hT2 ⊢
  obtain ⟨T, d⟩ := xd
  (rintro e Wq ⟨A5, rfl, hO, hb⟩; have HSq := hide (HS.out.push hb (machI (fun k => _) A5 _) (machI_loc _ _ _) hO fun k hk => hk); generalize (fun k => _) = D5 at HSq; clear HS hb hO; replace HS := HSq; clear HSq)
  go_upto_region 5 with (first | ((with_reducible refine isList ?_); first | (refine st_alloc HS _ rfl rfl zeroML zeroM ?_; clear HS; intro W b17 HS) | (refine st_storeA HS 0 rfl _ _ _ rfl rfl rfl _ rfl rfl (by kernel_rfl) rfl ?_; clear HS; intro W HS)))
  replace HS : Hid (St w W [blkI b17 (machL A5 T), machI D5 A5 T, blkI b15 (machL A4 X), machI D4 A4 X, blkI b13 (machL A3 X), machI D3 A3 X, blkI b11 (scrL B2 S), blkI b12 (machL A2 M), scrI DS B2 S, machI DA A2 M, blkI b6 (machL A M), blkI b5 (scrL B S)]) := HS
  go_wp2_with (first | ((with_reducible refine isList ?_); first | (refine st_loadA HS 10 rfl _ _ rfl rfl rfl (by decide +kernel) (by kernel_rfl) ?_)))
  refine (hT2.out _ HS.out.below).mono ?_
  clear hT2
  (rintro e Wq ⟨A6, rfl, hO, hb⟩; have HSq := hide (HS.out.push hb (machI (fun k => _) A6 _) (machI_loc _ _ _) hO fun k hk => hk); generalize (fun k => _) = D6 at HSq; clear HS hb hO; replace HS := HSq; clear HSq)
  go_upto_region 6 with (first | ((with_reducible refine isList ?_); first | (refine st_alloc HS _ rfl rfl zeroML zeroM ?_; clear HS; intro W b19 HS) | (refine st_storeA HS 0 rfl _ _ _ rfl rfl rfl _ rfl rfl (by kernel_rfl) rfl ?_; clear HS; intro W HS)))
  replace HS : Hid (St w W [blkI b19 (machL A6 T), machI D6 A6 T, blkI b17 (machL A5 T), machI D5 A5 T, blkI b15 (machL A4 X), machI D4 A4 X, blkI b13 (machL A3 X), machI D3 A3 X, blkI b11 (scrL B2 S), blkI b12 (machL A2 M), scrI DS B2 S, machI DA A2 M, blkI b6 (machL A M), blkI b5 (scrL B S)]) := HS
  have HC := hide fun (W : World) (h : Hid (St w W [blkI b19 (machL A6 T), machI D6 A6 T, blkI b17 (machL A5 T), machI D5 A5 T, blkI b15 (machL A4 X), machI D4 A4 X, blkI b13 (machL A3 X), machI D3 A3 X, blkI b11 (scrL B2 S), blkI b12 (machL A2 M), scrI DS B2 S, machI DA A2 M, blkI b6 (machL A M), blkI b5 (scrL B S)])) => (⟨h.out.blk 6 rfl, h.out.blk 4 rfl, h.out.blk 2 rfl, h.out.blk 0 rfl, h.out.blk 9 rfl, h.out.blk 12 rfl⟩ : Blk W b13 (machL A3 X) ∧ Blk W b15 (machL A4 X) ∧ Blk W b17 (machL A5 T) ∧ Blk W b19 (machL A6 T) ∧ Blk W b12 (machL A2 M) ∧ Blk W b6 (machL A M))
  (try simp only [Act.put, List.setIfInBounds_toArray, List.set_cons_zero, List.set_cons_succ])
  refine wp_region_tree [true, true, false, false, false, false, false, false, false, false, false, false, false, false, false, false, false, false, false, false, false, false, false, false, false, false, false, false, false] #[true, true, false, false, false, false, false, false, false, false, false, false, false, false, false, false, false, false, false, false, false, false, false, false, false, false, false, false, false] 27 (fun W => Blk W b13 (machL A3 X) ∧ Blk W b15 (machL A4 X) ∧ Blk W b17 (machL A5 T) ∧ Blk W b19 (machL A6 T) ∧ Blk W b12 (machL A2 M) ∧ Blk W b6 (machL A M)) (by kernel_rfl) (by kernel_rfl) (by kernel_rfl) (by decide +kernel) (HC.out _ (hide HS.out.drew)) ?_
  intro kne
  simp only [pickAt]
  repeat (first | ((first | (refine wpQuiet_la _ _ rfl b13 (0) rfl rfl (by decide +kernel) (machL A3 X) (by kernel_rfl) (fun w hC => hC.1.range) ?_) | (refine wpQuiet_la _ _ rfl b15 (0) rfl rfl (by decide +kernel) (machL A4 X) (by kernel_rfl) (fun w hC => hC.2.1.range) ?_)); simp only [Act.put, List.setIfInBounds_toArray, List.set_cons_zero, List.set_cons_succ]) | go_big_quiet_step (fail))
  refine wpQuiet_nil ?_
  clear kne
  replace HS := hide HS.out.drew
  generalize World.drew _ = Wd at *
  refine tree_step [2] (by decide +kernel) rfl (in_one ?_)
  refine tree_op rfl rfl fun K hK => ?_
  go_big_op
  refine (sameMachine_yes A3 A4 X _ (MachOwn.is (show MachOwn D3 _ A3 X from HS.out.get 7 rfl)) (MachOwn.is (show MachOwn D4 _ A4 X from HS.out.get 5 rfl))).mono ?_
  (rintro e Wq ⟨rfl, hb⟩; have HSq := hide (HS.out.on hb); clear HS hb; replace HS := HSq; clear HSq)
  refine hK _ _ (InC.mk (HC.out _ HS)) ?_
  clear hK K
  (try simp only [Act.put, List.setIfInBounds_toArray, List.set_cons_zero, List.set_cons_succ])
  refine tree_step [3] (by decide +kernel) rfl (in_one ?_)
  refine tree_op rfl rfl fun K hK => ?_
  go_big_op
  refine hK _ _ (InC.mk (HC.out _ HS)) ?_
  clear hK K
  (try simp only [Act.put, List.setIfInBounds_toArray, List.set_cons_zero, List.set_cons_succ])
  refine tree_step [4] (by decide +kernel) rfl (in_one ?_)
  refine tree_op rfl rfl fun K hK => ?_
  go_big_op
  refine hK _ _ (InC.mk (HC.out _ HS)) ?_
  clear hK K
  (try simp only [Act.put, List.setIfInBounds_toArray, List.set_cons_zero, List.set_cons_succ])
  refine tree_x 7 (v := .int .i64 c) rfl (by kernel_rfl) (by decide +kernel) rfl (fun w => by kernel_rfl) ?_
  (try simp only [Act.put, List.setIfInBounds_toArray, List.set_cons_zero, List.set_cons_succ])
  refine tree_step [5] (by decide +kernel) rfl (in_one ?_)
  refine tree_op rfl rfl fun K hK => ?_
  go_big_op
  refine hK _ _ (InC.mk (HC.out _ HS)) ?_
  clear hK K
  (try simp only [Act.put, List.setIfInBounds_toArray, List.set_cons_zero, List.set_cons_succ])
  refine tree_step [6] (by decide +kernel) rfl (in_one ?_)
  refine tree_op rfl rfl fun K hK => ?_
  go_big_op
  refine (num_any _ _).mono ?_
  (rintro e w' ⟨rfl, rfl⟩)
  refine hK _ _ (InC.mk (HC.out _ HS)) ?_
  clear hK K
  (try simp only [Act.put, List.setIfInBounds_toArray, List.set_cons_zero, List.set_cons_succ])
  refine tree_step [8] (by decide +kernel) rfl (in_one ?_)
  refine tree_op rfl rfl fun K hK => ?_
  go_big_op
  refine hK _ _ (InC.mk (HC.out _ HS)) ?_
  clear hK K
  (try simp only [Act.put, List.setIfInBounds_toArray, List.set_cons_zero, List.set_cons_succ])
  refine tree_step [9] (by decide +kernel) rfl (in_one ?_)
  refine tree_op rfl rfl fun K hK => ?_
  go_big_op
  refine hK _ _ (InC.mk (HC.out _ HS)) ?_
  clear hK K
  (try simp only [Act.put, List.setIfInBounds_toArray, List.set_cons_zero, List.set_cons_succ])
  refine tree_step [10] (by decide +kernel) rfl (in_one ?_)
  refine tree_op rfl rfl fun K hK => ?_
  go_big_op
  refine hK _ _ (InC.mk (HC.out _ HS)) ?_
  clear hK K
  (try simp only [Act.put, List.setIfInBounds_toArray, List.set_cons_zero, List.set_cons_succ])
  refine tree_la 11 _ _ b17 (machL A5 T) rfl rfl rfl (by decide +kernel) (by kernel_rfl) (by kernel_rfl) (by decide +kernel) rfl (fun w hC => (InC.out hC).2.2.1.range) (InC.mk (HC.out _ HS)) ?_
  (try simp only [Act.put, List.setIfInBounds_toArray, List.set_cons_zero, List.set_cons_succ])
  refine tree_la 12 _ _ b19 (machL A6 T) rfl rfl rfl (by decide +kernel) (by kernel_rfl) (by kernel_rfl) (by decide +kernel) rfl (fun w hC => (InC.out hC).2.2.2.1.range) (InC.mk (HC.out _ HS)) ?_
  (try simp only [Act.put, List.setIfInBounds_toArray, List.set_cons_zero, List.set_cons_succ])
  refine tree_step [13] (by decide +kernel) rfl (in_one ?_)
  refine tree_op rfl rfl fun K hK => ?_
  go_big_op
  refine (sameMachine_yes A5 A6 T _ (MachOwn.is (show MachOwn D5 _ A5 T from HS.out.get 3 rfl)) (MachOwn.is (show MachOwn D6 _ A6 T from HS.out.get 1 rfl))).mono ?_
  (rintro e Wq ⟨rfl, hb⟩; have HSq := hide (HS.out.on hb); clear HS hb; replace HS := HSq; clear HSq)
  refine hK _ _ (InC.mk (HC.out _ HS)) ?_
  clear hK K
  (try simp only [Act.put, List.setIfInBounds_toArray, List.set_cons_zero, List.set_cons_succ])
  refine tree_step [14] (by decide +kernel) rfl (in_one ?_)
  refine tree_op rfl rfl fun K hK => ?_
  go_big_op
  refine hK _ _ (InC.mk (HC.out _ HS)) ?_
  clear hK K
  (try simp only [Act.put, List.setIfInBounds_toArray, List.set_cons_zero, List.set_cons_succ])
  refine tree_step [15] (by decide +kernel) rfl (in_one ?_)
  refine tree_op rfl rfl fun K hK => ?_
  go_big_op
  refine hK _ _ (InC.mk (HC.out _ HS)) ?_
  clear hK K
  (try simp only [Act.put, List.setIfInBounds_toArray, List.set_cons_zero, List.set_cons_succ])
  refine tree_step [16] (by decide +kernel) rfl (in_one ?_)
  refine tree_op rfl rfl fun K hK => ?_
  go_big_op
  refine hK _ _ (InC.mk (HC.out _ HS)) ?_
  clear hK K
  (try simp only [Act.put, List.setIfInBounds_toArray, List.set_cons_zero, List.set_cons_succ])
  refine tree_x 19 (v := .int .i64 d) rfl (by kernel_rfl) (by decide +kernel) rfl (fun w => by kernel_rfl) ?_
  (try simp only [Act.put, List.setIfInBounds_toArray, List.set_cons_zero, List.set_cons_succ])
  refine tree_step [17] (by decide +kernel) rfl (in_one ?_)
  refine tree_op rfl rfl fun K hK => ?_
  go_big_op
  refine hK _ _ (InC.mk (HC.out _ HS)) ?_
  clear hK K
  (try simp only [Act.put, List.setIfInBounds_toArray, List.set_cons_zero, List.set_cons_succ])
  refine tree_step [18] (by decide +kernel) rfl (in_one ?_)
  refine tree_op rfl rfl fun K hK => ?_
  go_big_op
  refine (num_any _ _).mono ?_
  (rintro e w' ⟨rfl, rfl⟩)
  refine hK _ _ (InC.mk (HC.out _ HS)) ?_
  clear hK K
  (try simp only [Act.put, List.setIfInBounds_toArray, List.set_cons_zero, List.set_cons_succ])
  refine tree_step [20] (by decide +kernel) rfl (in_one ?_)
  refine tree_op rfl rfl fun K hK => ?_
  go_big_op
  refine hK _ _ (InC.mk (HC.out _ HS)) ?_
  clear hK K
  (try simp only [Act.put, List.setIfInBounds_toArray, List.set_cons_zero, List.set_cons_succ])
  refine tree_step [21] (by decide +kernel) rfl (in_one ?_)
  refine tree_op rfl rfl fun K hK => ?_
  go_big_op
  refine hK _ _ (InC.mk (HC.out _ HS)) ?_
  clear hK K
  (try simp only [Act.put, List.setIfInBounds_toArray, List.set_cons_zero, List.set_cons_succ])
  refine tree_step [22] (by decide +kernel) rfl (in_one ?_)
  refine tree_op rfl rfl fun K hK => ?_
  go_big_op
  refine hK _ _ (InC.mk (HC.out _ HS)) ?_
  clear hK K
  (try simp only [Act.put, List.setIfInBounds_toArray, List.set_cons_zero, List.set_cons_succ])
  refine tree_la 23 _ _ b12 (machL A2 M) rfl rfl rfl (by decide +kernel) (by kernel_rfl) (by kernel_rfl) (by decide +kernel) rfl (fun w hC => (InC.out hC).2.2.2.2.1.range) (InC.mk (HC.out _ HS)) ?_
  (try simp only [Act.put, List.setIfInBounds_toArray, List.set_cons_zero, List.set_cons_succ])
  refine tree_la 25 _ _ b6 (machL A M) rfl rfl rfl (by decide +kernel) (by kernel_rfl) (by kernel_rfl) (by decide +kernel) rfl (fun w hC => (InC.out hC).2.2.2.2.2.range) (InC.mk (HC.out _ HS)) ?_
  (try simp only [Act.put, List.setIfInBounds_toArray, List.set_cons_zero, List.set_cons_succ])
  refine tree_step [24] (by decide +kernel) rfl (in_one ?_)
  refine tree_op rfl rfl fun K hK => ?_
  go_big_op
  refine (gmachMay_any A2 M _ (MachOwn.is (show MachOwn DA _ A2 M from HS.out.get 11 rfl))).mono ?_
  (rintro e Wq ⟨rfl, hb⟩; have HSq := hide (HS.out.on hb); clear HS hb; replace HS := HSq; clear HSq)
  refine hK _ _ (InC.mk (HC.out _ HS)) ?_
  clear hK K
  (try simp only [Act.put, List.setIfInBounds_toArray, List.set_cons_zero, List.set_cons_succ])
  refine tree_step [26] (by decide +kernel) rfl (in_one ?_)
  refine tree_op rfl rfl fun K hK => ?_
  go_big_op
  refine (rmachMay_any A M _ (HM.out.below HS.out.below)).mono ?_
  (rintro e Wq ⟨rfl, hb⟩; have HSq := hide (HS.out.on hb); clear HS hb; replace HS := HSq; clear HSq)
  refine hK _ _ (InC.mk (HC.out _ HS)) ?_
  clear hK K
  (try simp only [Act.put, List.setIfInBounds_toArray, List.set_cons_zero, List.set_cons_succ])
  refine tree_step [27] (by decide +kernel) rfl (in_one ?_)
  refine tree_op rfl rfl fun K hK => ?_
  go_big_op
  refine hK _ _ (InC.mk (HC.out _ HS)) ?_
  clear hK K
  (try simp only [Act.put, List.setIfInBounds_toArray, List.set_cons_zero, List.set_cons_succ])
  refine tree_step [28] (by decide +kernel) rfl (in_one ?_)
  refine tree_op rfl rfl fun K hK => ?_
  go_big_op
  refine hK _ _ (InC.mk (HC.out _ HS)) ?_
  clear hK K
  (try simp only [Act.put, List.setIfInBounds_toArray, List.set_cons_zero, List.set_cons_succ])
  refine tree_end (by decide +kernel) ?_
  refine NoPanic.normal ?_
  go_wp2_with (first | ((with_reducible refine isList ?_); first | (refine st_loadA HS 6 rfl _ _ rfl rfl rfl (by decide +kernel) (by kernel_rfl) ?_)))
  refine (spoilMach_any w _ 7 D3 A3 X _ (by exact rfl) HS).mono ?_
  rintro e Wq ⟨rfl, hq⟩
  clear HS
  replace HS : Hid (St w Wq [blkI b19 (machL A6 T), machI D6 A6 T, blkI b17 (machL A5 T), machI D5 A5 T, blkI b15 (machL A4 X), machI D4 A4 X, blkI b13 (machL A3 X), splI D3 A3, blkI b11 (scrL B2 S), blkI b12 (machL A2 M), scrI DS B2 S, machI DA A2 M, blkI b6 (machL A M), blkI b5 (scrL B S)]) := hq
  clear hq HC
  go_wp2_with (first | ((with_reducible refine isList ?_); first | (refine st_loadA HS 2 rfl _ _ rfl rfl rfl (by decide +kernel) (by kernel_rfl) ?_)))
  refine (spoilMach_any w _ 3 D5 A5 T _ (by exact rfl) HS).mono ?_
  rintro e Wr ⟨rfl, hq⟩
  clear HS
  replace HS : Hid (St w Wr [blkI b19 (machL A6 T), machI D6 A6 T, blkI b17 (machL A5 T), splI D5 A5, blkI b15 (machL A4 X), machI D4 A4 X, blkI b13 (machL A3 X), splI D3 A3, blkI b11 (scrL B2 S), blkI b12 (machL A2 M), scrI DS B2 S, machI DA A2 M, blkI b6 (machL A M), blkI b5 (scrL B S)]) := hq
  clear hq
  go_wp2_with (first | ((with_reducible refine isList ?_); first | (refine st_loadA HS 8 rfl _ _ rfl rfl rfl (by decide +kernel) (by kernel_rfl) ?_) | (refine st_loadA HS 13 rfl _ _ rfl rfl rfl (by decide +kernel) (by kernel_rfl) ?_)))
  refine (sameScript_yes B2 B S _ (ScrOwn.is (show ScrOwn DS _ B2 S from HS.out.get 10 rfl)) (HB.out.below HS.out.below)).mono ?_
  (rintro e Wq ⟨rfl, hb⟩; have HSq := hide (HS.out.on hb); clear HS hb; replace HS := HSq; clear HSq)
  go_wp2_with (first | ((with_reducible refine isList ?_); first | (refine st_loadA HS 9 rfl _ _ rfl rfl rfl (by decide +kernel) (by kernel_rfl) ?_) | (refine st_loadA HS 12 rfl _ _ rfl rfl rfl (by decide +kernel) (by kernel_rfl) ?_)))
  refine (sameMachine_yes A2 A M _ (MachOwn.is (show MachOwn DA _ A2 M from HS.out.get 11 rfl)) (HM.out.below HS.out.below)).mono ?_
  (rintro e Wq ⟨rfl, hb⟩; have HSq := hide (HS.out.on hb); clear HS hb; replace HS := HSq; clear HSq)
  go_wp2_with fail
  refine (hAw.out _).mono ?_
  (rintro e Wq ⟨rfl, hb⟩; have HSq := hide (HS.out.on hb); clear HS hb; replace HS := HSq; clear HSq)
  go_wp2
  go_ret
  exact ⟨rfl, HS.out.below⟩
end Go.Proofs.YtaaenolbfhhnfaaGreat
