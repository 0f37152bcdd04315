/-
  The law MachNews. (Written by wip/tools/gen_machnews.py)
-/
import Derived.Test.YtaaenolbfhhnfaaGreatZlcg
import Derived.Test.YtaaenolbfhhnfaaGreatZlab
namespace Go.Proofs.YtaaenolbfhhnfaaGreat
open Go.RowKit
set_option linter.unusedSimpArgs false
set_option linter.unusedVariables false
set_option maxRecDepth 100000 in
set_option maxHeartbeats 4000000 in
theorem machNews_0 (a0 a1 r : Int) (w : World) (hd : bits .and .i64 a1 1023 = r) (r0 : 0 ≤ r) (r1 : r ≤ 1023) (hp : (IntKind.u64.wrap a0).tmod 9 = 0) :
    Calls Tryz.prog 5 #[.int .i64 a0, .int .i64 a1] w fun e w' => e = .returned (.bool true) ∧ Below w.heap.size w w' := by
  have HS := hide (St.refl w)
  have hAw := hide fun (W : World) => awake12_any W
  obtain ⟨X, hX⟩ : ∃ X, newP (newsS [1] [] 5 3 0 5 [2, 0, 0, 0]) = (X, 0) := ⟨_, newP_yes (by decide +kernel)⟩
  have hN := hide fun (B : ScrM) (W : World) (h : ScrIs W B (newsS [1] [] 5 3 0 5 [2, 0, 0, 0])) => machNew_any B (newsS [1] [] 5 3 0 5 [2, 0, 0, 0]) W h
  rw [hX] at hN
  clear hX
  have hM := hide fun (B : ScrM) (W : World) (h : ScrIs W B (newsS [-(1 + r)] [] 5 3 0 5 [2, 0, 0, 0])) => machNew_any B (newsS [-(1 + r)] [] 5 3 0 5 [2, 0, 0, 0]) W h
  rw [show newP (newsS [-(1 + r)] [] 5 3 0 5 [2, 0, 0, 0]) = (noMach, 1200) from scr_vals (news_value (upToV_not (.inl (by omega))))] at hM
  go_enter Tryz.func5, Tryz.ntmps5
  go_wp2_with fail
  refine (hAw.out _).mono ?_
  (rintro e Wq ⟨rfl, hb⟩; have HSq := hide (HS.out.on hb); clear HS hb; replace HS := HSq; clear HSq)
  clear hAw
  go_upto_region 5 with (first | ((with_reducible refine isList ?_); first | (refine st_litB HS _ 3 1 _ rfl rfl Tryz.underlying22 Tryz.infoN (by decide) (by decide) [(0, .int .i64 1)] rfl _ (fill_n1 1) ?_; clear HS; intro W bv HS) | (refine st_litB HS _ 62 1 _ rfl rfl Tryz.underlying55 Tryz.infoI (by decide) (by decide) [(0, .agg #[.int .i64 2, .int .i64 0, .int .i64 0, .int .i64 0])] rfl _ (fill_i1 2 0 0 0) ?_; clear HS; intro W bi HS) | (refine st_litB HS _ 64 2 _ rfl rfl Tryz.underlying24 Tryz.infoC (by decide) (by decide) [(0, .agg #[.int .i64 3, .int .i64 0, .int .i64 0, .slice (some ⟨bi, 0, none⟩) 1 1]), (1, .agg #[.int .i64 5, .int .i64 0, .int .i64 0, .slice none 0 0])] rfl _ (fill_c2 3 0 0 5 0 0 _ _) ?_; clear HS; intro W bt HS) | (refine st_alloc HS _ rfl rfl zeroPL zeroP ?_; clear HS; intro W b6 HS) | (refine st_storeA HS 0 rfl _ _ _ rfl rfl rfl _ rfl rfl (by kernel_rfl) rfl ?_; clear HS; intro W HS)))
  replace HS : Hid (St w W [blkI b6 (scrL ⟨fourSl ⟨some ⟨bv, 0, none⟩, 1, 1⟩ noSl noSl noSl, ⟨some ⟨bt, 0, none⟩, 2, 2⟩, (fun i => if i = 0 then ⟨some ⟨bi, 0, none⟩, 1, 1⟩ else noSl), noSl⟩ (newsS [1] [] 5 3 0 5 [2, 0, 0, 0])), blkI bt [.int .i64 3, .int .i64 0, .int .i64 0, .slice (some ⟨bi, 0, none⟩) 1 1, .int .i64 5, .int .i64 0, .int .i64 0, .slice none 0 0], blkI bi [.int .i64 2, .int .i64 0, .int .i64 0, .int .i64 0], blkI bv [.int .i64 1]]) := HS
  go_wp2_with (first | ((with_reducible refine isList ?_); first | (refine st_loadA HS 0 rfl _ _ rfl rfl rfl (by decide +kernel) (by kernel_rfl) ?_)))
  refine (hN.out ⟨fourSl ⟨some ⟨bv, 0, none⟩, 1, 1⟩ noSl noSl noSl, ⟨some ⟨bt, 0, none⟩, 2, 2⟩, (fun i => if i = 0 then ⟨some ⟨bi, 0, none⟩, 1, 1⟩ else noSl), noSl⟩ _ (news_is (slIs_blk (HS.out.blk 3 rfl) rfl (by decide)) (slIs_none _ 1) (HS.out.blk 1 rfl) (HS.out.blk 2 rfl) rfl (by decide))).mono ?_
  (rintro e Wq ⟨AX, rfl, hO, hb⟩; have HSq := hide (HS.out.push hb (machI (fun k => _) AX _) (machI_loc _ _ _) hO fun k hk => hk); generalize (fun k => _) = DX at HSq; clear HS hb hO; replace HS := HSq; clear HSq)
  clear hN
  go_upto_region 6 with (first | ((with_reducible refine isList ?_); first | (refine st_alloc HS _ rfl rfl zeroML zeroM ?_; clear HS; intro W b7 HS) | (refine st_storeA HS 0 rfl _ _ _ rfl rfl rfl _ rfl rfl (by kernel_rfl) rfl ?_; clear HS; intro W HS)))
  replace HS : Hid (St w W [blkI b6 (scrL ⟨fourSl ⟨some ⟨bv, 0, none⟩, 1, 1⟩ noSl noSl noSl, ⟨some ⟨bt, 0, none⟩, 2, 2⟩, (fun i => if i = 0 then ⟨some ⟨bi, 0, none⟩, 1, 1⟩ else noSl), noSl⟩ (newsS [1] [] 5 3 0 5 [2, 0, 0, 0])), blkI bt [.int .i64 3, .int .i64 0, .int .i64 0, .slice (some ⟨bi, 0, none⟩) 1 1, .int .i64 5, .int .i64 0, .int .i64 0, .slice none 0 0], blkI bi [.int .i64 2, .int .i64 0, .int .i64 0, .int .i64 0], blkI bv [.int .i64 1]]) := hide (HS.out.sel [2, 3, 4, 5] (by decide) rfl)
  have v0 : IntKind.i64.wrap (-(1 + r)) = -(1 + r) := IntWalk.i64_in _ ⟨by omega, by omega⟩
  go_upto_region 24 with (first | ((with_reducible refine isList ?_); first | (refine st_litB HS _ 3 1 _ rfl rfl Tryz.underlying22 Tryz.infoN (by decide) (by decide) [(0, .int .i64 (-(1 + r)))] rfl _ (fill_n1 (-(1 + r))) ?_; clear HS; intro W bn HS) | (refine st_store1 HS 1 rfl _ _ _ rfl _ rfl rfl rfl (by decide +kernel) rfl rfl ?_; clear HS; intro W HS)))
  replace HS : Hid (St w W [blkI bn [.int .i64 (-(1 + r))], blkI b6 (scrL ⟨fourSl ⟨some ⟨bn, 0, none⟩, 1, 1⟩ noSl noSl noSl, ⟨some ⟨bt, 0, none⟩, 2, 2⟩, (fun i => if i = 0 then ⟨some ⟨bi, 0, none⟩, 1, 1⟩ else noSl), noSl⟩ (newsS [-(1 + r)] [] 5 3 0 5 [2, 0, 0, 0])), blkI bt [.int .i64 3, .int .i64 0, .int .i64 0, .slice (some ⟨bi, 0, none⟩) 1 1, .int .i64 5, .int .i64 0, .int .i64 0, .slice none 0 0], blkI bi [.int .i64 2, .int .i64 0, .int .i64 0, .int .i64 0], blkI bv [.int .i64 1]]) := HS
  go_wp2_with (first | ((with_reducible refine isList ?_); first | (refine st_loadA HS 1 rfl _ _ rfl rfl rfl (by decide +kernel) (by kernel_rfl) ?_)))
  refine (hM.out ⟨fourSl ⟨some ⟨bn, 0, none⟩, 1, 1⟩ noSl noSl noSl, ⟨some ⟨bt, 0, none⟩, 2, 2⟩, (fun i => if i = 0 then ⟨some ⟨bi, 0, none⟩, 1, 1⟩ else noSl), noSl⟩ _ (news_is (slIs_blk (HS.out.blk 0 rfl) rfl (by decide)) (slIs_none _ 1) (HS.out.blk 2 rfl) (HS.out.blk 3 rfl) rfl (by decide))).mono ?_
  (rintro e Wq ⟨A2, rfl, hO, hb⟩; have HSq := hide (HS.out.push hb (machI (fun k => _) A2 _) (machI_loc _ _ _) hO fun k hk => hk); generalize (fun k => _) = D2 at HSq; clear HS hb hO; replace HS := HSq; clear HSq)
  go_wp2_with (first | ((with_reducible refine isList ?_); first | (refine st_alloc HS _ rfl rfl zeroML zeroM ?_; clear HS; intro W b9 HS) | (refine st_storeA HS 0 rfl _ _ _ rfl rfl rfl _ rfl rfl (by kernel_rfl) rfl ?_; clear HS; intro W HS) | (refine st_loadA HS 0 rfl _ _ rfl rfl rfl (by decide +kernel) (by kernel_rfl) ?_)) | (go_at_call 21; refine (num_any _ _).mono ?_; rintro e w' ⟨rfl, rfl⟩))
  refine (sameMachine_yes A2 noMac noMach _ (MachOwn.is (show MachOwn D2 _ A2 noMach from HS.out.get 1 rfl)) (machIs_none _)).mono ?_
  (rintro e Wq ⟨rfl, hb⟩; have HSq := hide (HS.out.on hb); clear HS hb; replace HS := HSq; clear HSq)
  go_wp2_with (go_at_call 21; refine (num_any _ _).mono ?_; rintro e w' ⟨rfl, rfl⟩)
  go_ret
  exact ⟨rfl, HS.out.below⟩
set_option maxRecDepth 100000 in
set_option maxHeartbeats 4000000 in
theorem machNews_1 (a0 a1 r : Int) (w : World) (hd : bits .and .i64 a1 1023 = r) (r0 : 0 ≤ r) (r1 : r ≤ 1023) (hp : (IntKind.u64.wrap a0).tmod 9 = 1) :
    Calls Tryz.prog 5 #[.int .i64 a0, .int .i64 a1] w fun e w' => e = .returned (.bool true) ∧ Below w.heap.size w w' := by
  have HS := hide (St.refl w)
  have hAw := hide fun (W : World) => awake12_any W
  obtain ⟨X, hX⟩ : ∃ X, newP (newsS [1] [] 5 3 0 5 [2, 0, 0, 0]) = (X, 0) := ⟨_, newP_yes (by decide +kernel)⟩
  have hN := hide fun (B : ScrM) (W : World) (h : ScrIs W B (newsS [1] [] 5 3 0 5 [2, 0, 0, 0])) => machNew_any B (newsS [1] [] 5 3 0 5 [2, 0, 0, 0]) W h
  rw [hX] at hN
  clear hX
  have hM := hide fun (B : ScrM) (W : World) (h : ScrIs W B (newsS [] [] 5 3 0 5 [2, 0, 0, 0])) => machNew_any B (newsS [] [] 5 3 0 5 [2, 0, 0, 0]) W h
  rw [show newP (newsS [] [] 5 3 0 5 [2, 0, 0, 0]) = (noMach, 1200) from newP_no (by decide +kernel)] at hM
  go_enter Tryz.func5, Tryz.ntmps5
  go_wp2_with fail
  refine (hAw.out _).mono ?_
  (rintro e Wq ⟨rfl, hb⟩; have HSq := hide (HS.out.on hb); clear HS hb; replace HS := HSq; clear HSq)
  clear hAw
  go_upto_region 5 with (first | ((with_reducible refine isList ?_); first | (refine st_litB HS _ 3 1 _ rfl rfl Tryz.underlying22 Tryz.infoN (by decide) (by decide) [(0, .int .i64 1)] rfl _ (fill_n1 1) ?_; clear HS; intro W bv HS) | (refine st_litB HS _ 62 1 _ rfl rfl Tryz.underlying55 Tryz.infoI (by decide) (by decide) [(0, .agg #[.int .i64 2, .int .i64 0, .int .i64 0, .int .i64 0])] rfl _ (fill_i1 2 0 0 0) ?_; clear HS; intro W bi HS) | (refine st_litB HS _ 64 2 _ rfl rfl Tryz.underlying24 Tryz.infoC (by decide) (by decide) [(0, .agg #[.int .i64 3, .int .i64 0, .int .i64 0, .slice (some ⟨bi, 0, none⟩) 1 1]), (1, .agg #[.int .i64 5, .int .i64 0, .int .i64 0, .slice none 0 0])] rfl _ (fill_c2 3 0 0 5 0 0 _ _) ?_; clear HS; intro W bt HS) | (refine st_alloc HS _ rfl rfl zeroPL zeroP ?_; clear HS; intro W b6 HS) | (refine st_storeA HS 0 rfl _ _ _ rfl rfl rfl _ rfl rfl (by kernel_rfl) rfl ?_; clear HS; intro W HS)))
  replace HS : Hid (St w W [blkI b6 (scrL ⟨fourSl ⟨some ⟨bv, 0, none⟩, 1, 1⟩ noSl noSl noSl, ⟨some ⟨bt, 0, none⟩, 2, 2⟩, (fun i => if i = 0 then ⟨some ⟨bi, 0, none⟩, 1, 1⟩ else noSl), noSl⟩ (newsS [1] [] 5 3 0 5 [2, 0, 0, 0])), blkI bt [.int .i64 3, .int .i64 0, .int .i64 0, .slice (some ⟨bi, 0, none⟩) 1 1, .int .i64 5, .int .i64 0, .int .i64 0, .slice none 0 0], blkI bi [.int .i64 2, .int .i64 0, .int .i64 0, .int .i64 0], blkI bv [.int .i64 1]]) := HS
  go_wp2_with (first | ((with_reducible refine isList ?_); first | (refine st_loadA HS 0 rfl _ _ rfl rfl rfl (by decide +kernel) (by kernel_rfl) ?_)))
  refine (hN.out ⟨fourSl ⟨some ⟨bv, 0, none⟩, 1, 1⟩ noSl noSl noSl, ⟨some ⟨bt, 0, none⟩, 2, 2⟩, (fun i => if i = 0 then ⟨some ⟨bi, 0, none⟩, 1, 1⟩ else noSl), noSl⟩ _ (news_is (slIs_blk (HS.out.blk 3 rfl) rfl (by decide)) (slIs_none _ 1) (HS.out.blk 1 rfl) (HS.out.blk 2 rfl) rfl (by decide))).mono ?_
  (rintro e Wq ⟨AX, rfl, hO, hb⟩; have HSq := hide (HS.out.push hb (machI (fun k => _) AX _) (machI_loc _ _ _) hO fun k hk => hk); generalize (fun k => _) = DX at HSq; clear HS hb hO; replace HS := HSq; clear HSq)
  clear hN
  go_upto_region 6 with (first | ((with_reducible refine isList ?_); first | (refine st_alloc HS _ rfl rfl zeroML zeroM ?_; clear HS; intro W b7 HS) | (refine st_storeA HS 0 rfl _ _ _ rfl rfl rfl _ rfl rfl (by kernel_rfl) rfl ?_; clear HS; intro W HS)))
  replace HS : Hid (St w W [blkI b6 (scrL ⟨fourSl ⟨some ⟨bv, 0, none⟩, 1, 1⟩ noSl noSl noSl, ⟨some ⟨bt, 0, none⟩, 2, 2⟩, (fun i => if i = 0 then ⟨some ⟨bi, 0, none⟩, 1, 1⟩ else noSl), noSl⟩ (newsS [1] [] 5 3 0 5 [2, 0, 0, 0])), blkI bt [.int .i64 3, .int .i64 0, .int .i64 0, .slice (some ⟨bi, 0, none⟩) 1 1, .int .i64 5, .int .i64 0, .int .i64 0, .slice none 0 0], blkI bi [.int .i64 2, .int .i64 0, .int .i64 0, .int .i64 0], blkI bv [.int .i64 1]]) := hide (HS.out.sel [2, 3, 4, 5] (by decide) rfl)
  go_upto_region 24 with (first | ((with_reducible refine isList ?_); first | (refine st_store1 HS 0 rfl _ _ _ rfl _ rfl rfl rfl (by decide +kernel) rfl rfl ?_; clear HS; intro W HS)))
  replace HS : Hid (St w W [blkI b6 (scrL ⟨fourSl noSl noSl noSl noSl, ⟨some ⟨bt, 0, none⟩, 2, 2⟩, (fun i => if i = 0 then ⟨some ⟨bi, 0, none⟩, 1, 1⟩ else noSl), noSl⟩ (newsS [] [] 5 3 0 5 [2, 0, 0, 0])), blkI bt [.int .i64 3, .int .i64 0, .int .i64 0, .slice (some ⟨bi, 0, none⟩) 1 1, .int .i64 5, .int .i64 0, .int .i64 0, .slice none 0 0], blkI bi [.int .i64 2, .int .i64 0, .int .i64 0, .int .i64 0], blkI bv [.int .i64 1]]) := HS
  go_wp2_with (first | ((with_reducible refine isList ?_); first | (refine st_loadA HS 0 rfl _ _ rfl rfl rfl (by decide +kernel) (by kernel_rfl) ?_)))
  refine (hM.out ⟨fourSl noSl noSl noSl noSl, ⟨some ⟨bt, 0, none⟩, 2, 2⟩, (fun i => if i = 0 then ⟨some ⟨bi, 0, none⟩, 1, 1⟩ else noSl), noSl⟩ _ (news_is (slIs_none _ 1) (slIs_none _ 1) (HS.out.blk 1 rfl) (HS.out.blk 2 rfl) rfl (by decide))).mono ?_
  (rintro e Wq ⟨A2, rfl, hO, hb⟩; have HSq := hide (HS.out.push hb (machI (fun k => _) A2 _) (machI_loc _ _ _) hO fun k hk => hk); generalize (fun k => _) = D2 at HSq; clear HS hb hO; replace HS := HSq; clear HSq)
  go_wp2_with (first | ((with_reducible refine isList ?_); first | (refine st_alloc HS _ rfl rfl zeroML zeroM ?_; clear HS; intro W b9 HS) | (refine st_storeA HS 0 rfl _ _ _ rfl rfl rfl _ rfl rfl (by kernel_rfl) rfl ?_; clear HS; intro W HS) | (refine st_loadA HS 0 rfl _ _ rfl rfl rfl (by decide +kernel) (by kernel_rfl) ?_)) | (go_at_call 21; refine (num_any _ _).mono ?_; rintro e w' ⟨rfl, rfl⟩))
  refine (sameMachine_yes A2 noMac noMach _ (MachOwn.is (show MachOwn D2 _ A2 noMach from HS.out.get 1 rfl)) (machIs_none _)).mono ?_
  (rintro e Wq ⟨rfl, hb⟩; have HSq := hide (HS.out.on hb); clear HS hb; replace HS := HSq; clear HSq)
  go_wp2_with (go_at_call 21; refine (num_any _ _).mono ?_; rintro e w' ⟨rfl, rfl⟩)
  go_ret
  exact ⟨rfl, HS.out.below⟩
set_option maxRecDepth 100000 in
set_option maxHeartbeats 4000000 in
theorem machNews_2 (a0 a1 r : Int) (w : World) (hd : bits .and .i64 a1 1023 = r) (r0 : 0 ≤ r) (r1 : r ≤ 1023) (hp : (IntKind.u64.wrap a0).tmod 9 = 2) :
    Calls Tryz.prog 5 #[.int .i64 a0, .int .i64 a1] w fun e w' => e = .returned (.bool true) ∧ Below w.heap.size w w' := by
  have HS := hide (St.refl w)
  have hAw := hide fun (W : World) => awake12_any W
  obtain ⟨X, hX⟩ : ∃ X, newP (newsS [1] [] 5 3 0 5 [2, 0, 0, 0]) = (X, 0) := ⟨_, newP_yes (by decide +kernel)⟩
  have hN := hide fun (B : ScrM) (W : World) (h : ScrIs W B (newsS [1] [] 5 3 0 5 [2, 0, 0, 0])) => machNew_any B (newsS [1] [] 5 3 0 5 [2, 0, 0, 0]) W h
  rw [hX] at hN
  clear hX
  have hM := hide fun (B : ScrM) (W : World) (h : ScrIs W B (newsS [1] [] (65535 + (1 + r)) 3 0 5 [2, 0, 0, 0])) => machNew_any B (newsS [1] [] (65535 + (1 + r)) 3 0 5 [2, 0, 0, 0]) W h
  rw [show newP (newsS [1] [] (65535 + (1 + r)) 3 0 5 [2, 0, 0, 0]) = (noMach, 1200) from scr_mach (may_ceil (upToV_not (.inr (by show (65535 : Int) < 65535 + (1 + r); omega))))] at hM
  go_enter Tryz.func5, Tryz.ntmps5
  go_wp2_with fail
  refine (hAw.out _).mono ?_
  (rintro e Wq ⟨rfl, hb⟩; have HSq := hide (HS.out.on hb); clear HS hb; replace HS := HSq; clear HSq)
  clear hAw
  go_upto_region 5 with (first | ((with_reducible refine isList ?_); first | (refine st_litB HS _ 3 1 _ rfl rfl Tryz.underlying22 Tryz.infoN (by decide) (by decide) [(0, .int .i64 1)] rfl _ (fill_n1 1) ?_; clear HS; intro W bv HS) | (refine st_litB HS _ 62 1 _ rfl rfl Tryz.underlying55 Tryz.infoI (by decide) (by decide) [(0, .agg #[.int .i64 2, .int .i64 0, .int .i64 0, .int .i64 0])] rfl _ (fill_i1 2 0 0 0) ?_; clear HS; intro W bi HS) | (refine st_litB HS _ 64 2 _ rfl rfl Tryz.underlying24 Tryz.infoC (by decide) (by decide) [(0, .agg #[.int .i64 3, .int .i64 0, .int .i64 0, .slice (some ⟨bi, 0, none⟩) 1 1]), (1, .agg #[.int .i64 5, .int .i64 0, .int .i64 0, .slice none 0 0])] rfl _ (fill_c2 3 0 0 5 0 0 _ _) ?_; clear HS; intro W bt HS) | (refine st_alloc HS _ rfl rfl zeroPL zeroP ?_; clear HS; intro W b6 HS) | (refine st_storeA HS 0 rfl _ _ _ rfl rfl rfl _ rfl rfl (by kernel_rfl) rfl ?_; clear HS; intro W HS)))
  replace HS : Hid (St w W [blkI b6 (scrL ⟨fourSl ⟨some ⟨bv, 0, none⟩, 1, 1⟩ noSl noSl noSl, ⟨some ⟨bt, 0, none⟩, 2, 2⟩, (fun i => if i = 0 then ⟨some ⟨bi, 0, none⟩, 1, 1⟩ else noSl), noSl⟩ (newsS [1] [] 5 3 0 5 [2, 0, 0, 0])), blkI bt [.int .i64 3, .int .i64 0, .int .i64 0, .slice (some ⟨bi, 0, none⟩) 1 1, .int .i64 5, .int .i64 0, .int .i64 0, .slice none 0 0], blkI bi [.int .i64 2, .int .i64 0, .int .i64 0, .int .i64 0], blkI bv [.int .i64 1]]) := HS
  go_wp2_with (first | ((with_reducible refine isList ?_); first | (refine st_loadA HS 0 rfl _ _ rfl rfl rfl (by decide +kernel) (by kernel_rfl) ?_)))
  refine (hN.out ⟨fourSl ⟨some ⟨bv, 0, none⟩, 1, 1⟩ noSl noSl noSl, ⟨some ⟨bt, 0, none⟩, 2, 2⟩, (fun i => if i = 0 then ⟨some ⟨bi, 0, none⟩, 1, 1⟩ else noSl), noSl⟩ _ (news_is (slIs_blk (HS.out.blk 3 rfl) rfl (by decide)) (slIs_none _ 1) (HS.out.blk 1 rfl) (HS.out.blk 2 rfl) rfl (by decide))).mono ?_
  (rintro e Wq ⟨AX, rfl, hO, hb⟩; have HSq := hide (HS.out.push hb (machI (fun k => _) AX _) (machI_loc _ _ _) hO fun k hk => hk); generalize (fun k => _) = DX at HSq; clear HS hb hO; replace HS := HSq; clear HSq)
  clear hN
  go_upto_region 6 with (first | ((with_reducible refine isList ?_); first | (refine st_alloc HS _ rfl rfl zeroML zeroM ?_; clear HS; intro W b7 HS) | (refine st_storeA HS 0 rfl _ _ _ rfl rfl rfl _ rfl rfl (by kernel_rfl) rfl ?_; clear HS; intro W HS)))
  replace HS : Hid (St w W [blkI b6 (scrL ⟨fourSl ⟨some ⟨bv, 0, none⟩, 1, 1⟩ noSl noSl noSl, ⟨some ⟨bt, 0, none⟩, 2, 2⟩, (fun i => if i = 0 then ⟨some ⟨bi, 0, none⟩, 1, 1⟩ else noSl), noSl⟩ (newsS [1] [] 5 3 0 5 [2, 0, 0, 0])), blkI bt [.int .i64 3, .int .i64 0, .int .i64 0, .slice (some ⟨bi, 0, none⟩) 1 1, .int .i64 5, .int .i64 0, .int .i64 0, .slice none 0 0], blkI bi [.int .i64 2, .int .i64 0, .int .i64 0, .int .i64 0], blkI bv [.int .i64 1]]) := hide (HS.out.sel [2, 3, 4, 5] (by decide) rfl)
  have v0 : IntKind.i64.wrap (65535 + (1 + r)) = 65535 + (1 + r) := IntWalk.i64_in _ ⟨by omega, by omega⟩
  go_upto_region 24 with (first | ((with_reducible refine isList ?_); first | (refine st_store1 HS 0 rfl _ _ _ rfl _ rfl rfl rfl (by decide +kernel) rfl rfl ?_; clear HS; intro W HS)))
  replace HS : Hid (St w W [blkI b6 (scrL ⟨fourSl ⟨some ⟨bv, 0, none⟩, 1, 1⟩ noSl noSl noSl, ⟨some ⟨bt, 0, none⟩, 2, 2⟩, (fun i => if i = 0 then ⟨some ⟨bi, 0, none⟩, 1, 1⟩ else noSl), noSl⟩ (newsS [1] [] (65535 + (1 + r)) 3 0 5 [2, 0, 0, 0])), blkI bt [.int .i64 3, .int .i64 0, .int .i64 0, .slice (some ⟨bi, 0, none⟩) 1 1, .int .i64 5, .int .i64 0, .int .i64 0, .slice none 0 0], blkI bi [.int .i64 2, .int .i64 0, .int .i64 0, .int .i64 0], blkI bv [.int .i64 1]]) := HS
  go_wp2_with (first | ((with_reducible refine isList ?_); first | (refine st_loadA HS 0 rfl _ _ rfl rfl rfl (by decide +kernel) (by kernel_rfl) ?_)))
  refine (hM.out ⟨fourSl ⟨some ⟨bv, 0, none⟩, 1, 1⟩ noSl noSl noSl, ⟨some ⟨bt, 0, none⟩, 2, 2⟩, (fun i => if i = 0 then ⟨some ⟨bi, 0, none⟩, 1, 1⟩ else noSl), noSl⟩ _ (news_is (slIs_blk (HS.out.blk 3 rfl) rfl (by decide)) (slIs_none _ 1) (HS.out.blk 1 rfl) (HS.out.blk 2 rfl) rfl (by decide))).mono ?_
  (rintro e Wq ⟨A2, rfl, hO, hb⟩; have HSq := hide (HS.out.push hb (machI (fun k => _) A2 _) (machI_loc _ _ _) hO fun k hk => hk); generalize (fun k => _) = D2 at HSq; clear HS hb hO; replace HS := HSq; clear HSq)
  go_wp2_with (first | ((with_reducible refine isList ?_); first | (refine st_alloc HS _ rfl rfl zeroML zeroM ?_; clear HS; intro W b9 HS) | (refine st_storeA HS 0 rfl _ _ _ rfl rfl rfl _ rfl rfl (by kernel_rfl) rfl ?_; clear HS; intro W HS) | (refine st_loadA HS 0 rfl _ _ rfl rfl rfl (by decide +kernel) (by kernel_rfl) ?_)) | (go_at_call 21; refine (num_any _ _).mono ?_; rintro e w' ⟨rfl, rfl⟩))
  refine (sameMachine_yes A2 noMac noMach _ (MachOwn.is (show MachOwn D2 _ A2 noMach from HS.out.get 1 rfl)) (machIs_none _)).mono ?_
  (rintro e Wq ⟨rfl, hb⟩; have HSq := hide (HS.out.on hb); clear HS hb; replace HS := HSq; clear HSq)
  go_wp2_with (go_at_call 21; refine (num_any _ _).mono ?_; rintro e w' ⟨rfl, rfl⟩)
  go_ret
  exact ⟨rfl, HS.out.below⟩
set_option maxRecDepth 100000 in
set_option maxHeartbeats 4000000 in
theorem machNews_3 (a0 a1 r : Int) (w : World) (hd : bits .and .i64 a1 1023 = r) (r0 : 0 ≤ r) (r1 : r ≤ 1023) (hp : (IntKind.u64.wrap a0).tmod 9 = 3) :
    Calls Tryz.prog 5 #[.int .i64 a0, .int .i64 a1] w fun e w' => e = .returned (.bool true) ∧ Below w.heap.size w w' := by
  have HS := hide (St.refl w)
  have hAw := hide fun (W : World) => awake12_any W
  obtain ⟨X, hX⟩ : ∃ X, newP (newsS [1] [] 5 3 0 5 [2, 0, 0, 0]) = (X, 0) := ⟨_, newP_yes (by decide +kernel)⟩
  have hN := hide fun (B : ScrM) (W : World) (h : ScrIs W B (newsS [1] [] 5 3 0 5 [2, 0, 0, 0])) => machNew_any B (newsS [1] [] 5 3 0 5 [2, 0, 0, 0]) W h
  rw [hX] at hN
  clear hX
  have hM := hide fun (B : ScrM) (W : World) (h : ScrIs W B (newsS [1] [] 5 3 0 3 [2, 0, 0, 0])) => machNew_any B (newsS [1] [] 5 3 0 3 [2, 0, 0, 0]) W h
  rw [show newP (newsS [1] [] 5 3 0 3 [2, 0, 0, 0]) = (noMach, 1200) from newP_no (by decide +kernel)] at hM
  go_enter Tryz.func5, Tryz.ntmps5
  go_wp2_with fail
  refine (hAw.out _).mono ?_
  (rintro e Wq ⟨rfl, hb⟩; have HSq := hide (HS.out.on hb); clear HS hb; replace HS := HSq; clear HSq)
  clear hAw
  go_upto_region 5 with (first | ((with_reducible refine isList ?_); first | (refine st_litB HS _ 3 1 _ rfl rfl Tryz.underlying22 Tryz.infoN (by decide) (by decide) [(0, .int .i64 1)] rfl _ (fill_n1 1) ?_; clear HS; intro W bv HS) | (refine st_litB HS _ 62 1 _ rfl rfl Tryz.underlying55 Tryz.infoI (by decide) (by decide) [(0, .agg #[.int .i64 2, .int .i64 0, .int .i64 0, .int .i64 0])] rfl _ (fill_i1 2 0 0 0) ?_; clear HS; intro W bi HS) | (refine st_litB HS _ 64 2 _ rfl rfl Tryz.underlying24 Tryz.infoC (by decide) (by decide) [(0, .agg #[.int .i64 3, .int .i64 0, .int .i64 0, .slice (some ⟨bi, 0, none⟩) 1 1]), (1, .agg #[.int .i64 5, .int .i64 0, .int .i64 0, .slice none 0 0])] rfl _ (fill_c2 3 0 0 5 0 0 _ _) ?_; clear HS; intro W bt HS) | (refine st_alloc HS _ rfl rfl zeroPL zeroP ?_; clear HS; intro W b6 HS) | (refine st_storeA HS 0 rfl _ _ _ rfl rfl rfl _ rfl rfl (by kernel_rfl) rfl ?_; clear HS; intro W HS)))
  replace HS : Hid (St w W [blkI b6 (scrL ⟨fourSl ⟨some ⟨bv, 0, none⟩, 1, 1⟩ noSl noSl noSl, ⟨some ⟨bt, 0, none⟩, 2, 2⟩, (fun i => if i = 0 then ⟨some ⟨bi, 0, none⟩, 1, 1⟩ else noSl), noSl⟩ (newsS [1] [] 5 3 0 5 [2, 0, 0, 0])), blkI bt [.int .i64 3, .int .i64 0, .int .i64 0, .slice (some ⟨bi, 0, none⟩) 1 1, .int .i64 5, .int .i64 0, .int .i64 0, .slice none 0 0], blkI bi [.int .i64 2, .int .i64 0, .int .i64 0, .int .i64 0], blkI bv [.int .i64 1]]) := HS
  go_wp2_with (first | ((with_reducible refine isList ?_); first | (refine st_loadA HS 0 rfl _ _ rfl rfl rfl (by decide +kernel) (by kernel_rfl) ?_)))
  refine (hN.out ⟨fourSl ⟨some ⟨bv, 0, none⟩, 1, 1⟩ noSl noSl noSl, ⟨some ⟨bt, 0, none⟩, 2, 2⟩, (fun i => if i = 0 then ⟨some ⟨bi, 0, none⟩, 1, 1⟩ else noSl), noSl⟩ _ (news_is (slIs_blk (HS.out.blk 3 rfl) rfl (by decide)) (slIs_none _ 1) (HS.out.blk 1 rfl) (HS.out.blk 2 rfl) rfl (by decide))).mono ?_
  (rintro e Wq ⟨AX, rfl, hO, hb⟩; have HSq := hide (HS.out.push hb (machI (fun k => _) AX _) (machI_loc _ _ _) hO fun k hk => hk); generalize (fun k => _) = DX at HSq; clear HS hb hO; replace HS := HSq; clear HSq)
  clear hN
  go_upto_region 6 with (first | ((with_reducible refine isList ?_); first | (refine st_alloc HS _ rfl rfl zeroML zeroM ?_; clear HS; intro W b7 HS) | (refine st_storeA HS 0 rfl _ _ _ rfl rfl rfl _ rfl rfl (by kernel_rfl) rfl ?_; clear HS; intro W HS)))
  replace HS : Hid (St w W [blkI b6 (scrL ⟨fourSl ⟨some ⟨bv, 0, none⟩, 1, 1⟩ noSl noSl noSl, ⟨some ⟨bt, 0, none⟩, 2, 2⟩, (fun i => if i = 0 then ⟨some ⟨bi, 0, none⟩, 1, 1⟩ else noSl), noSl⟩ (newsS [1] [] 5 3 0 5 [2, 0, 0, 0])), blkI bt [.int .i64 3, .int .i64 0, .int .i64 0, .slice (some ⟨bi, 0, none⟩) 1 1, .int .i64 5, .int .i64 0, .int .i64 0, .slice none 0 0], blkI bi [.int .i64 2, .int .i64 0, .int .i64 0, .int .i64 0], blkI bv [.int .i64 1]]) := hide (HS.out.sel [2, 3, 4, 5] (by decide) rfl)
  go_upto_region 24 with (first | ((with_reducible refine isList ?_); first | (refine st_load1 HS 0 rfl _ _ rfl _ rfl rfl (by decide +kernel) rfl ?_) | (refine st_store1 HS 1 rfl _ _ _ rfl _ rfl rfl rfl (by decide +kernel) rfl rfl ?_; clear HS; intro W HS)))
  replace HS : Hid (St w W [blkI b6 (scrL ⟨fourSl ⟨some ⟨bv, 0, none⟩, 1, 1⟩ noSl noSl noSl, ⟨some ⟨bt, 0, none⟩, 2, 2⟩, (fun i => if i = 0 then ⟨some ⟨bi, 0, none⟩, 1, 1⟩ else noSl), noSl⟩ (newsS [1] [] 5 3 0 3 [2, 0, 0, 0])), blkI bt [.int .i64 3, .int .i64 0, .int .i64 0, .slice (some ⟨bi, 0, none⟩) 1 1, .int .i64 3, .int .i64 0, .int .i64 0, .slice none 0 0], blkI bi [.int .i64 2, .int .i64 0, .int .i64 0, .int .i64 0], blkI bv [.int .i64 1]]) := HS
  go_wp2_with (first | ((with_reducible refine isList ?_); first | (refine st_loadA HS 0 rfl _ _ rfl rfl rfl (by decide +kernel) (by kernel_rfl) ?_)))
  refine (hM.out ⟨fourSl ⟨some ⟨bv, 0, none⟩, 1, 1⟩ noSl noSl noSl, ⟨some ⟨bt, 0, none⟩, 2, 2⟩, (fun i => if i = 0 then ⟨some ⟨bi, 0, none⟩, 1, 1⟩ else noSl), noSl⟩ _ (news_is (slIs_blk (HS.out.blk 3 rfl) rfl (by decide)) (slIs_none _ 1) (HS.out.blk 1 rfl) (HS.out.blk 2 rfl) rfl (by decide))).mono ?_
  (rintro e Wq ⟨A2, rfl, hO, hb⟩; have HSq := hide (HS.out.push hb (machI (fun k => _) A2 _) (machI_loc _ _ _) hO fun k hk => hk); generalize (fun k => _) = D2 at HSq; clear HS hb hO; replace HS := HSq; clear HSq)
  go_wp2_with (first | ((with_reducible refine isList ?_); first | (refine st_alloc HS _ rfl rfl zeroML zeroM ?_; clear HS; intro W b9 HS) | (refine st_storeA HS 0 rfl _ _ _ rfl rfl rfl _ rfl rfl (by kernel_rfl) rfl ?_; clear HS; intro W HS) | (refine st_loadA HS 0 rfl _ _ rfl rfl rfl (by decide +kernel) (by kernel_rfl) ?_)) | (go_at_call 21; refine (num_any _ _).mono ?_; rintro e w' ⟨rfl, rfl⟩))
  refine (sameMachine_yes A2 noMac noMach _ (MachOwn.is (show MachOwn D2 _ A2 noMach from HS.out.get 1 rfl)) (machIs_none _)).mono ?_
  (rintro e Wq ⟨rfl, hb⟩; have HSq := hide (HS.out.on hb); clear HS hb; replace HS := HSq; clear HSq)
  go_wp2_with (go_at_call 21; refine (num_any _ _).mono ?_; rintro e w' ⟨rfl, rfl⟩)
  go_ret
  exact ⟨rfl, HS.out.below⟩
set_option maxRecDepth 100000 in
set_option maxHeartbeats 4000000 in
theorem machNews_4 (a0 a1 r : Int) (w : World) (hd : bits .and .i64 a1 1023 = r) (r0 : 0 ≤ r) (r1 : r ≤ 1023) (hp : (IntKind.u64.wrap a0).tmod 9 = 4) :
    Calls Tryz.prog 5 #[.int .i64 a0, .int .i64 a1] w fun e w' => e = .returned (.bool true) ∧ Below w.heap.size w w' := by
  have HS := hide (St.refl w)
  have hAw := hide fun (W : World) => awake12_any W
  obtain ⟨X, hX⟩ : ∃ X, newP (newsS [1] [] 5 3 0 5 [2, 0, 0, 0]) = (X, 0) := ⟨_, newP_yes (by decide +kernel)⟩
  have hN := hide fun (B : ScrM) (W : World) (h : ScrIs W B (newsS [1] [] 5 3 0 5 [2, 0, 0, 0])) => machNew_any B (newsS [1] [] 5 3 0 5 [2, 0, 0, 0]) W h
  rw [hX] at hN
  clear hX
  have hM := hide fun (B : ScrM) (W : World) (h : ScrIs W B (newsS [1] [] 5 3 0 0 [2, 0, 0, 0])) => machNew_any B (newsS [1] [] 5 3 0 0 [2, 0, 0, 0]) W h
  rw [show newP (newsS [1] [] 5 3 0 0 [2, 0, 0, 0]) = (noMach, 1200) from newP_no (by decide +kernel)] at hM
  go_enter Tryz.func5, Tryz.ntmps5
  go_wp2_with fail
  refine (hAw.out _).mono ?_
  (rintro e Wq ⟨rfl, hb⟩; have HSq := hide (HS.out.on hb); clear HS hb; replace HS := HSq; clear HSq)
  clear hAw
  go_upto_region 5 with (first | ((with_reducible refine isList ?_); first | (refine st_litB HS _ 3 1 _ rfl rfl Tryz.underlying22 Tryz.infoN (by decide) (by decide) [(0, .int .i64 1)] rfl _ (fill_n1 1) ?_; clear HS; intro W bv HS) | (refine st_litB HS _ 62 1 _ rfl rfl Tryz.underlying55 Tryz.infoI (by decide) (by decide) [(0, .agg #[.int .i64 2, .int .i64 0, .int .i64 0, .int .i64 0])] rfl _ (fill_i1 2 0 0 0) ?_; clear HS; intro W bi HS) | (refine st_litB HS _ 64 2 _ rfl rfl Tryz.underlying24 Tryz.infoC (by decide) (by decide) [(0, .agg #[.int .i64 3, .int .i64 0, .int .i64 0, .slice (some ⟨bi, 0, none⟩) 1 1]), (1, .agg #[.int .i64 5, .int .i64 0, .int .i64 0, .slice none 0 0])] rfl _ (fill_c2 3 0 0 5 0 0 _ _) ?_; clear HS; intro W bt HS) | (refine st_alloc HS _ rfl rfl zeroPL zeroP ?_; clear HS; intro W b6 HS) | (refine st_storeA HS 0 rfl _ _ _ rfl rfl rfl _ rfl rfl (by kernel_rfl) rfl ?_; clear HS; intro W HS)))
  replace HS : Hid (St w W [blkI b6 (scrL ⟨fourSl ⟨some ⟨bv, 0, none⟩, 1, 1⟩ noSl noSl noSl, ⟨some ⟨bt, 0, none⟩, 2, 2⟩, (fun i => if i = 0 then ⟨some ⟨bi, 0, none⟩, 1, 1⟩ else noSl), noSl⟩ (newsS [1] [] 5 3 0 5 [2, 0, 0, 0])), blkI bt [.int .i64 3, .int .i64 0, .int .i64 0, .slice (some ⟨bi, 0, none⟩) 1 1, .int .i64 5, .int .i64 0, .int .i64 0, .slice none 0 0], blkI bi [.int .i64 2, .int .i64 0, .int .i64 0, .int .i64 0], blkI bv [.int .i64 1]]) := HS
  go_wp2_with (first | ((with_reducible refine isList ?_); first | (refine st_loadA HS 0 rfl _ _ rfl rfl rfl (by decide +kernel) (by kernel_rfl) ?_)))
  refine (hN.out ⟨fourSl ⟨some ⟨bv, 0, none⟩, 1, 1⟩ noSl noSl noSl, ⟨some ⟨bt, 0, none⟩, 2, 2⟩, (fun i => if i = 0 then ⟨some ⟨bi, 0, none⟩, 1, 1⟩ else noSl), noSl⟩ _ (news_is (slIs_blk (HS.out.blk 3 rfl) rfl (by decide)) (slIs_none _ 1) (HS.out.blk 1 rfl) (HS.out.blk 2 rfl) rfl (by decide))).mono ?_
  (rintro e Wq ⟨AX, rfl, hO, hb⟩; have HSq := hide (HS.out.push hb (machI (fun k => _) AX _) (machI_loc _ _ _) hO fun k hk => hk); generalize (fun k => _) = DX at HSq; clear HS hb hO; replace HS := HSq; clear HSq)
  clear hN
  go_upto_region 6 with (first | ((with_reducible refine isList ?_); first | (refine st_alloc HS _ rfl rfl zeroML zeroM ?_; clear HS; intro W b7 HS) | (refine st_storeA HS 0 rfl _ _ _ rfl rfl rfl _ rfl rfl (by kernel_rfl) rfl ?_; clear HS; intro W HS)))
  replace HS : Hid (St w W [blkI b6 (scrL ⟨fourSl ⟨some ⟨bv, 0, none⟩, 1, 1⟩ noSl noSl noSl, ⟨some ⟨bt, 0, none⟩, 2, 2⟩, (fun i => if i = 0 then ⟨some ⟨bi, 0, none⟩, 1, 1⟩ else noSl), noSl⟩ (newsS [1] [] 5 3 0 5 [2, 0, 0, 0])), blkI bt [.int .i64 3, .int .i64 0, .int .i64 0, .slice (some ⟨bi, 0, none⟩) 1 1, .int .i64 5, .int .i64 0, .int .i64 0, .slice none 0 0], blkI bi [.int .i64 2, .int .i64 0, .int .i64 0, .int .i64 0], blkI bv [.int .i64 1]]) := hide (HS.out.sel [2, 3, 4, 5] (by decide) rfl)
  go_upto_region 24 with (first | ((with_reducible refine isList ?_); first | (refine st_load1 HS 0 rfl _ _ rfl _ rfl rfl (by decide +kernel) rfl ?_) | (refine st_store1 HS 1 rfl _ _ _ rfl _ rfl rfl rfl (by decide +kernel) rfl rfl ?_; clear HS; intro W HS)))
  replace HS : Hid (St w W [blkI b6 (scrL ⟨fourSl ⟨some ⟨bv, 0, none⟩, 1, 1⟩ noSl noSl noSl, ⟨some ⟨bt, 0, none⟩, 2, 2⟩, (fun i => if i = 0 then ⟨some ⟨bi, 0, none⟩, 1, 1⟩ else noSl), noSl⟩ (newsS [1] [] 5 3 0 0 [2, 0, 0, 0])), blkI bt [.int .i64 3, .int .i64 0, .int .i64 0, .slice (some ⟨bi, 0, none⟩) 1 1, .int .i64 0, .int .i64 0, .int .i64 0, .slice none 0 0], blkI bi [.int .i64 2, .int .i64 0, .int .i64 0, .int .i64 0], blkI bv [.int .i64 1]]) := HS
  go_wp2_with (first | ((with_reducible refine isList ?_); first | (refine st_loadA HS 0 rfl _ _ rfl rfl rfl (by decide +kernel) (by kernel_rfl) ?_)))
  refine (hM.out ⟨fourSl ⟨some ⟨bv, 0, none⟩, 1, 1⟩ noSl noSl noSl, ⟨some ⟨bt, 0, none⟩, 2, 2⟩, (fun i => if i = 0 then ⟨some ⟨bi, 0, none⟩, 1, 1⟩ else noSl), noSl⟩ _ (news_is (slIs_blk (HS.out.blk 3 rfl) rfl (by decide)) (slIs_none _ 1) (HS.out.blk 1 rfl) (HS.out.blk 2 rfl) rfl (by decide))).mono ?_
  (rintro e Wq ⟨A2, rfl, hO, hb⟩; have HSq := hide (HS.out.push hb (machI (fun k => _) A2 _) (machI_loc _ _ _) hO fun k hk => hk); generalize (fun k => _) = D2 at HSq; clear HS hb hO; replace HS := HSq; clear HSq)
  go_wp2_with (first | ((with_reducible refine isList ?_); first | (refine st_alloc HS _ rfl rfl zeroML zeroM ?_; clear HS; intro W b9 HS) | (refine st_storeA HS 0 rfl _ _ _ rfl rfl rfl _ rfl rfl (by kernel_rfl) rfl ?_; clear HS; intro W HS) | (refine st_loadA HS 0 rfl _ _ rfl rfl rfl (by decide +kernel) (by kernel_rfl) ?_)) | (go_at_call 21; refine (num_any _ _).mono ?_; rintro e w' ⟨rfl, rfl⟩))
  refine (sameMachine_yes A2 noMac noMach _ (MachOwn.is (show MachOwn D2 _ A2 noMach from HS.out.get 1 rfl)) (machIs_none _)).mono ?_
  (rintro e Wq ⟨rfl, hb⟩; have HSq := hide (HS.out.on hb); clear HS hb; replace HS := HSq; clear HSq)
  go_wp2_with (go_at_call 21; refine (num_any _ _).mono ?_; rintro e w' ⟨rfl, rfl⟩)
  go_ret
  exact ⟨rfl, HS.out.below⟩
set_option maxRecDepth 100000 in
set_option maxHeartbeats 4000000 in
theorem machNews_5 (a0 a1 r : Int) (w : World) (hd : bits .and .i64 a1 1023 = r) (r0 : 0 ≤ r) (r1 : r ≤ 1023) (hp : (IntKind.u64.wrap a0).tmod 9 = 5) :
    Calls Tryz.prog 5 #[.int .i64 a0, .int .i64 a1] w fun e w' => e = .returned (.bool true) ∧ Below w.heap.size w w' := by
  have HS := hide (St.refl w)
  have hAw := hide fun (W : World) => awake12_any W
  obtain ⟨X, hX⟩ : ∃ X, newP (newsS [1] [] 5 3 0 5 [2, 0, 0, 0]) = (X, 0) := ⟨_, newP_yes (by decide +kernel)⟩
  have hN := hide fun (B : ScrM) (W : World) (h : ScrIs W B (newsS [1] [] 5 3 0 5 [2, 0, 0, 0])) => machNew_any B (newsS [1] [] 5 3 0 5 [2, 0, 0, 0]) W h
  rw [hX] at hN
  clear hX
  have hM := hide fun (B : ScrM) (W : World) (h : ScrIs W B (newsS [1] [] 5 3 1 5 [2, 0, 0, 0])) => machNew_any B (newsS [1] [] 5 3 1 5 [2, 0, 0, 0]) W h
  rw [show newP (newsS [1] [] 5 3 1 5 [2, 0, 0, 0]) = (noMach, 1200) from newP_no (by decide +kernel)] at hM
  go_enter Tryz.func5, Tryz.ntmps5
  go_wp2_with fail
  refine (hAw.out _).mono ?_
  (rintro e Wq ⟨rfl, hb⟩; have HSq := hide (HS.out.on hb); clear HS hb; replace HS := HSq; clear HSq)
  clear hAw
  go_upto_region 5 with (first | ((with_reducible refine isList ?_); first | (refine st_litB HS _ 3 1 _ rfl rfl Tryz.underlying22 Tryz.infoN (by decide) (by decide) [(0, .int .i64 1)] rfl _ (fill_n1 1) ?_; clear HS; intro W bv HS) | (refine st_litB HS _ 62 1 _ rfl rfl Tryz.underlying55 Tryz.infoI (by decide) (by decide) [(0, .agg #[.int .i64 2, .int .i64 0, .int .i64 0, .int .i64 0])] rfl _ (fill_i1 2 0 0 0) ?_; clear HS; intro W bi HS) | (refine st_litB HS _ 64 2 _ rfl rfl Tryz.underlying24 Tryz.infoC (by decide) (by decide) [(0, .agg #[.int .i64 3, .int .i64 0, .int .i64 0, .slice (some ⟨bi, 0, none⟩) 1 1]), (1, .agg #[.int .i64 5, .int .i64 0, .int .i64 0, .slice none 0 0])] rfl _ (fill_c2 3 0 0 5 0 0 _ _) ?_; clear HS; intro W bt HS) | (refine st_alloc HS _ rfl rfl zeroPL zeroP ?_; clear HS; intro W b6 HS) | (refine st_storeA HS 0 rfl _ _ _ rfl rfl rfl _ rfl rfl (by kernel_rfl) rfl ?_; clear HS; intro W HS)))
  replace HS : Hid (St w W [blkI b6 (scrL ⟨fourSl ⟨some ⟨bv, 0, none⟩, 1, 1⟩ noSl noSl noSl, ⟨some ⟨bt, 0, none⟩, 2, 2⟩, (fun i => if i = 0 then ⟨some ⟨bi, 0, none⟩, 1, 1⟩ else noSl), noSl⟩ (newsS [1] [] 5 3 0 5 [2, 0, 0, 0])), blkI bt [.int .i64 3, .int .i64 0, .int .i64 0, .slice (some ⟨bi, 0, none⟩) 1 1, .int .i64 5, .int .i64 0, .int .i64 0, .slice none 0 0], blkI bi [.int .i64 2, .int .i64 0, .int .i64 0, .int .i64 0], blkI bv [.int .i64 1]]) := HS
  go_wp2_with (first | ((with_reducible refine isList ?_); first | (refine st_loadA HS 0 rfl _ _ rfl rfl rfl (by decide +kernel) (by kernel_rfl) ?_)))
  refine (hN.out ⟨fourSl ⟨some ⟨bv, 0, none⟩, 1, 1⟩ noSl noSl noSl, ⟨some ⟨bt, 0, none⟩, 2, 2⟩, (fun i => if i = 0 then ⟨some ⟨bi, 0, none⟩, 1, 1⟩ else noSl), noSl⟩ _ (news_is (slIs_blk (HS.out.blk 3 rfl) rfl (by decide)) (slIs_none _ 1) (HS.out.blk 1 rfl) (HS.out.blk 2 rfl) rfl (by decide))).mono ?_
  (rintro e Wq ⟨AX, rfl, hO, hb⟩; have HSq := hide (HS.out.push hb (machI (fun k => _) AX _) (machI_loc _ _ _) hO fun k hk => hk); generalize (fun k => _) = DX at HSq; clear HS hb hO; replace HS := HSq; clear HSq)
  clear hN
  go_upto_region 6 with (first | ((with_reducible refine isList ?_); first | (refine st_alloc HS _ rfl rfl zeroML zeroM ?_; clear HS; intro W b7 HS) | (refine st_storeA HS 0 rfl _ _ _ rfl rfl rfl _ rfl rfl (by kernel_rfl) rfl ?_; clear HS; intro W HS)))
  replace HS : Hid (St w W [blkI b6 (scrL ⟨fourSl ⟨some ⟨bv, 0, none⟩, 1, 1⟩ noSl noSl noSl, ⟨some ⟨bt, 0, none⟩, 2, 2⟩, (fun i => if i = 0 then ⟨some ⟨bi, 0, none⟩, 1, 1⟩ else noSl), noSl⟩ (newsS [1] [] 5 3 0 5 [2, 0, 0, 0])), blkI bt [.int .i64 3, .int .i64 0, .int .i64 0, .slice (some ⟨bi, 0, none⟩) 1 1, .int .i64 5, .int .i64 0, .int .i64 0, .slice none 0 0], blkI bi [.int .i64 2, .int .i64 0, .int .i64 0, .int .i64 0], blkI bv [.int .i64 1]]) := hide (HS.out.sel [2, 3, 4, 5] (by decide) rfl)
  go_upto_region 24 with (first | ((with_reducible refine isList ?_); first | (refine st_load1 HS 0 rfl _ _ rfl _ rfl rfl (by decide +kernel) rfl ?_) | (refine st_store1 HS 1 rfl _ _ _ rfl _ rfl rfl rfl (by decide +kernel) rfl rfl ?_; clear HS; intro W HS)))
  replace HS : Hid (St w W [blkI b6 (scrL ⟨fourSl ⟨some ⟨bv, 0, none⟩, 1, 1⟩ noSl noSl noSl, ⟨some ⟨bt, 0, none⟩, 2, 2⟩, (fun i => if i = 0 then ⟨some ⟨bi, 0, none⟩, 1, 1⟩ else noSl), noSl⟩ (newsS [1] [] 5 3 1 5 [2, 0, 0, 0])), blkI bt [.int .i64 3, .int .i64 1, .int .i64 0, .slice (some ⟨bi, 0, none⟩) 1 1, .int .i64 5, .int .i64 0, .int .i64 0, .slice none 0 0], blkI bi [.int .i64 2, .int .i64 0, .int .i64 0, .int .i64 0], blkI bv [.int .i64 1]]) := HS
  go_wp2_with (first | ((with_reducible refine isList ?_); first | (refine st_loadA HS 0 rfl _ _ rfl rfl rfl (by decide +kernel) (by kernel_rfl) ?_)))
  refine (hM.out ⟨fourSl ⟨some ⟨bv, 0, none⟩, 1, 1⟩ noSl noSl noSl, ⟨some ⟨bt, 0, none⟩, 2, 2⟩, (fun i => if i = 0 then ⟨some ⟨bi, 0, none⟩, 1, 1⟩ else noSl), noSl⟩ _ (news_is (slIs_blk (HS.out.blk 3 rfl) rfl (by decide)) (slIs_none _ 1) (HS.out.blk 1 rfl) (HS.out.blk 2 rfl) rfl (by decide))).mono ?_
  (rintro e Wq ⟨A2, rfl, hO, hb⟩; have HSq := hide (HS.out.push hb (machI (fun k => _) A2 _) (machI_loc _ _ _) hO fun k hk => hk); generalize (fun k => _) = D2 at HSq; clear HS hb hO; replace HS := HSq; clear HSq)
  go_wp2_with (first | ((with_reducible refine isList ?_); first | (refine st_alloc HS _ rfl rfl zeroML zeroM ?_; clear HS; intro W b9 HS) | (refine st_storeA HS 0 rfl _ _ _ rfl rfl rfl _ rfl rfl (by kernel_rfl) rfl ?_; clear HS; intro W HS) | (refine st_loadA HS 0 rfl _ _ rfl rfl rfl (by decide +kernel) (by kernel_rfl) ?_)) | (go_at_call 21; refine (num_any _ _).mono ?_; rintro e w' ⟨rfl, rfl⟩))
  refine (sameMachine_yes A2 noMac noMach _ (MachOwn.is (show MachOwn D2 _ A2 noMach from HS.out.get 1 rfl)) (machIs_none _)).mono ?_
  (rintro e Wq ⟨rfl, hb⟩; have HSq := hide (HS.out.on hb); clear HS hb; replace HS := HSq; clear HSq)
  go_wp2_with (go_at_call 21; refine (num_any _ _).mono ?_; rintro e w' ⟨rfl, rfl⟩)
  go_ret
  exact ⟨rfl, HS.out.below⟩
set_option maxRecDepth 100000 in
set_option maxHeartbeats 4000000 in
theorem machNews_7 (a0 a1 r : Int) (w : World) (hd : bits .and .i64 a1 1023 = r) (r0 : 0 ≤ r) (r1 : r ≤ 1023) (hp : (IntKind.u64.wrap a0).tmod 9 = 7) :
    Calls Tryz.prog 5 #[.int .i64 a0, .int .i64 a1] w fun e w' => e = .returned (.bool true) ∧ Below w.heap.size w w' := by
  have HS := hide (St.refl w)
  have hAw := hide fun (W : World) => awake12_any W
  obtain ⟨X, hX⟩ : ∃ X, newP (newsS [1] [] 5 3 0 5 [2, 0, 0, 0]) = (X, 0) := ⟨_, newP_yes (by decide +kernel)⟩
  have hN := hide fun (B : ScrM) (W : World) (h : ScrIs W B (newsS [1] [] 5 3 0 5 [2, 0, 0, 0])) => machNew_any B (newsS [1] [] 5 3 0 5 [2, 0, 0, 0]) W h
  rw [hX] at hN
  clear hX
  have hM := hide fun (B : ScrM) (W : World) (h : ScrIs W B (newsS [1] [] 5 3 0 5 [3, 0, 3, 0])) => machNew_any B (newsS [1] [] 5 3 0 5 [3, 0, 3, 0]) W h
  rw [show newP (newsS [1] [] 5 3 0 5 [3, 0, 3, 0]) = (noMach, 1200) from newP_no (by decide +kernel)] at hM
  go_enter Tryz.func5, Tryz.ntmps5
  go_wp2_with fail
  refine (hAw.out _).mono ?_
  (rintro e Wq ⟨rfl, hb⟩; have HSq := hide (HS.out.on hb); clear HS hb; replace HS := HSq; clear HSq)
  clear hAw
  go_upto_region 5 with (first | ((with_reducible refine isList ?_); first | (refine st_litB HS _ 3 1 _ rfl rfl Tryz.underlying22 Tryz.infoN (by decide) (by decide) [(0, .int .i64 1)] rfl _ (fill_n1 1) ?_; clear HS; intro W bv HS) | (refine st_litB HS _ 62 1 _ rfl rfl Tryz.underlying55 Tryz.infoI (by decide) (by decide) [(0, .agg #[.int .i64 2, .int .i64 0, .int .i64 0, .int .i64 0])] rfl _ (fill_i1 2 0 0 0) ?_; clear HS; intro W bi HS) | (refine st_litB HS _ 64 2 _ rfl rfl Tryz.underlying24 Tryz.infoC (by decide) (by decide) [(0, .agg #[.int .i64 3, .int .i64 0, .int .i64 0, .slice (some ⟨bi, 0, none⟩) 1 1]), (1, .agg #[.int .i64 5, .int .i64 0, .int .i64 0, .slice none 0 0])] rfl _ (fill_c2 3 0 0 5 0 0 _ _) ?_; clear HS; intro W bt HS) | (refine st_alloc HS _ rfl rfl zeroPL zeroP ?_; clear HS; intro W b6 HS) | (refine st_storeA HS 0 rfl _ _ _ rfl rfl rfl _ rfl rfl (by kernel_rfl) rfl ?_; clear HS; intro W HS)))
  replace HS : Hid (St w W [blkI b6 (scrL ⟨fourSl ⟨some ⟨bv, 0, none⟩, 1, 1⟩ noSl noSl noSl, ⟨some ⟨bt, 0, none⟩, 2, 2⟩, (fun i => if i = 0 then ⟨some ⟨bi, 0, none⟩, 1, 1⟩ else noSl), noSl⟩ (newsS [1] [] 5 3 0 5 [2, 0, 0, 0])), blkI bt [.int .i64 3, .int .i64 0, .int .i64 0, .slice (some ⟨bi, 0, none⟩) 1 1, .int .i64 5, .int .i64 0, .int .i64 0, .slice none 0 0], blkI bi [.int .i64 2, .int .i64 0, .int .i64 0, .int .i64 0], blkI bv [.int .i64 1]]) := HS
  go_wp2_with (first | ((with_reducible refine isList ?_); first | (refine st_loadA HS 0 rfl _ _ rfl rfl rfl (by decide +kernel) (by kernel_rfl) ?_)))
  refine (hN.out ⟨fourSl ⟨some ⟨bv, 0, none⟩, 1, 1⟩ noSl noSl noSl, ⟨some ⟨bt, 0, none⟩, 2, 2⟩, (fun i => if i = 0 then ⟨some ⟨bi, 0, none⟩, 1, 1⟩ else noSl), noSl⟩ _ (news_is (slIs_blk (HS.out.blk 3 rfl) rfl (by decide)) (slIs_none _ 1) (HS.out.blk 1 rfl) (HS.out.blk 2 rfl) rfl (by decide))).mono ?_
  (rintro e Wq ⟨AX, rfl, hO, hb⟩; have HSq := hide (HS.out.push hb (machI (fun k => _) AX _) (machI_loc _ _ _) hO fun k hk => hk); generalize (fun k => _) = DX at HSq; clear HS hb hO; replace HS := HSq; clear HSq)
  clear hN
  go_upto_region 6 with (first | ((with_reducible refine isList ?_); first | (refine st_alloc HS _ rfl rfl zeroML zeroM ?_; clear HS; intro W b7 HS) | (refine st_storeA HS 0 rfl _ _ _ rfl rfl rfl _ rfl rfl (by kernel_rfl) rfl ?_; clear HS; intro W HS)))
  replace HS : Hid (St w W [blkI b6 (scrL ⟨fourSl ⟨some ⟨bv, 0, none⟩, 1, 1⟩ noSl noSl noSl, ⟨some ⟨bt, 0, none⟩, 2, 2⟩, (fun i => if i = 0 then ⟨some ⟨bi, 0, none⟩, 1, 1⟩ else noSl), noSl⟩ (newsS [1] [] 5 3 0 5 [2, 0, 0, 0])), blkI bt [.int .i64 3, .int .i64 0, .int .i64 0, .slice (some ⟨bi, 0, none⟩) 1 1, .int .i64 5, .int .i64 0, .int .i64 0, .slice none 0 0], blkI bi [.int .i64 2, .int .i64 0, .int .i64 0, .int .i64 0], blkI bv [.int .i64 1]]) := hide (HS.out.sel [2, 3, 4, 5] (by decide) rfl)
  go_upto_region 24 with (first | ((with_reducible refine isList ?_); first | (refine st_load1 HS 0 rfl _ _ rfl _ rfl rfl (by decide +kernel) rfl ?_) | (refine st_litB HS _ 62 1 _ rfl rfl Tryz.underlying55 Tryz.infoI (by decide) (by decide) [(0, .agg #[.int .i64 3, .int .i64 0, .int .i64 3, .int .i64 0])] rfl _ (fill_i1 3 0 3 0) ?_; clear HS; intro W bj HS) | (refine st_store1 HS 2 rfl _ _ _ rfl _ rfl rfl rfl (by decide +kernel) rfl rfl ?_; clear HS; intro W HS)))
  replace HS : Hid (St w W [blkI bj [.int .i64 3, .int .i64 0, .int .i64 3, .int .i64 0], blkI b6 (scrL ⟨fourSl ⟨some ⟨bv, 0, none⟩, 1, 1⟩ noSl noSl noSl, ⟨some ⟨bt, 0, none⟩, 2, 2⟩, (fun i => if i = 0 then ⟨some ⟨bj, 0, none⟩, 1, 1⟩ else noSl), noSl⟩ (newsS [1] [] 5 3 0 5 [3, 0, 3, 0])), blkI bt [.int .i64 3, .int .i64 0, .int .i64 0, .slice (some ⟨bj, 0, none⟩) 1 1, .int .i64 5, .int .i64 0, .int .i64 0, .slice none 0 0], blkI bi [.int .i64 2, .int .i64 0, .int .i64 0, .int .i64 0], blkI bv [.int .i64 1]]) := HS
  go_wp2_with (first | ((with_reducible refine isList ?_); first | (refine st_loadA HS 1 rfl _ _ rfl rfl rfl (by decide +kernel) (by kernel_rfl) ?_)))
  refine (hM.out ⟨fourSl ⟨some ⟨bv, 0, none⟩, 1, 1⟩ noSl noSl noSl, ⟨some ⟨bt, 0, none⟩, 2, 2⟩, (fun i => if i = 0 then ⟨some ⟨bj, 0, none⟩, 1, 1⟩ else noSl), noSl⟩ _ (news_is (slIs_blk (HS.out.blk 4 rfl) rfl (by decide)) (slIs_none _ 1) (HS.out.blk 2 rfl) (HS.out.blk 0 rfl) rfl (by decide))).mono ?_
  (rintro e Wq ⟨A2, rfl, hO, hb⟩; have HSq := hide (HS.out.push hb (machI (fun k => _) A2 _) (machI_loc _ _ _) hO fun k hk => hk); generalize (fun k => _) = D2 at HSq; clear HS hb hO; replace HS := HSq; clear HSq)
  go_wp2_with (first | ((with_reducible refine isList ?_); first | (refine st_alloc HS _ rfl rfl zeroML zeroM ?_; clear HS; intro W b9 HS) | (refine st_storeA HS 0 rfl _ _ _ rfl rfl rfl _ rfl rfl (by kernel_rfl) rfl ?_; clear HS; intro W HS) | (refine st_loadA HS 0 rfl _ _ rfl rfl rfl (by decide +kernel) (by kernel_rfl) ?_)) | (go_at_call 21; refine (num_any _ _).mono ?_; rintro e w' ⟨rfl, rfl⟩))
  refine (sameMachine_yes A2 noMac noMach _ (MachOwn.is (show MachOwn D2 _ A2 noMach from HS.out.get 1 rfl)) (machIs_none _)).mono ?_
  (rintro e Wq ⟨rfl, hb⟩; have HSq := hide (HS.out.on hb); clear HS hb; replace HS := HSq; clear HSq)
  go_wp2_with (go_at_call 21; refine (num_any _ _).mono ?_; rintro e w' ⟨rfl, rfl⟩)
  go_ret
  exact ⟨rfl, HS.out.below⟩
set_option maxRecDepth 100000 in
set_option maxHeartbeats 4000000 in
theorem machNews_8 (a0 a1 r : Int) (w : World) (hd : bits .and .i64 a1 1023 = r) (r0 : 0 ≤ r) (r1 : r ≤ 1023) (hp : (IntKind.u64.wrap a0).tmod 9 = 8) :
    Calls Tryz.prog 5 #[.int .i64 a0, .int .i64 a1] w fun e w' => e = .returned (.bool true) ∧ Below w.heap.size w w' := by
  have HS := hide (St.refl w)
  have hAw := hide fun (W : World) => awake12_any W
  obtain ⟨X, hX⟩ : ∃ X, newP (newsS [1] [] 5 3 0 5 [2, 0, 0, 0]) = (X, 0) := ⟨_, newP_yes (by decide +kernel)⟩
  have hN := hide fun (B : ScrM) (W : World) (h : ScrIs W B (newsS [1] [] 5 3 0 5 [2, 0, 0, 0])) => machNew_any B (newsS [1] [] 5 3 0 5 [2, 0, 0, 0]) W h
  rw [hX] at hN
  clear hX
  have hM := hide fun (B : ScrM) (W : World) (h : ScrIs W B (newsS [1] [1, 2, 3, 4, 5] 5 3 0 5 [2, 0, 0, 0])) => machNew_any B (newsS [1] [1, 2, 3, 4, 5] 5 3 0 5 [2, 0, 0, 0]) W h
  rw [show newP (newsS [1] [1, 2, 3, 4, 5] 5 3 0 5 [2, 0, 0, 0]) = (noMach, 1200) from newP_no (by decide +kernel)] at hM
  go_enter Tryz.func5, Tryz.ntmps5
  go_wp2_with fail
  refine (hAw.out _).mono ?_
  (rintro e Wq ⟨rfl, hb⟩; have HSq := hide (HS.out.on hb); clear HS hb; replace HS := HSq; clear HSq)
  clear hAw
  go_upto_region 5 with (first | ((with_reducible refine isList ?_); first | (refine st_litB HS _ 3 1 _ rfl rfl Tryz.underlying22 Tryz.infoN (by decide) (by decide) [(0, .int .i64 1)] rfl _ (fill_n1 1) ?_; clear HS; intro W bv HS) | (refine st_litB HS _ 62 1 _ rfl rfl Tryz.underlying55 Tryz.infoI (by decide) (by decide) [(0, .agg #[.int .i64 2, .int .i64 0, .int .i64 0, .int .i64 0])] rfl _ (fill_i1 2 0 0 0) ?_; clear HS; intro W bi HS) | (refine st_litB HS _ 64 2 _ rfl rfl Tryz.underlying24 Tryz.infoC (by decide) (by decide) [(0, .agg #[.int .i64 3, .int .i64 0, .int .i64 0, .slice (some ⟨bi, 0, none⟩) 1 1]), (1, .agg #[.int .i64 5, .int .i64 0, .int .i64 0, .slice none 0 0])] rfl _ (fill_c2 3 0 0 5 0 0 _ _) ?_; clear HS; intro W bt HS) | (refine st_alloc HS _ rfl rfl zeroPL zeroP ?_; clear HS; intro W b6 HS) | (refine st_storeA HS 0 rfl _ _ _ rfl rfl rfl _ rfl rfl (by kernel_rfl) rfl ?_; clear HS; intro W HS)))
  replace HS : Hid (St w W [blkI b6 (scrL ⟨fourSl ⟨some ⟨bv, 0, none⟩, 1, 1⟩ noSl noSl noSl, ⟨some ⟨bt, 0, none⟩, 2, 2⟩, (fun i => if i = 0 then ⟨some ⟨bi, 0, none⟩, 1, 1⟩ else noSl), noSl⟩ (newsS [1] [] 5 3 0 5 [2, 0, 0, 0])), blkI bt [.int .i64 3, .int .i64 0, .int .i64 0, .slice (some ⟨bi, 0, none⟩) 1 1, .int .i64 5, .int .i64 0, .int .i64 0, .slice none 0 0], blkI bi [.int .i64 2, .int .i64 0, .int .i64 0, .int .i64 0], blkI bv [.int .i64 1]]) := HS
  go_wp2_with (first | ((with_reducible refine isList ?_); first | (refine st_loadA HS 0 rfl _ _ rfl rfl rfl (by decide +kernel) (by kernel_rfl) ?_)))
  refine (hN.out ⟨fourSl ⟨some ⟨bv, 0, none⟩, 1, 1⟩ noSl noSl noSl, ⟨some ⟨bt, 0, none⟩, 2, 2⟩, (fun i => if i = 0 then ⟨some ⟨bi, 0, none⟩, 1, 1⟩ else noSl), noSl⟩ _ (news_is (slIs_blk (HS.out.blk 3 rfl) rfl (by decide)) (slIs_none _ 1) (HS.out.blk 1 rfl) (HS.out.blk 2 rfl) rfl (by decide))).mono ?_
  (rintro e Wq ⟨AX, rfl, hO, hb⟩; have HSq := hide (HS.out.push hb (machI (fun k => _) AX _) (machI_loc _ _ _) hO fun k hk => hk); generalize (fun k => _) = DX at HSq; clear HS hb hO; replace HS := HSq; clear HSq)
  clear hN
  go_upto_region 6 with (first | ((with_reducible refine isList ?_); first | (refine st_alloc HS _ rfl rfl zeroML zeroM ?_; clear HS; intro W b7 HS) | (refine st_storeA HS 0 rfl _ _ _ rfl rfl rfl _ rfl rfl (by kernel_rfl) rfl ?_; clear HS; intro W HS)))
  replace HS : Hid (St w W [blkI b6 (scrL ⟨fourSl ⟨some ⟨bv, 0, none⟩, 1, 1⟩ noSl noSl noSl, ⟨some ⟨bt, 0, none⟩, 2, 2⟩, (fun i => if i = 0 then ⟨some ⟨bi, 0, none⟩, 1, 1⟩ else noSl), noSl⟩ (newsS [1] [] 5 3 0 5 [2, 0, 0, 0])), blkI bt [.int .i64 3, .int .i64 0, .int .i64 0, .slice (some ⟨bi, 0, none⟩) 1 1, .int .i64 5, .int .i64 0, .int .i64 0, .slice none 0 0], blkI bi [.int .i64 2, .int .i64 0, .int .i64 0, .int .i64 0], blkI bv [.int .i64 1]]) := hide (HS.out.sel [2, 3, 4, 5] (by decide) rfl)
  go_upto_region 24 with (first | ((with_reducible refine isList ?_); first | (refine st_litB HS _ 3 5 _ rfl rfl Tryz.underlying22 Tryz.infoN (by decide) (by decide) [(0, .int .i64 1), (1, .int .i64 2), (2, .int .i64 3), (3, .int .i64 4), (4, .int .i64 5)] rfl _ (fill_n5 1 2 3 4 5) ?_; clear HS; intro W bn HS) | (refine st_store1 HS 1 rfl _ _ _ rfl _ rfl rfl rfl (by decide +kernel) rfl rfl ?_; clear HS; intro W HS)))
  replace HS : Hid (St w W [blkI bn [.int .i64 1, .int .i64 2, .int .i64 3, .int .i64 4, .int .i64 5], blkI b6 (scrL ⟨fourSl ⟨some ⟨bv, 0, none⟩, 1, 1⟩ noSl ⟨some ⟨bn, 0, none⟩, 5, 5⟩ noSl, ⟨some ⟨bt, 0, none⟩, 2, 2⟩, (fun i => if i = 0 then ⟨some ⟨bi, 0, none⟩, 1, 1⟩ else noSl), noSl⟩ (newsS [1] [1, 2, 3, 4, 5] 5 3 0 5 [2, 0, 0, 0])), blkI bt [.int .i64 3, .int .i64 0, .int .i64 0, .slice (some ⟨bi, 0, none⟩) 1 1, .int .i64 5, .int .i64 0, .int .i64 0, .slice none 0 0], blkI bi [.int .i64 2, .int .i64 0, .int .i64 0, .int .i64 0], blkI bv [.int .i64 1]]) := HS
  go_wp2_with (first | ((with_reducible refine isList ?_); first | (refine st_loadA HS 1 rfl _ _ rfl rfl rfl (by decide +kernel) (by kernel_rfl) ?_)))
  refine (hM.out ⟨fourSl ⟨some ⟨bv, 0, none⟩, 1, 1⟩ noSl ⟨some ⟨bn, 0, none⟩, 5, 5⟩ noSl, ⟨some ⟨bt, 0, none⟩, 2, 2⟩, (fun i => if i = 0 then ⟨some ⟨bi, 0, none⟩, 1, 1⟩ else noSl), noSl⟩ _ (news_is (slIs_blk (HS.out.blk 4 rfl) rfl (by decide)) (slIs_blk (HS.out.blk 0 rfl) rfl (by decide)) (HS.out.blk 2 rfl) (HS.out.blk 3 rfl) rfl (by decide))).mono ?_
  (rintro e Wq ⟨A2, rfl, hO, hb⟩; have HSq := hide (HS.out.push hb (machI (fun k => _) A2 _) (machI_loc _ _ _) hO fun k hk => hk); generalize (fun k => _) = D2 at HSq; clear HS hb hO; replace HS := HSq; clear HSq)
  go_wp2_with (first | ((with_reducible refine isList ?_); first | (refine st_alloc HS _ rfl rfl zeroML zeroM ?_; clear HS; intro W b9 HS) | (refine st_storeA HS 0 rfl _ _ _ rfl rfl rfl _ rfl rfl (by kernel_rfl) rfl ?_; clear HS; intro W HS) | (refine st_loadA HS 0 rfl _ _ rfl rfl rfl (by decide +kernel) (by kernel_rfl) ?_)) | (go_at_call 21; refine (num_any _ _).mono ?_; rintro e w' ⟨rfl, rfl⟩))
  refine (sameMachine_yes A2 noMac noMach _ (MachOwn.is (show MachOwn D2 _ A2 noMach from HS.out.get 1 rfl)) (machIs_none _)).mono ?_
  (rintro e Wq ⟨rfl, hb⟩; have HSq := hide (HS.out.on hb); clear HS hb; replace HS := HSq; clear HSq)
  go_wp2_with (go_at_call 21; refine (num_any _ _).mono ?_; rintro e w' ⟨rfl, rfl⟩)
  go_ret
  exact ⟨rfl, HS.out.below⟩
end Go.Proofs.YtaaenolbfhhnfaaGreat
