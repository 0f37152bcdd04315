/-
  The law MachTells.
-/
import Derived.Test.YtjjokalheloimaaGreatZlai
import Derived.Test.YtjjokalheloimaaGreatZlbc
import Derived.Test.YtjjokalheloimaaGreatZlbd
import Derived.Test.YtjjokalheloimaaGreatZlbb
import Derived.Test.YtjjokalheloimaaGreatZlah
namespace Go.Proofs.YtjjokalheloimaaGreat
open Go.RowKit
set_option linter.unusedSimpArgs false
set_option linter.unusedVariables false
set_option maxRecDepth 100000 in
set_option maxHeartbeats 4000000 in
theorem machTells_at (A : MacM) (M : PMach) (i r v c : Int) (full : Bool) (w : World) (h : MachIs w A M) (hr : wrap64 ((IntKind.u64.wrap r).tmod 7) = c) (uc : Hid (upToV c 6 = true)) :
    Calls Tryz.prog 6 #[machA A M, .int .i64 i, .int .i64 r, .int .i64 v, .bool full] w fun e w' => e = .returned (.bool true) ∧ Below w.heap.size w w' := by
  have hCopy := hide fun (W : World) (hb : Below w.heap.size w W) => copyMach_any A M W (h.below hb)
  have hAw := hide fun (W : World) => awake12_any W
  obtain ⟨V0, hV0⟩ : ∃ V0, V0 = machA A M := ⟨_, rfl⟩
  rw [← hV0]
  have HV : Hid (V0.cells = (machL A M).toArray) := by rw [hV0]; rfl
  clear hV0
  have HM := hide h
  have HS := hide (St.refl w)
  clear h
  go_enter Tryz.func6, Tryz.ntmps6
  go_wp2_with (first | ((with_reducible refine isList ?_); first | (refine st_box HS _ _ rfl rfl (machL A M) HV.out ?_; clear HS; intro W bm HS)))
  refine (hAw.out _).mono ?_
  (rintro e Wq ⟨rfl, hb⟩; have HSq := hide (HS.out.on hb); clear HS hb; replace HS := HSq; clear HSq)
  clear hAw
  go_wp2_with (first | ((with_reducible refine isList ?_); first | (refine st_loadA HS 0 rfl _ _ rfl rfl rfl (by decide +kernel) (by kernel_rfl) ?_)))
  refine (hCopy.out _ HS.out.below).mono ?_
  (rintro e Wq ⟨A1, rfl, hO, hb⟩; have HSq := hide (HS.out.push hb (machI (fun k => _) A1 _) (machI_loc _ _ _) hO fun k hk => hk); generalize (fun k => _) = D1 at HSq; clear HS hb hO; replace HS := HSq; clear HSq)
  clear hCopy
  go_upto_region 5 with (first | ((with_reducible refine isList ?_); first | (refine st_alloc HS _ rfl rfl zeroML zeroM ?_; clear HS; intro W bx HS) | (refine st_storeA HS 0 rfl _ _ _ rfl rfl rfl _ rfl rfl (by kernel_rfl) rfl ?_; clear HS; intro W HS)))
  replace HS : Hid (St w W [blkI bx (machL A1 M), machI D1 A1 M, blkI bm (machL A M)]) := HS
  cases full
  · have hX := hide (MachOwn.is (show MachOwn D1 _ A1 M from HS.out.get 1 rfl)).sess.1
    have hT4 := hide (MachOwn.is (show MachOwn D1 _ A1 M from HS.out.get 1 rfl)).trace.1
    have hM1 := hide fun (W' : World) (hO : MachOwn D1 W' A1 M) => gtelling_any A1 M i c v W' hO.is
    have hMay := hide fun (W' : World) (hO : MachOwn D1 W' A1 M) => rmachMay_any A1 M W' hO.is
    have hCp := hide fun (W' : World) (hO : MachOwn D1 W' A1 M) => copyMach_any A1 M W' hO.is
    go_wp2_with (first | ((with_reducible refine isList ?_); first | (refine st_loadA HS 0 rfl _ _ rfl rfl rfl (by decide +kernel) (by kernel_rfl) ?_)))
    refine (hM1.out _ (HS.out.get 1 rfl)).mono ?_
    clear hM1
    cases hh : hereP M i
    case false =>
      rw [show tellingP M i c v = (noMach, 1200) by unfold tellingP; rw [hh]; rfl]
      (rintro e Wq ⟨A4, rfl, hO, hb⟩; have HSq := hide (HS.out.push hb (machI (fun k => _) A4 _) (machI_loc _ _ _) hO fun k hk => hk); generalize (fun k => _) = D4 at HSq; clear HS hb hO; replace HS := HSq; clear HSq)
      go_wp2_with (first | ((with_reducible refine isList ?_); first | (refine st_alloc HS _ rfl rfl zeroML zeroM ?_; clear HS; intro W ba HS) | (refine st_storeA HS 0 rfl _ _ _ rfl rfl rfl _ rfl rfl (by kernel_rfl) rfl ?_; clear HS; intro W HS) | (refine st_loadA HS 0 rfl _ _ rfl rfl rfl (by decide +kernel) (by kernel_rfl) ?_)) | (go_at_call 27; refine (num_any _ _).mono ?_; rintro e w' ⟨rfl, rfl⟩))
      refine (sameMachine_yes A4 noMac noMach _ (MachOwn.is (show MachOwn D4 _ A4 noMach from HS.out.get 1 rfl)) (machIs_none _)).mono ?_
      (rintro e Wq ⟨rfl, hb⟩; have HSq := hide (HS.out.on hb); clear HS hb; replace HS := HSq; clear HSq)
      go_wp2_with (first | ((with_reducible refine isList ?_); first | (refine st_loadA HS 2 rfl _ _ rfl rfl rfl (by decide +kernel) (by kernel_rfl) ?_)))
      refine (hMay.out _ (HS.out.get 3 rfl)).mono ?_
      (rintro e Wq ⟨rfl, hb⟩; have HSq := hide (HS.out.on hb); clear HS hb; replace HS := HSq; clear HSq)
      have c9 : Wq.cell? ⟨bx, 9, none⟩ = some (.slice A1.s.a A1.s.n A1.s.c) := (HS.out.blk 2 rfl).cell 9 _ rfl
      unfold hereP at hh
      cases hm : machMay M
      · go_wp2
        go_ret
        exact ⟨rfl, HS.out.below⟩
      · rw [hm, Bool.true_and] at hh
        by_cases h0 : i < 0
        · go_wp2
          go_ret
          exact ⟨rfl, HS.out.below⟩
        · have h1 : ¬ i < (A1.s.n : Int) := by
            intro h1
            rw [decide_eq_true (by omega : 0 ≤ i), decide_eq_true (by have := hX.out; omega : i < (M.sess.length : Int))] at hh
            cases hh
          clear hh
          go_wp2
          go_ret
          exact ⟨rfl, HS.out.below⟩
    obtain ⟨hm, k, rfl, hk0⟩ := hereP_yes hh
    rw [show tellingP M k c v = (tellP M k c v, 0) by unfold tellingP; rw [hh, uc.out, Int.toNat_natCast]; rfl]
    clear hMay hh hm
    have hk1 : k < A1.s.n := by have := hX.out; omega
    have i1 : (k : Int) < (A1.s.n : Int) := by omega
    have i2 : ¬ (k : Int) < 0 := by omega
    have i3 : ¬ (A1.s.n : Int) ≤ (k : Int) := by omega
    (rintro e Wq ⟨A4, rfl, hO, hb⟩; have HSq := hide (HS.out.push hb (machI (fun k => _) A4 _) (machI_loc _ _ _) hO fun k hk => hk); generalize (fun k => _) = D4 at HSq; clear HS hb hO; replace HS := HSq; clear HSq)
    go_upto_region 12 with (first | ((with_reducible refine isList ?_); first | (refine st_alloc HS _ rfl rfl zeroML zeroM ?_; clear HS; intro W ba HS) | (refine st_storeA HS 0 rfl _ _ _ rfl rfl rfl _ rfl rfl (by kernel_rfl) rfl ?_; clear HS; intro W HS)) | (go_at_call 27; refine (num_any _ _).mono ?_; rintro e w' ⟨rfl, rfl⟩))
    replace HS : Hid (St w W [blkI ba (machL A4 (tellP M k c v)), machI D4 A4 (tellP M k c v), blkI bx (machL A1 M), machI D1 A1 M, blkI bm (machL A M)]) := HS
    go_upto_region 14 with (first | ((with_reducible refine isList ?_); first | (refine st_load1 HS 2 rfl _ _ rfl _ rfl rfl (by decide +kernel) rfl ?_)))
    go_wp2_with (first | ((with_reducible refine isList ?_); first | (refine st_loadA HS 2 rfl _ _ rfl rfl rfl (by decide +kernel) (by kernel_rfl) ?_)))
    refine (hCp.out _ (HS.out.get 3 rfl)).mono ?_
    (rintro e Wq ⟨A5, rfl, hO, hb⟩; have HSq := hide (HS.out.push hb (machI (fun k => _) A5 _) (machI_loc _ _ _) hO fun k hk => hk); generalize (fun k => _) = D5 at HSq; clear HS hb hO; replace HS := HSq; clear HSq)
    clear hCp
    go_upto_region 15 with (first | ((with_reducible refine isList ?_); first | (refine st_alloc HS _ rfl rfl zeroML zeroM ?_; clear HS; intro W bc HS) | (refine st_storeA HS 0 rfl _ _ _ rfl rfl rfl _ rfl rfl (by kernel_rfl) rfl ?_; clear HS; intro W HS)))
    replace HS : Hid (St w W [blkI bc (machL A5 M), machI D5 A5 M, blkI ba (machL A4 (tellP M k c v)), machI D4 A4 (tellP M k c v), blkI bx (machL A1 M), machI D1 A1 M, blkI bm (machL A M)]) := HS
    have hT5 := hide (MachOwn.is (show MachOwn D5 _ A5 M from HS.out.get 1 rfl)).trace.1
    by_cases hn : A5.e.n < 512
    · have i4 : (A5.e.n : Int) < 512 := by omega
      have eT : tellP M k c v = { M with trace := M.trace ++ [lz (M.at k).num 0, lz (M.at k).num 1, c, v] } := by
        unfold tellP
        rw [if_pos (by rw [hT5.out]; omega)]
      rw [eT] at HS
      obtain ⟨s1, e1, _⟩ := MachOwn.sblk (show MachOwn D1 _ A1 M from HS.out.get 5 rfl) hk1
      have hcl : Hid (∀ W', Blk W' bc (machL A5 M) → Blk W' bx (machL A1 M) → MachOwn D1 W' A1 M → W'.cell? ⟨bc, 10, none⟩ = some (.slice A5.e.a A5.e.n A5.e.c) ∧ W'.cell? ⟨bx, 9, none⟩ = some (.slice (some ⟨s1, 0, none⟩) A1.s.n A1.s.c) ∧ W'.cell? ⟨s1, k * 17, none⟩ = some (.int .i64 (lz (M.at k).num 0)) ∧ W'.cell? ⟨s1, k * 17 + 1, none⟩ = some (.int .i64 (lz (M.at k).num 1))) := fun W' h1 h2 h3 =>
        ⟨h1.cell 10 _ rfl, by rw [← e1]; exact h2.cell 9 _ rfl, MachIs.scell h3.is hk1 0 (by decide) rfl e1, MachIs.scell h3.is hk1 1 (by decide) rfl e1⟩
      replace e1 := hide e1
      replace hX := hX; replace eT := hide eT
      go_upto_region 16 with (first | ((with_reducible refine isList ?_); first | (refine st_load1 HS 0 rfl _ _ rfl _ rfl rfl (by decide +kernel) rfl ?_)))
      (try simp only [Act.put, List.setIfInBounds_toArray, List.set_cons_zero, List.set_cons_succ])
      refine wp_region_mask [true, true, true, true, true, true, true, true, true, true, true, true, true, true, true, true, true, false, false, false, false] [false, false, false, false, false, false, false, false, false, false, false, false, false, false, false, false, false, true, true, true, true] [0, 0, 1, 1] (fun W' => W'.cell? ⟨bc, 10, none⟩ = some (.slice A5.e.a A5.e.n A5.e.c) ∧ W'.cell? ⟨bx, 9, none⟩ = some (.slice (some ⟨s1, 0, none⟩) A1.s.n A1.s.c) ∧ W'.cell? ⟨s1, k * 17, none⟩ = some (.int .i64 (lz (M.at k).num 0)) ∧ W'.cell? ⟨s1, k * 17 + 1, none⟩ = some (.int .i64 (lz (M.at k).num 1))) (by kernel_rfl) (by kernel_rfl) (by kernel_rfl) (by decide +kernel) (hcl.out _ (HS.out.drew.blk 0 rfl) (HS.out.drew.blk 4 rfl) (HS.out.drew.get 5 rfl)) ?_
      intro kne
      simp only [pickAt]
      repeat (first | ((first | (refine wpQuiet_ld _ _ rfl ⟨bc, 10, none⟩ rfl rfl (by decide +kernel) (fun w hC => hC.1) ?_) | (refine wpQuiet_ld _ _ rfl ⟨bx, 9, none⟩ rfl rfl (by decide +kernel) (fun w hC => hC.2.1) ?_) | (refine wpQuiet_ld _ _ rfl ⟨s1, k * 17, none⟩ rfl rfl (by decide +kernel) (fun w hC => hC.2.2.1) ?_) | (refine wpQuiet_ld _ _ rfl ⟨s1, k * 17 + 1, none⟩ rfl rfl (by decide +kernel) (fun w hC => hC.2.2.2) ?_)); simp only [Act.put, List.setIfInBounds_toArray, List.set_cons_zero, List.set_cons_succ]) | go_big_quiet_step (fail))
      refine wpQuiet_nil ?_
      clear kne
      replace HS := hide HS.out.drew
      generalize World.drew _ = Wd at *
      obtain ⟨ie, hie, hz, hy, hx⟩ := info_parts Tryz.infoEvent
      refine wpRest_cons rfl rfl fun K hK => ?_
      go_big_op
      have HS1 := hide (HS.out.alloc [.int .i64 (lz (M.at k).num 0), .int .i64 (lz (M.at k).num 1), .int .i64 c, .int .i64 v] 66)
      refine hK _ _ (fun _ => InC.mk (hcl.out _ (HS1.out.blk 1 rfl) (HS1.out.blk 5 rfl) (HS1.out.get 6 rfl))) ?_
      clear hK K HS
      generalize Wd.heap.size = be at *
      refine wpRest_cons rfl rfl fun K hK => ?_
      refine stw_event HS1 0 2 (x := [lz (M.at k).num 0, lz (M.at k).num 1, c, v]) rfl rfl rfl hn _ _ _ rfl ie _ Tryz.underlying32 hie hz hy hx rfl rfl rfl ?_
      clear HS1
      intro W2 D' g cap HS
      refine hK _ _ (fun _ => InC.mk (hcl.out _ (HS.out.blk 1 rfl) (HS.out.blk 5 rfl) (HS.out.get 6 rfl))) ?_
      clear hK K
      simp only [Act.put, List.setIfInBounds_toArray, List.set_cons_zero, List.set_cons_succ]
      refine wpRest_cons rfl rfl fun K hK => ?_
      go_big_op
      refine hK _ _ (fun h => by cases h) ?_
      clear hK K
      refine wpRest_cons rfl rfl fun K hK => ?_
      refine stw_store1 HS 1 rfl _ _ _ rfl _ rfl rfl (by decide +kernel) rfl rfl ?_
      clear HS
      intro W3 HS
      refine hK _ _ (fun h => by cases h) (wpRest_nil ?_)
      clear hK K hcl
      simp only [Act.put, List.setIfInBounds_toArray, List.set_cons_zero, List.set_cons_succ]
      refine NoPanic.normal ?_
      replace HS : Hid (St w W3 [blkI bc (machL (A5.setE ⟨some ⟨g, 0, none⟩, A5.e.n + 1, cap⟩) { M with trace := M.trace ++ [lz (M.at k).num 0, lz (M.at k).num 1, c, v] }), machI D' (A5.setE ⟨some ⟨g, 0, none⟩, A5.e.n + 1, cap⟩) { M with trace := M.trace ++ [lz (M.at k).num 0, lz (M.at k).num 1, c, v] }, blkI ba (machL A4 { M with trace := M.trace ++ [lz (M.at k).num 0, lz (M.at k).num 1, c, v] }), machI D4 A4 { M with trace := M.trace ++ [lz (M.at k).num 0, lz (M.at k).num 1, c, v] }, blkI bx (machL A1 M), machI D1 A1 M, blkI bm (machL A M)]) := hide HS.out.tail
      generalize { M with trace := M.trace ++ [lz (M.at k).num 0, lz (M.at k).num 1, c, v] } = X at HS
      generalize A5.setE ⟨some ⟨g, 0, none⟩, A5.e.n + 1, cap⟩ = A6 at HS
      go_wp2_with (first | ((with_reducible refine isList ?_); first | (refine st_loadA HS 0 rfl _ _ rfl rfl rfl (by decide +kernel) (by kernel_rfl) ?_) | (refine st_loadA HS 2 rfl _ _ rfl rfl rfl (by decide +kernel) (by kernel_rfl) ?_)))
      refine (sameMachine_yes A4 A6 X _ (MachOwn.is (show MachOwn D4 _ A4 X from HS.out.get 3 rfl)) (MachOwn.is (show MachOwn D' _ A6 X from HS.out.get 1 rfl))).mono ?_
      (rintro e Wq ⟨rfl, hb⟩; have HSq := hide (HS.out.on hb); clear HS hb; replace HS := HSq; clear HSq)
      go_wp2
      go_ret
      exact ⟨rfl, HS.out.below⟩
    · have i4 : ¬ (A5.e.n : Int) < 512 := by omega
      have eT : tellP M k c v = M := by
        unfold tellP
        rw [if_neg (by rw [hT5.out]; omega)]
      rw [eT] at HS
      go_wp2_with (first | ((with_reducible refine isList ?_); first | (refine st_load1 HS 0 rfl _ _ rfl _ rfl rfl (by decide +kernel) rfl ?_) | (refine st_loadA HS 0 rfl _ _ rfl rfl rfl (by decide +kernel) (by kernel_rfl) ?_) | (refine st_loadA HS 2 rfl _ _ rfl rfl rfl (by decide +kernel) (by kernel_rfl) ?_)))
      refine (sameMachine_yes A4 A5 M _ (MachOwn.is (show MachOwn D4 _ A4 M from HS.out.get 3 rfl)) (MachOwn.is (show MachOwn D5 _ A5 M from HS.out.get 1 rfl))).mono ?_
      (rintro e Wq ⟨rfl, hb⟩; have HSq := hide (HS.out.on hb); clear HS hb; replace HS := HSq; clear HSq)
      go_wp2
      go_ret
      exact ⟨rfl, HS.out.below⟩
  · go_upto_region 7 with (first | ((with_reducible refine isList ?_); first | (refine st_makeE HS _ _ rfl rfl 512 (by decide) rfl rfl ?_; clear HS; intro W De be HS) | (refine st_store1 HS 1 rfl _ _ _ rfl _ rfl rfl rfl (by decide +kernel) rfl rfl ?_; clear HS; intro W HS)))
    have HSz := hide (HS.out.withTr 2 0 rfl rfl (by decide))
    replace HS := hide (HSz.out.sel [1, 2, 3] (by decide) rfl)
    clear HSz
    replace HS : Hid (St w W [blkI bx (machL (A1.setE ⟨some ⟨be, 0, none⟩, 512, 512⟩) { M with trace := zerosL (512 * 4) }), machI (fun k => D1 k ∨ De k) (A1.setE ⟨some ⟨be, 0, none⟩, 512, 512⟩) { M with trace := zerosL (512 * 4) }, blkI bm (machL A M)]) := HS
    have hF : Hid (∀ k, tellP { M with trace := zerosL (512 * 4) } k c v = { M with trace := zerosL (512 * 4) }) := fun k => by
      unfold tellP
      rw [if_neg (by show ¬ (zerosL (512 * 4)).length / 4 < 512; unfold zerosL; rw [List.length_replicate]; decide)]
    generalize { M with trace := zerosL (512 * 4) } = X at HS hF
    generalize A1.setE ⟨some ⟨be, 0, none⟩, 512, 512⟩ = A2 at HS
    generalize (fun k => D1 k ∨ De k) = D2 at HS
    have hX := hide (MachOwn.is (show MachOwn D2 _ A2 X from HS.out.get 1 rfl)).sess.1
    have hM1 := hide fun (W' : World) (hO : MachOwn D2 W' A2 X) => gtelling_any A2 X i c v W' hO.is
    have hMay := hide fun (W' : World) (hO : MachOwn D2 W' A2 X) => rmachMay_any A2 X W' hO.is
    go_wp2_with (first | ((with_reducible refine isList ?_); first | (refine st_loadA HS 0 rfl _ _ rfl rfl rfl (by decide +kernel) (by kernel_rfl) ?_)))
    refine (hM1.out _ (HS.out.get 1 rfl)).mono ?_
    clear hM1
    cases hh : hereP X i
    case false =>
      rw [show tellingP X i c v = (noMach, 1200) by unfold tellingP; rw [hh]; rfl]
      (rintro e Wq ⟨A4, rfl, hO, hb⟩; have HSq := hide (HS.out.push hb (machI (fun k => _) A4 _) (machI_loc _ _ _) hO fun k hk => hk); generalize (fun k => _) = D4 at HSq; clear HS hb hO; replace HS := HSq; clear HSq)
      go_wp2_with (first | ((with_reducible refine isList ?_); first | (refine st_alloc HS _ rfl rfl zeroML zeroM ?_; clear HS; intro W ba HS) | (refine st_storeA HS 0 rfl _ _ _ rfl rfl rfl _ rfl rfl (by kernel_rfl) rfl ?_; clear HS; intro W HS) | (refine st_loadA HS 0 rfl _ _ rfl rfl rfl (by decide +kernel) (by kernel_rfl) ?_)) | (go_at_call 27; refine (num_any _ _).mono ?_; rintro e w' ⟨rfl, rfl⟩))
      refine (sameMachine_yes A4 noMac noMach _ (MachOwn.is (show MachOwn D4 _ A4 noMach from HS.out.get 1 rfl)) (machIs_none _)).mono ?_
      (rintro e Wq ⟨rfl, hb⟩; have HSq := hide (HS.out.on hb); clear HS hb; replace HS := HSq; clear HSq)
      go_wp2_with (first | ((with_reducible refine isList ?_); first | (refine st_loadA HS 2 rfl _ _ rfl rfl rfl (by decide +kernel) (by kernel_rfl) ?_)))
      refine (hMay.out _ (HS.out.get 3 rfl)).mono ?_
      (rintro e Wq ⟨rfl, hb⟩; have HSq := hide (HS.out.on hb); clear HS hb; replace HS := HSq; clear HSq)
      have c9 : Wq.cell? ⟨bx, 9, none⟩ = some (.slice A2.s.a A2.s.n A2.s.c) := (HS.out.blk 2 rfl).cell 9 _ rfl
      unfold hereP at hh
      cases hm : machMay X
      · go_wp2
        go_ret
        exact ⟨rfl, HS.out.below⟩
      · rw [hm, Bool.true_and] at hh
        by_cases h0 : i < 0
        · go_wp2
          go_ret
          exact ⟨rfl, HS.out.below⟩
        · have h1 : ¬ i < (A2.s.n : Int) := by
            intro h1
            rw [decide_eq_true (by omega : 0 ≤ i), decide_eq_true (by have := hX.out; omega : i < (X.sess.length : Int))] at hh
            cases hh
          clear hh
          go_wp2
          go_ret
          exact ⟨rfl, HS.out.below⟩
    obtain ⟨hm, k, rfl, hk0⟩ := hereP_yes hh
    rw [show tellingP X k c v = (X, 0) by unfold tellingP; rw [hh, uc.out, Int.toNat_natCast, hF.out]; rfl]
    clear hMay hh hm
    (rintro e Wq ⟨A4, rfl, hO, hb⟩; have HSq := hide (HS.out.push hb (machI (fun k => _) A4 _) (machI_loc _ _ _) hO fun k hk => hk); generalize (fun k => _) = D4 at HSq; clear HS hb hO; replace HS := HSq; clear HSq)
    go_wp2_with (first | ((with_reducible refine isList ?_); first | (refine st_alloc HS _ rfl rfl zeroML zeroM ?_; clear HS; intro W ba HS) | (refine st_storeA HS 0 rfl _ _ _ rfl rfl rfl _ rfl rfl (by kernel_rfl) rfl ?_; clear HS; intro W HS) | (refine st_loadA HS 0 rfl _ _ rfl rfl rfl (by decide +kernel) (by kernel_rfl) ?_) | (refine st_loadA HS 2 rfl _ _ rfl rfl rfl (by decide +kernel) (by kernel_rfl) ?_)) | (go_at_call 27; refine (num_any _ _).mono ?_; rintro e w' ⟨rfl, rfl⟩))
    refine (sameMachine_yes A4 A2 X _ (MachOwn.is (show MachOwn D4 _ A4 X from HS.out.get 1 rfl)) (MachOwn.is (show MachOwn D2 _ A2 X from HS.out.get 3 rfl))).mono ?_
    (rintro e Wq ⟨rfl, hb⟩; have HSq := hide (HS.out.on hb); clear HS hb; replace HS := HSq; clear HSq)
    go_wp2
    go_ret
    exact ⟨rfl, HS.out.below⟩
theorem machTells_any (A : MacM) (M : PMach) (i r v : Int) (full : Bool) (w : World) (h : MachIs w A M) :
    Calls Tryz.prog 6 #[machA A M, .int .i64 i, .int .i64 r, .int .i64 v, .bool full] w fun e w' => e = .returned (.bool true) ∧ Below w.heap.size w w' := by
  obtain ⟨m, hm, e⟩ := pick_at r 7 (by decide) (by decide)
  exact machTells_at A M i r v m full w h e (upToV_of (by omega) (by omega))
end Go.Proofs.YtjjokalheloimaaGreat
