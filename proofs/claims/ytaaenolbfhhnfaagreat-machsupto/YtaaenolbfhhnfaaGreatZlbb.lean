/-
  A statement of Machs: the script and the machine, copied, whichever order its operations come in.
-/
import Derived.Test.YtaaenolbfhhnfaaGreatZlab
import Derived.Test.YtaaenolbfhhnfaaGreatZhLCopyScr
import Derived.Test.YtaaenolbfhhnfaaGreatZlah
import Derived.Test.YtaaenolbfhhnfaaGreatZlae
namespace Go.Proofs.YtaaenolbfhhnfaaGreat
open Go.RowKit
set_option linter.unusedVariables false
set_option linter.unusedSimpArgs false
set_option maxRecDepth 100000 in
set_option maxHeartbeats 8000000 in
theorem machs_copies (B : ScrM) (S : PScript) (A : MacM) (M : PMach) (b5 b6 : Nat) (w W : World) (hB : ScrIs w B S) (hM : MachIs w A M) (HS : Hid (St w W [blkI b6 (machL A M), blkI b5 (scrL B S)]))
    (k0 k1 k2 k3 k4 k7 k8 k9 k10 k11 k12 k13 k14 k15 k16 k17 k18 k19 k20 k21 k22 k23 k24 k25 k26 k27 k28 k29 k30 k31 k32 k33 k34 k35 k36 k37 k38 k39 k40 k41 k42 k43 k44 k45 k46 k47 k48 k49 k50 k51 k52 k53 k54 k55 k56 k57 k58 k59 k60 k61 k62 k63 k64 k65 k66 k67 k68 k69 k70 k71 k72 k73 k74 k75 k76 k77 k78 k79 k80 k81 k82 k83 k84 k85 k86 k87 k88 k89 k90 k91 k92 k93 k94 : Value) (K : Act → World → Prop) (Q' : Exit → Act → World → Prop)
    (hE : ∀ (B2 : ScrM) (A2 : MacM) (DS DA : Nat → Prop) (b11 b12 : Nat) (W : World) (u21 u22 u23 u24 : Value), Hid (St w W [blkI b11 (scrL B2 S), blkI b12 (machL A2 M), scrI DS B2 S, machI DA A2 M, blkI b6 (machL A M), blkI b5 (scrL B S)]) → K ⟨#[k0, k1, k2, k3, k4, .pointer (some ⟨b5, 0, none⟩), .pointer (some ⟨b6, 0, none⟩), k7, k8, k9, k10, .pointer (some ⟨b11, 0, none⟩), .pointer (some ⟨b12, 0, none⟩), k13, k14, k15, k16, k17, k18, k19, k20, u21, u22, u23, u24, k25, k26, k27, k28, k29, k30, k31, k32, k33, k34, k35, k36, k37, k38, k39, k40, k41, k42, k43, k44, k45, k46, k47, k48, k49, k50, k51, k52, k53, k54, k55, k56, k57, k58, k59, k60, k61, k62, k63, k64, k65, k66, k67, k68, k69, k70, k71, k72, k73, k74, k75, k76, k77, k78, k79, k80, k81, k82, k83, k84, k85, k86, k87, k88, k89, k90, k91, k92, k93, k94], []⟩ W) :
    Code.wp Tryz.prog ((Tryz.f3.body.bind (regionOf 1)).getD .skip) (Exit.then K Q') ⟨#[k0, k1, k2, k3, k4, .pointer (some ⟨b5, 0, none⟩), .pointer (some ⟨b6, 0, none⟩), k7, k8, k9, k10, k11, k12, k13, k14, k15, k16, k17, k18, k19, k20, k21, k22, k23, k24, k25, k26, k27, k28, k29, k30, k31, k32, k33, k34, k35, k36, k37, k38, k39, k40, k41, k42, k43, k44, k45, k46, k47, k48, k49, k50, k51, k52, k53, k54, k55, k56, k57, k58, k59, k60, k61, k62, k63, k64, k65, k66, k67, k68, k69, k70, k71, k72, k73, k74, k75, k76, k77, k78, k79, k80, k81, k82, k83, k84, k85, k86, k87, k88, k89, k90, k91, k92, k93, k94], []⟩ W := by
  have HCS := hide fun (W : World) (hb : Below w.heap.size w W) => copyScript_any B S W (hB.below hb)
  have HCM := hide fun (W : World) (hb : Below w.heap.size w W) => copyMach_any A M W (hM.below hb)
  clear hB hM
  conv => arg 2; whnf
  refine wp_region_tree [true, false, true, false, false, false, false, false] #[true, false, true, false, false, false, false, false] 6 (fun w' => Blk w' b5 (scrL B S) ∧ Blk w' b6 (machL A M)) (by kernel_rfl) (by kernel_rfl) (by kernel_rfl) (by decide +kernel) ⟨HS.out.drew.blk 1 rfl, HS.out.drew.blk 0 rfl⟩ ?_
  intro kne
  simp only [pickAt]
  repeat (first | ((first | (refine wpQuiet_la _ _ rfl b5 (0) rfl rfl (by decide +kernel) (scrL B S) (by kernel_rfl) (fun w hC => hC.1.range) ?_) | (refine wpQuiet_la _ _ rfl b6 (0) rfl rfl (by decide +kernel) (machL A M) (by kernel_rfl) (fun w hC => hC.2.range) ?_)); simp only [Act.put, List.setIfInBounds_toArray, List.set_cons_zero, List.set_cons_succ]) | go_big_quiet_step (fail))
  refine wpQuiet_nil ?_
  clear kne
  replace HS := hide HS.out.drew
  generalize World.drew _ = Wd at *
  refine tree_step [1, 4, 5] (by decide +kernel) rfl (in_three ?_ ?_ ?_)
  · refine tree_op rfl rfl fun K hK => ?_
    go_big_op
    refine (HCS.out _ HS.out.below).mono ?_
    rintro e Wq ⟨B2, rfl, hO, hb⟩
    have HSq := hide (HS.out.push hb (scrI (fun k => _) B2 _) (scrI_loc _ _ _) hO fun k hk => hk)
    generalize (fun k => _) = DS at HSq
    clear HS hb hO
    replace HS := HSq
    clear HSq
    refine hK _ _ (InC.mk ⟨HS.out.blk 2 rfl, HS.out.blk 1 rfl⟩) ?_
    clear hK K
    (try simp only [Act.put, List.setIfInBounds_toArray, List.set_cons_zero, List.set_cons_succ])
    refine tree_step [3, 4, 5] (by decide +kernel) rfl (in_three ?_ ?_ ?_)
    · refine tree_op rfl rfl fun K hK => ?_
      go_big_op
      refine (HCM.out _ HS.out.below).mono ?_
      (rintro e Wq ⟨A2, rfl, hO, hb⟩; have HSq := hide (HS.out.push hb (machI (fun k => _) A2 _) (machI_loc _ _ _) hO fun k hk => hk); generalize (fun k => _) = DA at HSq; clear HS hb hO; replace HS := HSq; clear HSq)
      refine hK _ _ (InC.mk ⟨HS.out.blk 3 rfl, HS.out.blk 2 rfl⟩) ?_
      clear hK K
      (try simp only [Act.put, List.setIfInBounds_toArray, List.set_cons_zero, List.set_cons_succ])
      refine tree_step [4, 5] (by decide +kernel) rfl (in_two ?_ ?_)
      · refine tree_op rfl rfl fun K hK => ?_
        refine stw_alloc HS _ rfl zeroScrL zeroScr ?_
        clear HS
        intro W b11 HS
        refine hK _ _ (InC.mk ⟨HS.out.blk 4 rfl, HS.out.blk 3 rfl⟩) ?_
        clear hK K
        (try simp only [Act.put, List.setIfInBounds_toArray, List.set_cons_zero, List.set_cons_succ])
        refine tree_step [5] (by decide +kernel) rfl (in_one ?_)
        refine tree_op rfl rfl fun K hK => ?_
        refine stw_alloc HS _ rfl zeroML zeroM ?_
        clear HS
        intro W b12 HS
        refine hK _ _ (InC.mk ⟨HS.out.blk 5 rfl, HS.out.blk 4 rfl⟩) ?_
        clear hK K
        (try simp only [Act.put, List.setIfInBounds_toArray, List.set_cons_zero, List.set_cons_succ])
        refine tree_step [6] (by decide +kernel) rfl (in_one ?_)
        refine tree_op rfl rfl fun K hK => ?_
        refine stw_storeA HS 1 rfl _ _ _ rfl rfl (scrL B2 S) rfl rfl (by kernel_rfl) rfl ?_
        clear HS
        intro W HS
        refine hK _ _ (InC.mk ⟨HS.out.blk 5 rfl, HS.out.blk 4 rfl⟩) ?_
        clear hK K
        (try simp only [Act.put, List.setIfInBounds_toArray, List.set_cons_zero, List.set_cons_succ])
        refine tree_step [7] (by decide +kernel) rfl (in_one ?_)
        refine tree_op rfl rfl fun K hK => ?_
        refine stw_storeA HS 0 rfl _ _ _ rfl rfl (machL A2 M) rfl rfl (by kernel_rfl) rfl ?_
        clear HS
        intro W HS
        refine hK _ _ (InC.mk ⟨HS.out.blk 5 rfl, HS.out.blk 4 rfl⟩) ?_
        clear hK K
        (try simp only [Act.put, List.setIfInBounds_toArray, List.set_cons_zero, List.set_cons_succ])
        refine tree_end (by decide +kernel) ?_
        refine NoPanic.normal ?_
        exact hE _ _ _ _ _ _ _ _ _ _ _ (hide (HS.out.sel [1, 0, 3, 2, 4, 5] (by decide) rfl))
      · refine tree_op rfl rfl fun K hK => ?_
        refine stw_alloc HS _ rfl zeroML zeroM ?_
        clear HS
        intro W b12 HS
        refine hK _ _ (InC.mk ⟨HS.out.blk 4 rfl, HS.out.blk 3 rfl⟩) ?_
        clear hK K
        (try simp only [Act.put, List.setIfInBounds_toArray, List.set_cons_zero, List.set_cons_succ])
        refine tree_step [4] (by decide +kernel) rfl (in_one ?_)
        refine tree_op rfl rfl fun K hK => ?_
        refine stw_alloc HS _ rfl zeroScrL zeroScr ?_
        clear HS
        intro W b11 HS
        refine hK _ _ (InC.mk ⟨HS.out.blk 5 rfl, HS.out.blk 4 rfl⟩) ?_
        clear hK K
        (try simp only [Act.put, List.setIfInBounds_toArray, List.set_cons_zero, List.set_cons_succ])
        refine tree_step [6] (by decide +kernel) rfl (in_one ?_)
        refine tree_op rfl rfl fun K hK => ?_
        refine stw_storeA HS 0 rfl _ _ _ rfl rfl (scrL B2 S) rfl rfl (by kernel_rfl) rfl ?_
        clear HS
        intro W HS
        refine hK _ _ (InC.mk ⟨HS.out.blk 5 rfl, HS.out.blk 4 rfl⟩) ?_
        clear hK K
        (try simp only [Act.put, List.setIfInBounds_toArray, List.set_cons_zero, List.set_cons_succ])
        refine tree_step [7] (by decide +kernel) rfl (in_one ?_)
        refine tree_op rfl rfl fun K hK => ?_
        refine stw_storeA HS 1 rfl _ _ _ rfl rfl (machL A2 M) rfl rfl (by kernel_rfl) rfl ?_
        clear HS
        intro W HS
        refine hK _ _ (InC.mk ⟨HS.out.blk 5 rfl, HS.out.blk 4 rfl⟩) ?_
        clear hK K
        (try simp only [Act.put, List.setIfInBounds_toArray, List.set_cons_zero, List.set_cons_succ])
        refine tree_end (by decide +kernel) ?_
        refine NoPanic.normal ?_
        exact hE _ _ _ _ _ _ _ _ _ _ _ (hide (HS.out.sel [0, 1, 3, 2, 4, 5] (by decide) rfl))
    · refine tree_op rfl rfl fun K hK => ?_
      refine stw_alloc HS _ rfl zeroScrL zeroScr ?_
      clear HS
      intro W b11 HS
      refine hK _ _ (InC.mk ⟨HS.out.blk 3 rfl, HS.out.blk 2 rfl⟩) ?_
      clear hK K
      (try simp only [Act.put, List.setIfInBounds_toArray, List.set_cons_zero, List.set_cons_succ])
      refine tree_step [3, 5] (by decide +kernel) rfl (in_two ?_ ?_)
      · refine tree_op rfl rfl fun K hK => ?_
        go_big_op
        refine (HCM.out _ HS.out.below).mono ?_
        (rintro e Wq ⟨A2, rfl, hO, hb⟩; have HSq := hide (HS.out.push hb (machI (fun k => _) A2 _) (machI_loc _ _ _) hO fun k hk => hk); generalize (fun k => _) = DA at HSq; clear HS hb hO; replace HS := HSq; clear HSq)
        refine hK _ _ (InC.mk ⟨HS.out.blk 4 rfl, HS.out.blk 3 rfl⟩) ?_
        clear hK K
        (try simp only [Act.put, List.setIfInBounds_toArray, List.set_cons_zero, List.set_cons_succ])
        refine tree_step [5] (by decide +kernel) rfl (in_one ?_)
        refine tree_op rfl rfl fun K hK => ?_
        refine stw_alloc HS _ rfl zeroML zeroM ?_
        clear HS
        intro W b12 HS
        refine hK _ _ (InC.mk ⟨HS.out.blk 5 rfl, HS.out.blk 4 rfl⟩) ?_
        clear hK K
        (try simp only [Act.put, List.setIfInBounds_toArray, List.set_cons_zero, List.set_cons_succ])
        refine tree_step [6] (by decide +kernel) rfl (in_one ?_)
        refine tree_op rfl rfl fun K hK => ?_
        refine stw_storeA HS 2 rfl _ _ _ rfl rfl (scrL B2 S) rfl rfl (by kernel_rfl) rfl ?_
        clear HS
        intro W HS
        refine hK _ _ (InC.mk ⟨HS.out.blk 5 rfl, HS.out.blk 4 rfl⟩) ?_
        clear hK K
        (try simp only [Act.put, List.setIfInBounds_toArray, List.set_cons_zero, List.set_cons_succ])
        refine tree_step [7] (by decide +kernel) rfl (in_one ?_)
        refine tree_op rfl rfl fun K hK => ?_
        refine stw_storeA HS 0 rfl _ _ _ rfl rfl (machL A2 M) rfl rfl (by kernel_rfl) rfl ?_
        clear HS
        intro W HS
        refine hK _ _ (InC.mk ⟨HS.out.blk 5 rfl, HS.out.blk 4 rfl⟩) ?_
        clear hK K
        (try simp only [Act.put, List.setIfInBounds_toArray, List.set_cons_zero, List.set_cons_succ])
        refine tree_end (by decide +kernel) ?_
        refine NoPanic.normal ?_
        exact hE _ _ _ _ _ _ _ _ _ _ _ (hide (HS.out.sel [2, 0, 3, 1, 4, 5] (by decide) rfl))
      · refine tree_op rfl rfl fun K hK => ?_
        refine stw_alloc HS _ rfl zeroML zeroM ?_
        clear HS
        intro W b12 HS
        refine hK _ _ (InC.mk ⟨HS.out.blk 4 rfl, HS.out.blk 3 rfl⟩) ?_
        clear hK K
        (try simp only [Act.put, List.setIfInBounds_toArray, List.set_cons_zero, List.set_cons_succ])
        refine tree_step [3] (by decide +kernel) rfl (in_one ?_)
        refine tree_op rfl rfl fun K hK => ?_
        go_big_op
        refine (HCM.out _ HS.out.below).mono ?_
        (rintro e Wq ⟨A2, rfl, hO, hb⟩; have HSq := hide (HS.out.push hb (machI (fun k => _) A2 _) (machI_loc _ _ _) hO fun k hk => hk); generalize (fun k => _) = DA at HSq; clear HS hb hO; replace HS := HSq; clear HSq)
        refine hK _ _ (InC.mk ⟨HS.out.blk 5 rfl, HS.out.blk 4 rfl⟩) ?_
        clear hK K
        (try simp only [Act.put, List.setIfInBounds_toArray, List.set_cons_zero, List.set_cons_succ])
        refine tree_step [6] (by decide +kernel) rfl (in_one ?_)
        refine tree_op rfl rfl fun K hK => ?_
        refine stw_storeA HS 2 rfl _ _ _ rfl rfl (scrL B2 S) rfl rfl (by kernel_rfl) rfl ?_
        clear HS
        intro W HS
        refine hK _ _ (InC.mk ⟨HS.out.blk 5 rfl, HS.out.blk 4 rfl⟩) ?_
        clear hK K
        (try simp only [Act.put, List.setIfInBounds_toArray, List.set_cons_zero, List.set_cons_succ])
        refine tree_step [7] (by decide +kernel) rfl (in_one ?_)
        refine tree_op rfl rfl fun K hK => ?_
        refine stw_storeA HS 1 rfl _ _ _ rfl rfl (machL A2 M) rfl rfl (by kernel_rfl) rfl ?_
        clear HS
        intro W HS
        refine hK _ _ (InC.mk ⟨HS.out.blk 5 rfl, HS.out.blk 4 rfl⟩) ?_
        clear hK K
        (try simp only [Act.put, List.setIfInBounds_toArray, List.set_cons_zero, List.set_cons_succ])
        refine tree_end (by decide +kernel) ?_
        refine NoPanic.normal ?_
        exact hE _ _ _ _ _ _ _ _ _ _ _ (hide (HS.out.sel [2, 1, 3, 0, 4, 5] (by decide) rfl))
    · refine tree_op rfl rfl fun K hK => ?_
      refine stw_alloc HS _ rfl zeroML zeroM ?_
      clear HS
      intro W b12 HS
      refine hK _ _ (InC.mk ⟨HS.out.blk 3 rfl, HS.out.blk 2 rfl⟩) ?_
      clear hK K
      (try simp only [Act.put, List.setIfInBounds_toArray, List.set_cons_zero, List.set_cons_succ])
      refine tree_step [3, 4] (by decide +kernel) rfl (in_two ?_ ?_)
      · refine tree_op rfl rfl fun K hK => ?_
        go_big_op
        refine (HCM.out _ HS.out.below).mono ?_
        (rintro e Wq ⟨A2, rfl, hO, hb⟩; have HSq := hide (HS.out.push hb (machI (fun k => _) A2 _) (machI_loc _ _ _) hO fun k hk => hk); generalize (fun k => _) = DA at HSq; clear HS hb hO; replace HS := HSq; clear HSq)
        refine hK _ _ (InC.mk ⟨HS.out.blk 4 rfl, HS.out.blk 3 rfl⟩) ?_
        clear hK K
        (try simp only [Act.put, List.setIfInBounds_toArray, List.set_cons_zero, List.set_cons_succ])
        refine tree_step [4] (by decide +kernel) rfl (in_one ?_)
        refine tree_op rfl rfl fun K hK => ?_
        refine stw_alloc HS _ rfl zeroScrL zeroScr ?_
        clear HS
        intro W b11 HS
        refine hK _ _ (InC.mk ⟨HS.out.blk 5 rfl, HS.out.blk 4 rfl⟩) ?_
        clear hK K
        (try simp only [Act.put, List.setIfInBounds_toArray, List.set_cons_zero, List.set_cons_succ])
        refine tree_step [6] (by decide +kernel) rfl (in_one ?_)
        refine tree_op rfl rfl fun K hK => ?_
        refine stw_storeA HS 0 rfl _ _ _ rfl rfl (scrL B2 S) rfl rfl (by kernel_rfl) rfl ?_
        clear HS
        intro W HS
        refine hK _ _ (InC.mk ⟨HS.out.blk 5 rfl, HS.out.blk 4 rfl⟩) ?_
        clear hK K
        (try simp only [Act.put, List.setIfInBounds_toArray, List.set_cons_zero, List.set_cons_succ])
        refine tree_step [7] (by decide +kernel) rfl (in_one ?_)
        refine tree_op rfl rfl fun K hK => ?_
        refine stw_storeA HS 2 rfl _ _ _ rfl rfl (machL A2 M) rfl rfl (by kernel_rfl) rfl ?_
        clear HS
        intro W HS
        refine hK _ _ (InC.mk ⟨HS.out.blk 5 rfl, HS.out.blk 4 rfl⟩) ?_
        clear hK K
        (try simp only [Act.put, List.setIfInBounds_toArray, List.set_cons_zero, List.set_cons_succ])
        refine tree_end (by decide +kernel) ?_
        refine NoPanic.normal ?_
        exact hE _ _ _ _ _ _ _ _ _ _ _ (hide (HS.out.sel [0, 2, 3, 1, 4, 5] (by decide) rfl))
      · refine tree_op rfl rfl fun K hK => ?_
        refine stw_alloc HS _ rfl zeroScrL zeroScr ?_
        clear HS
        intro W b11 HS
        refine hK _ _ (InC.mk ⟨HS.out.blk 4 rfl, HS.out.blk 3 rfl⟩) ?_
        clear hK K
        (try simp only [Act.put, List.setIfInBounds_toArray, List.set_cons_zero, List.set_cons_succ])
        refine tree_step [3] (by decide +kernel) rfl (in_one ?_)
        refine tree_op rfl rfl fun K hK => ?_
        go_big_op
        refine (HCM.out _ HS.out.below).mono ?_
        (rintro e Wq ⟨A2, rfl, hO, hb⟩; have HSq := hide (HS.out.push hb (machI (fun k => _) A2 _) (machI_loc _ _ _) hO fun k hk => hk); generalize (fun k => _) = DA at HSq; clear HS hb hO; replace HS := HSq; clear HSq)
        refine hK _ _ (InC.mk ⟨HS.out.blk 5 rfl, HS.out.blk 4 rfl⟩) ?_
        clear hK K
        (try simp only [Act.put, List.setIfInBounds_toArray, List.set_cons_zero, List.set_cons_succ])
        refine tree_step [6] (by decide +kernel) rfl (in_one ?_)
        refine tree_op rfl rfl fun K hK => ?_
        refine stw_storeA HS 1 rfl _ _ _ rfl rfl (scrL B2 S) rfl rfl (by kernel_rfl) rfl ?_
        clear HS
        intro W HS
        refine hK _ _ (InC.mk ⟨HS.out.blk 5 rfl, HS.out.blk 4 rfl⟩) ?_
        clear hK K
        (try simp only [Act.put, List.setIfInBounds_toArray, List.set_cons_zero, List.set_cons_succ])
        refine tree_step [7] (by decide +kernel) rfl (in_one ?_)
        refine tree_op rfl rfl fun K hK => ?_
        refine stw_storeA HS 2 rfl _ _ _ rfl rfl (machL A2 M) rfl rfl (by kernel_rfl) rfl ?_
        clear HS
        intro W HS
        refine hK _ _ (InC.mk ⟨HS.out.blk 5 rfl, HS.out.blk 4 rfl⟩) ?_
        clear hK K
        (try simp only [Act.put, List.setIfInBounds_toArray, List.set_cons_zero, List.set_cons_succ])
        refine tree_end (by decide +kernel) ?_
        refine NoPanic.normal ?_
        exact hE _ _ _ _ _ _ _ _ _ _ _ (hide (HS.out.sel [1, 2, 3, 0, 4, 5] (by decide) rfl))
  · refine tree_op rfl rfl fun K hK => ?_
    refine stw_alloc HS _ rfl zeroScrL zeroScr ?_
    clear HS
    intro W b11 HS
    refine hK _ _ (InC.mk ⟨HS.out.blk 2 rfl, HS.out.blk 1 rfl⟩) ?_
    clear hK K
    (try simp only [Act.put, List.setIfInBounds_toArray, List.set_cons_zero, List.set_cons_succ])
    refine tree_step [1, 5] (by decide +kernel) rfl (in_two ?_ ?_)
    · refine tree_op rfl rfl fun K hK => ?_
      go_big_op
      refine (HCS.out _ HS.out.below).mono ?_
      rintro e Wq ⟨B2, rfl, hO, hb⟩
      have HSq := hide (HS.out.push hb (scrI (fun k => _) B2 _) (scrI_loc _ _ _) hO fun k hk => hk)
      generalize (fun k => _) = DS at HSq
      clear HS hb hO
      replace HS := HSq
      clear HSq
      refine hK _ _ (InC.mk ⟨HS.out.blk 3 rfl, HS.out.blk 2 rfl⟩) ?_
      clear hK K
      (try simp only [Act.put, List.setIfInBounds_toArray, List.set_cons_zero, List.set_cons_succ])
      refine tree_step [3, 5] (by decide +kernel) rfl (in_two ?_ ?_)
      · refine tree_op rfl rfl fun K hK => ?_
        go_big_op
        refine (HCM.out _ HS.out.below).mono ?_
        (rintro e Wq ⟨A2, rfl, hO, hb⟩; have HSq := hide (HS.out.push hb (machI (fun k => _) A2 _) (machI_loc _ _ _) hO fun k hk => hk); generalize (fun k => _) = DA at HSq; clear HS hb hO; replace HS := HSq; clear HSq)
        refine hK _ _ (InC.mk ⟨HS.out.blk 4 rfl, HS.out.blk 3 rfl⟩) ?_
        clear hK K
        (try simp only [Act.put, List.setIfInBounds_toArray, List.set_cons_zero, List.set_cons_succ])
        refine tree_step [5] (by decide +kernel) rfl (in_one ?_)
        refine tree_op rfl rfl fun K hK => ?_
        refine stw_alloc HS _ rfl zeroML zeroM ?_
        clear HS
        intro W b12 HS
        refine hK _ _ (InC.mk ⟨HS.out.blk 5 rfl, HS.out.blk 4 rfl⟩) ?_
        clear hK K
        (try simp only [Act.put, List.setIfInBounds_toArray, List.set_cons_zero, List.set_cons_succ])
        refine tree_step [6] (by decide +kernel) rfl (in_one ?_)
        refine tree_op rfl rfl fun K hK => ?_
        refine stw_storeA HS 3 rfl _ _ _ rfl rfl (scrL B2 S) rfl rfl (by kernel_rfl) rfl ?_
        clear HS
        intro W HS
        refine hK _ _ (InC.mk ⟨HS.out.blk 5 rfl, HS.out.blk 4 rfl⟩) ?_
        clear hK K
        (try simp only [Act.put, List.setIfInBounds_toArray, List.set_cons_zero, List.set_cons_succ])
        refine tree_step [7] (by decide +kernel) rfl (in_one ?_)
        refine tree_op rfl rfl fun K hK => ?_
        refine stw_storeA HS 0 rfl _ _ _ rfl rfl (machL A2 M) rfl rfl (by kernel_rfl) rfl ?_
        clear HS
        intro W HS
        refine hK _ _ (InC.mk ⟨HS.out.blk 5 rfl, HS.out.blk 4 rfl⟩) ?_
        clear hK K
        (try simp only [Act.put, List.setIfInBounds_toArray, List.set_cons_zero, List.set_cons_succ])
        refine tree_end (by decide +kernel) ?_
        refine NoPanic.normal ?_
        exact hE _ _ _ _ _ _ _ _ _ _ _ (hide (HS.out.sel [3, 0, 2, 1, 4, 5] (by decide) rfl))
      · refine tree_op rfl rfl fun K hK => ?_
        refine stw_alloc HS _ rfl zeroML zeroM ?_
        clear HS
        intro W b12 HS
        refine hK _ _ (InC.mk ⟨HS.out.blk 4 rfl, HS.out.blk 3 rfl⟩) ?_
        clear hK K
        (try simp only [Act.put, List.setIfInBounds_toArray, List.set_cons_zero, List.set_cons_succ])
        refine tree_step [3] (by decide +kernel) rfl (in_one ?_)
        refine tree_op rfl rfl fun K hK => ?_
        go_big_op
        refine (HCM.out _ HS.out.below).mono ?_
        (rintro e Wq ⟨A2, rfl, hO, hb⟩; have HSq := hide (HS.out.push hb (machI (fun k => _) A2 _) (machI_loc _ _ _) hO fun k hk => hk); generalize (fun k => _) = DA at HSq; clear HS hb hO; replace HS := HSq; clear HSq)
        refine hK _ _ (InC.mk ⟨HS.out.blk 5 rfl, HS.out.blk 4 rfl⟩) ?_
        clear hK K
        (try simp only [Act.put, List.setIfInBounds_toArray, List.set_cons_zero, List.set_cons_succ])
        refine tree_step [6] (by decide +kernel) rfl (in_one ?_)
        refine tree_op rfl rfl fun K hK => ?_
        refine stw_storeA HS 3 rfl _ _ _ rfl rfl (scrL B2 S) rfl rfl (by kernel_rfl) rfl ?_
        clear HS
        intro W HS
        refine hK _ _ (InC.mk ⟨HS.out.blk 5 rfl, HS.out.blk 4 rfl⟩) ?_
        clear hK K
        (try simp only [Act.put, List.setIfInBounds_toArray, List.set_cons_zero, List.set_cons_succ])
        refine tree_step [7] (by decide +kernel) rfl (in_one ?_)
        refine tree_op rfl rfl fun K hK => ?_
        refine stw_storeA HS 1 rfl _ _ _ rfl rfl (machL A2 M) rfl rfl (by kernel_rfl) rfl ?_
        clear HS
        intro W HS
        refine hK _ _ (InC.mk ⟨HS.out.blk 5 rfl, HS.out.blk 4 rfl⟩) ?_
        clear hK K
        (try simp only [Act.put, List.setIfInBounds_toArray, List.set_cons_zero, List.set_cons_succ])
        refine tree_end (by decide +kernel) ?_
        refine NoPanic.normal ?_
        exact hE _ _ _ _ _ _ _ _ _ _ _ (hide (HS.out.sel [3, 1, 2, 0, 4, 5] (by decide) rfl))
    · refine tree_op rfl rfl fun K hK => ?_
      refine stw_alloc HS _ rfl zeroML zeroM ?_
      clear HS
      intro W b12 HS
      refine hK _ _ (InC.mk ⟨HS.out.blk 3 rfl, HS.out.blk 2 rfl⟩) ?_
      clear hK K
      (try simp only [Act.put, List.setIfInBounds_toArray, List.set_cons_zero, List.set_cons_succ])
      refine tree_step [1] (by decide +kernel) rfl (in_one ?_)
      refine tree_op rfl rfl fun K hK => ?_
      go_big_op
      refine (HCS.out _ HS.out.below).mono ?_
      rintro e Wq ⟨B2, rfl, hO, hb⟩
      have HSq := hide (HS.out.push hb (scrI (fun k => _) B2 _) (scrI_loc _ _ _) hO fun k hk => hk)
      generalize (fun k => _) = DS at HSq
      clear HS hb hO
      replace HS := HSq
      clear HSq
      refine hK _ _ (InC.mk ⟨HS.out.blk 4 rfl, HS.out.blk 3 rfl⟩) ?_
      clear hK K
      (try simp only [Act.put, List.setIfInBounds_toArray, List.set_cons_zero, List.set_cons_succ])
      refine tree_step [3] (by decide +kernel) rfl (in_one ?_)
      refine tree_op rfl rfl fun K hK => ?_
      go_big_op
      refine (HCM.out _ HS.out.below).mono ?_
      (rintro e Wq ⟨A2, rfl, hO, hb⟩; have HSq := hide (HS.out.push hb (machI (fun k => _) A2 _) (machI_loc _ _ _) hO fun k hk => hk); generalize (fun k => _) = DA at HSq; clear HS hb hO; replace HS := HSq; clear HSq)
      refine hK _ _ (InC.mk ⟨HS.out.blk 5 rfl, HS.out.blk 4 rfl⟩) ?_
      clear hK K
      (try simp only [Act.put, List.setIfInBounds_toArray, List.set_cons_zero, List.set_cons_succ])
      refine tree_step [6] (by decide +kernel) rfl (in_one ?_)
      refine tree_op rfl rfl fun K hK => ?_
      refine stw_storeA HS 3 rfl _ _ _ rfl rfl (scrL B2 S) rfl rfl (by kernel_rfl) rfl ?_
      clear HS
      intro W HS
      refine hK _ _ (InC.mk ⟨HS.out.blk 5 rfl, HS.out.blk 4 rfl⟩) ?_
      clear hK K
      (try simp only [Act.put, List.setIfInBounds_toArray, List.set_cons_zero, List.set_cons_succ])
      refine tree_step [7] (by decide +kernel) rfl (in_one ?_)
      refine tree_op rfl rfl fun K hK => ?_
      refine stw_storeA HS 2 rfl _ _ _ rfl rfl (machL A2 M) rfl rfl (by kernel_rfl) rfl ?_
      clear HS
      intro W HS
      refine hK _ _ (InC.mk ⟨HS.out.blk 5 rfl, HS.out.blk 4 rfl⟩) ?_
      clear hK K
      (try simp only [Act.put, List.setIfInBounds_toArray, List.set_cons_zero, List.set_cons_succ])
      refine tree_end (by decide +kernel) ?_
      refine NoPanic.normal ?_
      exact hE _ _ _ _ _ _ _ _ _ _ _ (hide (HS.out.sel [3, 2, 1, 0, 4, 5] (by decide) rfl))
  · refine tree_op rfl rfl fun K hK => ?_
    refine stw_alloc HS _ rfl zeroML zeroM ?_
    clear HS
    intro W b12 HS
    refine hK _ _ (InC.mk ⟨HS.out.blk 2 rfl, HS.out.blk 1 rfl⟩) ?_
    clear hK K
    (try simp only [Act.put, List.setIfInBounds_toArray, List.set_cons_zero, List.set_cons_succ])
    refine tree_step [1, 4] (by decide +kernel) rfl (in_two ?_ ?_)
    · refine tree_op rfl rfl fun K hK => ?_
      go_big_op
      refine (HCS.out _ HS.out.below).mono ?_
      rintro e Wq ⟨B2, rfl, hO, hb⟩
      have HSq := hide (HS.out.push hb (scrI (fun k => _) B2 _) (scrI_loc _ _ _) hO fun k hk => hk)
      generalize (fun k => _) = DS at HSq
      clear HS hb hO
      replace HS := HSq
      clear HSq
      refine hK _ _ (InC.mk ⟨HS.out.blk 3 rfl, HS.out.blk 2 rfl⟩) ?_
      clear hK K
      (try simp only [Act.put, List.setIfInBounds_toArray, List.set_cons_zero, List.set_cons_succ])
      refine tree_step [3, 4] (by decide +kernel) rfl (in_two ?_ ?_)
      · refine tree_op rfl rfl fun K hK => ?_
        go_big_op
        refine (HCM.out _ HS.out.below).mono ?_
        (rintro e Wq ⟨A2, rfl, hO, hb⟩; have HSq := hide (HS.out.push hb (machI (fun k => _) A2 _) (machI_loc _ _ _) hO fun k hk => hk); generalize (fun k => _) = DA at HSq; clear HS hb hO; replace HS := HSq; clear HSq)
        refine hK _ _ (InC.mk ⟨HS.out.blk 4 rfl, HS.out.blk 3 rfl⟩) ?_
        clear hK K
        (try simp only [Act.put, List.setIfInBounds_toArray, List.set_cons_zero, List.set_cons_succ])
        refine tree_step [4] (by decide +kernel) rfl (in_one ?_)
        refine tree_op rfl rfl fun K hK => ?_
        refine stw_alloc HS _ rfl zeroScrL zeroScr ?_
        clear HS
        intro W b11 HS
        refine hK _ _ (InC.mk ⟨HS.out.blk 5 rfl, HS.out.blk 4 rfl⟩) ?_
        clear hK K
        (try simp only [Act.put, List.setIfInBounds_toArray, List.set_cons_zero, List.set_cons_succ])
        refine tree_step [6] (by decide +kernel) rfl (in_one ?_)
        refine tree_op rfl rfl fun K hK => ?_
        refine stw_storeA HS 0 rfl _ _ _ rfl rfl (scrL B2 S) rfl rfl (by kernel_rfl) rfl ?_
        clear HS
        intro W HS
        refine hK _ _ (InC.mk ⟨HS.out.blk 5 rfl, HS.out.blk 4 rfl⟩) ?_
        clear hK K
        (try simp only [Act.put, List.setIfInBounds_toArray, List.set_cons_zero, List.set_cons_succ])
        refine tree_step [7] (by decide +kernel) rfl (in_one ?_)
        refine tree_op rfl rfl fun K hK => ?_
        refine stw_storeA HS 3 rfl _ _ _ rfl rfl (machL A2 M) rfl rfl (by kernel_rfl) rfl ?_
        clear HS
        intro W HS
        refine hK _ _ (InC.mk ⟨HS.out.blk 5 rfl, HS.out.blk 4 rfl⟩) ?_
        clear hK K
        (try simp only [Act.put, List.setIfInBounds_toArray, List.set_cons_zero, List.set_cons_succ])
        refine tree_end (by decide +kernel) ?_
        refine NoPanic.normal ?_
        exact hE _ _ _ _ _ _ _ _ _ _ _ (hide (HS.out.sel [0, 3, 2, 1, 4, 5] (by decide) rfl))
      · refine tree_op rfl rfl fun K hK => ?_
        refine stw_alloc HS _ rfl zeroScrL zeroScr ?_
        clear HS
        intro W b11 HS
        refine hK _ _ (InC.mk ⟨HS.out.blk 4 rfl, HS.out.blk 3 rfl⟩) ?_
        clear hK K
        (try simp only [Act.put, List.setIfInBounds_toArray, List.set_cons_zero, List.set_cons_succ])
        refine tree_step [3] (by decide +kernel) rfl (in_one ?_)
        refine tree_op rfl rfl fun K hK => ?_
        go_big_op
        refine (HCM.out _ HS.out.below).mono ?_
        (rintro e Wq ⟨A2, rfl, hO, hb⟩; have HSq := hide (HS.out.push hb (machI (fun k => _) A2 _) (machI_loc _ _ _) hO fun k hk => hk); generalize (fun k => _) = DA at HSq; clear HS hb hO; replace HS := HSq; clear HSq)
        refine hK _ _ (InC.mk ⟨HS.out.blk 5 rfl, HS.out.blk 4 rfl⟩) ?_
        clear hK K
        (try simp only [Act.put, List.setIfInBounds_toArray, List.set_cons_zero, List.set_cons_succ])
        refine tree_step [6] (by decide +kernel) rfl (in_one ?_)
        refine tree_op rfl rfl fun K hK => ?_
        refine stw_storeA HS 1 rfl _ _ _ rfl rfl (scrL B2 S) rfl rfl (by kernel_rfl) rfl ?_
        clear HS
        intro W HS
        refine hK _ _ (InC.mk ⟨HS.out.blk 5 rfl, HS.out.blk 4 rfl⟩) ?_
        clear hK K
        (try simp only [Act.put, List.setIfInBounds_toArray, List.set_cons_zero, List.set_cons_succ])
        refine tree_step [7] (by decide +kernel) rfl (in_one ?_)
        refine tree_op rfl rfl fun K hK => ?_
        refine stw_storeA HS 3 rfl _ _ _ rfl rfl (machL A2 M) rfl rfl (by kernel_rfl) rfl ?_
        clear HS
        intro W HS
        refine hK _ _ (InC.mk ⟨HS.out.blk 5 rfl, HS.out.blk 4 rfl⟩) ?_
        clear hK K
        (try simp only [Act.put, List.setIfInBounds_toArray, List.set_cons_zero, List.set_cons_succ])
        refine tree_end (by decide +kernel) ?_
        refine NoPanic.normal ?_
        exact hE _ _ _ _ _ _ _ _ _ _ _ (hide (HS.out.sel [1, 3, 2, 0, 4, 5] (by decide) rfl))
    · refine tree_op rfl rfl fun K hK => ?_
      refine stw_alloc HS _ rfl zeroScrL zeroScr ?_
      clear HS
      intro W b11 HS
      refine hK _ _ (InC.mk ⟨HS.out.blk 3 rfl, HS.out.blk 2 rfl⟩) ?_
      clear hK K
      (try simp only [Act.put, List.setIfInBounds_toArray, List.set_cons_zero, List.set_cons_succ])
      refine tree_step [1] (by decide +kernel) rfl (in_one ?_)
      refine tree_op rfl rfl fun K hK => ?_
      go_big_op
      refine (HCS.out _ HS.out.below).mono ?_
      rintro e Wq ⟨B2, rfl, hO, hb⟩
      have HSq := hide (HS.out.push hb (scrI (fun k => _) B2 _) (scrI_loc _ _ _) hO fun k hk => hk)
      generalize (fun k => _) = DS at HSq
      clear HS hb hO
      replace HS := HSq
      clear HSq
      refine hK _ _ (InC.mk ⟨HS.out.blk 4 rfl, HS.out.blk 3 rfl⟩) ?_
      clear hK K
      (try simp only [Act.put, List.setIfInBounds_toArray, List.set_cons_zero, List.set_cons_succ])
      refine tree_step [3] (by decide +kernel) rfl (in_one ?_)
      refine tree_op rfl rfl fun K hK => ?_
      go_big_op
      refine (HCM.out _ HS.out.below).mono ?_
      (rintro e Wq ⟨A2, rfl, hO, hb⟩; have HSq := hide (HS.out.push hb (machI (fun k => _) A2 _) (machI_loc _ _ _) hO fun k hk => hk); generalize (fun k => _) = DA at HSq; clear HS hb hO; replace HS := HSq; clear HSq)
      refine hK _ _ (InC.mk ⟨HS.out.blk 5 rfl, HS.out.blk 4 rfl⟩) ?_
      clear hK K
      (try simp only [Act.put, List.setIfInBounds_toArray, List.set_cons_zero, List.set_cons_succ])
      refine tree_step [6] (by decide +kernel) rfl (in_one ?_)
      refine tree_op rfl rfl fun K hK => ?_
      refine stw_storeA HS 2 rfl _ _ _ rfl rfl (scrL B2 S) rfl rfl (by kernel_rfl) rfl ?_
      clear HS
      intro W HS
      refine hK _ _ (InC.mk ⟨HS.out.blk 5 rfl, HS.out.blk 4 rfl⟩) ?_
      clear hK K
      (try simp only [Act.put, List.setIfInBounds_toArray, List.set_cons_zero, List.set_cons_succ])
      refine tree_step [7] (by decide +kernel) rfl (in_one ?_)
      refine tree_op rfl rfl fun K hK => ?_
      refine stw_storeA HS 3 rfl _ _ _ rfl rfl (machL A2 M) rfl rfl (by kernel_rfl) rfl ?_
      clear HS
      intro W HS
      refine hK _ _ (InC.mk ⟨HS.out.blk 5 rfl, HS.out.blk 4 rfl⟩) ?_
      clear hK K
      (try simp only [Act.put, List.setIfInBounds_toArray, List.set_cons_zero, List.set_cons_succ])
      refine tree_end (by decide +kernel) ?_
      refine NoPanic.normal ?_
      exact hE _ _ _ _ _ _ _ _ _ _ _ (hide (HS.out.sel [2, 3, 1, 0, 4, 5] (by decide) rfl))
end Go.Proofs.YtaaenolbfhhnfaaGreat
