/-
  A copy of a script: all its lists lie in memory of their own. (veil/veillaw0.CopyScript)
-/
import Derived.Test.YtaaenolbfhhnfaaGreatZlai
import Derived.Test.YtaaenolbfhhnfaaGreatZlab
import Derived.Test.YtaaenolbfhhnfaaGreatZhMachNewProg
import Derived.Test.YtaaenolbfhhnfaaGreatZlae
namespace Go.Proofs.YtaaenolbfhhnfaaGreat
open Go.RowKit
set_option linter.unusedSimpArgs false
set_option linter.unusedVariables false
theorem Tryz.infoC2 : (Tryz.prog.info? 64).map (fun i => (i.zero, i.size, i.bytes)) = some (some (.agg zeroCL.toArray), 4, 48) := by kernel_rfl
theorem Tryz.infoV : (Tryz.prog.info? 3).map (fun i => (i.zero, i.size, i.bytes)) = some (some (.int .i64 0), 1, 8) := by kernel_rfl
theorem Tryz.infoSlot : (Tryz.prog.info? 161).map (fun i => (i.zero, i.size, i.bytes)) = some (some (.agg #[.int .i64 0, .int .i64 0]), 2, 16) := by kernel_rfl
def zeroScrL : List Value := [.slice none 0 0, .slice none 0 0, .slice none 0 0, .slice none 0 0, .int .i64 0, .slice none 0 0, .slice none 0 0]
theorem zeroScr : ((Tryz.prog.info? 27).bind (·.zero)).map (·.cells) = some zeroScrL.toArray := by kernel_rfl
theorem Tryz.rowScr : (Tryz.prog.underlying 27).any (·.isRow) = true := by kernel_rfl
theorem Tryz.sizeScr : (Tryz.prog.info? 27).map (·.size) = some 7 := by kernel_rfl
set_option maxRecDepth 100000 in
/-- What a function hands back whose one result is a script. -/
theorem ret_scr {fn : Func} {s : Nat} (hf : fn.results = #[.cell s 27]) {tmps : Array Value} {W : World} {b : Nat} {l : List Value} (h : Blk W b l) (hl : l.length = 7) (h2 : tmps.getD s undef = .pointer (some ⟨b, 0, none⟩)) :
    (results fn tmps).run Tryz.prog W = .ok (.agg l.toArray) W := by
  have e : (results fn tmps).run Tryz.prog W = ((asAddr (tmps.getD s undef)).run Tryz.prog W).andThen fun a w₁ => (loadVar 27 a).run Tryz.prog w₁ := by
    simp only [results, hf]
    simp [Sem.run_bind, Result.andThen]
  rw [e, h2]
  show (loadVar 27 ⟨b, 0, none⟩).run Tryz.prog W = _
  cases hd : Tryz.prog.underlying 27 with
  | none => have := Tryz.rowScr; rw [hd] at this; cases this
  | some d =>
    have hr : d.isRow = true := by have := Tryz.rowScr; rw [hd] at this; exact this
    exact run_loadVar_mid W b 0 27 l d h.range hd hr (by rw [hl]; exact Tryz.sizeScr)
theorem fill_c1 (x0 x1 x2 : Int) (p : Value) : Instr.fill (fun i => some (i * 4, 4)) ((Array.range (1 * 4)).map ((Value.agg zeroCL.toArray).cells[· % (Value.agg zeroCL.toArray).cells.size]!)) [(0, .agg #[.int .i64 x0, .int .i64 x1, .int .i64 x2, p])] = some [Value.int .i64 x0, .int .i64 x1, .int .i64 x2, p].toArray := by kernel_rfl
theorem startOf_one (s : Sl) (x : PStart) : ∀ u ∈ startOf s x, u.oneCell' = true := by simp [startOf, Value.oneCell']
/-- A script's copy, as it grows. -/
def outL (v : Nat → Sl) (c : Int) (t o : Sl) : List Value := [.slice (v 0).a (v 0).n (v 0).c, .slice (v 1).a (v 1).n (v 1).c, .slice (v 2).a (v 2).n (v 2).c, .slice (v 3).a (v 3).n (v 3).c, .int .i64 c, .slice t.a t.n t.c, .slice o.a o.n o.c]
set_option maxRecDepth 100000 in
set_option maxHeartbeats 8000000 in
theorem copyScript_any (B : ScrM) (S : PScript) (w : World) (h : ScrIs w B S) :
    Calls Tryz.prog 14 #[scrA B S] w fun e w' => ∃ B', e = .returned (scrA B' S) ∧ ScrOwn (fun k => w.heap.size ≤ k ∧ k < w'.heap.size) w' B' S ∧ Below w.heap.size w w' := by
  have HB := hide h
  have HS := hide (St.refl w)
  have hXL := hide h.starts.len
  have hfit := hide h.starts.fit.1
  have h4 := hide h.four
  clear h
  obtain ⟨V0, hV0⟩ : ∃ V0, V0 = scrA B S := ⟨_, rfl⟩
  rw [← hV0]
  have HV : Hid (V0.cells = (scrL B S).toArray) := by rw [hV0]; rfl
  clear hV0
  go_enter Tryz.func14, Tryz.ntmps14
  go_upto_region 1 with (first | ((with_reducible refine isList ?_); first | (refine st_box HS _ _ rfl rfl (scrL B S) HV.out ?_; clear HS; intro W b1 HS) | (refine st_alloc HS _ rfl rfl zeroScrL zeroScr ?_; clear HS; intro W b2 HS)))
  replace HS : Hid (St w W [blkI b2 zeroScrL, blkI b1 (scrL B S)]) := HS
  have HO : Hid (∀ W, Below w.heap.size w W → SlIs W 2 B.o S.slots) := fun W hb => (HB.out.below hb).slots
  (try simp only [Act.put, List.setIfInBounds_toArray, List.set_cons_zero, List.set_cons_succ])
  refine wp_region_tree [true, true, false, true, true, false, false, false, false] #[true, true, false, true, true, false, false, false, false] 5 (fun w' => Blk w' b1 (scrL B S)) (by kernel_rfl) (by kernel_rfl) (by kernel_rfl) (by decide +kernel) (HS.out.drew.blk 1 rfl) ?_
  intro kne
  simp only [pickAt]
  repeat (first | ((first | (refine wpQuiet_ld _ _ rfl ⟨b1, 4, none⟩ rfl rfl (by decide +kernel) (fun w hC => hC.cell 4 _ rfl) ?_) | (refine wpQuiet_ld _ _ rfl ⟨b1, 6, none⟩ rfl rfl (by decide +kernel) (fun w hC => hC.cell 6 _ rfl) ?_)); simp only [Act.put, List.setIfInBounds_toArray, List.set_cons_zero, List.set_cons_succ]) | go_big_quiet_step (fail))
  refine wpQuiet_nil ?_
  clear kne
  replace HS := hide HS.out.drew
  generalize World.drew _ = Wd at *
  refine tree_step [2, 7] (by decide +kernel) rfl (in_two ?_ ?_)
  case' refine_1 =>
    refine tree_op rfl rfl fun K hK => ?_
    refine stw_lit0 HS _ 161 2 rfl Tryz.underlying25 (by kernel_rfl) ?_
    clear HS
    intro W bl HS
    refine hK _ _ (InC.mk (HS.out.blk 2 rfl)) ?_
    clear hK K
    (try simp only [Act.put, List.setIfInBounds_toArray, List.set_cons_zero, List.set_cons_succ])
    refine tree_step [5, 7] (by decide +kernel) rfl (in_two ?_ ?_)
    case' refine_1 =>
      refine tree_op rfl rfl fun K hK => ?_
      refine stw_copy HS 0 rfl (HO.out _ HS.out.below) _ _ _ rfl _ _ Tryz.underlying25 Tryz.infoSlot rfl (by decide) rfl rfl rfl ?_
      clear HS
      intro W Do so hso HS
      refine hK _ _ (InC.mk (HS.out.blk 2 rfl)) ?_
      clear hK K
      (try simp only [Act.put, List.setIfInBounds_toArray, List.set_cons_zero, List.set_cons_succ])
      refine tree_x 6 (v := .agg #[.slice none 0 0, .slice none 0 0, .slice none 0 0, .slice none 0 0, .int .i64 S.ceil, .slice none 0 0, .slice so.a so.n so.c]) rfl (by kernel_rfl) (by decide +kernel) rfl (fun w => by kernel_rfl) ?_
      (try simp only [Act.put, List.setIfInBounds_toArray, List.set_cons_zero, List.set_cons_succ])
      refine tree_step [7] (by decide +kernel) rfl (in_one ?_)
      refine tree_op rfl rfl fun K hK => ?_
      refine stw_alloc HS _ rfl zeroScrL zeroScr ?_
      clear HS
      intro W b3 HS
      refine hK _ _ (InC.mk (HS.out.blk 3 rfl)) ?_
      clear hK K
      (try simp only [Act.put, List.setIfInBounds_toArray, List.set_cons_zero, List.set_cons_succ])
      refine tree_step [8] (by decide +kernel) rfl (in_one ?_)
      refine tree_op rfl rfl fun K hK => ?_
      refine stw_storeA HS 0 rfl _ _ _ rfl rfl [.slice none 0 0, .slice none 0 0, .slice none 0 0, .slice none 0 0, .int .i64 S.ceil, .slice none 0 0, .slice so.a so.n so.c] rfl rfl (by kernel_rfl) rfl ?_
      clear HS
      intro W HS
      refine hK _ _ (InC.mk (HS.out.blk 3 rfl)) ?_
      clear hK K
      (try simp only [Act.put, List.setIfInBounds_toArray, List.set_cons_zero, List.set_cons_succ])
      refine tree_end (by decide +kernel) ?_
      refine NoPanic.normal ?_
      replace HS : Hid (St w W [blkI b3 (outL (fun _ => noSl) S.ceil noSl so), slI Do 161 2 so S.slots, blkI b2 zeroScrL, blkI b1 (scrL B S)]) := HS
    case' refine_2 =>
      refine tree_op rfl rfl fun K hK => ?_
      refine stw_alloc HS _ rfl zeroScrL zeroScr ?_
      clear HS
      intro W b3 HS
      refine hK _ _ (InC.mk (HS.out.blk 3 rfl)) ?_
      clear hK K
      (try simp only [Act.put, List.setIfInBounds_toArray, List.set_cons_zero, List.set_cons_succ])
      refine tree_step [5] (by decide +kernel) rfl (in_one ?_)
      refine tree_op rfl rfl fun K hK => ?_
      refine stw_copy HS 1 rfl (HO.out _ HS.out.below) _ _ _ rfl _ _ Tryz.underlying25 Tryz.infoSlot rfl (by decide) rfl rfl rfl ?_
      clear HS
      intro W Do so hso HS
      refine hK _ _ (InC.mk (HS.out.blk 3 rfl)) ?_
      clear hK K
      (try simp only [Act.put, List.setIfInBounds_toArray, List.set_cons_zero, List.set_cons_succ])
      refine tree_x 6 (v := .agg #[.slice none 0 0, .slice none 0 0, .slice none 0 0, .slice none 0 0, .int .i64 S.ceil, .slice none 0 0, .slice so.a so.n so.c]) rfl (by kernel_rfl) (by decide +kernel) rfl (fun w => by kernel_rfl) ?_
      (try simp only [Act.put, List.setIfInBounds_toArray, List.set_cons_zero, List.set_cons_succ])
      refine tree_step [8] (by decide +kernel) rfl (in_one ?_)
      refine tree_op rfl rfl fun K hK => ?_
      refine stw_storeA HS 0 rfl _ _ _ rfl rfl [.slice none 0 0, .slice none 0 0, .slice none 0 0, .slice none 0 0, .int .i64 S.ceil, .slice none 0 0, .slice so.a so.n so.c] rfl rfl (by kernel_rfl) rfl ?_
      clear HS
      intro W HS
      refine hK _ _ (InC.mk (HS.out.blk 3 rfl)) ?_
      clear hK K
      (try simp only [Act.put, List.setIfInBounds_toArray, List.set_cons_zero, List.set_cons_succ])
      refine tree_end (by decide +kernel) ?_
      refine NoPanic.normal ?_
      replace HS : Hid (St w W [blkI b3 (outL (fun _ => noSl) S.ceil noSl so), slI Do 161 2 so S.slots, blkI b2 zeroScrL, blkI b1 (scrL B S)]) := HS
  case' refine_2 =>
    refine tree_op rfl rfl fun K hK => ?_
    refine stw_alloc HS _ rfl zeroScrL zeroScr ?_
    clear HS
    intro W b3 HS
    refine hK _ _ (InC.mk (HS.out.blk 2 rfl)) ?_
    clear hK K
    (try simp only [Act.put, List.setIfInBounds_toArray, List.set_cons_zero, List.set_cons_succ])
    refine tree_step [2] (by decide +kernel) rfl (in_one ?_)
    refine tree_op rfl rfl fun K hK => ?_
    refine stw_lit0 HS _ 161 2 rfl Tryz.underlying25 (by kernel_rfl) ?_
    clear HS
    intro W bl HS
    refine hK _ _ (InC.mk (HS.out.blk 3 rfl)) ?_
    clear hK K
    (try simp only [Act.put, List.setIfInBounds_toArray, List.set_cons_zero, List.set_cons_succ])
    refine tree_step [5] (by decide +kernel) rfl (in_one ?_)
    refine tree_op rfl rfl fun K hK => ?_
    refine stw_copy HS 0 rfl (HO.out _ HS.out.below) _ _ _ rfl _ _ Tryz.underlying25 Tryz.infoSlot rfl (by decide) rfl rfl rfl ?_
    clear HS
    intro W Do so hso HS
    refine hK _ _ (InC.mk (HS.out.blk 3 rfl)) ?_
    clear hK K
    (try simp only [Act.put, List.setIfInBounds_toArray, List.set_cons_zero, List.set_cons_succ])
    refine tree_x 6 (v := .agg #[.slice none 0 0, .slice none 0 0, .slice none 0 0, .slice none 0 0, .int .i64 S.ceil, .slice none 0 0, .slice so.a so.n so.c]) rfl (by kernel_rfl) (by decide +kernel) rfl (fun w => by kernel_rfl) ?_
    (try simp only [Act.put, List.setIfInBounds_toArray, List.set_cons_zero, List.set_cons_succ])
    refine tree_step [8] (by decide +kernel) rfl (in_one ?_)
    refine tree_op rfl rfl fun K hK => ?_
    refine stw_storeA HS 1 rfl _ _ _ rfl rfl [.slice none 0 0, .slice none 0 0, .slice none 0 0, .slice none 0 0, .int .i64 S.ceil, .slice none 0 0, .slice so.a so.n so.c] rfl rfl (by kernel_rfl) rfl ?_
    clear HS
    intro W HS
    refine hK _ _ (InC.mk (HS.out.blk 3 rfl)) ?_
    clear hK K
    (try simp only [Act.put, List.setIfInBounds_toArray, List.set_cons_zero, List.set_cons_succ])
    refine tree_end (by decide +kernel) ?_
    refine NoPanic.normal ?_
    replace HS : Hid (St w W [blkI b3 (outL (fun _ => noSl) S.ceil noSl so), slI Do 161 2 so S.slots, blkI b2 zeroScrL, blkI b1 (scrL B S)]) := hide (HS.out.sel [1, 0, 2, 3] (by decide) rfl)
  all_goals
    clear HO hso
    replace HS : Hid (St w W [blkI b3 (outL (fun _ => noSl) S.ceil noSl so), slI Do 161 2 so S.slots, levI (fun _ => False) (fun _ => noSl) S 0, blkI b2 zeroScrL, blkI b1 (scrL B S)]) := hide ((HS.out.push (Below.refl _ W) (levI (fun _ => False) (fun _ => noSl) S 0) (levI_loc _ _ _ _) (fun g hg => absurd hg (Nat.not_lt_zero _)) fun k hk => hk.elim).sel [1, 2, 0, 3, 4] (by decide) rfl)
    go_upto_region 3 with fail
    go_loopw [4] (fun i wr => ∃ (k : Nat) (D : Nat → Prop) (v : Nat → Sl), k ≤ 4 ∧ i = .int .i64 k ∧ Hid (∀ g, k ≤ g → v g = noSl) ∧ Hid (St w wr [blkI b3 (outL v S.ceil noSl so), slI Do 161 2 so S.slots, levI D v S k, blkI b2 zeroScrL, blkI b1 (scrL B S)])) (fun i _ => 4 - (intOf i).toNat)
    case atStart => exact ⟨0, _, _, Nat.zero_le _, rfl, fun _ _ => rfl, HS⟩
    case round =>
      clear HS
      obtain ⟨k, D, v, hk, rfl, hv, HS⟩ := hrel
      by_cases hlt : k < 4
      · have i1 : (k : Int) < 4 := by omega
        have HL : Hid (∀ W, Below w.heap.size w W → SlIs W 1 (B.v k) (S.lv k)) := fun W hb => (HB.out.below hb).vals k hlt
        have hk4 : k = 0 ∨ k = 1 ∨ k = 2 ∨ k = 3 := by omega
        rcases hk4 with rfl | rfl | rfl | rfl
        · go_upto_region 4 with (first | ((with_reducible refine isList ?_); first | (refine st_lit0 HS _ 3 1 rfl rfl Tryz.underlying22 (by kernel_rfl) ?_; clear HS; intro W bl HS) | (refine st_load1 HS 5 rfl _ _ rfl _ rfl rfl (by decide +kernel) rfl ?_) | (refine st_copy HS 0 rfl (HL.out _ HS.out.below) rfl _ _ _ rfl _ _ Tryz.underlying22 Tryz.infoV rfl (by decide) rfl rfl rfl ?_; clear HS; intro W D2 s2 hs2 HS) | (refine st_store1 HS 1 rfl _ _ _ rfl _ rfl rfl rfl (by decide +kernel) rfl rfl ?_; clear HS; intro W HS)))
          replace HS : Hid (St w W [blkI b3 (outL (updSl v 0 s2) S.ceil noSl so), slI Do 161 2 so S.slots, levI (fun b => D b ∨ D2 b) (updSl v 0 s2) S 1, blkI b2 zeroScrL, blkI b1 (scrL B S)]) := hide ((HS.out.levMore 3 0 rfl rfl (by decide)).sel [1, 2, 3, 4, 5] (by decide) rfl)
          have hv2 : Hid (∀ g, 1 ≤ g → updSl v 0 s2 g = noSl) := fun g hg => by unfold updSl; rw [if_neg (by omega)]; exact hv.out g (by omega)
          clear HL hs2
          go_wp2
          go_roundw
          case rel =>
            first
              | exact ⟨1, _, updSl v 0 s2, by decide, by go_num, hv2, HS⟩
              | (repeat apply Exists.intro
                 exact ⟨⟨1, _, updSl v 0 s2, by decide, by go_num, hv2, HS⟩, rfl⟩)
          case measure => simp [intOf]
        · go_upto_region 4 with (first | ((with_reducible refine isList ?_); first | (refine st_lit0 HS _ 3 1 rfl rfl Tryz.underlying22 (by kernel_rfl) ?_; clear HS; intro W bl HS) | (refine st_load1 HS 5 rfl _ _ rfl _ rfl rfl (by decide +kernel) rfl ?_) | (refine st_copy HS 0 rfl (HL.out _ HS.out.below) rfl _ _ _ rfl _ _ Tryz.underlying22 Tryz.infoV rfl (by decide) rfl rfl rfl ?_; clear HS; intro W D2 s2 hs2 HS) | (refine st_store1 HS 1 rfl _ _ _ rfl _ rfl rfl rfl (by decide +kernel) rfl rfl ?_; clear HS; intro W HS)))
          replace HS : Hid (St w W [blkI b3 (outL (updSl v 1 s2) S.ceil noSl so), slI Do 161 2 so S.slots, levI (fun b => D b ∨ D2 b) (updSl v 1 s2) S 2, blkI b2 zeroScrL, blkI b1 (scrL B S)]) := hide ((HS.out.levMore 3 0 rfl rfl (by decide)).sel [1, 2, 3, 4, 5] (by decide) rfl)
          have hv2 : Hid (∀ g, 2 ≤ g → updSl v 1 s2 g = noSl) := fun g hg => by unfold updSl; rw [if_neg (by omega)]; exact hv.out g (by omega)
          clear HL hs2
          go_wp2
          go_roundw
          case rel =>
            first
              | exact ⟨2, _, updSl v 1 s2, by decide, by go_num, hv2, HS⟩
              | (repeat apply Exists.intro
                 exact ⟨⟨2, _, updSl v 1 s2, by decide, by go_num, hv2, HS⟩, rfl⟩)
          case measure => simp [intOf]
        · go_upto_region 4 with (first | ((with_reducible refine isList ?_); first | (refine st_lit0 HS _ 3 1 rfl rfl Tryz.underlying22 (by kernel_rfl) ?_; clear HS; intro W bl HS) | (refine st_load1 HS 5 rfl _ _ rfl _ rfl rfl (by decide +kernel) rfl ?_) | (refine st_copy HS 0 rfl (HL.out _ HS.out.below) rfl _ _ _ rfl _ _ Tryz.underlying22 Tryz.infoV rfl (by decide) rfl rfl rfl ?_; clear HS; intro W D2 s2 hs2 HS) | (refine st_store1 HS 1 rfl _ _ _ rfl _ rfl rfl rfl (by decide +kernel) rfl rfl ?_; clear HS; intro W HS)))
          replace HS : Hid (St w W [blkI b3 (outL (updSl v 2 s2) S.ceil noSl so), slI Do 161 2 so S.slots, levI (fun b => D b ∨ D2 b) (updSl v 2 s2) S 3, blkI b2 zeroScrL, blkI b1 (scrL B S)]) := hide ((HS.out.levMore 3 0 rfl rfl (by decide)).sel [1, 2, 3, 4, 5] (by decide) rfl)
          have hv2 : Hid (∀ g, 3 ≤ g → updSl v 2 s2 g = noSl) := fun g hg => by unfold updSl; rw [if_neg (by omega)]; exact hv.out g (by omega)
          clear HL hs2
          go_wp2
          go_roundw
          case rel =>
            first
              | exact ⟨3, _, updSl v 2 s2, by decide, by go_num, hv2, HS⟩
              | (repeat apply Exists.intro
                 exact ⟨⟨3, _, updSl v 2 s2, by decide, by go_num, hv2, HS⟩, rfl⟩)
          case measure => simp [intOf]
        · go_upto_region 4 with (first | ((with_reducible refine isList ?_); first | (refine st_lit0 HS _ 3 1 rfl rfl Tryz.underlying22 (by kernel_rfl) ?_; clear HS; intro W bl HS) | (refine st_load1 HS 5 rfl _ _ rfl _ rfl rfl (by decide +kernel) rfl ?_) | (refine st_copy HS 0 rfl (HL.out _ HS.out.below) rfl _ _ _ rfl _ _ Tryz.underlying22 Tryz.infoV rfl (by decide) rfl rfl rfl ?_; clear HS; intro W D2 s2 hs2 HS) | (refine st_store1 HS 1 rfl _ _ _ rfl _ rfl rfl rfl (by decide +kernel) rfl rfl ?_; clear HS; intro W HS)))
          replace HS : Hid (St w W [blkI b3 (outL (updSl v 3 s2) S.ceil noSl so), slI Do 161 2 so S.slots, levI (fun b => D b ∨ D2 b) (updSl v 3 s2) S 4, blkI b2 zeroScrL, blkI b1 (scrL B S)]) := hide ((HS.out.levMore 3 0 rfl rfl (by decide)).sel [1, 2, 3, 4, 5] (by decide) rfl)
          have hv2 : Hid (∀ g, 4 ≤ g → updSl v 3 s2 g = noSl) := fun g hg => by unfold updSl; rw [if_neg (by omega)]; exact hv.out g (by omega)
          clear HL hs2
          go_wp2
          go_roundw
          case rel =>
            first
              | exact ⟨4, _, updSl v 3 s2, by decide, by go_num, hv2, HS⟩
              | (repeat apply Exists.intro
                 exact ⟨⟨4, _, updSl v 3 s2, by decide, by go_num, hv2, HS⟩, rfl⟩)
          case measure => simp [intOf]
      · obtain rfl : k = 4 := by omega
        clear hv
        replace HS : Hid (St w wr [blkI b3 (outL v S.ceil noSl so), slI Do 161 2 so S.slots, levI D v S 4, ownR (fun _ => False) 64 4 noSl (staC (fun _ => noSl) S 0), prgI (fun _ => False) (fun _ => noSl) S 0, blkI b2 zeroScrL, blkI b1 (scrL B S)]) := hide (((HS.out.push (Below.refl _ wr) (prgI (fun _ => False) (fun _ => noSl) S 0) (prgI_loc _ _ _ _) (fun g hg => absurd hg (Nat.not_lt_zero _)) fun k hk => hk.elim).push (Below.refl _ wr) (ownR (fun _ => False) 64 4 noSl (staC (fun _ => noSl) S 0)) (ownR_loc _ _ _ _ _) ⟨World.ownsRow_nil _ _ _ _, fun g hg => by simp [Value.ownBlock, Sl.v, noSl] at hg⟩ fun k hk => hk.elim).sel [2, 3, 4, 0, 1, 5, 6] (by decide) rfl)
        go_upto_region 7 with fail
        go_loopw [5] (fun i wr => ∃ (k : Nat) (Dt Dp : Nat → Prop) (t : Sl) (p : Nat → Sl), k ≤ B.t.n ∧ i = .int .i64 k ∧ Hid (t.n = k) ∧ Hid (St w wr [blkI b3 (outL v S.ceil t so), slI Do 161 2 so S.slots, levI D v S 4, ownR Dt 64 4 t (staC p S k), prgI Dp p S k, blkI b2 zeroScrL, blkI b1 (scrL B S)])) (fun i _ => B.t.n - (intOf i).toNat)
        case atStart => exact ⟨0, _, _, noSl, _, Nat.zero_le _, rfl, rfl, HS⟩
        case round =>
          clear HS
          obtain ⟨k, Dt, Dp, t, p, hk, rfl, htn, HS⟩ := hrel
          by_cases hlt : k < B.t.n
          · have i1 : (k : Int) < (B.t.n : Int) := by omega
            have i2 : (B.t.n : Int) ≤ 140737488351232 := by have := hfit.out; omega
            have i3 : B.t.n ≤ 1152921504606846976 := by omega
            obtain ⟨bs, off, hbs, _, hr⟩ := (HB.out.below HS.out.below).starts.range hlt
            replace hr : Hid (wr.rangeAt bs (off + k * 4) (startOf (B.p k) (S.at k))) := hide hr
            have HP : Hid (∀ W, Below w.heap.size w W → SlIs W 4 (B.p k) (S.at k).prog) := fun W hb => ((HB.out.below hb).starts.each k hlt).2
            have m1 : t.n + 1 ≤ maxLen := by have := hfit.out; have := htn.out; unfold maxLen; omega
            have m2 : (t.n + 1) * 48 ≤ 140737488355328 := by have := hfit.out; have := htn.out; omega
            replace m1 := hide m1
            replace m2 := hide m2
            go_upto_region 10 with (first | ((with_reducible refine isList ?_); first | (refine st_load1 HS 6 rfl _ _ rfl _ rfl rfl (by decide +kernel) rfl ?_) | (refine wpList_load_at _ _ rfl rfl bs (off + k * 4) rfl (startOf (B.p k) (S.at k)) (by decide +kernel) (by kernel_rfl) hr.out ?_) | (refine st_alloc HS _ rfl rfl zeroCL zeroC ?_; clear HS; intro W b6 HS) | (refine st_storeA HS 0 rfl _ _ _ rfl rfl rfl _ rfl rfl (by kernel_rfl) rfl ?_; clear HS; intro W HS)))
            replace HS : Hid (St w W [blkI b6 (startOf (B.p k) (S.at k)), blkI b3 (outL v S.ceil t so), slI Do 161 2 so S.slots, levI D v S 4, ownR Dt 64 4 t (staC p S k), prgI Dp p S k, blkI b2 zeroScrL, blkI b1 (scrL B S)]) := HS
            clear hr hbs
            go_upto_region 11 with (first | ((with_reducible refine isList ?_); first | (refine st_lit0 HS _ 62 4 rfl rfl Tryz.underlying55 (by kernel_rfl) ?_; clear HS; intro W bl HS) | (refine st_load1 HS 1 rfl _ _ rfl _ rfl rfl (by decide +kernel) rfl ?_) | (refine st_copy HS 0 rfl (HP.out _ HS.out.below) rfl _ _ _ rfl _ _ Tryz.underlying55 Tryz.infoInst rfl (by decide) rfl rfl rfl ?_; clear HS; intro W D2 q hq HS) | (refine st_store1 HS 1 rfl _ _ _ rfl _ rfl rfl rfl (by decide +kernel) rfl rfl ?_; clear HS; intro W HS)))
            replace HS : Hid (St w W [slI D2 62 4 q (S.at k).prog, blkI b6 (startOf q (S.at k)), blkI b3 (outL v S.ceil t so), slI Do 161 2 so S.slots, levI D v S 4, ownR Dt 64 4 t (staC p S k), prgI Dp p S k, blkI b2 zeroScrL, blkI b1 (scrL B S)]) := HS
            go_upto_region 8 with (first | ((with_reducible refine isList ?_); first | (refine st_load1 HS 2 rfl _ _ rfl _ rfl rfl (by decide +kernel) rfl ?_) | (refine st_loadA HS 1 rfl _ _ rfl rfl rfl (by decide +kernel) (by kernel_rfl) ?_) | (refine st_litB HS _ 64 1 _ rfl rfl Tryz.underlying24 Tryz.infoC2 (by decide) (by decide) [(0, .agg (startOf q (S.at k)).toArray)] rfl (startOf q (S.at k)) (fill_c1 _ _ _ _) ?_; clear HS; intro W bc HS) | (refine st_appR HS 6 0 (m := 1) rfl rfl (by decide) m1.out rfl (startOf_one _ _) rfl _ _ _ rfl Tryz.underlying24 Tryz.infoC2 rfl (by decide) m2.out rfl rfl ?_; clear HS; intro W D5 g5 cap HS) | (refine st_store1 HS 3 rfl _ _ _ rfl _ rfl rfl rfl (by decide +kernel) rfl rfl ?_; clear HS; intro W HS)))
            replace HS : Hid (St w W [blkI b3 (outL v S.ceil ⟨some ⟨g5, 0, none⟩, t.n + 1, cap⟩ so), slI Do 161 2 so S.slots, levI D v S 4, ownR D5 64 4 ⟨some ⟨g5, 0, none⟩, t.n + 1, cap⟩ (staC p S k ++ startOf q (S.at k)), prgI (fun b => Dp b ∨ D2 b) (updSl p k q) S (k + 1), blkI b2 zeroScrL, blkI b1 (scrL B S)]) := hide ((HS.out.prgMore 7 1 rfl rfl (by decide)).sel [3, 4, 5, 6, 7, 8, 9] (by decide) rfl)
            rw [staC_more] at HS
            have htn2 : Hid ((⟨some ⟨g5, 0, none⟩, t.n + 1, cap⟩ : Sl).n = k + 1) := by show t.n + 1 = _; rw [htn.out]
            clear HP m1 m2 hq
            go_wp2
            go_roundw
            case rel =>
              exact ⟨k + 1, _, _, ⟨some ⟨g5, 0, none⟩, t.n + 1, cap⟩, updSl p k q, by omega, by go_num, htn2, HS⟩
            case measure => simp [intOf]; omega
          · have hkn : k = B.t.n := by omega
            go_wp2_with (first | ((with_reducible refine isList ?_); first | (refine st_load1 HS 6 rfl _ _ rfl _ rfl rfl (by decide +kernel) rfl ?_) | (refine st_loadA HS 0 rfl _ _ rfl rfl rfl (by decide +kernel) (by kernel_rfl) ?_) | (refine st_storeA HS 5 rfl _ _ _ rfl rfl rfl _ rfl rfl (by kernel_rfl) rfl ?_; clear HS; intro W HS)))
            refine bodyPost_ret (ret_scr Tryz.results14 (HS.out.blk 5 rfl) rfl rfl) rfl ⟨⟨v, t, p, so⟩, rfl, ?_, HS.out.below⟩
            have ek : k = t.n := htn.out.symm
            rw [ek] at HS
            exact scrOwn_of HS.out 2 3 4 1 h4.out (fun i hi => ((HB.out).starts.each i (by have := hXL.out; omega)).1) (by have := hfit.out; omega) (by have := hXL.out; omega) rfl rfl rfl rfl
end Go.Proofs.YtaaenolbfhhnfaaGreat
