/-
  Several small texts in one: LCopySess, LCopyMach.
-/
import Derived.Test.YtnjognmnbpcaaaaGreatZlag
import Derived.Test.YtnjognmnbpcaaaaGreatZlac
import Derived.Test.YtnjognmnbpcaaaaGreatZlad
namespace Go.Proofs.YtnjognmnbpcaaaaGreat
open Go.RowKit
set_option linter.unusedSimpArgs false
set_option linter.unusedVariables false
set_option maxRecDepth 100000 in
set_option maxHeartbeats 4000000 in
theorem copySession_any (q : SesM) (x : PSess) (w : World) (h : SessIs w q x) :
    Calls Tryz.prog 18 #[.agg (sessOf q x).toArray] w fun e w' => ∃ q', e = .returned (.agg (sessOf q' x).toArray) ∧ SesOwn (fun k => w.heap.size ≤ k ∧ k < w'.heap.size) w' q' x ∧ Below w.heap.size w w' := by
  have HP := hide h.2.1
  have HR := hide h.2.2.1
  have HT := hide h.2.2.2
  have HN := hide h.1
  have HS := hide (St.refl w)
  clear h
  unfold sessOf sessL
  go_enter Tryz.func18, Tryz.ntmps18
  go_upto_region 2 with (first | ((with_reducible refine isList ?_); first | (refine st_box HS _ _ rfl rfl _ rfl ?_; clear HS; intro W b HS) | (refine st_alloc HS _ rfl rfl zeroSL zeroS ?_; clear HS; intro W b HS) | (refine st_lit0 HS _ 47 4 rfl rfl Tryz.underlying40 (by kernel_rfl) ?_; clear HS; intro W b HS) | (refine st_load1 HS 2 rfl _ _ rfl _ rfl rfl (by decide +kernel) rfl ?_) | (refine st_store1 HS 2 rfl _ _ _ rfl _ rfl rfl rfl (by decide +kernel) rfl rfl ?_; clear HS; intro W HS) | (refine st_copy HS 0 rfl (HP.out.below HS.out.below) rfl _ _ _ rfl _ _ Tryz.underlying40 Tryz.infoInst rfl (by decide) rfl rfl rfl ?_; clear HS; intro W Dp sp hp HS)))
  go_upto_region 3 with (first | ((with_reducible refine isList ?_); first | (refine st_lit0 HS _ 82 3 rfl rfl Tryz.underlying41 (by kernel_rfl) ?_; clear HS; intro W b HS) | (refine st_load1 HS 3 rfl _ _ rfl _ rfl rfl (by decide +kernel) rfl ?_) | (refine st_store1 HS 3 rfl _ _ _ rfl _ rfl rfl rfl (by decide +kernel) rfl rfl ?_; clear HS; intro W HS) | (refine st_copy HS 0 rfl (HR.out.below HS.out.below) rfl _ _ _ rfl _ _ Tryz.underlying41 Tryz.infoRead rfl (by decide) rfl rfl rfl ?_; clear HS; intro W Dr sr hr HS)))
  go_wp2_with (first | ((with_reducible refine isList ?_); first | (refine st_lit0 HS _ 85 3 rfl rfl Tryz.underlying42 (by kernel_rfl) ?_; clear HS; intro W b HS) | (refine st_load1 HS 4 rfl _ _ rfl _ rfl rfl (by decide +kernel) rfl ?_) | (refine st_store1 HS 4 rfl _ _ _ rfl _ rfl rfl rfl (by decide +kernel) rfl rfl ?_; clear HS; intro W HS) | (refine st_loadA HS 4 rfl _ _ rfl rfl rfl (by decide +kernel) (by kernel_rfl) ?_) | (refine st_storeA HS 3 rfl _ _ _ rfl rfl rfl _ rfl rfl (by kernel_rfl) rfl ?_; clear HS; intro W HS) | (refine st_copy HS 0 rfl (HT.out.below HS.out.below) rfl _ _ _ rfl _ _ Tryz.underlying42 Tryz.infoWrite rfl (by decide) rfl rfl rfl ?_; clear HS; intro W Dt st ht HS)))
  refine bodyPost_ret (ret_ses Tryz.results18 (HS.out.blk 3 rfl) rfl rfl) rfl ⟨⟨sp, sr, st⟩, rfl, ?_, HS.out.below⟩
  obtain ⟨t1, t2, _⟩ := HS.out.get 0 (x := slI Dt 85 3 st x.writes) rfl
  obtain ⟨r1, r2, _⟩ := HS.out.get 1 (x := slI Dr 82 3 sr x.reads) rfl
  obtain ⟨p1, p2, _⟩ := HS.out.get 2 (x := slI Dp 47 4 sp x.prog) rfl
  have k0 := (HS.out.here 0 (slI Dt 85 3 st x.writes) rfl).2.2
  have k1 := (HS.out.here 1 (slI Dr 82 3 sr x.reads) rfl).2.2
  have k2 := (HS.out.here 2 (slI Dp 47 4 sp x.prog) rfl).2.2
  have a01 := HS.out.apart 0 1 (slI Dt 85 3 st x.writes) (slI Dr 82 3 sr x.reads) rfl rfl (by decide)
  have a02 := HS.out.apart 0 2 (slI Dt 85 3 st x.writes) (slI Dp 47 4 sp x.prog) rfl rfl (by decide)
  have a12 := HS.out.apart 1 2 (slI Dr 82 3 sr x.reads) (slI Dp 47 4 sp x.prog) rfl rfl (by decide)
  refine ⟨⟨HN.out, p1, r1, t1⟩, fun j hj => ?_, fun i j hij hj h0 h1 => ?_⟩
  · have : j = 0 ∨ j = 1 ∨ j = 2 := by omega
    rcases this with rfl | rfl | rfl
    · exact p2.mono k2
    · exact r2.mono k1
    · exact t2.mono k0
  · have : (i = 0 ∧ j = 1) ∨ (i = 0 ∧ j = 2) ∨ (i = 1 ∧ j = 2) := by omega
    rcases this with ⟨rfl, rfl⟩ | ⟨rfl, rfl⟩ | ⟨rfl, rfl⟩
    · exact p2.ne r2 (fun k hk hk' => a12 k hk' hk) h0 h1
    · exact p2.ne t2 (fun k hk hk' => a02 k hk' hk) h0 h1
    · exact r2.ne t2 (fun k hk hk' => a01 k hk' hk) h0 h1
end Go.Proofs.YtnjognmnbpcaaaaGreat
namespace Go.Proofs.YtnjognmnbpcaaaaGreat
open Go.RowKit
set_option linter.unusedSimpArgs false
set_option linter.unusedVariables false
set_option maxRecDepth 100000 in
set_option maxHeartbeats 4000000 in
theorem copyMach_any (A : MacM) (M : PMach) (w : World) (h : MachIs w A M) :
    Calls Tryz.prog 8 #[machA A M] w fun e w' => ∃ A', e = .returned (machA A' M) ∧ MachOwn (fun k => w.heap.size ≤ k ∧ k < w'.heap.size) w' A' M ∧ Below w.heap.size w w' := by
  have HM := hide h
  have HS := hide (St.refl w)
  have HCA := hide fun (W : World) (hb : Below w.heap.size w W) => copyArena_any A.w M.wz W (h.below hb).fit (h.below hb).arn
  have HCS := hide fun (k : Nat) (hk : k < A.s.n) (W : World) (hb : Below w.heap.size w W) => copySession_any (A.q k) (M.at k) W ((h.below hb).sess.2.2.2 k hk)
  have hbd := hide h.sess.2.1.1
  have hXL := hide h.sess.1
  have hn4 : A.s.n ≤ 1152921504606846976 := by have := h.sess.2.1.1; omega
  clear h
  unfold machA macA arenaA at *
  go_enter Tryz.func8, Tryz.ntmps8
  go_upto_region 1 with (first | ((with_reducible refine isList ?_); first | (refine st_box HS _ _ rfl rfl _ rfl ?_; clear HS; intro W bm HS) | (refine st_alloc HS _ rfl rfl zeroML zeroM ?_; clear HS; intro W br HS)))
  go_upto_region 2 with (first | ((with_reducible refine isList ?_); first | (refine st_alloc HS _ rfl rfl zeroML zeroM ?_; clear HS; intro W bo HS) | (refine st_loadA HS 1 rfl _ _ rfl rfl rfl (by decide +kernel) (by kernel_rfl) ?_) | (refine st_loadA HS 2 rfl _ _ rfl rfl rfl (by decide +kernel) (by kernel_rfl) ?_) | (refine st_storeA HS 0 rfl _ _ _ rfl rfl rfl _ rfl rfl (by kernel_rfl) rfl ?_; clear HS; intro W HS)))
  replace HS : Hid (St w W [blkI bo (machL A M), blkI br zeroML, blkI bm (machL A M)]) := HS
  go_wp2_with (refine st_loadR HS 2 rfl _ _ rfl 0 rfl rfl (by decide +kernel) (arenaL A.w) _ (by kernel_rfl) rfl ?_)
  refine (HCA.out _ HS.out.below).mono ?_
  rintro e W1 ⟨t, rfl, hn, hny, hf, hb⟩
  obtain ⟨hk1, hk2, hk3⟩ := fresh_words (M := M) hf hn hny (HM.out.below HS.out.below).words
  have HS1 := hide (HS.out.push hb (partI (fun k => W.heap.size ≤ k ∧ k < W1.heap.size) (wordM t) { words := M.words, clocks := M.clocks, ceil := M.ceil, sess := [], trace := [] }) (partI_loc _ _ _) (partOwn_words HM.out.four HM.out.clocks rfl rfl hk1 hk2 hk3) fun k hk => hk)
  obtain ⟨D0, hD0⟩ : ∃ D0 : Nat → Prop, D0 = fun k => W.heap.size ≤ k ∧ k < W1.heap.size := ⟨_, rfl⟩
  rw [← hD0] at HS1
  clear hD0 HS hk1 hk2 hk3 hn hny hf hb HCA
  go_wp2_with (first | (refine st_storeR HS1 1 rfl _ _ _ rfl 0 rfl rfl (arenaL t) rfl (by show 4 ≤ 11; omega) (by kernel_rfl) rfl ?_; clear HS1; intro W HS) | (refine st_store1 HS 1 rfl _ _ _ rfl _ rfl rfl rfl (by decide +kernel) rfl rfl ?_; clear HS; intro W HS))
  replace HS : Hid (St w W [partI D0 (wordM t) { words := M.words, clocks := M.clocks, ceil := M.ceil, sess := [], trace := [] }, blkI bo (macL t (lz M.clocks) M.ceil (.slice none 0 0) (.slice A.e.a A.e.n A.e.c)), blkI br zeroML, blkI bm (machL A M)]) := HS
  go_loopw [4] (fun i wr => ∃ (k : Nat) (D : Nat → Prop) (B : MacM), k ≤ A.s.n ∧ i = .int .i64 k ∧ Hid (B.s.n = k ∧ B.w = t ∧ B.e = noSl) ∧ Hid (St w wr [partI D B { words := M.words, clocks := M.clocks, ceil := M.ceil, sess := M.sess.take k, trace := [] }, blkI bo (macL t (lz M.clocks) M.ceil (.slice B.s.a B.s.n B.s.c) (.slice A.e.a A.e.n A.e.c)), blkI br zeroML, blkI bm (machL A M)])) (fun i _ => A.s.n - (intOf i).toNat)
  case atStart => exact ⟨0, D0, wordM t, Nat.zero_le _, rfl, ⟨rfl, rfl, rfl⟩, HS⟩
  case round =>
    clear HS
    obtain ⟨k, D, B, hk, rfl, HB, HS⟩ := hrel
    by_cases hlt : k < A.s.n
    · have i1 : (k : Int) < (A.s.n : Int) := by omega
      obtain ⟨bs, off, hbs, hbl, hr⟩ := (HM.out.below HS.out.below).sess.range hlt
      have HRG : Hid (∀ W, Below w.heap.size w W → W.rangeAt bs (off + k * 17) (sessOf (A.q k) (M.at k))) := fun W hW => by
        obtain ⟨bs', off', e', _, hr'⟩ := (HM.out.below hW).sess.range hlt
        rw [hbs] at e'; cases e'
        exact hr'
      have B1 := HS.out.blk 1 rfl
      have B3 := HS.out.blk 3 rfl
      replace hbs := hide hbs
      go_upto_region 7 with (first | ((with_reducible refine isList ?_); first | (refine st_load1 HS 3 rfl _ _ rfl _ rfl rfl (by decide +kernel) rfl ?_)))
      replace hbs := hbs.out
      refine wp_region_mask [true, true, true, true, true, true, true, false, false, false, false, false] [false, false, false, false, false, false, false, true, true, true, true, true] [0, 0, 0, 1, 1] (fun w' => Blk w' bo (macL t (lz M.clocks) M.ceil (.slice B.s.a B.s.n B.s.c) (.slice A.e.a A.e.n A.e.c)) ∧ Blk w' bm (machL A M) ∧ w'.rangeAt bs (off + k * 17) (sessOf (A.q k) (M.at k))) (by kernel_rfl) (by kernel_rfl) (by kernel_rfl) (by decide +kernel) ⟨B1.drew, B3.drew, hr⟩ ?_
      intro kne
      simp only [pickAt]
      repeat (first | ((first | (refine wpQuiet_ld _ _ rfl ⟨bo, 9, none⟩ rfl rfl (by decide +kernel) (fun w hC => hC.1.cell 9 _ rfl) ?_) | (refine wpQuiet_ld _ _ rfl ⟨bm, 9, none⟩ rfl rfl (by decide +kernel) (fun w hC => hC.2.1.cell 9 _ rfl) ?_) | (refine wpQuiet_la _ _ rfl bs (off + k * 17) rfl rfl (by decide +kernel) (sessOf (A.q k) (M.at k)) (by kernel_rfl) (fun w hC => hC.2.2) ?_)); simp only [Act.put, List.setIfInBounds_toArray, List.set_cons_zero, List.set_cons_succ]) | go_big_quiet_step (fail))
      refine wpQuiet_nil ?_
      clear kne hbs hr B1 B3
      replace HS := hide HS.out.drew
      generalize wr.drew = Wd at *
      refine wpRest_cons rfl rfl fun K hK => ?_
      go_big_op
      refine (HCS.out k hlt _ HS.out.below).mono ?_
      rintro e W2 ⟨q', rfl, hq, hb⟩
      have HS2 := hide (HS.out.push hb (sesI (fun k => Wd.heap.size ≤ k ∧ k < W2.heap.size) q' (M.at k)) (sesI_loc _ _ _) hq fun k hk => hk)
      obtain ⟨D2, hD2⟩ : ∃ D2 : Nat → Prop, D2 = fun k => Wd.heap.size ≤ k ∧ k < W2.heap.size := ⟨_, rfl⟩
      rw [← hD2] at HS2
      refine hK _ _ (fun _ => InC.mk ⟨HS2.out.blk 2 rfl, HS2.out.blk 4 rfl, HRG.out _ HS2.out.below⟩) ?_
      clear hK K HS hq hb hD2
      refine wpRest_cons rfl rfl fun K hK => ?_
      refine stw_lit1 HS2 (.tmp 25) rfl (q := q') (y := M.at k) rfl ?_
      clear HS2
      intro W3 be HS
      refine hK _ _ (fun _ => InC.mk ⟨HS.out.blk 3 rfl, HS.out.blk 5 rfl, HRG.out _ HS.out.below⟩) ?_
      clear hK K
      simp only [Act.put, List.setIfInBounds_toArray, List.set_cons_zero, List.set_cons_succ]
      refine wpRest_cons rfl rfl fun K hK => ?_
      refine stw_sess HS 0 2 1 (q := q') (x := M.at k) rfl rfl rfl (by decide) (by have := hbd.out; have := HB.out.1; omega) (.tmp 19) (.tmp 26) 25 rfl _ Tryz.underlying25 Tryz.infoSess rfl rfl rfl ?_
      clear HS
      intro W4 D' g cap HS
      refine hK _ _ (fun _ => InC.mk ⟨HS.out.blk 3 rfl, HS.out.blk 5 rfl, HRG.out _ HS.out.below⟩) ?_
      clear hK K
      simp only [Act.put, List.setIfInBounds_toArray, List.set_cons_zero, List.set_cons_succ]
      refine wpRest_cons rfl rfl fun K hK => ?_
      go_big_op
      refine hK _ _ (fun h => by cases h) ?_
      clear hK K
      refine wpRest_cons rfl rfl fun K hK => ?_
      refine stw_store1 HS 3 rfl _ _ _ rfl _ rfl rfl (by decide +kernel) rfl rfl ?_
      clear HS
      intro W5 HS
      refine hK _ _ (fun h => by cases h) (wpRest_nil ?_)
      clear hK K
      simp only [Act.put, List.setIfInBounds_toArray, List.set_cons_zero, List.set_cons_succ]
      refine NoPanic.normal ?_
      have hT : M.sess.take k ++ [M.at k] = M.sess.take (k + 1) := by
        have : k < M.sess.length := by rw [hXL.out]; exact hlt
        rw [List.take_add_one, List.getElem?_eq_getElem this]
        simp [PMach.at, List.getD, this]
      replace HS : Hid (St w W5 [partI D' (B.push ⟨some ⟨g, 0, none⟩, B.s.n + 1, cap⟩ q') { words := M.words, clocks := M.clocks, ceil := M.ceil, sess := M.sess.take k ++ [M.at k], trace := [] }, blkI bo (macL t (lz M.clocks) M.ceil (.slice (some ⟨g, 0, none⟩) (B.s.n + 1) cap) (.slice A.e.a A.e.n A.e.c)), blkI br zeroML, blkI bm (machL A M)]) := hide HS.out.tail.tail
      rw [hT] at HS
      go_wp2
      go_roundw
      case rel =>
       first
        | exact ⟨k + 1, D', B.push ⟨some ⟨g, 0, none⟩, B.s.n + 1, cap⟩ q', by omega, by go_num, ⟨by show B.s.n + 1 = _; rw [HB.out.1], HB.out.2.1, HB.out.2.2⟩, HS⟩
        | (repeat apply Exists.intro
           exact ⟨⟨k + 1, D', B.push ⟨some ⟨g, 0, none⟩, B.s.n + 1, cap⟩ q', by omega, by go_num, ⟨by show B.s.n + 1 = _; rw [HB.out.1], HB.out.2.1, HB.out.2.2⟩, HS⟩, rfl⟩)
      case measure => simp [intOf]; omega
    · obtain rfl : k = A.s.n := by omega
      have hT : M.sess.take A.s.n = M.sess := by rw [← hXL.out, List.take_length]
      rw [hT] at HS
      clear HCS
      have HE := hide HM.out.trace
      go_upto_region 9 with (first | ((with_reducible refine isList ?_); first | (refine st_load1 HS 3 rfl _ _ rfl _ rfl rfl (by decide +kernel) rfl ?_) | (refine st_load1 HS 4 rfl _ _ rfl _ rfl rfl (by decide +kernel) rfl ?_) | (refine st_store1 HS 2 rfl _ _ _ rfl _ rfl rfl rfl (by decide +kernel) rfl rfl ?_; clear HS; intro W HS) | (refine st_lit0 HS _ 88 4 rfl rfl Tryz.underlying26 (by kernel_rfl) ?_; clear HS; intro W b HS) | (refine st_copy HS 0 rfl (HE.out.below HS.out.below) rfl _ _ _ rfl _ _ Tryz.underlying26 Tryz.infoEvent rfl (by decide) rfl rfl rfl ?_; clear HS; intro W De se he HS)))
      go_wp2_with (first | ((with_reducible refine isList ?_); first | (refine st_loadA HS 2 rfl _ _ rfl rfl rfl (by decide +kernel) (by kernel_rfl) ?_) | (refine st_storeA HS 3 rfl _ _ _ rfl rfl rfl _ rfl rfl (by kernel_rfl) rfl ?_; clear HS; intro W HS)))
      refine bodyPost_ret (ret_mach Tryz.results8 (HS.out.blk 3 rfl) rfl rfl) rfl ⟨B.setE se, ?_, ?_, HS.out.below⟩
      · obtain ⟨h1, h2, h3⟩ := HB.out
        subst h2
        rfl
      · have h1 := HS.out.get 1 (x := partI D B { words := M.words, clocks := M.clocks, ceil := M.ceil, sess := M.sess, trace := [] }) rfl
        have h2 := HS.out.get 0 (x := slI De 88 4 se M.trace) rfl
        have k0 := (HS.out.here 0 (slI De 88 4 se M.trace) rfl).2.2
        have k1 := (HS.out.here 1 (partI D B { words := M.words, clocks := M.clocks, ceil := M.ceil, sess := M.sess, trace := [] }) rfl).2.2
        have a10 := HS.out.apart 1 0 (partI D B { words := M.words, clocks := M.clocks, ceil := M.ceil, sess := M.sess, trace := [] }) (slI De 88 4 se M.trace) rfl rfl (by decide)
        exact ((PartOwn.own h1).withE a10 h2).mono fun k hk => hk.elim (k1 k) (k0 k)
end Go.Proofs.YtnjognmnbpcaaaaGreat
