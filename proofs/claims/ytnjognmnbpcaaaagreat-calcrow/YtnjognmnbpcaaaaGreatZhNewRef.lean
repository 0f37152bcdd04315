/-
  The document's New: a machine out of a script.
-/
import Derived.Test.YtnjognmnbpcaaaaGreatZlag
import Derived.Test.YtnjognmnbpcaaaaGreatZhMachRef
namespace Go.Proofs.YtnjognmnbpcaaaaGreat
open Go.RowKit
set_option linter.unusedSimpArgs false
set_option linter.unusedVariables false
set_option maxRecDepth 100000 in
set_option maxHeartbeats 4000000 in
theorem rnewMach_any (B : ScrM) (S : PScript) (w : World) (h : ScrIs w B S) (hbd : B.t.n * 184 ≤ 140737488351232) :
    Calls Tryz.prog 34 #[scrA B S] w fun e w' => ∃ A', e = .returned (.tuple #[machA A' (newP S).1, .int .i64 (newP S).2]) ∧ MachOwn (fun k => w.heap.size ≤ k ∧ k < w'.heap.size) w' A' (newP S).1 ∧ Below w.heap.size w w' := by
  have HB := hide h
  have HS := hide (St.refl w)
  have HCN := hide fun (W : World) (hb : Below w.heap.size w W) => rnewArena_any B.v S.vz W (fun g hg => by have := ((h.below hb).vals g hg).2.1.1; omega) (h.below hb).values
  have HCS := hide fun (k : Nat) (hk : k < B.t.n) (W : World) (hb : Below w.heap.size w W) => rnewSess_any (lz (S.at k).num 0) (lz (S.at k).num 1) (lz (S.at k).num 2) (B.p k) (S.at k).prog W ((h.below hb).starts.each k hk).2
  have hXL := hide h.starts.len
  replace hbd := hide hbd
  have hn4 : B.t.n ≤ 1152921504606846976 := by have := h.starts.fit.1; omega
  clear h
  obtain ⟨V0, hV0⟩ : ∃ V0, V0 = scrA B S := ⟨_, rfl⟩
  rw [← hV0]
  have HV : Hid (V0.cells = (scrL B S).toArray) := by rw [hV0]; rfl
  clear hV0
  unfold arenaA at *
  go_enter Tryz.func34, Tryz.ntmps34
  go_upto_region 1 with (first | ((with_reducible refine isList ?_); first | (refine st_box HS _ _ rfl rfl (scrL B S) HV.out ?_; clear HS; intro W bx HS) | (refine st_alloc HS _ rfl rfl zeroML zeroM ?_; clear HS; intro W br HS)))
  go_wp2_with (refine st_loadR HS 1 rfl _ _ rfl 0 rfl rfl (by decide +kernel) (arenaL B.v) _ (by kernel_rfl) rfl ?_)
  refine (HCN.out _ HS.out.below).mono ?_
  rintro e W1 ⟨t, rfl, hny, hf, hb, hy, hn⟩
  obtain ⟨hk1, hk2, hk3⟩ := new_words (HB.out.below HS.out.below) hny hf hy hn
  have HS1 := hide (HS.out.push hb (partI (fun k => _) (wordM t) (partM S 0)) (partI_loc _ _ _) (partOwn_words (newWords_len S) rfl rfl rfl hk1 hk2 hk3) fun k hk => hk)
  have HE : Hid (newE B.v S.vz = bif valsOk S then 0 else 400) := by
    show newE B.v S.vz = _
    unfold newE
    rw [HB.out.ok]
  generalize newE B.v S.vz = E at *
  generalize (fun k => _) = D0 at HS1
  clear HS hk1 hk2 hk3 hny hf hb hy hn HCN
  replace HS1 : Hid (St w W1 [partI D0 (wordM t) (partM S 0), blkI br zeroML, blkI bx (scrL B S)]) := HS1
  go_wp2_with (first | (refine st_alloc HS1 _ rfl rfl zeroAL zeroA ?_; clear HS1; intro W ba HS) | (refine st_storeA HS 0 rfl _ _ _ rfl rfl rfl _ rfl rfl (by kernel_rfl) rfl ?_; clear HS; intro W HS) | (refine st_loadA HS 0 rfl _ _ rfl rfl rfl (by decide +kernel) (by kernel_rfl) ?_) | (refine st_load1 HS 3 rfl _ _ rfl _ rfl rfl (by decide +kernel) rfl ?_) | (refine st_alloc HS _ rfl rfl zeroML zeroM ?_; clear HS; intro W bm HS))
  replace HS : Hid (St w W [blkI bm (macL t (fun _ => 0) S.ceil (.slice none 0 0) (.slice none 0 0)), blkI ba (arenaL t), partI D0 (wordM t) (partM S 0), blkI br zeroML, blkI bx (scrL B S)]) := HS
  go_loopw [7] (fun i wr => ∃ (k : Nat) (D : Nat → Prop) (A : MacM), k ≤ B.t.n ∧ i = .int .i64 k ∧ Hid (A.s.n = k ∧ A.w = t ∧ A.e = noSl) ∧ Hid (allTo (fun k => startOk (S.at k)) k = true) ∧ Hid (St w wr [blkI bm (macL t (fun _ => 0) S.ceil (.slice A.s.a A.s.n A.s.c) (.slice none 0 0)), blkI ba (arenaL t), partI D A (partM S k), blkI br zeroML, blkI bx (scrL B S)])) (fun i _ => B.t.n - (intOf i).toNat)
  case atStart => exact ⟨0, D0, wordM t, Nat.zero_le _, rfl, ⟨rfl, rfl, rfl⟩, rfl, HS⟩
  case round =>
    clear HS
    obtain ⟨k, D, A, hk, rfl, HA, HK, HS⟩ := hrel
    by_cases hlt : k < B.t.n
    · have i1 : (k : Int) < (B.t.n : Int) := by omega
      obtain ⟨bs, off, hbs, hbl, hr⟩ := (HB.out.below HS.out.below).starts.range hlt
      replace hbs := hide hbs
      replace hr := hide hr
      have hok : Hid (startOk (S.at k) = startMay (lz (S.at k).num 0) (lz (S.at k).num 1) (lz (S.at k).num 2) ((S.at k).prog.length / 4) (lz (S.at k).prog)) := rfl
      go_upto_region 6 with (first | ((with_reducible refine isList ?_); first | (refine st_load1 HS 4 rfl _ _ rfl _ rfl rfl (by decide +kernel) rfl ?_)))
      replace hbs := hbs.out
      go_wp2_with (first | (refine st_load1 HS 4 rfl _ _ rfl _ rfl rfl (by decide +kernel) rfl ?_) | (refine wpList_load_at _ _ rfl rfl bs (off + k * 4) rfl (startOf (B.p k) (S.at k)) (by decide +kernel) (by kernel_rfl) hr.out ?_))
      refine (HCS.out k hlt _ HS.out.below).mono ?_
      rintro e W2 ⟨q, rfl, hq, hb⟩
      have HS2 := hide (HS.out.push hb (sesI (fun k => _) q _) (sesI_loc _ _ _) hq fun k hk => hk)
      generalize (fun k => _) = D2 at HS2
      clear HS hq hb hr hbs
      cases hok2 : startOk (S.at k)
      · have e0 : newSessP (lz (S.at k).num 0) (lz (S.at k).num 1) (lz (S.at k).num 2) (S.at k).prog = (zeroSess, 1100) := by unfold newSessP; rw [← hok.out, hok2]; rfl
        rw [e0] at HS2 ⊢
        have e1 := newP_no (scrOk_start (by rw [hXL.out]; exact hlt) hok2)
        go_wp2_with (first | (refine st_alloc HS2 _ rfl rfl zeroSL zeroS ?_; clear HS2; intro W bq HS) | (refine st_storeA HS 0 rfl _ _ _ rfl rfl rfl (sessOf q zeroSess) rfl rfl (by kernel_rfl) rfl ?_; clear HS; intro W HS) | (refine st_storeA HS 5 rfl _ _ _ rfl rfl rfl zeroML rfl rfl (by kernel_rfl) rfl ?_; clear HS; intro W HS))
        rw [e1]
        exact bodyPost_ret (ret_mach2 Tryz.results34 (HS.out.blk 5 rfl) rfl rfl rfl) rfl ⟨noMac, rfl, machOwn_none _ _, HS.out.below⟩
      · have e0 : newSessP (lz (S.at k).num 0) (lz (S.at k).num 1) (lz (S.at k).num 2) (S.at k).prog = (initS (S.at k), 0) := by unfold newSessP; rw [← hok.out, hok2]; rfl
        rw [e0] at HS2 ⊢
        go_wp2_with (first | (refine st_alloc HS2 _ rfl rfl zeroSL zeroS ?_; clear HS2; intro W bq HS) | (refine st_storeA HS 0 rfl _ _ _ rfl rfl rfl (sessOf q (initS (S.at k))) rfl rfl (by kernel_rfl) rfl ?_; clear HS; intro W HS) | (refine st_load1 HS 2 rfl _ _ rfl _ rfl rfl (by decide +kernel) rfl ?_) | (refine st_loadA HS 0 rfl _ _ rfl rfl rfl (by decide +kernel) (by kernel_rfl) ?_) | (refine st_lit1 HS (.tmp 41) rfl rfl (q := q) (y := initS (S.at k)) rfl ?_; clear HS; intro W be HS) | (refine st_sess HS 0 5 2 (q := q) (x := initS (S.at k)) rfl rfl rfl (by decide) (by have := hbd.out; have := HA.out.1; omega) rfl (.tmp 40) (.tmp 42) 25 rfl _ Tryz.underlying25 Tryz.infoSess rfl rfl rfl ?_; clear HS; intro W D' g cap HS) | (refine st_store1 HS 3 rfl _ _ _ rfl _ rfl rfl rfl (by decide +kernel) rfl rfl ?_; clear HS; intro W HS))
        have hT : partM S (k + 1) = { partM S k with sess := (partM S k).sess ++ [initS (S.at k)] } := by
          have : k < S.starts.length := by rw [hXL.out]; exact hlt
          have e : (S.starts.take (k + 1)).map initS = (S.starts.take k).map initS ++ [initS (S.at k)] := by
            rw [List.take_add_one, List.getElem?_eq_getElem this, List.map_append]
            have : S.at k = S.starts[k] := by unfold PScript.at; simp [List.getD, this]
            rw [this]
            rfl
          unfold partM
          rw [e]
        have hK2 : Hid (allTo (fun k => startOk (S.at k)) (k + 1) = true) := by
          show allTo _ (k + 1) = true
          rw [allTo, HK.out, hok2]; rfl
        replace HS : Hid (St w W [blkI bm (macL t (fun _ => 0) S.ceil (.slice (some ⟨g, 0, none⟩) (A.s.n + 1) cap) (.slice none 0 0)), blkI ba (arenaL t), partI D' (A.push ⟨some ⟨g, 0, none⟩, A.s.n + 1, cap⟩ q) { partM S k with sess := (partM S k).sess ++ [initS (S.at k)] }, blkI br zeroML, blkI bx (scrL B S)]) := hide HS.out.tail.tail.tail
        rw [← hT] at HS
        go_roundw
        case rel =>
         first
          | exact ⟨k + 1, D', A.push ⟨some ⟨g, 0, none⟩, A.s.n + 1, cap⟩ q, by omega, by go_num, ⟨by show A.s.n + 1 = _; rw [HA.out.1], HA.out.2.1, HA.out.2.2⟩, hK2, HS⟩
          | (repeat apply Exists.intro
             exact ⟨⟨k + 1, D', A.push ⟨some ⟨g, 0, none⟩, A.s.n + 1, cap⟩ q, by omega, by go_num, ⟨by show A.s.n + 1 = _; rw [HA.out.1], HA.out.2.1, HA.out.2.2⟩, hK2, HS⟩, rfl⟩)
        case measure => simp [intOf]; omega
    · obtain rfl : k = B.t.n := by omega
      have hI : partM S B.t.n = initM S := by unfold initM; rw [hXL.out]
      rw [hI] at HS
      have hM : MachOwn D wr A (initM S) := PartOwn.own (HS.out.get 2 (x := partI D A (initM S)) rfl)
      cases hv : valsOk S
      · have hE : E = 400 := by rw [HE.out, hv]; rfl
        subst hE
        have e1 : newP S = (noMach, 1200) := newP_no (by unfold scrOk; rw [hv, Bool.false_and, Bool.and_false])
        go_wp2_with (first | ((with_reducible refine isList ?_); first | (refine st_load1 HS 4 rfl _ _ rfl _ rfl rfl (by decide +kernel) rfl ?_) | (refine st_loadA HS 0 rfl _ _ rfl rfl rfl (by decide +kernel) (by kernel_rfl) ?_) | (refine st_storeA HS 3 rfl _ _ _ rfl rfl rfl _ rfl rfl (by kernel_rfl) rfl ?_; clear HS; intro W HS)))
        rw [e1]
        exact bodyPost_ret (ret_mach2 Tryz.results34 (HS.out.blk 3 rfl) rfl rfl rfl) rfl ⟨noMac, rfl, machOwn_none _ _, HS.out.below⟩
      · have hE : E = 0 := by rw [HE.out, hv]; rfl
        subst hE
        have hMay := hide (rmachMay_any A (initM S) wr hM.is)
        have hsc : scrOk S = machMay (initM S) := by unfold scrOk; rw [hXL.out, HK.out, hv, Bool.true_and, Bool.true_and]
        have eL : macL t (fun _ => 0) S.ceil (.slice A.s.a A.s.n A.s.c) (.slice none 0 0) = machL A (initM S) := by
          obtain ⟨_, h2, h3⟩ := HA.out
          subst h2
          unfold machL
          rw [h3]
          rfl
        rw [eL] at HS
        clear eL
        replace hM := hide hM
        go_wp2_with (first | ((with_reducible refine isList ?_); first | (refine st_load1 HS 4 rfl _ _ rfl _ rfl rfl (by decide +kernel) rfl ?_) | (refine st_loadA HS 0 rfl _ _ rfl rfl rfl (by decide +kernel) (by kernel_rfl) ?_)))
        refine hMay.out.mono ?_
        rintro e W3 ⟨rfl, hb⟩
        replace HS := hide (HS.out.on hb)
        clear hb hMay
        cases hm : machMay (initM S)
        · go_wp2_with (first | ((with_reducible refine isList ?_); first | (refine st_loadA HS 0 rfl _ _ rfl rfl rfl (by decide +kernel) (by kernel_rfl) ?_) | (refine st_storeA HS 3 rfl _ _ _ rfl rfl rfl _ rfl rfl (by kernel_rfl) rfl ?_; clear HS; intro W HS)))
          rw [newP_no (by rw [hsc, hm])]
          exact bodyPost_ret (ret_mach2 Tryz.results34 (HS.out.blk 3 rfl) rfl rfl rfl) rfl ⟨noMac, rfl, machOwn_none _ _, HS.out.below⟩
        · go_wp2_with (first | ((with_reducible refine isList ?_); first | (refine st_loadA HS 0 rfl _ _ rfl rfl rfl (by decide +kernel) (by kernel_rfl) ?_) | (refine st_storeA HS 3 rfl _ _ _ rfl rfl rfl _ rfl rfl (by kernel_rfl) rfl ?_; clear HS; intro W HS)))
          rw [newP_yes (by rw [hsc, hm])]
          refine bodyPost_ret (ret_mach2 Tryz.results34 (HS.out.blk 3 rfl) rfl rfl rfl) rfl ⟨A, rfl, ?_, HS.out.below⟩
          have h2 := HS.out.get 2 (x := partI D A (initM S)) rfl
          exact (PartOwn.own h2).mono (HS.out.here 2 (partI D A (initM S)) rfl).2.2
end Go.Proofs.YtnjognmnbpcaaaaGreat
