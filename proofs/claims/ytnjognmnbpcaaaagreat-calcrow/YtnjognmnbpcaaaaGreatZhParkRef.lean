/-
  The document's Park.
-/
import Derived.Test.YtnjognmnbpcaaaaGreatZlah
import Derived.Test.YtnjognmnbpcaaaaGreatZlad
namespace Go.Proofs.YtnjognmnbpcaaaaGreat
open Go.RowKit
set_option linter.unusedSimpArgs false
set_option linter.unusedVariables false
/-- Have its reads changed? -/
def PMach.chg (M : PMach) (x : PSess) : Bool := chgV M.lens M.wz x.rn (lz x.reads)
def parkP (M : PMach) (i : Int) : PMach × Int :=
  bif hereP M i && (decide ((M.at i.toNat).step = 5) || decide (runP (M.at i.toNat) = 5)) then
    bif decide ((M.at i.toNat).step = 0) then (tellP ((((M.setS i.toNat ((M.at i.toNat).setL 2 [])).doN i.toNat 9 0)).doN i.toNat 3 5) i.toNat 4 ((M.at i.toNat).rn), 0)
    else bif M.chg (M.at i.toNat) then againP M i 5 else (M, 0)
  else (noMach, 2200)
set_option maxRecDepth 100000 in
set_option maxHeartbeats 2000000 in
theorem rpark_any (A : MacM) (M : PMach) (i : Int) (w : World) (h : MachIs w A M) :
    Calls Tryz.prog 68 #[machA A M, .int .i64 i] w (MRet w (parkP M i)) := by
  have hX := hide h.sess.1
  have hHere := hide fun (i : Int) (W : World) (hb : Below w.heap.size w W) => rhere_any A M i W (h.below hb)
  have hRun := hide fun (k : Nat) (hk : k < A.s.n) (hp : 0 ≤ (M.at k).pc) (W : World) (hb : Below w.heap.size w W) => rrunning_any A M k W (h.below hb) hk hp
  have hNeeds := hide fun (i : Int) (W : World) (hb : Below w.heap.size w W) => rneeds_any A M i W (h.below hb)
  have hAgain := hide fun (i c : Int) (W : World) (hb : Below w.heap.size w W) => ragain_any A M i c W (h.below hb)
  have hEnd := hide fun (i a b : Int) (W : World) (hb : Below w.heap.size w W) => rend_any A M i a b W (h.below hb)
  have hCopy := hide fun (W : World) (hb : Below w.heap.size w W) => rcopyMach_any A M W (h.below hb)
  have hrng := hide fun (k : Nat) (hk : k < A.s.n) (W : World) (hb : Below w.heap.size w W) => (h.below hb).sess.range hk
  have hSes : Hid (∀ (k : Nat) (hk : k < A.s.n) (W : World) (hb : Below w.heap.size w W), SessIs W (A.q k) (M.at k)) := fun k hk W hb => (h.below hb).sess.2.2.2 k hk
  have hIns := hide fun (k : Nat) (hk : k < A.s.n) (hok : SessOk M.lens (M.at k)) (c : Int) (hr : runP (M.at k) = c) (hc : c ≠ -1) => ins_at h hk hok hr hc
  obtain ⟨V0, hV0⟩ : ∃ V0, V0 = machA A M := ⟨_, rfl⟩
  rw [← hV0]
  have HV : Hid (V0.cells = (machL A M).toArray) := by rw [hV0]; rfl
  clear hV0
  have HM := hide h
  have HS := hide (St.refl w)
  clear h
  go_enter Tryz.func68, Tryz.ntmps68
  go_wp2_with (first | ((with_reducible refine isList ?_); first | (refine st_box HS _ _ rfl rfl (machL A M) HV.out ?_; clear HS; intro W bm HS) | (refine st_alloc HS _ rfl rfl zeroML zeroM ?_; clear HS; intro W br HS) | (refine st_loadA HS 1 rfl _ _ rfl rfl rfl (by decide +kernel) (by kernel_rfl) ?_)))
  refine (hHere.out i _ HS.out.below).mono ?_
  rintro e W1 ⟨rfl, hb⟩
  replace HS := hide (HS.out.on hb)
  clear hb hHere
  cases hh : hereP M i
  case false =>
    go_upto_region 2 with fail
    go_wp2_with (first | ((with_reducible refine isList ?_); first | (refine st_storeA HS 0 rfl _ _ _ rfl rfl rfl _ rfl rfl (by kernel_rfl) rfl ?_; clear HS; intro W HS)))
    rw [show parkP M i = (noMach, 2200) by unfold parkP; rw [hh]; rfl]
    exact bodyPost_ret (ret_mach2 Tryz.results68 (HS.out.blk 0 rfl) rfl rfl rfl) rfl (mret_no HS.out.below)
  obtain ⟨hmay, k, rfl, hk0⟩ := hereP_yes hh
  have hk : k < A.s.n := by have := hX.out; omega
  have hok := hide (here_sess hmay hk0)
  have i2 : (k : Int) < (A.s.n : Int) := by omega
  replace hmay := hide hmay
  replace hh := hide hh
  obtain ⟨bs, off, hbs, hbl, hR⟩ := (HM.out.below HS.out.below).sess.range hk
  have c9 : W1.cell? ⟨bm, 9, none⟩ = some (.slice A.s.a A.s.n A.s.c) := (HS.out.blk 1 rfl).cell 9 _ rfl
  rw [hbs] at c9
  obtain ⟨_, hsP, hsR, hsT⟩ := hSes.out k hk _ HS.out.below
  have eR : (M.at k).rn = (A.q k).r.n := hsR.len (by decide)
  have hcl : Hid (∀ W', Below w.heap.size w W' → W'.cell? ⟨bs, off + k * 17 + 10, none⟩ = some (.slice (A.q k).r.a (A.q k).r.n (A.q k).r.c)) := fun W' hb => by
    obtain ⟨bs', off', hbs', _, hR'⟩ := (HM.out.below hb).sess.range hk
    rw [hbs] at hbs'; cases hbs'
    exact hR' 10 _ rfl
  by_cases h5 : lz (M.at k).num 3 = 5
  · have eG : M.chg (M.at k) = chgV A.w M.wz (A.q k).r.n (lz (M.at k).reads) := by
      unfold PMach.chg
      rw [eR]
      exact (chg_congr fun g hg => ((HM.out.below HS.out.below).lens g hg).symm).1
    have eS : Hid (parkP M k = bif M.chg (M.at k) then againP M k 5 else (M, 0)) := by
      show parkP M k = _
      unfold parkP PSess.step; rw [hh.out, Int.toNat_natCast, decide_eq_true h5, decide_eq_false (by omega : ¬ lz (M.at k).num 3 = 0)]; rfl
    rw [eG] at eS
    clear eG eR
    have c4 : W1.cell? ⟨bs, off + k * 17 + 4, none⟩ = some (.int .i64 5) := by rw [← h5]; exact hR 4 _ rfl
    clear hR
    have hChg := hide fun (W : World) (hb : Below w.heap.size w W) => rchanged_any A.w M.wz (A.q k).r.a (A.q k).r.n (A.q k).r.c (lz (M.at k).reads) W (HM.out.below hb).short (HM.out.below hb).arn (by have := hsR.2.1.1; omega) ((hSes.out k hk W hb).2.2.1.2.2)
    replace h5 := hide h5
    go_upto_region 3 with fail
    go_wp2_with (first | ((with_reducible refine isList ?_); first | (refine st_loadA HS 1 rfl _ _ rfl rfl rfl (by decide +kernel) (by kernel_rfl) ?_)))
    refine (hCopy.out _ HS.out.below).mono ?_
    rintro e W2 ⟨A1, rfl, hO, hb⟩
    have HS1 := hide (HS.out.push hb (machI (fun k => _) A1 M) (machI_loc _ _ _) hO fun k hk => hk)
    generalize (fun k => _) = D1 at HS1
    clear HS hO hCopy c9 c4
    replace HS := HS1
    clear HS1
    go_upto_region 4 with (first | ((with_reducible refine isList ?_); first | (refine st_alloc HS _ rfl rfl zeroML zeroM ?_; clear HS; intro W bo HS) | (refine st_storeA HS 0 rfl _ _ _ rfl rfl rfl _ rfl rfl (by kernel_rfl) rfl ?_; clear HS; intro W HS)))
    replace HS : Hid (St w W [blkI bo (machL A1 M), machI D1 A1 M, blkI br zeroML, blkI bm (machL A M)]) := HS
    have c9 : W.cell? ⟨bm, 9, none⟩ = some (.slice A.s.a A.s.n A.s.c) := (HS.out.blk 3 rfl).cell 9 _ rfl
    rw [hbs] at c9
    have c4 : W.cell? ⟨bs, off + k * 17 + 4, none⟩ = some (.int .i64 5) := by
      obtain ⟨bs', off', hbs', _, hR'⟩ := (HM.out.below HS.out.below).sess.range hk
      rw [hbs] at hbs'; cases hbs'
      rw [← h5.out]; exact hR' 4 _ rfl
    go_upto_region 9 with fail
    clear c9 c4
    have HB := HS.out.blk 3 rfl
    (try simp only [Act.put, List.setIfInBounds_toArray, List.set_cons_zero, List.set_cons_succ])
    refine wp_region_mask [true, true, true, true, true, true, true, true, false, false, false, false, false, false] [false, false, false, false, false, false, false, false, true, true, true, true, true, true] [0, 3, 3, 3, 2, 2] (fun w' => Blk w' bm (machL A M) ∧ w'.cell? ⟨bs, off + k * 17 + 10, none⟩ = some (.slice (A.q k).r.a (A.q k).r.n (A.q k).r.c)) (by kernel_rfl) (by kernel_rfl) (by kernel_rfl) (by decide +kernel) ⟨HB.drew, hcl.out _ HS.out.drew.below⟩ ?_
    intro kne
    simp only [pickAt]
    repeat (first | ((first | (refine wpQuiet_la _ _ rfl bm (0) rfl rfl (by decide +kernel) (arenaL A.w) (by kernel_rfl) (fun w hC => hC.1.part 0 (r := [.int .i64 (lz M.clocks 0), .int .i64 (lz M.clocks 1), .int .i64 (lz M.clocks 2), .int .i64 (lz M.clocks 3), .int .i64 M.ceil, .slice A.s.a A.s.n A.s.c, .slice A.e.a A.e.n A.e.c]) rfl) ?_) | (refine wpQuiet_ld _ _ rfl ⟨bm, 9, none⟩ rfl rfl (by decide +kernel) (fun w hC => hC.1.cell 9 _ rfl) ?_) | (refine wpQuiet_ld _ _ rfl ⟨bs, off + k * 17 + 10, none⟩ rfl rfl (by decide +kernel) (fun w hC => hC.2) ?_)); simp only [Act.put, List.setIfInBounds_toArray, List.set_cons_zero, List.set_cons_succ]) | go_big_quiet_step (fail))
    refine wpQuiet_nil ?_
    clear kne HB
    replace HS := hide HS.out.drew
    generalize W.drew = Wd at *
    refine wpRest_cons rfl rfl fun K hK => ?_
    go_big_op
    refine (hChg.out _ HS.out.below).mono ?_
    rintro e W3 ⟨rfl, hb⟩
    replace HS := hide (HS.out.on hb)
    clear hb hChg
    refine hK _ _ (fun _ => InC.mk ⟨HS.out.blk 3 rfl, hcl.out _ HS.out.below⟩) ?_
    clear hK K
    (try simp only [Act.put, List.setIfInBounds_toArray, List.set_cons_zero, List.set_cons_succ])
    refine wpRest_move _ rfl rfl rfl ?_
    (try simp only [Act.put, List.setIfInBounds_toArray, List.set_cons_zero, List.set_cons_succ])
    refine wpRest_extract _ 0 rfl rfl rfl rfl ?_
    (try simp only [Act.put, List.setIfInBounds_toArray, List.set_cons_zero, List.set_cons_succ])
    refine wpRest_extract _ 1 rfl rfl rfl rfl ?_
    (try simp only [Act.put, List.setIfInBounds_toArray, List.set_cons_zero, List.set_cons_succ])
    refine wpRest_assign _ rfl rfl rfl ?_
    (try simp only [Act.put, List.setIfInBounds_toArray, List.set_cons_zero, List.set_cons_succ])
    refine wpRest_assign _ rfl rfl rfl (wpRest_nil ?_)
    (try simp only [Act.put, List.setIfInBounds_toArray, List.set_cons_zero, List.set_cons_succ])
    refine NoPanic.normal ?_
    cases hg : chgV A.w M.wz (A.q k).r.n (lz (M.at k).reads)
    · rw [hg] at eS
      replace hg := hide hg
      go_wp2_with (first | ((with_reducible refine isList ?_); first | (refine st_loadA HS 0 rfl _ _ rfl rfl rfl (by decide +kernel) (by kernel_rfl) ?_) | (refine st_storeA HS 2 rfl _ _ _ rfl rfl rfl _ rfl rfl (by kernel_rfl) rfl ?_; clear HS; intro W HS)))
      rw [eS.out]
      exact bodyPost_ret (ret_mach2 Tryz.results68 (HS.out.blk 2 rfl) rfl rfl rfl) rfl (mret_of (R := (M, 0)) HS.out 1 (D := D1) (A := A1) rfl)
    · rw [hg] at eS
      replace hg := hide hg
      go_wp2_with (first | ((with_reducible refine isList ?_); first | (refine st_loadA HS 3 rfl _ _ rfl rfl rfl (by decide +kernel) (by kernel_rfl) ?_)))
      refine (hAgain.out _ _ _ HS.out.below).mono ?_
      (rintro e W2 ⟨A2, rfl, hO, hb⟩; have HS2 := hide (HS.out.push hb (machI (fun k => _) A2 _) (machI_loc _ _ _) hO fun k hk => hk); generalize (fun k => _) = D2 at HS2; clear hO HS hb; replace HS := HS2; clear HS2; go_wp2_with (first | ((with_reducible refine isList ?_); first | (refine st_storeA HS 3 rfl _ _ _ rfl rfl rfl _ rfl rfl (by kernel_rfl) rfl ?_; clear HS; intro W HS))); rw [eS.out]; exact bodyPost_ret (ret_mach2 Tryz.results68 (HS.out.blk 3 rfl) rfl rfl rfl) rfl (mret_of (R := againP M k 5) HS.out 0 (D := D2) (A := A2) rfl))
  · have hrb : (lz (M.at k).num 3 != 5) = true := by simpa using h5
    have c4 : W1.cell? ⟨bs, off + k * 17 + 4, none⟩ = some (.int .i64 (lz (M.at k).num 3)) := hR 4 _ rfl
    go_wp2_with (first | ((with_reducible refine isList ?_); first | (refine st_loadA HS 1 rfl _ _ rfl rfl rfl (by decide +kernel) (by kernel_rfl) ?_)))
    refine (hRun.out k hk hok.out.pc.1 _ HS.out.below).mono ?_
    rintro e W2 ⟨rfl, hb⟩
    replace HS := hide (HS.out.on hb)
    clear hb hRun c4 c9
    by_cases hr : runP (M.at k) = 5
    · have hrb2 : (runP (M.at k) != 5) = false := by simpa using hr
      have h0 : lz (M.at k).num 3 = 0 := (runP_yes hr (by decide)).1
      have eS : Hid (parkP M k = (tellP ((((M.setS k ((M.at k).setL 2 [])).doN k 9 0)).doN k 3 5) k 4 ((A.q k).r.n : Int), 0)) := by
        show parkP M k = _
        unfold parkP PSess.step; rw [hh.out, Int.toNat_natCast, decide_eq_true hr, decide_eq_true h0, Bool.or_true, eR]; rfl
      replace hr := hide hr
      go_upto_region 3 with fail
      go_wp2_with (first | ((with_reducible refine isList ?_); first | (refine st_loadA HS 1 rfl _ _ rfl rfl rfl (by decide +kernel) (by kernel_rfl) ?_)))
      refine (hCopy.out _ HS.out.below).mono ?_
      rintro e W2 ⟨A1, rfl, hO, hb⟩
      have HS1 := hide (HS.out.push hb (machI (fun k => _) A1 M) (machI_loc _ _ _) hO fun k hk => hk)
      generalize (fun k => _) = D1 at HS1
      have hk1 : k < A1.s.n := by have := hO.is.sess.1; have := hX.out; omega
      have i4 : (k : Int) < (A1.s.n : Int) := by omega
      obtain ⟨bs1, hbs1, _⟩ := MachOwn.sblk hO hk1
      clear HS hb hO hCopy
      replace HS := HS1
      clear HS1
      replace hbs1 := hide hbs1
      go_upto_region 4 with (first | ((with_reducible refine isList ?_); first | (refine st_alloc HS _ rfl rfl zeroML zeroM ?_; clear HS; intro W bo HS) | (refine st_storeA HS 0 rfl _ _ _ rfl rfl rfl _ rfl rfl (by kernel_rfl) rfl ?_; clear HS; intro W HS)))
      replace HS : Hid (St w W [blkI bo (machL A1 M), machI D1 A1 M, blkI br zeroML, blkI bm (machL A M)]) := HS
      have c9 : W.cell? ⟨bm, 9, none⟩ = some (.slice A.s.a A.s.n A.s.c) := (HS.out.blk 3 rfl).cell 9 _ rfl
      rw [hbs] at c9
      have c4 : W.cell? ⟨bs, off + k * 17 + 4, none⟩ = some (.int .i64 0) := by
        obtain ⟨bs', off', hbs', _, hR'⟩ := (HM.out.below HS.out.below).sess.range hk
        rw [hbs] at hbs'; cases hbs'
        rw [← h0]; exact hR' 4 _ rfl
      go_upto_region 5 with fail
      clear c9 c4
      replace hbs1 := hbs1.out
      go_upto_region 6 with (first | ((with_reducible refine isList ?_); first | (refine st_load1 HS 0 rfl _ _ rfl _ rfl rfl (by decide +kernel) rfl ?_) | (refine st_storeNil HS 1 rfl hk1 hbs1 2 (by decide) _ _ _ rfl _ rfl (show _ = k * 17 + 11 from by with_reducible rfl) rfl rfl (by decide +kernel) ?_; clear HS; intro W HS)))
      replace HS : Hid (St w W [blkI bo (machL (A1.setQ k ((A1.q k).setL 2 noSl)) (M.setS k ((M.at k).setL 2 []))), machI D1 (A1.setQ k ((A1.q k).setL 2 noSl)) (M.setS k ((M.at k).setL 2 [])), blkI br zeroML, blkI bm (machL A M)]) := HS
      replace hk1 : k < (A1.setQ k ((A1.q k).setL 2 noSl)).s.n := hk1
      replace i4 : (k : Int) < ((A1.setQ k ((A1.q k).setL 2 noSl)).s.n : Int) := i4
      have hbs2 : A1.s = (A1.setQ k ((A1.q k).setL 2 noSl)).s := rfl
      rw [hbs2] at hbs1
      generalize M.setS k ((M.at k).setL 2 []) = M1 at HS eS
      generalize A1.setQ k ((A1.q k).setL 2 noSl) = A2 at HS hk1 i4 hbs1 hbs2
      replace hbs2 := hide hbs2
      go_upto_region 8 with (first | ((with_reducible refine isList ?_); first | (refine st_load1 HS 0 rfl _ _ rfl _ rfl rfl (by decide +kernel) rfl ?_) | (refine st_storeN HS 1 rfl hk1 hbs1 9 (by decide) _ _ _ rfl _ rfl (show _ = k * 17 + 12 from by with_reducible rfl) rfl rfl (by decide +kernel) ?_; clear HS; intro W HS) | (refine st_storeN HS 1 rfl hk1 hbs1 3 (by decide) _ _ _ rfl _ rfl (show _ = k * 17 + 4 from by with_reducible rfl) rfl rfl (by decide +kernel) ?_; clear HS; intro W HS)))
      replace HS : Hid (St w W [blkI bo (machL A2 ((M1.doN k 9 0).doN k 3 5)), machI D1 A2 ((M1.doN k 9 0).doN k 3 5), blkI br zeroML, blkI bm (machL A M)]) := HS
      generalize (M1.doN k 9 0).doN k 3 5 = N1 at HS eS
      have HB0 := HS.out.blk 0 rfl
      have HB3 := HS.out.blk 3 rfl
      obtain ⟨rn, hrn⟩ : ∃ rn : Int, rn = ((A.q k).r.n : Int) := ⟨_, rfl⟩
      rw [← hrn] at eS
      (try simp only [Act.put, List.setIfInBounds_toArray, List.set_cons_zero, List.set_cons_succ])
      refine wp_region_mask [true, true, true, true, true, true, true, true, true, false, false, false] [false, false, false, false, false, false, false, false, false, true, true, true] [0, 1, 2] (fun w' => Blk w' bo (machL A2 N1) ∧ Blk w' bm (machL A M) ∧ w'.cell? ⟨bs, off + k * 17 + 10, none⟩ = some (.slice (A.q k).r.a (A.q k).r.n (A.q k).r.c)) (by kernel_rfl) (by kernel_rfl) (by kernel_rfl) (by decide +kernel) ⟨HB0.drew, HB3.drew, hcl.out _ HS.out.drew.below⟩ ?_
      intro kne
      simp only [pickAt]
      repeat (first | ((first | (refine wpQuiet_la _ _ rfl bo (0) rfl rfl (by decide +kernel) (machL A2 N1) (by kernel_rfl) (fun w hC => hC.1.range) ?_) | (refine wpQuiet_ld _ _ rfl ⟨bm, 9, none⟩ rfl rfl (by decide +kernel) (fun w hC => hC.2.1.cell 9 _ rfl) ?_) | (refine wpQuiet_ld _ _ rfl ⟨bs, off + k * 17 + 10, none⟩ rfl rfl (by decide +kernel) (fun w hC => hC.2.2) ?_)); simp only [Act.put, List.setIfInBounds_toArray, List.set_cons_zero, List.set_cons_succ]) | go_big_quiet_step (fail))
      refine wpQuiet_nil ?_
      clear kne HB0 HB3
      replace HS := hide HS.out.drew
      generalize W.drew = Wd1 at *
      refine wpRest_cons rfl rfl fun K hK => ?_
      go_big_op
      rw [← hrn]
      refine (rtell_any w _ _ 1 D1 A2 N1 k _ rn HS rfl hk1).mono ?_
      rintro e W4 ⟨D4, A4, rfl, HS2, _⟩
      replace HS2 : Hid (St w W4 [blkI bo (machL A2 N1), machI D4 A4 (tellP N1 k 4 rn), blkI br zeroML, blkI bm (machL A M)]) := HS2
      clear HS
      refine hK _ _ (fun _ => InC.mk ⟨HS2.out.blk 0 rfl, HS2.out.blk 3 rfl, hcl.out _ HS2.out.below⟩) ?_
      clear hK K
      refine wpRest_cons rfl rfl fun K hK => ?_
      refine stw_storeA HS2 2 rfl _ _ _ rfl rfl (machL A4 (tellP N1 k 4 rn)) rfl rfl (by kernel_rfl) rfl ?_
      clear HS2
      intro W5 HS
      refine hK _ _ (fun h => by cases h) ?_
      clear hK K
      refine wpRest_assign _ rfl rfl rfl (wpRest_nil ?_)
      (try simp only [Act.put, List.setIfInBounds_toArray, List.set_cons_zero, List.set_cons_succ])
      refine NoPanic.normal ?_
      go_wp2
      all_goals
        rw [eS.out]
        exact bodyPost_ret (ret_mach2 Tryz.results68 (HS.out.blk 2 rfl) rfl rfl rfl) rfl (mret_of (R := (tellP N1 k 4 rn, 0)) HS.out 1 (D := D4) (A := A4) rfl)
    · have hrb2 : (runP (M.at k) != 5) = true := by simpa using hr
      go_upto_region 2 with fail
      go_wp2_with (first | ((with_reducible refine isList ?_); first | (refine st_storeA HS 0 rfl _ _ _ rfl rfl rfl _ rfl rfl (by kernel_rfl) rfl ?_; clear HS; intro W HS)))
      rw [show parkP M k = (noMach, 2200) by unfold parkP PSess.step; rw [Int.toNat_natCast, decide_eq_false hr, decide_eq_false h5, Bool.or_false, Bool.and_false]; rfl]
      exact bodyPost_ret (ret_mach2 Tryz.results68 (HS.out.blk 0 rfl) rfl rfl rfl) rfl (mret_no HS.out.below)
end Go.Proofs.YtnjognmnbpcaaaaGreat
