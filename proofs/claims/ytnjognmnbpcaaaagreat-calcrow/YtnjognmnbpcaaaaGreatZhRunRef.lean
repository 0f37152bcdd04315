/-
  The document's 'run': a step of a session that runs.
-/
import Derived.Test.YtnjognmnbpcaaaaGreatZhFetchRef
import Derived.Test.YtnjognmnbpcaaaaGreatZlah
import Derived.Test.YtnjognmnbpcaaaaGreatZhParkRef
import Derived.Test.YtnjognmnbpcaaaaGreatZhWritesRef
namespace Go.Proofs.YtnjognmnbpcaaaaGreat
open Go.RowKit
set_option linter.unusedSimpArgs false
set_option linter.unusedVariables false
def runsP (M : PMach) (k : Nat) : PMach × Int :=
  if runP (M.at k) = 2 then (bif (needsP M k).1 then driftP M k else fetchP M k)
  else if runP (M.at k) = 3 then storeP M k
  else if runP (M.at k) = 0 ∨ runP (M.at k) = 1 ∨ runP (M.at k) = 4 then calcP M k
  else if runP (M.at k) = 5 then parkP M k
  else if runP (M.at k) = 6 then endP M k 2 ((M.at k).ins 1)
  else bif atW (M.at k).tn (lz (M.at k).writes) (lz (M.at k).num 1) then
    (bif decide ((M.at k).tn = 0) then (((M.doN k 9 0).doN k 3 1).doN k 3 3, 0) else ((M.doN k 9 0).doN k 3 1, 0))
  else endP M k 3 0
set_option maxRecDepth 100000 in
set_option maxHeartbeats 4000000 in
theorem rrun_any (A : MacM) (M : PMach) (k : Nat) (w : World) (h : MachIs w A M) (hk : k < A.s.n) (hmay : machMay M = true) :
    Calls Tryz.prog 63 #[machA A M, .int .i64 k] w (MRet w (runsP M k)) := by
  have hX := hide h.sess.1
  have hHere := hide fun (i : Int) (W : World) (hb : Below w.heap.size w W) => rhere_any A M i W (h.below hb)
  have hRun := hide fun (k : Nat) (hk : k < A.s.n) (hp : 0 ≤ (M.at k).pc) (W : World) (hb : Below w.heap.size w W) => rrunning_any A M k W (h.below hb) hk hp
  have hNeeds := hide fun (i : Int) (W : World) (hb : Below w.heap.size w W) => rneeds_any A M i W (h.below hb)
  have hAgain := hide fun (i c : Int) (W : World) (hb : Below w.heap.size w W) => ragain_any A M i c W (h.below hb)
  have hEnd := hide fun (i a b : Int) (W : World) (hb : Below w.heap.size w W) => rend_any A M i a b W (h.below hb)
  have hCopy := hide fun (W : World) (hb : Below w.heap.size w W) => rcopyMach_any A M W (h.below hb)
  have hrng := hide fun (k : Nat) (hk : k < A.s.n) (W : World) (hb : Below w.heap.size w W) => (h.below hb).sess.range hk
  have hSes : Hid (∀ (k : Nat) (hk : k < A.s.n) (W : World) (hb : Below w.heap.size w W), SessIs W (A.q k) (M.at k)) := fun k hk W hb => (h.below hb).sess.2.2.2 k hk
  have hIns := hide fun (k : Nat) (hk : k < A.s.n) (hok : SessOk M.lens (M.at k)) (c : Int) (hr : runP (M.at k) = c) (hc : c ≠ -1) => ins_at h hk hok hr hc
  replace hmay := hide hmay
  clear hHere hAgain
  obtain ⟨V0, hV0⟩ : ∃ V0, V0 = machA A M := ⟨_, rfl⟩
  rw [← hV0]
  have HV : Hid (V0.cells = (machL A M).toArray) := by rw [hV0]; rfl
  clear hV0
  have HM := hide h
  have HS := hide (St.refl w)
  clear h
  go_enter Tryz.func63, Tryz.ntmps63
  have hk0 : k < M.sess.length := by have := hX.out; omega
  have hok := hide (here_sess hmay.out hk0)
  have i2 : (k : Int) < (A.s.n : Int) := by omega
  go_upto_region 1 with (first | ((with_reducible refine isList ?_); first | (refine st_box HS _ _ rfl rfl (machL A M) HV.out ?_; clear HS; intro W bm HS) | (refine st_alloc HS _ rfl rfl zeroML zeroM ?_; clear HS; intro W br HS)))
  obtain ⟨bs, off, hbs, hbl, hR⟩ := hrng.out k hk _ HS.out.below
  replace hR := hide hR
  go_upto_region 2 with (first | ((with_reducible refine isList ?_); first | (refine st_load1 HS 1 rfl _ _ rfl _ rfl rfl (by decide +kernel) rfl ?_) | (refine wpList_load_at _ _ rfl rfl bs (off + k * 17) rfl (sessOf (A.q k) (M.at k)) (by decide +kernel) (by kernel_rfl) hR.out ?_) | (refine st_alloc HS _ rfl rfl zeroSL zeroS ?_; clear HS; intro W bx HS) | (refine st_storeA HS 0 rfl _ _ _ rfl rfl rfl _ rfl rfl (by kernel_rfl) rfl ?_; clear HS; intro W HS)))
  replace HS : Hid (St w W [blkI bx (sessL (lz (M.at k).num) (.slice (A.q k).p.a (A.q k).p.n (A.q k).p.c) (.slice (A.q k).r.a (A.q k).r.n (A.q k).r.c) (.slice (A.q k).t.a (A.q k).t.n (A.q k).t.c)), blkI br zeroML, blkI bm (machL A M)]) := HS
  clear hR hbs
  go_wp2_with (first | ((with_reducible refine isList ?_); first | (refine st_loadA HS 2 rfl _ _ rfl rfl rfl (by decide +kernel) (by kernel_rfl) ?_)))
  refine (hRun.out k hk hok.out.pc.1 _ HS.out.below).mono ?_
  rintro e W3 ⟨rfl, hb⟩
  replace HS := hide (HS.out.on hb)
  clear hb hRun
  obtain ⟨c, hc⟩ : ∃ c, c = runP (M.at k) := ⟨_, rfl⟩
  rw [← hc]
  by_cases h2 : c = 2
  · subst h2
    have hr := hc.symm
    replace hc := hide hc
    have eS0 : runsP M k = (bif (needsP M k).1 then driftP M k else fetchP M k) := by unfold runsP; rw [if_pos hr]
    replace hr := hide hr
    go_wp2_with (first | ((with_reducible refine isList ?_); first | (refine st_loadA HS 2 rfl _ _ rfl rfl rfl (by decide +kernel) (by kernel_rfl) ?_)))
    refine (hNeeds.out k _ HS.out.below).mono ?_
    rintro e W4 ⟨rfl, hb⟩
    replace HS := hide (HS.out.on hb)
    clear hb
    cases hn : (needsP M k).1
    · have eS : Hid (runsP M k = fetchP M k) := by show _ = _; rw [eS0, hn]; rfl
      clear eS0
      go_wp2_with (first | ((with_reducible refine isList ?_); first | (refine st_loadA HS 2 rfl _ _ rfl rfl rfl (by decide +kernel) (by kernel_rfl) ?_)))
      refine (rfetch_any A M k _ (HM.out.below HS.out.below)).mono ?_
      (rintro e W2 ⟨A2, rfl, hO, hb⟩; have HS2 := hide (HS.out.push hb (machI (fun k => _) A2 _) (machI_loc _ _ _) hO fun k hk => hk); generalize (fun k => _) = D2 at HS2; clear hO HS hb; replace HS := HS2; clear HS2; go_wp2_with (first | ((with_reducible refine isList ?_); first | (refine st_storeA HS 2 rfl _ _ _ rfl rfl rfl _ rfl rfl (by kernel_rfl) rfl ?_; clear HS; intro W HS))); rw [eS.out]; exact bodyPost_ret (ret_mach2 Tryz.results63 (HS.out.blk 2 rfl) rfl rfl rfl) rfl (mret_of (R := fetchP M k) HS.out 0 (D := D2) (A := A2) rfl))
    · have eS : Hid (runsP M k = driftP M k) := by show _ = _; rw [eS0, hn]; rfl
      clear eS0
      go_wp2_with (first | ((with_reducible refine isList ?_); first | (refine st_loadA HS 2 rfl _ _ rfl rfl rfl (by decide +kernel) (by kernel_rfl) ?_)))
      refine (rdrift_any A M k _ (HM.out.below HS.out.below)).mono ?_
      (rintro e W2 ⟨A2, rfl, hO, hb⟩; have HS2 := hide (HS.out.push hb (machI (fun k => _) A2 _) (machI_loc _ _ _) hO fun k hk => hk); generalize (fun k => _) = D2 at HS2; clear hO HS hb; replace HS := HS2; clear HS2; go_wp2_with (first | ((with_reducible refine isList ?_); first | (refine st_storeA HS 2 rfl _ _ _ rfl rfl rfl _ rfl rfl (by kernel_rfl) rfl ?_; clear HS; intro W HS))); rw [eS.out]; exact bodyPost_ret (ret_mach2 Tryz.results63 (HS.out.blk 2 rfl) rfl rfl rfl) rfl (mret_of (R := driftP M k) HS.out 0 (D := D2) (A := A2) rfl))
  by_cases h3 : c = 3
  · subst h3
    have hr := hc.symm
    replace hc := hide hc
    have eS : Hid (runsP M k = storeP M k) := by show _ = _; unfold runsP; rw [if_neg (by omega), if_pos hr]
    replace hr := hide hr
    go_wp2_with (first | ((with_reducible refine isList ?_); first | (refine st_loadA HS 2 rfl _ _ rfl rfl rfl (by decide +kernel) (by kernel_rfl) ?_)))
    refine (rstore_any A M k _ (HM.out.below HS.out.below)).mono ?_
    (rintro e W2 ⟨A2, rfl, hO, hb⟩; have HS2 := hide (HS.out.push hb (machI (fun k => _) A2 _) (machI_loc _ _ _) hO fun k hk => hk); generalize (fun k => _) = D2 at HS2; clear hO HS hb; replace HS := HS2; clear HS2; go_wp2_with (first | ((with_reducible refine isList ?_); first | (refine st_storeA HS 2 rfl _ _ _ rfl rfl rfl _ rfl rfl (by kernel_rfl) rfl ?_; clear HS; intro W HS))); rw [eS.out]; exact bodyPost_ret (ret_mach2 Tryz.results63 (HS.out.blk 2 rfl) rfl rfl rfl) rfl (mret_of (R := storeP M k) HS.out 0 (D := D2) (A := A2) rfl))
  by_cases h0 : c = 0
  · subst h0
    have hr := hc.symm
    replace hc := hide hc
    have eS : Hid (runsP M k = calcP M k) := by show _ = _; unfold runsP; rw [if_neg (by omega), if_neg (by omega), if_pos (by omega)]
    replace hr := hide hr
    go_wp2_with (first | ((with_reducible refine isList ?_); first | (refine st_loadA HS 2 rfl _ _ rfl rfl rfl (by decide +kernel) (by kernel_rfl) ?_)))
    refine (rcalc_any A M k _ (HM.out.below HS.out.below)).mono ?_
    (rintro e W2 ⟨A2, rfl, hO, hb⟩; have HS2 := hide (HS.out.push hb (machI (fun k => _) A2 _) (machI_loc _ _ _) hO fun k hk => hk); generalize (fun k => _) = D2 at HS2; clear hO HS hb; replace HS := HS2; clear HS2; go_wp2_with (first | ((with_reducible refine isList ?_); first | (refine st_storeA HS 2 rfl _ _ _ rfl rfl rfl _ rfl rfl (by kernel_rfl) rfl ?_; clear HS; intro W HS))); rw [eS.out]; exact bodyPost_ret (ret_mach2 Tryz.results63 (HS.out.blk 2 rfl) rfl rfl rfl) rfl (mret_of (R := calcP M k) HS.out 0 (D := D2) (A := A2) rfl))
  by_cases h1 : c = 1
  · subst h1
    have hr := hc.symm
    replace hc := hide hc
    have eS : Hid (runsP M k = calcP M k) := by show _ = _; unfold runsP; rw [if_neg (by omega), if_neg (by omega), if_pos (by omega)]
    replace hr := hide hr
    go_wp2_with (first | ((with_reducible refine isList ?_); first | (refine st_loadA HS 2 rfl _ _ rfl rfl rfl (by decide +kernel) (by kernel_rfl) ?_)))
    refine (rcalc_any A M k _ (HM.out.below HS.out.below)).mono ?_
    (rintro e W2 ⟨A2, rfl, hO, hb⟩; have HS2 := hide (HS.out.push hb (machI (fun k => _) A2 _) (machI_loc _ _ _) hO fun k hk => hk); generalize (fun k => _) = D2 at HS2; clear hO HS hb; replace HS := HS2; clear HS2; go_wp2_with (first | ((with_reducible refine isList ?_); first | (refine st_storeA HS 2 rfl _ _ _ rfl rfl rfl _ rfl rfl (by kernel_rfl) rfl ?_; clear HS; intro W HS))); rw [eS.out]; exact bodyPost_ret (ret_mach2 Tryz.results63 (HS.out.blk 2 rfl) rfl rfl rfl) rfl (mret_of (R := calcP M k) HS.out 0 (D := D2) (A := A2) rfl))
  by_cases h4 : c = 4
  · subst h4
    have hr := hc.symm
    replace hc := hide hc
    have eS : Hid (runsP M k = calcP M k) := by show _ = _; unfold runsP; rw [if_neg (by omega), if_neg (by omega), if_pos (by omega)]
    replace hr := hide hr
    go_wp2_with (first | ((with_reducible refine isList ?_); first | (refine st_loadA HS 2 rfl _ _ rfl rfl rfl (by decide +kernel) (by kernel_rfl) ?_)))
    refine (rcalc_any A M k _ (HM.out.below HS.out.below)).mono ?_
    (rintro e W2 ⟨A2, rfl, hO, hb⟩; have HS2 := hide (HS.out.push hb (machI (fun k => _) A2 _) (machI_loc _ _ _) hO fun k hk => hk); generalize (fun k => _) = D2 at HS2; clear hO HS hb; replace HS := HS2; clear HS2; go_wp2_with (first | ((with_reducible refine isList ?_); first | (refine st_storeA HS 2 rfl _ _ _ rfl rfl rfl _ rfl rfl (by kernel_rfl) rfl ?_; clear HS; intro W HS))); rw [eS.out]; exact bodyPost_ret (ret_mach2 Tryz.results63 (HS.out.blk 2 rfl) rfl rfl rfl) rfl (mret_of (R := calcP M k) HS.out 0 (D := D2) (A := A2) rfl))
  by_cases h5 : c = 5
  · subst h5
    have hr := hc.symm
    replace hc := hide hc
    have eS : Hid (runsP M k = parkP M k) := by show _ = _; unfold runsP; rw [if_neg (by omega), if_neg (by omega), if_neg (by omega), if_pos hr]
    replace hr := hide hr
    go_wp2_with (first | ((with_reducible refine isList ?_); first | (refine st_loadA HS 2 rfl _ _ rfl rfl rfl (by decide +kernel) (by kernel_rfl) ?_)))
    refine (rpark_any A M k _ (HM.out.below HS.out.below)).mono ?_
    (rintro e W2 ⟨A2, rfl, hO, hb⟩; have HS2 := hide (HS.out.push hb (machI (fun k => _) A2 _) (machI_loc _ _ _) hO fun k hk => hk); generalize (fun k => _) = D2 at HS2; clear hO HS hb; replace HS := HS2; clear HS2; go_wp2_with (first | ((with_reducible refine isList ?_); first | (refine st_storeA HS 2 rfl _ _ _ rfl rfl rfl _ rfl rfl (by kernel_rfl) rfl ?_; clear HS; intro W HS))); rw [eS.out]; exact bodyPost_ret (ret_mach2 Tryz.results63 (HS.out.blk 2 rfl) rfl rfl rfl) rfl (mret_of (R := parkP M k) HS.out 0 (D := D2) (A := A2) rfl))
  by_cases h6 : c = 6
  · subst h6
    have hr := hc.symm
    replace hc := hide hc
    obtain ⟨p, hI⟩ := hIns.out k hk hok.out 6 hr (by decide)
    obtain ⟨av, hav⟩ : ∃ av, av = (M.at k).ins 1 := ⟨_, rfl⟩
    have eS : Hid (runsP M k = endP M k 2 av) := by show _ = _; unfold runsP; rw [if_neg (by omega), if_neg (by omega), if_neg (by omega), if_neg (by omega), if_pos hr, hav]
    have hlt := hI.lt
    have i1 : (p : Int) < ((A.q k).p.n : Int) := by omega
    obtain ⟨bp, op, hbp, _⟩ := (hSes.out k hk _ HS.out.below).2.1.four hlt
    have hpi : Hid (∀ W', Below w.heap.size w W' → W'.cell? ⟨bp, op + p * 4 + 1, none⟩ = some (.int .i64 av)) := fun W' hw => by
      obtain ⟨bp', op', e, _, hR'⟩ := (hSes.out k hk _ hw).2.1.four hlt
      rw [hbp] at e; cases e
      rw [hav, hI.ins 1]
      exact hR' 1 _ rfl
    have hx3 : Hid (∀ W' (b : Nat), Blk W' b (sessL (lz (M.at k).num) (.slice (A.q k).p.a (A.q k).p.n (A.q k).p.c) (.slice (A.q k).r.a (A.q k).r.n (A.q k).r.c) (.slice (A.q k).t.a (A.q k).t.n (A.q k).t.c)) → W'.cell? ⟨b, 3, none⟩ = some (.slice (some ⟨bp, op, none⟩) (A.q k).p.n (A.q k).p.c)) := fun W' b h => by rw [← hbp]; exact h.cell 3 _ rfl
    have hx5 : Hid (∀ W' (b : Nat), Blk W' b (sessL (lz (M.at k).num) (.slice (A.q k).p.a (A.q k).p.n (A.q k).p.c) (.slice (A.q k).r.a (A.q k).r.n (A.q k).r.c) (.slice (A.q k).t.a (A.q k).t.n (A.q k).t.c)) → W'.cell? ⟨b, 5, none⟩ = some (.int .i64 p)) := fun W' b h => by rw [← hI.pc]; exact h.cell 5 _ rfl
    replace hr := hide hr
    clear hbp hav hI hIns
    go_upto_region 17 with fail
    have HB0 := HS.out.blk 0 rfl
    have HB2 := HS.out.blk 2 rfl
    (try simp only [Act.put, List.setIfInBounds_toArray, List.set_cons_zero, List.set_cons_succ])
    refine wp_region_mask [true, true, true, true, true, true, true, true, true, false, false, false, false, false] [false, false, false, false, false, false, false, false, false, true, true, true, true, true] [0, 3, 3, 1, 2] (fun w' => Blk w' bx (sessL (lz (M.at k).num) (.slice (A.q k).p.a (A.q k).p.n (A.q k).p.c) (.slice (A.q k).r.a (A.q k).r.n (A.q k).r.c) (.slice (A.q k).t.a (A.q k).t.n (A.q k).t.c)) ∧ Blk w' bm (machL A M) ∧ w'.cell? ⟨bp, op + p * 4 + 1, none⟩ = some (.int .i64 av)) (by kernel_rfl) (by kernel_rfl) (by kernel_rfl) (by decide +kernel) ⟨HB0.drew, HB2.drew, hpi.out _ HS.out.drew.below⟩ ?_
    intro kne
    simp only [pickAt]
    repeat (first | ((first | (refine wpQuiet_la _ _ rfl bm (0) rfl rfl (by decide +kernel) (machL A M) (by kernel_rfl) (fun w hC => hC.2.1.range) ?_) | (refine wpQuiet_ld _ _ rfl ⟨bx, 3, none⟩ rfl rfl (by decide +kernel) (fun w hC => hx3.out _ _ hC.1) ?_) | (refine wpQuiet_ld _ _ rfl ⟨bx, 5, none⟩ rfl rfl (by decide +kernel) (fun w hC => hx5.out _ _ hC.1) ?_) | (refine wpQuiet_ld _ _ rfl ⟨bp, op + p * 4 + 1, none⟩ rfl rfl (by decide +kernel) (fun w hC => hC.2.2) ?_)); simp only [Act.put, List.setIfInBounds_toArray, List.set_cons_zero, List.set_cons_succ]) | go_big_quiet_step (fail))
    refine wpQuiet_nil ?_
    clear kne HB0 HB2
    replace HS := hide HS.out.drew
    generalize W3.drew = Wd1 at *
    refine wpRest_cons rfl rfl fun K hK => ?_
    go_big_op
    refine (hEnd.out k 2 av _ HS.out.below).mono ?_
    rintro e W2 ⟨A2, rfl, hO, hb⟩
    have HS2 := hide (HS.out.push hb (machI (fun k => _) A2 _) (machI_loc _ _ _) hO fun k hk => hk)
    generalize (fun k => _) = D2 at HS2
    clear hO HS hb
    replace HS := HS2
    clear HS2
    refine hK _ _ (fun _ => InC.mk ⟨HS.out.blk 1 rfl, HS.out.blk 3 rfl, hpi.out _ HS.out.below⟩) ?_
    clear hK K
    (try simp only [Act.put, List.setIfInBounds_toArray, List.set_cons_zero, List.set_cons_succ])
    refine wpRest_extract _ 0 rfl rfl rfl rfl ?_
    (try simp only [Act.put, List.setIfInBounds_toArray, List.set_cons_zero, List.set_cons_succ])
    refine wpRest_extract _ 1 rfl rfl rfl rfl ?_
    (try simp only [Act.put, List.setIfInBounds_toArray, List.set_cons_zero, List.set_cons_succ])
    refine wpRest_cons rfl rfl fun K hK => ?_
    refine stw_storeA HS 2 rfl _ _ _ rfl rfl (machL A2 (endP M k 2 av).1) rfl rfl (by kernel_rfl) rfl ?_
    clear HS
    intro W5 HS
    refine hK _ _ (fun h => by cases h) ?_
    clear hK K
    (try simp only [Act.put, List.setIfInBounds_toArray, List.set_cons_zero, List.set_cons_succ])
    refine wpRest_assign _ rfl rfl rfl (wpRest_nil ?_)
    (try simp only [Act.put, List.setIfInBounds_toArray, List.set_cons_zero, List.set_cons_succ])
    refine NoPanic.normal ?_
    go_wp2
    all_goals
      rw [eS.out]
      exact bodyPost_ret (ret_mach2 Tryz.results63 (HS.out.blk 2 rfl) rfl rfl rfl) rfl (mret_of (R := endP M k 2 av) HS.out 0 (D := D2) (A := A2) rfl)
  obtain ⟨hl14, hsP, hsR, hsT⟩ := hSes.out k hk _ HS.out.below
  have eT : (M.at k).tn = (A.q k).t.n := hsT.len (by decide)
  have eS : Hid (runsP M k = bif atW (A.q k).t.n (lz (M.at k).writes) (lz (M.at k).num 1) then (bif decide ((A.q k).t.n = 0) then (((M.doN k 9 0).doN k 3 1).doN k 3 3, 0) else ((M.doN k 9 0).doN k 3 1, 0)) else endP M k 3 0) := by
    show _ = _; unfold runsP; rw [← hc, if_neg (by omega), if_neg (by omega), if_neg (by omega), if_neg (by omega), if_neg (by omega), eT]
  have hAt := hide fun (W : World) (hb : Below w.heap.size w W) => rwritesAt_any (A.q k).t.a (A.q k).t.n (A.q k).t.c (lz (M.at k).writes) (lz (M.at k).num 1) W (by have := hsT.2.1.1; omega) ((hSes.out k hk W hb).2.2.2.2.2)
  have hb2 : (c == 2) = false := by simpa using h2
  have hb3 : (c == 3) = false := by simpa using h3
  have hb0 : (c == 0) = false := by simpa using h0
  have hb1 : (c == 1) = false := by simpa using h1
  have hb4 : (c == 4) = false := by simpa using h4
  have hb5 : (c == 5) = false := by simpa using h5
  have hb6 : (c == 6) = false := by simpa using h6
  replace hc := hide hc
  clear hl14 hsP hsR hsT eT h2 h3 h0 h1 h4 h5 h6
  go_upto_region 18 with fail
  go_wp2_with (first | ((with_reducible refine isList ?_); first | (refine st_load1 HS 0 rfl _ _ rfl _ rfl rfl (by decide +kernel) rfl ?_)))
  refine (hAt.out _ HS.out.below).mono ?_
  rintro e w' ⟨rfl, q, rfl⟩
  replace HS := hide (HS.out.drawn q)
  generalize W3.drewN q = Wq at *
  clear hAt
  cases ha : atW (A.q k).t.n (lz (M.at k).writes) (lz (M.at k).num 1)
  · rw [ha] at eS
    replace ha := hide ha
    go_wp2_with (first | ((with_reducible refine isList ?_); first | (refine st_loadA HS 2 rfl _ _ rfl rfl rfl (by decide +kernel) (by kernel_rfl) ?_)))
    refine (hEnd.out k 3 0 _ HS.out.below).mono ?_
    (rintro e W2 ⟨A2, rfl, hO, hb⟩; have HS2 := hide (HS.out.push hb (machI (fun k => _) A2 _) (machI_loc _ _ _) hO fun k hk => hk); generalize (fun k => _) = D2 at HS2; clear hO HS hb; replace HS := HS2; clear HS2; go_wp2_with (first | ((with_reducible refine isList ?_); first | (refine st_storeA HS 2 rfl _ _ _ rfl rfl rfl _ rfl rfl (by kernel_rfl) rfl ?_; clear HS; intro W HS))); rw [eS.out]; exact bodyPost_ret (ret_mach2 Tryz.results63 (HS.out.blk 2 rfl) rfl rfl rfl) rfl (mret_of (R := endP M k 3 0) HS.out 0 (D := D2) (A := A2) rfl))
  · rw [ha] at eS
    replace ha := hide ha
    go_wp2_with (first | ((with_reducible refine isList ?_); first | (refine st_loadA HS 2 rfl _ _ rfl rfl rfl (by decide +kernel) (by kernel_rfl) ?_)))
    refine (hCopy.out _ HS.out.below).mono ?_
    rintro e W2 ⟨A1, rfl, hO, hb⟩
    have HS1 := hide (HS.out.push hb (machI (fun k => _) A1 M) (machI_loc _ _ _) hO fun k hk => hk)
    generalize (fun k => _) = D1 at HS1
    have hk1 : k < A1.s.n := by have := hO.is.sess.1; have := hX.out; omega
    have i4 : (k : Int) < (A1.s.n : Int) := by omega
    obtain ⟨bs1, hbs1, _⟩ := MachOwn.sblk hO hk1
    clear HS hb hO hCopy
    replace HS := HS1
    clear HS1
    go_upto_region 23 with (first | ((with_reducible refine isList ?_); first | (refine st_alloc HS _ rfl rfl zeroML zeroM ?_; clear HS; intro W bo HS) | (refine st_storeA HS 0 rfl _ _ _ rfl rfl rfl _ rfl rfl (by kernel_rfl) rfl ?_; clear HS; intro W HS) | (refine st_load1 HS 0 rfl _ _ rfl _ rfl rfl (by decide +kernel) rfl ?_) | (refine st_storeN HS 1 rfl hk1 hbs1 9 (by decide) _ _ _ rfl _ rfl (show _ = k * 17 + 12 from by with_reducible rfl) rfl rfl (by decide +kernel) ?_; clear HS; intro W HS) | (refine st_storeN HS 1 rfl hk1 hbs1 3 (by decide) _ _ _ rfl _ rfl (show _ = k * 17 + 4 from by with_reducible rfl) rfl rfl (by decide +kernel) ?_; clear HS; intro W HS)))
    replace HS : Hid (St w W [blkI bo (machL A1 ((M.doN k 9 0).doN k 3 1)), machI D1 A1 ((M.doN k 9 0).doN k 3 1), blkI bx (sessL (lz (M.at k).num) (.slice (A.q k).p.a (A.q k).p.n (A.q k).p.c) (.slice (A.q k).r.a (A.q k).r.n (A.q k).r.c) (.slice (A.q k).t.a (A.q k).t.n (A.q k).t.c)), blkI br zeroML, blkI bm (machL A M)]) := HS
    generalize (M.doN k 9 0).doN k 3 1 = N1 at HS eS
    by_cases ht : (A.q k).t.n = 0
    · have htb : ((A.q k).t.n : Int) = 0 := by omega
      rw [decide_eq_true ht] at eS
      replace ht := hide ht
      go_wp2_with (first | ((with_reducible refine isList ?_); first | (refine st_load1 HS 2 rfl _ _ rfl _ rfl rfl (by decide +kernel) rfl ?_) | (refine st_load1 HS 0 rfl _ _ rfl _ rfl rfl (by decide +kernel) rfl ?_) | (refine st_storeN HS 1 rfl hk1 hbs1 3 (by decide) _ _ _ rfl _ rfl (show _ = k * 17 + 4 from by with_reducible rfl) rfl rfl (by decide +kernel) ?_; clear HS; intro W HS) | (refine st_loadA HS 0 rfl _ _ rfl rfl rfl (by decide +kernel) (by kernel_rfl) ?_) | (refine st_storeA HS 3 rfl _ _ _ rfl rfl rfl _ rfl rfl (by kernel_rfl) rfl ?_; clear HS; intro W HS)))
      rw [eS.out]
      exact bodyPost_ret (ret_mach2 Tryz.results63 (HS.out.blk 3 rfl) rfl rfl rfl) rfl (mret_of (R := (N1.doN k 3 3, 0)) HS.out 1 (D := D1) (A := A1) rfl)
    · have htb : ¬ ((A.q k).t.n : Int) = 0 := by omega
      rw [decide_eq_false ht] at eS
      replace ht := hide ht
      go_wp2_with (first | ((with_reducible refine isList ?_); first | (refine st_load1 HS 2 rfl _ _ rfl _ rfl rfl (by decide +kernel) rfl ?_) | (refine st_loadA HS 0 rfl _ _ rfl rfl rfl (by decide +kernel) (by kernel_rfl) ?_) | (refine st_storeA HS 3 rfl _ _ _ rfl rfl rfl _ rfl rfl (by kernel_rfl) rfl ?_; clear HS; intro W HS)))
      rw [eS.out]
      exact bodyPost_ret (ret_mach2 Tryz.results63 (HS.out.blk 3 rfl) rfl rfl rfl) rfl (mret_of (R := (N1, 0)) HS.out 1 (D := D1) (A := A1) rfl)
end Go.Proofs.YtnjognmnbpcaaaaGreat
