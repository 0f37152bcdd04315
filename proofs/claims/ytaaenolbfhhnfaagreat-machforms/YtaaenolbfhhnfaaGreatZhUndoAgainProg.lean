/-
  The landed undo.Again; that the machine which it hands to Tell may be is a premise here.
-/
import Derived.Test.YtaaenolbfhhnfaaGreatZlbc
import Derived.Test.YtaaenolbfhhnfaaGreatZhUndoRef
namespace Go.Proofs.YtaaenolbfhhnfaaGreat
open Go.RowKit
set_option linter.unusedSimpArgs false
set_option linter.unusedVariables false
theorem doN_len (N : PMach) (k j : Nat) (v : Int) : (N.doN k j v).sess.length = N.sess.length := by show (N.sess.set k _).length = _; rw [List.length_set]
theorem doN_lz {N : PMach} {k j c : Nat} {v : Int} (hk : k < N.sess.length) (h : j ≠ c) : lz ((N.doN k j v).at k).num c = lz (N.at k).num c := by
  have : (N.doN k j v).at k = (N.at k).setN j v := getD_set_eq _ _ hk
  rw [this]
  unfold PSess.setN lz
  simp only [List.getD_eq_getElem?_getD, List.getElem?_set, if_neg h]
/-- What Again hands to Tell. -/
def againM (M : PMach) (k : Nat) : PMach := ((((looseP M k).doN k 3 0).doN k 4 0).doR k 0 0 0 0).doN k 11 (triesP M k)
set_option maxRecDepth 100000 in
set_option maxHeartbeats 4000000 in
theorem undoAgain_of (A : MacM) (M : PMach) (i kind : Int) (w : World) (h : MachIs w A M) (hT : ∀ k : Nat, hereP M k = true → (kind = 3 ∨ kind = 5) → lz ((looseP M k).at k).num 11 = lz (M.at k).num 11 ∧ tellingP (againM M k) k kind (triesP M k) = againP M k kind) :
    Calls Tryz.prog 89 #[machA A M, .int .i64 i, .int .i64 kind] w (MRet w (againP M i kind)) := by
  have hX := hide h.sess.1
  have hHas := hide fun (W : World) (hb : Below w.heap.size w W) => undoHas_any A M i W (h.below hb)
  have hLet := hide fun (k : Nat) (hk : k < A.s.n) (W : World) (hb : Below w.heap.size w W) => letGo_any A M k W (h.below hb) hk
  replace hT := hide hT
  obtain ⟨V0, hV0⟩ : ∃ V0, V0 = machA A M := ⟨_, rfl⟩
  rw [← hV0]
  have HV : Hid (V0.cells = (machL A M).toArray) := by rw [hV0]; rfl
  clear hV0
  have HM := hide h
  have HS := hide (St.refl w)
  clear h
  go_enter Tryz.func89, Tryz.ntmps89
  go_wp2_with (first | ((with_reducible refine isList ?_); first | (refine st_box HS _ _ rfl rfl (machL A M) HV.out ?_; clear HS; intro W bm HS) | (refine st_alloc HS _ rfl rfl zeroML zeroM ?_; clear HS; intro W br HS) | (refine st_loadA HS 1 rfl _ _ rfl rfl rfl (by decide +kernel) (by kernel_rfl) ?_)))
  refine (hHas.out _ HS.out.below).mono ?_
  rintro e W1 ⟨rfl, hb⟩
  replace HS := hide (HS.out.on hb)
  clear hb hHas
  cases hh : hereP M i
  case false =>
    go_upto_region 2 with fail
    go_wp2_with (first | ((with_reducible refine isList ?_); first | (refine st_storeA HS 0 rfl _ _ _ rfl rfl rfl _ rfl rfl (by kernel_rfl) rfl ?_; clear HS; intro W HS)))
    rw [show againP M i kind = (noMach, 1300) by unfold againP; rw [hh]; rfl]
    exact bodyPost_ret (ret_mach2 Tryz.results89 (HS.out.blk 0 rfl) rfl rfl rfl) rfl (mret_no HS.out.below)
  replace hh := hide hh
  obtain ⟨hmay, k, rfl, hk0⟩ := hereP_yes hh.out
  have hk : k < A.s.n := by have := hX.out; omega
  by_cases hu : kind = 3 ∨ kind = 5
  case neg =>
    have hn3 : ¬ kind = 3 := fun h => hu (.inl h)
    have hn5 : ¬ kind = 5 := fun h => hu (.inr h)
    have hm3 : (kind != 3) = true := by simpa using hn3
    have hm5 : (kind != 5) = true := by simpa using hn5
    have eA : againP M k kind = (noMach, 1300) := by
      unfold againP
      rw [show (kind == 3) = false by simpa using hn3, show (kind == 5) = false by simpa using hn5, Bool.or_false, Bool.and_false]; rfl
    replace hu := hide hu
    replace hn3 := hide hn3
    replace hn5 := hide hn5
    go_upto_region 2 with fail
    go_wp2_with (first | ((with_reducible refine isList ?_); first | (refine st_storeA HS 0 rfl _ _ _ rfl rfl rfl _ rfl rfl (by kernel_rfl) rfl ?_; clear HS; intro W HS)))
    rw [eA]
    exact bodyPost_ret (ret_mach2 Tryz.results89 (HS.out.blk 0 rfl) rfl rfl rfl) rfl (mret_no HS.out.below)
  obtain ⟨e11, eS⟩ := hT.out k hh.out hu
  replace eS := hide eS.symm
  obtain ⟨t, ht⟩ : ∃ t, t = lz (M.at k).num 11 := ⟨_, rfl⟩
  have htr : triesP M k = if 65535 < wrap64 (t + 1) then 65535 else wrap64 (t + 1) := by unfold triesP; rw [← ht]
  rw [← ht] at e11
  replace e11 := hide e11
  clear hmay ht
  unfold againM at eS
  rw [htr] at eS
  clear htr hT
  rcases hu with rfl | rfl
  all_goals
    go_upto_region 3 with fail
    go_wp2_with (first | ((with_reducible refine isList ?_); first | (refine st_loadA HS 1 rfl _ _ rfl rfl rfl (by decide +kernel) (by kernel_rfl) ?_)))
    refine (hLet.out k hk _ HS.out.below).mono ?_
    rintro e W2 ⟨A1, rfl, hO, hn1, hb⟩
    have HS1 := hide (HS.out.push hb (machI (fun k => _) A1 _) (machI_loc _ _ _) hO fun k hk => hk)
    generalize (fun k => _) = D1 at HS1
    have hk1 : k < A1.s.n := by omega
    have i4 : (k : Int) < (A1.s.n : Int) := by omega
    obtain ⟨bs1, hbs1, _⟩ := MachOwn.sblk hO hk1
    clear HS hb hO hLet
    replace HS := HS1
    clear HS1
    have hkN : k < (looseP M k).sess.length := by have := (HS.out.get 0 (x := machI D1 A1 (looseP M k)) rfl : MachOwn D1 _ A1 _).is.sess.1; omega
    generalize looseP M k = N0 at HS eS e11 hkN
    go_upto_region 4 with (first | ((with_reducible refine isList ?_); first | (refine st_alloc HS _ rfl rfl zeroML zeroM ?_; clear HS; intro W bo HS) | (refine st_storeA HS 0 rfl _ _ _ rfl rfl rfl _ rfl rfl (by kernel_rfl) rfl ?_; clear HS; intro W HS)))
    go_upto_region 6 with (first | ((with_reducible refine isList ?_); first | (refine st_load1 HS 0 rfl _ _ rfl _ rfl rfl (by decide +kernel) rfl ?_) | (refine st_storeN HS 1 rfl hk1 hbs1 3 (by decide) _ _ _ rfl _ rfl (show _ = k * 17 + 4 from by with_reducible rfl) rfl rfl (by decide +kernel) ?_; clear HS; intro W HS) | (refine st_storeN HS 1 rfl hk1 hbs1 4 (by decide) _ _ _ rfl _ rfl (show _ = k * 17 + 5 from by with_reducible rfl) rfl rfl (by decide +kernel) ?_; clear HS; intro W HS) | (refine st_storeG HS 1 rfl hk1 hbs1 _ _ _ rfl _ rfl (show _ = k * 17 + 6 from by with_reducible rfl) rfl (r0 := 0) (r1 := 0) (r2 := 0) (r3 := 0) rfl (by decide +kernel) ?_; clear HS; intro W HS)))
    replace HS : Hid (St w W [blkI bo (machL A1 (((N0.doN k 3 0).doN k 4 0).doR k 0 0 0 0)), machI D1 A1 (((N0.doN k 3 0).doN k 4 0).doR k 0 0 0 0), blkI br zeroML, blkI bm (machL A M)]) := HS
    have e14 : lz ((((N0.doN k 3 0).doN k 4 0).doR k 0 0 0 0).at k).num 11 = t := by
      unfold PMach.doR
      rw [doN_lz (by rw [doN_len, doN_len, doN_len, doN_len, doN_len]; exact hkN) (by decide), doN_lz (by rw [doN_len, doN_len, doN_len, doN_len]; exact hkN) (by decide), doN_lz (by rw [doN_len, doN_len, doN_len]; exact hkN) (by decide), doN_lz (by rw [doN_len, doN_len]; exact hkN) (by decide), doN_lz (by rw [doN_len]; exact hkN) (by decide), doN_lz hkN (by decide)]
      exact e11.out
    generalize ((N0.doN k 3 0).doN k 4 0).doR k 0 0 0 0 = N2 at HS eS e14
    have hv14 : Hid ((sessOf (A1.q k) (N2.at k))[14]? = some (.int .i64 t)) := by show _ = _; rw [← e14]; rfl
    clear e14 e11 hkN
    obtain ⟨T, hTT⟩ : ∃ T, T = if 65535 < wrap64 (t + 1) then 65535 else wrap64 (t + 1) := ⟨_, rfl⟩
    rw [← hTT] at eS
    by_cases hmin : 65535 < wrap64 (t + 1)
    · rw [if_pos hmin] at hTT
      go_upto_region 7 with (first | ((with_reducible refine isList ?_); first | (refine st_loadS (MachOwn.is (HS.out.get 1 (x := machI D1 A1 N2) rfl)) hk1 hbs1 14 (by decide) hv14.out _ _ rfl _ rfl (by rw [Nat.zero_add] <;> rfl) rfl (by decide +kernel) ?_) | (refine st_storeN HS 1 rfl hk1 hbs1 11 (by decide) _ _ _ rfl _ rfl (show _ = k * 17 + 14 from by with_reducible rfl) rfl rfl (by decide +kernel) ?_; clear HS; intro W HS)))
      replace HS : Hid (St w W [blkI bo (machL A1 N2), machI D1 A1 (N2.doN k 11 65535), blkI br zeroML, blkI bm (machL A M)]) := HS
      rw [← hTT] at HS
      have eL : machL A1 N2 = machL A1 (N2.doN k 11 T) := rfl
      rw [eL] at HS
      have hM1 : MachOwn D1 W A1 (N2.doN k 11 T) := HS.out.get 1 (x := machI D1 A1 (N2.doN k 11 T)) rfl
      have hnum := doN_num hM1 hk1 (by decide)
      have hcl : Hid (∀ W', MachOwn D1 W' A1 (N2.doN k 11 T) → W'.cell? ⟨bs1, k * 17 + 14, none⟩ = some (.int .i64 T)) := fun W' hm => by
        have := hm.is.scell hk1 14 (by decide) rfl hbs1
        rw [← hnum]; exact this
      clear hM1 hnum eL hv14
      replace hTT := hide hTT
      replace hmin := hide hmin
      generalize N2.doN k 11 T = N3 at HS eS hcl
      have HB := HS.out.blk 0 rfl
      have hc0 := hcl.out _ (HS.out.get 1 (x := machI D1 A1 N3) rfl)
      (try simp only [Act.put, List.setIfInBounds_toArray, List.set_cons_zero, List.set_cons_succ])
      refine wp_region_mask [true, true, true, true, true, true, true, false, false, false, false, false] [false, false, false, false, false, false, false, true, true, true, true, true] [0, 3, 3, 1, 2] (fun w' => Blk w' bo (machL A1 N3) ∧ w'.cell? ⟨bs1, k * 17 + 14, none⟩ = some (.int .i64 T)) (by kernel_rfl) (by kernel_rfl) (by kernel_rfl) (by decide +kernel) ⟨HB.drew, hc0⟩ ?_
      intro kne
      simp only [pickAt]
      repeat (first | ((first | (refine wpQuiet_la _ _ rfl bo (0) rfl rfl (by decide +kernel) (machL A1 N3) (by kernel_rfl) (fun w hC => hC.1.range) ?_) | (refine wpQuiet_ld _ _ rfl ⟨bs1, k * 17 + 14, none⟩ rfl rfl (by decide +kernel) (fun w hC => hC.2) ?_)); simp only [Act.put, List.setIfInBounds_toArray, List.set_cons_zero, List.set_cons_succ]) | go_big_quiet_step (fail))
      refine wpQuiet_nil ?_
      clear kne HB hc0
      replace HS := hide HS.out.drew
      generalize W.drew = Wd at *
      refine wpRest_cons rfl rfl fun K hK => ?_
      go_big_op
      refine (gtelling_any A1 N3 k _ T _ (MachOwn.is (HS.out.get 1 (x := machI D1 A1 N3) rfl))).mono ?_
      rintro e W4 ⟨A2, rfl, hO, hb⟩
      have HS2 := hide (HS.out.push hb (machI (fun k => _) A2 _) (machI_loc _ _ _) hO fun k hk => hk)
      generalize (fun k => _) = D2 at HS2
      clear hO HS hb
      replace HS := HS2
      clear HS2
      refine hK _ _ (fun _ => InC.mk ⟨HS.out.blk 1 rfl, hcl.out _ (HS.out.get 2 (x := machI D1 A1 N3) rfl)⟩) ?_
      clear hK K
      (try simp only [Act.put, List.setIfInBounds_toArray, List.set_cons_zero, List.set_cons_succ])
      refine wpRest_extract _ 0 rfl rfl rfl rfl ?_
      (try simp only [Act.put, List.setIfInBounds_toArray, List.set_cons_zero, List.set_cons_succ])
      refine wpRest_extract _ 1 rfl rfl rfl rfl ?_
      (try simp only [Act.put, List.setIfInBounds_toArray, List.set_cons_zero, List.set_cons_succ])
      refine wpRest_cons rfl rfl fun K hK => ?_
      refine stw_storeA HS 3 rfl _ _ _ rfl rfl (machL A2 (tellingP N3 k _ T).1) rfl rfl (by kernel_rfl) rfl ?_
      clear HS
      intro W5 HS
      refine hK _ _ (fun h => by cases h) ?_
      clear hK K
      (try simp only [Act.put, List.setIfInBounds_toArray, List.set_cons_zero, List.set_cons_succ])
      refine wpRest_assign _ rfl rfl rfl (wpRest_nil ?_)
      (try simp only [Act.put, List.setIfInBounds_toArray, List.set_cons_zero, List.set_cons_succ])
      refine NoPanic.normal ?_
      go_wp2
      all_goals
        rw [eS.out]
        exact bodyPost_ret (ret_mach2 Tryz.results89 (HS.out.blk 3 rfl) rfl rfl rfl) rfl (mret_of (R := tellingP N3 k _ T) HS.out 0 (D := D2) (A := A2) rfl)
    · rw [if_neg hmin] at hTT
      go_upto_region 7 with (first | ((with_reducible refine isList ?_); first | (refine st_loadS (MachOwn.is (HS.out.get 1 (x := machI D1 A1 N2) rfl)) hk1 hbs1 14 (by decide) hv14.out _ _ rfl _ rfl (by rw [Nat.zero_add] <;> rfl) rfl (by decide +kernel) ?_) | (refine st_storeN HS 1 rfl hk1 hbs1 11 (by decide) _ _ _ rfl _ rfl (show _ = k * 17 + 14 from by with_reducible rfl) rfl rfl (by decide +kernel) ?_; clear HS; intro W HS)))
      replace HS : Hid (St w W [blkI bo (machL A1 N2), machI D1 A1 (N2.doN k 11 (wrap64 (t + 1))), blkI br zeroML, blkI bm (machL A M)]) := HS
      rw [← hTT] at HS
      have eL : machL A1 N2 = machL A1 (N2.doN k 11 T) := rfl
      rw [eL] at HS
      have hM1 : MachOwn D1 W A1 (N2.doN k 11 T) := HS.out.get 1 (x := machI D1 A1 (N2.doN k 11 T)) rfl
      have hnum := doN_num hM1 hk1 (by decide)
      have hcl : Hid (∀ W', MachOwn D1 W' A1 (N2.doN k 11 T) → W'.cell? ⟨bs1, k * 17 + 14, none⟩ = some (.int .i64 T)) := fun W' hm => by
        have := hm.is.scell hk1 14 (by decide) rfl hbs1
        rw [← hnum]; exact this
      clear hM1 hnum eL hv14
      replace hTT := hide hTT
      replace hmin := hide hmin
      generalize N2.doN k 11 T = N3 at HS eS hcl
      have HB := HS.out.blk 0 rfl
      have hc0 := hcl.out _ (HS.out.get 1 (x := machI D1 A1 N3) rfl)
      (try simp only [Act.put, List.setIfInBounds_toArray, List.set_cons_zero, List.set_cons_succ])
      refine wp_region_mask [true, true, true, true, true, true, true, false, false, false, false, false] [false, false, false, false, false, false, false, true, true, true, true, true] [0, 3, 3, 1, 2] (fun w' => Blk w' bo (machL A1 N3) ∧ w'.cell? ⟨bs1, k * 17 + 14, none⟩ = some (.int .i64 T)) (by kernel_rfl) (by kernel_rfl) (by kernel_rfl) (by decide +kernel) ⟨HB.drew, hc0⟩ ?_
      intro kne
      simp only [pickAt]
      repeat (first | ((first | (refine wpQuiet_la _ _ rfl bo (0) rfl rfl (by decide +kernel) (machL A1 N3) (by kernel_rfl) (fun w hC => hC.1.range) ?_) | (refine wpQuiet_ld _ _ rfl ⟨bs1, k * 17 + 14, none⟩ rfl rfl (by decide +kernel) (fun w hC => hC.2) ?_)); simp only [Act.put, List.setIfInBounds_toArray, List.set_cons_zero, List.set_cons_succ]) | go_big_quiet_step (fail))
      refine wpQuiet_nil ?_
      clear kne HB hc0
      replace HS := hide HS.out.drew
      generalize W.drew = Wd at *
      refine wpRest_cons rfl rfl fun K hK => ?_
      go_big_op
      refine (gtelling_any A1 N3 k _ T _ (MachOwn.is (HS.out.get 1 (x := machI D1 A1 N3) rfl))).mono ?_
      rintro e W4 ⟨A2, rfl, hO, hb⟩
      have HS2 := hide (HS.out.push hb (machI (fun k => _) A2 _) (machI_loc _ _ _) hO fun k hk => hk)
      generalize (fun k => _) = D2 at HS2
      clear hO HS hb
      replace HS := HS2
      clear HS2
      refine hK _ _ (fun _ => InC.mk ⟨HS.out.blk 1 rfl, hcl.out _ (HS.out.get 2 (x := machI D1 A1 N3) rfl)⟩) ?_
      clear hK K
      (try simp only [Act.put, List.setIfInBounds_toArray, List.set_cons_zero, List.set_cons_succ])
      refine wpRest_extract _ 0 rfl rfl rfl rfl ?_
      (try simp only [Act.put, List.setIfInBounds_toArray, List.set_cons_zero, List.set_cons_succ])
      refine wpRest_extract _ 1 rfl rfl rfl rfl ?_
      (try simp only [Act.put, List.setIfInBounds_toArray, List.set_cons_zero, List.set_cons_succ])
      refine wpRest_cons rfl rfl fun K hK => ?_
      refine stw_storeA HS 3 rfl _ _ _ rfl rfl (machL A2 (tellingP N3 k _ T).1) rfl rfl (by kernel_rfl) rfl ?_
      clear HS
      intro W5 HS
      refine hK _ _ (fun h => by cases h) ?_
      clear hK K
      (try simp only [Act.put, List.setIfInBounds_toArray, List.set_cons_zero, List.set_cons_succ])
      refine wpRest_assign _ rfl rfl rfl (wpRest_nil ?_)
      (try simp only [Act.put, List.setIfInBounds_toArray, List.set_cons_zero, List.set_cons_succ])
      refine NoPanic.normal ?_
      go_wp2
      all_goals
        rw [eS.out]
        exact bodyPost_ret (ret_mach2 Tryz.results89 (HS.out.blk 3 rfl) rfl rfl rfl) rfl (mret_of (R := tellingP N3 k _ T) HS.out 0 (D := D2) (A := A2) rfl)
end Go.Proofs.YtaaenolbfhhnfaaGreat
