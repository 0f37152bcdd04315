/-
  The document's Again and End.
-/
import Derived.Test.YtnjognmnbpcaaaaGreatZlag
namespace Go.Proofs.YtnjognmnbpcaaaaGreat
open Go.RowKit
set_option linter.unusedSimpArgs false
set_option linter.unusedVariables false
def PMach.doR (M : PMach) (k : Nat) (r0 r1 r2 r3 : Int) : PMach := (((M.doN k 5 r0).doN k 6 r1).doN k 7 r2).doN k 8 r3
theorem MachOwn.turnR {D : Nat → Prop} {W : World} {A : MacM} {M : PMach} (h : MachOwn D W A M) {i b : Nat} (hi' : i < A.s.n) (hb : A.s.a = some ⟨b, 0, none⟩) (r0 r1 r2 r3 : Int) :
    MachOwn D (W.setCells b (i * 17 + 6) [.int .i64 r0, .int .i64 r1, .int .i64 r2, .int .i64 r3]) A (M.doR i r0 r1 r2 r3) :=
  (((h.turnN hi' hb (by decide : 5 < 14) r0).turnN hi' hb (by decide : 6 < 14) r1).turnN hi' hb (by decide : 7 < 14) r2).turnN hi' hb (by decide : 8 < 14) r3
section
variable {w0 w : World} {L : List Itm} {P : Program} {ops : Array Oper} {rest : List Oper} {op : Oper} {a : Act} {K : Act → World → Prop} {Q : Exit → Act → World → Prop} {D : Nat → Prop} {A : MacM} {M : PMach}
/-- The registers, all four. -/
theorem stw_storeG (HS : Hid (St w0 w L)) (i : Nat) (ei : L[i]? = some (machI D A M)) {k bs : Nat} (hk : k < A.s.n) (hbs : A.s.a = some ⟨bs, 0, none⟩) (ty : TypeId) (x y : Operand) (ho : op.op = .store ty x y) (o : Nat) (hx : a.eval x = .pointer (some ⟨bs, o, none⟩)) (ho' : o = k * 17 + 6)
    {r0 r1 r2 r3 : Int} (hy : ValOf a y (.agg #[.int .i64 r0, .int .i64 r1, .int .i64 r2, .int .i64 r3])) (hi : (P.info? ty).map (·.size) = some 4) (hw : ∀ W, Hid (St w0 W (L.set i (machI D A (M.doR k r0 r1 r2 r3)))) → K (a.put op.dst undef) W) : op.wp P a w K Q := by
  have hM : MachOwn D w A M := HS.out.get i ei
  obtain ⟨b, e, hD, l, hl⟩ := hM.sblk hk
  rw [hbs] at e; cases e
  subst ho'
  have hc : ∀ c, c < 17 → ∃ u, w.cell? ⟨bs, k * 17 + c, none⟩ = some u := fun c hc => by
    obtain ⟨b2, off, e2, _, hcc⟩ := hM.is.sess.cell hk hc
    rw [hbs] at e2; cases e2
    rw [Nat.zero_add] at hcc
    exact ⟨_, hcc⟩
  refine wp_store_mid ty x y ho bs (k * 17 + 6) #[.int .i64 r0, .int .i64 r1, .int .i64 r2, .int .i64 r3] hx hy.eval (fun j hj => ?_) hi (by simp [Value.oneCell']) (hw _ (HS.out.set i ei _ ?_ (machI_loc _ _ _) (hM.turnR hk hbs r0 r1 r2 r3) fun k hk => .inl hk))
  · obtain ⟨u, hu⟩ := hc (6 + j) (by have : j < 4 := hj; omega)
    rw [show k * 17 + 6 + j = k * 17 + (6 + j) by omega]
    exact ⟨by rw [hu]; rfl, hl.frozen _⟩
  · exact (chg_touch (Touch.setCells _ _ _)).mono fun k _ hk => by
      obtain rfl : k = bs := by omega
      exact hD
theorem st_storeG (HS : Hid (St w0 w L)) (i : Nat) (ei : L[i]? = some (machI D A M)) {k bs : Nat} (hk : k < A.s.n) (hbs : A.s.a = some ⟨bs, 0, none⟩) (ty : TypeId) (x y : Operand) (ho : op.op = .store ty x y) (o : Nat) (hx : a.eval x = .pointer (some ⟨bs, o, none⟩)) (ho' : o = k * 17 + 6) (hgd : Region.wanted op (yielded ops a.tmps) = true)
    {r0 r1 r2 r3 : Int} (hy : ValOf a y (.agg #[.int .i64 r0, .int .i64 r1, .int .i64 r2, .int .i64 r3])) (hi : (P.info? ty).map (·.size) = some 4) (hw : ∀ W, Hid (St w0 W (L.set i (machI D A (M.doR k r0 r1 r2 r3)))) → wpList P ops Q rest (a.put op.dst undef) W) : wpList P ops Q (op :: rest) a w :=
  BigFrame.wpList_want hgd fun _ hK => stw_storeG HS i ei hk hbs ty x y ho o hx ho' hy hi fun W h => hK _ _ (hw W h)
end
theorem doN_num {D : Nat → Prop} {W : World} {A : MacM} {X : PMach} {k j : Nat} {v : Int} (h : MachOwn D W A (X.doN k j v)) (hk : k < A.s.n) (hj : j < 14) : lz ((X.doN k j v).at k).num j = v := by
  have h1 := h.is.sess.1
  have hl : k < X.sess.length := by
    have : (X.doN k j v).sess.length = X.sess.length := by show (X.sess.set k _).length = _; rw [List.length_set]
    omega
  have e : (X.doN k j v).at k = (X.at k).setN j v := by
    show (X.sess.set k _).getD k noSess = _
    exact getD_set_eq _ _ hl
  have h2 : ((X.doN k j v).at k).num.length = 14 := (h.is.sess.2.2.2 k hk).1
  rw [e] at h2 ⊢
  unfold PSess.setN at h2 ⊢
  rw [List.length_set] at h2
  rw [lz_set (by omega), if_pos rfl]
/-- Once more. -/
def triesP (M : PMach) (k : Nat) : Int := if 65535 < wrap64 (lz (M.at k).num 11 + 1) then 65535 else wrap64 (lz (M.at k).num 11 + 1)
def againP (M : PMach) (i kind : Int) : PMach × Int :=
  bif hereP M i && (kind == 3 || kind == 5) then (tellP (((((looseP M i.toNat).doN i.toNat 4 0).doR i.toNat 0 0 0 0).doN i.toNat 3 0).doN i.toNat 11 (triesP M i.toNat)) i.toNat kind (triesP M i.toNat), 0) else (noMach, 1300)
set_option maxRecDepth 100000 in
set_option maxHeartbeats 4000000 in
theorem ragain_any (A : MacM) (M : PMach) (i kind : Int) (w : World) (h : MachIs w A M) :
    Calls Tryz.prog 90 #[machA A M, .int .i64 i, .int .i64 kind] w (MRet w (againP M i kind)) := by
  have hX := hide h.sess.1
  have hHere := hide fun (W : World) (hb : Below w.heap.size w W) => rhere_any A M i W (h.below hb)
  have hLoose := hide fun (k : Nat) (hk : k < A.s.n) (W : World) (hb : Below w.heap.size w W) => rloose_any A M k W (h.below hb) hk
  obtain ⟨V0, hV0⟩ : ∃ V0, V0 = machA A M := ⟨_, rfl⟩
  rw [← hV0]
  have HV : Hid (V0.cells = (machL A M).toArray) := by rw [hV0]; rfl
  clear hV0
  have HM := hide h
  have HS := hide (St.refl w)
  clear h
  go_enter Tryz.func90, Tryz.ntmps90
  go_wp2_with (first | ((with_reducible refine isList ?_); first | (refine st_box HS _ _ rfl rfl (machL A M) HV.out ?_; clear HS; intro W bm HS) | (refine st_alloc HS _ rfl rfl zeroML zeroM ?_; clear HS; intro W br HS) | (refine st_loadA HS 1 rfl _ _ rfl rfl rfl (by decide +kernel) (by kernel_rfl) ?_)))
  refine (hHere.out _ HS.out.below).mono ?_
  rintro e W1 ⟨rfl, hb⟩
  replace HS := hide (HS.out.on hb)
  clear hb hHere
  cases hh : hereP M i
  · go_wp2_with (first | ((with_reducible refine isList ?_); first | (refine st_storeA HS 0 rfl _ _ _ rfl rfl rfl _ rfl rfl (by kernel_rfl) rfl ?_; clear HS; intro W HS)))
    rw [show againP M i kind = (noMach, 1300) by unfold againP; rw [hh]; rfl]
    exact bodyPost_ret (ret_mach2 Tryz.results90 (HS.out.blk 0 rfl) rfl rfl rfl) rfl (mret_no HS.out.below)
  · obtain ⟨_, k, rfl, hk⟩ := hereP_yes hh
    rw [hX.out] at hk
    cases hu : (kind == 3 || kind == 5)
    · simp only [Bool.or_eq_false_iff] at hu
      obtain ⟨hu3, hu5⟩ := hu
      have hn3 : ¬ kind = 3 := by simpa using hu3
      have hn5 : ¬ kind = 5 := by simpa using hu5
      have hm3 : (kind != 3) = true := by simpa using hn3
      have hm5 : (kind != 5) = true := by simpa using hn5
      go_wp2_with (first | ((with_reducible refine isList ?_); first | (refine st_storeA HS 0 rfl _ _ _ rfl rfl rfl _ rfl rfl (by kernel_rfl) rfl ?_; clear HS; intro W HS)))
      rw [show againP M k kind = (noMach, 1300) by unfold againP; rw [hh, hu3, hu5]; rfl]
      exact bodyPost_ret (ret_mach2 Tryz.results90 (HS.out.blk 0 rfl) rfl rfl rfl) rfl (mret_no HS.out.below)
    · have eP : againP M k kind = (tellP (((((looseP M k).doN k 4 0).doR k 0 0 0 0).doN k 3 0).doN k 11 (triesP M k)) k kind (triesP M k), 0) := by unfold againP; rw [hh, hu]; rfl
      replace eP := hide eP
      simp only [Bool.or_eq_true, beq_iff_eq] at hu
      rcases hu with rfl | rfl
      all_goals
        go_wp2_with (first | ((with_reducible refine isList ?_); first | (refine st_loadA HS 1 rfl _ _ rfl rfl rfl (by decide +kernel) (by kernel_rfl) ?_)))
        refine (hLoose.out k hk _ HS.out.below).mono ?_
        rintro e W2 ⟨A1, rfl, hO, hn1, hb⟩
        have HS1 := hide (HS.out.push hb (machI (fun k => _) A1 _) (machI_loc _ _ _) hO fun k hk => hk)
        generalize (fun k => _) = D1 at HS1
        obtain ⟨N0, hN0⟩ : ∃ N0, N0 = looseP M k := ⟨_, rfl⟩
        rw [← hN0] at HS1 hO
        replace hN0 := hide hN0
        have hk1 : k < A1.s.n := by omega
        obtain ⟨bs1, hbs1, _⟩ := MachOwn.sblk hO hk1
        replace hbs1 := hide hbs1
        have i1 : (k : Int) < (A1.s.n : Int) := by omega
        have i2 : (k : Int) < (A.s.n : Int) := by omega
        clear HS hb hO hLoose
        rw [← hN0.out]
        go_upto_region 4 with (first | ((with_reducible refine isList ?_); first | (refine st_alloc HS1 _ rfl rfl zeroML zeroM ?_; clear HS1; intro W bo HS) | (refine st_storeA HS 0 rfl _ _ _ rfl rfl rfl _ rfl rfl (by kernel_rfl) rfl ?_; clear HS; intro W HS)))
        replace HS : Hid (St w W [blkI bo (machL A1 N0), machI D1 A1 N0, blkI br zeroML, blkI bm (machL A M)]) := HS
        replace hbs1 := hbs1.out
        go_upto_region 7 with (first | ((with_reducible refine isList ?_); first | (refine st_load1 HS 0 rfl _ _ rfl _ rfl rfl (by decide +kernel) rfl ?_) | (refine st_storeN HS 1 rfl hk1 hbs1 4 (by decide) _ _ _ rfl _ rfl (show _ = k * 17 + 5 from by with_reducible rfl) rfl rfl (by decide +kernel) ?_; clear HS; intro W HS) | (refine st_storeG HS 1 rfl hk1 hbs1 _ _ _ rfl _ rfl (show _ = k * 17 + 6 from by with_reducible rfl) rfl (r0 := 0) (r1 := 0) (r2 := 0) (r3 := 0) rfl (by decide +kernel) ?_; clear HS; intro W HS) | (refine st_storeN HS 1 rfl hk1 hbs1 3 (by decide) _ _ _ rfl _ rfl (show _ = k * 17 + 4 from by with_reducible rfl) rfl rfl (by decide +kernel) ?_; clear HS; intro W HS)))
        obtain ⟨bs, off, hbs, _, hc⟩ := (HM.out.below HS.out.below).sess.cell hk (j := 14) (by decide)
        replace hc : W.cell? ⟨bs, off + k * 17 + 14, none⟩ = some (.int .i64 (lz (M.at k).num 11)) := by rw [Nat.add_assoc]; exact hc
        have HC : Hid (∀ W', Below w.heap.size w W' → W'.cell? ⟨bs, off + k * 17 + 14, none⟩ = some (.int .i64 (lz (M.at k).num 11))) := fun W' hb => by
          obtain ⟨bs', off', e', _, hc'⟩ := (HM.out.below hb).sess.cell hk (j := 14) (by decide)
          rw [hbs] at e'; cases e'
          rw [Nat.add_assoc]; exact hc'
        have HB := HS.out.blk 0 rfl
        have HBm := HS.out.blk 3 rfl
        simp only [Act.put]
        refine wp_region_mask [true, true, true, true, true, true, true, true, true, true, false, false, false, false] [false, false, false, false, false, false, false, false, false, false, true, true, true, true] [0, 1, 1, 1] (fun w' => Blk w' bo (machL A1 N0) ∧ Blk w' bm (machL A M) ∧ w'.cell? ⟨bs, off + k * 17 + 14, none⟩ = some (.int .i64 (lz (M.at k).num 11))) (by kernel_rfl) (by kernel_rfl) (by kernel_rfl) (by decide +kernel) ⟨HB.drew, HBm.drew, hc⟩ ?_
        intro kne
        simp only [pickAt]
        repeat (first | ((first | (refine wpQuiet_ld _ _ rfl ⟨bo, 9, none⟩ rfl rfl (by decide +kernel) (fun w hC => hC.1.cell 9 _ rfl) ?_) | (refine wpQuiet_ld _ _ rfl ⟨bm, 9, none⟩ rfl rfl (by decide +kernel) (fun w hC => hC.2.1.cell 9 _ rfl) ?_) | (refine wpQuiet_ld _ _ rfl ⟨bs, off + k * 17 + 14, none⟩ rfl rfl (by decide +kernel) (fun w hC => hC.2.2) ?_)); simp only [Act.put, List.setIfInBounds_toArray, List.set_cons_zero, List.set_cons_succ]) | go_big_quiet_step (fail))
        refine wpQuiet_nil ?_
        clear kne hc HB HBm
        replace HS := hide HS.out.drew
        generalize W.drew = Wd at *
        refine wpRest_cons rfl rfl fun K hK => ?_
        go_big_op
        refine hK _ _ (fun _ => InC.mk ⟨HS.out.blk 0 rfl, HS.out.blk 3 rfl, HC.out _ HS.out.below⟩) ?_
        clear hK K
        refine wpRest_cons rfl rfl fun K hK => ?_
        go_big_op
        refine hK _ _ (fun h => by cases h) ?_
        clear hK K
        refine wpRest_cons rfl rfl fun K hK => ?_
        go_big_op
        refine hK _ _ (fun h => by cases h) ?_
        clear hK K
        refine wpRest_cons rfl rfl fun K hK => ?_
        refine stw_storeN HS 1 rfl hk1 hbs1 11 (by decide) _ _ _ rfl _ rfl (show _ = k * 17 + 14 from by with_reducible rfl) rfl (by decide +kernel) ?_
        clear HS
        intro W3 HS
        refine hK _ _ (fun h => by cases h) (wpRest_nil ?_)
        clear hK K
        simp only [Act.put, List.setIfInBounds_toArray, List.set_cons_zero, List.set_cons_succ]
        refine NoPanic.normal ?_
        replace HS : Hid (St w W3 [blkI bo (machL A1 N0), machI D1 A1 ((((N0.doN k 4 0).doR k 0 0 0 0).doN k 3 0).doN k 11 (triesP M k)), blkI br zeroML, blkI bm (machL A M)]) := HS
        have hT := doN_num (HS.out.get 1 (x := machI D1 A1 ((((N0.doN k 4 0).doR k 0 0 0 0).doN k 3 0).doN k 11 (triesP M k))) rfl) hk1 (by decide)
        obtain ⟨N1, hN1⟩ : ∃ N1, N1 = (((N0.doN k 4 0).doR k 0 0 0 0).doN k 3 0).doN k 11 (triesP M k) := ⟨_, rfl⟩
        have eL : machL A1 N0 = machL A1 N1 := by rw [hN1]; rfl
        rw [← hN1] at HS hT
        rw [eL] at HS
        rw [hN0.out] at hN1
        replace hN1 := hide hN1
        replace hT := hide hT
        clear eL HC hbs
        obtain ⟨T, hTT⟩ : ∃ T, T = triesP M k := ⟨_, rfl⟩
        rw [← hTT] at hT eP hN1
        clear hTT
        have hM1 : MachOwn D1 W3 A1 N1 := HS.out.get 1 (x := machI D1 A1 N1) rfl
        have hc1 : W3.cell? ⟨bs1, k * 17 + 14, none⟩ = some (.int .i64 T) := by rw [← hT.out]; exact hM1.is.scell hk1 14 (by decide) rfl hbs1
        clear hM1
        have HB := HS.out.blk 0 rfl
        go_upto_region 8 with fail
        refine wp_region_mask [true, true, true, true, true, true, true, true, true, false, false, false] [false, false, false, false, false, false, false, false, false, true, true, true] [0, 1, 2] (fun w' => Blk w' bo (machL A1 N1) ∧ w'.cell? ⟨bs1, k * 17 + 14, none⟩ = some (.int .i64 T)) (by kernel_rfl) (by kernel_rfl) (by kernel_rfl) (by decide +kernel) ⟨HB.drew, hc1⟩ ?_
        intro kne
        simp only [pickAt]
        repeat (first | ((first | (refine wpQuiet_ld _ _ rfl ⟨bo, 9, none⟩ rfl rfl (by decide +kernel) (fun w hC => hC.1.cell 9 _ rfl) ?_) | (refine wpQuiet_ld _ _ rfl ⟨bs1, k * 17 + 14, none⟩ rfl rfl (by decide +kernel) (fun w hC => hC.2) ?_) | (refine wpQuiet_la _ _ rfl bo (0) rfl rfl (by decide +kernel) (machL A1 N1) (by kernel_rfl) (fun w hC => hC.1.range) ?_)); simp only [Act.put, List.setIfInBounds_toArray, List.set_cons_zero, List.set_cons_succ]) | go_big_quiet_step (fail))
        refine wpQuiet_nil ?_
        clear kne hc1 HB
        replace HS := hide HS.out.drew
        generalize W3.drew = Wd at *
        refine wpRest_cons rfl rfl fun K hK => ?_
        go_big_op
        refine (rtell_any w _ _ 1 D1 A1 N1 k _ T HS rfl hk1).mono ?_
        rintro e W4 ⟨D2, A2, rfl, HS2, hS2⟩
        replace HS2 : Hid (St w W4 [blkI bo (machL A1 N1), machI D2 A2 _, blkI br zeroML, blkI bm (machL A M)]) := HS2
        clear HS
        have hc2 : W4.cell? ⟨bs1, k * 17 + 14, none⟩ = some (.int .i64 T) := by
          rw [← hT.out, ← tellP_at N1 k _ T k]
          exact MachIs.scell (MachOwn.is (HS2.out.get 1 (x := machI D2 A2 (tellP N1 k _ T)) rfl)) (by rw [hS2]; exact hk1) 14 (by decide) rfl (by rw [hS2]; exact hbs1)
        refine hK _ _ (fun _ => InC.mk ⟨HS2.out.blk 0 rfl, hc2⟩) ?_
        clear hK K hc2
        refine wpRest_cons rfl rfl fun K hK => ?_
        refine stw_storeA HS2 2 rfl _ _ _ rfl rfl (machL A2 (tellP N1 k _ T)) rfl rfl (by kernel_rfl) rfl ?_
        clear HS2
        intro W5 HS
        refine hK _ _ (fun h => by cases h) ?_
        clear hK K
        refine wpRest_assign _ rfl rfl rfl (wpRest_nil ?_)
        simp only [Act.put, List.setIfInBounds_toArray, List.set_cons_zero, List.set_cons_succ]
        refine NoPanic.normal ?_
        go_wp2
        all_goals
          rw [eP.out, ← hN1.out]
          exact bodyPost_ret (ret_mach2 Tryz.results90 (HS.out.blk 2 rfl) rfl rfl rfl) rfl (mret_of (R := (tellP N1 k _ T, 0)) HS.out 1 (D := D2) (A := A2) rfl)
end Go.Proofs.YtnjognmnbpcaaaaGreat
