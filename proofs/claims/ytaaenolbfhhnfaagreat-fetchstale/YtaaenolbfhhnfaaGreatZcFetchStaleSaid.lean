/-
  The law FetchStale.
-/
import Derived.Test.YtaaenolbfhhnfaaGreatZlba
import Derived.Test.YtaaenolbfhhnfaaGreatZlbc
import Derived.Test.YtaaenolbfhhnfaaGreatZlcb
import Derived.Test.YtaaenolbfhhnfaaGreatZlab
import Derived.Test.YtaaenolbfhhnfaaGreatZlag
namespace Go.Proofs.YtaaenolbfhhnfaaGreat
open Go.RowKit
set_option linter.unusedSimpArgs false
set_option linter.unusedVariables false
/-- It read word 1 of level 0 at this version; that word is of version 2; it is locked, or not. -/
def staleM (v : Int) : PMach := begunM.setS 0 ((begunM.at 0).setL 1 [0, 1, v])
def staleV (v : Int) : PMach := (staleM v).setLv 0 (((staleM v).lv 0).set 4 2)
def staleL (v : Int) : PMach := (staleV v).setLv 0 (((staleV v).lv 0).set 5 6)
def staleN (v : Int) (b : Bool) : PMach := bif b then staleL v else staleV v
def staleG (v : Int) (b : Bool) : Bool := decide (v = 2) && !b
def staleOk (v : Int) (b : Bool) : Bool :=
  decide ((fetchP (staleN v b) 0).2 = 0) && decide ((fetchP (staleN v b) 0).1.sess.length = 2) && decide (((fetchP (staleN v b) 0).1.at 0).reads.length = bif staleG v b then 6 else 0) && decide (lz ((fetchP (staleN v b) 0).1.at 0).num 4 = bif staleG v b then 1 else 0) && decide (lz ((fetchP (staleN v b) 0).1.at 0).num 11 = bif staleG v b then 0 else 1) && decide (lz ((fetchP (staleN v b) 0).1.at 0).num 5 = bif staleG v b then 5 else 0) && decide (lz ((fetchP (staleN v b) 0).1.at 0).num 6 = 0) && decide (lz ((fetchP (staleN v b) 0).1.at 0).num 7 = 0) && decide (lz ((fetchP (staleN v b) 0).1.at 0).num 8 = 0) && decide (goodV (staleN v b).lens (staleN v b).wz 1 (lz [0, 1, v]) 3 = staleG v b) && decide (goodE (staleN v b).lens (staleN v b).wz 1 (lz [0, 1, v]) 3 = 0)
theorem stale_all : ∀ v : Nat, v < 4 → (staleOk v true && staleOk v false) = true := by decide +kernel
structure Stale (X : PMach) (v : Int) (b : Bool) : Prop where
  two : X.sess.length = 2
  reads : (X.at 0).reads.length = bif staleG v b then 6 else 0
  pc : lz (X.at 0).num 4 = bif staleG v b then 1 else 0
  tries : lz (X.at 0).num 11 = bif staleG v b then 0 else 1
  r0 : lz (X.at 0).num 5 = bif staleG v b then 5 else 0
  r1 : lz (X.at 0).num 6 = 0
  r2 : lz (X.at 0).num 7 = 0
  r3 : lz (X.at 0).num 8 = 0
  good : goodV (staleN v b).lens (staleN v b).wz 1 (lz [0, 1, v]) 3 = staleG v b
  ok : goodE (staleN v b).lens (staleN v b).wz 1 (lz [0, 1, v]) 3 = 0
theorem stale_get {v : Int} (h0 : 0 ≤ v) (h1 : v ≤ 3) (b : Bool) : ∃ X, fetchP (staleN v b) 0 = (X, 0) ∧ Stale X v b := by
  obtain ⟨n, rfl⟩ : ∃ n : Nat, v = n := ⟨v.toNat, by omega⟩
  have := stale_all n (by omega)
  simp only [Bool.and_eq_true] at this
  have h : staleOk n b = true := by cases b; exact this.2; exact this.1
  unfold staleOk at h
  simp only [Bool.and_eq_true, decide_eq_true_eq] at h
  obtain ⟨⟨⟨⟨⟨⟨⟨⟨⟨⟨e1, e2⟩, e3⟩, e4⟩, e5⟩, e6⟩, e7⟩, e8⟩, e9⟩, e10⟩, e11⟩ := h
  exact ⟨_, Prod.ext rfl e1, ⟨e2, e3, e4, e5, e6, e7, e8, e9, e10, e11⟩⟩
set_option maxRecDepth 100000 in
set_option maxHeartbeats 4000000 in
theorem fetchStale_way (a0 a1 v : Int) (b c : Bool) (w : World) (hcv : decide (v = 2) = c) (hc2 : (v == 2) = c) (hk : bits .and .i64 a0 1 = bif b then 1 else 0) (hd : bits .and .i64 a1 3 = v) (v0 : 0 ≤ v) (v1 : v ≤ 3) :
    Calls Tryz.prog 11 #[.int .i64 a0, .int .i64 a1] w fun e w' => e = .returned (.bool true) ∧ Below w.heap.size w w' := by
  have HS := hide (St.refl w)
  have hAw := hide fun (W : World) => awake15_any W
  have hB := hide fun (W : World) => begun15_any W
  have sN : Hid (begunM.sess.length = 2) := by show _ = 2; decide +kernel
  obtain ⟨X, hX, hF⟩ := stale_get v0 v1 b
  have hE := hide fun (A : MacM) (W : World) (h : MachIs W A (staleN v b)) => fetchStep_any A (staleN v b) 0 W h
  have hG := hide fun (A : MacM) (q : Sl) (W : World) (h : MachIs W A (staleN v b)) (hq : SlIs W 3 q [0, 1, v]) => rgood_any A.w (staleN v b).wz q.a q.n q.c (lz [0, 1, v]) 3 W h.short h.arn (by have := hq.1; simp at this; omega) hq.2.2
  have hgl : ∀ (A : MacM) (W : World), MachIs W A (staleN v b) → goodV A.w (staleN v b).wz 1 (lz [0, 1, v]) 3 = staleG v b ∧ goodE A.w (staleN v b).wz 1 (lz [0, 1, v]) 3 = 0 := fun A W h => by
    obtain ⟨q1, q2⟩ := good_congr (y := (staleN v b).wz) (n := 1) (z := lz [0, 1, v]) (d := 3) h.lens
    exact ⟨q1.trans hF.good, q2.trans hF.ok⟩
  rw [hX] at hE
  have eM : Hid (staleM v = begunM.setS 0 ((begunM.at 0).setL 1 [0, 1, v])) := rfl
  have eV : Hid (staleV v = (staleM v).setLv 0 (((staleM v).lv 0).set 4 2)) := rfl
  have eL : Hid (staleL v = (staleV v).setLv 0 (((staleV v).lv 0).set 5 6)) := rfl
  have lM : Hid (((staleM v).lv 0).length = 2 * 3) := by show (begunM.lv 0).length = 6; decide +kernel
  have lV : Hid (((staleV v).lv 0).length = 2 * 3) := by
    show (((begunM.lv 0).set 4 2)).length = 6
    rw [List.length_set]; decide +kernel
  have rM : Hid (((staleM v).at 0).reads = [0, 1, v]) := rfl
  have rV : Hid ((staleN v b).at 0 = (staleM v).at 0) := by cases b <;> rfl
  have tM : Hid ((staleN v b).sess.length = 2) := by
    show _ = _
    have : (begunM.sess.length = 2) := sN.out
    cases b
    · show (begunM.sess.set 0 _).length = 2; rw [List.length_set]; exact this
    · show (begunM.sess.set 0 _).length = 2; rw [List.length_set]; exact this
  clear hX
  have eg : staleG v b = (c && !b) := by unfold staleG; rw [hcv]
  obtain ⟨f0, f1, f2, f3, f4, f5, f6, f7, _, _⟩ := hF
  rw [eg] at f1 f2 f3 f4 hgl
  clear eg hcv
  replace hgl := hide hgl
  obtain ⟨O, hO⟩ : ∃ O, O = staleN v b := ⟨_, rfl⟩
  rw [← hO] at hE hG hgl rV tM
  have eO : Hid (O = bif b then staleL v else staleV v) := hO
  clear hO
  generalize staleL v = OL at *
  generalize staleV v = OV at *
  generalize staleM v = OM at *
  generalize begunM = N at *
  go_enter Tryz.func11, Tryz.ntmps11
  go_wp2_with fail
  refine (hAw.out _).mono ?_
  (rintro e Wq ⟨rfl, hb⟩; have HSq := hide (HS.out.on hb); clear HS hb; replace HS := HSq; clear HSq)
  clear hAw
  go_wp2_with fail
  refine (hB.out _).mono ?_
  (rintro e Wq ⟨A1, rfl, hO, hb⟩; have HSq := hide (HS.out.push hb (machI (fun k => _) A1 _) (machI_loc _ _ _) hO fun k hk => hk); generalize (fun k => _) = D1 at HSq; clear HS hb hO; replace HS := HSq; clear HSq)
  clear hB
  have hk1 : 0 < A1.s.n := by
    have := (MachOwn.is (show MachOwn D1 _ A1 N from HS.out.get 0 rfl)).sess.1
    have := sN.out; omega
  have i1 : (0 : Int) < (A1.s.n : Int) := by omega
  obtain ⟨bs1, hbs1, _⟩ := MachOwn.sblk (show MachOwn D1 _ A1 N from HS.out.get 0 rfl) hk1
  go_upto_region 5 with (first | ((with_reducible refine isList ?_); first | (refine st_alloc HS _ rfl rfl zeroML zeroM ?_; clear HS; intro W b5 HS) | (refine st_storeA HS 0 rfl _ _ _ rfl rfl rfl _ rfl rfl (by kernel_rfl) rfl ?_; clear HS; intro W HS)))
  replace HS : Hid (St w W [blkI b5 (machL A1 N), machI D1 A1 N]) := HS
  go_upto_region 6 with (first | ((with_reducible refine isList ?_); first | (refine st_load1 HS 0 rfl _ _ rfl _ rfl rfl (by decide +kernel) rfl ?_) | (refine st_lit_1_3 HS _ 66 _ rfl rfl Tryz.underlying56 Tryz.infoR rfl ?_; clear HS; intro W bl HS) | (refine st_storeL HS 2 0 rfl 1 (by decide) rfl (by decide) hk1 hbs1 _ _ _ rfl _ rfl rfl rfl rfl (by decide +kernel) ?_; clear HS; intro W HS)))
  replace HS : Hid (St w W [blkI b5 (machL (A1.setQ 0 ((A1.q 0).setL 1 ⟨some ⟨bl, 0, none⟩, 1, 1⟩)) (N.setS 0 ((N.at 0).setL 1 [0, 1, v]))), machI (fun k => D1 k ∨ k = bl) (A1.setQ 0 ((A1.q 0).setL 1 ⟨some ⟨bl, 0, none⟩, 1, 1⟩)) (N.setS 0 ((N.at 0).setL 1 [0, 1, v]))]) := hide (HS.out.sel [1, 2] (by decide) rfl)
  rw [← eM.out] at HS
  clear hk1 i1 hbs1 eM
  generalize (fun k => D1 k ∨ k = bl) = D2 at HS
  generalize A1.setQ 0 ((A1.q 0).setL 1 ⟨some ⟨bl, 0, none⟩, 1, 1⟩) = A2 at HS
  obtain ⟨n0, g⟩ := MachOwn.wfact (show MachOwn D2 _ A2 OM from HS.out.get 1 rfl) (g := 0) (m := 2) (by decide) lM.out
  obtain ⟨w0, e0, _⟩ := g (by decide)
  clear g
  have i0 : (1 : Int) < ((A2.w 0).n : Int) := by omega
  have i4 : 4 < (A2.w 0).n * 3 := by omega
  have i5 : 5 < (A2.w 0).n * 3 := by omega
  replace n0 := hide n0
  go_upto_region 7 with (first | ((with_reducible refine isList ?_); first | (refine st_load1 HS 0 rfl _ _ rfl _ rfl rfl (by decide +kernel) rfl ?_) | (refine st_storeW HS 1 rfl (g := 0) (c := 4) (by decide) i4 e0 _ _ _ rfl rfl rfl rfl (by decide +kernel) ?_; clear HS; intro W HS)))
  replace HS : Hid (St w W [blkI b5 (machL A2 (OM.setLv 0 ((OM.lv 0).set 4 2))), machI D2 A2 (OM.setLv 0 ((OM.lv 0).set 4 2))]) := HS
  rw [← eV.out] at HS
  cases b
  case' true =>
    go_upto_region 9 with (first | ((with_reducible refine isList ?_); first | (refine st_load1 HS 0 rfl _ _ rfl _ rfl rfl (by decide +kernel) rfl ?_) | (refine st_storeW HS 1 rfl (g := 0) (c := 5) (by decide) i5 e0 _ _ _ rfl rfl rfl rfl (by decide +kernel) ?_; clear HS; intro W HS)))
    replace HS : Hid (St w W [blkI b5 (machL A2 (OV.setLv 0 ((OV.lv 0).set 5 6))), machI D2 A2 (OV.setLv 0 ((OV.lv 0).set 5 6))]) := HS
    rw [← eL.out] at HS
    replace eO : Hid (O = OL) := eO
    rw [← eO.out] at HS
  case' false =>
    go_upto_region 9 with fail
    replace eO : Hid (O = OV) := eO
    rw [← eO.out] at HS
  all_goals
    clear e0 i0 i4 i5 eL eV eO lM lV
    go_wp2_with (first | ((with_reducible refine isList ?_); first | (refine st_loadA HS 0 rfl _ _ rfl rfl rfl (by decide +kernel) (by kernel_rfl) ?_)))
    refine (hE.out A2 _ (MachOwn.is (show MachOwn D2 _ A2 O from HS.out.get 1 rfl))).mono ?_
    (rintro e Wq ⟨AX, rfl, hO, hb⟩; have HSq := hide (HS.out.push hb (machI (fun k => _) AX _) (machI_loc _ _ _) hO fun k hk => hk); generalize (fun k => _) = DX at HSq; clear HS hb hO; replace HS := HSq; clear HSq)
    clear hE
    go_upto_region 10 with (first | ((with_reducible refine isList ?_); first | (refine st_alloc HS _ rfl rfl zeroML zeroM ?_; clear HS; intro W b7 HS) | (refine st_storeA HS 0 rfl _ _ _ rfl rfl rfl _ rfl rfl (by kernel_rfl) rfl ?_; clear HS; intro W HS)))
    replace HS : Hid (St w W [blkI b7 (machL AX X), machI DX AX X, blkI b5 (machL A2 O), machI D2 A2 O]) := HS
    have k2 : A2.s.n = 2 := by have := (MachOwn.is (show MachOwn D2 _ A2 O from HS.out.get 3 rfl)).sess.1; have := tM.out; omega
    have k20 : 0 < A2.s.n := by omega
    have i2 : (0 : Int) < (A2.s.n : Int) := by omega
    obtain ⟨s5, e5, _⟩ := MachOwn.sblk (show MachOwn D2 _ A2 O from HS.out.get 3 rfl) k20
    have hq : Hid (∀ W', MachOwn D2 W' A2 O → SlIs W' 3 (A2.q 0).r [0, 1, v]) := fun W' hm => by
      have := (hm.is.sess.2.2.2 0 k20).2.2.1
      rw [show O.sess.getD 0 noSess = O.at 0 from rfl, rV.out, rM.out] at this
      exact this
    have nr : (A2.q 0).r.n = 1 := by
      have := (hq.out _ (HS.out.get 3 rfl)).1
      simp at this; omega
    have hG2 := hide fun (W' : World) (hm : MachOwn D2 W' A2 O) => hG.out A2 (A2.q 0).r W' hm.is (hq.out W' hm)
    rw [nr, (hgl.out A2 _ (MachOwn.is (show MachOwn D2 _ A2 O from HS.out.get 3 rfl))).1, (hgl.out A2 _ (MachOwn.is (show MachOwn D2 _ A2 O from HS.out.get 3 rfl))).2] at hG2
    have hcl : Hid (∀ W', Blk W' b5 (machL A2 O) → MachOwn D2 W' A2 O → W'.rangeAt b5 0 (arenaL A2.w) ∧ W'.cell? ⟨b5, 9, none⟩ = some (.slice (some ⟨s5, 0, none⟩) A2.s.n A2.s.c) ∧ W'.cell? ⟨s5, 10, none⟩ = some (.slice (A2.q 0).r.a 1 (A2.q 0).r.c)) := fun W' h1 h2 => by
      refine ⟨fun j u hj => ?_, by rw [← e5]; exact h1.cell 9 _ rfl, ?_⟩
      · rw [Nat.zero_add]
        refine h1.cell j u ?_
        have hj4 : j < 4 := by have := (List.getElem?_eq_some_iff.1 hj).1; simpa [arenaL] using this
        have : j = 0 ∨ j = 1 ∨ j = 2 ∨ j = 3 := by omega
        rcases this with rfl | rfl | rfl | rfl <;> exact hj
      · have := h2.is.scell k20 10 (by decide) (v := .slice (A2.q 0).r.a (A2.q 0).r.n (A2.q 0).r.c) rfl e5
        rw [nr] at this
        simpa using this
    clear hG hgl hq rV rM tM k2
    replace nr := hide nr; replace e5 := hide e5
    (try simp only [Act.put, List.setIfInBounds_toArray, List.set_cons_zero, List.set_cons_succ])
    refine wp_region_mask [true, true, true, true, true, true, true, false, false, false, false, false, false] [false, false, false, false, false, false, false, true, true, true, true, true, true] [0, 3, 3, 3, 2, 2] (fun W' => W'.rangeAt b5 0 (arenaL A2.w) ∧ W'.cell? ⟨b5, 9, none⟩ = some (.slice (some ⟨s5, 0, none⟩) A2.s.n A2.s.c) ∧ W'.cell? ⟨s5, 10, none⟩ = some (.slice (A2.q 0).r.a 1 (A2.q 0).r.c)) (by kernel_rfl) (by kernel_rfl) (by kernel_rfl) (by decide +kernel) (hcl.out _ (HS.out.drew.blk 2 rfl) (HS.out.drew.get 3 rfl)) ?_
    intro kne
    simp only [pickAt]
    repeat (first | ((first | (refine wpQuiet_la _ _ rfl b5 (0) rfl rfl (by decide +kernel) (arenaL A2.w) (by kernel_rfl) (fun w hC => hC.1) ?_) | (refine wpQuiet_ld _ _ rfl ⟨b5, 9, none⟩ rfl rfl (by decide +kernel) (fun w hC => hC.2.1) ?_) | (refine wpQuiet_ld _ _ rfl ⟨s5, 10, none⟩ rfl rfl (by decide +kernel) (fun w hC => hC.2.2) ?_)); simp only [Act.put, List.setIfInBounds_toArray, List.set_cons_zero, List.set_cons_succ]) | go_big_quiet_step (fail))
    refine wpQuiet_nil ?_
    clear kne
    replace HS := hide HS.out.drew
    generalize World.drew _ = Wd at *
    refine wpRest_cons rfl rfl fun K hK => ?_
    go_big_op
    refine (hG2.out _ (HS.out.get 3 rfl)).mono ?_
    (rintro e Wq ⟨rfl, hb⟩; have HSq := hide (HS.out.on hb); clear HS hb; replace HS := HSq; clear HSq)
    refine hK _ _ (fun _ => InC.mk (hcl.out _ (HS.out.blk 2 rfl) (HS.out.get 3 rfl))) ?_
    clear hK K hcl hG2
    (try simp only [Act.put, List.setIfInBounds_toArray, List.set_cons_zero, List.set_cons_succ])
    refine wpRest_move _ rfl rfl rfl ?_
    (try simp only [Act.put, List.setIfInBounds_toArray, List.set_cons_zero, List.set_cons_succ])
    refine wpRest_extract _ 0 rfl rfl rfl rfl ?_
    (try simp only [Act.put, List.setIfInBounds_toArray, List.set_cons_zero, List.set_cons_succ])
    refine wpRest_extract _ 1 rfl rfl rfl rfl ?_
    (try simp only [Act.put, List.setIfInBounds_toArray, List.set_cons_zero, List.set_cons_succ])
    refine wpRest_assign _ rfl rfl rfl ?_
    (try simp only [Act.put, List.setIfInBounds_toArray, List.set_cons_zero, List.set_cons_succ])
    refine wpRest_assign _ rfl rfl rfl (wpRest_nil ?_)
    (try simp only [Act.put, List.setIfInBounds_toArray, List.set_cons_zero, List.set_cons_succ])
    refine NoPanic.normal ?_
    obtain ⟨nX, g⟩ := MachOwn.sfact (show MachOwn DX _ AX X from HS.out.get 1 rfl) f0
    obtain ⟨s7, e7, r7⟩ := g (by decide)
    clear g
    replace r7 := hide (r7 0 (by decide))
    have nx : (X.at 0).reads.length = (AX.q 0).r.n * 3 := ((MachOwn.is (show MachOwn DX _ AX X from HS.out.get 1 rfl)).sess.2.2.2 0 (by omega)).2.2.1.1
    obtain ⟨c9, _⟩ := MachOwn.scell (show MachOwn DX _ AX X from HS.out.get 1 rfl) (HS.out.blk 0 rfl) f0 e7
    replace nX := hide nX; replace e7 := hide e7
    have Q := fun W => quad_eq 0 0 0 0 0 0 0 0 W
    simp only [beq_self_eq_true, Bool.and_self] at Q
    replace Q := hide Q
    cases c
    case' true =>
      simp only [Bool.not_true, Bool.not_false, Bool.and_true, Bool.and_false, Bool.true_and, Bool.false_and, cond_true, cond_false] at f1 f2 f3 f4
    case' false =>
      simp only [Bool.not_true, Bool.not_false, Bool.and_true, Bool.and_false, Bool.true_and, Bool.false_and, cond_true, cond_false] at f1 f2 f3 f4
    all_goals
      go_upto_region 14 with (first | ((with_reducible refine isList ?_); first | (refine wpList_load_at _ _ rfl rfl s7 (0 * 17) rfl (sessOf (AX.q 0) (X.at 0)) (by decide +kernel) (by kernel_rfl) r7.out ?_) | (refine st_alloc HS _ rfl rfl zeroSL zeroS ?_; clear HS; intro W b9 HS) | (refine st_storeA HS 0 rfl _ _ _ rfl rfl rfl _ rfl rfl (by kernel_rfl) rfl ?_; clear HS; intro W HS)) | (go_at_call 21; refine (num_any _ _).mono ?_; rintro e w' ⟨rfl, rfl⟩))
      replace HS : Hid (St w W [blkI b9 (sessL (lz (X.at 0).num) (.slice (AX.q 0).p.a (AX.q 0).p.n (AX.q 0).p.c) (.slice (AX.q 0).r.a (AX.q 0).r.n (AX.q 0).r.c) (.slice (AX.q 0).t.a (AX.q 0).t.n (AX.q 0).t.c)), blkI b7 (machL AX X), machI DX AX X, blkI b5 (machL A2 O), machI D2 A2 O]) := HS
      clear c9 r7
      obtain ⟨-, -, -, -, -, d5, d6, d7, d8, d9, d10, -, -, -, d14, -, -⟩ := (HS.out.blk 0 rfl).sess
      have nn : (AX.q 0).r.n = ((X.at 0).reads.length) / 3 := by omega
      rw [f1] at nn
      rw [f2] at d5
      rw [f4] at d6
      rw [f5] at d7
      rw [f6] at d8
      rw [f7] at d9
      rw [nn] at d10
      rw [f3] at d14
      clear nx nn f1 f2 f3 f4 f5 f6 f7
      replace Q := Q.out
      go_wp2
      go_ret
      exact ⟨rfl, HS.out.below⟩
theorem fetchStale_any (a0 a1 : Int) (w : World) :
    Calls Tryz.prog 11 #[.int .i64 a0, .int .i64 a1] w fun e w' => e = .returned (.bool true) ∧ Below w.heap.size w w' := by
  have hb : ∃ b : Bool, bits .and .i64 a0 1 = bif b then 1 else 0 := by
    rw [mask1]
    have : a0 % 2 = 0 ∨ a0 % 2 = 1 := by omega
    rcases this with h | h
    · exact ⟨false, h⟩
    · exact ⟨true, h⟩
  obtain ⟨b, hb⟩ := hb
  exact fetchStale_way a0 a1 _ b _ w rfl rfl hb (mask3 a1) (by omega) (by omega)
end Go.Proofs.YtaaenolbfhhnfaaGreat
