/-
  The law DriftTable.
-/
import Derived.Test.YtjjokalheloimaaGreatZhAwake14
import Derived.Test.YtjjokalheloimaaGreatZlbd
import Derived.Test.YtjjokalheloimaaGreatZlab
namespace Go.Proofs.YtjjokalheloimaaGreat
open Go.RowKit
set_option linter.unusedSimpArgs false
set_option linter.unusedVariables false
/-- Session 5, of this label, this clearance, reads this level. -/
def tableM (f c l : Int) : PMach := ((((begunM.setLv 2 [1, 0, 0]).doN 1 1 f).doN 1 2 c).setS 1 (((((begunM.setLv 2 [1, 0, 0]).doN 1 1 f).doN 1 2 c).at 1).setL 0 [2, 0, l, 0]))
def tableOk (f c l : Nat) : Bool :=
  !(bits .or .i64 (f : Int) c == c) ||
  (decide (needsP (tableM f c l) 1 = (!(bits .or .i64 (l : Int) f == f), 0)) &&
    (if bits .or .i64 (l : Int) f = f then decide ((driftP (tableM f c l) 1).2 = 1400)
     else decide ((driftP (tableM f c l) 1).2 = 0) && (decide ((driftP (tableM f c l) 1).1.sess.length = 2) &&
      (if bits .or .i64 (bits .or .i64 (l : Int) f) c = c then decide (lz ((driftP (tableM f c l) 1).1.at 1).num 3 = 0) && (decide (lz ((driftP (tableM f c l) 1).1.at 1).num 1 = bits .or .i64 (l : Int) f) && decide (lz ((driftP (tableM f c l) 1).1.at 1).num 4 = 0))
       else decide (lz ((driftP (tableM f c l) 1).1.at 1).num 3 = 6) && (decide (lz ((driftP (tableM f c l) 1).1.at 1).num 12 = 4) && decide (lz ((driftP (tableM f c l) 1).1.at 1).num 1 = f))))))
theorem table_all : ((List.range 4).all fun f => (List.range 4).all fun c => (List.range 4).all fun l => tableOk f c l) = true := by decide +kernel
theorem table_at {f c l : Nat} (hf : f < 4) (hc : c < 4) (hl : l < 4) : tableOk f c l = true := by
  have h := List.all_eq_true.1 (List.all_eq_true.1 (List.all_eq_true.1 table_all f (List.mem_range.2 hf)) c (List.mem_range.2 hc)) l (List.mem_range.2 hl)
  exact h
set_option maxRecDepth 100000 in
set_option maxHeartbeats 4000000 in
theorem driftTable_no (a0 : Int) (f l c : Nat) (o1 : Int) (w : World) (hf : bits .and .i64 a0 3 = f) (hl : bits .and .i64 (a0 / 4) 3 = l) (hc : bits .and .i64 (a0 / 16) 3 = c) (ho1 : bits .or .i64 (f : Int) c = o1) (hfc : ¬ o1 = (c : Int)) :
    Calls Tryz.prog 17 #[.int .i64 a0] w fun e w' => e = .returned (.bool true) ∧ Below w.heap.size w w' := by
  have HS := hide (St.refl w)
  have hAw := hide fun (W : World) => awake14_any W
  have hb : (o1 != (c : Int)) = true := by simpa using hfc
  go_enter Tryz.func17, Tryz.ntmps17
  go_wp2_with fail
  refine (hAw.out _).mono ?_
  (rintro e Wq ⟨rfl, hb⟩; have HSq := hide (HS.out.on hb); clear HS hb; replace HS := HSq; clear HSq)
  go_wp2
  go_ret
  exact ⟨rfl, HS.out.below⟩
set_option maxRecDepth 100000 in
set_option maxHeartbeats 4000000 in
theorem driftTable_yes (a0 : Int) (f l c : Nat) (o1 o2 o3 : Int) (w : World) (hf : bits .and .i64 a0 3 = f) (hl : bits .and .i64 (a0 / 4) 3 = l) (hc : bits .and .i64 (a0 / 16) 3 = c) (ho1 : bits .or .i64 (f : Int) c = o1) (ho2 : bits .or .i64 (l : Int) f = o2) (ho3 : bits .or .i64 o2 c = o3) (hfc : o1 = (c : Int)) (hok : tableOk f c l = true) :
    Calls Tryz.prog 17 #[.int .i64 a0] w fun e w' => e = .returned (.bool true) ∧ Below w.heap.size w w' := by
  have HS := hide (St.refl w)
  have hAw := hide fun (W : World) => awake14_any W
  have hB := hide fun (W : World) => begun14_any W
  have sN : Hid (begunM.sess.length = 2) := by show _ = 2; decide +kernel
  have hb : (o1 != (c : Int)) = false := by simpa using hfc
  have hNe := hide fun (A : MacM) (W : World) (h : MachIs W A (tableM f c l)) => driftNeeds_any A (tableM f c l) 1 W h
  have hSt := hide fun (A : MacM) (W : World) (h : MachIs W A (tableM f c l)) => driftStep_any A (tableM f c l) 1 W h
  unfold tableOk at hok
  rw [ho1, ho2, ho3] at hok
  have e1 : (o1 == (c : Int)) = true := by simpa using hfc
  rw [e1, Bool.not_true, Bool.false_or, Bool.and_eq_true, decide_eq_true_eq] at hok
  obtain ⟨eN, hok⟩ := hok
  rw [eN] at hNe
  have eT : Hid (tableM f c l = ((((begunM.setLv 2 [1, 0, 0]).doN 1 1 f).doN 1 2 c).setS 1 (((((begunM.setLv 2 [1, 0, 0]).doN 1 1 f).doN 1 2 c).at 1).setL 0 [2, 0, l, 0]))) := rfl
  generalize driftP (tableM f c l) 1 = R at hSt hok
  generalize tableM f c l = T at hNe hSt eT
  generalize begunM = N at hB sN eT
  clear eN e1
  replace hok := hide hok
  go_enter Tryz.func17, Tryz.ntmps17
  go_wp2_with fail
  refine (hAw.out _).mono ?_
  (rintro e Wq ⟨rfl, hb⟩; have HSq := hide (HS.out.on hb); clear HS hb; replace HS := HSq; clear HSq)
  clear hAw
  go_wp2_with fail
  refine (hB.out _).mono ?_
  (rintro e Wq ⟨A1, rfl, hO, hb⟩; have HSq := hide (HS.out.push hb (machI (fun k => _) A1 _) (machI_loc _ _ _) hO fun k hk => hk); generalize (fun k => _) = D1 at HSq; clear HS hb hO; replace HS := HSq; clear HSq)
  clear hB
  go_upto_region 7 with (first | ((with_reducible refine isList ?_); first | (refine st_alloc HS _ rfl rfl zeroML zeroM ?_; clear HS; intro W b6 HS) | (refine st_storeA HS 0 rfl _ _ _ rfl rfl rfl _ rfl rfl (by kernel_rfl) rfl ?_; clear HS; intro W HS)))
  replace HS : Hid (St w W [blkI b6 (machL A1 N), machI D1 A1 N]) := HS
  go_upto_region 8 with (first | ((with_reducible refine isList ?_); first | (refine st_lit_1_3 HS _ 54 _ rfl rfl Tryz.underlying28 Tryz.infoW rfl ?_; clear HS; intro W bl HS) | (refine st_store1 HS 1 rfl _ _ _ rfl _ rfl rfl rfl (by decide +kernel) rfl rfl ?_; clear HS; intro W HS)))
  replace HS := hide ((HS.out.withLv 2 0 (g := 2) rfl rfl (by decide) (by decide)).sel [1, 2] (by decide) rfl)
  replace HS : Hid (St w W [blkI b6 (machL (A1.setW 2 ⟨some ⟨bl, 0, none⟩, 1, 1⟩) (N.setLv 2 [1, 0, 0])), machI (fun k => D1 k ∨ k = bl) (A1.setW 2 ⟨some ⟨bl, 0, none⟩, 1, 1⟩) (N.setLv 2 [1, 0, 0])]) := HS
  generalize A1.setW 2 ⟨some ⟨bl, 0, none⟩, 1, 1⟩ = A2 at HS
  generalize (fun k => D1 k ∨ k = bl) = D2 at HS
  have sN2 : Hid ((N.setLv 2 [1, 0, 0]).sess.length = 2) := sN.out
  generalize N.setLv 2 [1, 0, 0] = N2 at HS eT sN2
  have hk1 : 1 < A2.s.n := by
    have := (MachOwn.is (show MachOwn D2 _ A2 N2 from HS.out.get 1 rfl)).sess.1
    have := sN2.out; omega
  have i1 : (1 : Int) < (A2.s.n : Int) := by omega
  obtain ⟨bs1, hbs1, _⟩ := MachOwn.sblk (show MachOwn D2 _ A2 N2 from HS.out.get 1 rfl) hk1
  go_upto_region 10 with (first | ((with_reducible refine isList ?_); first | (refine st_load1 HS 0 rfl _ _ rfl _ rfl rfl (by decide +kernel) rfl ?_) | (refine st_storeN HS 1 rfl hk1 hbs1 1 (by decide) _ _ _ rfl _ rfl rfl rfl rfl (by decide +kernel) ?_; clear HS; intro W HS) | (refine st_storeN HS 1 rfl hk1 hbs1 2 (by decide) _ _ _ rfl _ rfl rfl rfl rfl (by decide +kernel) ?_; clear HS; intro W HS)))
  replace HS : Hid (St w W [blkI b6 (machL A2 ((N2.doN 1 1 f).doN 1 2 c)), machI D2 A2 ((N2.doN 1 1 f).doN 1 2 c)]) := HS
  generalize (N2.doN 1 1 f).doN 1 2 c = N3 at HS eT
  go_upto_region 11 with (first | ((with_reducible refine isList ?_); first | (refine st_load1 HS 0 rfl _ _ rfl _ rfl rfl (by decide +kernel) rfl ?_) | (refine st_lit_1_4 HS _ 62 _ rfl rfl Tryz.underlying55 Tryz.infoI rfl ?_; clear HS; intro W bj HS) | (refine st_storeL HS 2 0 rfl 0 (by decide) rfl (by decide) hk1 hbs1 _ _ _ rfl _ rfl rfl rfl rfl (by decide +kernel) ?_; clear HS; intro W HS)))
  replace HS : Hid (St w W [blkI b6 (machL (A2.setQ 1 ((A2.q 1).setL 0 ⟨some ⟨bj, 0, none⟩, 1, 1⟩)) (N3.setS 1 ((N3.at 1).setL 0 [2, 0, l, 0]))), machI (fun k => D2 k ∨ k = bj) (A2.setQ 1 ((A2.q 1).setL 0 ⟨some ⟨bj, 0, none⟩, 1, 1⟩)) (N3.setS 1 ((N3.at 1).setL 0 [2, 0, l, 0]))]) := hide (HS.out.sel [1, 2] (by decide) rfl)
  rw [← eT.out] at HS
  generalize A2.setQ 1 ((A2.q 1).setL 0 ⟨some ⟨bj, 0, none⟩, 1, 1⟩) = A3 at HS
  generalize (fun k => D2 k ∨ k = bj) = D3 at HS
  clear hbs1 hk1 i1
  go_wp2_with (first | ((with_reducible refine isList ?_); first | (refine st_loadA HS 0 rfl _ _ rfl rfl rfl (by decide +kernel) (by kernel_rfl) ?_)))
  refine (hNe.out A3 _ (MachOwn.is (show MachOwn D3 _ A3 T from HS.out.get 1 rfl))).mono ?_
  (rintro e Wq ⟨rfl, hb⟩; have HSq := hide (HS.out.on hb); clear HS hb; replace HS := HSq; clear HSq)
  go_wp2_with (first | ((with_reducible refine isList ?_); first | (refine st_loadA HS 0 rfl _ _ rfl rfl rfl (by decide +kernel) (by kernel_rfl) ?_)))
  refine (hSt.out A3 _ (MachOwn.is (show MachOwn D3 _ A3 T from HS.out.get 1 rfl))).mono ?_
  (rintro e Wq ⟨AR, rfl, hO, hb⟩; have HSq := hide (HS.out.push hb (machI (fun k => _) AR _) (machI_loc _ _ _) hO fun k hk => hk); generalize (fun k => _) = DR at HSq; clear HS hb hO; replace HS := HSq; clear HSq)
  go_upto_region 13 with (first | ((with_reducible refine isList ?_); first | (refine st_alloc HS _ rfl rfl zeroML zeroM ?_; clear HS; intro W b9 HS) | (refine st_storeA HS 0 rfl _ _ _ rfl rfl rfl _ rfl rfl (by kernel_rfl) rfl ?_; clear HS; intro W HS)))
  replace HS : Hid (St w W [blkI b9 (machL AR R.1), machI DR AR R.1]) := hide (HS.out.sel [0, 1] (by decide) rfl)
  have hok := hok.out
  by_cases h2 : o2 = (f : Int)
  · rw [if_pos h2, decide_eq_true_eq] at hok
    have e2 : (o2 == (f : Int)) = true := by simpa using h2
    have e3 : (o2 != (f : Int)) = false := by simpa using h2
    obtain ⟨X, E⟩ := R
    replace hok : E = 1400 := hok
    subst hok
    go_wp2_with (go_at_call 27; refine (num_any _ _).mono ?_; rintro e w' ⟨rfl, rfl⟩)
    go_ret
    exact ⟨rfl, HS.out.below⟩
  rw [if_neg h2, Bool.and_eq_true, Bool.and_eq_true, decide_eq_true_eq, decide_eq_true_eq] at hok
  obtain ⟨k0, kl, hok⟩ := hok
  have e2 : (o2 == (f : Int)) = false := by simpa using h2
  have e3 : (o2 != (f : Int)) = true := by simpa using h2
  obtain ⟨X, E⟩ := R
  replace k0 : E = 0 := k0
  subst k0
  replace kl : X.sess.length = 2 := kl
  replace HS : Hid (St w W [blkI b9 (machL AR X), machI DR AR X]) := HS
  obtain ⟨n2, g⟩ := MachOwn.sfact (show MachOwn DR _ AR X from HS.out.get 1 rfl) kl
  obtain ⟨sr, er, hr⟩ := g (by decide)
  clear g hr
  obtain ⟨c9, r9⟩ := MachOwn.scell (show MachOwn DR _ AR X from HS.out.get 1 rfl) (HS.out.blk 0 rfl) kl er
  have hR := hide (r9 1 (by decide))
  replace kl := hide kl; replace n2 := hide n2; replace er := hide er
  clear r9
  go_upto_region 15 with (go_at_call 27; refine (num_any _ _).mono ?_; rintro e w' ⟨rfl, rfl⟩)
  go_upto_region 19 with (go_at_call 27; refine (num_any _ _).mono ?_; rintro e w' ⟨rfl, rfl⟩)
  clear c9
  obtain ⟨c9, r9⟩ := MachOwn.scell (show MachOwn DR _ AR X from HS.out.get 1 rfl) (HS.out.blk 0 rfl) kl.out er.out
  clear r9
  go_upto_region 20 with (first | ((with_reducible refine isList ?_); first | (refine wpList_load_at _ _ rfl rfl sr 17 rfl (sessOf (AR.q 1) (X.at 1)) (by decide +kernel) (by kernel_rfl) hR.out ?_) | (refine st_alloc HS _ rfl rfl zeroSL zeroS ?_; clear HS; intro W b11 HS) | (refine st_storeA HS 0 rfl _ _ _ rfl rfl rfl _ rfl rfl (by kernel_rfl) rfl ?_; clear HS; intro W HS)))
  replace HS : Hid (St w W [blkI b11 (sessL (lz (X.at 1).num) (.slice (AR.q 1).p.a (AR.q 1).p.n (AR.q 1).p.c) (.slice (AR.q 1).r.a (AR.q 1).r.n (AR.q 1).r.c) (.slice (AR.q 1).t.a (AR.q 1).t.n (AR.q 1).t.c)), blkI b9 (machL AR X), machI DR AR X]) := HS
  clear c9 hR
  obtain ⟨_, d1, _, _, d4, d5, _, _, _, _, _, _, _, _, _, d15, _⟩ := (HS.out.blk 0 rfl).sess
  by_cases h3 : o3 = (c : Int)
  · rw [if_pos h3] at hok
    simp only [Bool.and_eq_true, decide_eq_true_eq] at hok
    obtain ⟨z3, z1, z4⟩ := hok
    have e4 : (o3 != (c : Int)) = false := by simpa using h3
    rw [show lz (X.at 1).num 3 = 0 from z3] at d4
    rw [show lz (X.at 1).num 1 = o2 from z1] at d1
    rw [show lz (X.at 1).num 4 = 0 from z4] at d5
    clear z3 z1 z4 d15 h3
    go_wp2
    go_ret
    exact ⟨rfl, HS.out.below⟩
  · rw [if_neg h3] at hok
    simp only [Bool.and_eq_true, decide_eq_true_eq] at hok
    obtain ⟨z3, z12, z1⟩ := hok
    have e4 : (o3 != (c : Int)) = true := by simpa using h3
    rw [show lz (X.at 1).num 3 = 6 from z3] at d4
    rw [show lz (X.at 1).num 12 = 4 from z12] at d15
    rw [show lz (X.at 1).num 1 = (f : Int) from z1] at d1
    clear z3 z1 z12 d5 h3
    go_wp2
    go_ret
    exact ⟨rfl, HS.out.below⟩
theorem driftTable_any (a0 : Int) (w : World) :
    Calls Tryz.prog 17 #[.int .i64 a0] w fun e w' => e = .returned (.bool true) ∧ Below w.heap.size w w' := by
  obtain ⟨f, hf, hf4⟩ := bit_pick a0 2 4 rfl (mask3 _) (by decide)
  obtain ⟨l, hl, hl4⟩ := bit_pick (a0 / 4) 2 4 rfl (mask3 _) (by decide)
  obtain ⟨c, hc, hc4⟩ := bit_pick (a0 / 16) 2 4 rfl (mask3 _) (by decide)
  by_cases h : bits .or .i64 (f : Int) c = (c : Int)
  · exact driftTable_yes a0 f l c _ _ _ w hf hl hc rfl rfl rfl h (table_at (by omega) (by omega) (by omega))
  · exact driftTable_no a0 f l c _ w hf hl hc rfl h
end Go.Proofs.YtjjokalheloimaaGreat
