/-
  The law CalcTells.
-/
import Derived.Test.YtnjognmnbpcaaaaGreatZlaj
import Derived.Test.YtnjognmnbpcaaaaGreatZlbh
import Derived.Test.YtnjognmnbpcaaaaGreatZlbg
import Derived.Test.YtnjognmnbpcaaaaGreatZlbd
import Derived.Test.YtnjognmnbpcaaaaGreatZlac
import Derived.Test.YtnjognmnbpcaaaaGreatZlai
namespace Go.Proofs.YtnjognmnbpcaaaaGreat
open Go.RowKit
set_option linter.unusedSimpArgs false
set_option linter.unusedVariables false
set_option maxRecDepth 100000 in
set_option maxHeartbeats 4000000 in
theorem calcTells_any (A : MacM) (M : PMach) (i : Int) (w : World) (h : MachIs w A M) :
    Calls Tryz.prog 4 #[machA A M, .int .i64 i] w fun e w' => e = .returned (.bool true) ∧ Below w.heap.size w w' := by
  have hX := hide h.sess.1
  have h14 : ∀ k : Nat, k < A.s.n → (M.at k).num.length = 14 := fun k hk => (h.sess.2.2.2 k hk).1
  have hE := hide fun (W : World) (hb : Below w.heap.size w W) => calcStep_any A M i W (h.below hb)
  have hAw := hide fun (W : World) => awake17_any W
  have hCopy := hide fun (A : MacM) (M : PMach) (W : World) (h : MachIs W A M) => copyMach_any A M W h
  have hrng := hide fun (k : Nat) (hk : k < A.s.n) (W : World) (hb : Below w.heap.size w W) => (h.below hb).sess.range hk
  have hC := calc_cases h i
  obtain ⟨V0, hV0⟩ : ∃ V0, V0 = machA A M := ⟨_, rfl⟩
  rw [← hV0]
  have HV : Hid (V0.cells = (machL A M).toArray) := by rw [hV0]; rfl
  clear hV0
  have HM := hide h
  have HS := hide (St.refl w)
  clear h
  go_enter Tryz.func4, Tryz.ntmps4
  go_wp2_with (first | ((with_reducible refine isList ?_); first | (refine st_box HS _ _ rfl rfl (machL A M) HV.out ?_; clear HS; intro W bm HS)))
  refine (hAw.out _).mono ?_
  (rintro e Wq ⟨rfl, hb⟩; have HSq := hide (HS.out.on hb); clear HS hb; replace HS := HSq; clear HSq)
  clear hAw
  go_wp2_with (first | ((with_reducible refine isList ?_); first | (refine st_loadA HS 0 rfl _ _ rfl rfl rfl (by decide +kernel) (by kernel_rfl) ?_)))
  refine (hE.out _ HS.out.below).mono ?_
  clear hE
  rcases hC with hD | ⟨k, R, T, rfl, hk0, hh, hD, hT1, hT2, hpf, hP0⟩
  · rw [hD]
    clear h14
    (rintro e Wq ⟨A2, rfl, hO, hb⟩; have HSq := hide (HS.out.push hb (machI (fun k => _) A2 _) (machI_loc _ _ _) hO fun k hk => hk); generalize (fun k => _) = D2 at HSq; clear HS hb hO; replace HS := HSq; clear HSq)
    go_wp2_with (first | ((with_reducible refine isList ?_); first | (refine st_alloc HS _ rfl rfl zeroML zeroM ?_; clear HS; intro W ba HS) | (refine st_storeA HS 0 rfl _ _ _ rfl rfl rfl _ rfl rfl (by kernel_rfl) rfl ?_; clear HS; intro W HS) | (refine st_loadA HS 0 rfl _ _ rfl rfl rfl (by decide +kernel) (by kernel_rfl) ?_)) | (go_at_call 12; refine (num_any _ _).mono ?_; rintro e w' ⟨rfl, rfl⟩))
    refine (sameMachine_yes A2 noMac noMach _ (MachOwn.is (show MachOwn D2 _ A2 noMach from HS.out.get 1 rfl)) (machIs_none _)).mono ?_
    (rintro e Wq ⟨rfl, hb⟩; have HSq := hide (HS.out.on hb); clear HS hb; replace HS := HSq; clear HSq)
    go_wp2
    go_ret
    exact ⟨rfl, HS.out.below⟩
  have hk : k < A.s.n := by have := hX.out; omega
  obtain ⟨P, hP⟩ : ∃ P, P = lz (M.at k).num 4 := ⟨_, rfl⟩
  rw [← hP] at hT1 hP0
  have eB := calc_back (a := R 0) (b := R 1) (c := R 2) (d := R 3) (T := T) hk0 (h14 k hk)
  rw [← hP] at eB
  obtain ⟨N, hN⟩ : ∃ N, N = (M.doR k (R 0) (R 1) (R 2) (R 3)).doN k 4 T := ⟨_, rfl⟩
  have nL : N.sess.length = M.sess.length := by rw [hN]; unfold PMach.doR; rw [doN_len, doN_len, doN_len, doN_len, doN_len]
  have nT : lz (N.at k).num 4 = T := by
    have e14 := h14 k hk
    rw [hN, show (M.doR k (R 0) (R 1) (R 2) (R 3)).doN k 4 T = (M.doR k (R 0) (R 1) (R 2) (R 3)).setS k (((M.doR k (R 0) (R 1) (R 2) (R 3)).at k).setN 4 T) from rfl]
    have hl : k < (M.doR k (R 0) (R 1) (R 2) (R 3)).sess.length := by unfold PMach.doR; rw [doN_len, doN_len, doN_len, doN_len]; exact hk0
    rw [PMach.at_setS hl]
    have e5 : (M.doR k (R 0) (R 1) (R 2) (R 3)).at k = ((((M.at k).setN 5 (R 0)).setN 6 (R 1)).setN 7 (R 2)).setN 8 (R 3) := by
      unfold PMach.doR
      rw [show M.doN k 5 (R 0) = M.setS k ((M.at k).setN 5 (R 0)) from rfl, setS_doN' hk0, setS_doN' hk0, setS_doN' hk0, PMach.at_setS hk0]
    rw [e5, setN_lz (by rw [setN_len, setN_len, setN_len, setN_len]; omega), if_pos rfl]
  rw [← hN] at hD eB
  rw [hD]
  clear hD h14 hh hN
  replace hP := hide hP
  replace eB := hide eB
  replace nL := hide nL
  (rintro e Wq ⟨A2, rfl, hO, hb⟩; have HSq := hide (HS.out.push hb (machI (fun k => _) A2 _) (machI_loc _ _ _) hO fun k hk => hk); generalize (fun k => _) = D2 at HSq; clear HS hb hO; replace HS := HSq; clear HSq)
  have hk2 : k < A2.s.n := by
    have := (MachOwn.is (show MachOwn D2 _ A2 N from HS.out.get 0 rfl)).sess.1
    have := nL.out
    omega
  have i1 : (k : Int) < (A.s.n : Int) := by omega
  have i2 : (k : Int) < (A2.s.n : Int) := by omega
  have i3 : ¬ (k : Int) < 0 := by omega
  have i4 : ¬ (A.s.n : Int) ≤ (k : Int) := by omega
  have i5 : ¬ (A2.s.n : Int) ≤ (k : Int) := by omega
  go_upto_region 6 with (first | ((with_reducible refine isList ?_); first | (refine st_alloc HS _ rfl rfl zeroML zeroM ?_; clear HS; intro W ba HS) | (refine st_storeA HS 0 rfl _ _ _ rfl rfl rfl _ rfl rfl (by kernel_rfl) rfl ?_; clear HS; intro W HS)) | (go_at_call 12; refine (num_any _ _).mono ?_; rintro e w' ⟨rfl, rfl⟩))
  replace HS : Hid (St w W [blkI ba (machL A2 N), machI D2 A2 N, blkI bm (machL A M)]) := HS
  obtain ⟨s2, e2, _⟩ := MachOwn.sblk (show MachOwn D2 _ A2 N from HS.out.get 1 rfl) hk2
  replace e2 := hide e2
  have n2 := (MachOwn.is (show MachOwn D2 _ A2 N from HS.out.get 1 rfl)).sess.1
  replace n2 := hide n2
  have hcl : Hid (∀ W', Below w.heap.size w W' → Blk W' bm (machL A M) → Blk W' ba (machL A2 N) → MachOwn D2 W' A2 N → ∀ bs os, A.s.a = some ⟨bs, os, none⟩ → (W'.cell? ⟨bm, 9, none⟩ = some (.slice (some ⟨bs, os, none⟩) A.s.n A.s.c) ∧ W'.rangeAt bs (os + k * 17) (sessOf (A.q k) (M.at k))) ∧ (W'.cell? ⟨ba, 9, none⟩ = some (.slice (some ⟨s2, 0, none⟩) A2.s.n A2.s.c) ∧ W'.rangeAt s2 (k * 17) (sessOf (A2.q k) (N.at k)))) := fun W' hb h1 h2 h3 bs os es => by
    obtain ⟨b', o', q1, _, q2⟩ := hrng.out k hk W' hb
    rw [es] at q1; cases q1
    obtain ⟨j1, j2⟩ := h3.scell h2 n2.out e2.out
    exact ⟨⟨by rw [← es]; exact h1.cell 9 _ rfl, q2⟩, j1, j2 k hk2⟩
  obtain ⟨bs, os, es, _⟩ := hrng.out k hk _ HS.out.below
  replace hcl := hide fun W' h0 h1 h2 h3 => hcl.out W' h0 h1 h2 h3 bs os es
  obtain ⟨⟨c1, _⟩, c2, c3⟩ := hcl.out _ HS.out.below (HS.out.blk 2 rfl) (HS.out.blk 0 rfl) (HS.out.get 1 rfl)
  clear es c3
  go_upto_region 8 with fail
  clear c1 c2
  (try simp only [Act.put, List.setIfInBounds_toArray, List.set_cons_zero, List.set_cons_succ])
  refine wp_region_fork [true, true, true, true, true, true, true, true, true, true, false, false, false, false] 10 [11, 12, 13] [0, 0, 0] 11 [10, 12, 13] [0, 0, 0] (fun W' => (W'.cell? ⟨bm, 9, none⟩ = some (.slice (some ⟨bs, os, none⟩) A.s.n A.s.c) ∧ W'.rangeAt bs (os + k * 17) (sessOf (A.q k) (M.at k))) ∧ (W'.cell? ⟨ba, 9, none⟩ = some (.slice (some ⟨s2, 0, none⟩) A2.s.n A2.s.c) ∧ W'.rangeAt s2 (k * 17) (sessOf (A2.q k) (N.at k)))) (by kernel_rfl) (by kernel_rfl) (by kernel_rfl) (by decide +kernel) (hcl.out _ HS.out.drew.below (HS.out.drew.blk 2 rfl) (HS.out.drew.blk 0 rfl) (HS.out.drew.get 1 rfl)) ?_
  intro kne
  simp only [pickAt]
  repeat (first | ((first | (refine wpQuiet_ld _ _ rfl ⟨bm, 9, none⟩ rfl rfl (by decide +kernel) (fun w hC => hC.1.1) ?_) | (refine wpQuiet_la _ _ rfl bs (os + k * 17) rfl rfl (by decide +kernel) (sessOf (A.q k) (M.at k)) (by kernel_rfl) (fun w hC => hC.1.2) ?_) | (refine wpQuiet_ld _ _ rfl ⟨ba, 9, none⟩ rfl rfl (by decide +kernel) (fun w hC => hC.2.1) ?_) | (refine wpQuiet_la _ _ rfl s2 (k * 17) rfl rfl (by decide +kernel) (sessOf (A2.q k) (N.at k)) (by kernel_rfl) (fun w hC => hC.2.2) ?_)); simp only [Act.put, List.setIfInBounds_toArray, List.set_cons_zero, List.set_cons_succ]) | go_big_quiet_step (fail))
  refine wpQuiet_nil ?_
  clear kne
  replace HS := hide HS.out.drew
  generalize World.drew _ = Wd at *
  simp only [pickIx, List.getElem?_cons_zero, List.getElem?_cons_succ]
  refine ⟨?_, ?_⟩
  case' refine_1 =>
    refine wpRest_cons rfl rfl fun K hK => ?_
    refine stw_alloc HS _ rfl zeroSL zeroS ?_
    clear HS
    intro W3 b7 HS
    refine hK _ _ (fun _ => InC.mk (hcl.out _ HS.out.below (HS.out.blk 3 rfl) (HS.out.blk 1 rfl) (HS.out.get 2 rfl))) ?_
    clear hK K
    (try simp only [Act.put, List.setIfInBounds_toArray, List.set_cons_zero, List.set_cons_succ])
    refine wpRest_cons rfl rfl fun K hK => ?_
    refine stw_alloc HS _ rfl zeroSL zeroS ?_
    clear HS
    intro W4 b8 HS
    refine hK _ _ (fun _ => InC.mk (hcl.out _ HS.out.below (HS.out.blk 4 rfl) (HS.out.blk 2 rfl) (HS.out.get 3 rfl))) ?_
    clear hK K
    (try simp only [Act.put, List.setIfInBounds_toArray, List.set_cons_zero, List.set_cons_succ])
    replace HS : Hid (St w W4 [blkI b7 zeroSL, blkI b8 zeroSL, blkI ba (machL A2 N), machI D2 A2 N, blkI bm (machL A M)]) := hide (HS.out.sel [1, 0, 2, 3, 4] (by decide) rfl)
  case' refine_2 =>
    refine wpRest_cons rfl rfl fun K hK => ?_
    refine stw_alloc HS _ rfl zeroSL zeroS ?_
    clear HS
    intro W3 b8 HS
    refine hK _ _ (fun _ => InC.mk (hcl.out _ HS.out.below (HS.out.blk 3 rfl) (HS.out.blk 1 rfl) (HS.out.get 2 rfl))) ?_
    clear hK K
    (try simp only [Act.put, List.setIfInBounds_toArray, List.set_cons_zero, List.set_cons_succ])
    refine wpRest_cons rfl rfl fun K hK => ?_
    refine stw_alloc HS _ rfl zeroSL zeroS ?_
    clear HS
    intro W4 b7 HS
    refine hK _ _ (fun _ => InC.mk (hcl.out _ HS.out.below (HS.out.blk 4 rfl) (HS.out.blk 2 rfl) (HS.out.get 3 rfl))) ?_
    clear hK K
    (try simp only [Act.put, List.setIfInBounds_toArray, List.set_cons_zero, List.set_cons_succ])
  all_goals
    refine wpRest_cons rfl rfl fun K hK => ?_
    refine stw_storeA HS 0 rfl _ _ _ rfl rfl (sessOf (A.q k) (M.at k)) rfl rfl (by kernel_rfl) rfl ?_
    clear HS
    intro W5 HS
    refine hK _ _ (fun _ => InC.mk (hcl.out _ HS.out.below (HS.out.blk 4 rfl) (HS.out.blk 2 rfl) (HS.out.get 3 rfl))) ?_
    clear hK K
    (try simp only [Act.put, List.setIfInBounds_toArray, List.set_cons_zero, List.set_cons_succ])
    refine wpRest_cons rfl rfl fun K hK => ?_
    refine stw_storeA HS 1 rfl _ _ _ rfl rfl (sessOf (A2.q k) (N.at k)) rfl rfl (by kernel_rfl) rfl ?_
    clear HS
    intro W6 HS
    refine hK _ _ (fun _ => InC.mk (hcl.out _ HS.out.below (HS.out.blk 4 rfl) (HS.out.blk 2 rfl) (HS.out.get 3 rfl))) (wpRest_nil ?_)
    clear hK K hcl
    (try simp only [Act.put, List.setIfInBounds_toArray, List.set_cons_zero, List.set_cons_succ])
    refine NoPanic.normal ?_
    replace HS : Hid (St w W6 [blkI b7 (sessL (lz (M.at k).num) (.slice (A.q k).p.a (A.q k).p.n (A.q k).p.c) (.slice (A.q k).r.a (A.q k).r.n (A.q k).r.c) (.slice (A.q k).t.a (A.q k).t.n (A.q k).t.c)), blkI b8 (sessL (lz (N.at k).num) (.slice (A2.q k).p.a (A2.q k).p.n (A2.q k).p.c) (.slice (A2.q k).r.a (A2.q k).r.n (A2.q k).r.c) (.slice (A2.q k).t.a (A2.q k).t.n (A2.q k).t.c)), blkI ba (machL A2 N), machI D2 A2 N, blkI bm (machL A M)]) := HS
    obtain ⟨-, -, -, g3, -, g5, -, -, -, -, -, -, -, -, -, -, -⟩ := (HS.out.blk 0 rfl).sess
    obtain ⟨-, -, -, -, -, d5, -, -, -, -, -, -, -, -, -, -, -⟩ := (HS.out.blk 1 rfl).sess
    rw [← hP.out] at g5
    rw [nT] at d5
    have j1 : ¬ T ≤ P := by omega
    have j2 : ¬ ((A.q k).p.n : Int) < T := by omega
    go_upto_region 11 with fail
    clear g3 g5 d5 j1 j2
    go_wp2_with (first | ((with_reducible refine isList ?_); first | (refine st_loadA HS 2 rfl _ _ rfl rfl rfl (by decide +kernel) (by kernel_rfl) ?_)))
    refine (hCopy.out A2 N _ (MachOwn.is (show MachOwn D2 _ A2 N from HS.out.get 3 rfl))).mono ?_
    (rintro e Wq ⟨A3, rfl, hO, hb⟩; have HSq := hide (HS.out.push hb (machI (fun k => _) A3 _) (machI_loc _ _ _) hO fun k hk => hk); generalize (fun k => _) = D3 at HSq; clear HS hb hO; replace HS := HSq; clear HSq)
    have hk1 : k < A3.s.n := by
      have := (MachOwn.is (show MachOwn D3 _ A3 N from HS.out.get 0 rfl)).sess.1
      have := nL.out
      omega
    have i6 : (k : Int) < (A3.s.n : Int) := by omega
    obtain ⟨bs1, hbs1, _⟩ := MachOwn.sblk (show MachOwn D3 _ A3 N from HS.out.get 0 rfl) hk1
    replace hbs1 := hide hbs1
    go_upto_region 12 with (first | ((with_reducible refine isList ?_); first | (refine st_alloc HS _ rfl rfl zeroML zeroM ?_; clear HS; intro W bc HS) | (refine st_storeA HS 0 rfl _ _ _ rfl rfl rfl _ rfl rfl (by kernel_rfl) rfl ?_; clear HS; intro W HS)))
    replace HS : Hid (St w W [blkI bc (machL A3 N), machI D3 A3 N, blkI b7 (sessL (lz (M.at k).num) (.slice (A.q k).p.a (A.q k).p.n (A.q k).p.c) (.slice (A.q k).r.a (A.q k).r.n (A.q k).r.c) (.slice (A.q k).t.a (A.q k).t.n (A.q k).t.c)), blkI bm (machL A M)]) := hide (HS.out.sel [0, 1, 2, 6] (by decide) rfl)
    replace hbs1 := hbs1.out
    go_upto_region 13 with (first | ((with_reducible refine isList ?_); first | (refine st_load1 HS 0 rfl _ _ rfl _ rfl rfl (by decide +kernel) rfl ?_) | (refine st_load1 HS 2 rfl _ _ rfl _ rfl rfl (by decide +kernel) rfl ?_) | (refine st_storeN HS 1 rfl hk1 hbs1 4 (by decide) _ _ _ rfl _ rfl (show _ = k * 17 + 5 from by with_reducible rfl) rfl rfl (by decide +kernel) ?_; clear HS; intro W HS)))
    replace HS : Hid (St w W [blkI bc (machL A3 (N.doN k 4 (lz (M.at k).num 4))), machI D3 A3 (N.doN k 4 (lz (M.at k).num 4)), blkI b7 (sessL (lz (M.at k).num) (.slice (A.q k).p.a (A.q k).p.n (A.q k).p.c) (.slice (A.q k).r.a (A.q k).r.n (A.q k).r.c) (.slice (A.q k).t.a (A.q k).t.n (A.q k).t.c)), blkI bm (machL A M)]) := HS
    go_upto_region 14 with (first | ((with_reducible refine isList ?_); first | (refine st_load1 HS 0 rfl _ _ rfl _ rfl rfl (by decide +kernel) rfl ?_) | (refine st_loadR HS 2 rfl _ _ rfl _ rfl rfl (by decide +kernel) [.int .i64 (lz (M.at k).num 5), .int .i64 (lz (M.at k).num 6), .int .i64 (lz (M.at k).num 7), .int .i64 (lz (M.at k).num 8)] [.slice (A.q k).r.a (A.q k).r.n (A.q k).r.c, .slice (A.q k).t.a (A.q k).t.n (A.q k).t.c, .int .i64 (lz (M.at k).num 9), .int .i64 (lz (M.at k).num 10), .int .i64 (lz (M.at k).num 11), .int .i64 (lz (M.at k).num 12), .int .i64 (lz (M.at k).num 13)] (by kernel_rfl) rfl ?_) | (refine st_storeG HS 1 rfl hk1 hbs1 _ _ _ rfl _ rfl (show _ = k * 17 + 6 from by with_reducible rfl) rfl rfl (by decide +kernel) ?_; clear HS; intro W HS)))
    replace HS : Hid (St w W [blkI bc (machL A3 ((N.doN k 4 (lz (M.at k).num 4)).doR k (lz (M.at k).num 5) (lz (M.at k).num 6) (lz (M.at k).num 7) (lz (M.at k).num 8))), machI D3 A3 ((N.doN k 4 (lz (M.at k).num 4)).doR k (lz (M.at k).num 5) (lz (M.at k).num 6) (lz (M.at k).num 7) (lz (M.at k).num 8)), blkI b7 (sessL (lz (M.at k).num) (.slice (A.q k).p.a (A.q k).p.n (A.q k).p.c) (.slice (A.q k).r.a (A.q k).r.n (A.q k).r.c) (.slice (A.q k).t.a (A.q k).t.n (A.q k).t.c)), blkI bm (machL A M)]) := HS
    rw [← hP.out, eB.out] at HS
    go_wp2_with (first | ((with_reducible refine isList ?_); first | (refine st_loadA HS 0 rfl _ _ rfl rfl rfl (by decide +kernel) (by kernel_rfl) ?_) | (refine st_loadA HS 3 rfl _ _ rfl rfl rfl (by decide +kernel) (by kernel_rfl) ?_)))
    refine (sameMachine_yes A3 A M _ (MachOwn.is (show MachOwn D3 _ A3 M from HS.out.get 1 rfl)) (HM.out.below HS.out.below)).mono ?_
    (rintro e Wq ⟨rfl, hb⟩; have HSq := hide (HS.out.on hb); clear HS hb; replace HS := HSq; clear HSq)
    go_wp2
    go_ret
    exact ⟨rfl, HS.out.below⟩
end Go.Proofs.YtnjognmnbpcaaaaGreat
