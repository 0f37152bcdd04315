/-
  The law DriftRises.
-/
import Derived.Test.YtjjokalheloimaaGreatZhAwake14
import Derived.Test.YtjjokalheloimaaGreatZlbb
import Derived.Test.YtjjokalheloimaaGreatZlbe
import Derived.Test.YtjjokalheloimaaGreatZlac
import Derived.Test.YtjjokalheloimaaGreatZlah
namespace Go.Proofs.YtjjokalheloimaaGreat
open Go.RowKit
set_option linter.unusedSimpArgs false
set_option linter.unusedVariables false
/-- What a machine is behind a drift that ended the session. -/
structure Ended (M N : PMach) (k : Nat) : Prop where
  clocks : N.clocks = M.clocks
  len : N.sess.length = M.sess.length
  step : lz (N.at k).num 3 = 6
  result : lz (N.at k).num 12 = 4
  lab : lz (N.at k).num 1 = lz (M.at k).num 1
set_option maxRecDepth 100000 in
set_option maxHeartbeats 4000000 in
theorem driftRises_any (A : MacM) (M : PMach) (i : Int) (w : World) (h : MachIs w A M) :
    Calls Tryz.prog 16 #[machA A M, .int .i64 i] w fun e w' => e = .returned (.bool true) ∧ Below w.heap.size w w' := by
  have hX := hide h.sess.1
  have h4 := h.four
  have h14 : ∀ k : Nat, k < A.s.n → (M.at k).num.length = 14 := fun k hk => (h.sess.2.2.2 k hk).1
  have hE := hide fun (W : World) (hb : Below w.heap.size w W) => driftStep_any A M i W (h.below hb)
  have hAw := hide fun (W : World) => awake14_any W
  have hrng := hide fun (k : Nat) (hk : k < A.s.n) (W : World) (hb : Below w.heap.size w W) => (h.below hb).sess.range hk
  have hC := drift_cases h i
  obtain ⟨V0, hV0⟩ : ∃ V0, V0 = machA A M := ⟨_, rfl⟩
  rw [← hV0]
  have HV : Hid (V0.cells = (machL A M).toArray) := by rw [hV0]; rfl
  clear hV0
  have HM := hide h
  have HS := hide (St.refl w)
  clear h
  go_enter Tryz.func16, Tryz.ntmps16
  go_wp2_with (first | ((with_reducible refine isList ?_); first | (refine st_box HS _ _ rfl rfl (machL A M) HV.out ?_; clear HS; intro W bm HS)))
  refine (hAw.out _).mono ?_
  (rintro e Wq ⟨rfl, hb⟩; have HSq := hide (HS.out.on hb); clear HS hb; replace HS := HSq; clear HSq)
  clear hAw
  go_wp2_with (first | ((with_reducible refine isList ?_); first | (refine st_loadA HS 0 rfl _ _ rfl rfl rfl (by decide +kernel) (by kernel_rfl) ?_)))
  refine (hE.out _ HS.out.below).mono ?_
  clear hE
  rcases hC with hD | ⟨k, rfl, hk0, hC⟩
  · rw [hD]
    clear h4 h14
    (rintro e Wq ⟨A2, rfl, hO, hb⟩; have HSq := hide (HS.out.push hb (machI (fun k => _) A2 _) (machI_loc _ _ _) hO fun k hk => hk); generalize (fun k => _) = D2 at HSq; clear HS hb hO; replace HS := HSq; clear HSq)
    go_wp2_with (first | ((with_reducible refine isList ?_); first | (refine st_alloc HS _ rfl rfl zeroML zeroM ?_; clear HS; intro W ba HS) | (refine st_storeA HS 0 rfl _ _ _ rfl rfl rfl _ rfl rfl (by kernel_rfl) rfl ?_; clear HS; intro W HS) | (refine st_loadA HS 0 rfl _ _ rfl rfl rfl (by decide +kernel) (by kernel_rfl) ?_)) | (go_at_call 27; refine (num_any _ _).mono ?_; rintro e w' ⟨rfl, rfl⟩))
    refine (sameMachine_yes A2 noMac noMach _ (MachOwn.is (show MachOwn D2 _ A2 noMach from HS.out.get 1 rfl)) (machIs_none _)).mono ?_
    (rintro e Wq ⟨rfl, hb⟩; have HSq := hide (HS.out.on hb); clear HS hb; replace HS := HSq; clear HSq)
    go_wp2
    go_ret
    exact ⟨rfl, HS.out.below⟩
  have hk : k < A.s.n := by have := hX.out; omega
  obtain ⟨N, hD, hF⟩ : ∃ N, driftP M k = (N, 0) ∧ Hid (N.clocks = M.clocks ∧ N.sess.length = M.sess.length ∧ (Rose M N k ∨ Ended M N k)) := by
    rcases hC with ⟨N, hD, hR⟩ | hD
    · exact ⟨N, hD, hide ⟨hR.clocks, hR.len, .inl hR⟩⟩
    · have hL := endR_loosed h4 hk0 4 0
      refine ⟨_, hD, hide ⟨hL.clocks, hL.len, .inr ⟨hL.clocks, hL.len, ?_, ?_, ?_⟩⟩⟩
      · rw [endR_at hk0, endS_lz (h14 k hk)]; simp
      · rw [endR_at hk0, endS_lz (h14 k hk)]; simp
      · rw [endR_at hk0, endS_lz (h14 k hk)]; simp
  rw [hD]
  clear hC hD h14
  (rintro e Wq ⟨A2, rfl, hO, hb⟩; have HSq := hide (HS.out.push hb (machI (fun k => _) A2 _) (machI_loc _ _ _) hO fun k hk => hk); generalize (fun k => _) = D2 at HSq; clear HS hb hO; replace HS := HSq; clear HSq)
  have hk2 : k < A2.s.n := by
    have := (MachOwn.is (show MachOwn D2 _ A2 N from HS.out.get 0 rfl)).sess.1
    have := hF.out.2.1
    omega
  have i1 : (k : Int) < (A.s.n : Int) := by omega
  have i2 : (k : Int) < (A2.s.n : Int) := by omega
  have i3 : ¬ (k : Int) < 0 := by omega
  have i4 : ¬ (A.s.n : Int) ≤ (k : Int) := by omega
  have i5 : ¬ (A2.s.n : Int) ≤ (k : Int) := by omega
  go_upto_region 6 with (first | ((with_reducible refine isList ?_); first | (refine st_alloc HS _ rfl rfl zeroML zeroM ?_; clear HS; intro W ba HS) | (refine st_storeA HS 0 rfl _ _ _ rfl rfl rfl _ rfl rfl (by kernel_rfl) rfl ?_; clear HS; intro W HS)) | (go_at_call 27; refine (num_any _ _).mono ?_; rintro e w' ⟨rfl, rfl⟩))
  replace HS : Hid (St w W [blkI ba (machL A2 N), machI D2 A2 N, blkI bm (machL A M)]) := HS
  obtain ⟨s2, e2, _⟩ := MachOwn.sblk (show MachOwn D2 _ A2 N from HS.out.get 1 rfl) hk2
  replace e2 := hide e2
  have n2 := (MachOwn.is (show MachOwn D2 _ A2 N from HS.out.get 1 rfl)).sess.1
  replace n2 := hide n2
  obtain ⟨a0, a1, a2, a3, a4, a5, a6, a7, a8, a9, a10⟩ := (HS.out.blk 2 rfl).mac
  obtain ⟨b0, b1, b2, b3, b4, b5, b6, b7, b8, b9, b10⟩ := (HS.out.blk 0 rfl).mac
  clear a4 a5 a6 a7 a8 a10 b4 b5 b6 b7 b8 b10
  go_wp2_with fail
  obtain ⟨b, hb, hbw⟩ := sameArena_may A2 A N M _ (MachOwn.is (show MachOwn D2 _ A2 N from HS.out.get 1 rfl)) (HM.out.below HS.out.below)
  clear a0 a1 a2 a3 a9 b0 b1 b2 b3 b9
  refine hb.mono ?_
  clear hb
  (rintro e Wq ⟨rfl, hb⟩; have HSq := hide (HS.out.on hb); clear HS hb; replace HS := HSq; clear HSq)
  have hbb : b = true ∨ (b = false ∧ Ended M N k) := by
    cases b
    · rcases hF.out.2.2 with hR | hR
      · exact .inl (hbw hR.words)
      · exact .inr ⟨rfl, hR⟩
    · exact .inl rfl
  clear hbw
  obtain ⟨-, -, -, -, a4, a5, a6, a7, -, -, -⟩ := (HS.out.blk 2 rfl).mac
  obtain ⟨-, -, -, -, b4, b5, b6, b7, -, -, -⟩ := (HS.out.blk 0 rfl).mac
  rw [hF.out.1] at b4 b5 b6 b7
  have hcl : Hid (∀ W', Below w.heap.size w W' → Blk W' bm (machL A M) → Blk W' ba (machL A2 N) → MachOwn D2 W' A2 N → ∀ bs os, A.s.a = some ⟨bs, os, none⟩ → (W'.cell? ⟨bm, 9, none⟩ = some (.slice (some ⟨bs, os, none⟩) A.s.n A.s.c) ∧ W'.rangeAt bs (os + k * 17) (sessOf (A.q k) (M.at k))) ∧ (W'.cell? ⟨ba, 9, none⟩ = some (.slice (some ⟨s2, 0, none⟩) A2.s.n A2.s.c) ∧ W'.rangeAt s2 (k * 17) (sessOf (A2.q k) (N.at k)))) := fun W' hb h1 h2 h3 bs os es => by
    obtain ⟨b', o', q1, _, q2⟩ := hrng.out k hk W' hb
    rw [es] at q1; cases q1
    obtain ⟨j1, j2⟩ := h3.scell h2 n2.out e2.out
    exact ⟨⟨by rw [← es]; exact h1.cell 9 _ rfl, q2⟩, j1, j2 k hk2⟩
  obtain ⟨bs, os, es, _⟩ := hrng.out k hk _ HS.out.below
  replace hcl := hide fun W' h0 h1 h2 h3 => hcl.out W' h0 h1 h2 h3 bs os es
  obtain ⟨⟨c1, _⟩, c2, c3⟩ := hcl.out _ HS.out.below (HS.out.blk 2 rfl) (HS.out.blk 0 rfl) (HS.out.get 1 rfl)
  clear es
  have Q := fun W => quad_eq (lz M.clocks 0) (lz M.clocks 1) (lz M.clocks 2) (lz M.clocks 3) (lz M.clocks 0) (lz M.clocks 1) (lz M.clocks 2) (lz M.clocks 3) W
  simp only [beq_self_eq_true, Bool.and_self] at Q
  rcases hbb with rfl | ⟨rfl, hEn⟩
  case' inl =>
    clear c3
    go_upto_region 8 with fail
  case' inr =>
    have c4 : Wq.cell? ⟨s2, k * 17 + 4, none⟩ = some (.int .i64 6) := by rw [← hEn.step]; exact c3 4 _ rfl
    clear c3
    replace hF : Hid (N.clocks = M.clocks ∧ N.sess.length = M.sess.length ∧ (Rose M N k ∨ Ended M N k)) := hide ⟨hEn.clocks, hEn.len, .inr hEn⟩
    clear hEn
    go_upto_region 8 with fail
    clear c4
  all_goals
    clear c1 c2 a4 a5 a6 a7 b4 b5 b6 b7 Q
    (try simp only [Act.put, List.setIfInBounds_toArray, List.set_cons_zero, List.set_cons_succ])
    refine wp_region_fork [true, true, true, true, true, true, true, true, true, true, false, false, false, false] 10 [11, 12, 13] [0, 0, 0] 11 [10, 12, 13] [0, 0, 0] (fun W' => (W'.cell? ⟨bm, 9, none⟩ = some (.slice (some ⟨bs, os, none⟩) A.s.n A.s.c) ∧ W'.rangeAt bs (os + k * 17) (sessOf (A.q k) (M.at k))) ∧ (W'.cell? ⟨ba, 9, none⟩ = some (.slice (some ⟨s2, 0, none⟩) A2.s.n A2.s.c) ∧ W'.rangeAt s2 (k * 17) (sessOf (A2.q k) (N.at k)))) (by kernel_rfl) (by kernel_rfl) (by kernel_rfl) (by decide +kernel) (hcl.out _ HS.out.drew.below (HS.out.drew.blk 2 rfl) (HS.out.drew.blk 0 rfl) (HS.out.drew.get 1 rfl)) ?_
    intro kne
    simp only [pickAt]
    repeat (first | ((first | (refine wpQuiet_ld _ _ rfl ⟨bm, 9, none⟩ rfl rfl (by decide +kernel) (fun w hC => hC.1.1) ?_) | (refine wpQuiet_la _ _ rfl bs (os + k * 17) rfl rfl (by decide +kernel) (sessOf (A.q k) (M.at k)) (by kernel_rfl) (fun w hC => hC.1.2) ?_) | (refine wpQuiet_ld _ _ rfl ⟨ba, 9, none⟩ rfl rfl (by decide +kernel) (fun w hC => hC.2.1) ?_) | (refine wpQuiet_la _ _ rfl s2 (k * 17) rfl rfl (by decide +kernel) (sessOf (A2.q k) (N.at k)) (by kernel_rfl) (fun w hC => hC.2.2) ?_)); simp only [Act.put, List.setIfInBounds_toArray, List.set_cons_zero, List.set_cons_succ]) | go_big_quiet_step (fail))
    refine wpQuiet_nil ?_
    clear kne
    replace HS := hide HS.out.drew
    generalize World.drew _ = Wd at *
    simp only [pickIx, List.getElem?_cons_zero, List.getElem?_cons_succ]
    refine ⟨?_, ?_⟩
    case' refine_1 =>
      refine wpRest_cons rfl rfl fun K hK => ?_
      refine stw_alloc HS _ rfl zeroSL zeroS ?_
      clear HS
      intro W3 b7 HS
      refine hK _ _ (fun _ => InC.mk (hcl.out _ HS.out.below (HS.out.blk 3 rfl) (HS.out.blk 1 rfl) (HS.out.get 2 rfl))) ?_
      clear hK K
      (try simp only [Act.put, List.setIfInBounds_toArray, List.set_cons_zero, List.set_cons_succ])
      refine wpRest_cons rfl rfl fun K hK => ?_
      refine stw_alloc HS _ rfl zeroSL zeroS ?_
      clear HS
      intro W4 b8 HS
      refine hK _ _ (fun _ => InC.mk (hcl.out _ HS.out.below (HS.out.blk 4 rfl) (HS.out.blk 2 rfl) (HS.out.get 3 rfl))) ?_
      clear hK K
      (try simp only [Act.put, List.setIfInBounds_toArray, List.set_cons_zero, List.set_cons_succ])
      replace HS : Hid (St w W4 [blkI b7 zeroSL, blkI b8 zeroSL, blkI ba (machL A2 N), machI D2 A2 N, blkI bm (machL A M)]) := hide (HS.out.sel [1, 0, 2, 3, 4] (by decide) rfl)
    case' refine_2 =>
      refine wpRest_cons rfl rfl fun K hK => ?_
      refine stw_alloc HS _ rfl zeroSL zeroS ?_
      clear HS
      intro W3 b8 HS
      refine hK _ _ (fun _ => InC.mk (hcl.out _ HS.out.below (HS.out.blk 3 rfl) (HS.out.blk 1 rfl) (HS.out.get 2 rfl))) ?_
      clear hK K
      (try simp only [Act.put, List.setIfInBounds_toArray, List.set_cons_zero, List.set_cons_succ])
      refine wpRest_cons rfl rfl fun K hK => ?_
      refine stw_alloc HS _ rfl zeroSL zeroS ?_
      clear HS
      intro W4 b7 HS
      refine hK _ _ (fun _ => InC.mk (hcl.out _ HS.out.below (HS.out.blk 4 rfl) (HS.out.blk 2 rfl) (HS.out.get 3 rfl))) ?_
      clear hK K
      (try simp only [Act.put, List.setIfInBounds_toArray, List.set_cons_zero, List.set_cons_succ])
    all_goals
      refine wpRest_cons rfl rfl fun K hK => ?_
      refine stw_storeA HS 0 rfl _ _ _ rfl rfl (sessOf (A.q k) (M.at k)) rfl rfl (by kernel_rfl) rfl ?_
      clear HS
      intro W5 HS
      refine hK _ _ (fun _ => InC.mk (hcl.out _ HS.out.below (HS.out.blk 4 rfl) (HS.out.blk 2 rfl) (HS.out.get 3 rfl))) ?_
      clear hK K
      (try simp only [Act.put, List.setIfInBounds_toArray, List.set_cons_zero, List.set_cons_succ])
      refine wpRest_cons rfl rfl fun K hK => ?_
      refine stw_storeA HS 1 rfl _ _ _ rfl rfl (sessOf (A2.q k) (N.at k)) rfl rfl (by kernel_rfl) rfl ?_
      clear HS
      intro W6 HS
      refine hK _ _ (fun _ => InC.mk (hcl.out _ HS.out.below (HS.out.blk 4 rfl) (HS.out.blk 2 rfl) (HS.out.get 3 rfl))) (wpRest_nil ?_)
      clear hK K hcl
      (try simp only [Act.put, List.setIfInBounds_toArray, List.set_cons_zero, List.set_cons_succ])
      refine NoPanic.normal ?_
      replace HS : Hid (St w W6 [blkI b7 (sessL (lz (M.at k).num) (.slice (A.q k).p.a (A.q k).p.n (A.q k).p.c) (.slice (A.q k).r.a (A.q k).r.n (A.q k).r.c) (.slice (A.q k).t.a (A.q k).t.n (A.q k).t.c)), blkI b8 (sessL (lz (N.at k).num) (.slice (A2.q k).p.a (A2.q k).p.n (A2.q k).p.c) (.slice (A2.q k).r.a (A2.q k).r.n (A2.q k).r.c) (.slice (A2.q k).t.a (A2.q k).t.n (A2.q k).t.c)), blkI ba (machL A2 N), machI D2 A2 N, blkI bm (machL A M)]) := HS
      obtain ⟨g0, g1, g2, g3, g4, g5, g6, g7, g8, g9, g10, g11, g12, g13, g14, g15, g16⟩ := (HS.out.blk 0 rfl).sess
      obtain ⟨d0, d1, d2, d3, d4, d5, d6, d7, d8, d9, d10, d11, d12, d13, d14, d15, d16⟩ := (HS.out.blk 1 rfl).sess
      clear g0 g3 g4 g11 g12 g13 g14 g15 g16 d0 d3 d11 d12 d13 d14 d16
      rcases hF.out.2.2 with hR | hR
      · have hR' := hide hR
        obtain ⟨l, hl⟩ : ∃ l, l = lz (M.at k).num 1 := ⟨_, rfl⟩
        obtain ⟨j, hj⟩ : ∃ j, j = lz (N.at k).num 1 := ⟨_, rfl⟩
        obtain ⟨c, hc⟩ : ∃ c, c = lz (M.at k).num 2 := ⟨_, rfl⟩
        have j1 := hR.new
        have j2 := hR.up
        have j3 := hR.clear
        have hnum := hR.num
        have hst := hR.step
        have hN2 := hide fun (W : World) (hm : MachIs W A2 N) => driftNeeds_any A2 N k W hm
        rw [hR.needs] at hN2
        rw [← hl, ← hj] at j1 j2
        rw [← hj, ← hc] at j3
        rw [← hj] at d1
        rw [← hl] at g1
        rw [hnum 2 (by decide), ← hc] at d2
        rw [← hc] at g2
        rw [hnum 3 (by decide), hst] at d4
        rw [hnum 4 (by decide)] at d5
        rw [hnum 5 (by decide)] at d6
        rw [hnum 6 (by decide)] at d7
        rw [hnum 7 (by decide)] at d8
        rw [hnum 8 (by decide)] at d9
        clear hst hR d15
        replace hnum := hide hnum; replace hl := hide hl; replace hj := hide hj; replace hc := hide hc
        have j4 : (j != l) = true := by simpa using j1
        have Q := fun W => quad_eq (lz (M.at k).num 5) (lz (M.at k).num 6) (lz (M.at k).num 7) (lz (M.at k).num 8) (lz (M.at k).num 5) (lz (M.at k).num 6) (lz (M.at k).num 7) (lz (M.at k).num 8) W
        simp only [beq_self_eq_true, Bool.and_self] at Q
        replace Q := hide Q
        go_upto_region 11 with fail
        clear d1 d2 d4 d5 d6 d7 d8 d9 d10 g1 g2 g5 g6 g7 g8 g9 g10
        go_wp2_with (first | ((with_reducible refine isList ?_); first | (refine st_loadA HS 2 rfl _ _ rfl rfl rfl (by decide +kernel) (by kernel_rfl) ?_)))
        refine (hN2.out _ (MachOwn.is (show MachOwn D2 _ A2 N from HS.out.get 3 rfl))).mono ?_
        (rintro e Wq ⟨rfl, hb⟩; have HSq := hide (HS.out.on hb); clear HS hb; replace HS := HSq; clear HSq)
        clear hN2
        obtain ⟨-, g1, g2, -, -, g5, g6, g7, g8, g9, g10, -, -, -, -, -, -⟩ := (HS.out.blk 0 rfl).sess
        obtain ⟨-, d1, d2, -, -, d5, d6, d7, d8, d9, d10, -, -, -, -, -, -⟩ := (HS.out.blk 1 rfl).sess
        rw [← hj.out] at d1
        rw [← hl.out] at g1
        rw [hnum.out 2 (by decide), ← hc.out] at d2
        rw [← hc.out] at g2
        rw [hnum.out 4 (by decide)] at d5
        rw [hnum.out 5 (by decide)] at d6
        rw [hnum.out 6 (by decide)] at d7
        rw [hnum.out 7 (by decide)] at d8
        rw [hnum.out 8 (by decide)] at d9
        replace Q := Q.out
        go_wp2_with (go_at_call 27; refine (num_any _ _).mono ?_; rintro e w' ⟨rfl, rfl⟩)
        refine (sameReads_yes (A.q k) (A2.q k) (M.at k) (N.at k) _ ((HM.out.below HS.out.below).sess.2.2.2 k hk) ((MachOwn.is (show MachOwn D2 _ A2 N from HS.out.get 3 rfl)).sess.2.2.2 k hk2) hR'.out.reads).mono ?_
        rintro e Wz ⟨rfl, q, rfl⟩
        replace HS := hide (HS.out.drawn q)
        clear Q d1 d2 d5 d6 d7 d8 d9 d10 g1 g2 g5 g6 g7 g8 g9 g10
        generalize World.drewN _ _ = Wd2 at *
        go_wp2
        go_ret
        exact ⟨rfl, HS.out.below⟩
      · have e1 := hR.step
        have e2 := hR.result
        have e3 := hR.lab
        rw [e1] at d4
        rw [e2] at d15
        rw [e3] at d1
        clear e1 e2 e3 hR d2 d5 d6 d7 d8 d9 d10 g2 g5 g6 g7 g8 g9 g10
        go_wp2
        go_ret
        exact ⟨rfl, HS.out.below⟩
end Go.Proofs.YtjjokalheloimaaGreat
