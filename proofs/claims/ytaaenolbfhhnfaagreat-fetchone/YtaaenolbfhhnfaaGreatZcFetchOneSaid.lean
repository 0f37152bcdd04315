/-
  The law FetchOne.
-/
import Derived.Test.YtaaenolbfhhnfaaGreatZlba
import Derived.Test.YtaaenolbfhhnfaaGreatZlbc
import Derived.Test.YtaaenolbfhhnfaaGreatZlbd
import Derived.Test.YtaaenolbfhhnfaaGreatZlai
namespace Go.Proofs.YtaaenolbfhhnfaaGreat
open Go.RowKit
set_option linter.unusedSimpArgs false
set_option linter.unusedVariables false
/-- What a machine is behind a fetch that began anew, or read. -/
def AnewS (N : PMach) (k : Nat) : Prop := lz (N.at k).num 4 = 0 ∧ (N.at k).reads.length = 0
theorem good_there {s : Nat → Sl} {y : Nat → Nat → Int} {n : Nat} {z : Nat → Int} {d : Int} (h : goodV s y n z d = true) : goodE s y n z d = 0 := by
  unfold goodV at h
  simp only [Bool.and_eq_true] at h
  unfold goodE
  rw [h.1]; rfl
set_option maxRecDepth 100000 in
set_option maxHeartbeats 4000000 in
theorem fetchOne_any (A : MacM) (M : PMach) (i : Int) (w : World) (h : MachIs w A M) :
    Calls Tryz.prog 9 #[machA A M, .int .i64 i] w fun e w' => e = .returned (.bool true) ∧ Below w.heap.size w w' := by
  have hX := hide h.sess.1
  have h4 := h.four
  have h14 : ∀ k : Nat, k < A.s.n → (M.at k).num.length = 14 := fun k hk => (h.sess.2.2.2 k hk).1
  have hE := hide fun (W : World) (hb : Below w.heap.size w W) => fetchStep_any A M i W (h.below hb)
  have hAw := hide fun (W : World) => awake15_any W
  have hrng := hide fun (k : Nat) (hk : k < A.s.n) (W : World) (hb : Below w.heap.size w W) => (h.below hb).sess.range hk
  have hC := fetch_cases h i
  obtain ⟨V0, hV0⟩ : ∃ V0, V0 = machA A M := ⟨_, rfl⟩
  rw [← hV0]
  have HV : Hid (V0.cells = (machL A M).toArray) := by rw [hV0]; rfl
  clear hV0
  have HM := hide h
  have HS := hide (St.refl w)
  clear h
  go_enter Tryz.func9, Tryz.ntmps9
  go_wp2_with (first | ((with_reducible refine isList ?_); first | (refine st_box HS _ _ rfl rfl (machL A M) HV.out ?_; clear HS; intro W bm HS)))
  refine (hAw.out _).mono ?_
  (rintro e Wq ⟨rfl, hb⟩; have HSq := hide (HS.out.on hb); clear HS hb; replace HS := HSq; clear HSq)
  clear hAw
  go_wp2_with (first | ((with_reducible refine isList ?_); first | (refine st_loadA HS 0 rfl _ _ rfl rfl rfl (by decide +kernel) (by kernel_rfl) ?_)))
  refine (hE.out _ HS.out.below).mono ?_
  clear hE
  rcases hC with hD | ⟨k, rfl, hk0, hh, hC⟩
  · rw [hD]
    clear h4 h14
    (rintro e Wq ⟨A2, rfl, hO, hb⟩; have HSq := hide (HS.out.push hb (machI (fun k => _) A2 _) (machI_loc _ _ _) hO fun k hk => hk); generalize (fun k => _) = D2 at HSq; clear HS hb hO; replace HS := HSq; clear HSq)
    go_wp2_with (first | ((with_reducible refine isList ?_); first | (refine st_alloc HS _ rfl rfl zeroML zeroM ?_; clear HS; intro W ba HS) | (refine st_storeA HS 0 rfl _ _ _ rfl rfl rfl _ rfl rfl (by kernel_rfl) rfl ?_; clear HS; intro W HS) | (refine st_loadA HS 0 rfl _ _ rfl rfl rfl (by decide +kernel) (by kernel_rfl) ?_)) | (go_at_call 21; refine (num_any _ _).mono ?_; rintro e w' ⟨rfl, rfl⟩))
    refine (sameMachine_yes A2 noMac noMach _ (MachOwn.is (show MachOwn D2 _ A2 noMach from HS.out.get 1 rfl)) (machIs_none _)).mono ?_
    (rintro e Wq ⟨rfl, hb⟩; have HSq := hide (HS.out.on hb); clear HS hb; replace HS := HSq; clear HSq)
    go_wp2
    go_ret
    exact ⟨rfl, HS.out.below⟩
  have hk : k < A.s.n := by have := hX.out; omega
  have hok := here_sess (hereP_yes hh).1 hk0
  obtain ⟨P, hP⟩ : ∃ P, P = lz (M.at k).num 4 := ⟨_, rfl⟩
  have hpc := hok.pc
  have hpf : (M.at k).pn ≤ 16 := by
    have hs := hok.start
    unfold startMay at hs
    simp only [Bool.and_eq_true] at hs
    exact (progMay_get hs.2.2).2
  have hP0 : 0 ≤ P := by rw [hP]; exact hpc.1
  have hP1 : P ≤ 16 := by rw [hP]; have := hpc.2; have : lz (M.at k).num 4 ≤ ((M.at k).pn : Int) := this; omega
  obtain ⟨N, hD, hF⟩ : ∃ N, fetchP M k = (N, 0) ∧ Hid (N.sess.length = M.sess.length ∧ (Got M N k ∨ AnewS N k)) := by
    rcases hC with ⟨N, hD, hR⟩ | ⟨hD, _⟩
    · exact ⟨N, hD, hide ⟨hR.len, .inl hR⟩⟩
    · have hL := againR_loosed h4 hk0 3
      refine ⟨_, hD, hide ⟨hL.len, .inr ⟨?_, ?_⟩⟩⟩
      · rw [againR_at hk0, againS_lz (h14 k hk)]; simp
      · rw [hL.reads]; rfl
  rw [hD]
  clear hC hD h14 hh hok hpc hpf h4
  replace hP := hide hP
  (rintro e Wq ⟨A2, rfl, hO, hb⟩; have HSq := hide (HS.out.push hb (machI (fun k => _) A2 _) (machI_loc _ _ _) hO fun k hk => hk); generalize (fun k => _) = D2 at HSq; clear HS hb hO; replace HS := HSq; clear HSq)
  have hk2 : k < A2.s.n := by
    have := (MachOwn.is (show MachOwn D2 _ A2 N from HS.out.get 0 rfl)).sess.1
    have := hF.out.1
    omega
  have i1 : (k : Int) < (A.s.n : Int) := by omega
  have i2 : (k : Int) < (A2.s.n : Int) := by omega
  have i3 : ¬ (k : Int) < 0 := by omega
  have i4 : ¬ (A.s.n : Int) ≤ (k : Int) := by omega
  have i5 : ¬ (A2.s.n : Int) ≤ (k : Int) := by omega
  go_upto_region 6 with (first | ((with_reducible refine isList ?_); first | (refine st_alloc HS _ rfl rfl zeroML zeroM ?_; clear HS; intro W ba HS) | (refine st_storeA HS 0 rfl _ _ _ rfl rfl rfl _ rfl rfl (by kernel_rfl) rfl ?_; clear HS; intro W HS)) | (go_at_call 21; refine (num_any _ _).mono ?_; rintro e w' ⟨rfl, rfl⟩))
  replace HS : Hid (St w W [blkI ba (machL A2 N), machI D2 A2 N, blkI bm (machL A M)]) := HS
  obtain ⟨s2, e2, _⟩ := MachOwn.sblk (show MachOwn D2 _ A2 N from HS.out.get 1 rfl) hk2
  replace e2 := hide e2
  have n2 := (MachOwn.is (show MachOwn D2 _ A2 N from HS.out.get 1 rfl)).sess.1
  replace n2 := hide n2
  have hcl : Hid (∀ W', Below w.heap.size w W' → Blk W' bm (machL A M) → Blk W' ba (machL A2 N) → MachOwn D2 W' A2 N → ∀ bs os, A.s.a = some ⟨bs, os, none⟩ → (W'.cell? ⟨bm, 9, none⟩ = some (.slice (some ⟨bs, os, none⟩) A.s.n A.s.c) ∧ W'.rangeAt bs (os + k * 17) (sessOf (A.q k) (M.at k))) ∧ (W'.cell? ⟨ba, 9, none⟩ = some (.slice (some ⟨s2, 0, none⟩) A2.s.n A2.s.c) ∧ W'.rangeAt s2 (k * 17) (sessOf (A2.q k) (N.at k)))) := fun W' hb h1 h2 h3 bs os es => by
    obtain ⟨b', o', q1, _, q2⟩ := hrng.out k hk W' hb
    rw [es] at q1; cases q1
    obtain ⟨j1, j2⟩ := h3.scell h2 n2.out e2.out
    exact ⟨⟨by rw [← es]; exact h1.cell 9 _ rfl, q2⟩, j1, j2 k hk2⟩
  obtain ⟨bs, os, es, _⟩ := hrng.out k hk _ HS.out.below
  replace hcl := hide fun W' h0 h1 h2 h3 => hcl.out W' h0 h1 h2 h3 bs os es
  obtain ⟨⟨c1, _⟩, c2, c3⟩ := hcl.out _ HS.out.below (HS.out.blk 2 rfl) (HS.out.blk 0 rfl) (HS.out.get 1 rfl)
  clear es c3
  go_upto_region 8 with fail
  clear c1 c2
  (try simp only [Act.put, List.setIfInBounds_toArray, List.set_cons_zero, List.set_cons_succ])
  refine wp_region_fork [true, true, true, true, true, true, true, true, true, true, false, false, false, false] 10 [11, 12, 13] [0, 0, 0] 11 [10, 12, 13] [0, 0, 0] (fun W' => (W'.cell? ⟨bm, 9, none⟩ = some (.slice (some ⟨bs, os, none⟩) A.s.n A.s.c) ∧ W'.rangeAt bs (os + k * 17) (sessOf (A.q k) (M.at k))) ∧ (W'.cell? ⟨ba, 9, none⟩ = some (.slice (some ⟨s2, 0, none⟩) A2.s.n A2.s.c) ∧ W'.rangeAt s2 (k * 17) (sessOf (A2.q k) (N.at k)))) (by kernel_rfl) (by kernel_rfl) (by kernel_rfl) (by decide +kernel) (hcl.out _ HS.out.drew.below (HS.out.drew.blk 2 rfl) (HS.out.drew.blk 0 rfl) (HS.out.drew.get 1 rfl)) ?_
  intro kne
  simp only [pickAt]
  repeat (first | ((first | (refine wpQuiet_ld _ _ rfl ⟨bm, 9, none⟩ rfl rfl (by decide +kernel) (fun w hC => hC.1.1) ?_) | (refine wpQuiet_la _ _ rfl bs (os + k * 17) rfl rfl (by decide +kernel) (sessOf (A.q k) (M.at k)) (by kernel_rfl) (fun w hC => hC.1.2) ?_) | (refine wpQuiet_ld _ _ rfl ⟨ba, 9, none⟩ rfl rfl (by decide +kernel) (fun w hC => hC.2.1) ?_) | (refine wpQuiet_la _ _ rfl s2 (k * 17) rfl rfl (by decide +kernel) (sessOf (A2.q k) (N.at k)) (by kernel_rfl) (fun w hC => hC.2.2) ?_)); simp only [Act.put, List.setIfInBounds_toArray, List.set_cons_zero, List.set_cons_succ]) | go_big_quiet_step (fail))
  refine wpQuiet_nil ?_
  clear kne
  replace HS := hide HS.out.drew
  generalize World.drew _ = Wd at *
  simp only [pickIx, List.getElem?_cons_zero, List.getElem?_cons_succ]
  refine ⟨?_, ?_⟩
  case' refine_1 =>
    refine wpRest_cons rfl rfl fun K hK => ?_
    refine stw_alloc HS _ rfl zeroSL zeroS ?_
    clear HS
    intro W3 b7 HS
    refine hK _ _ (fun _ => InC.mk (hcl.out _ HS.out.below (HS.out.blk 3 rfl) (HS.out.blk 1 rfl) (HS.out.get 2 rfl))) ?_
    clear hK K
    (try simp only [Act.put, List.setIfInBounds_toArray, List.set_cons_zero, List.set_cons_succ])
    refine wpRest_cons rfl rfl fun K hK => ?_
    refine stw_alloc HS _ rfl zeroSL zeroS ?_
    clear HS
    intro W4 b8 HS
    refine hK _ _ (fun _ => InC.mk (hcl.out _ HS.out.below (HS.out.blk 4 rfl) (HS.out.blk 2 rfl) (HS.out.get 3 rfl))) ?_
    clear hK K
    (try simp only [Act.put, List.setIfInBounds_toArray, List.set_cons_zero, List.set_cons_succ])
    replace HS : Hid (St w W4 [blkI b7 zeroSL, blkI b8 zeroSL, blkI ba (machL A2 N), machI D2 A2 N, blkI bm (machL A M)]) := hide (HS.out.sel [1, 0, 2, 3, 4] (by decide) rfl)
  case' refine_2 =>
    refine wpRest_cons rfl rfl fun K hK => ?_
    refine stw_alloc HS _ rfl zeroSL zeroS ?_
    clear HS
    intro W3 b8 HS
    refine hK _ _ (fun _ => InC.mk (hcl.out _ HS.out.below (HS.out.blk 3 rfl) (HS.out.blk 1 rfl) (HS.out.get 2 rfl))) ?_
    clear hK K
    (try simp only [Act.put, List.setIfInBounds_toArray, List.set_cons_zero, List.set_cons_succ])
    refine wpRest_cons rfl rfl fun K hK => ?_
    refine stw_alloc HS _ rfl zeroSL zeroS ?_
    clear HS
    intro W4 b7 HS
    refine hK _ _ (fun _ => InC.mk (hcl.out _ HS.out.below (HS.out.blk 4 rfl) (HS.out.blk 2 rfl) (HS.out.get 3 rfl))) ?_
    clear hK K
    (try simp only [Act.put, List.setIfInBounds_toArray, List.set_cons_zero, List.set_cons_succ])
  all_goals
    refine wpRest_cons rfl rfl fun K hK => ?_
    refine stw_storeA HS 0 rfl _ _ _ rfl rfl (sessOf (A.q k) (M.at k)) rfl rfl (by kernel_rfl) rfl ?_
    clear HS
    intro W5 HS
    refine hK _ _ (fun _ => InC.mk (hcl.out _ HS.out.below (HS.out.blk 4 rfl) (HS.out.blk 2 rfl) (HS.out.get 3 rfl))) ?_
    clear hK K
    (try simp only [Act.put, List.setIfInBounds_toArray, List.set_cons_zero, List.set_cons_succ])
    refine wpRest_cons rfl rfl fun K hK => ?_
    refine stw_storeA HS 1 rfl _ _ _ rfl rfl (sessOf (A2.q k) (N.at k)) rfl rfl (by kernel_rfl) rfl ?_
    clear HS
    intro W6 HS
    refine hK _ _ (fun _ => InC.mk (hcl.out _ HS.out.below (HS.out.blk 4 rfl) (HS.out.blk 2 rfl) (HS.out.get 3 rfl))) (wpRest_nil ?_)
    clear hK K hcl
    (try simp only [Act.put, List.setIfInBounds_toArray, List.set_cons_zero, List.set_cons_succ])
    refine NoPanic.normal ?_
    replace HS : Hid (St w W6 [blkI b7 (sessL (lz (M.at k).num) (.slice (A.q k).p.a (A.q k).p.n (A.q k).p.c) (.slice (A.q k).r.a (A.q k).r.n (A.q k).r.c) (.slice (A.q k).t.a (A.q k).t.n (A.q k).t.c)), blkI b8 (sessL (lz (N.at k).num) (.slice (A2.q k).p.a (A2.q k).p.n (A2.q k).p.c) (.slice (A2.q k).r.a (A2.q k).r.n (A2.q k).r.c) (.slice (A2.q k).t.a (A2.q k).t.n (A2.q k).t.c)), blkI ba (machL A2 N), machI D2 A2 N, blkI bm (machL A M)]) := HS
    obtain ⟨g0, -, -, -, -, g5, -, -, -, -, g10, -, -, -, g14, -, -⟩ := (HS.out.blk 0 rfl).sess
    obtain ⟨-, -, -, -, -, d5, -, -, -, -, d10, -, -, -, d14, -, -⟩ := (HS.out.blk 1 rfl).sess
    rw [← hP.out] at g5
    have rM : (M.at k).reads.length = (A.q k).r.n * 3 := ((HM.out.below HS.out.below).sess.2.2.2 k hk).2.2.1.1
    have rN : (N.at k).reads.length = (A2.q k).r.n * 3 := ((MachOwn.is (show MachOwn D2 _ A2 N from HS.out.get 3 rfl)).sess.2.2.2 k hk2).2.2.1.1
    rcases hF.out.2 with hR | ⟨hR1, hR2⟩
    · have ep := hR.pc
      have et := hR.tries
      have er := hR.reads
      have eMr : (M.at k).rn = (A.q k).r.n := by unfold PSess.rn; rw [rM, Nat.mul_div_cancel _ (by decide)]
      have eNr : (N.at k).rn = (A2.q k).r.n := by unfold PSess.rn; rw [rN, Nat.mul_div_cancel _ (by decide)]
      rw [eMr, eNr] at er
      have hlens := (HM.out.below HS.out.below).lens
      have hGood := hide fun (W : World) (hb : Below w.heap.size w W) (hm : MachIs W A2 N) => rgood_any A.w M.wz (A2.q k).r.a (A2.q k).r.n (A2.q k).r.c (lz (N.at k).reads) (lz (M.at k).num 0) W (HM.out.below hb).short (HM.out.below hb).arn (by have := (hm.sess.2.2.2 k hk2).2.2.1.2.1.1; omega) (hm.sess.2.2.2 k hk2).2.2.1.2.2
      have hgd : (A2.q k).r.n = (A.q k).r.n ∨ ((A2.q k).r.n = (A.q k).r.n + 1 ∧ goodV A.w M.wz (A2.q k).r.n (lz (N.at k).reads) (lz (M.at k).num 0) = true) := by
        rcases er with e | ⟨e, eg⟩
        · exact .inl e
        · exact .inr ⟨e, by rw [(good_congr (t := A.w) (s := M.lens) hlens).1]; exact eg⟩
      have hwd := hR.words
      rw [ep, ← hP.out] at d5
      rw [et] at d14
      clear rM rN ep et er eMr eNr hR hlens
      replace hwd := hide hwd
      generalize lz (M.at k).num 11 = T at *
      have jP : (P + 1 == 0) = false := by simp; omega
      rcases hgd with e | ⟨e, eg⟩
      · rw [e] at d10
        clear hGood
        go_wp2
        go_ret
        exact ⟨rfl, HS.out.below⟩
      · have e2g := good_there eg
        rw [eg, e2g] at hGood
        have jn : (((A.q k).r.n : Int) + 1 == ((A.q k).r.n : Int)) = false := by rw [beq_eq_false_iff_ne]; omega
        have jb : ((A.q k).r.n : Int) ≤ 140737488351232 := by have := ((HM.out.below HS.out.below).sess.2.2.2 k hk).2.2.1.2.1.1; omega
        have j0 : (0 : Int) ≤ ((A.q k).r.n : Int) := by omega
        rw [e] at d10 hGood
        replace e := hide e
        clear eg e2g
        generalize (A.q k).r.n = rn at *
        go_wp2_with (first | ((with_reducible refine isList ?_); first | (refine st_loadR HS 4 rfl _ _ rfl _ rfl rfl (by decide +kernel) (arenaL A.w) [.int .i64 (lz M.clocks 0), .int .i64 (lz M.clocks 1), .int .i64 (lz M.clocks 2), .int .i64 (lz M.clocks 3), .int .i64 M.ceil, .slice A.s.a A.s.n A.s.c, .slice A.e.a A.e.n A.e.c] (by kernel_rfl) rfl ?_)))
        refine (hGood.out _ HS.out.below (MachOwn.is (show MachOwn D2 _ A2 N from HS.out.get 3 rfl))).mono ?_
        (rintro e Wq ⟨rfl, hb⟩; have HSq := hide (HS.out.on hb); clear HS hb; replace HS := HSq; clear HSq)
        clear g0 g5 g10 d5 d10 g14 d14 hGood
        obtain ⟨-, -, -, -, -, -, -, -, -, -, g10, -, -, -, -, -, -⟩ := (HS.out.blk 0 rfl).sess
        obtain ⟨-, -, -, -, -, -, -, -, -, -, d10, -, -, -, -, -, -⟩ := (HS.out.blk 1 rfl).sess
        rw [e.out] at d10
        go_wp2_with (first | ((with_reducible refine isList ?_); first | (refine st_loadR HS 2 rfl _ _ rfl _ rfl rfl (by decide +kernel) (arenaL A2.w) [.int .i64 (lz N.clocks 0), .int .i64 (lz N.clocks 1), .int .i64 (lz N.clocks 2), .int .i64 (lz N.clocks 3), .int .i64 N.ceil, .slice A2.s.a A2.s.n A2.s.c, .slice A2.e.a A2.e.n A2.e.c] (by kernel_rfl) rfl ?_) | (refine st_loadR HS 4 rfl _ _ rfl _ rfl rfl (by decide +kernel) (arenaL A.w) [.int .i64 (lz M.clocks 0), .int .i64 (lz M.clocks 1), .int .i64 (lz M.clocks 2), .int .i64 (lz M.clocks 3), .int .i64 M.ceil, .slice A.s.a A.s.n A.s.c, .slice A.e.a A.e.n A.e.c] (by kernel_rfl) rfl ?_)))
        refine (sameArena_yes A2 A N M _ (MachOwn.is (show MachOwn D2 _ A2 N from HS.out.get 3 rfl)) (HM.out.below HS.out.below) hwd.out.symm).mono ?_
        (rintro e Wq ⟨rfl, hb⟩; have HSq := hide (HS.out.on hb); clear HS hb; replace HS := HSq; clear HSq)
        clear g10 d10
        go_wp2
        go_ret
        exact ⟨rfl, HS.out.below⟩
    · have rN0 : (A2.q k).r.n = 0 := by omega
      rw [hR1] at d5
      rw [rN0] at d10
      clear rM rN hR1 hR2
      generalize lz (N.at k).num 11 = T1 at *
      generalize lz (M.at k).num 11 = T2 at *
      by_cases hT : T1 = T2
      · subst hT
        clear g5 g10 g0
        go_wp2
        go_ret
        exact ⟨rfl, HS.out.below⟩
      · have hTb : (T1 != T2) = true := by simpa using hT
        clear hT g5 g10 g0
        go_wp2
        go_ret
        exact ⟨rfl, HS.out.below⟩
end Go.Proofs.YtaaenolbfhhnfaaGreat
