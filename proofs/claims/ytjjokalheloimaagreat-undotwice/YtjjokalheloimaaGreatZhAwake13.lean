/-
  What every program answers that is one: chapter 13's own example holds.
-/
import Derived.Test.YtjjokalheloimaaGreatZlai
import Derived.Test.YtjjokalheloimaaGreatZlbc
import Derived.Test.YtjjokalheloimaaGreatZlad
import Derived.Test.YtjjokalheloimaaGreatZlac
import Derived.BigQuiet
namespace Go.Proofs.YtjjokalheloimaaGreat
open Go.RowKit
set_option linter.unusedSimpArgs false
set_option linter.unusedVariables false
set_option maxRecDepth 100000 in
set_option maxHeartbeats 4000000 in
theorem awake13_any (w : World) :
    Calls Tryz.prog 39 #[] w fun e w' => e = .returned (.bool true) ∧ Below w.heap.size w w' := by
  have HS := hide (St.refl w)
  obtain ⟨N, hN⟩ : ∃ N, N = stepM begunM 0 5 := ⟨_, rfl⟩
  have hS := hide fun (W : World) => stepped13_any 0 5 (by decide) W
  have hA := hide fun (A : MacM) (i c : Int) (W : World) (h : MachIs W A N) => undoAgain_any A N i c W h
  have hE := hide fun (A : MacM) (i r t : Int) (W : World) (h : MachIs W A N) => undoEnd_any A N i r t W h
  rw [← hN] at hS
  have eA0 : againP N 0 3 = (againR N 0 3, 0) := by subst hN; exact againP_ok (k := 0) (by decide +kernel) (by decide +kernel) rfl
  have eE0 : endP N 0 2 7 = (endR N 0 2 7, 0) := by subst hN; exact endP_ok (k := 0) (by decide +kernel) rfl rfl
  have eA1 : againP N 0 0 = (noMach, 1300) := againP_no (.inr rfl)
  have eE1 : endP N 2 1 0 = (noMach, 1300) := by subst hN; exact endP_no (.inl (by decide +kernel))
  have gA0 := hide (hA.out · 0 3)
  have gE0 := hide (hE.out · 0 2 7)
  have gA1 := hide (hA.out · 0 0)
  have gE1 := hide (hE.out · 2 1 0)
  rw [eA0] at gA0
  rw [eE0] at gE0
  rw [eA1] at gA1
  rw [eE1] at gE1
  clear hA hE eA0 eE0 eA1 eE1
  have nl : (N.lv 0).length = 2 * 3 := by subst hN; decide +kernel
  have nk : lz (N.lv 0) 2 = 4 := by subst hN; decide +kernel
  have nX : ((againR N 0 3).lv 0).length = 2 * 3 := by subst hN; decide +kernel
  have nX2 : lz ((againR N 0 3).lv 0) 2 = 0 := by subst hN; decide +kernel
  have sX : (againR N 0 3).sess.length = 2 := by subst hN; decide +kernel
  have x3 : lz ((againR N 0 3).at 0).num 3 = 0 := by subst hN; decide +kernel
  have x4 : lz ((againR N 0 3).at 0).num 4 = 0 := by subst hN; decide +kernel
  have x11 : lz ((againR N 0 3).at 0).num 11 = 1 := by subst hN; decide +kernel
  have xr : ((againR N 0 3).at 0).reads = [] := by subst hN; decide +kernel
  have xw : ((againR N 0 3).at 0).writes = [] := by subst hN; decide +kernel
  have nY : ((endR N 0 2 7).lv 0).length = 2 * 3 := by subst hN; decide +kernel
  have nY2 : lz ((endR N 0 2 7).lv 0) 2 = 0 := by subst hN; decide +kernel
  have sY : (endR N 0 2 7).sess.length = 2 := by subst hN; decide +kernel
  have y3 : lz ((endR N 0 2 7).at 0).num 3 = 6 := by subst hN; decide +kernel
  have y12 : lz ((endR N 0 2 7).at 0).num 12 = 2 := by subst hN; decide +kernel
  have y13 : lz ((endR N 0 2 7).at 0).num 13 = 7 := by subst hN; decide +kernel
  generalize againR N 0 3 = X at *
  generalize endR N 0 2 7 = Y at *
  replace x3 := hide x3; replace x4 := hide x4; replace x11 := hide x11; replace xr := hide xr; replace xw := hide xw; replace y3 := hide y3; replace y12 := hide y12; replace y13 := hide y13
  replace nk := hide nk; replace nX2 := hide nX2; replace nY2 := hide nY2; replace nl := hide nl; replace nX := hide nX; replace nY := hide nY; replace sX := hide sX; replace sY := hide sY
  replace hN := hide hN
  go_enter Tryz.func39, Tryz.ntmps39
  go_wp2_with fail
  refine (hS.out _).mono ?_
  (rintro e Wq ⟨A1, rfl, hO, hb⟩; have HSq := hide (HS.out.push hb (machI (fun k => _) A1 _) (machI_loc _ _ _) hO fun k hk => hk); generalize (fun k => _) = D1 at HSq; clear HS hb hO; replace HS := HSq; clear HSq)
  go_wp2_with (first | ((with_reducible refine isList ?_); first | (refine st_alloc HS _ rfl rfl zeroML zeroM ?_; clear HS; intro W b1 HS) | (refine st_storeA HS 0 rfl _ _ _ rfl rfl rfl _ rfl rfl (by kernel_rfl) rfl ?_; clear HS; intro W HS) | (refine st_loadA HS 0 rfl _ _ rfl rfl rfl (by decide +kernel) (by kernel_rfl) ?_)))
  replace HS : Hid (St w W [blkI b1 (machL A1 N), machI D1 A1 N]) := HS
  refine (gA0.out A1 _ (MachOwn.is (show MachOwn D1 _ A1 N from HS.out.get 1 rfl))).mono ?_
  (rintro e Wq ⟨A2, rfl, hO, hb⟩; have HSq := hide (HS.out.push hb (machI (fun k => _) A2 _) (machI_loc _ _ _) hO fun k hk => hk); generalize (fun k => _) = D2 at HSq; clear HS hb hO; replace HS := HSq; clear HSq)
  go_wp2_with (first | ((with_reducible refine isList ?_); first | (refine st_alloc HS _ rfl rfl zeroML zeroM ?_; clear HS; intro W b2 HS) | (refine st_storeA HS 0 rfl _ _ _ rfl rfl rfl _ rfl rfl (by kernel_rfl) rfl ?_; clear HS; intro W HS) | (refine st_loadA HS 2 rfl _ _ rfl rfl rfl (by decide +kernel) (by kernel_rfl) ?_)))
  refine (gE0.out A1 _ (MachOwn.is (show MachOwn D1 _ A1 N from HS.out.get 3 rfl))).mono ?_
  (rintro e Wq ⟨A4, rfl, hO, hb⟩; have HSq := hide (HS.out.push hb (machI (fun k => _) A4 _) (machI_loc _ _ _) hO fun k hk => hk); generalize (fun k => _) = D4 at HSq; clear HS hb hO; replace HS := HSq; clear HSq)
  go_wp2_with (first | ((with_reducible refine isList ?_); first | (refine st_alloc HS _ rfl rfl zeroML zeroM ?_; clear HS; intro W b4 HS) | (refine st_storeA HS 0 rfl _ _ _ rfl rfl rfl _ rfl rfl (by kernel_rfl) rfl ?_; clear HS; intro W HS) | (refine st_loadA HS 4 rfl _ _ rfl rfl rfl (by decide +kernel) (by kernel_rfl) ?_)))
  refine (gA1.out A1 _ (MachOwn.is (show MachOwn D1 _ A1 N from HS.out.get 5 rfl))).mono ?_
  (rintro e Wq ⟨A6, rfl, hO, hb⟩; have HSq := hide (HS.out.push hb (machI (fun k => _) A6 _) (machI_loc _ _ _) hO fun k hk => hk); generalize (fun k => _) = D6 at HSq; clear HS hb hO; replace HS := HSq; clear HSq)
  go_wp2_with (first | ((with_reducible refine isList ?_); first | (refine st_alloc HS _ rfl rfl zeroML zeroM ?_; clear HS; intro W b6 HS) | (refine st_storeA HS 0 rfl _ _ _ rfl rfl rfl _ rfl rfl (by kernel_rfl) rfl ?_; clear HS; intro W HS) | (refine st_loadA HS 6 rfl _ _ rfl rfl rfl (by decide +kernel) (by kernel_rfl) ?_)))
  refine (gE1.out A1 _ (MachOwn.is (show MachOwn D1 _ A1 N from HS.out.get 7 rfl))).mono ?_
  (rintro e Wq ⟨A8, rfl, hO, hb⟩; have HSq := hide (HS.out.push hb (machI (fun k => _) A8 _) (machI_loc _ _ _) hO fun k hk => hk); generalize (fun k => _) = D8 at HSq; clear HS hb hO; replace HS := HSq; clear HSq)
  go_upto_region 6 with (first | ((with_reducible refine isList ?_); first | (refine st_alloc HS _ rfl rfl zeroML zeroM ?_; clear HS; intro W b8 HS) | (refine st_storeA HS 0 rfl _ _ _ rfl rfl rfl _ rfl rfl (by kernel_rfl) rfl ?_; clear HS; intro W HS)))
  replace HS : Hid (St w W [blkI b4 (machL A4 Y), machI D4 A4 Y, blkI b2 (machL A2 X), machI D2 A2 X, blkI b1 (machL A1 N), machI D1 A1 N]) := hide (HS.out.sel [4, 5, 6, 7, 8, 9] (by decide) rfl)
  obtain ⟨n1, h1⟩ := MachOwn.wfact (show MachOwn D1 _ A1 N from HS.out.get 5 rfl) (by decide) nl.out
  obtain ⟨n2, h2⟩ := MachOwn.wfact (show MachOwn D2 _ A2 X from HS.out.get 3 rfl) (by decide) nX.out
  obtain ⟨n4, h4⟩ := MachOwn.wfact (show MachOwn D4 _ A4 Y from HS.out.get 1 rfl) (by decide) nY.out
  obtain ⟨m2, g2⟩ := MachOwn.sfact (show MachOwn D2 _ A2 X from HS.out.get 3 rfl) sX.out
  obtain ⟨m4, g4⟩ := MachOwn.sfact (show MachOwn D4 _ A4 Y from HS.out.get 1 rfl) sY.out
  obtain ⟨w1, a1, f1⟩ := h1 (by decide)
  obtain ⟨w2, a2, f2⟩ := h2 (by decide)
  obtain ⟨w4, a4, f4⟩ := h4 (by decide)
  obtain ⟨s2, e2, r2⟩ := g2 (by decide)
  obtain ⟨s4, e4, r4⟩ := g4 (by decide)
  clear h1 h2 h4 g2 g4
  have c10 : W.cell? ⟨b1, 0, none⟩ = some (.slice (some ⟨w1, 0, none⟩) 2 (A1.w 0).c) := by rw [← a1, ← n1]; exact (HS.out.blk 4 rfl).cell 0 _ rfl
  have c20 : W.cell? ⟨b2, 0, none⟩ = some (.slice (some ⟨w2, 0, none⟩) 2 (A2.w 0).c) := by rw [← a2, ← n2]; exact (HS.out.blk 2 rfl).cell 0 _ rfl
  have c40 : W.cell? ⟨b4, 0, none⟩ = some (.slice (some ⟨w4, 0, none⟩) 2 (A4.w 0).c) := by rw [← a4, ← n4]; exact (HS.out.blk 0 rfl).cell 0 _ rfl
  have c29 : W.cell? ⟨b2, 9, none⟩ = some (.slice (some ⟨s2, 0, none⟩) 2 A2.s.c) := by rw [← e2, ← m2]; exact (HS.out.blk 2 rfl).cell 9 _ rfl
  have c49 : W.cell? ⟨b4, 9, none⟩ = some (.slice (some ⟨s4, 0, none⟩) 2 A4.s.c) := by rw [← e4, ← m4]; exact (HS.out.blk 0 rfl).cell 9 _ rfl
  have k1 : W.cell? ⟨w1, 2, none⟩ = some (.int .i64 4) := by rw [← nk.out]; exact f1 2 (by decide)
  have k2 : W.cell? ⟨w2, 2, none⟩ = some (.int .i64 0) := by rw [← nX2.out]; exact f2 2 (by decide)
  have k4 : W.cell? ⟨w4, 2, none⟩ = some (.int .i64 0) := by rw [← nY2.out]; exact f4 2 (by decide)
  clear f1 f2 f4 r2 r4
  replace n1 := hide n1; replace n2 := hide n2; replace n4 := hide n4; replace m2 := hide m2; replace m4 := hide m4
  replace a1 := hide a1; replace a2 := hide a2; replace a4 := hide a4; replace e2 := hide e2; replace e4 := hide e4
  go_upto_region 8 with fail
  clear c10 c20 c40 c29 c49 k1 k2 k4
  have hcl : Hid (∀ W', Blk W' b2 (machL A2 X) → MachOwn D2 W' A2 X → Blk W' b4 (machL A4 Y) → MachOwn D4 W' A4 Y → (W'.cell? ⟨b2, 9, none⟩ = some (.slice (some ⟨s2, 0, none⟩) 2 A2.s.c) ∧ W'.rangeAt s2 0 (sessOf (A2.q 0) (X.at 0))) ∧ (W'.cell? ⟨b4, 9, none⟩ = some (.slice (some ⟨s4, 0, none⟩) 2 A4.s.c) ∧ W'.rangeAt s4 0 (sessOf (A4.q 0) (Y.at 0)))) := fun W' h1 h2 h3 h4 => by
    obtain ⟨i1, i2⟩ := h2.scell h1 sX.out e2.out
    obtain ⟨j1, j2⟩ := h4.scell h3 sY.out e4.out
    have i3 := i2 0 (by decide)
    have j3 := j2 0 (by decide)
    rw [Nat.zero_mul] at i3 j3
    exact ⟨⟨i1, i3⟩, ⟨j1, j3⟩⟩
  (try simp only [Act.put, List.setIfInBounds_toArray, List.set_cons_zero, List.set_cons_succ])
  refine wp_region_fork [true, true, true, true, true, true, true, true, false, false, false, false] 8 [9, 10, 11] [0, 0, 0] 9 [8, 10, 11] [0, 0, 0] (fun W' => (W'.cell? ⟨b2, 9, none⟩ = some (.slice (some ⟨s2, 0, none⟩) 2 A2.s.c) ∧ W'.rangeAt s2 0 (sessOf (A2.q 0) (X.at 0))) ∧ (W'.cell? ⟨b4, 9, none⟩ = some (.slice (some ⟨s4, 0, none⟩) 2 A4.s.c) ∧ W'.rangeAt s4 0 (sessOf (A4.q 0) (Y.at 0)))) (by kernel_rfl) (by kernel_rfl) (by kernel_rfl) (by decide +kernel) (hcl.out _ (HS.out.drew.blk 2 rfl) (HS.out.drew.get 3 rfl) (HS.out.drew.blk 0 rfl) (HS.out.drew.get 1 rfl)) ?_
  intro kne
  simp only [pickAt]
  repeat (first | ((first | (refine wpQuiet_ld _ _ rfl ⟨b2, 9, none⟩ rfl rfl (by decide +kernel) (fun w hC => hC.1.1) ?_) | (refine wpQuiet_la _ _ rfl s2 (0) rfl rfl (by decide +kernel) (sessOf (A2.q 0) (X.at 0)) (by kernel_rfl) (fun w hC => hC.1.2) ?_) | (refine wpQuiet_ld _ _ rfl ⟨b4, 9, none⟩ rfl rfl (by decide +kernel) (fun w hC => hC.2.1) ?_) | (refine wpQuiet_la _ _ rfl s4 (0) rfl rfl (by decide +kernel) (sessOf (A4.q 0) (Y.at 0)) (by kernel_rfl) (fun w hC => hC.2.2) ?_)); simp only [Act.put, List.setIfInBounds_toArray, List.set_cons_zero, List.set_cons_succ]) | go_big_quiet_step (fail))
  refine wpQuiet_nil ?_
  clear kne
  replace HS := hide HS.out.drew
  generalize World.drew _ = Wd at *
  simp only [pickIx, List.getElem?_cons_zero, List.getElem?_cons_succ]
  refine ⟨?_, ?_⟩
  case' refine_1 =>
    refine wpRest_cons rfl rfl fun K hK => ?_
    refine stw_alloc HS _ rfl zeroSL zeroS ?_
    clear HS
    intro W3 b10 HS
    refine hK _ _ (fun _ => InC.mk (hcl.out _ (HS.out.blk 3 rfl) (HS.out.get 4 rfl) (HS.out.blk 1 rfl) (HS.out.get 2 rfl))) ?_
    clear hK K
    (try simp only [Act.put, List.setIfInBounds_toArray, List.set_cons_zero, List.set_cons_succ])
    refine wpRest_cons rfl rfl fun K hK => ?_
    refine stw_alloc HS _ rfl zeroSL zeroS ?_
    clear HS
    intro W4 b11 HS
    refine hK _ _ (fun _ => InC.mk (hcl.out _ (HS.out.blk 4 rfl) (HS.out.get 5 rfl) (HS.out.blk 2 rfl) (HS.out.get 3 rfl))) ?_
    clear hK K
    (try simp only [Act.put, List.setIfInBounds_toArray, List.set_cons_zero, List.set_cons_succ])
    replace HS : Hid (St w W4 [blkI b10 zeroSL, blkI b11 zeroSL, blkI b4 (machL A4 Y), machI D4 A4 Y, blkI b2 (machL A2 X), machI D2 A2 X, blkI b1 (machL A1 N), machI D1 A1 N]) := hide (HS.out.sel [1, 0, 2, 3, 4, 5, 6, 7] (by decide) rfl)
  case' refine_2 =>
    refine wpRest_cons rfl rfl fun K hK => ?_
    refine stw_alloc HS _ rfl zeroSL zeroS ?_
    clear HS
    intro W3 b11 HS
    refine hK _ _ (fun _ => InC.mk (hcl.out _ (HS.out.blk 3 rfl) (HS.out.get 4 rfl) (HS.out.blk 1 rfl) (HS.out.get 2 rfl))) ?_
    clear hK K
    (try simp only [Act.put, List.setIfInBounds_toArray, List.set_cons_zero, List.set_cons_succ])
    refine wpRest_cons rfl rfl fun K hK => ?_
    refine stw_alloc HS _ rfl zeroSL zeroS ?_
    clear HS
    intro W4 b10 HS
    refine hK _ _ (fun _ => InC.mk (hcl.out _ (HS.out.blk 4 rfl) (HS.out.get 5 rfl) (HS.out.blk 2 rfl) (HS.out.get 3 rfl))) ?_
    clear hK K
    (try simp only [Act.put, List.setIfInBounds_toArray, List.set_cons_zero, List.set_cons_succ])
  all_goals
    refine wpRest_cons rfl rfl fun K hK => ?_
    refine stw_storeA HS 0 rfl _ _ _ rfl rfl (sessOf (A2.q 0) (X.at 0)) rfl rfl (by kernel_rfl) rfl ?_
    clear HS
    intro W5 HS
    refine hK _ _ (fun _ => InC.mk (hcl.out _ (HS.out.blk 4 rfl) (HS.out.get 5 rfl) (HS.out.blk 2 rfl) (HS.out.get 3 rfl))) ?_
    clear hK K
    (try simp only [Act.put, List.setIfInBounds_toArray, List.set_cons_zero, List.set_cons_succ])
    refine wpRest_cons rfl rfl fun K hK => ?_
    refine stw_storeA HS 1 rfl _ _ _ rfl rfl (sessOf (A4.q 0) (Y.at 0)) rfl rfl (by kernel_rfl) rfl ?_
    clear HS
    intro W6 HS
    refine hK _ _ (fun _ => InC.mk (hcl.out _ (HS.out.blk 4 rfl) (HS.out.get 5 rfl) (HS.out.blk 2 rfl) (HS.out.get 3 rfl))) (wpRest_nil ?_)
    clear hK K
    (try simp only [Act.put, List.setIfInBounds_toArray, List.set_cons_zero, List.set_cons_succ])
    refine NoPanic.normal ?_
    replace HS : Hid (St w W6 [blkI b10 (sessL (lz (X.at 0).num) (.slice (A2.q 0).p.a (A2.q 0).p.n (A2.q 0).p.c) (.slice (A2.q 0).r.a (A2.q 0).r.n (A2.q 0).r.c) (.slice (A2.q 0).t.a (A2.q 0).t.n (A2.q 0).t.c)), blkI b11 (sessL (lz (Y.at 0).num) (.slice (A4.q 0).p.a (A4.q 0).p.n (A4.q 0).p.c) (.slice (A4.q 0).r.a (A4.q 0).r.n (A4.q 0).r.c) (.slice (A4.q 0).t.a (A4.q 0).t.n (A4.q 0).t.c)), blkI b4 (machL A4 Y), machI D4 A4 Y, blkI b2 (machL A2 X), machI D2 A2 X, blkI b1 (machL A1 N), machI D1 A1 N]) := HS
    have hX : MachOwn D2 W6 A2 X := HS.out.get 5 rfl
    have hY : MachOwn D4 W6 A4 Y := HS.out.get 3 rfl
    obtain ⟨c20, f2⟩ := hX.lcell (by decide) (HS.out.blk 4 rfl) nX.out a2.out
    obtain ⟨c40, f4⟩ := hY.lcell (by decide) (HS.out.blk 2 rfl) nY.out a4.out
    have k2 : W6.cell? ⟨w2, 2, none⟩ = some (.int .i64 0) := by rw [← nX2.out]; exact f2 2 (by decide)
    have k4 : W6.cell? ⟨w4, 2, none⟩ = some (.int .i64 0) := by rw [← nY2.out]; exact f4 2 (by decide)
    obtain ⟨_, _, _, _, d4, d5, _, _, _, _, d10, d11, _, _, d14, _, _⟩ := (HS.out.blk 0 rfl).sess
    obtain ⟨_, _, _, _, g4, _, _, _, _, _, _, _, _, _, _, g15, g16⟩ := (HS.out.blk 1 rfl).sess
    have hs0 := hX.is.sess.2.2.2 0 (by have := m2.out; omega)
    rw [SessIs.rn0 hs0 xr.out] at d10
    rw [SessIs.tn0 hs0 xw.out] at d11
    rw [x3.out] at d4; rw [x4.out] at d5; rw [x11.out] at d14; rw [y3.out] at g4; rw [y12.out] at g15; rw [y13.out] at g16
    clear f2 f4 hX hY hs0
    go_wp2_with (go_at_call 27; refine (num_any _ _).mono ?_; rintro e w' ⟨rfl, rfl⟩)
    go_ret
    exact ⟨rfl, HS.out.below⟩
end Go.Proofs.YtjjokalheloimaaGreat
