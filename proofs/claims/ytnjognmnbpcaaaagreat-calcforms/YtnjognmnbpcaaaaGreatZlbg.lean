/-
  SameMachine, of one machine laid twice.
-/
import Derived.Test.YtnjognmnbpcaaaaGreatZlbb
import Derived.Test.YtnjognmnbpcaaaaGreatZlbe
import Derived.Test.YtnjognmnbpcaaaaGreatZlbf
import Derived.Test.YtnjognmnbpcaaaaGreatZhSessMem
import Derived.Test.YtnjognmnbpcaaaaGreatZlac
namespace Go.Proofs.YtnjognmnbpcaaaaGreat
open Go.RowKit
set_option linter.unusedSimpArgs false
set_option linter.unusedVariables false
set_option maxRecDepth 100000 in
set_option maxHeartbeats 4000000 in
theorem sameMachine_yes (A B : MacM) (M : PMach) (w : World) (h : MachIs w A M) (h' : MachIs w B M) :
    Calls Tryz.prog 11 #[machA A M, machA B M] w fun e w' => e = .returned (.bool true) ∧ Below w.heap.size w w' := by
  have hn8 : A.s.n ≤ 1152921504606846976 := by have := h.sess.2.1.1; omega
  have hs : B.s.n = A.s.n := h'.sess.1.symm.trans h.sess.1
  have hls : ∀ g, g < 4 → (A.w g).n = (B.w g).n := fun g hg => (h.lens g hg).trans (h'.lens g hg).symm
  have hAr := hide fun (W : World) (hb : Below w.heap.size w W) => sameArena_any A.w B.w M.wz M.wz W (h.below hb).short (h.below hb).arn (h'.below hb).arn
  rw [show sameLv A.w B.w M.wz M.wz 4 = true from sameLv_mk fun g hg => ⟨hls g hg, fun _ _ => rfl⟩] at hAr
  have he : A.e.n = B.e.n := (h.trace.len (by decide)).symm.trans (h'.trace.len (by decide))
  have hEv := hide fun (W : World) (hb : Below w.heap.size w W) => sameEvents_any A.e.a B.e.a A.e.n A.e.c B.e.n B.e.c (lz M.trace) (lz M.trace) W (by have := h.trace.2.1.1; omega) (h.below hb).trace.2.2 (h'.below hb).trace.2.2
  rw [show (decide (A.e.n = B.e.n) && eqTo (lz M.trace) (lz M.trace) (A.e.n * 4)) = true by rw [decide_eq_true he, eqTo_mk fun _ _ => rfl]; rfl] at hEv
  have hMA := hide fun (W : World) (hb : Below w.heap.size w W) => h.below hb
  have hMB := hide fun (W : World) (hb : Below w.heap.size w W) => h'.below hb
  have Q := fun W => quad_eq (lz M.clocks 0) (lz M.clocks 1) (lz M.clocks 2) (lz M.clocks 3) (lz M.clocks 0) (lz M.clocks 1) (lz M.clocks 2) (lz M.clocks 3) W
  simp only [beq_self_eq_true, Bool.and_self] at Q
  replace Q := hide Q
  have hSs : Hid (∀ (k : Nat) (hk : k < A.s.n) (W : World) (hb : Below w.heap.size w W), Calls Tryz.prog 30 #[.agg (sessOf (A.q k) (M.at k)).toArray, .agg (sessOf (B.q k) (M.at k)).toArray] W fun e w' => e = .returned (.bool true) ∧ Below W.heap.size W w') := fun k hk W hb => by
    obtain ⟨_, p1, r1, t1⟩ : SessIs W (A.q k) (M.at k) := (h.below hb).sess.2.2.2 k hk
    obtain ⟨_, p2, r2, t2⟩ : SessIs W (B.q k) (M.at k) := (h'.below hb).sess.2.2.2 k (by omega)
    have ep : (B.q k).p.n = (A.q k).p.n := (p2.len (by decide)).symm.trans (p1.len (by decide))
    have er : (B.q k).r.n = (A.q k).r.n := (r2.len (by decide)).symm.trans (r1.len (by decide))
    have et : (B.q k).t.n = (A.q k).t.n := (t2.len (by decide)).symm.trans (t1.len (by decide))
    have P2 := p2.2.2
    have R2 := r2.2.2
    have T2 := t2.2.2
    show Calls Tryz.prog 30 #[sessA (lz (M.at k).num) (.slice (A.q k).p.a (A.q k).p.n (A.q k).p.c) (.slice (A.q k).r.a (A.q k).r.n (A.q k).r.c) (.slice (A.q k).t.a (A.q k).t.n (A.q k).t.c), sessA (lz (M.at k).num) (.slice (B.q k).p.a (B.q k).p.n (B.q k).p.c) (.slice (B.q k).r.a (B.q k).r.n (B.q k).r.c) (.slice (B.q k).t.a (B.q k).t.n (B.q k).t.c)] W _
    rw [ep] at P2 ⊢
    rw [er] at R2 ⊢
    rw [et] at T2 ⊢
    exact sameSession_yes (lz (M.at k).num) (A.q k).p.a (B.q k).p.a (A.q k).r.a (B.q k).r.a (A.q k).t.a (B.q k).t.a (A.q k).p.n (A.q k).p.c (B.q k).p.c (A.q k).r.n (A.q k).r.c (B.q k).r.c (A.q k).t.n (A.q k).t.c (B.q k).t.c (lz (M.at k).prog) (lz (M.at k).reads) (lz (M.at k).writes) W (by have := p1.2.1.1; omega) (by have := r1.2.1.1; omega) (by have := t1.2.1.1; omega) p1.2.2 P2 r1.2.2 R2 t1.2.2 T2
  clear hls he h h'
  obtain ⟨V0, hV0⟩ : ∃ V0, V0 = machA A M := ⟨_, rfl⟩
  obtain ⟨V1, hV1⟩ : ∃ V1, V1 = machA B M := ⟨_, rfl⟩
  rw [← hV0, ← hV1]
  have HV : Hid (V0.cells = (machL A M).toArray) := by rw [hV0]; rfl
  have HV1 : Hid (V1.cells = (machL B M).toArray) := by rw [hV1]; rfl
  clear hV0 hV1
  have HS := hide (St.refl w)
  go_enter Tryz.func11, Tryz.ntmps11
  go_upto_region 1 with (first | ((with_reducible refine isList ?_); first | (refine st_box HS _ _ rfl rfl (machL A M) HV.out ?_; clear HS; intro W ba HS) | (refine st_box HS _ _ rfl rfl (machL B M) HV1.out ?_; clear HS; intro W bb HS)))
  replace HS : Hid (St w W [blkI bb (machL B M), blkI ba (machL A M)]) := HS
  obtain ⟨a0, a1, a2, a3, a4, a5, a6, a7, a8, a9, a10⟩ := (HS.out.blk 1 rfl).mac
  obtain ⟨b0, b1, b2, b3, b4, b5, b6, b7, b8, b9, b10⟩ := (HS.out.blk 0 rfl).mac
  go_wp2_with fail
  refine (hAr.out _ HS.out.below).mono ?_
  rintro e w1 ⟨rfl, hb⟩
  replace HS := hide (HS.out.on hb)
  clear hb a0 a1 a2 a3 a4 a5 a6 a7 a8 a9 a10 b0 b1 b2 b3 b4 b5 b6 b7 b8 b9 b10
  obtain ⟨a0, a1, a2, a3, a4, a5, a6, a7, a8, a9, a10⟩ := (HS.out.blk 1 rfl).mac
  obtain ⟨b0, b1, b2, b3, b4, b5, b6, b7, b8, b9, b10⟩ := (HS.out.blk 0 rfl).mac
  clear a0 a1 a2 a3 b0 b1 b2 b3
  rw [hs] at b9
  have Q1 := Q.out
  go_wp2_with fail
  refine (hEv.out _ HS.out.below).mono ?_
  rintro e w2 ⟨rfl, q, rfl⟩
  replace HS := hide (HS.out.drawn q)
  generalize w1.drewN q = W2 at *
  clear Q1 a4 a5 a6 a7 a8 a9 a10 b4 b5 b6 b7 b8 b9 b10
  go_wp2
  go_loopw [5] (fun i wr => ∃ k : Nat, k ≤ A.s.n ∧ i = .int .i64 k ∧ Hid (St w wr [blkI bb (machL B M), blkI ba (machL A M)])) (fun i _ => A.s.n - (intOf i).toNat)
  case atStart => exact ⟨0, Nat.zero_le _, rfl, HS⟩
  case round =>
    clear HS
    obtain ⟨k, hk, rfl, HS⟩ := hrel
    by_cases hlt : k < A.s.n
    · have i1 : (k : Int) < (A.s.n : Int) := by omega
      have i2 : (k : Int) < (B.s.n : Int) := by omega
      obtain ⟨ca, oa, hca, _, RA⟩ := (hMA.out _ HS.out.below).sess.range hlt
      obtain ⟨cb, ob, hcb, _, RB⟩ := (hMB.out _ HS.out.below).sess.range (show k < B.s.n by omega)
      have hcl : Hid (∀ W, Below w.heap.size w W → W.rangeAt ca (oa + k * 17) (sessOf (A.q k) (M.at k)) ∧ W.rangeAt cb (ob + k * 17) (sessOf (B.q k) (M.at k))) := fun W hb => by
        obtain ⟨ca', oa', hca', _, RA'⟩ := (hMA.out _ hb).sess.range hlt
        obtain ⟨cb', ob', hcb', _, RB'⟩ := (hMB.out _ hb).sess.range (show k < B.s.n by omega)
        rw [hca] at hca'; cases hca'
        rw [hcb] at hcb'; cases hcb'
        exact ⟨RA', RB'⟩
      replace hs := hide hs
      clear RA RB
      go_upto_region 6 with (first | ((with_reducible refine isList ?_); first | (refine st_load1 HS 1 rfl _ _ rfl _ rfl rfl (by decide +kernel) rfl ?_)))
      have HB0 := HS.out.blk 0 rfl
      have HB1 := HS.out.blk 1 rfl
      (try simp only [Act.put, List.setIfInBounds_toArray, List.set_cons_zero, List.set_cons_succ])
      refine wp_region_mask [true, true, true, true, true, true, true, true, true, true, false, false] [false, false, false, false, false, false, false, false, false, false, true, true] [0, 3] (fun w' => (Blk w' ba (machL A M) ∧ Blk w' bb (machL B M)) ∧ (w'.rangeAt ca (oa + k * 17) (sessOf (A.q k) (M.at k)) ∧ w'.rangeAt cb (ob + k * 17) (sessOf (B.q k) (M.at k)))) (by kernel_rfl) (by kernel_rfl) (by kernel_rfl) (by decide +kernel) ⟨⟨HB1.drew, HB0.drew⟩, hcl.out _ HS.out.drew.below⟩ ?_
      intro kne
      simp only [pickAt]
      repeat (first | ((first | (refine wpQuiet_ld _ _ rfl ⟨ba, 9, none⟩ rfl rfl (by decide +kernel) (fun w hC => hC.1.1.cell 9 _ rfl) ?_) | (refine wpQuiet_ld _ _ rfl ⟨bb, 9, none⟩ rfl rfl (by decide +kernel) (fun w hC => hC.1.2.cell 9 _ rfl) ?_) | (refine wpQuiet_la _ _ rfl ca (oa + k * 17) rfl rfl (by decide +kernel) (sessOf (A.q k) (M.at k)) (by kernel_rfl) (fun w hC => hC.2.1) ?_) | (refine wpQuiet_la _ _ rfl cb (ob + k * 17) rfl rfl (by decide +kernel) (sessOf (B.q k) (M.at k)) (by kernel_rfl) (fun w hC => hC.2.2) ?_)); simp only [Act.put, List.setIfInBounds_toArray, List.set_cons_zero, List.set_cons_succ]) | go_big_quiet_step (fail))
      refine wpQuiet_nil ?_
      clear kne HB0 HB1
      replace HS := hide HS.out.drew
      generalize World.drew _ = Wd at *
      refine wpRest_cons rfl rfl fun K hK => ?_
      go_big_op
      refine (hSs.out k hlt _ HS.out.below).mono ?_
      rintro e w3 ⟨rfl, hb⟩
      replace HS := hide (HS.out.on hb)
      clear hb
      refine hK _ _ (fun _ => InC.mk ⟨⟨HS.out.blk 1 rfl, HS.out.blk 0 rfl⟩, hcl.out _ HS.out.below⟩) ?_
      clear hK K
      (try simp only [Act.put, List.setIfInBounds_toArray, List.set_cons_zero, List.set_cons_succ])
      refine wpRest_of (v := .bool false) rfl (fun w => rfl) (wpRest_nil ?_)
      (try simp only [Act.put, List.setIfInBounds_toArray, List.set_cons_zero, List.set_cons_succ])
      refine NoPanic.normal ?_
      clear hcl
      go_wp2
      go_roundw
      case rel =>
        first
          | exact ⟨k + 1, by omega, by go_num, HS⟩
          | (repeat apply Exists.intro
             exact ⟨⟨k + 1, by omega, by go_num, HS⟩, by first | rfl | (rw [hca, hcb]; rfl)⟩)
      case measure => simp [intOf]; omega
    · obtain rfl : k = A.s.n := by omega
      go_wp2_with (first | ((with_reducible refine isList ?_); first | (refine st_load1 HS 1 rfl _ _ rfl _ rfl rfl (by decide +kernel) rfl ?_)))
      go_ret
      exact ⟨rfl, HS.out.below⟩
end Go.Proofs.YtnjognmnbpcaaaaGreat
