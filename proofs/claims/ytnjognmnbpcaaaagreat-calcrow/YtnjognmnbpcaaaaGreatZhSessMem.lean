/-
  Two sessions that are the same; a session written over.
-/
import Derived.Test.YtnjognmnbpcaaaaGreatZlab
import Derived.Test.YtnjognmnbpcaaaaGreatZlad
import Derived.Test.YtnjognmnbpcaaaaGreatZlac
namespace Go.Proofs.YtnjognmnbpcaaaaGreat
open Go.RowKit
set_option linter.unusedSimpArgs false
set_option linter.unusedVariables false
set_option maxRecDepth 100000 in
set_option maxHeartbeats 2000000 in
theorem sameSession_yes (i : Nat → Int) (pa pa' ra ra' ta ta' : Option Addr) (pn pc pc' rn rc rc' tn tc tc' : Nat) (pz rz tz : Nat → Int) (w : World) (hp : pn ≤ 1152921504606846976) (hr : rn ≤ 1152921504606846976) (ht : tn ≤ 1152921504606846976)
    (P : Row w pa (pn * 4) fun k => .int .i64 (pz k)) (P' : Row w pa' (pn * 4) fun k => .int .i64 (pz k)) (R : Row w ra (rn * 3) fun k => .int .i64 (rz k)) (R' : Row w ra' (rn * 3) fun k => .int .i64 (rz k)) (T : Row w ta (tn * 3) fun k => .int .i64 (tz k)) (T' : Row w ta' (tn * 3) fun k => .int .i64 (tz k)) :
    Calls Tryz.prog 30 #[sessA i (.slice pa pn pc) (.slice ra rn rc) (.slice ta tn tc), sessA i (.slice pa' pn pc') (.slice ra' rn rc') (.slice ta' tn tc')] w fun e w' => e = .returned (.bool true) ∧ Below w.heap.size w w' := by
  unfold sessA
  have Q := fun W => quad_eq (i 5) (i 6) (i 7) (i 8) (i 5) (i 6) (i 7) (i 8) W
  simp only [beq_self_eq_true, Bool.and_self] at Q
  have HS : ∃ S : World → Prop, S ((w.alloc (.cells (sessL i (.slice pa pn pc) (.slice ra rn rc) (.slice ta tn tc)).toArray 44)).alloc (.cells (sessL i (.slice pa' pn pc') (.slice ra' rn rc') (.slice ta' tn tc')).toArray 44)) ∧ (∀ W, S W → Below w.heap.size w W ∧ Blk W w.heap.size (sessL i (.slice pa pn pc) (.slice ra rn rc) (.slice ta tn tc)) ∧ Blk W (w.heap.size + 1) (sessL i (.slice pa' pn pc') (.slice ra' rn rc') (.slice ta' tn tc'))) ∧ (∀ W q, S W → S (W.drewN q)) := by
    refine ⟨fun W => Below w.heap.size w W ∧ Blk W w.heap.size (sessL i (.slice pa pn pc) (.slice ra rn rc) (.slice ta tn tc)) ∧ Blk W (w.heap.size + 1) (sessL i (.slice pa' pn pc') (.slice ra' rn rc') (.slice ta' tn tc')), ⟨((Below.refl _ w).alloc (Nat.le_refl _) _).alloc (by simp) _, (blk_new w _ _).alloc _, ?_⟩, fun W h => h, fun W q h => ⟨Below.drawn h.1 q, h.2.1.drawn q, h.2.2.drawn q⟩⟩
    have := blk_new (w.alloc (.cells (sessL i (.slice pa pn pc) (.slice ra rn rc) (.slice ta tn tc)).toArray 44)) (sessL i (.slice pa' pn pc') (.slice ra' rn rc') (.slice ta' tn tc')) 44
    rw [World.size_alloc] at this
    exact this
  obtain ⟨S, hS0, hSo, hSd⟩ := HS
  have C1 : Hid (∀ W, S W → Calls Tryz.prog 54 #[.slice pa pn pc, .slice pa' pn pc'] W fun e w' => e = .returned (.bool true) ∧ S w') := fun W h => by
    have := sameInsts_any pa pa' pn pc pn pc' pz pz W hp (P.below (hSo W h).1 (Nat.le_refl _)) (P'.below (hSo W h).1 (Nat.le_refl _))
    rw [decide_eq_true rfl, eqTo_mk fun _ _ => rfl] at this
    exact this.mono fun e w' ⟨he, q, hq⟩ => ⟨he, hq ▸ hSd W q h⟩
  have C2 : Hid (∀ W, S W → Calls Tryz.prog 55 #[.slice ra rn rc, .slice ra' rn rc'] W fun e w' => e = .returned (.bool true) ∧ S w') := fun W h => by
    have := sameReads_any ra ra' rn rc rn rc' rz rz W hr (R.below (hSo W h).1 (Nat.le_refl _)) (R'.below (hSo W h).1 (Nat.le_refl _))
    rw [decide_eq_true rfl, eqTo_mk fun _ _ => rfl] at this
    exact this.mono fun e w' ⟨he, q, hq⟩ => ⟨he, hq ▸ hSd W q h⟩
  have C3 : Hid (∀ W, S W → Calls Tryz.prog 56 #[.slice ta tn tc, .slice ta' tn tc'] W fun e w' => e = .returned (.bool true) ∧ S w') := fun W h => by
    have := sameWrites_any ta ta' tn tc tn tc' tz tz W ht (T.below (hSo W h).1 (Nat.le_refl _)) (T'.below (hSo W h).1 (Nat.le_refl _))
    rw [decide_eq_true rfl, eqTo_mk fun _ _ => rfl] at this
    exact this.mono fun e w' ⟨he, q, hq⟩ => ⟨he, hq ▸ hSd W q h⟩
  clear P P' R R' T T' hp hr ht hSd
  replace hSo := hide hSo
  go_enter Tryz.func30, Tryz.ntmps30
  go_wp2_with fail
  refine (C1.out _ hS0).mono ?_
  rintro e w1 ⟨rfl, s1⟩
  clear C1 hS0
  obtain ⟨_, B0, B1⟩ := hSo.out _ s1
  obtain ⟨c0, c1, c2, c3, c4, c5, c6, c7, c8, c9, c10, c11, c12, c13, c14, c15, c16⟩ := B0.sess
  obtain ⟨d0, d1, d2, d3, d4, d5, d6, d7, d8, d9, d10, d11, d12, d13, d14, d15, d16⟩ := B1.sess
  clear B0 B1
  go_wp2_with fail
  refine (C2.out _ s1).mono ?_
  rintro e w2 ⟨rfl, s2⟩
  clear C2 s1 c0 c1 c2 c3 c4 c5 c6 c7 c8 c9 c10 c11 c12 c13 c14 c15 c16 d0 d1 d2 d3 d4 d5 d6 d7 d8 d9 d10 d11 d12 d13 d14 d15 d16
  obtain ⟨_, B0, B1⟩ := hSo.out _ s2
  obtain ⟨c0, c1, c2, c3, c4, c5, c6, c7, c8, c9, c10, c11, c12, c13, c14, c15, c16⟩ := B0.sess
  obtain ⟨d0, d1, d2, d3, d4, d5, d6, d7, d8, d9, d10, d11, d12, d13, d14, d15, d16⟩ := B1.sess
  clear B0 B1
  go_wp2_with fail
  refine (C3.out _ s2).mono ?_
  rintro e w3 ⟨rfl, s3⟩
  clear C3 s2 c0 c1 c2 c3 c4 c5 c6 c7 c8 c9 c10 c11 c12 c13 c14 c15 c16 d0 d1 d2 d3 d4 d5 d6 d7 d8 d9 d10 d11 d12 d13 d14 d15 d16
  obtain ⟨b3, B0, B1⟩ := hSo.out _ s3
  obtain ⟨c0, c1, c2, c3, c4, c5, c6, c7, c8, c9, c10, c11, c12, c13, c14, c15, c16⟩ := B0.sess
  obtain ⟨d0, d1, d2, d3, d4, d5, d6, d7, d8, d9, d10, d11, d12, d13, d14, d15, d16⟩ := B1.sess
  clear B0 B1 hSo s3 Q
  go_wp2
  go_ret
  exact ⟨rfl, b3⟩
end Go.Proofs.YtnjognmnbpcaaaaGreat
