/-
  The document's question: may a session of a machine be?
-/
import Derived.Test.YtnjognmnbpcaaaaGreatZhWordsRef
import Derived.Test.YtnjognmnbpcaaaaGreatZlab
import Derived.Test.YtnjognmnbpcaaaaGreatZlae
import Derived.Test.YtnjognmnbpcaaaaGreatZhWritesRef
import Derived.Test.YtnjognmnbpcaaaaGreatZlac
namespace Go.Proofs.YtnjognmnbpcaaaaGreat
open Go.RowKit
set_option linter.unusedSimpArgs false
set_option linter.unusedVariables false
theorem mupTo_any (n m : Int) (w : World) :
    Calls Tryz.prog 77 #[.int .i64 n, .int .i64 0, .int .i64 m] w fun e w' => e = .returned (.bool (upToV n m)) ∧ w = w' := by
  unfold upToV
  by_cases h0 : 0 ≤ n
  · by_cases h1 : n ≤ m
    · rw [decide_eq_true (show 0 ≤ n ∧ n ≤ m from ⟨h0, h1⟩)]
      go_enter Tryz.func77, Tryz.ntmps77
      go_wp2
      go_ret
      exact ⟨rfl, rfl⟩
    · rw [decide_eq_false (show ¬ (0 ≤ n ∧ n ≤ m) from fun x => h1 x.2)]
      go_enter Tryz.func77, Tryz.ntmps77
      go_wp2
      go_ret
      exact ⟨rfl, rfl⟩
  · rw [decide_eq_false (show ¬ (0 ≤ n ∧ n ≤ m) from fun x => h0 x.1)]
    go_enter Tryz.func77, Tryz.ntmps77
    go_wp2
    go_ret
    exact ⟨rfl, rfl⟩
set_option maxRecDepth 100000 in
set_option maxHeartbeats 4000000 in
theorem rsessMay_any (s : Nat → Sl) (c : Nat → Int) (m : Int) (ss ts : Value) (i : Nat → Int) (pa ra ta : Option Addr) (pn pc rn rc tn tc : Nat) (pz rz tz : Nat → Int) (w : World) (hp : pn ≤ 1152921504606846976) (hr : rn ≤ 1152921504606846976) (ht : tn ≤ 1152921504606846976)
    (P : Row w pa (pn * 4) fun k => .int .i64 (pz k)) (R : Row w ra (rn * 3) fun k => .int .i64 (rz k)) (T : Row w ta (tn * 3) fun k => .int .i64 (tz k)) :
    Calls Tryz.prog 78 #[macA s c m ss ts, sessA i (.slice pa pn pc) (.slice ra rn rc) (.slice ta tn tc)] w fun e w' => e = .returned (.bool (sessMay s i pn rn tn pz rz tz)) ∧ Below w.heap.size w w' := by
  have HS : ∃ S : World → Prop, S ((w.alloc (.cells (macL s c m ss ts).toArray 28)).alloc (.cells (sessL i (.slice pa pn pc) (.slice ra rn rc) (.slice ta tn tc)).toArray 44)) ∧ (∀ W, S W → Below w.heap.size w W ∧ Blk W w.heap.size (macL s c m ss ts) ∧ Blk W (w.heap.size + 1) (sessL i (.slice pa pn pc) (.slice ra rn rc) (.slice ta tn tc))) ∧ Stays S := by
    refine ⟨fun W => Below w.heap.size w W ∧ Blk W w.heap.size (macL s c m ss ts) ∧ Blk W (w.heap.size + 1) (sessL i (.slice pa pn pc) (.slice ra rn rc) (.slice ta tn tc)), ⟨((Below.refl _ w).alloc (Nat.le_refl _) _).alloc (by simp) _, (blk_new w _ _).alloc _, ?_⟩, fun W h => h, (stays_below w).and ((stays_blk _ _).and (stays_blk _ _))⟩
    have := blk_new (w.alloc (.cells (macL s c m ss ts).toArray 28)) (sessL i (.slice pa pn pc) (.slice ra rn rc) (.slice ta tn tc)) 44
    rw [World.size_alloc] at this
    exact this
  obtain ⟨S, hS0, hSo, hSt⟩ := HS
  have C1 : Hid (∀ W, S W → Calls Tryz.prog 81 #[startA (i 0) (i 1) (i 2) (.slice pa pn pc)] W fun e w' => e = .returned (.bool (startMay (i 0) (i 1) (i 2) pn pz)) ∧ S w') := fun W h => (rstartMay_any _ _ _ pa pn pc pz W hp (P.below (hSo W h).1 (Nat.le_refl _))).mono fun e w' ⟨he, hb⟩ => ⟨he, hSt W w' h hb⟩
  have C2 : Hid (∀ W, S W → Calls Tryz.prog 105 #[arenaA s, sessA i (.slice pa pn pc) (.slice ra rn rc) (.slice ta tn tc)] W fun e w' => e = .returned (.bool (wordsThere s pn rn tn pz rz tz)) ∧ S w') := fun W h => (rwords_any s i pa ra ta pn pc rn rc tn tc pz rz tz W hp hr ht (P.below (hSo W h).1 (Nat.le_refl _)) (R.below (hSo W h).1 (Nat.le_refl _)) (T.below (hSo W h).1 (Nat.le_refl _))).mono fun e w' ⟨he, hb⟩ => ⟨he, hSt W w' h hb⟩
  have C5 : Hid (∀ W, S W → Calls Tryz.prog 50 #[quadA (regsI i)] W fun e w' => e = .returned (.bool (allUp (regsI i) 255 4)) ∧ S w') := fun W h => (rregsMay_any (regsI i) W).mono fun e w' ⟨he, hb⟩ => ⟨he, hSt W w' h hb⟩
  have C6 : Hid (∀ W, S W → Calls Tryz.prog 106 #[.slice ra rn rc] W fun e w' => e = .returned (.bool (readsMay rn rz)) ∧ S w') := fun W h => (rreadsMay_any ra rn rc rz W hr (R.below (hSo W h).1 (Nat.le_refl _))).mono fun e w' ⟨he, hb⟩ => ⟨he, hSt W w' h hb⟩
  have C7 : Hid (∀ W, S W → Calls Tryz.prog 107 #[.slice ta tn tc] W fun e w' => e = .returned (.bool (writesMay tn tz)) ∧ S w') := fun W h => (rwritesMay_any ta tn tc tz W ht (T.below (hSo W h).1 (Nat.le_refl _))).mono fun e w' ⟨he, q, hq⟩ => ⟨he, hSt W w' h (hq ▸ Below.drawn (Below.refl _ _) q)⟩
  unfold sessMay
  replace hSo := hide hSo
  clear P R T hp hr ht hSt
  generalize startMay (i 0) (i 1) (i 2) pn pz = a1 at *
  generalize wordsThere s pn rn tn pz rz tz = a2 at *
  generalize allUp (regsI i) 255 4 = a5 at *
  generalize readsMay rn rz = a6 at *
  generalize writesMay tn tz = a7 at *
  unfold macA sessA startA arenaA quadA regsI at *
  go_enter Tryz.func78, Tryz.ntmps78
  replace hS0 := hide hS0
  go_wp2_with fail
  refine (C1.out _ hS0.out).mono ?_
  rintro e w1 ⟨rfl, sw⟩
  have HW := hide sw
  clear hS0 C1 sw
  obtain ⟨bb, B0, B1⟩ := hSo.out _ HW.out
  obtain ⟨p0, p1, p2, p3, p4, p5, p6, p7, p8, p9, p10⟩ := B0.mac
  obtain ⟨d0, d1, d2, d3, d4, d5, d6, d7, d8, d9, d10, d11, d12, d13, d14, d15, d16⟩ := B1.sess
  cases a1
  · go_wp2
    go_ret
    exact ⟨by simp, bb⟩
  · skip
    go_wp2_with (refine wpList_load_at 44 (.tmp 3) rfl rfl (w.heap.size + 1) 0 rfl (sessL i (.slice pa pn pc) (.slice ra rn rc) (.slice ta tn tc)) Tryz.rowSess Tryz.sizeSess B1.range ?_)
    refine (C2.out _ HW.out).mono ?_
    rintro e w2 ⟨rfl, sw⟩
    clear C2
    clear p0 p1 p2 p3 p4 p5 p6 p7 p8 p9 p10 d0 d1 d2 d3 d4 d5 d6 d7 d8 d9 d10 d11 d12 d13 d14 d15 d16 B0 B1 HW bb
    have HW := hide sw
    clear sw
    obtain ⟨bb, B0, B1⟩ := hSo.out _ HW.out
    obtain ⟨p0, p1, p2, p3, p4, p5, p6, p7, p8, p9, p10⟩ := B0.mac
    obtain ⟨d0, d1, d2, d3, d4, d5, d6, d7, d8, d9, d10, d11, d12, d13, d14, d15, d16⟩ := B1.sess
    cases a2
    · go_wp2
      go_ret
      exact ⟨by simp, bb⟩
    · skip
      cases ha3 : upToV (i 3) 6
      · go_wp2_with (first | (go_at_call 77; refine (mupTo_any _ _ _).mono ?_; rintro e w' ⟨rfl, rfl⟩) | (go_at_call 76; refine (rclock_any _ _).mono ?_; rintro e w' ⟨rfl, rfl⟩) | (go_at_call 52; refine (rvalue_any _ _).mono ?_; rintro e w' ⟨rfl, rfl⟩))
        go_ret
        exact ⟨by simp [ha3], bb⟩
      · skip
        cases ha4 : upToV (i 4) pn
        · go_wp2_with (first | (go_at_call 77; refine (mupTo_any _ _ _).mono ?_; rintro e w' ⟨rfl, rfl⟩) | (go_at_call 76; refine (rclock_any _ _).mono ?_; rintro e w' ⟨rfl, rfl⟩) | (go_at_call 52; refine (rvalue_any _ _).mono ?_; rintro e w' ⟨rfl, rfl⟩))
          go_ret
          exact ⟨by simp [ha3, ha4], bb⟩
        · skip
          go_wp2_with (first | (go_at_call 77; refine (mupTo_any _ _ _).mono ?_; rintro e w' ⟨rfl, rfl⟩) | (go_at_call 76; refine (rclock_any _ _).mono ?_; rintro e w' ⟨rfl, rfl⟩) | (go_at_call 52; refine (rvalue_any _ _).mono ?_; rintro e w' ⟨rfl, rfl⟩))
          refine (C5.out _ HW.out).mono ?_
          rintro e w3 ⟨rfl, sw⟩
          clear C5
          clear p0 p1 p2 p3 p4 p5 p6 p7 p8 p9 p10 d0 d1 d2 d3 d4 d5 d6 d7 d8 d9 d10 d11 d12 d13 d14 d15 d16 B0 B1 HW bb
          have HW := hide sw
          clear sw
          obtain ⟨bb, B0, B1⟩ := hSo.out _ HW.out
          obtain ⟨p0, p1, p2, p3, p4, p5, p6, p7, p8, p9, p10⟩ := B0.mac
          obtain ⟨d0, d1, d2, d3, d4, d5, d6, d7, d8, d9, d10, d11, d12, d13, d14, d15, d16⟩ := B1.sess
          cases a5
          · go_wp2
            go_ret
            exact ⟨by simp, bb⟩
          · skip
            go_wp2_with fail
            refine (C6.out _ HW.out).mono ?_
            rintro e w4 ⟨rfl, sw⟩
            clear C6
            clear p0 p1 p2 p3 p4 p5 p6 p7 p8 p9 p10 d0 d1 d2 d3 d4 d5 d6 d7 d8 d9 d10 d11 d12 d13 d14 d15 d16 B0 B1 HW bb
            have HW := hide sw
            clear sw
            obtain ⟨bb, B0, B1⟩ := hSo.out _ HW.out
            obtain ⟨p0, p1, p2, p3, p4, p5, p6, p7, p8, p9, p10⟩ := B0.mac
            obtain ⟨d0, d1, d2, d3, d4, d5, d6, d7, d8, d9, d10, d11, d12, d13, d14, d15, d16⟩ := B1.sess
            cases a6
            · go_wp2
              go_ret
              exact ⟨by simp, bb⟩
            · skip
              go_wp2_with fail
              refine (C7.out _ HW.out).mono ?_
              rintro e w5 ⟨rfl, sw⟩
              clear C7
              clear p0 p1 p2 p3 p4 p5 p6 p7 p8 p9 p10 d0 d1 d2 d3 d4 d5 d6 d7 d8 d9 d10 d11 d12 d13 d14 d15 d16 B0 B1 HW bb
              have HW := hide sw
              clear sw
              obtain ⟨bb, B0, B1⟩ := hSo.out _ HW.out
              obtain ⟨p0, p1, p2, p3, p4, p5, p6, p7, p8, p9, p10⟩ := B0.mac
              obtain ⟨d0, d1, d2, d3, d4, d5, d6, d7, d8, d9, d10, d11, d12, d13, d14, d15, d16⟩ := B1.sess
              cases a7
              · go_wp2
                go_ret
                exact ⟨by simp, bb⟩
              · skip
                cases ha8 : upToV (i 9) tn
                · go_wp2_with (first | (go_at_call 77; refine (mupTo_any _ _ _).mono ?_; rintro e w' ⟨rfl, rfl⟩) | (go_at_call 76; refine (rclock_any _ _).mono ?_; rintro e w' ⟨rfl, rfl⟩) | (go_at_call 52; refine (rvalue_any _ _).mono ?_; rintro e w' ⟨rfl, rfl⟩))
                  go_ret
                  exact ⟨by simp [ha3, ha4, ha8], bb⟩
                · skip
                  cases ha9 : upToV (i 10) 65535
                  · go_wp2_with (first | (go_at_call 77; refine (mupTo_any _ _ _).mono ?_; rintro e w' ⟨rfl, rfl⟩) | (go_at_call 76; refine (rclock_any _ _).mono ?_; rintro e w' ⟨rfl, rfl⟩) | (go_at_call 52; refine (rvalue_any _ _).mono ?_; rintro e w' ⟨rfl, rfl⟩))
                    go_ret
                    exact ⟨by simp [ha3, ha4, ha8, ha9], bb⟩
                  · skip
                    cases ha10 : upToV (i 11) 65535
                    · go_wp2_with (first | (go_at_call 77; refine (mupTo_any _ _ _).mono ?_; rintro e w' ⟨rfl, rfl⟩) | (go_at_call 76; refine (rclock_any _ _).mono ?_; rintro e w' ⟨rfl, rfl⟩) | (go_at_call 52; refine (rvalue_any _ _).mono ?_; rintro e w' ⟨rfl, rfl⟩))
                      go_ret
                      exact ⟨by simp [ha3, ha4, ha8, ha9, ha10], bb⟩
                    · skip
                      cases ha11 : upToV (i 12) 5
                      · go_wp2_with (first | (go_at_call 77; refine (mupTo_any _ _ _).mono ?_; rintro e w' ⟨rfl, rfl⟩) | (go_at_call 76; refine (rclock_any _ _).mono ?_; rintro e w' ⟨rfl, rfl⟩) | (go_at_call 52; refine (rvalue_any _ _).mono ?_; rintro e w' ⟨rfl, rfl⟩))
                        go_ret
                        exact ⟨by simp [ha3, ha4, ha8, ha9, ha10, ha11], bb⟩
                      · skip
                        go_wp2_with (first | (go_at_call 77; refine (mupTo_any _ _ _).mono ?_; rintro e w' ⟨rfl, rfl⟩) | (go_at_call 76; refine (rclock_any _ _).mono ?_; rintro e w' ⟨rfl, rfl⟩) | (go_at_call 52; refine (rvalue_any _ _).mono ?_; rintro e w' ⟨rfl, rfl⟩))
                        go_ret
                        exact ⟨by simp [ha3, ha4, ha8, ha9, ha10, ha11], bb⟩
end Go.Proofs.YtnjognmnbpcaaaaGreat
