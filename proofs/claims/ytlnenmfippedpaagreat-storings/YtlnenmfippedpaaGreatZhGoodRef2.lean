/-
  The document's Good of chapter 9.
-/
import Derived.Test.YtlnenmfippedpaaGreatZlad
import Derived.RegionTactic
import Derived.BigRegion
namespace Go.Proofs.YtlnenmfippedpaaGreat
open Go.RowKit
set_option linter.unusedSimpArgs false
set_option linter.unusedVariables false
set_option maxRecDepth 10000 in
set_option maxHeartbeats 4000000 in
theorem rgood_any (s : Nat → Sl) (y : Nat → Nat → Int) (a : Option Addr) (n c : Nat) (z : Nat → Int) (d : Int) (w : World) (hf : Short s) (hA : Arn w s y) (hn : n ≤ 1152921504606846976) (h : Row w a (n * 3) fun i => .int .i64 (z i)) :
    Calls Tryz.prog 97 #[arenaA s, .slice a n c, .int .i64 d] w fun e w' => e = .returned (.tuple #[.bool (goodV s y n z d), .int .i64 (goodE s y n z d)]) ∧ Below w.heap.size w w' := by
  have CA := hide fun w h => rarenaMay_any s y w hf h
  have CR := hide fun w h => rreadsMay_any a n c z w hn h
  have CT := hide fun w h => rreadsThere_any s a n c z w hn h
  have HA := hide hA
  have b0 : Below w.heap.size w (w.alloc (.cells (arenaL s).toArray 23)) := by go_grown
  have B := blk_new w (arenaL s) 23
  have HR := hide (h.below b0 (Nat.le_refl _))
  have HA0 := hide (hA.below b0 (Nat.le_refl _))
  clear h hA hf
  unfold arenaA at *
  cases ha : amay s y
  · obtain ⟨e1, e2⟩ := good_no (goodOk_fit (d := d) (fitR_arena (n := n) (z := z) ha))
    rw [e1, e2]
    clear e1 e2
    go_enter Tryz.func97, Tryz.ntmps97
    go_wp2_with fail
    refine (CA.out _ HA0.out).mono ?_
    rintro e w1 ⟨rfl, hb⟩
    rw [ha]
    have b1 := Below.on b0 hb
    clear hb
    go_wp2
    go_ret2
    exact ⟨rfl, b1⟩
  · go_enter Tryz.func97, Tryz.ntmps97
    go_wp2_with fail
    refine (CA.out _ HA0.out).mono ?_
    rintro e w1 ⟨rfl, hb⟩
    rw [ha]
    have b1 := Below.on b0 hb
    have R1 := hide (HR.out.below hb (Nat.le_refl _))
    have B1 := hide (B.on hb)
    clear hb b0 HR HA0 B CA
    go_wp2_with fail
    refine (CR.out _ R1.out).mono ?_
    rintro e w2 ⟨rfl, hb⟩
    have b2 := Below.on b1 hb
    have R2 := hide (R1.out.below hb (Nat.le_refl _))
    have B2 := B1.out.on hb
    clear hb b1 R1 B1 CR
    cases hr : readsMay n z
    · have HE := hide (good_no (goodOk_fit (d := d) (fitR_reads (s := s) (y := y) hr)))
      clear B2
      go_wp2
      go_ret2
      exact ⟨ret_bool_int HE.out.1.symm HE.out.2.symm, b2⟩
    · cases hd : upToV d 254
      · have HE := hide (good_no (goodOk_id (s := s) (y := y) (n := n) (z := z) hd))
        clear B2
        have C := fun w => rid_any d w
        rw [hd] at C
        have CI := hide C
        clear C
        go_wp2_with (go_at_call 127; refine (CI.out _).mono ?_; rintro e w' ⟨rfl, rfl⟩)
        go_ret2
        exact ⟨ret_bool_int HE.out.1.symm HE.out.2.symm, b2⟩
      · have C := fun w => rid_any d w
        rw [hd] at C
        have CI := hide C
        clear C
        obtain ⟨⟨c0, c1, c2, c3⟩, f0, f1, f2, f3⟩ := B2.four
        go_wp2_with (go_at_call 127; refine (CI.out _).mono ?_; rintro e w' ⟨rfl, rfl⟩)
        refine (CT.out _ R2.out).mono ?_
        rintro e w3 ⟨rfl, hb⟩
        have b3 := Below.on b2 hb
        have R3 := hide (R2.out.below hb (Nat.le_refl _))
        have B3 := B2.on hb
        clear hb b2 R2 B2 CT c0 c1 c2 c3 f0 f1 f2 f3
        cases ht : allTo (thereP s z) n
        · have HE := hide (good_no (goodOk_fit (d := d) (fitR_there (s := s) (y := y) ht)))
          clear B3
          go_wp2
          go_ret2
          exact ⟨ret_bool_int HE.out.1.symm HE.out.2.symm, b3⟩
        · have HE := hide (good_yes (goodOk_mk (fitR_mk ha hr ht) hd))
          have HT := hide ht
          obtain ⟨dd0, dd1⟩ := upToV_yes hd
          clear ht hr ha hd CI
          go_wp2
          go_loopw [8] (fun i wr => ∃ k : Nat, k ≤ n ∧ i = .int .i64 k ∧ Hid (allTo (goodP y z d) k = true) ∧ Blk wr w.heap.size (arenaL s) ∧ (Row wr a (n * 3) fun i => .int .i64 (z i)) ∧ Below w.heap.size w wr) (fun i _ => n - (intOf i).toNat)
          case atStart => exact ⟨0, Nat.zero_le _, rfl, rfl, B3, R3.out, b3⟩
          case round =>
            clear B3 R3 b3
            obtain ⟨k, hk, rfl, HS, B, R, hb⟩ := hrel
            by_cases hlt : k < n
            · have i1 : (k : Int) < (n : Int) := by omega
              obtain ⟨b, off, rfl, hbl, d0, d1, d2⟩ := R.at3 k hlt
              obtain ⟨g, j, b', off', hg, hj, hg4, hjn, hsa, hb', q0, q1, q2, hsm, hfr⟩ := there_word (allTo_get HT.out k hlt) (HA.out.below hb (Nat.le_refl _))
              have c1 := B.cell g _ (arenaL_get s hg4)
              rw [hsa] at c1
              rw [hg] at d0
              rw [hj] at d1
              have i2 : (g : Int) < 4 := by omega
              have i3 : (j : Int) < ((s g).n : Int) := by omega
              have HR := hide R
              have HB := hide hb
              have HBl := hide B
              have HG : Hid (goodP y z d k = ((y g (j * 3 + 1) == z (k * 3 + 2)) && ((y g (j * 3 + 2) == 0) || (y g (j * 3 + 2) == d + 1)))) := by
                show goodP y z d k = _
                unfold goodP
                rw [hsm, hfr]
              have bls := B.lt
              clear R hb B hsa hg hj hsm hfr
              go_upto_region 6 with (fail)
              go_region
              have HW : Hid (Blk (wr.alloc (.cells #[.int .i64 (y g (j * 3)), .int .i64 (y g (j * 3 + 1)), .int .i64 (y g (j * 3 + 2))] 100)).drew wr.heap.size [.int .i64 (y g (j * 3)), .int .i64 (y g (j * 3 + 1)), .int .i64 (y g (j * 3 + 2))]) := (blk_new wr [.int .i64 (y g (j * 3)), .int .i64 (y g (j * 3 + 1)), .int .i64 (y g (j * 3 + 2))] 100).drew
              have bb : Below wr.heap.size wr (wr.alloc (.cells #[.int .i64 (y g (j * 3)), .int .i64 (y g (j * 3 + 1)), .int .i64 (y g (j * 3 + 2))] 100)).drew := by go_grown
              replace HR := hide (HR.out.below bb (Nat.le_refl _))
              replace HBl := hide (HBl.out.on bb)
              replace HB := hide (Below.on HB.out bb)
              clear d0 d1 d2 q0 q1 q2 c1 bb i2 i3 hbl hb' bls
              generalize (wr.alloc (.cells #[.int .i64 (y g (j * 3)), .int .i64 (y g (j * 3 + 1)), .int .i64 (y g (j * 3 + 2))] 100)).drew = W at *
              obtain ⟨_, _, hsa, hbl, d0, d1, d2⟩ := HR.out.at3 k hlt
              cases hsa
              obtain ⟨⟨c0, c1, c2⟩, f0, f1, f2⟩ := HW.out.three
              have hw : IntKind.i64.wrap (d + 1) = d + 1 := IntWalk.i64_in _ ⟨by omega, by omega⟩
              generalize y g (j * 3) = x0, y g (j * 3 + 1) = x1, y g (j * 3 + 2) = x2 at *
              by_cases v0 : x1 = z (k * 3 + 2)
              · have v0' : (x1 != z (k * 3 + 2)) = false := by rw [v0]; simp
                by_cases v1 : x2 = 0
                · have HN : Hid (allTo (goodP y z d) (k + 1) = true) := by
                    show allTo (goodP y z d) (k + 1) = true
                    rw [allTo, HS.out, HG.out, v0, v1]
                    simp
                  subst v1
                  rw [v0] at c1
                  clear v0 v0' HG
                  go_wp2
                  go_quiet (fail)
                  go_wp2
                  go_roundw
                  case rel =>
                    first
                      | exact ⟨k + 1, by omega, by go_num, HN, HBl.out.drawn _, HR.out.drewN _, Below.drawn HB.out _⟩
                      | (repeat apply Exists.intro
                         exact ⟨⟨k + 1, by omega, by go_num, HN, HBl.out.drawn _, HR.out.drewN _, Below.drawn HB.out _⟩, rfl⟩)
                  case measure => simp [intOf]; omega
                · have v1' : (x2 != 0) = true := by simpa using v1
                  by_cases v2 : x2 = d + 1
                  · have HN : Hid (allTo (goodP y z d) (k + 1) = true) := by
                      show allTo (goodP y z d) (k + 1) = true
                      rw [allTo, HS.out, HG.out, v0, v2]
                      simp
                    subst v2
                    rw [v0] at c1
                    clear v0 v0' HG
                    go_wp2
                    go_quiet (fail)
                    go_wp2
                    go_roundw
                    case rel =>
                      first
                        | exact ⟨k + 1, by omega, by go_num, HN, HBl.out.drawn _, HR.out.drewN _, Below.drawn HB.out _⟩
                        | (repeat apply Exists.intro
                           exact ⟨⟨k + 1, by omega, by go_num, HN, HBl.out.drawn _, HR.out.drewN _, Below.drawn HB.out _⟩, rfl⟩)
                    case measure => simp [intOf]; omega
                  · have v2' : (x2 != d + 1) = true := by simpa using v2
                    have HN : Hid (allTo (goodP y z d) n = false) := allTo_no k hlt (by rw [HG.out, beq_eq_false_iff_ne.2 v1, beq_eq_false_iff_ne.2 v2]; simp)
                    rw [v0] at c1
                    clear v0 v0' HG
                    go_wp2
                    go_quiet (fail)
                    go_wp2
                    go_ret2
                    exact ⟨ret_bool_int (by rw [HE.out.1, HN.out]) HE.out.2.symm, Below.drawn HB.out _⟩
              · have v0' : (x1 != z (k * 3 + 2)) = true := by simpa using v0
                have HN : Hid (allTo (goodP y z d) n = false) := allTo_no k hlt (by rw [HG.out, beq_eq_false_iff_ne.2 v0]; rfl)
                clear HG
                go_wp2
                go_quiet (fail)
                go_wp2
                go_ret2
                exact ⟨ret_bool_int (by rw [HE.out.1, HN.out]) HE.out.2.symm, Below.drawn HB.out _⟩
            · obtain rfl : k = n := by omega
              go_wp2
              go_ret2
              exact ⟨ret_bool_int (by rw [HE.out.1, HS.out]) HE.out.2.symm, hb⟩
end Go.Proofs.YtlnenmfippedpaaGreat
