/-
  What the landed package readset's fit, Good and Changed hand back.
-/
import Derived.Test.YtleemagdidffpaaGoodProg
namespace Go.Proofs.Ytleemagdidffpaa
open Go.RowKit
set_option linter.unusedSimpArgs false
set_option linter.unusedVariables false

set_option maxRecDepth 10000 in
set_option maxHeartbeats 1000000 in
/-- The function that Good hands to All: is a read's word of that version, and free, or that one's? -/
theorem goodLit_any (s : Nat → Sl) (y : Nat → Nat → Int) (g j : Nat) (v d : Int) (b1 b2 : Nat) (w : World) (hg : g < 4) (hj : j < (s g).n) (d0 : 0 ≤ d) (d1 : d ≤ 254) (h : Arn w s y) (B1 : Blk w b1 (arenaL s)) (B2 : Blk w b2 [.int .i64 d]) :
    Calls Try.prog 32 #[.agg #[.int .i64 (g : Int), .int .i64 (j : Int), .int .i64 v], .pointer (some ⟨b1, 0, none⟩), .pointer (some ⟨b2, 0, none⟩)] w fun e w' => e = .returned (.bool ((y g (j * 3 + 1) == v) && ((y g (j * 3 + 2) == 0) || (y g (j * 3 + 2) == d + 1)))) ∧ Below w.heap.size w w' := by
  have CO := hide fun w h => of_rc s y g j v w hg hj h
  have CU := hide fun w h => unchanged_rc s y g j v w hg hj h
  have b0 : Below w.heap.size w (w.alloc (.cells #[.int .i64 (g : Int), .int .i64 (j : Int), .int .i64 v] 24)) := by go_grown
  have B3 := blk_new w [.int .i64 (g : Int), .int .i64 (j : Int), .int .i64 v] 24
  have HA := hide (h.below b0 (Nat.le_refl _))
  have hf := fun W => field_2 (.int .i64 (y g (j * 3))) (.int .i64 (y g (j * 3 + 1))) (.int .i64 (y g (j * 3 + 2))) W
  have hw : IntKind.i64.wrap (d + 1) = d + 1 := IntWalk.i64_in _ ⟨by omega, by omega⟩
  replace B1 := B1.alloc (.cells #[.int .i64 (g : Int), .int .i64 (j : Int), .int .i64 v] 24)
  replace B2 := B2.alloc (.cells #[.int .i64 (g : Int), .int .i64 (j : Int), .int .i64 v] 24)
  clear h
  unfold arenaA wordA at *
  generalize y g (j * 3 + 1) = x1, y g (j * 3 + 2) = x2, y g (j * 3) = x0 at *
  go_enter Try.func32, Try.ntmps32
  go_upto_region 1 with (fail)
  generalize w.alloc (.cells #[.int .i64 (g : Int), .int .i64 (j : Int), .int .i64 v] 24) = W at *
  obtain ⟨⟨c0, c1, c2, c3⟩, cf0, cf1, cf2, cf3⟩ := B1.four
  obtain ⟨⟨e0, e1, e2⟩, ef0, ef1, ef2⟩ := B3.three
  go_wp2_with fail
  refine (CO.out _ HA.out).mono ?_
  rintro e w1 ⟨rfl, hb⟩
  have b1' := Below.on b0 hb
  replace HA := hide (HA.out.below hb (Nat.le_refl _))
  replace B1 := B1.on hb
  replace B2 := B2.on hb
  replace B3 := B3.on hb
  clear hb b0 CO c0 c1 c2 c3 cf0 cf1 cf2 cf3 e0 e1 e2 ef0 ef1 ef2
  obtain ⟨⟨c0, c1, c2, c3⟩, cf0, cf1, cf2, cf3⟩ := B1.four
  obtain ⟨⟨e0, e1, e2⟩, ef0, ef1, ef2⟩ := B3.three
  go_wp2_with fail
  refine (CU.out _ HA.out).mono ?_
  rintro e w2 ⟨rfl, hb⟩
  have b2' := Below.on b1' hb
  replace B2 := B2.on hb
  clear hb b1' CU c0 c1 c2 c3 cf0 cf1 cf2 cf3 e0 e1 e2 ef0 ef1 ef2 B1 B3 HA hf
  obtain ⟨e0, ef0⟩ := B2.one
  cases h1 : (x1 == v)
  · go_wp2
    go_ret
    exact ⟨ret_bool (by simp [h1]), b2'⟩
  · by_cases h2 : x2 = 0
    · subst h2
      go_wp2
      go_ret
      exact ⟨ret_bool (by simp [h1]), b2'⟩
    · have h2' : (x2 == 0) = false := beq_eq_false_iff_ne.2 h2
      go_wp2
      go_ret
      exact ⟨ret_bool (by simp [h1, h2]), b2'⟩

set_option maxRecDepth 10000 in
set_option maxHeartbeats 1000000 in
theorem fit_any (s : Nat → Sl) (y : Nat → Nat → Int) (a : Option Addr) (n c : Nat) (z : Nat → Int) (w : World) (hf : Fit s) (hA : Arn w s y) (hn : n ≤ 1152921504606846976) (hc : n ≤ c) (h : Row w a (n * 3) fun i => .int .i64 (z i)) :
    Calls Try.prog 29 #[arenaA s, .slice a n c] w fun e w' => e = .returned (.bool (fitR s y n z)) ∧ Below w.heap.size w w' := by
  have CA := hide fun w h => may_c s y w hf h
  have CR := hide fun w h => may_rc a n c z w hn hc h
  have b0 : Below w.heap.size w (w.alloc (.cells (arenaL s).toArray 26)) := by go_grown
  have B := blk_new w (arenaL s) 26
  have HR := hide (h.below b0 (Nat.le_refl _))
  have HA0 := hide (hA.below b0 (Nat.le_refl _))
  clear h hA hf
  cases ha : amay s y
  · have HN := hide (fitR_arena (n := n) (z := z) ha)
    unfold arenaA at *
    go_enter Try.func29, Try.ntmps29
    go_wp2_with fail
    refine (CA.out _ HA0.out).mono ?_
    rintro e w1 ⟨rfl, hb⟩
    rw [ha]
    have b1 := Below.on b0 hb
    clear hb
    go_wp2
    go_ret
    exact ⟨ret_bool HN.out.symm, b1⟩
  · cases hr : readsMay n z
    · have HN := hide (fitR_reads (s := s) (y := y) hr)
      unfold arenaA at *
      go_enter Try.func29, Try.ntmps29
      go_wp2_with fail
      refine (CA.out _ HA0.out).mono ?_
      rintro e w1 ⟨rfl, hb⟩
      rw [ha]
      have b1 := Below.on b0 hb
      have R1 := hide (HR.out.below hb (Nat.le_refl _))
      clear hb b0 HR HA0 B CA
      go_wp2_with fail
      refine (CR.out _ R1.out).mono ?_
      rintro e w2 ⟨rfl, hb⟩
      rw [hr]
      have b2 := Below.on b1 hb
      clear hb b1 R1 CR
      go_wp2
      go_ret
      exact ⟨ret_bool HN.out.symm, b2⟩
    · have HL := hide (readsMay_get hr).1
      have CH := hide fun w h => askAll_any 44 #[arenaA s] #[] (thereP s z) a n c z w hn h (fun _ _ => rfl) (fun k hk W hb => has_rc s _ _ _ W (allTo_get HL.out k hk))
      have HF : Hid (fitR s y n z = allTo (thereP s z) n) := by
        show fitR s y n z = _
        rw [fitR, ha, hr]
        rfl
      unfold arenaA at *
      go_enter Try.func29, Try.ntmps29
      go_wp2_with fail
      refine (CA.out _ HA0.out).mono ?_
      rintro e w1 ⟨rfl, hb⟩
      rw [ha]
      have b1 := Below.on b0 hb
      have R1 := hide (HR.out.below hb (Nat.le_refl _))
      have B1 := B.on hb
      clear hb b0 HR HA0 B CA
      go_wp2_with fail
      refine (CR.out _ R1.out).mono ?_
      rintro e w2 ⟨rfl, hb⟩
      rw [hr]
      have b2 := Below.on b1 hb
      have R2 := hide (R1.out.below hb (Nat.le_refl _))
      have B2 := B1.on hb
      clear hb b1 R1 CR B1
      obtain ⟨⟨c0, c1, c2, c3⟩, cf0, cf1, cf2, cf3⟩ := B2.four
      have hmf : ∀ (fn : Fn) (first cap : Array Value) (w : World), (Instr.makeFunc fn first cap).run Try.prog w = .ok (.func fn first cap) w := fun _ _ _ _ => rfl
      go_wp2_with fail
      refine (CH.out _ R2.out).mono ?_
      rintro e w3 ⟨rfl, hb⟩
      have b3 := Below.on b2 hb
      clear hb b2 R2 CH B2 c0 c1 c2 c3 cf0 cf1 cf2 cf3 hmf
      go_wp2
      go_ret
      exact ⟨ret_bool HF.out.symm, b3⟩

set_option maxRecDepth 10000 in
set_option maxHeartbeats 1000000 in
theorem chg_rc : ChgRC := by
  intro s y a n c z w hf hA hn hc h
  have CF := hide fun w hA h => fit_any s y a n c z w hf hA hn hc h
  have b0 : Below w.heap.size w (w.alloc (.cells (arenaL s).toArray 26)) := by go_grown
  have B := blk_new w (arenaL s) 26
  have HR := hide (h.below b0 (Nat.le_refl _))
  have HA0 := hide (hA.below b0 (Nat.le_refl _))
  clear h hA hf
  cases hft : fitR s y n z
  · obtain ⟨e1, e2⟩ := chg_no hft
    rw [e1, e2]
    clear e1 e2
    unfold arenaA at *
    go_enter Try.func15, Try.ntmps15
    go_wp2_with fail
    refine (CF.out _ HA0.out HR.out).mono ?_
    rintro e w1 ⟨rfl, hb⟩
    rw [hft]
    have b1 := Below.on b0 hb
    clear hb
    go_wp2
    go_ret2
    exact ⟨rfl, b1⟩
  · obtain ⟨e1, e2⟩ := chg_yes hft
    rw [e1, e2]
    have HT := hide (fitR_get hft).2.2
    have CH := hide fun w (hA : Arn w s y) h => askAll_any 34 #[arenaA s] #[] (sameP y z) a n c z w hn h (fun _ _ => rfl) (fun k hk W hb => by
      obtain ⟨g, j, _, _, hg, hj, hg4, hjn, _, _, _, _, _, hsm, _⟩ := there_word (allTo_get HT.out k hk) (hA.below hb (Nat.le_refl _))
      rw [hsm, hg, hj]
      exact unchanged_rc s y g j _ W hg4 hjn (hA.below hb (Nat.le_refl _)))
    clear e1 e2
    unfold arenaA at *
    go_enter Try.func15, Try.ntmps15
    go_wp2_with fail
    refine (CF.out _ HA0.out HR.out).mono ?_
    rintro e w1 ⟨rfl, hb⟩
    rw [hft]
    have b1 := Below.on b0 hb
    have R1 := hide (HR.out.below hb (Nat.le_refl _))
    have A1 := hide (HA0.out.below hb (Nat.le_refl _))
    have B1 := B.on hb
    clear hb b0 HR HA0 B CF
    obtain ⟨⟨c0, c1, c2, c3⟩, cf0, cf1, cf2, cf3⟩ := B1.four
    have hmf : ∀ (fn : Fn) (first cap : Array Value) (w : World), (Instr.makeFunc fn first cap).run Try.prog w = .ok (.func fn first cap) w := fun _ _ _ _ => rfl
    go_wp2_with fail
    refine (CH.out _ A1.out R1.out).mono ?_
    rintro e w2 ⟨rfl, hb⟩
    have b2 := Below.on b1 hb
    clear hb b1 R1 A1 CH B1 c0 c1 c2 c3 cf0 cf1 cf2 cf3 hmf
    go_wp2
    go_ret2
    exact ⟨rfl, b2⟩

set_option maxRecDepth 10000 in
set_option maxHeartbeats 1000000 in
theorem good_rc : GoodRC := by
  intro s y a n c z d w hf hA hn hc h
  have CF := hide fun w hA h => fit_any s y a n c z w hf hA hn hc h
  have CI := fun w => askUpTo_any d 254 w
  have b0 : Below w.heap.size w ((w.alloc (.cells (arenaL s).toArray 26)).alloc (.cells #[.int .i64 d] 3)) := by go_grown
  have B := (blk_new w (arenaL s) 26).alloc (.cells #[.int .i64 d] 3)
  have D := blk_new (w.alloc (.cells (arenaL s).toArray 26)) [.int .i64 d] 3
  rw [World.size_alloc] at D
  have HR := hide (h.below b0 (Nat.le_refl _))
  have HA0 := hide (hA.below b0 (Nat.le_refl _))
  clear h hA hf
  cases hft : fitR s y n z
  · obtain ⟨e1, e2⟩ := good_no (goodOk_fit (d := d) hft)
    rw [e1, e2]
    clear e1 e2 CI
    unfold arenaA at *
    go_enter Try.func13, Try.ntmps13
    go_wp2_with fail
    refine (CF.out _ HA0.out HR.out).mono ?_
    rintro e w1 ⟨rfl, hb⟩
    rw [hft]
    have b1 := Below.on b0 hb
    clear hb
    go_wp2
    go_ret2
    exact ⟨rfl, b1⟩
  · cases hd : upToV d 254
    · obtain ⟨e1, e2⟩ := good_no (goodOk_id (s := s) (y := y) (n := n) (z := z) hd)
      rw [e1, e2]
      rw [hd] at CI
      have HI := hide CI
      clear e1 e2 CI
      unfold arenaA at *
      go_enter Try.func13, Try.ntmps13
      go_wp2_with fail
      refine (CF.out _ HA0.out HR.out).mono ?_
      rintro e w1 ⟨rfl, hb⟩
      rw [hft]
      have b1 := Below.on b0 hb
      have D1 := D.on hb
      obtain ⟨e0, ef0⟩ := D1.one
      clear hb b0 HR HA0 B CF D
      go_wp2_with (go_at_call 30; refine (HI.out _).mono ?_; rintro e w' ⟨rfl, rfl⟩)
      go_ret2
      exact ⟨rfl, b1⟩
    · obtain ⟨e1, e2⟩ := good_yes (goodOk_mk hft hd)
      rw [e1, e2]
      rw [hd] at CI
      have HI := hide CI
      have HT := hide (fitR_get hft).2.2
      obtain ⟨dd0, dd1⟩ := upToV_yes hd
      have CH := hide fun w (b1 b2 : Nat) (hA : Arn w s y) (hB1 : Blk w b1 (arenaL s)) (hB2 : Blk w b2 [.int .i64 d]) h => askAll_any 32 #[] #[.pointer (some ⟨b1, 0, none⟩), .pointer (some ⟨b2, 0, none⟩)] (goodP y z d) a n c z w hn h (fun _ _ => rfl) (fun k hk W hb => by
        obtain ⟨g, j, _, _, hg, hj, hg4, hjn, _, _, _, _, _, hsm, hfr⟩ := there_word (allTo_get HT.out k hk) (hA.below hb (Nat.le_refl _))
        unfold goodP
        rw [hsm, hfr, hg, hj]
        exact goodLit_any s y g j _ d b1 b2 W hg4 hjn dd0 dd1 (hA.below hb (Nat.le_refl _)) (hB1.on hb) (hB2.on hb))
      clear e1 e2 CI
      unfold arenaA at *
      go_enter Try.func13, Try.ntmps13
      go_wp2_with fail
      refine (CF.out _ HA0.out HR.out).mono ?_
      rintro e w1 ⟨rfl, hb⟩
      rw [hft]
      have b1 := Below.on b0 hb
      have R1 := hide (HR.out.below hb (Nat.le_refl _))
      have A1 := hide (HA0.out.below hb (Nat.le_refl _))
      have B1 := hide (B.on hb)
      have D1 := hide (D.on hb)
      obtain ⟨e0, ef0⟩ := D1.out.one
      clear hb b0 HR HA0 B CF D
      have hmf : ∀ (fn : Fn) (first cap : Array Value) (w : World), (Instr.makeFunc fn first cap).run Try.prog w = .ok (.func fn first cap) w := fun _ _ _ _ => rfl
      go_wp2_with (go_at_call 30; refine (HI.out _).mono ?_; rintro e w' ⟨rfl, rfl⟩)
      refine (CH.out _ _ _ A1.out B1.out D1.out R1.out).mono ?_
      rintro e w2 ⟨rfl, hb⟩
      have b2 := Below.on b1 hb
      clear hb b1 R1 A1 CH B1 D1 e0 ef0 hmf
      go_wp2
      go_ret2
      exact ⟨rfl, b2⟩

end Go.Proofs.Ytleemagdidffpaa
