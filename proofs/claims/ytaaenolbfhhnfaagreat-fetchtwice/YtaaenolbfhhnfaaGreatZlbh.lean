/-
  Several small texts in one: GoodProg, GoodProg2, WithProg.
-/
import Derived.Test.YtaaenolbfhhnfaaGreatZlaf
import Derived.Test.YtaaenolbfhhnfaaGreatZlad
namespace Go.Proofs.YtaaenolbfhhnfaaGreat
open Go.RowKit
set_option linter.unusedSimpArgs false
set_option linter.unusedVariables false
set_option maxHeartbeats 1000000 in
/-- Is a read's word there? Of a read that may be. -/
theorem has_rc (s : Nat → Sl) (l i v : Int) (w : World) (hm : readMay l i v = true) :
    Calls Tryz.prog 178 #[arenaA s, .agg #[.int .i64 l, .int .i64 i, .int .i64 v]] w fun e w' => e = .returned (.bool (thereV s l i)) ∧ Below w.heap.size w w' := by
  obtain ⟨h1, h2, _⟩ := readMay_yes hm
  obtain ⟨l0, l1⟩ := upToV_yes h1
  obtain ⟨j0, j1⟩ := upToV_yes h2
  obtain ⟨g, rfl⟩ : ∃ g : Nat, l = g := ⟨l.toNat, by omega⟩
  have hg : g < 4 := by omega
  have i1 : (g : Int) < 4 := by omega
  have ht : thereV s (g : Int) i = decide (i < ((s g).n : Int)) := by
    unfold thereV
    rw [Int.toNat_natCast]
    exact decide_eq_decide.2 ⟨fun x => x.2.2, fun x => ⟨⟨by omega, by omega⟩, j0, x⟩⟩
  rw [ht]
  clear ht hm h1 h2
  have B1 := (blk_new w (arenaL s) 176).alloc (.cells #[.int .i64 (g : Int), .int .i64 i, .int .i64 v] 66)
  have B2 := blk_new (w.alloc (.cells (arenaL s).toArray 176)) [.int .i64 (g : Int), .int .i64 i, .int .i64 v] 66
  rw [World.size_alloc] at B2
  have b0 : Below w.heap.size w ((w.alloc (.cells (arenaL s).toArray 176)).alloc (.cells #[.int .i64 (g : Int), .int .i64 i, .int .i64 v] 66)) := by go_grown
  unfold arenaA
  go_enter Tryz.func178, Tryz.ntmps178
  go_upto_region 1 with (fail)
  change Blk ((w.alloc (.cells #[.slice (s 0).a (s 0).n (s 0).c, .slice (s 1).a (s 1).n (s 1).c, .slice (s 2).a (s 2).n (s 2).c, .slice (s 3).a (s 3).n (s 3).c] 176)).alloc (.cells #[.int .i64 (g : Int), .int .i64 i, .int .i64 v] 66)) _ _ at B1 B2
  change Below w.heap.size w ((w.alloc (.cells #[.slice (s 0).a (s 0).n (s 0).c, .slice (s 1).a (s 1).n (s 1).c, .slice (s 2).a (s 2).n (s 2).c, .slice (s 3).a (s 3).n (s 3).c] 176)).alloc (.cells #[.int .i64 (g : Int), .int .i64 i, .int .i64 v] 66)) at b0
  generalize (w.alloc (.cells #[.slice (s 0).a (s 0).n (s 0).c, .slice (s 1).a (s 1).n (s 1).c, .slice (s 2).a (s 2).n (s 2).c, .slice (s 3).a (s 3).n (s 3).c] 176)).alloc (.cells #[.int .i64 (g : Int), .int .i64 i, .int .i64 v] 66) = W at *
  have c1 := B1.cell g _ (arenaL_get s hg)
  obtain ⟨⟨d0, d1, d2⟩, f0, f1, f2⟩ := B2.three
  go_quiet (fail)
  go_wp2
  go_ret
  exact ⟨rfl, Below.drawn b0 _⟩
set_option maxHeartbeats 1000000 in
/-- A read's word. -/
theorem of_rc (s : Nat → Sl) (y : Nat → Nat → Int) (g j : Nat) (v : Int) (w : World) (hg : g < 4) (hj : j < (s g).n) (h : Arn w s y) :
    Calls Tryz.prog 155 #[arenaA s, .agg #[.int .i64 (g : Int), .int .i64 (j : Int), .int .i64 v]] w fun e w' => e = .returned (wordA (y g (j * 3)) (y g (j * 3 + 1)) (y g (j * 3 + 2))) ∧ Below w.heap.size w w' := by
  have i1 : (g : Int) < 4 := by omega
  have i2 : (j : Int) < ((s g).n : Int) := by omega
  have B1 := ((blk_new w (arenaL s) 176).alloc (.cells #[.int .i64 (g : Int), .int .i64 (j : Int), .int .i64 v] 66)).alloc (.cells #[.int .i64 0, .int .i64 0, .int .i64 0] 54)
  have B2 := (blk_new (w.alloc (.cells (arenaL s).toArray 176)) [.int .i64 (g : Int), .int .i64 (j : Int), .int .i64 v] 66).alloc (.cells #[.int .i64 0, .int .i64 0, .int .i64 0] 54)
  have B3 := blk_new ((w.alloc (.cells (arenaL s).toArray 176)).alloc (.cells #[.int .i64 (g : Int), .int .i64 (j : Int), .int .i64 v] 66)) [.int .i64 0, .int .i64 0, .int .i64 0] 54
  rw [World.size_alloc] at B2
  rw [World.size_alloc, World.size_alloc] at B3
  have b0 : Below w.heap.size w (((w.alloc (.cells (arenaL s).toArray 176)).alloc (.cells #[.int .i64 (g : Int), .int .i64 (j : Int), .int .i64 v] 66)).alloc (.cells #[.int .i64 0, .int .i64 0, .int .i64 0] 54)) := by go_grown
  unfold arenaA wordA
  go_enter Tryz.func155, Tryz.ntmps155
  go_upto_region 1 with (fail)
  change Blk (((w.alloc (.cells #[.slice (s 0).a (s 0).n (s 0).c, .slice (s 1).a (s 1).n (s 1).c, .slice (s 2).a (s 2).n (s 2).c, .slice (s 3).a (s 3).n (s 3).c] 176)).alloc (.cells #[.int .i64 (g : Int), .int .i64 (j : Int), .int .i64 v] 66)).alloc (.cells #[.int .i64 0, .int .i64 0, .int .i64 0] 54)) _ _ at B1 B2 B3
  change Below w.heap.size w (((w.alloc (.cells #[.slice (s 0).a (s 0).n (s 0).c, .slice (s 1).a (s 1).n (s 1).c, .slice (s 2).a (s 2).n (s 2).c, .slice (s 3).a (s 3).n (s 3).c] 176)).alloc (.cells #[.int .i64 (g : Int), .int .i64 (j : Int), .int .i64 v] 66)).alloc (.cells #[.int .i64 0, .int .i64 0, .int .i64 0] 54)) at b0
  generalize ((w.alloc (.cells #[.slice (s 0).a (s 0).n (s 0).c, .slice (s 1).a (s 1).n (s 1).c, .slice (s 2).a (s 2).n (s 2).c, .slice (s 3).a (s 3).n (s 3).c] 176)).alloc (.cells #[.int .i64 (g : Int), .int .i64 (j : Int), .int .i64 v] 66)).alloc (.cells #[.int .i64 0, .int .i64 0, .int .i64 0] 54) = W at *
  obtain ⟨b, off, hsa, hbl, q0, q1, q2⟩ := (h.below b0 (Nat.le_refl _) g hg).at3 j hj
  have c1 := B1.cell g _ (arenaL_get s hg)
  rw [hsa] at c1
  obtain ⟨⟨d0, d1, d2⟩, f0, f1, f2⟩ := B2.three
  obtain ⟨⟨e0, e1, e2⟩, g0, g1, g2⟩ := B3.three
  have y3 := B3.lt
  clear h hsa
  go_region
  go_wp2
  exact bodyPost_ret (v := .agg #[.int .i64 (y g (j * 3)), .int .i64 (y g (j * 3 + 1)), .int .i64 (y g (j * 3 + 2))]) (by simp [results, Tryz.results155, go_sem, e0, e1, e2, y3]) rfl ⟨rfl, by go_grown⟩
/-- A word's version, its lock. -/
theorem field_1 (x y z : Value) (W : World) : Sem.run Tryz.prog (Instr.field 54 (.agg #[x, y, z]) 1) W = .ok y W := by
  simp [Instr.field, Tryz.underlying54, asAgg, Result.andThen, go_sem]
theorem field_2 (x y z : Value) (W : World) : Sem.run Tryz.prog (Instr.field 54 (.agg #[x, y, z]) 2) W = .ok z W := by
  simp [Instr.field, Tryz.underlying54, asAgg, Result.andThen, go_sem]
set_option maxHeartbeats 1000000 in
/-- Is a read's word of that version? -/
theorem unchanged_rc (s : Nat → Sl) (y : Nat → Nat → Int) (g j : Nat) (v : Int) (w : World) (hg : g < 4) (hj : j < (s g).n) (h : Arn w s y) :
    Calls Tryz.prog 156 #[arenaA s, .agg #[.int .i64 (g : Int), .int .i64 (j : Int), .int .i64 v]] w fun e w' => e = .returned (.bool (y g (j * 3 + 1) == v)) ∧ Below w.heap.size w w' := by
  have CO := hide fun w h => of_rc s y g j v w hg hj h
  have B1 := (blk_new w (arenaL s) 176).alloc (.cells #[.int .i64 (g : Int), .int .i64 (j : Int), .int .i64 v] 66)
  have B2 := blk_new (w.alloc (.cells (arenaL s).toArray 176)) [.int .i64 (g : Int), .int .i64 (j : Int), .int .i64 v] 66
  rw [World.size_alloc] at B2
  have b0 : Below w.heap.size w ((w.alloc (.cells (arenaL s).toArray 176)).alloc (.cells #[.int .i64 (g : Int), .int .i64 (j : Int), .int .i64 v] 66)) := by go_grown
  unfold arenaA wordA at *
  go_enter Tryz.func156, Tryz.ntmps156
  go_upto_region 1 with (fail)
  change Blk ((w.alloc (.cells #[.slice (s 0).a (s 0).n (s 0).c, .slice (s 1).a (s 1).n (s 1).c, .slice (s 2).a (s 2).n (s 2).c, .slice (s 3).a (s 3).n (s 3).c] 176)).alloc (.cells #[.int .i64 (g : Int), .int .i64 (j : Int), .int .i64 v] 66)) _ _ at B1 B2
  change Below w.heap.size w ((w.alloc (.cells #[.slice (s 0).a (s 0).n (s 0).c, .slice (s 1).a (s 1).n (s 1).c, .slice (s 2).a (s 2).n (s 2).c, .slice (s 3).a (s 3).n (s 3).c] 176)).alloc (.cells #[.int .i64 (g : Int), .int .i64 (j : Int), .int .i64 v] 66)) at b0
  generalize (w.alloc (.cells #[.slice (s 0).a (s 0).n (s 0).c, .slice (s 1).a (s 1).n (s 1).c, .slice (s 2).a (s 2).n (s 2).c, .slice (s 3).a (s 3).n (s 3).c] 176)).alloc (.cells #[.int .i64 (g : Int), .int .i64 (j : Int), .int .i64 v] 66) = W at *
  obtain ⟨p0, p1, p2, p3⟩ := B1.kin4
  obtain ⟨q0, q1, q2⟩ := B2.kin3
  have HK := hide fun u : Kin W => Calls.kin_of (u := u) (CO.out u.at_ ((h.below b0 (Nat.le_refl _)).below u.below (Nat.le_refl _)))
  have kne : Nonempty (Kin W) := kin_any W
  have hf := fun W => field_1 (.int .i64 (y g (j * 3))) (.int .i64 (y g (j * 3 + 1))) (.int .i64 (y g (j * 3 + 2))) W
  clear CO h
  refine wp_region_kin (by kernel_rfl) (by kernel_rfl) ?_
  repeat (go_big_quiet_step ((go_at_call 155; exact HK.out _)))
  refine wpQuiet_nil ?_
  rintro _ ⟨u, rfl⟩
  have b3 : Below w.heap.size w u.at_ := b0.trans (u.below.mono b0.size)
  clear p0 p1 p2 p3 q0 q1 q2 HK kne B1 B2 b0 hf
  generalize u.at_ = V at *
  clear u
  go_wp2
  go_ret
  exact ⟨rfl, b3⟩
end Go.Proofs.YtaaenolbfhhnfaaGreat
namespace Go.Proofs.YtaaenolbfhhnfaaGreat
open Go.RowKit
set_option linter.unusedSimpArgs false
set_option linter.unusedVariables false
set_option maxRecDepth 10000 in
set_option maxHeartbeats 1000000 in
/-- The function that Good hands to All: is a read's word of that version, and free, or that one's? -/
theorem goodLit_any (s : Nat → Sl) (y : Nat → Nat → Int) (g j : Nat) (v d : Int) (b1 b2 : Nat) (w : World) (hg : g < 4) (hj : j < (s g).n) (d0 : 0 ≤ d) (d1 : d ≤ 254) (h : Arn w s y) (B1 : Blk w b1 (arenaL s)) (B2 : Blk w b2 [.int .i64 d]) :
    Calls Tryz.prog 154 #[.agg #[.int .i64 (g : Int), .int .i64 (j : Int), .int .i64 v], .pointer (some ⟨b1, 0, none⟩), .pointer (some ⟨b2, 0, none⟩)] w fun e w' => e = .returned (.bool ((y g (j * 3 + 1) == v) && ((y g (j * 3 + 2) == 0) || (y g (j * 3 + 2) == d + 1)))) ∧ Below w.heap.size w w' := by
  have CO := hide fun w h => of_rc s y g j v w hg hj h
  have CU := hide fun w h => unchanged_rc s y g j v w hg hj h
  have b0 : Below w.heap.size w (w.alloc (.cells #[.int .i64 (g : Int), .int .i64 (j : Int), .int .i64 v] 66)) := by go_grown
  have B3 := blk_new w [.int .i64 (g : Int), .int .i64 (j : Int), .int .i64 v] 66
  have HA := hide (h.below b0 (Nat.le_refl _))
  have hf := fun W => field_2 (.int .i64 (y g (j * 3))) (.int .i64 (y g (j * 3 + 1))) (.int .i64 (y g (j * 3 + 2))) W
  have hw : IntKind.i64.wrap (d + 1) = d + 1 := IntWalk.i64_in _ ⟨by omega, by omega⟩
  replace B1 := B1.alloc (.cells #[.int .i64 (g : Int), .int .i64 (j : Int), .int .i64 v] 66)
  replace B2 := B2.alloc (.cells #[.int .i64 (g : Int), .int .i64 (j : Int), .int .i64 v] 66)
  clear h
  unfold arenaA wordA at *
  generalize y g (j * 3 + 1) = x1, y g (j * 3 + 2) = x2, y g (j * 3) = x0 at *
  go_enter Tryz.func154, Tryz.ntmps154
  go_upto_region 1 with (fail)
  generalize w.alloc (.cells #[.int .i64 (g : Int), .int .i64 (j : Int), .int .i64 v] 66) = W at *
  obtain ⟨⟨c0, c1, c2, c3⟩, cf0, cf1, cf2, cf3⟩ := B1.four
  obtain ⟨⟨e0, e1, e2⟩, ef0, ef1, ef2⟩ := B3.three
  go_wp2_with fail
  refine (CO.out _ HA.out).mono ?_
  rintro e w1 ⟨rfl, hb⟩
  have b1' := Below.on b0 hb
  replace HA := hide (HA.out.below hb (Nat.le_refl _))
  replace B1 := B1.on hb
  replace B2 := B2.on hb
  replace B3 := B3.on hb
  clear hb b0 CO c0 c1 c2 c3 cf0 cf1 cf2 cf3 e0 e1 e2 ef0 ef1 ef2
  obtain ⟨⟨c0, c1, c2, c3⟩, cf0, cf1, cf2, cf3⟩ := B1.four
  obtain ⟨⟨e0, e1, e2⟩, ef0, ef1, ef2⟩ := B3.three
  go_wp2_with fail
  refine (CU.out _ HA.out).mono ?_
  rintro e w2 ⟨rfl, hb⟩
  have b2' := Below.on b1' hb
  replace B2 := B2.on hb
  clear hb b1' CU c0 c1 c2 c3 cf0 cf1 cf2 cf3 e0 e1 e2 ef0 ef1 ef2 B1 B3 HA hf
  obtain ⟨e0, ef0⟩ := B2.one
  cases h1 : (x1 == v)
  · go_wp2
    go_ret
    exact ⟨ret_bool (by simp [h1]), b2'⟩
  · by_cases h2 : x2 = 0
    · subst h2
      go_wp2
      go_ret
      exact ⟨ret_bool (by simp [h1]), b2'⟩
    · have h2' : (x2 == 0) = false := beq_eq_false_iff_ne.2 h2
      go_wp2
      go_ret
      exact ⟨ret_bool (by simp [h1, h2]), b2'⟩
set_option maxRecDepth 10000 in
set_option maxHeartbeats 1000000 in
theorem fit_any (s : Nat → Sl) (y : Nat → Nat → Int) (a : Option Addr) (n c : Nat) (z : Nat → Int) (w : World) (hf : Fit s) (hA : Arn w s y) (hn : n ≤ 1152921504606846976) (hc : n ≤ c) (h : Row w a (n * 3) fun i => .int .i64 (z i)) :
    Calls Tryz.prog 153 #[arenaA s, .slice a n c] w fun e w' => e = .returned (.bool (fitR s y n z)) ∧ Below w.heap.size w w' := by
  have CA := hide fun w h => may_c s y w hf h
  have CR := hide fun w h => may_rc a n c z w hn hc h
  have b0 : Below w.heap.size w (w.alloc (.cells (arenaL s).toArray 29)) := by go_grown
  have B := blk_new w (arenaL s) 29
  have HR := hide (h.below b0 (Nat.le_refl _))
  have HA0 := hide (hA.below b0 (Nat.le_refl _))
  clear h hA hf
  cases ha : amay s y
  · have HN := hide (fitR_arena (n := n) (z := z) ha)
    unfold arenaA at *
    go_enter Tryz.func153, Tryz.ntmps153
    go_wp2_with fail
    refine (CA.out _ HA0.out).mono ?_
    rintro e w1 ⟨rfl, hb⟩
    rw [ha]
    have b1 := Below.on b0 hb
    clear hb
    go_wp2
    go_ret
    exact ⟨ret_bool HN.out.symm, b1⟩
  · cases hr : readsMay n z
    · have HN := hide (fitR_reads (s := s) (y := y) hr)
      unfold arenaA at *
      go_enter Tryz.func153, Tryz.ntmps153
      go_wp2_with fail
      refine (CA.out _ HA0.out).mono ?_
      rintro e w1 ⟨rfl, hb⟩
      rw [ha]
      have b1 := Below.on b0 hb
      have R1 := hide (HR.out.below hb (Nat.le_refl _))
      clear hb b0 HR HA0 B CA
      go_wp2_with fail
      refine (CR.out _ R1.out).mono ?_
      rintro e w2 ⟨rfl, hb⟩
      rw [hr]
      have b2 := Below.on b1 hb
      clear hb b1 R1 CR
      go_wp2
      go_ret
      exact ⟨ret_bool HN.out.symm, b2⟩
    · have HL := hide (readsMay_get hr).1
      have CH := hide fun w h => askAll_any 178 #[arenaA s] #[] (thereP s z) a n c z w hn h (fun _ _ => rfl) (fun k hk W hb => has_rc s _ _ _ W (allTo_get HL.out k hk))
      have HF : Hid (fitR s y n z = allTo (thereP s z) n) := by
        show fitR s y n z = _
        rw [fitR, ha, hr]
        rfl
      unfold arenaA at *
      go_enter Tryz.func153, Tryz.ntmps153
      go_wp2_with fail
      refine (CA.out _ HA0.out).mono ?_
      rintro e w1 ⟨rfl, hb⟩
      rw [ha]
      have b1 := Below.on b0 hb
      have R1 := hide (HR.out.below hb (Nat.le_refl _))
      have B1 := B.on hb
      clear hb b0 HR HA0 B CA
      go_wp2_with fail
      refine (CR.out _ R1.out).mono ?_
      rintro e w2 ⟨rfl, hb⟩
      rw [hr]
      have b2 := Below.on b1 hb
      have R2 := hide (R1.out.below hb (Nat.le_refl _))
      have B2 := B1.on hb
      clear hb b1 R1 CR B1
      obtain ⟨⟨c0, c1, c2, c3⟩, cf0, cf1, cf2, cf3⟩ := B2.four
      have hmf : ∀ (fn : Fn) (first cap : Array Value) (w : World), (Instr.makeFunc fn first cap).run Tryz.prog w = .ok (.func fn first cap) w := fun _ _ _ _ => rfl
      go_wp2_with fail
      refine (CH.out _ R2.out).mono ?_
      rintro e w3 ⟨rfl, hb⟩
      have b3 := Below.on b2 hb
      clear hb b2 R2 CH B2 c0 c1 c2 c3 cf0 cf1 cf2 cf3 hmf
      go_wp2
      go_ret
      exact ⟨ret_bool HF.out.symm, b3⟩
set_option maxRecDepth 10000 in
set_option maxHeartbeats 1000000 in
theorem good_rc : GoodRC := by
  intro s y a n c z d w hf hA hn hc h
  have CF := hide fun w hA h => fit_any s y a n c z w hf hA hn hc h
  have CI := fun w => askUpTo_any d 254 w
  have b0 : Below w.heap.size w ((w.alloc (.cells (arenaL s).toArray 29)).alloc (.cells #[.int .i64 d] 3)) := by go_grown
  have B := (blk_new w (arenaL s) 29).alloc (.cells #[.int .i64 d] 3)
  have D := blk_new (w.alloc (.cells (arenaL s).toArray 29)) [.int .i64 d] 3
  rw [World.size_alloc] at D
  have HR := hide (h.below b0 (Nat.le_refl _))
  have HA0 := hide (hA.below b0 (Nat.le_refl _))
  clear h hA hf
  cases hft : fitR s y n z
  · obtain ⟨e1, e2⟩ := good_no (goodOk_fit (d := d) hft)
    rw [e1, e2]
    clear e1 e2 CI
    unfold arenaA at *
    go_enter Tryz.func88, Tryz.ntmps88
    go_wp2_with fail
    refine (CF.out _ HA0.out HR.out).mono ?_
    rintro e w1 ⟨rfl, hb⟩
    rw [hft]
    have b1 := Below.on b0 hb
    clear hb
    go_wp2
    go_ret2
    exact ⟨rfl, b1⟩
  · cases hd : upToV d 254
    · obtain ⟨e1, e2⟩ := good_no (goodOk_id (s := s) (y := y) (n := n) (z := z) hd)
      rw [e1, e2]
      rw [hd] at CI
      have HI := hide CI
      clear e1 e2 CI
      unfold arenaA at *
      go_enter Tryz.func88, Tryz.ntmps88
      go_wp2_with fail
      refine (CF.out _ HA0.out HR.out).mono ?_
      rintro e w1 ⟨rfl, hb⟩
      rw [hft]
      have b1 := Below.on b0 hb
      have D1 := D.on hb
      obtain ⟨e0, ef0⟩ := D1.one
      clear hb b0 HR HA0 B CF D
      go_wp2_with (go_at_call 47; refine (HI.out _).mono ?_; rintro e w' ⟨rfl, rfl⟩)
      go_ret2
      exact ⟨rfl, b1⟩
    · obtain ⟨e1, e2⟩ := good_yes (goodOk_mk hft hd)
      rw [e1, e2]
      rw [hd] at CI
      have HI := hide CI
      have HT := hide (fitR_get hft).2.2
      obtain ⟨dd0, dd1⟩ := upToV_yes hd
      have CH := hide fun w (b1 b2 : Nat) (hA : Arn w s y) (hB1 : Blk w b1 (arenaL s)) (hB2 : Blk w b2 [.int .i64 d]) h => askAll_any 154 #[] #[.pointer (some ⟨b1, 0, none⟩), .pointer (some ⟨b2, 0, none⟩)] (goodP y z d) a n c z w hn h (fun _ _ => rfl) (fun k hk W hb => by
        obtain ⟨g, j, _, _, hg, hj, hg4, hjn, _, _, _, _, _, hsm, hfr⟩ := there_word (allTo_get HT.out k hk) (hA.below hb (Nat.le_refl _))
        unfold goodP
        rw [hsm, hfr, hg, hj]
        exact goodLit_any s y g j _ d b1 b2 W hg4 hjn dd0 dd1 (hA.below hb (Nat.le_refl _)) (hB1.on hb) (hB2.on hb))
      clear e1 e2 CI
      unfold arenaA at *
      go_enter Tryz.func88, Tryz.ntmps88
      go_wp2_with fail
      refine (CF.out _ HA0.out HR.out).mono ?_
      rintro e w1 ⟨rfl, hb⟩
      rw [hft]
      have b1 := Below.on b0 hb
      have R1 := hide (HR.out.below hb (Nat.le_refl _))
      have A1 := hide (HA0.out.below hb (Nat.le_refl _))
      have B1 := hide (B.on hb)
      have D1 := hide (D.on hb)
      obtain ⟨e0, ef0⟩ := D1.out.one
      clear hb b0 HR HA0 B CF D
      have hmf : ∀ (fn : Fn) (first cap : Array Value) (w : World), (Instr.makeFunc fn first cap).run Tryz.prog w = .ok (.func fn first cap) w := fun _ _ _ _ => rfl
      go_wp2_with (go_at_call 47; refine (HI.out _).mono ?_; rintro e w' ⟨rfl, rfl⟩)
      refine (CH.out _ _ _ A1.out B1.out D1.out R1.out).mono ?_
      rintro e w2 ⟨rfl, hb⟩
      have b2 := Below.on b1 hb
      clear hb b1 R1 A1 CH B1 D1 e0 ef0 hmf
      go_wp2
      go_ret2
      exact ⟨rfl, b2⟩
end Go.Proofs.YtaaenolbfhhnfaaGreat
namespace Go.Proofs.YtaaenolbfhhnfaaGreat
open Go.RowKit
set_option linter.unusedSimpArgs false
set_option linter.unusedVariables false
set_option maxRecDepth 10000 in
set_option maxHeartbeats 4000000 in
theorem with_rc : WithRC := by
  intro a n c z l i v w hn hc ha h
  obtain ⟨i0, hi, hz0, hz1, hz2⟩ := info_parts Tryz.infoRead
  have CR := hide fun w h => may_rc a n c z w hn hc h
  have C1 := hide fun w => mayAlone_any l i v w
  have CN := hide fun w h => names_any a n c z l i v w hn h
  have b0 : Below w.heap.size w (w.alloc (.cells #[.int .i64 l, .int .i64 i, .int .i64 v] 66)) := by go_grown
  have B := blk_new w [.int .i64 l, .int .i64 i, .int .i64 v] 66
  have HR := hide (h.below b0 (Nat.le_refl _))
  clear h
  unfold wordA
  go_enter Tryz.func90, Tryz.ntmps90
  go_wp2_with fail
  refine (CR.out _ HR.out).mono ?_
  rintro e w1 ⟨rfl, hb⟩
  have b1 := Below.on b0 hb
  have R1 := hide (HR.out.below hb (Nat.le_refl _))
  have B1 := B.on hb
  clear hb b0 HR B CR
  cases hr : readsMay n z
  · have HN := hide (withOk_reads (l := l) (i := i) (v := v) hr)
    clear B1
    go_wp2
    go_ret2
    exact with_no HN.out b1
  · obtain ⟨⟨c0, c1, c2⟩, f0, f1, f2⟩ := B1.three
    have bl := B1.lt
    go_wp2_with fail
    refine (C1.out _).mono ?_
    rintro e w2 ⟨rfl, hb⟩
    have b2 := Below.on b1 hb
    have R2 := hide (R1.out.below hb (Nat.le_refl _))
    have B2 := B1.on hb
    have s2 := b2.size
    have s1 := b1.size
    clear hb b1 R1 B1 C1 c0 c1 c2 f0 f1 f2
    cases hm : readMay l i v
    · have HN := hide (withOk_read (n := n) (z := z) hm)
      clear B2
      go_wp2
      go_ret2
      exact with_no HN.out b2
    · have HOK := hide (withOk_mk hr hm)
      have n16 := (readsMay_get hr).2.2
      have hown : w2.ownsRow w.heap.size 66 3 (.slice none 0 0) 0 [] := World.ownsRow_nil _ _ _ _
      have HO := hide hown
      have HA := hide ha
      clear hown hr hm ha
      go_wp2_with (at_builtin; refine wpList_append_row rfl (.const (.slice none 0 0)) (.tmp 15) 56 rfl w.heap.size 66 i0 (.agg #[.int .i64 0, .int .i64 0, .int .i64 0]) 3 24 Tryz.underlying56 hi hz0 hz1 hz2 rfl (by decide) _ _ _ rfl (unhide HO) a n c (fun i => .int .i64 (z i)) rfl (unhide HA) (unhide R2) (fun _ => rfl) ?_ ?_ ?_ ?_)
      · unfold maxLen; omega
      · omega
      · omega
      · intro v' w3 hown' hg
        have bw : Below w2.heap.size w2 w3 := (Below.refl w2.heap.size w2).grown hg (Nat.le_refl _) (by intro j hj; simp [Value.ownBlock] at hj)
        have hown2 : w3.ownsRow w.heap.size 66 3 v' n (rowL (intF z) (n * 3)) := by
          first | exact hown' | (rw [Nat.zero_add, List.nil_append] at hown'; exact hown')
        obtain ⟨xa, xc, rfl, _⟩ := slice_of_owns hown2
        have HO2 := hide hown2
        have R3 := hide (R2.out.below bw (Nat.le_refl _))
        have B3 := B2.on bw
        have b3 := Below.on b2 bw
        clear hown' hg hown2 HO R2 bw B2 b2
        obtain ⟨⟨c0, c1, c2⟩, f0, f1, f2⟩ := B3.three
        have bl3 := B3.lt
        go_wp2_with fail
        refine (CN.out _ R3.out).mono ?_
        rintro e w4 ⟨rfl, hb⟩
        have b4 := Below.on b3 hb
        have HO4 := hide (owns_on HO2.out hb)
        have B4 := B3.on hb
        have s4 := b4.size
        clear hb b3 HO2 R3 B3 CN c0 c1 c2 f0 f1 f2 bl3
        cases hnn : noneTo z l i n
        · have HN := hide hnn
          have i6 : ¬ (16 : Int) < (n : Int) := by omega
          clear hnn B4
          go_wp2
          go_ret2
          obtain ⟨_, _, e, hc', hny, _, ho⟩ := slice_of_owns HO4.out
          simp only [Value.slice.injEq, true_and] at e
          obtain ⟨rfl, rfl⟩ := e
          exact with_old (by rw [HOK.out, HN.out]; rfl) HN.out b4 hc' hny ho
        · have HN := hide hnn
          obtain ⟨⟨c0, c1, c2⟩, f0, f1, f2⟩ := B4.three
          have bl4 := B4.lt
          have HO5 := hide (HO4.out.alloc (.cells #[.int .i64 l, .int .i64 i, .int .i64 v] 66))
          have HE := hide (owns_block HO4.out)
          have HNW := hide (World.news_of_block (cs := #[.int .i64 l, .int .i64 i, .int .i64 v]) (t := 66) (fr := (0, 0)) (heap_alloc_new w4 (.cells #[.int .i64 l, .int .i64 i, .int .i64 v] 66)))
          clear hnn HO4
          go_wp2_with (at_builtin; refine wpList_append_own _ rfl (.tmp 21) (.tmp 23) 56 rfl w.heap.size 66 i0 (.agg #[.int .i64 0, .int .i64 0, .int .i64 0]) 3 24 Tryz.underlying56 hi hz0 hz1 hz2 rfl (by decide) _ _ _ rfl (unhide HO5) ⟨w4.heap.size, 0, none⟩ 1 1 [.int .i64 l, .int .i64 i, .int .i64 v] rfl rfl (unhide HNW) ?_ ?_ ?_ ?_ ?_)
          · simp [Value.oneCell']
          · unfold maxLen; omega
          · omega
          · first | omega | (simp only [World.size_alloc]; omega)
          · intro v' w5 hown1 hgrow _
            have b5 : Below w.heap.size w w5 := (b4.alloc s4 _).grown hgrow (by simp only [World.size_alloc]; omega) HE.out
            rw [putR_row] at hown1
            obtain ⟨ya, yc, rfl, hyc, _, _, ho⟩ := slice_of_owns hown1
            have HO6 := hide ho
            clear hown1 hgrow HO5 HNW HE b4 ho B4 c0 c1 c2 f0 f1 f2
            by_cases h16 : n + 1 ≤ 16
            · have i6 : ¬ (16 : Int) < (n : Int) + 1 := by omega
              go_wp2
              go_ret2
              exact with_new (by rw [HOK.out, HN.out, decide_eq_true h16]; rfl) HN.out b5 hyc HO6.out
            · have i6 : (16 : Int) < (n : Int) + 1 := by omega
              go_wp2
              go_ret2
              exact with_no (by rw [HOK.out, HN.out, decide_eq_false h16]; rfl) b5
end Go.Proofs.YtaaenolbfhhnfaaGreat
