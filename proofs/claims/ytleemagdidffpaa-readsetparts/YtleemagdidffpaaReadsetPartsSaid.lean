/-
  The law ReadsetParts, if package readset's functions keep their statements.
-/
import Derived.Test.YtleemagdidffpaaReadsAwake
import Derived.Test.YtleemagdidffpaaPlain
import Derived.Deep.Cut
namespace Go.Proofs.Ytleemagdidffpaa
open Go.RowKit
set_option linter.unusedSimpArgs false
set_option linter.unusedVariables false

/-- Where a slice begins that leaves out the first m. -/
def fromA (a : Option Addr) (c m : Nat) : Option Addr := if c = m then a else a.map (·.add (m * 3))
theorem run_from3 (a : Option Addr) (n c m : Nat) (hm : m ≤ n) (W : World) : Sem.run Try.prog (Instr.slice 22 (.slice a n c) (some (.int .i64 (m : Int))) none none) W = .ok (.slice (fromA a c m) (n - m) (c - m)) W := by
  rw [run_slice_l W 22 a n c (by kernel_rfl) .i64 (m : Int) (by omega) (by omega)]
  rw [Int.toNat_natCast]
  rfl
theorem row_from3 {w : World} {a : Option Addr} {n c m : Nat} {z : Nat → Int} (h : Row w a (n * 3) fun i => .int .i64 (z i)) (hm : m ≤ n) (hc : n ≤ c) : Row w (fromA a c m) ((n - m) * 3) fun i => .int .i64 (fromR z m i) := by
  intro i hi
  obtain ⟨b, off, rfl, hb, hcell⟩ := h (m * 3 + i) (by omega)
  refine ⟨b, off + m * 3, ?_, hb, ?_⟩
  · unfold fromA
    rw [if_neg (by omega), Option.map_some, Go.WideShapes.add_plain]
  · rw [Nat.add_assoc]; exact hcell
theorem run_upto3 (a : Option Addr) (n c m : Nat) (hm : m ≤ c) (W : World) : Sem.run Try.prog (Instr.slice 22 (.slice a n c) none (some (.int .i64 (m : Int))) none) W = .ok (.slice a m c) W := by
  rw [run_slice_h W 22 a n c (by kernel_rfl) .i64 (m : Int) (by omega) (by omega), Int.toNat_natCast]
  have e : Sem.run Try.prog (Go.sizeOf (Try.prog.elem 22)) W = .ok 3 W := by rfl
  rw [e]
  have e0 : ∀ x : Addr, x.add 0 = x := fun x => by
    obtain ⟨b, o, p⟩ := x
    simp [Addr.add]
  cases a <;> simp [Result.andThen, sliced, e0]

set_option maxRecDepth 100000 in
set_option maxHeartbeats 4000000 in
theorem readsetParts_said (hM : MayRC) (hW : WithRC) (hG : GoodRC) (hC : ChgRC) (s : Nat → Sl) (y : Nat → Nat → Int) (a : Option Addr) (n c : Nat) (z : Nat → Int) (d x : Int) (w : World) (hf : Fit s) (hA : Arn w s y) (hn : n * 24 ≤ 140737488351232) (hc : n ≤ c) (h : Row w a (n * 3) fun i => .int .i64 (z i)) :
    Calls Try.prog 8 #[arenaA s, .slice a n c, .int .i64 d, .int .i64 x] w fun e w' => e = .returned (.bool true) ∧ Below w.heap.size w w' := by
  have C0 := hide fun w => awake9_any hM hW hG hC w
  have CG := hide fun w hA h => hG s y a n c z d w hf hA (by omega) hc h
  have b0 : Below w.heap.size w (w.alloc (.cells (arenaL s).toArray 26)) := by go_grown
  have B := blk_new w (arenaL s) 26
  have HR := hide (h.below b0 (Nat.le_refl _))
  have HA := hide (hA.below b0 (Nat.le_refl _))
  clear h hA
  unfold arenaA at *
  cases hok : goodOk s y n z d
  · simp only [(good_no hok).1, (good_no hok).2] at CG
    clear hM hW hG hC hok
    go_enter Try.func8, Try.ntmps8
    go_wp2_with fail
    refine (C0.out _).mono ?_
    rintro e w1 ⟨rfl, hb⟩
    have b1 := Below.on b0 hb
    replace HR := hide (HR.out.below hb (Nat.le_refl _))
    replace HA := hide (HA.out.below hb (Nat.le_refl _))
    replace B := B.on hb
    clear hb b0 C0
    obtain ⟨⟨c0, c1, c2, c3⟩, cf0, cf1, cf2, cf3⟩ := B.four
    go_wp2_with fail
    refine (CG.out _ HA.out HR.out).mono ?_
    rintro e w2 ⟨rfl, hb⟩
    have b2 := Below.on b1 hb
    clear hb b1 CG HR HA B c0 c1 c2 c3 cf0 cf1 cf2 cf3
    go_wp2_with (go_at_call 18; refine (num_any _ _).mono ?_; rintro e w' ⟨rfl, rfl⟩)
    go_ret
    exact ⟨rfl, b2⟩
  · obtain ⟨m, hm, hpick⟩ := pick_at x ((n : Int) + 1) (by omega) (by omega)
    have hmn : m ≤ n := by omega
    obtain ⟨o1, o2, eg, es⟩ := good_parts hok hmn
    have CG1 := hide fun w hA h => hG s y a m c z d w hf hA (by omega) (by omega) h
    have CG2 := hide fun w hA h => hG s y (fromA a c m) (n - m) (c - m) (fromR z m) d w hf hA (by omega) (by omega) h
    have CC := hide fun w hA h => hC s y a n c z w hf hA (by omega) hc h
    have CC1 := hide fun w hA h => hC s y a m c z w hf hA (by omega) (by omega) h
    have CC2 := hide fun w hA h => hC s y (fromA a c m) (n - m) (c - m) (fromR z m) w hf hA (by omega) (by omega) h
    simp only [(good_yes hok).1, (good_yes hok).2, eg] at CG
    simp only [(good_yes o1).1, (good_yes o1).2] at CG1
    simp only [(good_yes o2).1, (good_yes o2).2] at CG2
    simp only [(chg_yes (goodOk_get hok).1).1, (chg_yes (goodOk_get hok).1).2, es] at CC
    simp only [(chg_yes (goodOk_get o1).1).1, (chg_yes (goodOk_get o1).1).2] at CC1
    simp only [(chg_yes (goodOk_get o2).1).1, (chg_yes (goodOk_get o2).1).2] at CC2
    have HF : Hid (∀ w : World, (Row w a (n * 3) fun i => .int .i64 (z i)) → Row w (fromA a c m) ((n - m) * 3) fun i => .int .i64 (fromR z m i)) := fun w h => row_from3 h hmn hc
    have hs1 := fun W => run_upto3 a n c m (by omega) W
    have hs2 := fun W => run_from3 a n c m hmn W
    clear hM hW hG hC hok o1 o2 eg es
    unfold arenaA at *
    generalize allTo (goodP y z d) m = g1, allTo (sameP y z) m = q1 at *
    generalize allTo (goodP y (fromR z m) d) (n - m) = g2, allTo (sameP y (fromR z m)) (n - m) = q2 at *
    generalize fromA a c m = a', n - m = n', c - m = c', fromR z m = z' at *
    go_enter Try.func8, Try.ntmps8
    go_wp2_with fail
    refine (C0.out _).mono ?_
    rintro e w1 ⟨rfl, hb⟩
    have b1 := Below.on b0 hb
    replace HR := hide (HR.out.below hb (Nat.le_refl _))
    replace HA := hide (HA.out.below hb (Nat.le_refl _))
    replace B := B.on hb
    clear hb b0 C0
    obtain ⟨⟨c0, c1, c2, c3⟩, cf0, cf1, cf2, cf3⟩ := B.four
    go_wp2_with fail
    refine (CG.out _ HA.out HR.out).mono ?_
    rintro e w2 ⟨rfl, hb⟩
    have b2 := Below.on b1 hb
    replace HR := hide (HR.out.below hb (Nat.le_refl _))
    replace HA := hide (HA.out.below hb (Nat.le_refl _))
    replace B := B.on hb
    clear hb b1 CG c0 c1 c2 c3 cf0 cf1 cf2 cf3
    go_upto_region 7 with (go_at_call 18; refine (num_any _ _).mono ?_; rintro e w' ⟨rfl, rfl⟩)
    obtain ⟨p0, p1, p2, p3⟩ := B.kin4
    have K1 := hide fun u : Kin w2 => Calls.kin_of (u := u) (CG1.out _ (HA.out.below u.below (Nat.le_refl _)) ((HR.out.below u.below (Nat.le_refl _)).less (by omega)))
    have kne : Nonempty (Kin w2) := kin_any w2
    refine wp_region_kin (by kernel_rfl) (by kernel_rfl) ?_
    repeat (go_big_quiet_step ((go_at_call 13; exact K1.out _)))
    refine wpQuiet_nil ?_
    rintro _ ⟨u, rfl⟩
    have b3 : Below w.heap.size w u.at_ := b2.trans (u.below.mono b2.size)
    replace HR := hide (HR.out.below u.below (Nat.le_refl _))
    replace HA := hide (HA.out.below u.below (Nat.le_refl _))
    replace B := B.kin u
    clear p0 p1 p2 p3 K1 kne b2 CG1
    generalize u.at_ = w3 at *
    clear u
    go_upto_region 8 with (fail)
    obtain ⟨p0, p1, p2, p3⟩ := B.kin4
    have K1 := hide fun u : Kin w3 => Calls.kin_of (u := u) (CG2.out _ (HA.out.below u.below (Nat.le_refl _)) (HF.out _ (HR.out.below u.below (Nat.le_refl _))))
    have kne : Nonempty (Kin w3) := kin_any w3
    refine wp_region_kin (by kernel_rfl) (by kernel_rfl) ?_
    repeat (go_big_quiet_step ((go_at_call 13; exact K1.out _)))
    refine wpQuiet_nil ?_
    rintro _ ⟨u, rfl⟩
    have b4 : Below w.heap.size w u.at_ := b3.trans (u.below.mono b3.size)
    replace HR := hide (HR.out.below u.below (Nat.le_refl _))
    replace HA := hide (HA.out.below u.below (Nat.le_refl _))
    replace B := B.kin u
    clear p0 p1 p2 p3 K1 kne b3 CG2
    generalize u.at_ = w4 at *
    clear u
    obtain ⟨⟨c0, c1, c2, c3⟩, cf0, cf1, cf2, cf3⟩ := B.four
    go_wp2_with fail
    refine (CC.out _ HA.out HR.out).mono ?_
    rintro e w5 ⟨rfl, hb⟩
    have b5 := Below.on b4 hb
    replace HR := hide (HR.out.below hb (Nat.le_refl _))
    replace HA := hide (HA.out.below hb (Nat.le_refl _))
    replace B := B.on hb
    clear hb b4 CC c0 c1 c2 c3 cf0 cf1 cf2 cf3
    go_upto_region 10 with (fail)
    obtain ⟨p0, p1, p2, p3⟩ := B.kin4
    have K1 := hide fun u : Kin w5 => Calls.kin_of (u := u) (CC1.out _ (HA.out.below u.below (Nat.le_refl _)) ((HR.out.below u.below (Nat.le_refl _)).less (by omega)))
    have kne : Nonempty (Kin w5) := kin_any w5
    refine wp_region_kin (by kernel_rfl) (by kernel_rfl) ?_
    repeat (go_big_quiet_step ((go_at_call 15; exact K1.out _)))
    refine wpQuiet_nil ?_
    rintro _ ⟨u, rfl⟩
    have b6 : Below w.heap.size w u.at_ := b5.trans (u.below.mono b5.size)
    replace HR := hide (HR.out.below u.below (Nat.le_refl _))
    replace HA := hide (HA.out.below u.below (Nat.le_refl _))
    replace B := B.kin u
    clear p0 p1 p2 p3 K1 kne b5 CC1
    generalize u.at_ = w6 at *
    clear u
    go_upto_region 11 with (fail)
    obtain ⟨p0, p1, p2, p3⟩ := B.kin4
    have K1 := hide fun u : Kin w6 => Calls.kin_of (u := u) (CC2.out _ (HA.out.below u.below (Nat.le_refl _)) (HF.out _ (HR.out.below u.below (Nat.le_refl _))))
    have kne : Nonempty (Kin w6) := kin_any w6
    refine wp_region_kin (by kernel_rfl) (by kernel_rfl) ?_
    repeat (go_big_quiet_step ((go_at_call 15; exact K1.out _)))
    refine wpQuiet_nil ?_
    rintro _ ⟨u, rfl⟩
    have b7 : Below w.heap.size w u.at_ := b6.trans (u.below.mono b6.size)
    replace HR := hide (HR.out.below u.below (Nat.le_refl _))
    replace HA := hide (HA.out.below u.below (Nat.le_refl _))
    replace B := B.kin u
    clear p0 p1 p2 p3 K1 kne b6 CC2
    generalize u.at_ = w7 at *
    clear u
    clear HR HA B HF hs1 hs2 hpick
    cases g1 <;> cases g2 <;> cases q1 <;> cases q2
    all_goals
      go_wp2_with (go_at_call 18; refine (num_any _ _).mono ?_; rintro e w' ⟨rfl, rfl⟩)
      go_ret
      exact ⟨rfl, b7⟩

end Go.Proofs.Ytleemagdidffpaa
