/-
  The law WritesetRows, if package writeset's functions keep their statements.
-/
import Derived.Test.YtjnolmpalfjacaaWritesAwake
import Derived.Test.YtjnolmpalfjacaaPlain
namespace Go.Proofs.Ytjnolmpalfjacaa
open Go.RowKit
set_option linter.unusedSimpArgs false
set_option linter.unusedVariables false

section
variable {n : Nat} {z : Nat → Int} {l i v l' i' v' : Int}
theorem withWN_yes (h : withWOk n z l i v = true) : withWN n z l i v = posW n z l i + 1 + (n - toW n z l i) := by unfold withWN; rw [h]; rfl
theorem withWE_yes (h : withWOk n z l i v = true) : withWE n z l i v = 0 := by unfold withWE; rw [h]; rfl
theorem withWE_no (h : withWOk n z l i v = false) : withWE n z l i v = 1000 := by unfold withWE; rw [h]; rfl
/-- With one more they may be, and hold it and all of other words. -/
theorem with_wr (h : withWOk n z l i v = true) : Wr (withWN n z l i v) (withWZ n z l i v) := by
  rw [withWN_yes h]
  exact (writesMay_get (withWOk_get h).1).ins (withWOk_get h).2
theorem with_in (h : withWOk n z l i v = true) (x y u : Int) : InW (withWN n z l i v) (withWZ n z l i v) x y u ↔ (x = l ∧ y = i ∧ u = v) ∨ (¬ (x = l ∧ y = i) ∧ InW n z x y u) := by
  rw [withWN_yes h]
  exact ins_in (writesMay_get (withWOk_get h).1) (withWOk_get h).2 x y u
/-- One more of a word that is there makes no more. -/
theorem with_same_n (h : withWOk n z l i v = true) (h' : hasW n z l i = true) : withWN n z l i v = n := by
  rw [withWN_yes h]
  have := (writesMay_get (withWOk_get h).1).has h'
  unfold toW
  rw [h', cond_true]
  omega
end

set_option maxRecDepth 10000 in
set_option maxHeartbeats 4000000 in
theorem writesetRows_said (hM : MayWC) (hW : WithWC) (hF : FindWC) (hA : AtWC) (a : Option Addr) (n c : Nat) (z : Nat → Int) (p q : Int) (w : World) (hn : n * 24 ≤ 140737488351232) (hc : n ≤ c) (ha : a = none → n = 0 ∧ c = 0) (h : Row w a (n * 3) fun i => .int .i64 (z i)) :
    Calls Try.prog 7 #[.slice a n c, .int .i64 p, .int .i64 q] w fun e w' => e = .returned (.bool true) ∧ Below w.heap.size w w' := by
  have C0 := hide fun w => awake10_any hM hW hF hA w
  obtain ⟨X0, hX0, x0⟩ : ∃ X, bits .and .i64 p 3 = X ∧ 0 ≤ X ∧ X ≤ 3 := ⟨_, rfl, by rw [mask3]; omega, by rw [mask3]; omega⟩
  obtain ⟨X1, hX1, x1⟩ : ∃ X, bits .and .i64 (p / 4) 3 = X ∧ 0 ≤ X ∧ X ≤ 3 := ⟨_, rfl, by rw [mask3]; omega, by rw [mask3]; omega⟩
  obtain ⟨Y0, hY0, y0⟩ : ∃ X, bits .and .i64 q 3 = X ∧ 0 ≤ X ∧ X ≤ 3 := ⟨_, rfl, by rw [mask3]; omega, by rw [mask3]; omega⟩
  obtain ⟨Y1, hY1, y1⟩ : ∃ X, bits .and .i64 (q / 4) 3 = X ∧ 0 ≤ X ∧ X ≤ 3 := ⟨_, rfl, by rw [mask3]; omega, by rw [mask3]; omega⟩
  have mx : writeMay X0 X1 7 = true := writeMay_of ⟨x0, x1, by omega, by omega⟩
  have my : writeMay Y0 Y1 9 = true := writeMay_of ⟨y0, y1, by omega, by omega⟩
  have CM := hide fun w h => hM a n c z w (by omega) hc h
  have W1 := hide fun w h => (hW a n c z X0 X1 7 w (by omega) hc ha h).mono fun _ _ h => withW_any h
  have W3 := hide fun w h => (hW a n c z Y0 Y1 9 w (by omega) hc ha h).mono fun _ _ h => withW_any h
  have n1 : withWN n z X0 X1 7 ≤ 16 := by
    cases e : withWOk n z X0 X1 7
    · unfold withWN; rw [e]; exact Nat.zero_le _
    · exact (with_wr e).few
  have n3 : withWN n z Y0 Y1 9 ≤ 16 := by
    cases e : withWOk n z Y0 Y1 9
    · unfold withWN; rw [e]; exact Nat.zero_le _
    · exact (with_wr e).few
  have W2 := hide fun a' c' w hc' ha' h => (hW a' (withWN n z X0 X1 7) c' (withWZ n z X0 X1 7) Y0 Y1 9 w (by omega) hc' ha' h).mono fun _ _ h => withW_any h
  have W4 := hide fun a' c' w hc' ha' h => (hW a' (withWN n z Y0 Y1 9) c' (withWZ n z Y0 Y1 9) X0 X1 7 w (by omega) hc' ha' h).mono fun _ _ h => withW_any h
  have HH := hide h
  clear h
  -- what they answer
  cases hr : writesMay n z
  · rw [withWE_no (withWOk_writes hr)] at W1
    rw [hr] at CM
    clear mx my hr n1 n3
    generalize withWN n z X0 X1 7 = N1, withWZ n z X0 X1 7 = Z1 at *
    generalize withWN n z Y0 Y1 9 = N3, withWZ n z Y0 Y1 9 = Z3, withWE n z Y0 Y1 9 = E3 at *
    generalize withWN N1 Z1 Y0 Y1 9 = N2, withWZ N1 Z1 Y0 Y1 9 = Z2, withWE N1 Z1 Y0 Y1 9 = E2 at *
    generalize withWN N3 Z3 X0 X1 7 = N4, withWZ N3 Z3 X0 X1 7 = Z4, withWE N3 Z3 X0 X1 7 = E4 at *
    go_enter Try.func7, Try.ntmps7
    go_wp2_with fail
    refine (C0.out _).mono ?_
    rintro e w1 ⟨rfl, b1⟩
    clear C0
    have b2 : Below w.heap.size w ((w1.alloc (.cells #[.int .i64 X0, .int .i64 X1, .int .i64 7] 24)).alloc (.cells #[.int .i64 Y0, .int .i64 Y1, .int .i64 9] 24)) := by have := b1.size; go_grown
    have P := (blk_new w1 [.int .i64 X0, .int .i64 X1, .int .i64 7] 24).alloc (.cells #[.int .i64 Y0, .int .i64 Y1, .int .i64 9] 24)
    have Q := blk_new (w1.alloc (.cells #[.int .i64 X0, .int .i64 X1, .int .i64 7] 24)) [.int .i64 Y0, .int .i64 Y1, .int .i64 9] 24
    rw [World.size_alloc] at Q
    go_wp2_with fail
    change Blk ((w1.alloc (.cells #[.int .i64 X0, .int .i64 X1, .int .i64 7] 24)).alloc (.cells #[.int .i64 Y0, .int .i64 Y1, .int .i64 9] 24)) _ _ at P Q
    generalize (w1.alloc (.cells #[.int .i64 X0, .int .i64 X1, .int .i64 7] 24)).alloc (.cells #[.int .i64 Y0, .int .i64 Y1, .int .i64 9] 24) = w2 at *
    refine (W1.out _ (HH.out.below b2 (Nat.le_refl _))).mono ?_
    rintro e w3 ⟨a1, c1, rfl, hc1, ha1, R1, _, hb⟩
    have b3 := Below.on b2 hb
    replace P := P.on hb
    replace Q := Q.on hb
    have HX1 := hide (And.intro hc1 ha1)
    have HR1 := hide R1
    clear hb b2 W1 hc1 ha1 R1 b1 hX0 hX1 hY0 hY1
    obtain ⟨⟨d0, d1, d2⟩, f0, f1, f2⟩ := Q.three
    go_wp2_with fail
    refine (W2.out _ _ _ HX1.out.1 HX1.out.2 HR1.out).mono ?_
    rintro e w4 ⟨a2, c2, rfl, hc2, ha2, R2, _, hb⟩
    have b4 := Below.on b3 hb
    replace P := P.on hb
    replace Q := Q.on hb
    have HX2 := hide (And.intro hc2 ha2)
    have HR2 := hide R2
    clear hb b3 W2 hc2 ha2 R2 HX1 HR1 d0 d1 d2 f0 f1 f2
    obtain ⟨⟨d0, d1, d2⟩, f0, f1, f2⟩ := Q.three
    go_wp2_with fail
    refine (W3.out _ (HH.out.below b4 (Nat.le_refl _))).mono ?_
    rintro e w5 ⟨a3, c3, rfl, hc3, ha3, R3, _, hb⟩
    have b5 := Below.on b4 hb
    replace P := P.on hb
    replace Q := Q.on hb
    replace HR2 := hide (HR2.out.below hb (Nat.le_refl _))
    have HX3 := hide (And.intro hc3 ha3)
    have HR3 := hide R3
    clear hb b4 W3 hc3 ha3 R3 d0 d1 d2 f0 f1 f2
    obtain ⟨⟨d0, d1, d2⟩, f0, f1, f2⟩ := P.three
    go_wp2_with fail
    refine (W4.out _ _ _ HX3.out.1 HX3.out.2 HR3.out).mono ?_
    rintro e w6 ⟨a4, c4, rfl, hc4, ha4, R4, _, hb⟩
    have b6 := Below.on b5 hb
    replace P := P.on hb
    replace Q := Q.on hb
    replace HR2 := hide (HR2.out.below hb (Nat.le_refl _))
    have HR4 := hide R4
    clear hb b5 W4 hc4 ha4 R4 d0 d1 d2 f0 f1 f2 HX3 HR3
    clear P Q HR2 HR4 HX2
    go_wp2_with (go_at_call 14; refine (num_any _ _).mono ?_; rintro e w' ⟨rfl, rfl⟩)
    refine (CM.out _ (HH.out.below b6 (Nat.le_refl _))).mono ?_
    rintro e w7 ⟨rfl, hb⟩
    have b7 := Below.on b6 hb
    clear hb b6 CM HH
    go_wp2
    go_ret
    exact ⟨rfl, b7⟩
  · have ok1 := withWOk_mk hr mx
    have ok3 := withWOk_mk hr my
    have ok2 : withWOk (withWN n z X0 X1 7) (withWZ n z X0 X1 7) Y0 Y1 9 = true := withWOk_mk (with_wr ok1).may my
    have ok4 : withWOk (withWN n z Y0 Y1 9) (withWZ n z Y0 Y1 9) X0 X1 7 = true := withWOk_mk (with_wr ok3).may mx
    have in1 := with_in ok1
    have in2 := with_in ok2
    have in3 := with_in ok3
    have in4 := with_in ok4
    have r2 := with_wr ok2
    have r4 := with_wr ok4
    rw [withWE_yes ok1] at W1
    rw [withWE_yes ok2] at W2
    rw [withWE_yes ok3] at W3
    rw [withWE_yes ok4] at W4
    by_cases hxy : X0 = Y0 ∧ X1 = Y1
    · have hn2 : withWN (withWN n z X0 X1 7) (withWZ n z X0 X1 7) Y0 Y1 9 = withWN n z X0 X1 7 := with_same_n ok2 (InW.has (v := 7) ((in1 Y0 Y1 7).2 (.inl ⟨hxy.1.symm, hxy.2.symm, rfl⟩)))
      have hf := find_in r2 ((in2 X0 X1 9).2 (.inl ⟨hxy.1, hxy.2, rfl⟩))
      have n2 := r2.few
      have CF := hide fun a' c' w hc' ha' h => hF a' (withWN (withWN n z X0 X1 7) (withWZ n z X0 X1 7) Y0 Y1 9) c' (withWZ (withWN n z X0 X1 7) (withWZ n z X0 X1 7) Y0 Y1 9) X0 X1 w (by omega) hc' ha' h
      rw [hf.1, hf.2] at CF
      rw [hn2] at W2 CF
      obtain ⟨rfl, rfl⟩ := hxy
      clear hf in1 in2 in3 in4 r2 r4 ok1 ok2 ok3 ok4 hn2 mx my hr n1 n3 n2
      generalize withWN n z X0 X1 7 = N1, withWZ n z X0 X1 7 = Z1 at *
      generalize withWN n z X0 X1 9 = N3, withWZ n z X0 X1 9 = Z3 at *
      generalize withWZ N1 Z1 X0 X1 9 = Z2 at *
      generalize withWN N3 Z3 X0 X1 7 = N4, withWZ N3 Z3 X0 X1 7 = Z4 at *
      go_enter Try.func7, Try.ntmps7
      go_wp2_with fail
      refine (C0.out _).mono ?_
      rintro e w1 ⟨rfl, b1⟩
      clear C0
      have b2 : Below w.heap.size w ((w1.alloc (.cells #[.int .i64 X0, .int .i64 X1, .int .i64 7] 24)).alloc (.cells #[.int .i64 X0, .int .i64 X1, .int .i64 9] 24)) := by have := b1.size; go_grown
      have P := (blk_new w1 [.int .i64 X0, .int .i64 X1, .int .i64 7] 24).alloc (.cells #[.int .i64 X0, .int .i64 X1, .int .i64 9] 24)
      have Q := blk_new (w1.alloc (.cells #[.int .i64 X0, .int .i64 X1, .int .i64 7] 24)) [.int .i64 X0, .int .i64 X1, .int .i64 9] 24
      rw [World.size_alloc] at Q
      go_wp2_with fail
      change Blk ((w1.alloc (.cells #[.int .i64 X0, .int .i64 X1, .int .i64 7] 24)).alloc (.cells #[.int .i64 X0, .int .i64 X1, .int .i64 9] 24)) _ _ at P Q
      generalize (w1.alloc (.cells #[.int .i64 X0, .int .i64 X1, .int .i64 7] 24)).alloc (.cells #[.int .i64 X0, .int .i64 X1, .int .i64 9] 24) = w2 at *
      refine (W1.out _ (HH.out.below b2 (Nat.le_refl _))).mono ?_
      rintro e w3 ⟨a1, c1, rfl, hc1, ha1, R1, _, hb⟩
      have b3 := Below.on b2 hb
      replace P := P.on hb
      replace Q := Q.on hb
      have HX1 := hide (And.intro hc1 ha1)
      have HR1 := hide R1
      clear hb b2 W1 hc1 ha1 R1 b1 hX0 hX1 hY0 hY1
      obtain ⟨⟨d0, d1, d2⟩, f0, f1, f2⟩ := Q.three
      go_wp2_with fail
      refine (W2.out _ _ _ HX1.out.1 HX1.out.2 HR1.out).mono ?_
      rintro e w4 ⟨a2, c2, rfl, hc2, ha2, R2, _, hb⟩
      have b4 := Below.on b3 hb
      replace P := P.on hb
      replace Q := Q.on hb
      have HX2 := hide (And.intro hc2 ha2)
      have HR2 := hide R2
      clear hb b3 W2 hc2 ha2 R2 HX1 HR1 d0 d1 d2 f0 f1 f2
      obtain ⟨⟨d0, d1, d2⟩, f0, f1, f2⟩ := Q.three
      go_wp2_with fail
      refine (W3.out _ (HH.out.below b4 (Nat.le_refl _))).mono ?_
      rintro e w5 ⟨a3, c3, rfl, hc3, ha3, R3, _, hb⟩
      have b5 := Below.on b4 hb
      replace P := P.on hb
      replace Q := Q.on hb
      replace HR2 := hide (HR2.out.below hb (Nat.le_refl _))
      have HX3 := hide (And.intro hc3 ha3)
      have HR3 := hide R3
      clear hb b4 W3 hc3 ha3 R3 d0 d1 d2 f0 f1 f2
      obtain ⟨⟨d0, d1, d2⟩, f0, f1, f2⟩ := P.three
      go_wp2_with fail
      refine (W4.out _ _ _ HX3.out.1 HX3.out.2 HR3.out).mono ?_
      rintro e w6 ⟨a4, c4, rfl, hc4, ha4, R4, _, hb⟩
      have b6 := Below.on b5 hb
      replace P := P.on hb
      replace Q := Q.on hb
      replace HR2 := hide (HR2.out.below hb (Nat.le_refl _))
      have HR4 := hide R4
      clear hb b5 W4 hc4 ha4 R4 d0 d1 d2 f0 f1 f2 HX3 HR3
      obtain ⟨⟨d0, d1, d2⟩, f0, f1, f2⟩ := Q.three
      obtain ⟨⟨e0, e1, e2⟩, ef0, ef1, ef2⟩ := P.three
      clear HR4
      go_wp2_with (go_at_call 14; refine (num_any _ _).mono ?_; rintro e w' ⟨rfl, rfl⟩)
      refine (CF.out _ _ _ HX2.out.1 HX2.out.2 HR2.out).mono ?_
      rintro e w7 ⟨rfl, hb⟩
      have b7 := Below.on b6 hb
      clear hb b6 CF HH HR2 HX2 d0 d1 d2 f0 f1 f2 e0 e1 e2 ef0 ef1 ef2 P Q
      go_wp2_with (go_at_call 14; refine (num_any _ _).mono ?_; rintro e w' ⟨rfl, rfl⟩)
      go_ret
      exact ⟨rfl, b7⟩
    · obtain ⟨hN, hZ⟩ := same_writes r2 r4 (fun x y u => by
        rw [in2, in1, in4, in3]
        generalize InW n z x y u = I
        by_cases hI : I <;> simp only [hI, and_true, and_false, or_false] <;> omega)
      have CS := hide fun a' c' a'' c'' w h h' => sameWrites_any a' a'' (withWN (withWN n z X0 X1 7) (withWZ n z X0 X1 7) Y0 Y1 9) c' (withWN (withWN n z Y0 Y1 9) (withWZ n z Y0 Y1 9) X0 X1 7) c'' (withWZ (withWN n z X0 X1 7) (withWZ n z X0 X1 7) Y0 Y1 9) (withWZ (withWN n z Y0 Y1 9) (withWZ n z Y0 Y1 9) X0 X1 7) w (by have := r2.few; omega) h h'
      rw [eqTo_mk hZ, decide_eq_true hN] at CS
      have hxy' : (decide (X0 = Y0) && decide (X1 = Y1)) = false := by
        by_cases e : X0 = Y0
        · rw [decide_eq_false (show ¬ X1 = Y1 from fun e' => hxy ⟨e, e'⟩), Bool.and_false]
        · rw [decide_eq_false e]; rfl
      have HXY := hide hxy
      clear hN hZ in1 in2 in3 in4 r2 r4 ok1 ok2 ok3 ok4 mx my hr n1 n3 hxy hxy'
      generalize withWN n z X0 X1 7 = N1, withWZ n z X0 X1 7 = Z1 at *
      generalize withWN n z Y0 Y1 9 = N3, withWZ n z Y0 Y1 9 = Z3 at *
      generalize withWN N1 Z1 Y0 Y1 9 = N2, withWZ N1 Z1 Y0 Y1 9 = Z2 at *
      generalize withWN N3 Z3 X0 X1 7 = N4, withWZ N3 Z3 X0 X1 7 = Z4 at *
      go_enter Try.func7, Try.ntmps7
      go_wp2_with fail
      refine (C0.out _).mono ?_
      rintro e w1 ⟨rfl, b1⟩
      clear C0
      have b2 : Below w.heap.size w ((w1.alloc (.cells #[.int .i64 X0, .int .i64 X1, .int .i64 7] 24)).alloc (.cells #[.int .i64 Y0, .int .i64 Y1, .int .i64 9] 24)) := by have := b1.size; go_grown
      have P := (blk_new w1 [.int .i64 X0, .int .i64 X1, .int .i64 7] 24).alloc (.cells #[.int .i64 Y0, .int .i64 Y1, .int .i64 9] 24)
      have Q := blk_new (w1.alloc (.cells #[.int .i64 X0, .int .i64 X1, .int .i64 7] 24)) [.int .i64 Y0, .int .i64 Y1, .int .i64 9] 24
      rw [World.size_alloc] at Q
      go_wp2_with fail
      change Blk ((w1.alloc (.cells #[.int .i64 X0, .int .i64 X1, .int .i64 7] 24)).alloc (.cells #[.int .i64 Y0, .int .i64 Y1, .int .i64 9] 24)) _ _ at P Q
      generalize (w1.alloc (.cells #[.int .i64 X0, .int .i64 X1, .int .i64 7] 24)).alloc (.cells #[.int .i64 Y0, .int .i64 Y1, .int .i64 9] 24) = w2 at *
      refine (W1.out _ (HH.out.below b2 (Nat.le_refl _))).mono ?_
      rintro e w3 ⟨a1, c1, rfl, hc1, ha1, R1, _, hb⟩
      have b3 := Below.on b2 hb
      replace P := P.on hb
      replace Q := Q.on hb
      have HX1 := hide (And.intro hc1 ha1)
      have HR1 := hide R1
      clear hb b2 W1 hc1 ha1 R1 b1 hX0 hX1 hY0 hY1
      obtain ⟨⟨d0, d1, d2⟩, f0, f1, f2⟩ := Q.three
      go_wp2_with fail
      refine (W2.out _ _ _ HX1.out.1 HX1.out.2 HR1.out).mono ?_
      rintro e w4 ⟨a2, c2, rfl, hc2, ha2, R2, _, hb⟩
      have b4 := Below.on b3 hb
      replace P := P.on hb
      replace Q := Q.on hb
      have HX2 := hide (And.intro hc2 ha2)
      have HR2 := hide R2
      clear hb b3 W2 hc2 ha2 R2 HX1 HR1 d0 d1 d2 f0 f1 f2
      obtain ⟨⟨d0, d1, d2⟩, f0, f1, f2⟩ := Q.three
      go_wp2_with fail
      refine (W3.out _ (HH.out.below b4 (Nat.le_refl _))).mono ?_
      rintro e w5 ⟨a3, c3, rfl, hc3, ha3, R3, _, hb⟩
      have b5 := Below.on b4 hb
      replace P := P.on hb
      replace Q := Q.on hb
      replace HR2 := hide (HR2.out.below hb (Nat.le_refl _))
      have HX3 := hide (And.intro hc3 ha3)
      have HR3 := hide R3
      clear hb b4 W3 hc3 ha3 R3 d0 d1 d2 f0 f1 f2
      obtain ⟨⟨d0, d1, d2⟩, f0, f1, f2⟩ := P.three
      go_wp2_with fail
      refine (W4.out _ _ _ HX3.out.1 HX3.out.2 HR3.out).mono ?_
      rintro e w6 ⟨a4, c4, rfl, hc4, ha4, R4, _, hb⟩
      have b6 := Below.on b5 hb
      replace P := P.on hb
      replace Q := Q.on hb
      replace HR2 := hide (HR2.out.below hb (Nat.le_refl _))
      have HR4 := hide R4
      clear hb b5 W4 hc4 ha4 R4 d0 d1 d2 f0 f1 f2 HX3 HR3
      obtain ⟨⟨d0, d1, d2⟩, f0, f1, f2⟩ := Q.three
      obtain ⟨⟨e0, e1, e2⟩, ef0, ef1, ef2⟩ := P.three
      by_cases hx : X0 = Y0
      · have hy : decide (X1 = Y1) = false := decide_eq_false fun e => HXY.out ⟨hx, e⟩
        have hy' : (X1 == Y1) = false := beq_eq_false_iff_ne.2 fun e => HXY.out ⟨hx, e⟩
        subst hx
        go_wp2_with (go_at_call 14; refine (num_any _ _).mono ?_; rintro e w' ⟨rfl, rfl⟩)
        refine (CS.out _ _ _ _ _ HR2.out HR4.out).mono ?_
        rintro e w7 ⟨rfl, q7, rfl⟩
        clear CS HR2 HR4
        go_wp2
        go_ret
        exact ⟨rfl, Below.drawn b6 _⟩
      · have hy : decide (X0 = Y0) = false := decide_eq_false hx
        have hy' : (X0 == Y0) = false := beq_eq_false_iff_ne.2 hx
        clear hx
        go_wp2_with (go_at_call 14; refine (num_any _ _).mono ?_; rintro e w' ⟨rfl, rfl⟩)
        refine (CS.out _ _ _ _ _ HR2.out HR4.out).mono ?_
        rintro e w7 ⟨rfl, q7, rfl⟩
        clear CS HR2 HR4
        go_wp2
        go_ret
        exact ⟨rfl, Below.drawn b6 _⟩

end Go.Proofs.Ytjnolmpalfjacaa
