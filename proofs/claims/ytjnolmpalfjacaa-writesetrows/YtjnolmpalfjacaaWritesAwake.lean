/-
  What every program answers that is one: chapter 10's own examples hold, if package writeset's functions keep their statements.
-/
import Derived.Test.YtjnolmpalfjacaaWritesStat
namespace Go.Proofs.Ytjnolmpalfjacaa
open Go.RowKit
set_option linter.unusedSimpArgs false
set_option linter.unusedVariables false

/-- What With hands back, at whatever it was asked. -/
theorem withW_any {n : Nat} {z : Nat → Int} {l i v : Int} {w w' : World} {e : Ending} (h : WithWPost n z l i v w e w') :
    ∃ a c, e = .returned (.tuple #[.slice a (withWN n z l i v) c, .int .i64 (withWE n z l i v)]) ∧ withWN n z l i v ≤ c ∧ (a = none → withWN n z l i v = 0 ∧ c = 0) ∧ (Row w' a (withWN n z l i v * 3) fun j => .int .i64 (withWZ n z l i v j)) ∧
      (0 < withWN n z l i v → ∃ b, a = some ⟨b, 0, none⟩ ∧ w.heap.size ≤ b ∧ b < w'.heap.size ∧ Own w' b (withWN n z l i v * 3) (intF (withWZ n z l i v))) ∧ Below w.heap.size w w' := by
  obtain ⟨x, rfl, hy, hc, hn, _, ho, hb⟩ := h
  rw [hn] at hy hc ho
  refine ⟨x.a, x.c, by rw [hn], hc, hy, ?_, ho, hb⟩
  by_cases hp : 0 < withWN n z l i v
  · obtain ⟨b, e, _, _, h3⟩ := ho hp
    rw [e]
    exact h3.row
  · rw [show withWN n z l i v = 0 by omega, Nat.zero_mul]
    exact row_zero _ _ _

/-- Two writes' numbers. -/
def twoW (a b c d e f : Int) (j : Nat) : Int := [a, b, c, d, e, f].getD j 0
theorem Blk.writes {w : World} {x a b c d e f : _} (h : Blk w x [.int .i64 a, .int .i64 b, .int .i64 c, .int .i64 d, .int .i64 e, .int .i64 f]) : Row w (some ⟨x, 0, none⟩) (2 * 3) fun j => .int .i64 (twoW a b c d e f j) := by
  refine Own.row ⟨_, h, fun j hj => ?_⟩
  have : j = 0 ∨ j = 1 ∨ j = 2 ∨ j = 3 ∨ j = 4 ∨ j = 5 := by omega
  rcases this with rfl | rfl | rfl | rfl | rfl | rfl <;> rfl

set_option maxRecDepth 10000 in
set_option maxHeartbeats 2000000 in
theorem awake10_any (hM : MayWC) (hW : WithWC) (hF : FindWC) (hA : AtWC) (w : World) :
    Calls Try.prog 21 #[] w fun e w' => e = .returned (.bool true) ∧ Below w.heap.size w w' := by
  have C1 := hide fun w b h => (hW (some ⟨b, 0, none⟩) 1 1 (oneW 1 2 5) 1 0 6 w (by omega) (by omega) (fun h => by cases h) h).mono fun _ _ h => withW_any h
  rw [show withWN 1 (oneW 1 2 5) 1 0 6 = 2 by kernel_rfl, show withWE 1 (oneW 1 2 5) 1 0 6 = 0 by kernel_rfl] at C1
  obtain ⟨Z1, hZ1⟩ : ∃ Z, Z = withWZ 1 (oneW 1 2 5) 1 0 6 := ⟨_, rfl⟩
  have C2 := hide fun w a c hc ha h => (hW a 2 c Z1 1 2 7 w (by omega) hc ha h).mono fun _ _ h => withW_any h
  rw [show withWN 2 Z1 1 2 7 = 2 by subst hZ1; kernel_rfl, show withWE 2 Z1 1 2 7 = 0 by subst hZ1; kernel_rfl] at C2
  obtain ⟨Z2, hZ2⟩ : ∃ Z, Z = withWZ 2 Z1 1 2 7 := ⟨_, rfl⟩
  have C3 := hide fun w a c hc ha h => hF a 2 c Z2 1 2 w (by omega) hc ha h
  rw [show findVal 2 Z2 1 2 = 7 by subst hZ2 hZ1; kernel_rfl, show findIs 2 Z2 1 2 = true by subst hZ2 hZ1; kernel_rfl] at C3
  have C4 := hide fun w a c hc ha h => hF a 2 c Z2 2 2 w (by omega) hc ha h
  rw [show findVal 2 Z2 2 2 = 0 by subst hZ2 hZ1; kernel_rfl, show findIs 2 Z2 2 2 = false by subst hZ2 hZ1; kernel_rfl] at C4
  have C5 := hide fun w => (hW none 0 0 (fun _ => 0) 4 0 0 w (by omega) (by omega) (fun _ => ⟨rfl, rfl⟩) (row_zero _ _ _)).mono fun _ _ h => withW_any h
  rw [show withWN 0 (fun _ => 0) 4 0 0 = 0 by kernel_rfl, show withWE 0 (fun _ => 0) 4 0 0 = 1000 by kernel_rfl] at C5
  have C6 := hide fun w a c hc h => hA a 2 c Z2 1 w (by omega) hc h
  rw [show atW 2 Z2 1 = true by subst hZ2 hZ1; kernel_rfl] at C6
  have C7 := hide fun w a c hc h => hA a 2 c Z2 0 w (by omega) hc h
  rw [show atW 2 Z2 0 = false by subst hZ2 hZ1; kernel_rfl] at C7
  have C8 := hide fun w a c hc h => hM a 2 c Z2 w (by omega) hc h
  rw [show writesMay 2 Z2 = true by subst hZ2 hZ1; kernel_rfl] at C8
  have CS := hide fun a c w b h h' => sameWrites_any a (some ⟨b, 0, none⟩) 2 c 2 2 Z1 (twoW 1 0 6 1 2 5) w (by omega) h h'
  rw [show (decide (2 = 2) && eqTo Z1 (twoW 1 0 6 1 2 5) (2 * 3)) = true by subst hZ1; kernel_rfl] at CS
  rw [← hZ1] at C1
  rw [← hZ2] at C2
  clear hM hW hF hA hZ1 hZ2
  unfold wordA at C1 C2 C5
  go_enter Try.func21, Try.ntmps21
  go_wp2_with fail
  have bb := (Below.refl w.heap.size w).alloc (Nat.le_refl _) (.cells #[.int .i64 1, .int .i64 2, .int .i64 5] 24)
  refine (C1.out _ _ (blk_new w [.int .i64 1, .int .i64 2, .int .i64 5] 24).write).mono ?_
  rintro e w1 ⟨a1, c1, rfl, hc1, ha1, R1, _, hb⟩
  have b1 := Below.on bb hb
  have HR := hide R1
  have HC := hide hc1
  have HN := hide ha1
  clear C1 hc1 ha1 R1 bb hb
  go_wp2_with fail
  refine (C2.out _ _ _ HC.out HN.out HR.out).mono ?_
  rintro e w2 ⟨a2, c2, rfl, hc2, ha2, R2, _, hb⟩
  have b2 := Below.on b1 hb
  replace HR := hide (HR.out.below hb (Nat.le_refl _))
  have HR2 := hide R2
  have HC2 := hide hc2
  have HN2 := hide ha2
  clear hb b1 C2 hc2 ha2 R2 HN HC
  go_wp2_with fail
  refine (C3.out _ _ _ HC2.out HN2.out HR2.out).mono ?_
  rintro e w3 ⟨rfl, hb⟩
  have b3 := Below.on b2 hb
  replace HR := hide (HR.out.below hb (Nat.le_refl _))
  replace HR2 := hide (HR2.out.below hb (Nat.le_refl _))
  clear hb b2 C3
  go_wp2_with fail
  refine (C4.out _ _ _ HC2.out HN2.out HR2.out).mono ?_
  rintro e w4 ⟨rfl, hb⟩
  have b4 := Below.on b3 hb
  replace HR := hide (HR.out.below hb (Nat.le_refl _))
  replace HR2 := hide (HR2.out.below hb (Nat.le_refl _))
  clear hb b3 C4
  go_wp2_with fail
  refine (C5.out _).mono ?_
  rintro e w5 ⟨a5, c5, rfl, _, _, _, _, hb⟩
  have b5 := Below.on b4 hb
  replace HR := hide (HR.out.below hb (Nat.le_refl _))
  replace HR2 := hide (HR2.out.below hb (Nat.le_refl _))
  clear hb b4 C5
  go_wp2_with fail
  have bb := (Below.refl w5.heap.size w5).alloc (Nat.le_refl _) (.cells #[.int .i64 1, .int .i64 0, .int .i64 6, .int .i64 1, .int .i64 2, .int .i64 5] 24)
  refine (CS.out _ _ _ _ (HR.out.below bb (Nat.le_refl _)) (blk_new w5 [.int .i64 1, .int .i64 0, .int .i64 6, .int .i64 1, .int .i64 2, .int .i64 5] 24).writes).mono ?_
  rintro e w6 ⟨rfl, q, rfl⟩
  have b6 := Below.drawn (Below.on b5 bb) q
  replace HR2 := hide ((HR2.out.below bb (Nat.le_refl _)).drewN q)
  clear bb b5 CS HR
  generalize (w5.alloc (.cells #[.int .i64 1, .int .i64 0, .int .i64 6, .int .i64 1, .int .i64 2, .int .i64 5] 24)).drewN q = w6 at *
  go_wp2_with (go_at_call 14; refine (num_any _ _).mono ?_; rintro e w' ⟨rfl, rfl⟩)
  refine (C6.out _ _ _ HC2.out HR2.out).mono ?_
  rintro e w7 ⟨rfl, hb⟩
  have b7 := Below.on b6 hb
  replace HR2 := hide (HR2.out.below hb (Nat.le_refl _))
  clear hb b6 C6
  go_wp2_with fail
  refine (C7.out _ _ _ HC2.out HR2.out).mono ?_
  rintro e w8 ⟨rfl, hb⟩
  have b8 := Below.on b7 hb
  replace HR2 := hide (HR2.out.below hb (Nat.le_refl _))
  clear hb b7 C7
  go_wp2_with fail
  refine (C8.out _ _ _ HC2.out HR2.out).mono ?_
  rintro e w9 ⟨rfl, hb⟩
  have b9 := Below.on b8 hb
  clear hb b8 C8 HR2
  go_wp2
  go_ret
  exact ⟨rfl, b9⟩

end Go.Proofs.Ytjnolmpalfjacaa
