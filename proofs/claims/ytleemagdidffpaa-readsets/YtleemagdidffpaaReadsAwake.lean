/-
  What every program answers that is one: chapter 9's own examples hold, if package readset's functions keep their statements.
-/
import Derived.Test.YtleemagdidffpaaReadsStat
namespace Go.Proofs.Ytleemagdidffpaa
open Go.RowKit
set_option linter.unusedSimpArgs false
set_option linter.unusedVariables false

/-- What With hands back, at whatever it was asked. -/
theorem with_any {n : Nat} {z : Nat → Int} {l i v : Int} {w w' : World} {e : Ending} (h : WithPost n z l i v w e w') :
    ∃ a c, e = .returned (.tuple #[.slice a (withN n z l i v) c, .int .i64 (withE n z l i v)]) ∧ withN n z l i v ≤ c ∧ (a = none → withN n z l i v = 0 ∧ c = 0) ∧ (Row w' a (withN n z l i v * 3) fun j => .int .i64 (putR z n l i v j)) ∧
      (0 < withN n z l i v → ∃ b, a = some ⟨b, 0, none⟩ ∧ w.heap.size ≤ b ∧ b < w'.heap.size ∧ Own w' b (withN n z l i v * 3) (intF (putR z n l i v))) ∧ Below w.heap.size w w' := by
  obtain ⟨x, rfl, hy, hc, hn, _, ho, hb⟩ := h
  rw [hn] at hy hc ho
  refine ⟨x.a, x.c, by rw [hn], hc, hy, ?_, ho, hb⟩
  by_cases hp : 0 < withN n z l i v
  · obtain ⟨b, e, _, _, h3⟩ := ho hp
    rw [e]
    exact h3.row
  · rw [show withN n z l i v = 0 by omega, Nat.zero_mul]
    exact row_zero _ _ _

/-- Of one word, on the second level. -/
def oneS (b : Nat) : Nat → Sl := four ⟨none, 0, 0⟩ ⟨some ⟨b, 0, none⟩, 1, 1⟩ ⟨none, 0, 0⟩ ⟨none, 0, 0⟩
def oneY (x y z : Int) : Nat → Nat → Int := four (fun _ => 0) (oneR x y z) (fun _ => 0) (fun _ => 0)
theorem oneS_fit (b : Nat) : Fit (oneS b) := four_all ⟨by simp [oneS, four], fun _ => ⟨rfl, rfl⟩⟩ ⟨by simp [oneS, four], fun h => by cases h⟩ ⟨by simp [oneS, four], fun _ => ⟨rfl, rfl⟩⟩ ⟨by simp [oneS, four], fun _ => ⟨rfl, rfl⟩⟩
theorem oneS_arn {w : World} {b : Nat} {x y z : Int} (h : Blk w b [.int .i64 x, .int .i64 y, .int .i64 z]) : Arn w (oneS b) (oneY x y z) := four_all (row_zero _ _ _) h.read (row_zero _ _ _) (row_zero _ _ _)

set_option maxRecDepth 10000 in
set_option maxHeartbeats 2000000 in
theorem awake9_any (hM : MayRC) (hW : WithRC) (hG : GoodRC) (hC : ChgRC) (w : World) :
    Calls Try.prog 24 #[] w fun e w' => e = .returned (.bool true) ∧ Below w.heap.size w w' := by
  have C1 := hide fun w => (hW none 0 0 (fun _ => 0) 1 0 3 w (by omega) (by omega) (fun _ => ⟨rfl, rfl⟩) (row_zero _ _ _)).mono fun _ _ h => with_any h
  rw [show withN 0 (fun _ => 0) 1 0 3 = 1 by kernel_rfl, show withE 0 (fun _ => 0) 1 0 3 = 0 by kernel_rfl] at C1
  have C2 := hide fun w a c hc ha h => (hW a 1 c (oneR 1 0 3) 1 0 9 w (by omega) hc ha h).mono fun _ _ h => with_any h
  rw [show withN 1 (oneR 1 0 3) 1 0 9 = 1 by kernel_rfl, show withE 1 (oneR 1 0 3) 1 0 9 = 0 by kernel_rfl] at C2
  have C3 := hide fun w b a c hc (hA : Arn w (oneS b) (oneY 0 3 8)) h => hG (oneS b) (oneY 0 3 8) a 1 c (oneR 1 0 3) 7 w (oneS_fit b) hA (by omega) hc h
  have C4 := hide fun w b a c hc (hA : Arn w (oneS b) (oneY 0 3 8)) h => hG (oneS b) (oneY 0 3 8) a 1 c (oneR 1 0 3) 6 w (oneS_fit b) hA (by omega) hc h
  have C5 := hide fun w b a c hc (hA : Arn w (oneS b) (oneY 0 3 8)) h => hC (oneS b) (oneY 0 3 8) a 1 c (oneR 1 0 3) w (oneS_fit b) hA (by omega) hc h
  have C6 := hide fun w b b' (hA : Arn w (oneS b) (oneY 0 3 8)) h => hG (oneS b) (oneY 0 3 8) (some ⟨b', 0, none⟩) 1 1 (oneR 2 0 0) 7 w (oneS_fit b) hA (by omega) (by omega) h
  have C7 := hide fun w a c hc h => hM a 1 c (oneR 1 0 3) w (by omega) hc h
  have g3 : ∀ b, goodV (oneS b) (oneY 0 3 8) 1 (oneR 1 0 3) 7 = true ∧ goodE (oneS b) (oneY 0 3 8) 1 (oneR 1 0 3) 7 = 0 := fun b => ⟨by kernel_rfl, by kernel_rfl⟩
  have g4 : ∀ b, goodV (oneS b) (oneY 0 3 8) 1 (oneR 1 0 3) 6 = false ∧ goodE (oneS b) (oneY 0 3 8) 1 (oneR 1 0 3) 6 = 0 := fun b => ⟨by kernel_rfl, by kernel_rfl⟩
  have g5 : ∀ b, chgV (oneS b) (oneY 0 3 8) 1 (oneR 1 0 3) = false ∧ chgE (oneS b) (oneY 0 3 8) 1 (oneR 1 0 3) = 0 := fun b => ⟨by kernel_rfl, by kernel_rfl⟩
  have g6 : ∀ b, goodV (oneS b) (oneY 0 3 8) 1 (oneR 2 0 0) 7 = false ∧ goodE (oneS b) (oneY 0 3 8) 1 (oneR 2 0 0) 7 = 900 := fun b => ⟨by kernel_rfl, by kernel_rfl⟩
  simp only [(g3 _).1, (g3 _).2] at C3
  simp only [(g4 _).1, (g4 _).2] at C4
  simp only [(g5 _).1, (g5 _).2] at C5
  simp only [(g6 _).1, (g6 _).2] at C6
  rw [show readsMay 1 (oneR 1 0 3) = true by kernel_rfl] at C7
  clear hM hW hG hC g3 g4 g5 g6
  unfold wordA at C1 C2
  go_enter Try.func24, Try.ntmps24
  go_wp2_with fail
  refine (C1.out _).mono ?_
  rintro e w1 ⟨a1, c1, rfl, hc1, ha1, R1, _, b1⟩
  have HR := hide (R1.congr (g := fun j => .int .i64 (oneR 1 0 3 j)) fun _ _ => rfl)
  have HC := hide hc1
  have HN := hide ha1
  clear C1 hc1 ha1 R1
  go_wp2_with fail
  refine (C2.out _ _ _ HC.out HN.out HR.out).mono ?_
  rintro e w2 ⟨a2, c2, rfl, hc2, ha2, R2, _, hb⟩
  have b2 := Below.on b1 hb
  have HR1 := hide (HR.out.below hb (Nat.le_refl _))
  have HR2 := hide R2
  have s2 := b2.size
  clear hb b1 C2 HR hc2 ha2 R2 HN
  go_wp2_with fail
  have P := (blk_new w2 [.int .i64 0, .int .i64 3, .int .i64 8] 53).alloc (.cells (arenaL (oneS w2.heap.size)).toArray 26)
  have Q := blk_new (w2.alloc (.cells #[.int .i64 0, .int .i64 3, .int .i64 8] 53)) (arenaL (oneS w2.heap.size)) 26
  rw [World.size_alloc] at Q
  have bb : Below w2.heap.size w2 ((w2.alloc (.cells #[.int .i64 0, .int .i64 3, .int .i64 8] 53)).alloc (.cells (arenaL (oneS w2.heap.size)).toArray 26)) := by go_grown
  have b3 := Below.on b2 bb
  replace HR1 := hide (HR1.out.below bb (Nat.le_refl _))
  replace HR2 := hide (HR2.out.below bb (Nat.le_refl _))
  clear bb b2
  change Blk ((w2.alloc (.cells #[.int .i64 0, .int .i64 3, .int .i64 8] 53)).alloc (.cells #[.slice none 0 0, .slice (some ⟨w2.heap.size, 0, none⟩) 1 1, .slice none 0 0, .slice none 0 0] 26)) _ _ at P Q
  change Below _ _ ((w2.alloc (.cells #[.int .i64 0, .int .i64 3, .int .i64 8] 53)).alloc (.cells #[.slice none 0 0, .slice (some ⟨w2.heap.size, 0, none⟩) 1 1, .slice none 0 0, .slice none 0 0] 26)) at b3
  change Hid (Row ((w2.alloc (.cells #[.int .i64 0, .int .i64 3, .int .i64 8] 53)).alloc (.cells #[.slice none 0 0, .slice (some ⟨w2.heap.size, 0, none⟩) 1 1, .slice none 0 0, .slice none 0 0] 26)) _ _ _) at HR1 HR2
  generalize (w2.alloc (.cells #[.int .i64 0, .int .i64 3, .int .i64 8] 53)).alloc (.cells #[.slice none 0 0, .slice (some ⟨w2.heap.size, 0, none⟩) 1 1, .slice none 0 0, .slice none 0 0] 26) = W at *
  refine (C3.out _ w2.heap.size _ _ HC.out (oneS_arn P) HR1.out).mono ?_
  rintro e w3 ⟨rfl, hb⟩
  replace b3 := Below.on b3 hb
  replace P := P.on hb
  replace Q := Q.on hb
  replace HR1 := hide (HR1.out.below hb (Nat.le_refl _))
  replace HR2 := hide (HR2.out.below hb (Nat.le_refl _))
  clear hb C3 s2
  clear W
  obtain ⟨⟨d0, d1, d2, d3⟩, df0, df1, df2, df3⟩ := Q.four
  unfold oneS four at d0 d1 d2 d3
  go_wp2_with fail
  refine (C4.out _ w2.heap.size _ _ HC.out (oneS_arn P) HR1.out).mono ?_
  rintro e w4 ⟨rfl, hb⟩
  replace b3 := Below.on b3 hb
  replace P := P.on hb
  replace Q := Q.on hb
  replace HR1 := hide (HR1.out.below hb (Nat.le_refl _))
  replace HR2 := hide (HR2.out.below hb (Nat.le_refl _))
  clear hb C4 d0 d1 d2 d3 df0 df1 df2 df3
  obtain ⟨⟨d0, d1, d2, d3⟩, df0, df1, df2, df3⟩ := Q.four
  unfold oneS four at d0 d1 d2 d3
  go_wp2_with fail
  refine (C5.out _ w2.heap.size _ _ HC.out (oneS_arn P) HR1.out).mono ?_
  rintro e w5 ⟨rfl, hb⟩
  replace b3 := Below.on b3 hb
  replace P := P.on hb
  replace Q := Q.on hb
  replace HR1 := hide (HR1.out.below hb (Nat.le_refl _))
  replace HR2 := hide (HR2.out.below hb (Nat.le_refl _))
  clear hb C5 d0 d1 d2 d3 df0 df1 df2 df3
  obtain ⟨⟨d0, d1, d2, d3⟩, df0, df1, df2, df3⟩ := Q.four
  unfold oneS four at d0 d1 d2 d3
  go_wp2_with fail
  have bb := (Below.refl w5.heap.size w5).alloc (Nat.le_refl _) (.cells #[.int .i64 2, .int .i64 0, .int .i64 0] 24)
  refine (C6.out _ w2.heap.size _ (oneS_arn (P.on bb)) (blk_new w5 [.int .i64 2, .int .i64 0, .int .i64 0] 24).read).mono ?_
  rintro e w6 ⟨rfl, hb⟩
  replace bb := Below.on bb hb
  have b6 := Below.on b3 bb
  replace HR1 := hide (HR1.out.below bb (Nat.le_refl _))
  replace HR2 := hide (HR2.out.below bb (Nat.le_refl _))
  clear hb bb C6 d0 d1 d2 d3 df0 df1 df2 df3 P Q b3
  have CS : Hid (Calls Try.prog 17 #[.slice a1 1 c1, .slice a2 1 c2] w6 fun e w' => e = .returned (.bool true) ∧ ∃ q, w' = w6.drewN q) := by
    have := sameReads_any a1 a2 1 c1 1 c2 (oneR 1 0 3) (putR (oneR 1 0 3) 1 1 0 9) w6 (by omega) HR1.out HR2.out
    rw [show (decide (1 = 1) && eqTo (oneR 1 0 3) (putR (oneR 1 0 3) 1 1 0 9) (1 * 3)) = true by kernel_rfl] at this
    exact this
  go_wp2_with (first | (go_at_call 18; refine (num_any _ _).mono ?_; rintro e w' ⟨rfl, rfl⟩) | (go_at_call 17; refine CS.out.mono ?_; rintro e w' ⟨rfl, q, rfl⟩))
  refine (C7.out _ _ _ HC.out (HR1.out.drewN _)).mono ?_
  rintro e w7 ⟨rfl, hb⟩
  have b7 := Below.on (Below.drawn b6 _) hb
  clear hb C7 b6 HR1 HR2 CS
  go_wp2
  go_ret
  exact ⟨rfl, b7⟩

end Go.Proofs.Ytleemagdidffpaa
