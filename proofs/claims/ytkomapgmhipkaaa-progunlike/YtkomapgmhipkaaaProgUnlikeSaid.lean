/-
  The law ProgUnlike, if package prog's functions keep their statements.
-/
import Derived.Test.YtkomapgmhipkaaaProgStat
import Derived.Test.YtkomapgmhipkaaaProgMore
import Derived.Test.YtkomapgmhipkaaaPlain
import Derived.Deep.QuietTactic
import Derived.BigQuiet
namespace Go.Proofs.Ytkomapgmhipkaaa
open Go.RowKit
set_option linter.unusedSimpArgs false
set_option linter.unusedVariables false

/-- The program with another instruction in a place. -/
def putZ4 (z : Nat → Int) (m : Nat) (i : Nat → Int) : Nat → Int := updZ (updZ (updZ (updZ z (m * 4) (i 0)) (m * 4 + 1) (i 1)) (m * 4 + 2) (i 2)) (m * 4 + 3) (i 3)
theorem putZ4_at (z : Nat → Int) (m : Nat) (i : Nat → Int) : putZ4 z m i (m * 4) = i 0 ∧ putZ4 z m i (m * 4 + 1) = i 1 ∧ putZ4 z m i (m * 4 + 2) = i 2 ∧ putZ4 z m i (m * 4 + 3) = i 3 := by
  unfold putZ4 updZ
  refine ⟨?_, ?_, ?_, ?_⟩
  · rw [if_neg (by omega), if_neg (by omega), if_neg (by omega), if_pos rfl]
  · rw [if_neg (by omega), if_neg (by omega), if_pos rfl]
  · rw [if_neg (by omega), if_pos rfl]
  · rw [if_pos rfl]
theorem putZ4_else {z : Nat → Int} {m : Nat} {i : Nat → Int} {j : Nat} (h : j < m * 4 ∨ m * 4 + 3 < j) : putZ4 z m i j = z j := by
  unfold putZ4 updZ
  rw [if_neg (by omega), if_neg (by omega), if_neg (by omega), if_neg (by omega)]
/-- Are the texts the same? Just if the instructions are. -/
theorem unlike_text {n m : Nat} {z i : Nat → Int} (hm : m < n) (hz : progMay n z = true) (hy : progMay n (putZ4 z m i) = true) :
    (byteOf (n : Int) :: progB z n == byteOf (n : Int) :: progB (putZ4 z m i) n) = (i 0 == z (m * 4) && i 1 == z (m * 4 + 1) && i 2 == z (m * 4 + 2) && i 3 == z (m * 4 + 3)) := by
  obtain ⟨q0, q1, q2, q3⟩ := putZ4_at z m i
  rw [Bool.eq_iff_iff]
  simp only [beq_iff_eq, Bool.and_eq_true]
  constructor
  · intro h
    have := putP_same hz hy h
    refine ⟨⟨⟨?_, ?_⟩, ?_⟩, ?_⟩
    · rw [this _ (by omega), q0]
    · rw [this _ (by omega), q1]
    · rw [this _ (by omega), q2]
    · rw [this _ (by omega), q3]
  · rintro ⟨⟨⟨h0, h1⟩, h2⟩, h3⟩
    congr 1
    refine progB_congr fun j hj => ?_
    by_cases e : j < m * 4 ∨ m * 4 + 3 < j
    · exact (putZ4_else e).symm
    · have : j = m * 4 ∨ j = m * 4 + 1 ∨ j = m * 4 + 2 ∨ j = m * 4 + 3 := by omega
      rcases this with rfl | rfl | rfl | rfl
      · rw [q0, h0]
      · rw [q1, h1]
      · rw [q2, h2]
      · rw [q3, h3]
theorem short_text {n m : Nat} {z y : Nat → Int} (hm : m < n) : (byteOf (n : Int) :: progB z n == byteOf (m : Int) :: progB y m) = false := by
  rw [beq_eq_false_iff_ne]
  intro h
  have := congrArg List.length h
  rw [List.length_cons, List.length_cons, progB_len, progB_len] at this
  omega
theorem Own.setInst {w : World} {b m : Nat} {z : Nat → Int} (h : Own w b m (intF z)) (k : Nat) (i : Nat → Int) : Own ((((w.setCell ⟨b, k * 4, none⟩ (.int .i64 (i 0))).setCell ⟨b, k * 4 + 1, none⟩ (.int .i64 (i 1))).setCell ⟨b, k * 4 + 2, none⟩ (.int .i64 (i 2))).setCell ⟨b, k * 4 + 3, none⟩ (.int .i64 (i 3))) b m (intF (putZ4 z k i)) :=
  (((h.setInt (k * 4) (i 0)).setInt (k * 4 + 1) (i 1)).setInt (k * 4 + 2) (i 2)).setInt (k * 4 + 3) (i 3)

set_option maxRecDepth 100000 in
set_option maxHeartbeats 4000000 in
theorem progUnlike_said (hM : MayPC) (hP : PutPC) (hG : GetPC) (a : Option Addr) (n c : Nat) (z : Nat → Int) (i : Nat → Int) (a2 : Int) (w : World) (hn : n * 32 ≤ 140737488351232) (hc : n ≤ c) (ha : a = none → n = 0 ∧ c = 0) (h : Row w a (n * 4) fun i => .int .i64 (z i)) :
    Calls Try.prog 6 #[.slice a n c, quadA i, .int .i64 a2] w fun e w' => e = .returned (.bool true) ∧ Below w.heap.size w w' := by
  have C0 := hide fun w => awake8_any hM hP hG w
  have C1 := hide fun (w : World) h => hP a n c z w (by omega) h
  have R0 := h.below ((Below.refl w.heap.size w).alloc (Nat.le_refl _) (.cells (quadL i).toArray 40)) (Nat.le_refl _)
  cases hy : progMay n z
  · rw [(putP_not hy).1, (putP_not hy).2] at C1
    unfold textS at C1
    clear hM hP hG
    unfold quadA
    go_enter Try.func6, Try.ntmps6
    go_wp2_with fail
    refine (C0.out _).mono ?_
    rintro e w1 ⟨rfl, hb⟩
    have b1 : Below w.heap.size w w1 := Below.on (by go_grown) hb
    have R1 := h.below b1 (Nat.le_refl _)
    clear hb C0
    go_wp2_with fail
    refine (C1.out _ R1).mono ?_
    rintro e w2 ⟨rfl, hb⟩
    have b2 : Below w.heap.size w w2 := Below.on b1 hb
    clear hb b1 R1 C1
    go_wp2_with (go_at_call 13; refine (num_any _ _).mono ?_; rintro e w' ⟨rfl, rfl⟩)
    go_ret
    exact ⟨rfl, b2⟩
  · rw [(putP_yes hy).1, (putP_yes hy).2] at C1
    unfold textS at C1
    unfold quadA
    by_cases h0 : n = 0
    · subst h0
      generalize byteOf ((0 : Nat) : Int) :: progB z 0 = T1 at *
      clear hM hP hG
      go_enter Try.func6, Try.ntmps6
      go_wp2_with fail
      refine (C0.out _).mono ?_
      rintro e w1 ⟨rfl, hb⟩
      have b1 : Below w.heap.size w w1 := Below.on (by go_grown) hb
      have R1 := h.below b1 (Nat.le_refl _)
      clear hb C0
      go_wp2_with fail
      refine (C1.out _ R1).mono ?_
      rintro e w2 ⟨rfl, hb⟩
      have b2 : Below w.heap.size w w2 := Below.on b1 hb
      clear hb b1 R1 C1
      go_wp2_with (go_at_call 13; refine (num_any _ _).mono ?_; rintro e w' ⟨rfl, rfl⟩)
      go_ret
      exact ⟨rfl, b2⟩
    · have n16 := (progMay_get hy).2
      have hn0 : ¬ (n : Int) = 0 := by omega
      obtain ⟨m, hm, hpick⟩ := pick_at a2 n (by omega) (by omega)
      obtain ⟨i0, hi, hz0, hz1, hz2⟩ := info_parts Try.infoInst
      obtain ⟨ad, rfl⟩ : ∃ ad, a = some ad := by
        cases a with
        | none => have := (ha rfl).1; omega
        | some ad => exact ⟨ad, rfl⟩
      clear ha
      have C2 := hide fun (g cap : Nat) (w : World) h => hP (some ⟨g, 0, none⟩) n cap (putZ4 z m i) w (by omega) h
      have C3 := hide fun (w : World) h => hP (some ad) m c z w (by omega) h
      unfold textS at C2 C3
      have HS : Hid ((progMay n (putZ4 z m i) = false ∧ putPE n (putZ4 z m i) = 800) ∨ (putPE n (putZ4 z m i) = 0 ∧ (byteOf (n : Int) :: progB z n == putPT n (putZ4 z m i)) = (i 0 == z (m * 4) && i 1 == z (m * 4 + 1) && i 2 == z (m * 4 + 2) && i 3 == z (m * 4 + 3)))) := by
        cases hy2 : progMay n (putZ4 z m i)
        · exact .inl ⟨rfl, (putP_not hy2).2⟩
        · rw [(putP_yes hy2).1, (putP_yes hy2).2]
          exact .inr ⟨rfl, unlike_text (by omega) hy hy2⟩
      have HU : Hid (putPE m z = 800 ∨ (putPE m z = 0 ∧ (byteOf (n : Int) :: progB z n == putPT m z) = false)) := by
        cases hy2 : progMay m z
        · exact .inl (putP_not hy2).2
        · rw [(putP_yes hy2).1, (putP_yes hy2).2]
          exact .inr ⟨rfl, short_text (by omega)⟩
      have tx := text_list (byteOf n :: progB z n)
      generalize byteOf n :: progB z n = T1 at *
      have hm' : m < n := by omega
      have HL := hide (rowL_len (intF z) (n * 4))
      have H1 := hide (rowL_one (f := intF z) (m := n * 4) fun _ _ => rfl)
      clear hM hP hG hy h0
      go_enter Try.func6, Try.ntmps6
      go_wp2_with fail
      refine (C0.out _).mono ?_
      rintro e w1 ⟨rfl, hb⟩
      have b1 : Below w.heap.size w w1 := Below.on (by go_grown) hb
      have R1 := h.below b1 (Nat.le_refl _)
      have B1 := (blk_new w (quadL i) 40).on hb
      clear hb C0 R0
      go_wp2_with fail
      refine (C1.out _ R1).mono ?_
      rintro e w2 ⟨rfl, hb⟩
      have b2 : Below w.heap.size w w2 := Below.on b1 hb
      have R2 := R1.below hb (Nat.le_refl _)
      have B2 := B1.on hb
      clear hb b1 R1 C1 B1
      have hown : (w2.alloc (.cells #[] 40)).ownsRow w2.heap.size 40 4 (.slice (some ⟨w2.heap.size, 0, none⟩) 0 0) 0 [] := World.ownsRow_made w2 #[] 0 (Nat.le_refl _) (by decide) rfl
      have HO := hide hown
      have HR := hide (R2.below ((Below.refl w2.heap.size w2).alloc (Nat.le_refl _) (.cells #[] 40)) (Nat.le_refl _)).news
      clear hown h
      go_wp2_with (first | (go_at_call 13; refine (num_any _ _).mono ?_; rintro e w' ⟨rfl, rfl⟩) | (at_builtin; refine wpList_append_own _ rfl (.tmp 37) (.tmp 38) 22 rfl w2.heap.size 40 i0 (.agg #[.int .i64 0, .int .i64 0, .int .i64 0, .int .i64 0]) 4 32 Try.underlying22 hi hz0 hz1 hz2 rfl (by decide) _ _ _ rfl (unhide HO) ad n c (rowL (intF z) (n * 4)) rfl (unhide HL) (unhide HR) (unhide H1) ?_ ?_ ?_ ?_))
      · unfold maxLen; omega
      · omega
      · simp
      · intro v' w3 hown' hg _
        have b3 : Below w2.heap.size w2 w3 := ((Below.refl w2.heap.size w2).alloc (Nat.le_refl _) (.cells #[] 40)).grown hg (by simp) (by intro j hj; simp [Value.ownBlock] at hj; omega)
        have hown2 : w3.ownsRow w2.heap.size 40 4 v' n (rowL (intF z) (n * 4)) := by simpa using hown'
        rcases own_of_owns hown2 with ⟨_, h0⟩ | ⟨g, cap, rfl, hg1, hcap, hcm, ho⟩
        · omega
        · have B3 := B2.on b3
          have R3 := R2.below b3 (Nat.le_refl _)
          have y0 := B2.lt
          have gl := ho.lt
          clear hown' hg hown2 HO HR HL H1
          obtain ⟨c0, c1, c2, c3⟩ := B3.cells4
          have d0 := ho.cell (i := m * 4) (by omega)
          have d1 := ho.cell (i := m * 4 + 1) (by omega)
          have d2 := ho.cell (i := m * 4 + 2) (by omega)
          have d3 := ho.cell (i := m * 4 + 3) (by omega)
          have f0 := ho.frozen (m * 4)
          have f1 := ho.frozen (m * 4 + 1)
          have f2 := ho.frozen (m * 4 + 2)
          have f3 := ho.frozen (m * 4 + 3)
          unfold intF at d0 d1 d2 d3
          have O4 := ho.setInst m i
          have b4 : Below w2.heap.size w2 ((((w3.setCell ⟨g, m * 4, none⟩ (.int .i64 (i 0))).setCell ⟨g, m * 4 + 1, none⟩ (.int .i64 (i 1))).setCell ⟨g, m * 4 + 2, none⟩ (.int .i64 (i 2))).setCell ⟨g, m * 4 + 3, none⟩ (.int .i64 (i 3))) := (((b3.setCell hg1 _).setCell hg1 _).setCell hg1 _).setCell hg1 _
          go_wp2_with fail
          refine (C2.out g cap _ O4.row).mono ?_
          rintro e w5 ⟨rfl, hb⟩
          have b5 : Below w2.heap.size w2 w5 := Below.on b4 hb
          have R5 := R2.below b5 (Nat.le_refl _)
          clear hb c0 c1 c2 c3 d0 d1 d2 d3 f0 f1 f2 f3 b4 O4 ho B3 R3 b3 C2
          go_wp2_with fail
          refine (C3.out _ (R5.less (by omega))).mono ?_
          rintro e w6 ⟨rfl, hb⟩
          have b6 : Below w2.heap.size w2 w6 := Below.on b5 hb
          have R6 := R2.below b6 (Nat.le_refl _)
          have B6 := B2.on b6
          have bw : Below w.heap.size w w6 := Below.on b2 b6
          clear hb b5 R5 C3 b6 b2 B2 R2
          obtain ⟨c0, c1, c2, c3⟩ := B6.cells4
          obtain ⟨b, off, hsa, hbl, d0, d1, d2, d3⟩ := R6.at4 m hm'
          cases hsa
          have HS' := HS.out
          have HU' := HU.out
          clear HS HU
          generalize putPT n (putZ4 z m i) = T2, putPE n (putZ4 z m i) = E2, putPT m z = T3, putPE m z = E3 at *
          have tx2 := text_list T2
          have tx3 := text_list T3
          rcases HU' with rfl | ⟨rfl, hU⟩
          · rcases HS' with ⟨_, rfl⟩ | ⟨rfl, hT⟩
            · go_wp2
              go_quiet ((go_at_call 13; exact Calls.quiet_of_same (flip (num_any _ _))))
              go_wp2_with (go_at_call 13; refine (num_any _ _).mono ?_; rintro e w' ⟨rfl, rfl⟩)
              go_ret
              exact ⟨rfl, Below.drawn bw _⟩
            · cases e0 : (i 0 == z (m * 4)) <;> cases e1 : (i 1 == z (m * 4 + 1)) <;> cases e2 : (i 2 == z (m * 4 + 2)) <;> cases e3 : (i 3 == z (m * 4 + 3))
              all_goals
                rw [e0, e1, e2, e3] at hT
                simp only [Bool.and_true, Bool.and_false, Bool.true_and, Bool.false_and] at hT
                go_wp2
                go_quiet ((go_at_call 13; exact Calls.quiet_of_same (flip (num_any _ _))))
                go_wp2_with (go_at_call 13; refine (num_any _ _).mono ?_; rintro e w' ⟨rfl, rfl⟩)
                go_ret
                exact ⟨rfl, Below.drawn bw _⟩
          · rcases HS' with ⟨_, rfl⟩ | ⟨rfl, hT⟩
            · go_wp2
              go_quiet ((go_at_call 13; exact Calls.quiet_of_same (flip (num_any _ _))))
              go_wp2_with (go_at_call 13; refine (num_any _ _).mono ?_; rintro e w' ⟨rfl, rfl⟩)
              go_ret
              exact ⟨rfl, Below.drawn bw _⟩
            · cases e0 : (i 0 == z (m * 4)) <;> cases e1 : (i 1 == z (m * 4 + 1)) <;> cases e2 : (i 2 == z (m * 4 + 2)) <;> cases e3 : (i 3 == z (m * 4 + 3))
              all_goals
                rw [e0, e1, e2, e3] at hT
                simp only [Bool.and_true, Bool.and_false, Bool.true_and, Bool.false_and] at hT
                go_wp2
                go_quiet ((go_at_call 13; exact Calls.quiet_of_same (flip (num_any _ _))))
                go_wp2_with (go_at_call 13; refine (num_any _ _).mono ?_; rintro e w' ⟨rfl, rfl⟩)
                go_ret
                exact ⟨rfl, Below.drawn bw _⟩

end Go.Proofs.Ytkomapgmhipkaaa
