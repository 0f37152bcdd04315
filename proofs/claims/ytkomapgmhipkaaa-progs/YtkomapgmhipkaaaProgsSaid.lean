/-
  The law Progs, if package prog's functions keep their statements.
-/
import Derived.Test.YtkomapgmhipkaaaProgStat
import Derived.Test.YtkomapgmhipkaaaInstsLend
namespace Go.Proofs.Ytkomapgmhipkaaa
open Go.RowKit
set_option linter.unusedSimpArgs false
set_option linter.unusedVariables false

/-- How many instructions are got. -/
def getPN (l : List UInt8) : Nat := bif getPOk l then textN l else 0
theorem getPN_le (l : List UInt8) : getPN l ≤ 255 := by
  unfold getPN
  cases getPOk l
  · exact Nat.zero_le _
  · exact textN_le l
theorem getP_any {l : List UInt8} {w w' : World} {e : Ending} (h : GetPPost l w e w') :
    ∃ a c, e = .returned (.tuple #[.slice a (getPN l) c, .int .i64 (getPE l)]) ∧ (Row w' a (getPN l * 4) fun i => .int .i64 (textZ l i)) ∧ (0 < getPN l → ∃ b, a = some ⟨b, 0, none⟩ ∧ w.heap.size ≤ b ∧ Own w' b (getPN l * 4) (intF (textZ l))) ∧ Below w.heap.size w w' := by
  cases ho : getPOk l
  · obtain ⟨rfl, hb⟩ := getP_not h ho
    unfold getPN getPE
    rw [ho]
    exact ⟨none, 0, rfl, by rw [cond_false, Nat.zero_mul]; exact row_zero _ _ _, fun hp => absurd hp (Nat.lt_irrefl _), hb⟩
  · obtain ⟨a, c, rfl, _, hr, hown, hb⟩ := getP_yes h ho
    unfold getPN getPE
    rw [ho]
    exact ⟨a, c, rfl, hr, hown, hb⟩

set_option maxRecDepth 100000 in
set_option maxHeartbeats 4000000 in
theorem progs_said (hM : MayPC) (hP : PutPC) (hG : GetPC) (a : Option Addr) (n c : Nat) (z : Nat → Int) (l : List UInt8) (w : World) (hn : n * 32 ≤ 140737488351232) (ha : a = none → n = 0 ∧ c = 0) (h : Row w a (n * 4) fun i => .int .i64 (z i)) :
    Calls Try.prog 3 #[.slice a n c, textS l] w fun e w' => e = .returned (.bool true) ∧ Below w.heap.size w w' := by
  have C0 := hide (lendInsts_any a n c z w hn ha h)
  have C1 := hide fun (g cap : Nat) (w : World) h => hP (some ⟨g, 0, none⟩) n cap z w (by omega) h
  have C2 := hide fun (w : World) h => rputProg_any a n c z w (by omega) h
  have C3 := hide fun w => (hG l w).mono fun _ _ h => getP_any h
  have C4 := hide fun w => (rgetProg_any l w).mono fun _ _ h => getP_any h
  have C5 := hide fun (g cap : Nat) (w : World) h => hM (some ⟨g, 0, none⟩) n cap z w (by omega) h
  have C6 := hide fun (w : World) h => rprogMay_any a n c z w (by omega) h
  have HR := hide h
  have C7 := hide fun w => awake8_any hM hP hG w
  have hg := getPN_le l
  have tx := text_list (putPT n z)
  clear hM hP hG
  generalize putPT n z = x, putPE n z = xe at *
  generalize progMay n z = m at *
  generalize getPN l = gn, getPE l = ge, textZ l = y at *
  unfold textS at *
  go_enter Try.func3, Try.ntmps3
  go_wp2_with fail
  refine C0.out.mono ?_
  rintro e w1 ⟨g, cap, rfl, hg1, hcap, O1, b1⟩
  have R1 := h.below b1 (Nat.le_refl _)
  clear C0
  go_wp2_with fail
  refine (C1.out g cap _ ((O1.row.less (by omega)).congr fun i hi => by unfold intF lentI; rw [if_pos hi])).mono ?_
  rintro e w2 ⟨rfl, hb⟩
  have b2 : Below w.heap.size w w2 := Below.on b1 hb
  have R2 := R1.below hb (Nat.le_refl _)
  have O2 := O1.on hb
  clear hb C1 b1 R1 O1
  go_wp2_with fail
  refine (C2.out _ R2).mono ?_
  rintro e w3 ⟨rfl, hb⟩
  have b3 : Below w.heap.size w w3 := Below.on b2 hb
  have R3 := R2.below hb (Nat.le_refl _)
  have O3 := O2.on hb
  clear hb C2 b2 R2 O2
  go_wp2_with fail
  refine (C3.out _).mono ?_
  rintro e w4 ⟨xa, xc, rfl, XR, XO, hb⟩
  have b4 : Below w.heap.size w w4 := Below.on b3 hb
  have R4 := R3.below hb (Nat.le_refl _)
  have O4 := O3.on hb
  have s3 := b3.size
  have gl := O3.lt
  clear hb C3 b3 R3 O3
  go_wp2_with fail
  refine (C4.out _).mono ?_
  rintro e w5 ⟨ya, yc, rfl, YR, _, hb⟩
  have b5 : Below w.heap.size w w5 := Below.on b4 hb
  have R5 := hide (R4.below hb (Nat.le_refl _))
  have O5 := hide (O4.on hb)
  have XR5 := hide (XR.below hb (Nat.le_refl _))
  have XO5 : Hid (0 < gn → ∃ b, xa = some ⟨b, 0, none⟩ ∧ w3.heap.size ≤ b ∧ Own w5 b (gn * 4) (intF y)) := fun hp => by
    obtain ⟨b, e1, e2, e3⟩ := XO hp
    exact ⟨b, e1, e2, e3.on hb⟩
  have YR5 := hide YR
  have CS : Hid (Calls Try.prog 14 #[.slice xa gn xc, .slice ya gn yc] w5 fun e w' => e = .returned (.bool true) ∧ ∃ q, w' = w5.drewN q) := by
    have := sameInsts_any xa ya gn xc gn yc y y w5 (by omega) XR5.out YR5.out
    rw [eqTo_mk fun _ _ => rfl, decide_eq_true rfl] at this
    exact this
  clear hb C4 b4 R4 O4 XR XO YR ha h
  go_wp2_with (first | (go_at_call 13; refine (num_any _ _).mono ?_; rintro e w' ⟨rfl, rfl⟩) | (go_at_call 14; refine CS.out.mono ?_; rintro e w' ⟨rfl, q, rfl⟩))
  refine (C5.out g cap _ ?_).mono ?_
  · exact ((O5.out.row.less (by omega)).congr fun i hi => by unfold intF lentI; rw [if_pos hi]).drewN _
  rintro e w6 ⟨rfl, hb⟩
  have b6 : Below w5.heap.size w5 w6 := Below.on (Below.drawn (Below.refl _ _) _) hb
  clear hb C5
  go_wp2_with fail
  refine (C6.out _ (R5.out.below b6 (Nat.le_refl _))).mono ?_
  rintro e w7 ⟨rfl, hb⟩
  have b7 : Below w5.heap.size w5 w7 := Below.on b6 hb
  have bw : Below w.heap.size w w7 := Below.on b5 b7
  have R7 := hide (R5.out.below b7 (Nat.le_refl _))
  have O7 := hide (O5.out.on b7)
  have X7 : Hid (0 < gn → ∃ b, xa = some ⟨b, 0, none⟩ ∧ w3.heap.size ≤ b ∧ Own w7 b (gn * 4) (intF y)) := fun hp => by
    obtain ⟨b, e1, e2, e3⟩ := XO5.out hp
    exact ⟨b, e1, e2, e3.on b7⟩
  clear hb C6 b6 b7 b5 R5 O5 XR5 XO5 YR5 CS
  by_cases hp : 0 < gn
  · obtain ⟨b, rfl, hb3, XO⟩ := X7.out hp
    clear X7
    go_wp2_with fail
    refine (spoilInsts_any b gn xc y w7 (by omega) XO).mono ?_
    rintro e w8 ⟨rfl, _, ht, _⟩
    have b8 : Below w.heap.size w w8 := bw.trans (ht.below (by have := XO.lt; omega) |>.mono (by omega))
    have R8 : Hid (Row w8 a (n * 4) fun i => .int .i64 (z i)) := by
      by_cases h0 : n = 0
      · subst h0; exact row_zero _ _ _
      · refine R7.out.touch ht fun b' o e => .inl ?_
        obtain ⟨_, _, e', hlt, _⟩ := HR.out 0 (by omega)
        rw [e] at e'
        cases e'
        omega
    have O8 := hide (O7.out.touch ht (.inl (by omega)))
    clear ht XO bw R7 O7 HR
    go_wp2_with fail
    refine (keptInsts_yes g cap a n c z w8 hn hcap O8.out R8.out).mono ?_
    rintro e w9 ⟨rfl, q, rfl⟩
    clear R8 O8
    go_wp2_with fail
    refine (C7.out _).mono ?_
    rintro e w9 ⟨rfl, hb⟩
    have b9 : Below w.heap.size w w9 := Below.on (Below.drawn b8 _) hb
    clear hb C7 b8
    go_wp2
    go_ret
    exact ⟨rfl, b9⟩
  · obtain rfl : gn = 0 := by omega
    clear X7
    go_wp2_with fail
    refine (spoilInsts_none xa xc w7).mono ?_
    rintro e w8 ⟨rfl, rfl⟩
    go_wp2_with fail
    refine (keptInsts_yes g cap a n c z w7 hn hcap O7.out R7.out).mono ?_
    rintro e w9 ⟨rfl, q, rfl⟩
    clear R7 O7
    go_wp2_with fail
    refine (C7.out _).mono ?_
    rintro e w9 ⟨rfl, hb⟩
    have b9 : Below w.heap.size w w9 := Below.on (Below.drawn bw _) hb
    clear hb C7 bw
    go_wp2
    go_ret
    exact ⟨rfl, b9⟩

end Go.Proofs.Ytkomapgmhipkaaa
