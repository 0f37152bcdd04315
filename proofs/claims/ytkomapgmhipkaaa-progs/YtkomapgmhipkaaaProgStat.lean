/-
  What package prog's functions hand back: statements, to be proved of the landed code; and what every program answers that is one.
-/
import Derived.Test.YtkomapgmhipkaaaInstsMem
namespace Go.Proofs.Ytkomapgmhipkaaa
open Go.RowKit
set_option linter.unusedSimpArgs false

def MayPC : Prop := ∀ (a : Option Addr) (n c : Nat) (z : Nat → Int) (w : World), n ≤ 1152921504606846976 → (Row w a (n * 4) fun i => .int .i64 (z i)) → Calls Try.prog 15 #[.slice a n c] w fun e w' => e = .returned (.bool (progMay n z)) ∧ Below w.heap.size w w'
def PutPC : Prop := ∀ (a : Option Addr) (n c : Nat) (z : Nat → Int) (w : World), n ≤ 1152921504606846976 → (Row w a (n * 4) fun i => .int .i64 (z i)) → Calls Try.prog 9 #[.slice a n c] w fun e w' => e = .returned (.tuple #[textS (putPT n z), .int .i64 (putPE n z)]) ∧ Below w.heap.size w w'
def GetPC : Prop := ∀ (l : List UInt8) (w : World), Calls Try.prog 11 #[textS l] w (GetPPost l w)

/-- A text that is none: no list. -/
theorem getP_not {l : List UInt8} {w w' : World} {e : Ending} (h : GetPPost l w e w') (ho : getPOk l = false) : e = .returned (.tuple #[.slice none 0 0, .int .i64 800]) ∧ Below w.heap.size w w' := by
  obtain ⟨x, rfl, _, _, hx, _, hb⟩ := h
  rw [hx ho]
  unfold getPE
  rw [ho]
  exact ⟨rfl, hb⟩
/-- A text that is one: its instructions, in new memory. -/
theorem getP_yes {l : List UInt8} {w w' : World} {e : Ending} (h : GetPPost l w e w') (ho : getPOk l = true) :
    ∃ a c, e = .returned (.tuple #[.slice a (textN l) c, .int .i64 0]) ∧ (a = none → textN l = 0 ∧ c = 0) ∧ (Row w' a (textN l * 4) fun i => .int .i64 (textZ l i)) ∧ (0 < textN l → ∃ b, a = some ⟨b, 0, none⟩ ∧ w.heap.size ≤ b ∧ Own w' b (textN l * 4) (intF (textZ l))) ∧ Below w.heap.size w w' := by
  obtain ⟨x, rfl, hn, hx, _, hown, hb⟩ := h
  have hx := hx ho
  rw [hx] at hn hown
  unfold getPE
  rw [ho, hx]
  refine ⟨x.a, x.c, rfl, hn, ?_, fun hp => ?_, hb⟩
  · by_cases hp : 0 < textN l
    · obtain ⟨b, e, _, _, ho⟩ := hown hp
      rw [e]; exact ho.row
    · rw [show textN l = 0 by omega, Nat.zero_mul]; exact row_zero _ _ _
  · obtain ⟨b, e, h1, _, h3⟩ := hown hp
    exact ⟨b, e, h1, h3⟩
theorem GetPC.no {l : List UInt8} (hG : GetPC) (ho : getPOk l = false) (w : World) : Calls Try.prog 11 #[textS l] w fun e w' => e = .returned (.tuple #[.slice none 0 0, .int .i64 800]) ∧ Below w.heap.size w w' :=
  (hG l w).mono fun _ _ h => getP_not h ho
theorem GetPC.yes {l : List UInt8} (hG : GetPC) (ho : getPOk l = true) (w : World) : Calls Try.prog 11 #[textS l] w fun e w' => ∃ a c, e = .returned (.tuple #[.slice a (textN l) c, .int .i64 0]) ∧ (a = none → textN l = 0 ∧ c = 0) ∧ (Row w' a (textN l * 4) fun i => .int .i64 (textZ l i)) ∧ (0 < textN l → ∃ b, a = some ⟨b, 0, none⟩ ∧ w.heap.size ≤ b ∧ Own w' b (textN l * 4) (intF (textZ l))) ∧ Below w.heap.size w w' :=
  (hG l w).mono fun _ _ h => getP_yes h ho

/-- A block of ints is a row of them. -/
theorem Blk.ints {w : World} {b : Nat} {l : List Value} (h : Blk w b l) (m : Nat) (z : Nat → Int) (hl : l = rowL (intF z) m) : Row w (some ⟨b, 0, none⟩) m fun i => .int .i64 (z i) := by
  subst hl
  exact Own.row ⟨_, h, fun i hi => rowL_get hi⟩

def zOf (l : List Int) (i : Nat) : Int := l.getD i 0

set_option maxRecDepth 10000 in
set_option maxHeartbeats 2000000 in
theorem awake8_any (hM : MayPC) (hP : PutPC) (hG : GetPC) (w : World) :
    Calls Try.prog 19 #[] w fun e w' => e = .returned (.bool true) ∧ Below w.heap.size w w' := by
  have C1 := hide fun (w : World) h => hP (some ⟨w.heap.size, 0, none⟩) 2 2 (zOf [4, 1, 2, 0, 5, 0, 0, 0]) (w.alloc (.cells #[.int .i64 4, .int .i64 1, .int .i64 2, .int .i64 0, .int .i64 5, .int .i64 0, .int .i64 0, .int .i64 0] 40)) (by omega) h
  have C2 := hide fun w => hG.yes (l := [2, 4, 1, 2, 0, 5, 0, 0, 0]) (by kernel_rfl) w
  have C3 := hide fun (w : World) h => hP (some ⟨w.heap.size, 0, none⟩) 1 1 (zOf [4, 0, 0, 0]) (w.alloc (.cells #[.int .i64 4, .int .i64 0, .int .i64 0, .int .i64 0] 40)) (by omega) h
  have C4 := hide fun w => hG.no (l := []) (by kernel_rfl) w
  have C5 := hide fun w => hG.yes (l := [0]) (by kernel_rfl) w
  have C6 := hide fun (b : Nat) (w : World) h => hM (some ⟨b, 0, none⟩) 2 2 (zOf [4, 1, 2, 0, 5, 0, 0, 0]) w (by omega) h
  rw [show putPT 2 (zOf [4, 1, 2, 0, 5, 0, 0, 0]) = [2, 4, 1, 2, 0, 5, 0, 0, 0] by kernel_rfl, show putPE 2 (zOf [4, 1, 2, 0, 5, 0, 0, 0]) = 0 by kernel_rfl] at C1
  rw [show textN [2, 4, 1, 2, 0, 5, 0, 0, 0] = 2 by kernel_rfl] at C2
  rw [show putPT 1 (zOf [4, 0, 0, 0]) = [] by kernel_rfl, show putPE 1 (zOf [4, 0, 0, 0]) = 800 by kernel_rfl] at C3
  rw [show textN [0] = 0 by kernel_rfl] at C5
  rw [show progMay 2 (zOf [4, 1, 2, 0, 5, 0, 0, 0]) = true by kernel_rfl] at C6
  unfold textS at C1 C2 C3 C4 C5
  clear hM hP hG
  go_enter Try.func19, Try.ntmps19
  go_wp2_with fail
  have B := blk_new w [.int .i64 4, .int .i64 1, .int .i64 2, .int .i64 0, .int .i64 5, .int .i64 0, .int .i64 0, .int .i64 0] 40
  refine (C1.out _ (B.ints 8 _ rfl)).mono ?_
  rintro e w1 ⟨rfl, hb⟩
  have b1 : Below w.heap.size w w1 := Below.on (by go_grown) hb
  have s1 := b1.size
  replace B := B.on hb
  clear hb C1
  go_wp2_with fail
  refine (C2.out _).mono ?_
  rintro e w2 ⟨a2, c2, rfl, _, R2, _, hb⟩
  have b2 : Below w.heap.size w w2 := Below.on b1 hb
  have s2 := b2.size
  replace B := B.on hb
  clear hb C2 b1 s1
  go_wp2_with fail
  have B3 := blk_new w2 [.int .i64 4, .int .i64 0, .int .i64 0, .int .i64 0] 40
  refine (C3.out _ (B3.ints 4 _ rfl)).mono ?_
  rintro e w3 ⟨rfl, hb⟩
  have b3 : Below w.heap.size w w3 := Below.on (b2.alloc s2 _) hb
  have s3 := b3.size
  replace B := (B.alloc _).on hb
  have R3 := R2.below (Below.on (Below.alloc (Below.refl _ w2) (Nat.le_refl _) _) hb) (Nat.le_refl _)
  clear hb C3 b2 s2 B3 R2
  go_wp2_with fail
  refine (C4.out _).mono ?_
  rintro e w4 ⟨rfl, hb⟩
  have b4 : Below w.heap.size w w4 := Below.on b3 hb
  have s4 := b4.size
  replace B := B.on hb
  have R4 := R3.below hb (Nat.le_refl _)
  clear hb C4 b3 s3 R3
  go_wp2_with fail
  refine (C5.out _).mono ?_
  rintro e w5 ⟨a5, c5, rfl, _, _, _, hb⟩
  have b5 : Below w.heap.size w w5 := Below.on b4 hb
  replace B := B.on hb
  have R5 := hide (R4.below hb (Nat.le_refl _))
  have BR := hide (B.ints 8 (zOf [4, 1, 2, 0, 5, 0, 0, 0]) rfl)
  clear hb C5 b4 s4 R4 B
  go_wp2_with (first | (go_at_call 13; refine (num_any _ _).mono ?_; rintro e w' ⟨rfl, rfl⟩) | (go_at_call 14; refine (sameInsts_any _ _ 2 2 2 c2 _ _ _ (by omega) BR.out R5.out).mono ?_; rintro e w' ⟨rfl, q, rfl⟩; rw [show (decide (2 = 2) && eqTo (zOf [4, 1, 2, 0, 5, 0, 0, 0]) (textZ [2, 4, 1, 2, 0, 5, 0, 0, 0]) (2 * 4)) = true by kernel_rfl]))
  refine (C6.out _ _ ?_).mono ?_
  · exact BR.out.drewN _
  rintro e w6 ⟨rfl, hb⟩
  have b6 : Below w.heap.size w w6 := Below.on (Below.drawn b5 _) hb
  clear hb C6 b5 R5 BR
  go_wp2
  go_ret
  exact ⟨rfl, b6⟩

end Go.Proofs.Ytkomapgmhipkaaa
