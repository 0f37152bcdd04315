/-
  What every program answers that is one: chapter 11's own example holds, if package start's functions keep their statements.
-/
import Derived.Test.YtlaanhkmoficbaaStartStat
import Derived.Test.YtlaanhkmoficbaaStay
import Derived.Test.YtlaanhkmoficbaaStoreAll
import Derived.Test.YtlaanhkmoficbaaRefSmall
namespace Go.Proofs.Ytlaanhkmoficbaa
open Go.RowKit
set_option linter.unusedSimpArgs false
set_option linter.unusedVariables false

/-- One instruction's numbers. -/
def oneI (a b c d : Int) (j : Nat) : Int := [a, b, c, d].getD j 0
theorem Blk.inst {w : World} {x : Nat} {a b c d : Int} (h : Blk w x [.int .i64 a, .int .i64 b, .int .i64 c, .int .i64 d]) : Row w (some ⟨x, 0, none⟩) (1 * 4) fun j => .int .i64 (oneI a b c d j) := by
  refine Own.row ⟨_, h, fun j hj => ?_⟩
  have : j = 0 ∨ j = 1 ∨ j = 2 ∨ j = 3 := by omega
  rcases this with rfl | rfl | rfl | rfl <;> rfl
/-- What New hands back, as a walk takes it. -/
theorem newS_any {id l cl : Int} {n : Nat} {z : Nat → Int} {w w' : World} {e : Ending} (h : NewSPost id l cl n z w e w') :
    ∃ a c, e = .returned (.tuple #[sessA (newI (startMay id l cl n z) id l cl) (.slice a (newN (startMay id l cl n z) n) c) (.slice none 0 0) (.slice none 0 0), .int .i64 (newE (startMay id l cl n z))]) ∧ (Row w' a (newN (startMay id l cl n z) n * 4) fun k => .int .i64 (z k)) ∧
      (0 < newN (startMay id l cl n z) n → ∃ b, a = some ⟨b, 0, none⟩ ∧ w.heap.size ≤ b ∧ b < w'.heap.size ∧ Own w' b (newN (startMay id l cl n z) n * 4) (intF z)) ∧ Below w.heap.size w w' := by
  obtain ⟨x, rfl, hn, _, hr, ho, hb⟩ := h
  rw [hn] at hr ho
  exact ⟨x.a, x.c, by rw [hn], hr, ho, hb⟩

/-- A program in memory of its own: blocks from B up to C. -/
def OwnP (W : World) (B C : Nat) (a : Option Addr) (m : Nat) (z : Nat → Int) : Prop := 0 < m → ∃ b, a = some ⟨b, 0, none⟩ ∧ B ≤ b ∧ b < C ∧ Own W b (m * 4) (intF z)
theorem OwnP.row {W : World} {B C : Nat} {a : Option Addr} {m : Nat} {z : Nat → Int} (h : OwnP W B C a m z) : Row W a (m * 4) fun k => .int .i64 (z k) := by
  by_cases h0 : 0 < m
  · obtain ⟨b, rfl, _, _, ho⟩ := h h0
    exact ho.row
  · rw [show m = 0 by omega, Nat.zero_mul]; exact row_zero _ _ _
theorem OwnP.on {W W' : World} {B C : Nat} {a : Option Addr} {m : Nat} {z : Nat → Int} (h : OwnP W B C a m z) (hb : Below W.heap.size W W') : OwnP W' B C a m z := fun h0 => by
  obtain ⟨b, e, h1, h2, ho⟩ := h h0
  exact ⟨b, e, h1, h2, ho.on hb⟩
theorem OwnP.touch {W W' : World} {B C B' C' : Nat} {a : Option Addr} {m : Nat} {z : Nat → Int} (h : OwnP W B C a m z) (ht : Touch B' C' W W') (hC : C' ≤ B) : OwnP W' B C a m z := fun h0 => by
  obtain ⟨b, e, h1, h2, ho⟩ := h h0
  exact ⟨b, e, h1, h2, ho.touch ht (.inr (by omega))⟩
/-- What New hands back, by letters. -/
theorem newS_by {id l cl : Int} {n : Nat} {z : Nat → Int} {w w' : World} {e : Ending} (h : NewSPost id l cl n z w e w') :
    ∃ a c, e = .returned (.tuple #[sessA (newI (startMay id l cl n z) id l cl) (.slice a (newN (startMay id l cl n z) n) c) (.slice none 0 0) (.slice none 0 0), .int .i64 (newE (startMay id l cl n z))]) ∧ OwnP w' w.heap.size w'.heap.size a (newN (startMay id l cl n z) n) z ∧ Below w.heap.size w w' := by
  obtain ⟨a, c, h1, _, h3, h4⟩ := newS_any h
  exact ⟨a, c, h1, h3, h4⟩
theorem newE_zero (ok : Bool) : (newE ok == 0) = ok := by cases ok <;> rfl
theorem newN_le (ok : Bool) (n : Nat) : newN ok n ≤ n := by cases ok <;> unfold newN <;> simp
/-- A session read whole, as a quiet walk meets it. -/
theorem run_load_sess {W : World} {b : Nat} {i : Nat → Int} {p r t : Value} (h : Blk W b (sessL i p r t)) : (Instr.loadAt 30 (.pointer (some ⟨b, 0, none⟩))).run Try.prog W = .ok (sessA i p r t) W := by
  simp only [Instr.loadAt, Instr.sureAddr, Sem.run_bind, Sem.run_pure, Result.andThen_ok, load_sess h]

set_option maxRecDepth 100000 in
set_option maxHeartbeats 2000000 in
theorem awake11_any (hM : MaySC) (hN : NewSC) (w : World) :
    Calls Try.prog 16 #[] w fun e w' => e = .returned (.bool true) ∧ Below w.heap.size w w' := by
  have C1 := hide fun w b h => (hN 7 1 3 (some ⟨b, 0, none⟩) 1 1 (oneI 5 0 0 0) w (by omega) (fun h => by cases h) h).mono fun _ _ h => newS_any h
  have C2 := hide fun w => (hN 0 2 1 none 0 0 (fun _ => 0) w (by omega) (fun _ => ⟨rfl, rfl⟩) (row_zero _ _ _)).mono fun _ _ h => newS_any h
  have C3 := hide fun w b h => hM 7 1 3 (some ⟨b, 0, none⟩) 1 1 (oneI 5 0 0 0) w (by omega) h
  have m1 : startMay 7 1 3 1 (oneI 5 0 0 0) = true := by kernel_rfl
  have m2 : startMay 0 2 1 0 (fun _ => 0) = false := by kernel_rfl
  rw [m1] at C1 C3
  rw [m2] at C2
  clear hM hN m1 m2
  simp only [newE, newN, cond_true, cond_false] at C1 C2
  unfold startA at C1 C2 C3
  have bb : Below w.heap.size w ((w.alloc (.cells #[.int .i64 5, .int .i64 0, .int .i64 0, .int .i64 0] 43)).alloc (.cells #[.int .i64 7, .int .i64 1, .int .i64 3, .slice (some ⟨w.heap.size, 0, none⟩) 1 1] 24)) := ((Below.refl _ w).alloc (Nat.le_refl _) _).alloc (by simp) _
  have B0 := (blk_new w [.int .i64 5, .int .i64 0, .int .i64 0, .int .i64 0] 43).alloc (.cells #[.int .i64 7, .int .i64 1, .int .i64 3, .slice (some ⟨w.heap.size, 0, none⟩) 1 1] 24)
  have B1 := blk_new (w.alloc (.cells #[.int .i64 5, .int .i64 0, .int .i64 0, .int .i64 0] 43)) (startL 7 1 3 (.slice (some ⟨w.heap.size, 0, none⟩) 1 1)) 24
  rw [World.size_alloc] at B1
  replace B0 := hide B0
  replace B1 := hide B1
  replace bb := hide bb
  go_enter Try.func16, Try.ntmps16
  go_wp2_with fail
  refine (C1.out _ _ B0.out.inst).mono ?_
  rintro e w1 ⟨a1, c1, rfl, R1, _, hb⟩
  have b1 := hide (Below.on bb.out hb)
  replace R1 := hide R1
  replace B0 := hide (B0.out.on hb)
  replace B1 := hide (B1.out.on hb)
  clear hb bb C1
  go_wp2_with (refine wpList_store_all rfl 30 (.tmp 2) (.tmp 12) rfl _ _ (sessL (newI true 7 1 3) (.slice a1 1 c1) (.slice none 0 0) (.slice none 0 0)) rfl rfl (blk_new _ (sessL (fun _ => 0) (.slice none 0 0) (.slice none 0 0) (.slice none 0 0)) 30) rfl Try.sizeSess rfl ?_; intro W BW TW _)
  have bt := made_touch TW
  have b2 := hide (Below.on b1.out bt)
  replace R1 := hide (R1.out.below bt (Nat.le_refl _))
  replace B0 := hide (B0.out.on bt)
  replace B1 := hide (B1.out.on bt)
  replace BW := hide BW
  clear bt TW b1
  go_wp2_with fail
  refine (C2.out _).mono ?_
  rintro e w3 ⟨a3, c3, rfl, _, _, hb⟩
  have b3 := hide (Below.on b2.out hb)
  replace R1 := hide (R1.out.below hb (Nat.le_refl _))
  replace B0 := hide (B0.out.on hb)
  replace B1 := hide (B1.out.on hb)
  replace BW := hide (BW.out.on hb)
  clear hb b2 C2
  go_wp2_with (first | (refine wpList_store_all rfl 30 (.tmp 4) (.tmp 17) rfl _ _ (sessL (newI false 0 2 1) (.slice a3 0 c3) (.slice none 0 0) (.slice none 0 0)) rfl rfl (blk_new _ (sessL (fun _ => 0) (.slice none 0 0) (.slice none 0 0) (.slice none 0 0)) 30) rfl Try.sizeSess rfl ?_; intro W' _ TW _; have bt := made_touch TW; have b4 := hide (Below.on b3.out bt); replace R1 := hide (R1.out.below bt (Nat.le_refl _)); replace B0 := hide (B0.out.on bt); replace B1 := hide (B1.out.on bt); replace BW := hide (BW.out.on bt); clear bt TW b3; obtain ⟨e0, e1, e2, e3⟩ := B1.out.start) | (refine wpList_load_sess rfl (.tmp 2) rfl _ rfl BW.out ?_))
  refine (sameSession_yes (newI true 7 1 3) a1 (some ⟨w.heap.size, 0, none⟩) none none none none 1 c1 1 0 0 0 0 0 0 (oneI 5 0 0 0) (fun _ => 0) (fun _ => 0) _ (by omega) (by omega) (by omega) R1.out B0.out.inst (row_zero _ _ _) (row_zero _ _ _) (row_zero _ _ _) (row_zero _ _ _)).mono ?_
  rintro e w5 ⟨rfl, hb⟩
  have b5 := hide (Below.on b4.out hb)
  replace B0 := hide (B0.out.on hb)
  replace B1 := hide (B1.out.on hb)
  clear hb b4 R1 BW e0 e1 e2 e3
  obtain ⟨e0, e1, e2, e3⟩ := B1.out.start
  go_wp2_with (go_at_call 11; refine (num_any _ _).mono ?_; rintro e w' ⟨rfl, rfl⟩)
  refine (C3.out _ _ B0.out.inst).mono ?_
  rintro e w6 ⟨rfl, hb⟩
  have b6 := hide (Below.on b5.out hb)
  clear hb b5 B0 B1 e0 e1 e2 e3
  go_wp2
  go_ret
  exact ⟨rfl, b6.out⟩

end Go.Proofs.Ytlaanhkmoficbaa
