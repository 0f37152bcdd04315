/-
  The law ClockRow: a clock's numbers are all of them, in their row. Its walk, if Next keeps its statement.
-/
import Derived.Test.YtjbdpelapehoiaaClockSaid
import Derived.Test.YtjbdpelapehoiaaPlain
namespace Go.Proofs.Ytjbdpelapehoiaa
open Go.RowKit
set_option linter.unusedSimpArgs false
set_option linter.unusedVariables false

theorem mask63 (n : Int) : bits .and .i64 n 63 = n % 64 := mask 6 (by decide) n
theorem updQ_twice (c : Nat → Int) (k : Nat) (x x' : Int) : updQ (updQ c k x) k x' = updQ c k x' := funext fun i => by
  unfold updQ; split <;> rfl
theorem allUp_upd {c : Nat → Int} {h : Int} {n k : Nat} {x : Int} (hc : ∀ i, i < n → upToV (c i) h = true) (hx : upToV x h = true) : allUp (updQ c k x) h n = true := allUp_mk fun i hi => by
  unfold updQ; split
  · exact hx
  · exact hc i hi
/-- One level's clock at i, the others at 0. -/
def onlyQ (g : Nat) (i : Int) : Nat → Int := updQ (fun _ => 0) g i
theorem onlyQ_ok {g : Nat} {i m : Int} (hg : g < 4) (hi : 0 ≤ i) (hi' : i ≤ 65535) (hm : 0 ≤ m) (hm' : m ≤ 65535) : nextOk (onlyQ g i) g m = true :=
  nextOk_mk (upToV_of (by omega) (by omega)) (upToV_of hm hm') (allUp_upd (fun _ _ => rfl) (upToV_of hi hi'))
theorem onlyQ_next {g : Nat} {i m : Int} (hg : g < 4) (hi : 0 ≤ i) (hm : i < m) (hm' : m ≤ 65535) : nextE (onlyQ g i) g m = 0 ∧ nextC (onlyQ g i) g m = onlyQ g (i + 1) ∧ nextK (onlyQ g i) g m = i + 1 := by
  have h0 : onlyQ g i ((g : Int)).toNat = i := by rw [Int.toNat_natCast]; exact updQ_same _ _ _
  obtain ⟨e1, e2, e3⟩ := next_on (onlyQ_ok hg hi (by omega) (by omega : (0 : Int) ≤ m) hm') (by rw [h0]; omega)
  rw [h0] at e2 e3
  refine ⟨e1, ?_, e3⟩
  rw [e2, Int.toNat_natCast]
  exact updQ_twice _ _ _ _
theorem onlyQ_full {g : Nat} {i m : Int} (hg : g < 4) (hi : 0 ≤ i) (hi' : i ≤ 65535) (hm : 0 ≤ m) (hm' : m ≤ i) : nextE (onlyQ g i) g m = 501 ∧ nextC (onlyQ g i) g m = (fun _ => 0) ∧ nextK (onlyQ g i) g m = 0 := by
  have h0 : onlyQ g i ((g : Int)).toNat = i := by rw [Int.toNat_natCast]; exact updQ_same _ _ _
  exact next_full (onlyQ_ok hg hi hi' hm (by omega)) (by rw [h0]; exact hm')

set_option maxHeartbeats 2000000 in
theorem clockRow_said (hN : NextC) (a0 a1 : Int) (w : World) :
    Calls Try.prog 6 #[.int .i64 a0, .int .i64 a1] w fun e w' => e = .returned (.bool true) ∧ Below w.heap.size w w' := by
  have C1 := hide hN
  have C3 := hide fun w => awake5_any hN w
  clear hN
  have m3 := mask3 a0
  have m63 := mask63 a1
  obtain ⟨g, hg, eg⟩ : ∃ g : Nat, g < 4 ∧ a0 % 4 = g := ⟨(a0 % 4).toNat, by omega, by omega⟩
  obtain ⟨c, hc, ec⟩ : ∃ c : Nat, c < 64 ∧ a1 % 64 = c := ⟨(a1 % 64).toNat, by omega, by omega⟩
  rw [eg] at m3
  rw [ec] at m63
  clear eg ec
  go_enter Try.func6, Try.ntmps6
  go_wp2_with fail
  refine (C3.out _).mono ?_
  rintro e w1 ⟨rfl, b1⟩
  clear C3
  have z1 := b1.size
  go_wp2_with fail
  go_loopw [8] (fun i wr => ∃ k : Nat, k ≤ c ∧ i = .int .i64 (k + 1 : Nat) ∧ Blk wr w1.heap.size (quadL (onlyQ g k)) ∧ Below w.heap.size w wr) (fun i _ => c + 1 - (intOf i).toNat)
  case atStart =>
    refine ⟨0, Nat.zero_le _, rfl, ?_, b1.alloc b1.size _⟩
    have := blk_new w1 (quadL fun _ => 0) 22
    have e : quadL (onlyQ g ((0 : Nat) : Int)) = quadL fun _ => 0 := by
      unfold quadL onlyQ updQ; simp
    rw [e]
    exact this
  case round =>
    obtain ⟨k, hk, rfl, B1, hb⟩ := hrel
    clear b1
    obtain ⟨⟨c0, c1, c2, c3⟩, f0, f1, f2, f3⟩ := B1.four
    have y1 := B1.lt
    by_cases hlt : k < c
    · have i1 : ((k : Int) + 1) ≤ (c : Int) := by omega
      have C := C1.out (onlyQ g k) g c
      obtain ⟨e1, e2, e3⟩ := onlyQ_next (g := g) (i := k) (m := c) hg (by omega) (by omega) (by omega)
      rw [e1, e2, e3] at C
      clear e1 e2 e3
      unfold quadA at C
      have C2 := hide C
      clear C
      go_wp2_with fail
      refine (C2.out _).mono ?_
      rintro e w2 ⟨rfl, hb2⟩
      have b2 : Below w.heap.size w w2 := Below.on hb hb2
      have B2 := B1.on hb2
      have y2 := B2.lt
      clear hb2 hb B1 c0 c1 c2 c3 f0 f1 f2 f3 C2
      obtain ⟨⟨c0, c1, c2, c3⟩, f0, f1, f2, f3⟩ := B2.four
      have s2 := b2.size
      go_wp2_with (go_at_call 9; refine (num_any _ _).mono ?_; rintro e w' ⟨rfl, rfl⟩)
      go_roundw
      case rel => exact ⟨k + 1, by omega, by go_num, (B2.over _).alloc _, (Below.over b2 z1 _).alloc (by simp only [World.size_setCell]; exact s2) _⟩
      case measure => simp [intOf]; omega
    · obtain rfl : k = c := by omega
      have i1 : ¬ ((k : Int) + 1) ≤ (k : Int) := by omega
      obtain ⟨e1, e2, e3⟩ := onlyQ_full (g := g) (i := k) (m := k) hg (by omega) (by omega) (by omega) (by omega)
      have C := C1.out (onlyQ g k) g k
      rw [e1, e2, e3] at C
      obtain ⟨e1, e2, e3⟩ := onlyQ_next (g := g) (i := k) (m := k + 1) hg (by omega) (by omega) (by omega)
      have D := C1.out (onlyQ g k) g (k + 1)
      rw [e1, e2, e3] at D
      unfold quadA at C D
      have C2 := hide C
      have D2 := hide D
      clear e1 e2 e3 C D C1
      go_wp2_with fail
      refine (C2.out _).mono ?_
      rintro e w2 ⟨rfl, hb2⟩
      have b2 : Below w.heap.size w w2 := Below.on hb hb2
      have B2 := B1.on hb2
      clear hb2 hb B1 c0 c1 c2 c3 f0 f1 f2 f3 C2
      obtain ⟨⟨c0, c1, c2, c3⟩, f0, f1, f2, f3⟩ := B2.four
      have y2 := B2.lt
      have s2 := b2.size
      go_wp2_with fail
      refine (D2.out _).mono ?_
      rintro e w3 ⟨rfl, hb3⟩
      have b3 : Below w.heap.size w w3 := Below.on (b2.alloc s2 _) hb3
      clear hb3 b2 B2 c0 c1 c2 c3 f0 f1 f2 f3 D2
      have s3 := b3.size
      go_wp2_with (go_at_call 9; refine (num_any _ _).mono ?_; rintro e w' ⟨rfl, rfl⟩)
      go_ret
      exact ⟨rfl, b3.alloc s3 _⟩

end Go.Proofs.Ytjbdpelapehoiaa
