/-
  The law ClockApart: clocks of levels are apart. Its walk, if Next keeps its statement.
-/
import Derived.Test.YtjbdpelapehoiaaClockSaid
import Derived.Test.YtjbdpelapehoiaaPlain
import Derived.Deep.QuietTactic
import Derived.BigQuiet
namespace Go.Proofs.Ytjbdpelapehoiaa
open Go.RowKit
set_option linter.unusedSimpArgs false
set_option linter.unusedVariables false

/-- The clocks are from 0 to c. -/
def Upto (q : Nat → Int) (c : Nat) : Prop := ∀ i, 0 ≤ q i ∧ q i ≤ c
theorem Upto.ok {q : Nat → Int} {c g : Nat} (h : Upto q c) (hg : g < 4) (hc : c ≤ 65535) : nextOk q g c = true :=
  nextOk_mk (upToV_of (by omega) (by omega)) (upToV_of (by omega) (by omega)) (allUp_mk fun i _ => upToV_of (h i).1 (by have := (h i).2; omega))
theorem Upto.next {q : Nat → Int} {c g : Nat} (h : Upto q c) (hlt : q g < c) : Upto (updQ q g (q g + 1)) c := fun i => by
  unfold updQ
  split
  · have := h g; omega
  · exact h i
theorem Upto.on {q : Nat → Int} {c g : Nat} (h : Upto q c) (hg : g < 4) (hc : c ≤ 65535) (hlt : q g < c) : nextE q g c = 0 ∧ nextC q g c = updQ q g (q g + 1) ∧ nextK q g c = q g + 1 := by
  have := next_on (h.ok hg hc) (by rw [Int.toNat_natCast]; omega)
  rw [Int.toNat_natCast] at this
  exact this
theorem Upto.full {q : Nat → Int} {c g : Nat} (h : Upto q c) (hg : g < 4) (hc : c ≤ 65535) (hlt : ¬ q g < c) : nextE q g c = 501 ∧ nextC q g c = (fun _ => 0) ∧ nextK q g c = 0 :=
  next_full (h.ok hg hc) (by rw [Int.toNat_natCast]; omega)

set_option maxHeartbeats 2000000 in
theorem clockApart_said (hN : NextC) (a0 : Option Addr) (n0 c0 : Nat) (z0 : Nat → Int) (a1 : Int) (w : World) (l0 : n0 * 8 ≤ 140737488351232) (r0 : Row w a0 n0 fun i => .int .i64 (z0 i)) :
    Calls Try.prog 4 #[.slice a0 n0 c0, .int .i64 a1] w fun e w' => e = .returned (.bool true) ∧ Below w.heap.size w w' := by
  have C1 := hide hN
  have C3 := hide fun w => awake5_any hN w
  have CN := hide fun x w => flip (num_any x w)
  have R0 := hide r0
  clear hN r0
  have m15 := mask15 a1
  obtain ⟨c, hc, ec⟩ : ∃ c : Nat, c < 16 ∧ a1 % 16 = c := ⟨(a1 % 16).toNat, by omega, by omega⟩
  rw [ec] at m15
  clear ec
  go_enter Try.func4, Try.ntmps4
  go_wp2_with fail
  refine (C3.out _).mono ?_
  rintro e w1 ⟨rfl, b1⟩
  clear C3
  have z1 := b1.size
  go_wp2_with fail
  go_loopw [8] (fun i wr => ∃ (k : Nat) (q : Nat → Int), k ≤ n0 ∧ k ≤ 40 ∧ i = .int .i64 k ∧ Upto q c ∧ Blk wr w1.heap.size (quadL q) ∧ Blk wr (w1.heap.size + 1) (quadL q) ∧ Below w.heap.size w wr) (fun i _ => 40 - (intOf i).toNat)
  case atStart =>
    refine ⟨0, fun _ => 0, Nat.zero_le _, Nat.zero_le _, rfl, fun _ => ⟨Int.le_refl 0, Int.natCast_nonneg c⟩, (blk_new w1 (quadL fun _ => 0) 22).alloc _, ?_, (b1.alloc z1 _).alloc (by simp only [World.size_alloc]; omega) _⟩
    have := blk_new (w1.alloc (.cells (quadL fun _ => 0).toArray 22)) (quadL fun _ => 0) 22
    rw [World.size_alloc] at this
    exact this
  case round =>
    obtain ⟨k, q, hk, hk40, rfl, hq, B1, B2, hb⟩ := hrel
    clear b1
    have HQ := hide hq
    clear hq
    by_cases hkn : k < n0
    · have i1 : (k : Int) < (n0 : Int) := by omega
      by_cases hk4 : k < 40
      · have i2 : (k : Int) < 40 := by omega
        obtain ⟨b, off, hsa, hbl, cv⟩ := (R0.out.below hb (Nat.le_refl _)) k hkn
        have HA := hide hsa
        rw [hsa]
        clear hsa
        have m3 := mask3 (z0 k)
        obtain ⟨g, hg, eg⟩ : ∃ g : Nat, g < 4 ∧ z0 k % 4 = g := ⟨(z0 k % 4).toNat, by omega, by omega⟩
        rw [eg] at m3
        clear eg
        obtain ⟨⟨c0, c1, c2, c3⟩, f0, f1, f2, f3⟩ := B1.four
        have y1 := B1.lt
        have i3 : (g : Int) < 4 := by omega
        have C := C1.out q g c
        by_cases hlt : q g < c
        · obtain ⟨e1, e2, e3⟩ := HQ.out.on hg (by omega) hlt
          rw [e1, e2, e3] at C
          unfold quadA at C
          have C2 := hide C
          have hg0 := (HQ.out g).1
          have HQ2 := hide (HQ.out.next hlt)
          clear C e1 e2 e3
          go_wp2_with fail
          refine (C2.out _).mono ?_
          rintro e w2 ⟨rfl, hb2⟩
          have b2 : Below w.heap.size w w2 := Below.on hb hb2
          have s2 := b2.size
          replace b2 := b2.alloc s2 (.cells #[.int .i64 (updQ q g (q g + 1) 0), .int .i64 (updQ q g (q g + 1) 1), .int .i64 (updQ q g (q g + 1) 2), .int .i64 (updQ q g (q g + 1) 3)] 22)
          replace B1 := (B1.on hb2).alloc (.cells #[.int .i64 (updQ q g (q g + 1) 0), .int .i64 (updQ q g (q g + 1) 1), .int .i64 (updQ q g (q g + 1) 2), .int .i64 (updQ q g (q g + 1) 3)] 22)
          have y2 := (B2.on hb2).lt
          replace B2 := (B2.on hb2).alloc (.cells #[.int .i64 (updQ q g (q g + 1) 0), .int .i64 (updQ q g (q g + 1) 1), .int .i64 (updQ q g (q g + 1) 2), .int .i64 (updQ q g (q g + 1) 3)] 22)
          have B3 : Blk (w2.alloc (.cells #[.int .i64 (updQ q g (q g + 1) 0), .int .i64 (updQ q g (q g + 1) 1), .int .i64 (updQ q g (q g + 1) 2), .int .i64 (updQ q g (q g + 1) 3)] 22)) w2.heap.size (quadL (updQ q g (q g + 1))) := blk_new w2 (quadL (updQ q g (q g + 1))) 22
          clear hb hb2 C2 c0 c1 c2 c3 f0 f1 f2 f3 y1 cv hbl
          go_upto_region 10 with (fail)
          generalize w2.alloc (.cells #[.int .i64 (updQ q g (q g + 1) 0), .int .i64 (updQ q g (q g + 1) 1), .int .i64 (updQ q g (q g + 1) 2), .int .i64 (updQ q g (q g + 1) 3)] 22) = W at *
          have cw := B2.cell g _ (quadL_get q hg)
          have fw := B2.frozen g
          go_quiet ((go_at_call 9; exact Calls.quiet_of_same (flip (num_any _ _))))
          replace B1 : Blk (W.drewN nq) _ _ := B1.drawn nq
          replace B2 : Blk (W.drewN nq) _ _ := B2.drawn nq
          replace B3 : Blk (W.drewN nq) _ _ := B3.drawn nq
          replace b2 : Below w.heap.size w (W.drewN nq) := Below.drawn b2 nq
          generalize W.drewN nq = V at *
          clear cw fw
          have cw := B2.cell g _ (quadL_get q hg)
          have fw := B2.frozen g
          go_upto_region 14 with (go_at_call 9; refine (num_any _ _).mono ?_; rintro e w' ⟨rfl, rfl⟩)
          replace B1 := B1.far (a := ⟨w1.heap.size + 1, g, none⟩) (.int .i64 (q g + 1)) (by simp)
          replace B3 := B3.far (a := ⟨w1.heap.size + 1, g, none⟩) (.int .i64 (q g + 1)) (by simp; omega)
          replace B2 := B2.set g (.int .i64 (q g + 1))
          rw [quadL_set q hg] at B2
          replace b2 : Below w.heap.size w (V.setCell ⟨w1.heap.size + 1, g, none⟩ (.int .i64 (q g + 1))) := b2.setCell (by simp; omega) _
          clear cw fw
          generalize V.setCell ⟨w1.heap.size + 1, g, none⟩ (.int .i64 (q g + 1)) = U at *
          have cg := B2.cell g _ (quadL_get _ hg)
          rw [updQ_same] at cg
          obtain ⟨⟨d0, d1, d2, d3⟩, g0, g1, g2, g3⟩ := B1.four
          obtain ⟨⟨p0, p1, p2, p3⟩, _⟩ := B2.four
          obtain ⟨⟨r0, r1, r2, r3⟩, _⟩ := B3.four
          have hq4 := quad_eq
          have y1 := B1.lt
          go_wp2
          go_roundw
          case rel =>
            exact ⟨k + 1, _, by omega, by omega, by go_num, HQ2.out, B1.over _, (((B2.far _ (by simp)).far _ (by simp)).far _ (by simp)).far _ (by simp), Below.over b2 (by omega) _⟩
          case measure => simp [intOf]; omega
        · obtain ⟨e1, e2, e3⟩ := HQ.out.full hg (by omega) hlt
          rw [e1, e2, e3] at C
          unfold quadA at C
          have C2 := hide C
          clear C e1 e2 e3
          go_wp2_with fail
          refine (C2.out _).mono ?_
          rintro e w2 ⟨rfl, hb2⟩
          have b2 : Below w.heap.size w w2 := Below.on hb hb2
          have s2 := b2.size
          replace b2 := b2.alloc s2 (.cells #[.int .i64 0, .int .i64 0, .int .i64 0, .int .i64 0] 22)
          replace B1 := (B1.on hb2).alloc (.cells #[.int .i64 0, .int .i64 0, .int .i64 0, .int .i64 0] 22)
          have y2 := (B2.on hb2).lt
          replace B2 := (B2.on hb2).alloc (.cells #[.int .i64 0, .int .i64 0, .int .i64 0, .int .i64 0] 22)
          clear hb hb2 C2 c0 c1 c2 c3 f0 f1 f2 f3 y1 cv hbl
          go_upto_region 10 with (fail)
          generalize w2.alloc (.cells #[.int .i64 0, .int .i64 0, .int .i64 0, .int .i64 0] 22) = W at *
          have cw := B2.cell g _ (quadL_get q hg)
          have fw := B2.frozen g
          go_quiet ((go_at_call 9; exact Calls.quiet_of_same (flip (num_any _ _))))
          replace B1 : Blk (W.drewN nq) _ _ := B1.drawn nq
          replace B2 : Blk (W.drewN nq) _ _ := B2.drawn nq
          replace b2 : Below w.heap.size w (W.drewN nq) := Below.drawn b2 nq
          generalize W.drewN nq = V at *
          clear cw fw
          go_wp2_with (go_at_call 9; refine (num_any _ _).mono ?_; rintro e w' ⟨rfl, rfl⟩)
          go_roundw
          case rel => exact ⟨k + 1, _, by omega, by omega, by go_num, HQ.out, B1, B2, b2⟩
          case measure => simp [intOf]; omega
      · have i2 : ¬ (k : Int) < 40 := by omega
        go_wp2
        go_ret
        exact ⟨rfl, hb⟩
    · have i1 : ¬ (k : Int) < (n0 : Int) := by omega
      go_wp2
      go_ret
      exact ⟨rfl, hb⟩

end Go.Proofs.Ytjbdpelapehoiaa
