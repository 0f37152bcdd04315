/-
  The law ClockForms: clocks, levels, ceilings that may not be. Its walk, if Next keeps its statement.
-/
import Derived.Test.YtjbdpelapehoiaaClockSaid
import Derived.Test.YtjbdpelapehoiaaPlain
import Derived.Deep.Cut
namespace Go.Proofs.Ytjbdpelapehoiaa
open Go.RowKit
set_option linter.unusedSimpArgs false
set_option linter.unusedVariables false

/-- A number below 0, or one beyond the most. -/
theorem pair_at (r most : Int) (p : Nat) (h : p < 2) (r0 : 0 ≤ r) : ∃ x : Int, [Value.int .i64 (-(1 + r)), Value.int .i64 (most + (1 + r))][p]? = some (.int .i64 x) ∧ upToV x most = false := by
  have : p = 0 ∨ p = 1 := by omega
  rcases this with rfl | rfl
  · exact ⟨_, rfl, upToV_not (by omega)⟩
  · exact ⟨_, rfl, upToV_not (by omega)⟩
theorem nextOk_no1 {c : Nat → Int} {l m : Int} (h : upToV l 3 = false) : nextOk c l m = false := by unfold nextOk; rw [h]; rfl
theorem nextOk_no2 {c : Nat → Int} {l m : Int} (h : upToV m 65535 = false) : nextOk c l m = false := by unfold nextOk; rw [h, Bool.and_false]; rfl
theorem nextOk_no3 {c : Nat → Int} {l m : Int} (h : allUp c 65535 4 = false) : nextOk c l m = false := by unfold nextOk; rw [h, Bool.and_false]
theorem nine_full (g : Nat) (hg : g < 4) (m : Int) (hm : 0 ≤ m) (hm' : m ≤ 9) : nextE (fun _ => 9) g m = 501 ∧ nextC (fun _ => 9) g m = (fun _ => 0) ∧ nextK (fun _ => 9) g m = 0 :=
  next_full (nextOk_mk (upToV_of (by omega) (by omega)) (upToV_of hm (by omega)) rfl) hm'

set_option maxRecDepth 10000 in
set_option maxHeartbeats 4000000 in
theorem clockForms_at (hN : NextC) (a0 a1 r : Int) (g h p : Nat) (t : Nat) (ht : t < 4) (w : World) (hd : bits .and .i64 a1 1023 = r) (r0 : 0 ≤ r) (r1 : r ≤ 1023) (hg : bits .and .i64 a0 3 = g) (hg4 : g < 4) (hh : bits .and .i64 (a0 / 16) 3 = h) (hh4 : h < 4) (hp : bits .and .i64 a0 1 = p) (hp2 : p < 2) (hT : (IntKind.u64.wrap a0 / 4).tmod 4 = t) :
    Calls Try.prog 5 #[.int .i64 a0, .int .i64 a1] w fun e w' => e = .returned (.bool true) ∧ Below w.heap.size w w' := by
  have C1 := hide hN
  have C3 := hide fun w => awake5_any hN w
  have G0 := nine_full g hg4 9 (by omega) (by omega)
  have G3 := nine_full g hg4 3 (by omega) (by omega)
  have F1 := hN (fun _ => 9) g 9
  have F2 := hN (fun _ => 9) g 3
  rw [G0.1, G0.2.1, G0.2.2] at F1
  rw [G3.1, G3.2.1, G3.2.2] at F2
  unfold quadA at F1 F2
  have CF1 := hide F1
  have CF2 := hide F2
  clear hN G0 G3 F1 F2
  have v0 : IntKind.i64.wrap (-(1 + r)) = -(1 + r) := IntWalk.i64_in _ ⟨by omega, by omega⟩
  have v1 : IntKind.i64.wrap (3 + (1 + r)) = 3 + (1 + r) := IntWalk.i64_in _ ⟨by omega, by omega⟩
  have v2 : IntKind.i64.wrap (65535 + (1 + r)) = 65535 + (1 + r) := IntWalk.i64_in _ ⟨by omega, by omega⟩
  obtain ⟨x1, n1, hx1⟩ := pair_at r 3 p hp2 r0
  obtain ⟨x2, n2, hx2⟩ := pair_at r 65535 p hp2 r0
  have i2 : (p : Int) < 2 := by omega
  clear hp2
  have HX1 := hide hx1
  have HX2 := hide hx2
  clear hx1 hx2
  go_enter Try.func5, Try.ntmps5
  go_wp2_with fail
  refine (C3.out _).mono ?_
  rintro e w1 ⟨rfl, b1⟩
  clear C3
  have z1 := b1.size
  go_upto_region 8 with (fail)
  have B1 : Blk _ w1.heap.size (quadL fun _ => 3) := blk_new w1 (quadL fun _ => 3) 22
  have b2 := b1.alloc z1 (.cells #[.int .i64 3, .int .i64 3, .int .i64 3, .int .i64 3] 22)
  have B1' : Blk (w1.alloc (.cells #[.int .i64 3, .int .i64 3, .int .i64 3, .int .i64 3] 22)) w1.heap.size (quadL fun _ => 3) := B1
  clear B1 b1
  generalize w1.alloc (.cells #[.int .i64 3, .int .i64 3, .int .i64 3, .int .i64 3] 22) = W at *
  have ch := B1'.cell h _ (quadL_get _ hh4)
  have fh := B1'.frozen h
  have yh := B1'.lt
  have zW := b2.size
  have i4 : (h : Int) < 4 := by omega
  have : t = 0 ∨ t = 1 ∨ t = 2 ∨ t = 3 := by omega
  rcases this with rfl | rfl | rfl | rfl
  · go_upto_region 14 with (fail)
    have B2 := B1'.set h (.int .i64 (-(1 + r)))
    rw [quadL_set _ hh4] at B2
    have b3 : Below w.heap.size w (W.setCell ⟨w1.heap.size, h, none⟩ (.int .i64 (-(1 + r)))) := b2.setCell (by simp; omega) _
    have HNO : Hid (nextOk (updQ (fun _ => 3) h (-(1 + r))) g 9 = false) := nextOk_no3 (allUp_no h hh4 (by rw [updQ_same]; exact upToV_not (by omega)))
    generalize updQ (fun _ => 3) h (-(1 + r)) = q at *
    generalize W.setCell ⟨w1.heap.size, h, none⟩ (.int .i64 (-(1 + r))) = W2 at *
    have C := C1.out q g 9
    obtain ⟨e1, e2, e3⟩ := next_form HNO.out
    rw [e1, e2, e3] at C
    unfold quadA at C
    try dsimp only at C
    have C2 := hide C
    clear C e1 e2 e3 HNO B1' b2 ch fh n1 n2 HX1 HX2 C1 v0 v1 v2
    obtain ⟨⟨c0, c1, c2, c3⟩, _⟩ := B2.four
    go_wp2_with fail
    refine (C2.out _).mono ?_
    rintro e w2 ⟨rfl, hb2⟩
    have b4 : Below w.heap.size w w2 := Below.on b3 hb2
    have s4 := b4.size
    have A1 := blk_new w2 [.int .i64 0, .int .i64 0, .int .i64 0, .int .i64 0] 22
    clear hb2 b3 B2 c0 c1 c2 c3 C2
    go_wp2_with fail
    refine (CF1.out _).mono ?_
    rintro e w3 ⟨rfl, hb3⟩
    have b5 : Below w.heap.size w w3 := Below.on (b4.alloc s4 _) hb3
    have s5 := b5.size
    have A2 := A1.on hb3
    have y3 := A2.lt
    clear hb3 b4 A1
    go_wp2_with fail
    refine (CF2.out _).mono ?_
    rintro e w4 ⟨rfl, hb4⟩
    have b6 : Below w.heap.size w w4 := Below.on (b5.alloc s5 _) hb4
    have s6 := b6.size
    have A3 := (A2.alloc _).on hb4
    have y4 := A3.lt
    clear hb4 b5 A2
    obtain ⟨⟨c0, c1, c2, c3⟩, _⟩ := A3.four
    clear hd hg hh hp CF1 CF2 zW yh z1 s4 s5 i4 i2 r0 r1 hT
    have hq0 := fun W => quad_eq 0 0 0 0 0 0 0 0 W
    simp only [beq_self_eq_true, Bool.and_self] at hq0
    go_wp2_with (go_at_call 9; refine (num_any _ _).mono ?_; rintro e w' ⟨rfl, rfl⟩)
    go_ret
    exact ⟨rfl, b6.alloc s6 _⟩
  · go_upto_region 14 with (fail)
    have B2 := B1'.set h (.int .i64 (65535 + (1 + r)))
    rw [quadL_set _ hh4] at B2
    have b3 : Below w.heap.size w (W.setCell ⟨w1.heap.size, h, none⟩ (.int .i64 (65535 + (1 + r)))) := b2.setCell (by simp; omega) _
    have HNO : Hid (nextOk (updQ (fun _ => 3) h (65535 + (1 + r))) g 9 = false) := nextOk_no3 (allUp_no h hh4 (by rw [updQ_same]; exact upToV_not (by omega)))
    generalize updQ (fun _ => 3) h (65535 + (1 + r)) = q at *
    generalize W.setCell ⟨w1.heap.size, h, none⟩ (.int .i64 (65535 + (1 + r))) = W2 at *
    have C := C1.out q g 9
    obtain ⟨e1, e2, e3⟩ := next_form HNO.out
    rw [e1, e2, e3] at C
    unfold quadA at C
    try dsimp only at C
    have C2 := hide C
    clear C e1 e2 e3 HNO B1' b2 ch fh n1 n2 HX1 HX2 C1 v0 v1 v2
    obtain ⟨⟨c0, c1, c2, c3⟩, _⟩ := B2.four
    go_wp2_with fail
    refine (C2.out _).mono ?_
    rintro e w2 ⟨rfl, hb2⟩
    have b4 : Below w.heap.size w w2 := Below.on b3 hb2
    have s4 := b4.size
    have A1 := blk_new w2 [.int .i64 0, .int .i64 0, .int .i64 0, .int .i64 0] 22
    clear hb2 b3 B2 c0 c1 c2 c3 C2
    go_wp2_with fail
    refine (CF1.out _).mono ?_
    rintro e w3 ⟨rfl, hb3⟩
    have b5 : Below w.heap.size w w3 := Below.on (b4.alloc s4 _) hb3
    have s5 := b5.size
    have A2 := A1.on hb3
    have y3 := A2.lt
    clear hb3 b4 A1
    go_wp2_with fail
    refine (CF2.out _).mono ?_
    rintro e w4 ⟨rfl, hb4⟩
    have b6 : Below w.heap.size w w4 := Below.on (b5.alloc s5 _) hb4
    have s6 := b6.size
    have A3 := (A2.alloc _).on hb4
    have y4 := A3.lt
    clear hb4 b5 A2
    obtain ⟨⟨c0, c1, c2, c3⟩, _⟩ := A3.four
    clear hd hg hh hp CF1 CF2 zW yh z1 s4 s5 i4 i2 r0 r1 hT
    have hq0 := fun W => quad_eq 0 0 0 0 0 0 0 0 W
    simp only [beq_self_eq_true, Bool.and_self] at hq0
    go_wp2_with (go_at_call 9; refine (num_any _ _).mono ?_; rintro e w' ⟨rfl, rfl⟩)
    go_ret
    exact ⟨rfl, b6.alloc s6 _⟩
  · go_upto_region 14 with (fail)
    have B2 := B1'.alloc (.cells #[.int .i64 (-(1 + r)), .int .i64 (3 + (1 + r))] 3)
    have b3 := b2.alloc zW (.cells #[.int .i64 (-(1 + r)), .int .i64 (3 + (1 + r))] 3)
    have HNO : Hid (nextOk (fun _ => 3) x1 9 = false) := nextOk_no1 HX1.out
    generalize W.alloc (.cells #[.int .i64 (-(1 + r)), .int .i64 (3 + (1 + r))] 3) = W2 at *
    have C := C1.out (fun _ => 3) x1 9
    obtain ⟨e1, e2, e3⟩ := next_form HNO.out
    rw [e1, e2, e3] at C
    unfold quadA at C
    try dsimp only at C
    have C2 := hide C
    clear C e1 e2 e3 HNO B1' b2 ch fh n1 n2 HX1 HX2 C1 v0 v1 v2
    obtain ⟨⟨c0, c1, c2, c3⟩, _⟩ := B2.four
    go_wp2_with fail
    refine (C2.out _).mono ?_
    rintro e w2 ⟨rfl, hb2⟩
    have b4 : Below w.heap.size w w2 := Below.on b3 hb2
    have s4 := b4.size
    have A1 := blk_new w2 [.int .i64 0, .int .i64 0, .int .i64 0, .int .i64 0] 22
    clear hb2 b3 B2 c0 c1 c2 c3 C2
    go_wp2_with fail
    refine (CF1.out _).mono ?_
    rintro e w3 ⟨rfl, hb3⟩
    have b5 : Below w.heap.size w w3 := Below.on (b4.alloc s4 _) hb3
    have s5 := b5.size
    have A2 := A1.on hb3
    have y3 := A2.lt
    clear hb3 b4 A1
    go_wp2_with fail
    refine (CF2.out _).mono ?_
    rintro e w4 ⟨rfl, hb4⟩
    have b6 : Below w.heap.size w w4 := Below.on (b5.alloc s5 _) hb4
    have s6 := b6.size
    have A3 := (A2.alloc _).on hb4
    have y4 := A3.lt
    clear hb4 b5 A2
    obtain ⟨⟨c0, c1, c2, c3⟩, _⟩ := A3.four
    clear hd hg hh hp CF1 CF2 zW yh z1 s4 s5 i4 i2 r0 r1 hT
    have hq0 := fun W => quad_eq 0 0 0 0 0 0 0 0 W
    simp only [beq_self_eq_true, Bool.and_self] at hq0
    go_wp2_with (go_at_call 9; refine (num_any _ _).mono ?_; rintro e w' ⟨rfl, rfl⟩)
    go_ret
    exact ⟨rfl, b6.alloc s6 _⟩
  · go_upto_region 14 with (fail)
    have B2 := B1'.alloc (.cells #[.int .i64 (-(1 + r)), .int .i64 (65535 + (1 + r))] 3)
    have b3 := b2.alloc zW (.cells #[.int .i64 (-(1 + r)), .int .i64 (65535 + (1 + r))] 3)
    have HNO : Hid (nextOk (fun _ => 3) g x2 = false) := nextOk_no2 HX2.out
    generalize W.alloc (.cells #[.int .i64 (-(1 + r)), .int .i64 (65535 + (1 + r))] 3) = W2 at *
    have C := C1.out (fun _ => 3) g x2
    obtain ⟨e1, e2, e3⟩ := next_form HNO.out
    rw [e1, e2, e3] at C
    unfold quadA at C
    try dsimp only at C
    have C2 := hide C
    clear C e1 e2 e3 HNO B1' b2 ch fh n1 n2 HX1 HX2 C1 v0 v1 v2
    obtain ⟨⟨c0, c1, c2, c3⟩, _⟩ := B2.four
    go_wp2_with fail
    refine (C2.out _).mono ?_
    rintro e w2 ⟨rfl, hb2⟩
    have b4 : Below w.heap.size w w2 := Below.on b3 hb2
    have s4 := b4.size
    have A1 := blk_new w2 [.int .i64 0, .int .i64 0, .int .i64 0, .int .i64 0] 22
    clear hb2 b3 B2 c0 c1 c2 c3 C2
    go_wp2_with fail
    refine (CF1.out _).mono ?_
    rintro e w3 ⟨rfl, hb3⟩
    have b5 : Below w.heap.size w w3 := Below.on (b4.alloc s4 _) hb3
    have s5 := b5.size
    have A2 := A1.on hb3
    have y3 := A2.lt
    clear hb3 b4 A1
    go_wp2_with fail
    refine (CF2.out _).mono ?_
    rintro e w4 ⟨rfl, hb4⟩
    have b6 : Below w.heap.size w w4 := Below.on (b5.alloc s5 _) hb4
    have s6 := b6.size
    have A3 := (A2.alloc _).on hb4
    have y4 := A3.lt
    clear hb4 b5 A2
    obtain ⟨⟨c0, c1, c2, c3⟩, _⟩ := A3.four
    clear hd hg hh hp CF1 CF2 zW yh z1 s4 s5 i4 i2 r0 r1 hT
    have hq0 := fun W => quad_eq 0 0 0 0 0 0 0 0 W
    simp only [beq_self_eq_true, Bool.and_self] at hq0
    go_wp2_with (go_at_call 9; refine (num_any _ _).mono ?_; rintro e w' ⟨rfl, rfl⟩)
    go_ret
    exact ⟨rfl, b6.alloc s6 _⟩

theorem clockForms_said (hN : NextC) (a0 a1 : Int) (w : World) :
    Calls Try.prog 5 #[.int .i64 a0, .int .i64 a1] w fun e w' => e = .returned (.bool true) ∧ Below w.heap.size w w' := by
  have hx : 0 ≤ IntKind.u64.wrap a0 := by rw [IntKind.wrap_u64]; omega
  refine clockForms_at hN a0 a1 (a1 % 1024) (a0 % 4).toNat (a0 / 16 % 4).toNat (a0 % 2).toNat (IntKind.u64.wrap a0 / 4 % 4).toNat (by omega) w (mask1023 _) (by omega) (by omega) (by rw [mask3]; omega) (by omega) (by rw [mask3]; omega) (by omega) (by rw [mask1]; omega) (by omega) ?_
  rw [Int.tmod_eq_emod_of_nonneg (by omega)]
  omega

end Go.Proofs.Ytjbdpelapehoiaa
