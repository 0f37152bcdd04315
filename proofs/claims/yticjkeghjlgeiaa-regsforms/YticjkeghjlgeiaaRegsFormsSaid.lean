/-
  The law RegsForms, if Set and Add keep their statements.
-/
import Derived.Test.YticjkeghjlgeiaaRegsFormsReg11
import Derived.Test.YticjkeghjlgeiaaPlain
import Derived.Deep.Cut
namespace Go.Proofs.Yticjkeghjlgeiaa
open Go.RowKit
set_option linter.unusedVariables false
set_option linter.unusedSimpArgs false

/-- A number below 0, or one beyond the most. -/
theorem pair_at (r most : Int) (p : Nat) (h : p < 2) (r0 : 0 ≤ r) : ∃ x : Int, [Value.int .i64 (-(1 + r)), Value.int .i64 (most + (1 + r))][p]? = some (.int .i64 x) ∧ upToV x most = false := by
  have : p = 0 ∨ p = 1 := by omega
  rcases this with rfl | rfl
  · exact ⟨_, rfl, upToV_not (by omega)⟩
  · exact ⟨_, rfl, upToV_not (by omega)⟩
theorem set_form (hS : SetC) {c : Nat → Int} {a v : Int} (h : setOk c a v = false) (w : World) : Calls Try.prog 7 #[quadA c, .int .i64 a, .int .i64 v] w fun e w' => e = .returned (.tuple #[.agg #[.int .i64 0, .int .i64 0, .int .i64 0, .int .i64 0], .int .i64 600]) ∧ Below w.heap.size w w' := by
  have := hS c a v w
  rw [(set_no h).1, (set_no h).2] at this
  exact this
theorem add_form (hA : AddC) {c : Nat → Int} {a v : Int} (h : addOk c a v = false) (w : World) : Calls Try.prog 9 #[quadA c, .int .i64 a, .int .i64 v] w fun e w' => e = .returned (.tuple #[.agg #[.int .i64 0, .int .i64 0, .int .i64 0, .int .i64 0], .int .i64 600]) ∧ Below w.heap.size w w' := by
  have := hA c a v w
  rw [(add_no h).1, (add_no h).2] at this
  exact this

set_option maxRecDepth 100000 in
set_option maxHeartbeats 8000000 in
theorem regsForms_at (hS : SetC) (hA : AddC) (a0 a1 r : Int) (g p : Nat) (w : World) (hd : bits .and .i64 a1 1023 = r) (r0 : 0 ≤ r) (r1 : r ≤ 1023) (hg : bits .and .i64 a0 3 = g) (hg4 : g < 4) (hp : bits .and .i64 (a0 / 4) 1 = p) (hp2 : p < 2) :
    Calls Try.prog 4 #[.int .i64 a0, .int .i64 a1] w fun e w' => e = .returned (.bool true) ∧ Below w.heap.size w w' := by
  obtain ⟨x, n1, hx⟩ := pair_at r 255 p hp2 r0
  obtain ⟨y, n2, hy⟩ := pair_at r 3 p hp2 r0
  have i2 : (p : Int) < 2 := by omega
  have i0 : (0 : Int) ≤ p := by omega
  have i4 : (g : Int) < 4 := by omega
  have v0 : IntKind.i64.wrap (-(1 + r)) = -(1 + r) := IntWalk.i64_in _ ⟨by omega, by omega⟩
  have v1 : IntKind.i64.wrap (255 + (1 + r)) = 255 + (1 + r) := IntWalk.i64_in _ ⟨by omega, by omega⟩
  have v2 : IntKind.i64.wrap (3 + (1 + r)) = 3 + (1 + r) := IntWalk.i64_in _ ⟨by omega, by omega⟩
  have hbad : allUp (updQ (quad 1 2 3 4) g x) 255 4 = false := allUp_no g hg4 (by rw [updQ_same]; exact hx)
  have C0 := hide fun w => awake6_any hS hA w
  have C1 := hide fun w => set_form hS (c := updQ (quad 1 2 3 4) g x) (a := 0) (v := 0) (and3_no1 hbad) w
  have C2 := hide fun w => add_form hA (c := updQ (quad 1 2 3 4) g x) (a := 0) (v := 0) (and3_no1 hbad) w
  have C3 := hide fun w => set_form hS (c := quad 1 2 3 4) (a := y) (v := 0) (and3_no2 hy) w
  have C4 := hide fun w => set_form hS (c := quad 1 2 3 4) (a := 0) (v := x) (and3_no3 hx) w
  have C5 := hide fun w => add_form hA (c := quad 1 2 3 4) (a := y) (v := 0) (and3_no2 hy) w
  have C6 := hide fun w => add_form hA (c := quad 1 2 3 4) (a := 0) (v := y) (and3_no3 hy) w
  clear hbad hx hy hS hA hp2
  unfold quadA quad at C3 C4 C5 C6
  go_enter Try.func4, Try.ntmps4
  go_wp2_with fail
  refine (C0.out _).mono ?_
  rintro e w1 ⟨rfl, b1⟩
  have s1 := b1.size
  clear C0
  go_upto_region 6 with (fail)
  have H : Held ((w1.alloc (.cells #[.int .i64 1, .int .i64 2, .int .i64 3, .int .i64 4] 22)).alloc (.cells #[.int .i64 1, .int .i64 2, .int .i64 3, .int .i64 4] 22)) [(w1.heap.size, quadL (quad 1 2 3 4)), (w1.heap.size + 1, quadL (quad 1 2 3 4))] := by
    have e1 := blk_new (w1.alloc (.cells #[.int .i64 1, .int .i64 2, .int .i64 3, .int .i64 4] 22)) (quadL (quad 1 2 3 4)) 22
    rw [World.size_alloc] at e1
    exact Held.cons ((blk_new w1 (quadL (quad 1 2 3 4)) 22).alloc _) (Held.cons e1 (Held.nil _))
  have b2 := (b1.alloc s1 (.cells #[.int .i64 1, .int .i64 2, .int .i64 3, .int .i64 4] 22)).alloc (by simp only [World.size_alloc]; omega) (.cells #[.int .i64 1, .int .i64 2, .int .i64 3, .int .i64 4] 22)
  have B1 := H.at 0 rfl
  have B2 := H.at 1 rfl
  clear H b1
  generalize (w1.alloc (.cells #[.int .i64 1, .int .i64 2, .int .i64 3, .int .i64 4] 22)).alloc (.cells #[.int .i64 1, .int .i64 2, .int .i64 3, .int .i64 4] 22) = W at *
  have s2 := b2.size
  have cg := B2.cell g _ (quadL_get _ hg4)
  have fg := B2.frozen g
  have y2 := B2.lt
  go_upto_region 8 with (fail)
  have B2' := ((B2.set g (.int .i64 x)).alloc (.cells #[.int .i64 (-(1 + r)), .int .i64 (255 + (1 + r))] 3)).alloc (.cells #[.int .i64 (-(1 + r)), .int .i64 (3 + (1 + r))] 3)
  rw [quadL_set _ hg4] at B2'
  have B1' := ((B1.far (a := ⟨w1.heap.size + 1, g, none⟩) (.int .i64 x) (by simp)).alloc (.cells #[.int .i64 (-(1 + r)), .int .i64 (255 + (1 + r))] 3)).alloc (.cells #[.int .i64 (-(1 + r)), .int .i64 (3 + (1 + r))] 3)
  have b3 : Below w.heap.size w (((W.setCell ⟨w1.heap.size + 1, g, none⟩ (.int .i64 x)).alloc (.cells #[.int .i64 (-(1 + r)), .int .i64 (255 + (1 + r))] 3)).alloc (.cells #[.int .i64 (-(1 + r)), .int .i64 (3 + (1 + r))] 3)) := ((b2.setCell (by simp; omega) _).alloc (by rw [World.size_setCell]; exact s2) _).alloc (by simp only [World.size_alloc, World.size_setCell]; omega) _
  clear B1 B2 b2 s2 cg fg y2 n2 v2
  generalize ((W.setCell ⟨w1.heap.size + 1, g, none⟩ (.int .i64 x)).alloc (.cells #[.int .i64 (-(1 + r)), .int .i64 (255 + (1 + r))] 3)).alloc (.cells #[.int .i64 (-(1 + r)), .int .i64 (3 + (1 + r))] 3) = W8 at *
  generalize updQ (quad 1 2 3 4) g x = q at *
  unfold quadA at C1 C2
  have s3 := b3.size
  obtain ⟨c0, c1, c2, c3⟩ := B2'.cells4
  go_wp2_with fail
  refine (C1.out _).mono ?_
  rintro e w2 ⟨rfl, hb⟩
  have b4 : Below w.heap.size w w2 := Below.on b3 hb
  have s4 := b4.size
  have A1 := B1'.on hb
  have A2 := B2'.on hb
  clear hb C1 b3 s3 c0 c1 c2 c3 B1' B2'
  have y2 := A2.lt
  obtain ⟨c0, c1, c2, c3⟩ := A2.cells4
  go_wp2_with fail
  refine (C2.out _).mono ?_
  rintro e w3 ⟨rfl, hb⟩
  have b5 : Below w.heap.size w w3 := Below.on (b4.alloc s4 _) hb
  have s5 := b5.size
  have A3 := (A1.alloc _).on hb
  clear hb C2 b4 s4 c0 c1 c2 c3 A1 A2 y2
  have y3 := A3.lt
  unfold quadL quad at A3
  obtain ⟨c0, c1, c2, c3⟩ := A3.cells4
  go_wp2_with fail
  refine (C3.out _).mono ?_
  rintro e w4 ⟨rfl, hb⟩
  have b6 : Below w.heap.size w w4 := Below.on (b5.alloc s5 _) hb
  have s6 := b6.size
  have A4 := (A3.alloc _).on hb
  clear hb C3 b5 s5 c0 c1 c2 c3 A3 y3
  go_upto_region 11 with (fail)
  replace A4 := A4.alloc (.cells #[.int .i64 0, .int .i64 0, .int .i64 0, .int .i64 0] 22)
  replace b6 := b6.alloc s6 (.cells #[.int .i64 0, .int .i64 0, .int .i64 0, .int .i64 0] 22)
  generalize w4.alloc (.cells #[.int .i64 0, .int .i64 0, .int .i64 0, .int .i64 0] 22) = W11 at *
  refine regs_reg11 a0 r x p _ W11 hp i2 i0 n1 v0 v1 C4 A4 _ _ _ _ _ _ _ _ _ _ _ _ _ _ _ _ _ _ _ _ _ _ _ _ _ _ _ _ _ _ _ _ _ _ _ _ _ _ _ _ _ _ _ _ _ _ _ _ _ _ _ _ _ _ _ _ _ _ _ _ _ _ _ _ _ _ _ _ _ _ _ _ _ _ _ _ _ _ _ _ _ _ _ _ _ _ _ _ _ _ _ _ _ _ _ _ _ _ _ _ _ _ _ _ _ _ _ _ _ _ _ _ _ _ _ _ _ _ _ _ _ ?_
  intro _ _ _ _ _ _ _ _ _ _ _ _ _ _ _ _ wc hw
  have b7 := Below.on b6 hw
  have s7 := b7.size
  have A5 := A4.on hw
  clear hw C4 b6 A4 n1 v0 v1
  have y5 := A5.lt
  obtain ⟨c0, c1, c2, c3⟩ := A5.cells4
  go_wp2_with fail
  refine (C5.out _).mono ?_
  rintro e w5 ⟨rfl, hb⟩
  have b8 : Below w.heap.size w w5 := Below.on b7 hb
  have s8 := b8.size
  have A6 := A5.on hb
  clear hb C5 b7 s7 c0 c1 c2 c3 A5 y5
  have y6 := A6.lt
  obtain ⟨c0, c1, c2, c3⟩ := A6.cells4
  go_wp2_with fail
  refine (C6.out _).mono ?_
  rintro e w6 ⟨rfl, hb⟩
  have b9 : Below w.heap.size w w6 := Below.on (b8.alloc s8 _) hb
  have s9 := b9.size
  clear hb C6 b8 s8 c0 c1 c2 c3 A6 y6
  go_wp2_with (go_at_call 11; refine (num_any _ _).mono ?_; rintro e w' ⟨rfl, rfl⟩)
  go_ret
  exact ⟨rfl, b9.alloc s9 _⟩

theorem regsForms_said (hS : SetC) (hA : AddC) (a0 a1 : Int) (w : World) :
    Calls Try.prog 4 #[.int .i64 a0, .int .i64 a1] w fun e w' => e = .returned (.bool true) ∧ Below w.heap.size w w' :=
  regsForms_at hS hA a0 a1 (a1 % 1024) (a0 % 4).toNat (a0 / 4 % 2).toNat w (mask1023 _) (by omega) (by omega) (by rw [mask3]; omega) (by omega) (by rw [mask1]; omega) (by omega)

end Go.Proofs.Yticjkeghjlgeiaa
