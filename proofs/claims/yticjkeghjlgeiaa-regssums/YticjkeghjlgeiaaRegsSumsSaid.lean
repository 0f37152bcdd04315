/-
  The law RegsSums, if Set and Add keep their statements.
-/
import Derived.Test.YticjkeghjlgeiaaRegsStat
import Derived.Test.YticjkeghjlgeiaaPlain
import Derived.Deep.QuietTactic
import Derived.BigQuiet
namespace Go.Proofs.Yticjkeghjlgeiaa
open Go.RowKit
set_option linter.unusedSimpArgs false
set_option linter.unusedVariables false

/-- Registers that may be. -/
def RegsOk (q : Nat → Int) : Prop := ∀ i, 0 ≤ q i ∧ q i ≤ 255
theorem RegsOk.all {q : Nat → Int} (h : RegsOk q) : allUp q 255 4 = true := allUp_mk fun i _ => upToV_of (h i).1 (h i).2
theorem RegsOk.upd {q : Nat → Int} (h : RegsOk q) (g : Nat) {x : Int} (h0 : 0 ≤ x) (h1 : x ≤ 255) : RegsOk (updQ q g x) := fun i => by
  unfold updQ
  split
  · exact ⟨h0, h1⟩
  · exact h i
theorem RegsOk.set {q : Nat → Int} (h : RegsOk q) {g : Nat} (hg : g < 4) {x : Int} (h0 : 0 ≤ x) (h1 : x ≤ 255) : setE q g x = 0 ∧ setC q g x = updQ q g x := by
  have := set_yes (c := q) (a := g) (v := x) (and3_mk h.all (upToV_of (by omega) (by omega)) (upToV_of h0 h1))
  rw [Int.toNat_natCast] at this
  exact this
theorem RegsOk.add {q : Nat → Int} (h : RegsOk q) {g k : Nat} (hg : g < 4) (hk : k < 4) : addE q g k = 0 ∧ addC q g k = updQ q g ((q g + q k) % 256) := by
  have := add_yes (c := q) (a := g) (b := k) (and3_mk h.all (upToV_of (by omega) (by omega)) (upToV_of (by omega) (by omega)))
  rw [Int.toNat_natCast, Int.toNat_natCast] at this
  exact this

set_option maxRecDepth 100000 in
set_option maxHeartbeats 4000000 in
theorem regsSums_said (hS : SetC) (hA : AddC) (a0 : Option Addr) (n0 c0 : Nat) (z0 : Nat → Int) (w : World) (l0 : n0 * 8 ≤ 140737488351232) (r0 : Row w a0 n0 fun i => .int .i64 (z0 i)) :
    Calls Try.prog 5 #[.slice a0 n0 c0] w fun e w' => e = .returned (.bool true) ∧ Below w.heap.size w w' := by
  have C1 := hide hS
  have C2 := hide hA
  have C3 := hide fun w => awake6_any hS hA w
  have R0 := hide r0
  clear hS hA r0
  go_enter Try.func5, Try.ntmps5
  go_wp2_with fail
  refine (C3.out _).mono ?_
  rintro e w1 ⟨rfl, b1⟩
  clear C3
  have z1 := b1.size
  go_wp2_with fail
  go_loopw [5] (fun i wr => ∃ (k : Nat) (q : Nat → Int), k ≤ n0 ∧ k ≤ 40 ∧ i = .int .i64 k ∧ RegsOk q ∧ Blk wr w1.heap.size (quadL q) ∧ Blk wr (w1.heap.size + 1) (quadL q) ∧ Below w.heap.size w wr) (fun i _ => 40 - (intOf i).toNat)
  case atStart =>
    refine ⟨0, fun _ => 0, Nat.zero_le _, Nat.zero_le _, rfl, fun _ => ⟨Int.le_refl 0, (by omega : (0 : Int) ≤ 255)⟩, (blk_new w1 (quadL fun _ => 0) 22).alloc _, ?_, (b1.alloc z1 _).alloc (by simp only [World.size_alloc]; omega) _⟩
    have := blk_new (w1.alloc (.cells (quadL fun _ => 0).toArray 22)) (quadL fun _ => 0) 22
    rw [World.size_alloc] at this
    exact this
  case round =>
    obtain ⟨k, q, hk, hk40, rfl, hq, B1, B2, hb⟩ := hrel
    clear b1
    have HQ := hide hq
    clear hq
    by_cases hkn : k < n0
    · have i1 : (k : Int) < (n0 : Int) := by omega
      by_cases hk4 : k < 40
      · have i2 : (k : Int) < 40 := by omega
        obtain ⟨b, off, hsa, hbl, cv⟩ := (R0.out.below hb (Nat.le_refl _)) k hkn
        have HA := hide hsa
        rw [hsa]
        clear hsa
        obtain ⟨g, hg, eg⟩ : ∃ g : Nat, g < 4 ∧ bits .and .i64 (z0 k) 3 = g := ⟨(z0 k % 4).toNat, by omega, by rw [mask3]; omega⟩
        obtain ⟨h, hh, eh⟩ : ∃ g : Nat, g < 4 ∧ bits .and .i64 (z0 k / 4) 3 = g := ⟨(z0 k / 4 % 4).toNat, by omega, by rw [mask3]; omega⟩
        obtain ⟨v, hv0, hv1, ev⟩ : ∃ v : Int, 0 ≤ v ∧ v ≤ 255 ∧ bits .and .i64 (z0 k / 32) 255 = v := ⟨z0 k / 32 % 256, by omega, by omega, mask255 _⟩
        have i3 : (g : Int) < 4 := by omega
        have i4 : (h : Int) < 4 := by omega
        go_upto_region 7 with (fail)
        go_quiet (fail)
        replace B1 : Blk (wr.drewN nq) _ _ := B1.drawn nq
        replace B2 : Blk (wr.drewN nq) _ _ := B2.drawn nq
        replace hb : Below w.heap.size w (wr.drewN nq) := Below.drawn hb nq
        replace cv : (wr.drewN nq).cell? ⟨b, off + k, none⟩ = some (.int .i64 (z0 k)) := cv
        replace hbl : b < (wr.drewN nq).heap.size := hbl
        generalize wr.drewN nq = V at *
        obtain ⟨t, ht, et⟩ : ∃ t : Nat, t < 2 ∧ bits .and .i64 (z0 k / 16) 1 = t := ⟨(z0 k / 16 % 2).toNat, by omega, by rw [mask1]; omega⟩
        have : t = 0 ∨ t = 1 := by omega
        rcases this with rfl | rfl
        · obtain ⟨x, hx0, hx1, hx⟩ : ∃ x : Int, 0 ≤ x ∧ x ≤ 255 ∧ (q g + q h) % 256 = x := ⟨(q g + q h) % 256, by omega, by omega, rfl⟩
          have HQ2 := hide (HQ.out.upd g hx0 hx1)
          have E := HQ.out.add hg hh
          rw [hx] at E
          have tm : bits .and .i64 (q g + q h) 255 = x := (mask255 _).trans hx
          clear hx
          obtain ⟨e1, e2⟩ := E
          have C := C2.out q g h
          rw [e1, e2] at C
          unfold quadA at C
          have CC := hide C
          clear C e1 e2
          obtain ⟨c0, c1, c2, c3⟩ := B1.cells4
          have y1 := B1.lt
          go_wp2_with fail
          refine (CC.out _).mono ?_
          rintro e w2 ⟨rfl, hb2⟩
          have b2 : Below w.heap.size w w2 := Below.on hb hb2
          have s2 := b2.size
          have y2 := (B2.on hb2).lt
          replace b2 := b2.alloc s2 (.cells #[.int .i64 ((updQ q g x) 0), .int .i64 ((updQ q g x) 1), .int .i64 ((updQ q g x) 2), .int .i64 ((updQ q g x) 3)] 22)
          replace B1 := (B1.on hb2).alloc (.cells #[.int .i64 ((updQ q g x) 0), .int .i64 ((updQ q g x) 1), .int .i64 ((updQ q g x) 2), .int .i64 ((updQ q g x) 3)] 22)
          replace B2 := (B2.on hb2).alloc (.cells #[.int .i64 ((updQ q g x) 0), .int .i64 ((updQ q g x) 1), .int .i64 ((updQ q g x) 2), .int .i64 ((updQ q g x) 3)] 22)
          have B3 : Blk (w2.alloc (.cells #[.int .i64 ((updQ q g x) 0), .int .i64 ((updQ q g x) 1), .int .i64 ((updQ q g x) 2), .int .i64 ((updQ q g x) 3)] 22)) w2.heap.size (quadL (updQ q g x)) := blk_new w2 (quadL (updQ q g x)) 22
          clear hb hb2 CC c0 c1 c2 c3 y1 cv hbl
          obtain ⟨pg0, pg1⟩ := HQ.out g
          obtain ⟨ph0, ph1⟩ := HQ.out h
          go_upto_region 16 with (fail)
          generalize w2.alloc (.cells #[.int .i64 ((updQ q g x) 0), .int .i64 ((updQ q g x) 1), .int .i64 ((updQ q g x) 2), .int .i64 ((updQ q g x) 3)] 22) = W at *
          have cw := B2.cell g _ (quadL_get q hg)
          have fw := B2.frozen g
          have ch := B2.cell h _ (quadL_get q hh)
          go_region
          clear cw fw ch
          replace B1 := B1.far (a := ⟨w1.heap.size + 1, g, none⟩) (.int .i64 x) (by simp)
          replace B3 := B3.far (a := ⟨w1.heap.size + 1, g, none⟩) (.int .i64 x) (by simp; omega)
          replace B2 := B2.set g (.int .i64 x)
          rw [quadL_set q hg] at B2
          replace b2 : Below w.heap.size w (W.setCell ⟨w1.heap.size + 1, g, none⟩ (.int .i64 x)).drew := (b2.setCell (by simp; omega) _).drew
          replace B1 := B1.drew
          replace B2 := B2.drew
          replace B3 := B3.drew
          generalize (W.setCell ⟨w1.heap.size + 1, g, none⟩ (.int .i64 x)).drew = U at *
          obtain ⟨⟨d0, d1, d2, d3⟩, g0, g1, g2, g3⟩ := B1.four
          obtain ⟨p0, p1, p2, p3⟩ := B2.cells4
          obtain ⟨r0, r1, r2, r3⟩ := B3.cells4
          have hq4 := fun W => quad_eq (updQ q g x 0) (updQ q g x 1) (updQ q g x 2) (updQ q g x 3) (updQ q g x 0) (updQ q g x 1) (updQ q g x 2) (updQ q g x 3) W
          simp only [beq_self_eq_true, Bool.and_self] at hq4
          have y1 := B1.lt
          go_wp2_with (go_at_call 11; refine (num_any _ _).mono ?_; rintro e w' ⟨rfl, rfl⟩)
          go_roundw
          case rel =>
            exact ⟨k + 1, _, by omega, by omega, by go_num, HQ2.out, B1.over _, (((B2.far _ (by simp)).far _ (by simp)).far _ (by simp)).far _ (by simp), Below.over b2 (by omega) _⟩
          case measure => simp [intOf]; omega
        · have HQ2 := hide (HQ.out.upd g hv0 hv1)
          obtain ⟨e1, e2⟩ := HQ.out.set hg hv0 hv1
          have C := C1.out q g v
          rw [e1, e2] at C
          unfold quadA at C
          have CC := hide C
          clear C e1 e2
          obtain ⟨c0, c1, c2, c3⟩ := B1.cells4
          have y1 := B1.lt
          go_wp2_with fail
          refine (CC.out _).mono ?_
          rintro e w2 ⟨rfl, hb2⟩
          have b2 : Below w.heap.size w w2 := Below.on hb hb2
          have s2 := b2.size
          have y2 := (B2.on hb2).lt
          replace b2 := b2.alloc s2 (.cells #[.int .i64 ((updQ q g v) 0), .int .i64 ((updQ q g v) 1), .int .i64 ((updQ q g v) 2), .int .i64 ((updQ q g v) 3)] 22)
          replace B1 := (B1.on hb2).alloc (.cells #[.int .i64 ((updQ q g v) 0), .int .i64 ((updQ q g v) 1), .int .i64 ((updQ q g v) 2), .int .i64 ((updQ q g v) 3)] 22)
          replace B2 := (B2.on hb2).alloc (.cells #[.int .i64 ((updQ q g v) 0), .int .i64 ((updQ q g v) 1), .int .i64 ((updQ q g v) 2), .int .i64 ((updQ q g v) 3)] 22)
          have B3 : Blk (w2.alloc (.cells #[.int .i64 ((updQ q g v) 0), .int .i64 ((updQ q g v) 1), .int .i64 ((updQ q g v) 2), .int .i64 ((updQ q g v) 3)] 22)) w2.heap.size (quadL (updQ q g v)) := blk_new w2 (quadL (updQ q g v)) 22
          clear hb hb2 CC c0 c1 c2 c3 y1 cv hbl
          go_upto_region 11 with (fail)
          generalize w2.alloc (.cells #[.int .i64 ((updQ q g v) 0), .int .i64 ((updQ q g v) 1), .int .i64 ((updQ q g v) 2), .int .i64 ((updQ q g v) 3)] 22) = W at *
          have cw := B2.cell g _ (quadL_get q hg)
          have fw := B2.frozen g
          go_upto_region 12 with (fail)
          clear cw fw
          replace B1 := B1.far (a := ⟨w1.heap.size + 1, g, none⟩) (.int .i64 v) (by simp)
          replace B3 := B3.far (a := ⟨w1.heap.size + 1, g, none⟩) (.int .i64 v) (by simp; omega)
          replace B2 := B2.set g (.int .i64 v)
          rw [quadL_set q hg] at B2
          replace b2 : Below w.heap.size w (W.setCell ⟨w1.heap.size + 1, g, none⟩ (.int .i64 v)) := b2.setCell (by simp; omega) _
          generalize W.setCell ⟨w1.heap.size + 1, g, none⟩ (.int .i64 v) = U at *
          obtain ⟨⟨d0, d1, d2, d3⟩, g0, g1, g2, g3⟩ := B1.four
          obtain ⟨p0, p1, p2, p3⟩ := B2.cells4
          obtain ⟨r0, r1, r2, r3⟩ := B3.cells4
          have hq4 := fun W => quad_eq (updQ q g v 0) (updQ q g v 1) (updQ q g v 2) (updQ q g v 3) (updQ q g v 0) (updQ q g v 1) (updQ q g v 2) (updQ q g v 3) W
          simp only [beq_self_eq_true, Bool.and_self] at hq4
          have y1 := B1.lt
          go_wp2_with (go_at_call 11; refine (num_any _ _).mono ?_; rintro e w' ⟨rfl, rfl⟩)
          go_roundw
          case rel =>
            exact ⟨k + 1, _, by omega, by omega, by go_num, HQ2.out, B1.over _, (((B2.far _ (by simp)).far _ (by simp)).far _ (by simp)).far _ (by simp), Below.over b2 (by omega) _⟩
          case measure => simp [intOf]; omega
      · have i2 : ¬ (k : Int) < 40 := by omega
        go_wp2
        go_ret
        exact ⟨rfl, hb⟩
    · have i1 : ¬ (k : Int) < (n0 : Int) := by omega
      go_wp2
      go_ret
      exact ⟨rfl, hb⟩

end Go.Proofs.Yticjkeghjlgeiaa
