/-
  The law RegsOther, if Set and Add keep their statements.
-/
import Derived.Test.YticjkeghjlgeiaaRegsStat
import Derived.Test.YticjkeghjlgeiaaPlain
import Derived.Deep.QuietTactic
import Derived.BigQuiet
namespace Go.Proofs.Yticjkeghjlgeiaa
open Go.RowKit
set_option linter.unusedSimpArgs false
set_option linter.unusedVariables false

theorem updQ_self (c : Nat → Int) (k : Nat) : updQ c k (c k) = c := funext fun i => by
  unfold updQ; split
  · rename_i e; rw [e]
  · rfl
theorem allUp_updQ {c : Nat → Int} {h : Int} {n k : Nat} {x : Int} (hc : allUp c h n = true) (hx : upToV x h = true) : allUp (updQ c k x) h n = true := allUp_mk fun i hi => by
  unfold updQ; split
  · exact hx
  · exact allUp_get hc i hi

set_option maxRecDepth 100000 in
set_option maxHeartbeats 4000000 in
theorem regsOther_at (hS : SetC) (hA : AddC) (c : Nat → Int) (a v b : Int) (i j j1 : Nat) (u : Int) (w : World) (hi : i < 4) (hj : j < 4) (hj1 : j1 < 4) (hne : j1 ≠ j) (hu0 : 0 ≤ u) (hu1 : u ≤ 255) (mi : bits .and .i64 a 3 = i) (mj : bits .and .i64 b 3 = j) (mu : bits .and .i64 v 255 = u) (mj1 : bits .and .i64 (j + 1) 3 = j1) :
    Calls Try.prog 6 #[quadA c, .int .i64 a, .int .i64 v, .int .i64 b] w fun e w' => e = .returned (.bool true) ∧ Below w.heap.size w w' := by
  have C5 := hide fun w => awake6_any hS hA w
  have C1 := hS c i u
  cases hok : setOk c i u
  · obtain ⟨e1, e2⟩ := set_no hok
    rw [e1, e2] at C1
    unfold quadA at C1
    have CC := hide C1
    clear C1 e1 e2 hS hA
    unfold quadA
    go_enter Try.func6, Try.ntmps6
    go_wp2_with fail
    refine (C5.out _).mono ?_
    rintro e w1 ⟨rfl, hb⟩
    have b1 : Below w.heap.size w w1 := Below.on (by go_grown) hb
    have s1 := b1.size
    have B0 := (blk_new w (quadL c) 22).on hb
    have y0 := B0.lt
    obtain ⟨c0, c1, c2, c3⟩ := B0.cells4
    clear hb C5 B0
    go_wp2_with fail
    refine (CC.out _).mono ?_
    rintro e w2 ⟨rfl, hb⟩
    have b2 : Below w.heap.size w w2 := Below.on b1 hb
    have s2 := b2.size
    clear hb CC b1 c0 c1 c2 c3 y0
    have hq0 := fun W => quad_eq 0 0 0 0 0 0 0 0 W
    simp only [beq_self_eq_true, Bool.and_self] at hq0
    go_wp2_with (go_at_call 11; refine (num_any _ _).mono ?_; rintro e w' ⟨rfl, rfl⟩)
    go_ret
    exact ⟨rfl, b2.alloc s2 _⟩
  · obtain ⟨e1, e2⟩ := set_yes hok
    rw [Int.toNat_natCast] at e2
    rw [e1, e2] at C1
    obtain ⟨hc, _, _⟩ := and3 hok
    have hx : allUp (updQ c i u) 255 4 = true := allUp_updQ hc (upToV_of hu0 hu1)
    have C2 := hS (updQ c i u) j 0
    obtain ⟨e1, e2⟩ := set_yes (c := updQ c i u) (a := j) (v := 0) (and3_mk hx (upToV_of (by omega) (by omega)) rfl)
    rw [Int.toNat_natCast] at e2
    rw [e1, e2] at C2
    have hy : allUp (updQ (updQ c i u) j 0) 255 4 = true := allUp_updQ hx rfl
    have C3 := hA (updQ (updQ c i u) j 0) j1 j
    obtain ⟨e1, e2⟩ := add_yes (c := updQ (updQ c i u) j 0) (a := j1) (b := j) (and3_mk hy (upToV_of (by omega) (by omega)) (upToV_of (by omega) (by omega)))
    rw [Int.toNat_natCast, Int.toNat_natCast, updQ_same, Int.add_zero] at e2
    obtain ⟨q0, q1⟩ := upToV_yes (allUp_get hy j1 hj1)
    rw [Int.emod_eq_of_lt q0 (by omega), updQ_self] at e2
    rw [e1, e2] at C3
    have hxi : updQ c i u i = u := updQ_same _ _ _
    have HXO : Hid (∀ k : Nat, k ≠ i → updQ c i u k = c k) := fun k hk => updQ_other _ _ hk
    unfold quadA at C1 C2 C3
    have D1 := hide C1
    have D2 := hide C2
    have D3 := hide C3
    clear C1 C2 C3 e1 e2 q0 q1 hx hy hc hS hA hok
    generalize updQ c i u = x at *
    generalize updQ x j 0 = y at *
    unfold quadA
    go_enter Try.func6, Try.ntmps6
    go_wp2_with fail
    refine (C5.out _).mono ?_
    rintro e w1 ⟨rfl, hb⟩
    have b1 : Below w.heap.size w w1 := Below.on (by go_grown) hb
    have s1 := b1.size
    have B0 := (blk_new w (quadL c) 22).on hb
    have y0 := B0.lt
    obtain ⟨c0, c1, c2, c3⟩ := B0.cells4
    clear hb C5
    go_wp2_with fail
    refine (D1.out _).mono ?_
    rintro e w2 ⟨rfl, hb⟩
    have b2 : Below w.heap.size w w2 := Below.on b1 hb
    have s2 := b2.size
    have B1 := B0.on hb
    clear hb D1 b1 c0 c1 c2 c3 y0 B0
    go_wp2_with (go_at_call 11; refine (num_any _ _).mono ?_; rintro e w' ⟨rfl, rfl⟩)
    go_loopw [13] (fun i wr => ∃ k : Nat, k ≤ 4 ∧ i = .int .i64 k ∧ Blk wr w.heap.size (quadL c) ∧ Blk wr w2.heap.size (quadL x) ∧ Below w.heap.size w wr) (fun i _ => 4 - (intOf i).toNat)
    case atStart => exact ⟨0, Nat.zero_le _, rfl, B1.alloc _, blk_new w2 (quadL x) 22, b2.alloc s2 _⟩
    case round =>
      clear B1 b2
      obtain ⟨k, hk, rfl, B1, B2, b2⟩ := hrel
      by_cases hlt : k < 4
      · have i1 : (k : Int) < 4 := by omega
        have p1 := B1.cell k _ (quadL_get c hlt)
        have p2 := B2.cell k _ (quadL_get x hlt)
        by_cases hki : k = i
        · have hki2 : (k : Int) = (i : Int) := by omega
          go_upto_region 10 with (fail)
          go_quiet (fail)
          go_wp2
          go_roundw
          case rel => exact ⟨k + 1, by omega, by go_num, B1.drawn _, B2.drawn _, Below.drawn b2 _⟩
          case measure => simp [intOf]; omega
        · have hki2 : ¬ (k : Int) = (i : Int) := by omega
          have hki3 : ((k : Int) != (i : Int)) = true := by rw [bne_iff_ne]; omega
          have e := HXO.out k hki
          go_upto_region 10 with (fail)
          go_quiet (fail)
          go_wp2
          go_roundw
          case rel => exact ⟨k + 1, by omega, by go_num, B1.drawn _, B2.drawn _, Below.drawn b2 _⟩
          case measure => simp [intOf]; omega
      · obtain rfl : k = 4 := by omega
        have y2 := B2.lt
        obtain ⟨c0, c1, c2, c3⟩ := B2.cells4
        go_wp2_with fail
        refine (D2.out _).mono ?_
        rintro e w3 ⟨rfl, hb⟩
        have b3 : Below w.heap.size w w3 := Below.on b2 hb
        have s3 := b3.size
        have B3 := B2.on hb
        clear hb D2 b2 c0 c1 c2 c3 y2 B2 B1 HXO
        go_wp2_with fail
        refine (D3.out _).mono ?_
        rintro e w4 ⟨rfl, hb⟩
        have b4 : Below w.heap.size w w4 := Below.on (b3.alloc s3 _) hb
        have s4 := b4.size
        have B4 := (B3.alloc _).on hb
        have B5 := (blk_new w3 (quadL y) 22).on hb
        clear hb D3 b3 B3
        have y4 := B4.lt
        have y5 := B5.lt
        have p1 := B4.cell i _ (quadL_get x hi)
        rw [hxi] at p1
        obtain ⟨c0, c1, c2, c3⟩ := B5.cells4
        have i5 : (i : Int) < 4 := by omega
        have hq4 := fun W => quad_eq (y 0) (y 1) (y 2) (y 3) (y 0) (y 1) (y 2) (y 3) W
        simp only [beq_self_eq_true, Bool.and_self] at hq4
        clear B4 B5
        go_wp2_with (go_at_call 11; refine (num_any _ _).mono ?_; rintro e w' ⟨rfl, rfl⟩)
        go_ret
        exact ⟨rfl, b4.alloc s4 _⟩

theorem regsOther_said (hS : SetC) (hA : AddC) (c : Nat → Int) (a v b : Int) (w : World) :
    Calls Try.prog 6 #[quadA c, .int .i64 a, .int .i64 v, .int .i64 b] w fun e w' => e = .returned (.bool true) ∧ Below w.heap.size w w' :=
  regsOther_at hS hA c a v b (a % 4).toNat (b % 4).toNat ((b + 1) % 4).toNat (v % 256) w (by omega) (by omega) (by omega) (by omega) (by omega) (by omega) (by rw [mask3]; omega) (by rw [mask3]; omega) (mask255 _) (by rw [mask3]; omega)

end Go.Proofs.Yticjkeghjlgeiaa
