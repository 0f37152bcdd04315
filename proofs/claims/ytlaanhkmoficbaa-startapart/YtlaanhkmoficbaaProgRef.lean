/-
  The document's answers to chapter 8: May and Put.
-/
import Derived.Test.YtlaanhkmoficbaaInstRefs
import Derived.Test.YtlaanhkmoficbaaProgPure
import Derived.Test.YtlaanhkmoficbaaOwn
namespace Go.Proofs.Ytlaanhkmoficbaa
open Go.RowKit
set_option linter.unusedSimpArgs false

/-- One of a row of instructions: its four cells. -/
theorem Row.at4 {w : World} {a : Option Addr} {n : Nat} {f : Nat → Value} (h : Row w a (n * 4) f) (k : Nat) (hk : k < n) :
    ∃ b off, a = some ⟨b, off, none⟩ ∧ b < w.heap.size ∧ w.cell? ⟨b, off + k * 4, none⟩ = some (f (k * 4)) ∧ w.cell? ⟨b, off + k * 4 + 1, none⟩ = some (f (k * 4 + 1)) ∧ w.cell? ⟨b, off + k * 4 + 2, none⟩ = some (f (k * 4 + 2)) ∧ w.cell? ⟨b, off + k * 4 + 3, none⟩ = some (f (k * 4 + 3)) := by
  obtain ⟨b, off, rfl, hb, c0⟩ := h (k * 4) (by omega)
  obtain ⟨_, _, e, _, c1⟩ := h (k * 4 + 1) (by omega)
  obtain ⟨_, _, e2, _, c2⟩ := h (k * 4 + 2) (by omega)
  obtain ⟨_, _, e3, _, c3⟩ := h (k * 4 + 3) (by omega)
  simp only [Option.some.injEq, Addr.mk.injEq] at e e2 e3
  obtain ⟨rfl, rfl, _⟩ := e
  obtain ⟨rfl, rfl, _⟩ := e2
  obtain ⟨rfl, rfl, _⟩ := e3
  exact ⟨b, off, rfl, hb, c0, c1, c2, c3⟩
theorem quadA_at (z : Nat → Int) (k : Nat) : quadA (instAt z k) = .agg #[.int .i64 (z (k * 4)), .int .i64 (z (k * 4 + 1)), .int .i64 (z (k * 4 + 2)), .int .i64 (z (k * 4 + 3))] := rfl

set_option maxRecDepth 10000 in
set_option maxHeartbeats 2000000 in
theorem rprogMay_any (a : Option Addr) (n c : Nat) (z : Nat → Int) (w : World) (hn : n ≤ 1152921504606846976) (h : Row w a (n * 4) fun i => .int .i64 (z i)) :
    Calls Try.prog 27 #[.slice a n c] w fun e w' => e = .returned (.bool (progMay n z)) ∧ Below w.heap.size w w' := by
  go_enter Try.func27, Try.ntmps27
  go_wp2
  go_loopw [3] (fun i wr => ∃ k : Nat, k ≤ n ∧ i = .int .i64 k ∧ Hid (progTo z n k = true) ∧ Below w.heap.size w wr) (fun i _ => n - (intOf i).toNat)
  case atStart => exact ⟨0, Nat.zero_le _, rfl, rfl, by go_grown⟩
  case round =>
    obtain ⟨k, hk, rfl, HS, hb⟩ := hrel
    by_cases hlt : k < n
    · have i1 : (k : Int) < (n : Int) := by omega
      obtain ⟨b, off, hsa, hbl, d0, d1, d2, d3⟩ := (h.below hb (Nat.le_refl _)).at4 k hlt
      subst hsa
      have C := hide fun w => rinstMay_any (instAt z k) w
      rw [quadA_at] at C
      cases hm : instMay (instAt z k)
      · rw [hm] at C
        go_wp2_with fail
        refine (C.out _).mono ?_
        rintro e w1 ⟨rfl, hb1⟩
        have b1 : Below w.heap.size w w1 := Below.on hb hb1
        clear hb1 d0 d1 d2 d3 C
        go_wp2
        go_ret
        exact ⟨ret_bool (progMay_no k hlt (by rw [hm]; rfl)).symm, b1⟩
      · rw [hm] at C
        by_cases h4 : z (k * 4) = 4
        · rw [h4] at C d0
          by_cases hj : z (k * 4 + 2) ≤ (k : Int)
          · go_wp2_with fail
            refine (C.out _).mono ?_
            rintro e w1 ⟨rfl, hb1⟩
            have b1 : Below w.heap.size w w1 := Below.on hb hb1
            obtain ⟨_, _, e, _, p0, p1, p2, p3⟩ := (h.below b1 (Nat.le_refl _)).at4 k hlt
            cases e
            rw [h4] at p0
            clear hb1 d0 d1 d2 d3 C
            go_wp2
            go_ret
            exact ⟨ret_bool (progMay_no k hlt (by unfold badJump; rw [hm, h4, decide_eq_true hj]; rfl)).symm, b1⟩
          · by_cases hj2 : (n : Int) < z (k * 4 + 2)
            · go_wp2_with fail
              refine (C.out _).mono ?_
              rintro e w1 ⟨rfl, hb1⟩
              have b1 : Below w.heap.size w w1 := Below.on hb hb1
              obtain ⟨_, _, e, _, p0, p1, p2, p3⟩ := (h.below b1 (Nat.le_refl _)).at4 k hlt
              cases e
              rw [h4] at p0
              clear hb1 d0 d1 d2 d3 C
              go_wp2
              go_ret
              exact ⟨ret_bool (progMay_no k hlt (by unfold badJump; rw [hm, h4, decide_eq_true hj2]; simp)).symm, b1⟩
            · have HN : Hid (progTo z n (k + 1) = true) := by
                show progTo z n (k + 1) = true
                rw [progTo, HS.out, hm]
                unfold badJump
                rw [h4, decide_eq_false hj, decide_eq_false hj2]
                rfl
              go_wp2_with fail
              refine (C.out _).mono ?_
              rintro e w1 ⟨rfl, hb1⟩
              have b1 : Below w.heap.size w w1 := Below.on hb hb1
              obtain ⟨_, _, e, _, p0, p1, p2, p3⟩ := (h.below b1 (Nat.le_refl _)).at4 k hlt
              cases e
              rw [h4] at p0
              clear hb1 d0 d1 d2 d3 C
              go_wp2
              go_roundw
              case rel => exact ⟨k + 1, by omega, by go_num, HN, b1⟩
              case measure => simp [intOf]; omega
        · have HN : Hid (progTo z n (k + 1) = true) := by
            show progTo z n (k + 1) = true
            rw [progTo, HS.out, hm]
            unfold badJump
            rw [beq_eq_false_iff_ne.2 h4]
            rfl
          go_wp2_with fail
          refine (C.out _).mono ?_
          rintro e w1 ⟨rfl, hb1⟩
          have b1 : Below w.heap.size w w1 := Below.on hb hb1
          obtain ⟨_, _, e, _, p0, p1, p2, p3⟩ := (h.below b1 (Nat.le_refl _)).at4 k hlt
          cases e
          clear hb1 d0 d1 d2 d3 C
          go_wp2
          go_roundw
          case rel => exact ⟨k + 1, by omega, by go_num, HN, b1⟩
          case measure => simp [intOf]; omega
    · obtain rfl : k = n := by omega
      go_wp2
      go_ret
      refine ⟨ret_bool ?_, hb⟩
      rw [progMay, HS.out, Bool.true_and]
      exact decide_eq_decide.2 (by omega)

end Go.Proofs.Ytlaanhkmoficbaa
