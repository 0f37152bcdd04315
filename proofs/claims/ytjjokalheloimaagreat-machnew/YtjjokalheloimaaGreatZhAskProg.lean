/-
  What the landed package ask's functions hand back.
-/
import Derived.Test.YtjjokalheloimaaGreatZlab
import Derived.Test.YtjjokalheloimaaGreatZlac
namespace Go.Proofs.YtjjokalheloimaaGreat
open Go.RowKit
set_option linter.unusedSimpArgs false
set_option linter.unusedVariables false
theorem askUpTo_any (n m : Int) (w : World) :
    Calls Tryz.prog 59 #[.int .i64 n, .int .i64 m] w fun e w' => e = .returned (.bool (upToV n m)) ∧ w = w' := by
  unfold upToV
  by_cases h0 : 0 ≤ n
  · by_cases h1 : n ≤ m
    · rw [decide_eq_true (show 0 ≤ n ∧ n ≤ m from ⟨h0, h1⟩)]
      go_enter Tryz.func59, Tryz.ntmps59
      go_wp2
      go_ret
      exact ⟨rfl, rfl⟩
    · rw [decide_eq_false (show ¬ (0 ≤ n ∧ n ≤ m) from fun x => h1 x.2)]
      go_enter Tryz.func59, Tryz.ntmps59
      go_wp2
      go_ret
      exact ⟨rfl, rfl⟩
  · rw [decide_eq_false (show ¬ (0 ≤ n ∧ n ≤ m) from fun x => h0 x.1)]
    go_enter Tryz.func59, Tryz.ntmps59
    go_wp2
    go_ret
    exact ⟨rfl, rfl⟩
/-- Is it so of all reads? The question is a function value, whatever it holds. -/
theorem askAll_any (F : FuncId) (fs cs : Array Value) (p : Nat → Bool) (a : Option Addr) (n c : Nat) (z : Nat → Int) (w : World) (hn : n ≤ 1152921504606846976) (h : Row w a (n * 3) fun i => .int .i64 (z i))
    (hF : ∀ args W, Sem.run Tryz.prog (callFunc F args) W = .ok (.enter F args) W)
    (C : Hid (∀ k, k < n → ∀ W, Below w.heap.size w W → Calls Tryz.prog F (fs.push (.agg #[.int .i64 (z (k * 3)), .int .i64 (z (k * 3 + 1)), .int .i64 (z (k * 3 + 2))]) ++ cs) W fun e w' => e = .returned (.bool (p k)) ∧ Below W.heap.size W w')) :
    Calls Tryz.prog 124 #[.slice a n c, .func (.func F) fs cs] w fun e w' => e = .returned (.bool (allTo p n)) ∧ Below w.heap.size w w' := by
  go_enter Tryz.func124, Tryz.ntmps124
  go_wp2
  go_loopw [9] (fun i wr => ∃ k : Nat, k ≤ n ∧ i = .int .i64 k ∧ Hid (allTo p k = true) ∧ Below w.heap.size w wr) (fun i _ => n - (intOf i).toNat)
  case atStart => exact ⟨0, Nat.zero_le _, rfl, rfl, Below.refl _ _⟩
  case round =>
    obtain ⟨k, hk, rfl, HS, hb⟩ := hrel
    by_cases hlt : k < n
    · have i1 : (k : Int) < (n : Int) := by omega
      obtain ⟨b, off, hsa, hbl, d0, d1, d2⟩ := (h.below hb (Nat.le_refl _)).at3 k hlt
      subst hsa
      have C1 := hide (C.out k hlt)
      clear C h
      have s0 := hb.size
      cases hp : p k
      · rw [hp] at C1
        have HN : Hid (allTo p n = false) := allTo_no k hlt hp
        clear hp
        go_wp2_with fail
        refine (C1.out _ ?_).mono ?_
        · go_grown
        rintro e w1 ⟨rfl, hb1⟩
        have b1 : Below w.heap.size w w1 := Below.on (by go_grown) hb1
        clear hb1 d0 d1 d2 C1 hF
        go_wp2
        go_ret
        exact ⟨ret_bool HN.out.symm, b1⟩
      · rw [hp] at C1
        have HN : Hid (allTo p (k + 1) = true) := by
          show allTo p (k + 1) = true
          rw [allTo, HS.out, hp]
          rfl
        clear hp
        go_wp2_with fail
        refine (C1.out _ ?_).mono ?_
        · go_grown
        rintro e w1 ⟨rfl, hb1⟩
        have b1 : Below w.heap.size w w1 := Below.on (by go_grown) hb1
        clear hb1 d0 d1 d2 C1 hF hb s0
        go_wp2
        go_roundw
        case rel => exact ⟨k + 1, by omega, by go_num, HN, b1⟩
        case measure => simp [intOf]; omega
    · obtain rfl : k = n := by omega
      go_wp2
      go_ret
      exact ⟨ret_bool HS.out.symm, hb⟩
/-- Is it so of all writes? The question is a function value, whatever it holds. -/
theorem askAllW_any (F : FuncId) (fs cs : Array Value) (p : Nat → Bool) (a : Option Addr) (n c : Nat) (z : Nat → Int) (w : World) (hn : n ≤ 1152921504606846976) (h : Row w a (n * 3) fun i => .int .i64 (z i))
    (hF : ∀ args W, Sem.run Tryz.prog (callFunc F args) W = .ok (.enter F args) W)
    (C : Hid (∀ k, k < n → ∀ W, Below w.heap.size w W → Calls Tryz.prog F (fs.push (.agg #[.int .i64 (z (k * 3)), .int .i64 (z (k * 3 + 1)), .int .i64 (z (k * 3 + 2))]) ++ cs) W fun e w' => e = .returned (.bool (p k)) ∧ Below W.heap.size W w')) :
    Calls Tryz.prog 127 #[.slice a n c, .func (.func F) fs cs] w fun e w' => e = .returned (.bool (allTo p n)) ∧ Below w.heap.size w w' := by
  go_enter Tryz.func127, Tryz.ntmps127
  go_wp2
  go_loopw [9] (fun i wr => ∃ k : Nat, k ≤ n ∧ i = .int .i64 k ∧ Hid (allTo p k = true) ∧ Below w.heap.size w wr) (fun i _ => n - (intOf i).toNat)
  case atStart => exact ⟨0, Nat.zero_le _, rfl, rfl, Below.refl _ _⟩
  case round =>
    obtain ⟨k, hk, rfl, HS, hb⟩ := hrel
    by_cases hlt : k < n
    · have i1 : (k : Int) < (n : Int) := by omega
      obtain ⟨b, off, hsa, hbl, d0, d1, d2⟩ := (h.below hb (Nat.le_refl _)).at3 k hlt
      subst hsa
      have C1 := hide (C.out k hlt)
      clear C h
      have s0 := hb.size
      cases hp : p k
      · rw [hp] at C1
        have HN : Hid (allTo p n = false) := allTo_no k hlt hp
        clear hp
        go_wp2_with fail
        refine (C1.out _ ?_).mono ?_
        · go_grown
        rintro e w1 ⟨rfl, hb1⟩
        have b1 : Below w.heap.size w w1 := Below.on (by go_grown) hb1
        clear hb1 d0 d1 d2 C1 hF
        go_wp2
        go_ret
        exact ⟨ret_bool HN.out.symm, b1⟩
      · rw [hp] at C1
        have HN : Hid (allTo p (k + 1) = true) := by
          show allTo p (k + 1) = true
          rw [allTo, HS.out, hp]
          rfl
        clear hp
        go_wp2_with fail
        refine (C1.out _ ?_).mono ?_
        · go_grown
        rintro e w1 ⟨rfl, hb1⟩
        have b1 : Below w.heap.size w w1 := Below.on (by go_grown) hb1
        clear hb1 d0 d1 d2 C1 hF hb s0
        go_wp2
        go_roundw
        case rel => exact ⟨k + 1, by omega, by go_num, HN, b1⟩
        case measure => simp [intOf]; omega
    · obtain rfl : k = n := by omega
      go_wp2
      go_ret
      exact ⟨ret_bool HS.out.symm, hb⟩
end Go.Proofs.YtjjokalheloimaaGreat
