/-
  What the four functions of the landed package arena hand back.
-/
import Derived.Test.YtmjclmjnkmhciaaArenaSaid
namespace Go.Proofs.Ytmjclmjnkmhciaa
open Go.RowKit
set_option linter.unusedSimpArgs false

/-- The function that May hands to the library: a word may not be. -/
theorem lit_any (v n k : Int) (w : World) :
    Calls Try.prog 38 #[wordA v n k] w fun e w' => e = .returned (.bool (!wmay v n k)) ∧ Below w.heap.size w w' := by
  unfold wordA
  go_enter Try.func38, Try.ntmps38
  go_wp2_with fail
  refine (wmay_any _ _ _ _).mono ?_
  rintro e w1 ⟨rfl, hb1⟩
  have b1 : Below w.heap.size w w1 := Below.on (by go_grown) hb1
  clear hb1
  go_wp2
  go_ret
  exact ⟨rfl, b1⟩

/-- The place of the first of the words behind k that may not be, or -1. -/
theorem idx_any (a : Option Addr) (n c : Nat) (z : Nat → Int) (w : World) (hn : n ≤ 1152921504606846976) (h : Row w a (n * 3) fun i => .int .i64 (z i)) :
    Calls Try.prog 39 #[.slice a n c, .func (.func 38) #[] #[]] w fun e w' => (∃ i : Int, e = .returned (.int .i64 i) ∧ (0 ≤ i ↔ wordsTo z n = false)) ∧ Below w.heap.size w w' := by
  go_enter Try.func39, Try.ntmps39
  go_wp2
  go_loopw [8] (fun i wr => ∃ k : Nat, k ≤ n ∧ i = .int .i64 k ∧ wordsTo z k = true ∧ Below w.heap.size w wr) (fun i _ => n - (intOf i).toNat)
  case atStart => exact ⟨0, Nat.zero_le _, rfl, rfl, by go_grown⟩
  case round =>
    obtain ⟨k, hk, rfl, hs, hb⟩ := hrel
    have HS := hide hs
    clear hs
    by_cases hlt : k < n
    · have i1 : (k : Int) < (n : Int) := by omega
      obtain ⟨b, off, hsa, _, d0, d1, d2⟩ := (h.below hb (Nat.le_refl _)).at3 k hlt
      subst hsa
      cases hv : wmay (z (k * 3)) (z (k * 3 + 1)) (z (k * 3 + 2))
      · go_wp2_with fail
        refine (lit_any _ _ _ _).mono ?_
        rintro e w1 ⟨rfl, hb1⟩
        rw [hv]
        have b1 : Below w.heap.size w w1 := Below.on hb hb1
        clear hb1 d0 d1 d2
        go_wp2
        go_ret
        exact ⟨⟨_, rfl, fun _ => wordsTo_no k hlt hv, fun _ => by omega⟩, b1⟩
      · go_wp2_with fail
        refine (lit_any _ _ _ _).mono ?_
        rintro e w1 ⟨rfl, hb1⟩
        rw [hv]
        have b1 : Below w.heap.size w w1 := Below.on hb hb1
        have HN : Hid (wordsTo z (k + 1) = true) := by
          show wordsTo z (k + 1) = true
          rw [wordsTo, HS.out, hv]
          rfl
        clear hb1 d0 d1 d2 hb
        go_wp2
        go_roundw
        case rel => exact ⟨k + 1, by omega, by go_num, HN.out, b1⟩
        case measure => simp [intOf]; omega
    · obtain rfl : k = n := by omega
      go_wp2
      go_ret
      exact ⟨⟨_, rfl, fun h => by omega, fun h => by rw [HS.out] at h; cases h⟩, hb⟩

theorem has_any (a : Option Addr) (n c : Nat) (z : Nat → Int) (w : World) (hn : n ≤ 1152921504606846976) (h : Row w a (n * 3) fun i => .int .i64 (z i)) :
    Calls Try.prog 37 #[.slice a n c, .func (.func 38) #[] #[]] w fun e w' => e = .returned (.bool (!wordsTo z n)) ∧ Below w.heap.size w w' := by
  go_enter Try.func37, Try.ntmps37
  go_wp2_with fail
  refine (idx_any a n c z _ hn h).mono ?_
  rintro e w1 ⟨⟨i, rfl, hi⟩, hb1⟩
  have HI := hide hi
  clear hi
  go_wp2
  go_ret
  refine ⟨ret_bool ?_, hb1⟩
  cases e : wordsTo z n
  · exact decide_eq_true (HI.out.2 e)
  · refine decide_eq_false fun h => ?_
    have := HI.out.1 h
    rw [e] at this
    cases this

theorem oneMayNotBe_any (a : Option Addr) (n c : Nat) (z : Nat → Int) (w : World) (hn : n ≤ 1152921504606846976) (h : Row w a (n * 3) fun i => .int .i64 (z i)) :
    Calls Try.prog 29 #[.slice a n c] w fun e w' => e = .returned (.bool (!wordsTo z n)) ∧ Below w.heap.size w w' := by
  go_enter Try.func29, Try.ntmps29
  go_wp2_with fail
  refine (has_any a n c z _ hn h).mono ?_
  rintro e w1 ⟨rfl, hb1⟩
  go_wp2
  go_ret
  exact ⟨rfl, hb1⟩

/-- A level of an arena that lies in a slot. -/
theorem index_at (s : Nat → Sl) {k : Nat} (hk : k < 4) (W : World) :
    Sem.run Try.prog (Instr.index 23 (.agg #[.slice (s 0).a (s 0).n (s 0).c, .slice (s 1).a (s 1).n (s 1).c, .slice (s 2).a (s 2).n (s 2).c, .slice (s 3).a (s 3).n (s 3).c]) (.int .i64 (k : Int))) W = .ok (.slice (s k).a (s k).n (s k).c) W := by
  have : k = 0 ∨ k = 1 ∨ k = 2 ∨ k = 3 := by omega
  rcases this with rfl | rfl | rfl | rfl <;> simp [Instr.index, Try.underlying23, asIntOf, go_sem]
theorem index_in (s : Nat → Sl) {k : Nat} (hk : k < 4) (W : World) :
    Sem.run Try.prog (Instr.index 25 (.agg #[.slice (s 0).a (s 0).n (s 0).c, .slice (s 1).a (s 1).n (s 1).c, .slice (s 2).a (s 2).n (s 2).c, .slice (s 3).a (s 3).n (s 3).c]) (.int .i64 (k : Int))) W = .ok (.slice (s k).a (s k).n (s k).c) W := by
  have : k = 0 ∨ k = 1 ∨ k = 2 ∨ k = 3 := by omega
  rcases this with rfl | rfl | rfl | rfl <;> simp [Instr.index, Try.underlying25, asIntOf, go_sem]

set_option maxHeartbeats 1000000 in
theorem may_c : MayC := by
  intro s z w hf h
  have hn := hf.short
  clear hf
  unfold arenaA amay
  go_enter Try.func17, Try.ntmps17
  go_wp2
  go_loopw [6] (fun i wr => ∃ k : Nat, k ≤ 4 ∧ i = .int .i64 k ∧ lvTo s z k = true ∧ Below w.heap.size w wr) (fun i _ => 4 - (intOf i).toNat)
  case atStart => exact ⟨0, Nat.zero_le _, rfl, rfl, by go_grown⟩
  case round =>
    obtain ⟨k, hk, rfl, hs, hb⟩ := hrel
    have HS := hide hs
    clear hs
    by_cases hlt : k < 4
    · have i1 : (k : Int) < 4 := by omega
      have HK := hide (hn k hlt)
      have HR := hide ((h.below hb (Nat.le_refl _)) k hlt)
      have hx := fun W => index_at s hlt W
      clear h hn
      by_cases h4 : (s k).n ≤ 4
      · have i2 : ¬ (4 : Int) < ((s k).n : Int) := by omega
        cases hv : wordsTo (z k) (s k).n
        · go_wp2_with fail
          refine (oneMayNotBe_any _ _ _ (z k) _ HK.out HR.out).mono ?_
          rintro e w1 ⟨rfl, hb1⟩
          rw [hv]
          have b1 : Below w.heap.size w w1 := Below.on hb hb1
          clear hb1
          go_wp2
          go_ret
          exact ⟨ret_bool (lvTo_no k hlt (by rw [lvMay, hv, Bool.and_false])).symm, b1⟩
        · go_wp2_with fail
          refine (oneMayNotBe_any _ _ _ (z k) _ HK.out HR.out).mono ?_
          rintro e w1 ⟨rfl, hb1⟩
          rw [hv]
          have b1 : Below w.heap.size w w1 := Below.on hb hb1
          have HN : Hid (lvTo s z (k + 1) = true) := by
            show lvTo s z (k + 1) = true
            rw [lvTo, HS.out, lvMay_mk h4 hv]
            rfl
          clear hb1
          go_wp2
          go_roundw
          case rel => exact ⟨k + 1, by omega, by go_num, HN.out, b1⟩
          case measure => simp [intOf]; omega
      · have i2 : (4 : Int) < ((s k).n : Int) := by omega
        go_wp2
        go_ret
        exact ⟨ret_bool (lvTo_no k hlt (lvMay_long (by omega))).symm, hb⟩
    · obtain rfl : k = 4 := by omega
      clear h hn
      go_wp2
      go_ret
      exact ⟨ret_bool HS.out.symm, hb⟩

end Go.Proofs.Ytmjclmjnkmhciaa
