/-
  The law Orders: the program's answers are the document's, what was lent is as it was. Its walk.
-/
import Derived.Test.YtibeokdjedplcaaLend
import Derived.Test.YtibeokdjedplcaaOrderAwake
namespace Go.Proofs.Ytibeokdjedplcaa
open Go.RowKit

theorem to_lent {z : Nat → Int} {n : Nat} : (∀ k, k ≤ n → mayTo (lentZ z n) k = mayTo z k) ∧ (∀ k, k ≤ n → joinTo (lentZ z n) k = joinTo z k) ∧ (∀ k, k ≤ n → chainTo (lentZ z n) k = chainTo z k) := by
  have hz : ∀ i, i < n → lentZ z n i = z i := fun i hi => if_pos hi
  refine ⟨?_, ?_, ?_⟩ <;> intro k <;> induction k with
  | zero => intro _; rfl
  | succ k ih =>
    intro hk
    first
      | rw [mayTo, mayTo, ih (by omega), hz k (by omega)]
      | rw [joinTo, joinTo, ih (by omega), hz k (by omega)]
      | rw [chainTo, chainTo, ih (by omega), hz k (by omega), hz (k - 1) (by omega)]

theorem ojoin_lent (z : Nat → Int) (n : Nat) : ojoinV (lentZ z n) n = ojoinV z n := by
  unfold ojoinV; rw [to_lent.1 n (Nat.le_refl _), to_lent.2.1 n (Nat.le_refl _)]
theorem ochain_lent (z : Nat → Int) (n : Nat) : ochainV (lentZ z n) n = ochainV z n := by
  unfold ochainV; rw [to_lent.1 n (Nat.le_refl _), to_lent.2.2 n (Nat.le_refl _)]
theorem ordE_lent (z : Nat → Int) (n : Nat) : ordE (lentZ z n) n = ordE z n := by
  unfold ordE; rw [to_lent.1 n (Nat.le_refl _)]

set_option maxHeartbeats 1000000 in
theorem orders_walk (a0 : Option Addr) (n0 c0 : Nat) (z0 : Nat → Int) (w : World) (l0 : n0 * 8 ≤ 140737488351232) (e0 : a0 = none → n0 = 0 ∧ c0 = 0) (r0 : Row w a0 n0 fun i => .int .i64 (z0 i)) :
    Calls Try.prog 3 #[.slice a0 n0 c0] w fun e w' => e = .returned (.bool true) ∧ Below w.heap.size w w' := by
  have hn : n0 ≤ 1152921504606846976 := by omega
  have j1 := ojoin_lent z0 n0
  have j2 := ochain_lent z0 n0
  have j3 := ordE_lent z0 n0
  go_enter Try.func3, Try.ntmps3
  go_wp2_with fail
  refine (lendInts_any a0 n0 c0 z0 w l0 e0 r0).mono ?_
  rintro e w1 ⟨g, cap, rfl, hg, hcap, hl, b1⟩
  replace r0 := r0.below b1 (Nat.le_refl _)
  clear e0
  go_wp2_with fail
  refine (ojoin_any _ n0 cap (lentZ z0 n0) _ hn (hl.less (by omega))).mono ?_
  rintro e w2 ⟨rfl, rfl⟩
  rw [j1, j3]
  clear j1
  go_wp2_with fail
  refine (rjoinAll_any _ n0 c0 z0 _ hn r0).mono ?_
  rintro e w2 ⟨rfl, rfl⟩
  go_wp2_with fail
  refine (ochain_any _ n0 cap (lentZ z0 n0) _ hn (hl.less (by omega))).mono ?_
  rintro e w2 ⟨rfl, q, h1⟩
  rw [j2, j3]
  have b2 : Below w.heap.size w w2 := by subst h1; exact below_drewN b1 q
  replace hl : Row w2 (some ⟨g, 0, none⟩) (n0 + 2) fun i => .int .i64 (lentZ z0 n0 i) := by subst h1; exact hl
  replace r0 : Row w2 a0 n0 fun i => .int .i64 (z0 i) := by subst h1; exact r0
  clear h1 b1 j2 j3
  go_wp2_with fail
  refine (rchain_any _ n0 c0 z0 _ hn r0).mono ?_
  rintro e w3 ⟨rfl, q', h1⟩
  have b3 : Below w.heap.size w w3 := by subst h1; exact below_drewN b2 q'
  replace hl : Row w3 (some ⟨g, 0, none⟩) (n0 + 2) fun i => .int .i64 (lentZ z0 n0 i) := by subst h1; exact hl
  replace r0 : Row w3 a0 n0 fun i => .int .i64 (z0 i) := by subst h1; exact r0
  clear h1 b2
  go_wp2_with (go_at_call 13; go_in)
  refine (keptInts_yes g cap a0 n0 c0 z0 _ l0 hcap hl r0).mono ?_
  rintro e w4 ⟨rfl, q2, h1⟩
  have b4 : Below w.heap.size w w4 := by subst h1; exact below_drewN b3 q2
  clear h1 b3 hl r0
  go_wp2_with (go_at_call 15; refine (awake2_any _).mono ?_; rintro e w5 ⟨rfl, b5⟩)
  go_ret
  exact ⟨rfl, b4.trans (b5.mono b4.size)⟩

end Go.Proofs.Ytibeokdjedplcaa
