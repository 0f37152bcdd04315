/-
  What every program answers that is one: chapter 2's own examples hold.
-/
import Derived.Test.YtibeokdjedplcaaOrderCalls
import Derived.Handy
namespace Go.Proofs.Ytibeokdjedplcaa
open Go.RowKit

/-- A slice of literals, just laid. -/
theorem row_lit (zs : List Int) (t : TypeId) (w : World) : Row (w.alloc (.cells (zs.map (Value.int .i64)).toArray t)) (some ⟨w.heap.size, 0, none⟩) zs.length fun i => .int .i64 (zs.getD i 0) := by
  intro i hi
  refine ⟨w.heap.size, 0, rfl, by simp, ?_⟩
  simp [hi]

set_option maxHeartbeats 1000000 in
theorem awake2_any (w : World) :
    Calls Try.prog 15 #[] w fun e w' => e = .returned (.bool true) ∧ Below w.heap.size w w' := by
  have e1 : ojoinV (fun i => [1, 0, 2].getD i 0) 3 = 3 := by decide
  have e2 : ordE (fun i => [1, 0, 2].getD i 0) 3 = 0 := by decide
  have e3 : ochainV (fun i => [0, 1, 3].getD i 0) 3 = true := by decide
  have e4 : ordE (fun i => [0, 1, 3].getD i 0) 3 = 0 := by decide
  have e5 : ochainV (fun i => [1, 2].getD i 0) 2 = false := by decide
  have e6 : ordE (fun i => [1, 2].getD i 0) 2 = 0 := by decide
  have e7 : ojoinV (fun i => [4].getD i 0) 1 = 0 := by decide
  have e8 : ordE (fun i => [4].getD i 0) 1 = 200 := by decide
  have e9 : ojoinV (fun _ => 0) 0 = 0 := by decide
  have e10 : ordE (fun _ => 0) 0 = 0 := by decide
  have e11 : ochainV (fun _ => 0) 0 = true := by decide
  have n0 : 0 ≤ 1152921504606846976 := by omega
  have n1 : 1 ≤ 1152921504606846976 := by omega
  have n2 : 2 ≤ 1152921504606846976 := by omega
  have n3 : 3 ≤ 1152921504606846976 := by omega
  go_enter Try.func15, Try.ntmps15
  go_wp2_with fail
  refine (ojoin_any _ 3 3 (fun i => [1, 0, 2].getD i 0) _ n3 (by exact row_lit [1, 0, 2] 3 w)).mono ?_
  rintro e w1 ⟨rfl, h1⟩
  rw [e1, e2]
  have b1 : Below w.heap.size w w1 := by subst h1; go_grown
  clear e1 e2 h1
  go_wp2_with fail
  refine (ochain_any _ 3 3 (fun i => [0, 1, 3].getD i 0) _ n3 (by exact row_lit [0, 1, 3] 3 w1)).mono ?_
  rintro e w2 ⟨rfl, q, h1⟩
  rw [e3, e4]
  have b2 : Below w.heap.size w w2 := by subst h1; exact below_drewN (b1.alloc b1.size _) q
  clear e3 e4 h1 b1
  go_wp2_with fail
  refine (ochain_any _ 2 2 (fun i => [1, 2].getD i 0) _ n2 (by exact row_lit [1, 2] 3 w2)).mono ?_
  rintro e w3 ⟨rfl, q, h1⟩
  rw [e5, e6]
  have b3 : Below w.heap.size w w3 := by subst h1; exact below_drewN (b2.alloc b2.size _) q
  clear e5 e6 h1 b2
  go_wp2_with fail
  refine (ojoin_any _ 1 1 (fun i => [4].getD i 0) _ n1 (by exact row_lit [4] 3 w3)).mono ?_
  rintro e w4 ⟨rfl, h1⟩
  rw [e7, e8]
  have b4 : Below w.heap.size w w4 := by subst h1; exact b3.alloc b3.size _
  clear e7 e8 h1 b3
  go_wp2_with fail
  refine (ojoin_any _ 0 0 (fun _ => 0) _ n0 (row_zero _ _ _)).mono ?_
  rintro e w5 ⟨rfl, h1⟩
  rw [e9, e10]
  subst h1
  clear e9
  go_wp2_with fail
  refine (ochain_any _ 0 0 (fun _ => 0) _ n0 (row_zero _ _ _)).mono ?_
  rintro e w5 ⟨rfl, q, h1⟩
  rw [e11, e10]
  have b5 : Below w.heap.size w w5 := by subst h1; exact below_drewN b4 q
  clear e10 e11 h1 b4
  go_wp2
  go_ret
  exact ⟨rfl, b5⟩

end Go.Proofs.Ytibeokdjedplcaa
