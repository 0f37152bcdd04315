/-
  The law LabelLattice, walked: one theorem a case of the answers of Below that its tests ask (q: x is below z; r: y is below z; t: x is below y; u: y is below x). Part C.
-/
import Derived.Test.YtmmingdnlofjjaaAnys
namespace Go.Proofs.Ytmmingdnlofjjaa.labelLattice
open Go.RowKit

set_option maxHeartbeats 600000 in      -- one long walk: eight calls, 146 slots
theorem case_TT_F (a0 a1 a2 x y z j : Int) (m0 : bits .and .i64 a0 3 = x) (m1 : bits .and .i64 a1 3 = y) (m2 : bits .and .i64 a2 3 = z)
    (j1 : joinV x y = j) (j2 : joinV y x = j) (e1 : labE x y = 0) (e2 : labE y x = 0) (e3 : labE x j = 0) (e4 : labE x z = 0) (e5 : labE y z = 0) (e6 : labE j z = 0)
    (p : belowV x j = true) (q : belowV x z = true) (r : belowV y z = true) (s : belowV j z = true) (t : belowV x y = false) (g : (x == y) = false) (w : World) :
    Calls Try.prog 4 #[.int .i64 a0, .int .i64 a1, .int .i64 a2] w fun e w' => e = .returned (.bool true) ∧ Grown w w' := by
  go_enter Try.func4, Try.ntmps4
  go_wp2_with (first
    | (go_at_call 15; refine (awake_any _).mono ?_; rintro e w' ⟨rfl, rfl⟩)
    | (go_at_call 8; refine (join_any _ _ _).mono ?_; rintro e w' ⟨rfl, rfl⟩)
    | (go_at_call 10; refine (below_any _ _ _).mono ?_; rintro e w' ⟨rfl, rfl⟩)
    | (go_at_call 12; go_in))
  go_ret
  exact ⟨rfl, Grown.refl _⟩

set_option maxHeartbeats 600000 in      -- one long walk: eight calls, 146 slots
theorem case_TT_TF (a0 a1 a2 x y z j : Int) (m0 : bits .and .i64 a0 3 = x) (m1 : bits .and .i64 a1 3 = y) (m2 : bits .and .i64 a2 3 = z)
    (j1 : joinV x y = j) (j2 : joinV y x = j) (e1 : labE x y = 0) (e2 : labE y x = 0) (e3 : labE x j = 0) (e4 : labE x z = 0) (e5 : labE y z = 0) (e6 : labE j z = 0)
    (p : belowV x j = true) (q : belowV x z = true) (r : belowV y z = true) (s : belowV j z = true) (t : belowV x y = true) (u : belowV y x = false) (g : (x == y) = false) (w : World) :
    Calls Try.prog 4 #[.int .i64 a0, .int .i64 a1, .int .i64 a2] w fun e w' => e = .returned (.bool true) ∧ Grown w w' := by
  go_enter Try.func4, Try.ntmps4
  go_wp2_with (first
    | (go_at_call 15; refine (awake_any _).mono ?_; rintro e w' ⟨rfl, rfl⟩)
    | (go_at_call 8; refine (join_any _ _ _).mono ?_; rintro e w' ⟨rfl, rfl⟩)
    | (go_at_call 10; refine (below_any _ _ _).mono ?_; rintro e w' ⟨rfl, rfl⟩)
    | (go_at_call 12; go_in))
  go_ret
  exact ⟨rfl, Grown.refl _⟩

set_option maxHeartbeats 600000 in      -- one long walk: eight calls, 146 slots
theorem case_TT_TT (a0 a1 a2 x y z j : Int) (m0 : bits .and .i64 a0 3 = x) (m1 : bits .and .i64 a1 3 = y) (m2 : bits .and .i64 a2 3 = z)
    (j1 : joinV x y = j) (j2 : joinV y x = j) (e1 : labE x y = 0) (e2 : labE y x = 0) (e3 : labE x j = 0) (e4 : labE x z = 0) (e5 : labE y z = 0) (e6 : labE j z = 0)
    (p : belowV x j = true) (q : belowV x z = true) (r : belowV y z = true) (s : belowV j z = true) (t : belowV x y = true) (u : belowV y x = true) (g : (x == y) = true) (w : World) :
    Calls Try.prog 4 #[.int .i64 a0, .int .i64 a1, .int .i64 a2] w fun e w' => e = .returned (.bool true) ∧ Grown w w' := by
  go_enter Try.func4, Try.ntmps4
  go_wp2_with (first
    | (go_at_call 15; refine (awake_any _).mono ?_; rintro e w' ⟨rfl, rfl⟩)
    | (go_at_call 8; refine (join_any _ _ _).mono ?_; rintro e w' ⟨rfl, rfl⟩)
    | (go_at_call 10; refine (below_any _ _ _).mono ?_; rintro e w' ⟨rfl, rfl⟩)
    | (go_at_call 12; go_in))
  go_ret
  exact ⟨rfl, Grown.refl _⟩

end Go.Proofs.Ytmmingdnlofjjaa.labelLattice
