/-
  The law LabelTable, walked at each pair of labels whose first one is 0 or 1.
-/
import Derived.Test.YtmmingdnlofjjaaCalls
namespace Go.Proofs.Ytmmingdnlofjjaa.labelTable
open Go.RowKit

theorem at_00 (a0 : Int) (m0 : bits .and .i64 (a0 / 4) 3 = 0) (m1 : bits .and .i64 a0 3 = 0) (w : World) :
    Calls Try.prog 6 #[.int .i64 a0] w fun e w' => e = .returned (.bool true) ∧ Grown w w' := by
  have hx : Lab 0 := ⟨by decide, by decide⟩
  have hy : Lab 0 := ⟨by decide, by decide⟩
  have ej : bits .or .i64 0 0 = 0 := by decide
  have eb : (bits .andNot .i64 0 0 == 0) = true := by decide
  go_enter Try.func6, Try.ntmps6
  go_wp2_with (first
    | (go_at_call 15; refine (awake_any _).mono ?_; rintro e w' ⟨rfl, rfl⟩)
    | (go_at_call 8; refine (join_yes 0 0 hx hy _).mono ?_; rw [ej]; rintro e w' ⟨rfl, rfl⟩)
    | (go_at_call 10; refine (below_yes 0 0 hx hy _).mono ?_; rw [eb]; rintro e w' ⟨rfl, rfl⟩)
    | (go_at_call 12; go_in))
  go_ret
  exact ⟨rfl, by repeat (first | exact Grown.refl _ | apply Grown.drew | apply Grown.alloc)⟩

theorem at_01 (a0 : Int) (m0 : bits .and .i64 (a0 / 4) 3 = 0) (m1 : bits .and .i64 a0 3 = 1) (w : World) :
    Calls Try.prog 6 #[.int .i64 a0] w fun e w' => e = .returned (.bool true) ∧ Grown w w' := by
  have hx : Lab 0 := ⟨by decide, by decide⟩
  have hy : Lab 1 := ⟨by decide, by decide⟩
  have ej : bits .or .i64 0 1 = 1 := by decide
  have eb : (bits .andNot .i64 0 1 == 0) = true := by decide
  go_enter Try.func6, Try.ntmps6
  go_wp2_with (first
    | (go_at_call 15; refine (awake_any _).mono ?_; rintro e w' ⟨rfl, rfl⟩)
    | (go_at_call 8; refine (join_yes 0 1 hx hy _).mono ?_; rw [ej]; rintro e w' ⟨rfl, rfl⟩)
    | (go_at_call 10; refine (below_yes 0 1 hx hy _).mono ?_; rw [eb]; rintro e w' ⟨rfl, rfl⟩)
    | (go_at_call 12; go_in))
  go_ret
  exact ⟨rfl, by repeat (first | exact Grown.refl _ | apply Grown.drew | apply Grown.alloc)⟩

theorem at_02 (a0 : Int) (m0 : bits .and .i64 (a0 / 4) 3 = 0) (m1 : bits .and .i64 a0 3 = 2) (w : World) :
    Calls Try.prog 6 #[.int .i64 a0] w fun e w' => e = .returned (.bool true) ∧ Grown w w' := by
  have hx : Lab 0 := ⟨by decide, by decide⟩
  have hy : Lab 2 := ⟨by decide, by decide⟩
  have ej : bits .or .i64 0 2 = 2 := by decide
  have eb : (bits .andNot .i64 0 2 == 0) = true := by decide
  go_enter Try.func6, Try.ntmps6
  go_wp2_with (first
    | (go_at_call 15; refine (awake_any _).mono ?_; rintro e w' ⟨rfl, rfl⟩)
    | (go_at_call 8; refine (join_yes 0 2 hx hy _).mono ?_; rw [ej]; rintro e w' ⟨rfl, rfl⟩)
    | (go_at_call 10; refine (below_yes 0 2 hx hy _).mono ?_; rw [eb]; rintro e w' ⟨rfl, rfl⟩)
    | (go_at_call 12; go_in))
  go_ret
  exact ⟨rfl, by repeat (first | exact Grown.refl _ | apply Grown.drew | apply Grown.alloc)⟩

theorem at_03 (a0 : Int) (m0 : bits .and .i64 (a0 / 4) 3 = 0) (m1 : bits .and .i64 a0 3 = 3) (w : World) :
    Calls Try.prog 6 #[.int .i64 a0] w fun e w' => e = .returned (.bool true) ∧ Grown w w' := by
  have hx : Lab 0 := ⟨by decide, by decide⟩
  have hy : Lab 3 := ⟨by decide, by decide⟩
  have ej : bits .or .i64 0 3 = 3 := by decide
  have eb : (bits .andNot .i64 0 3 == 0) = true := by decide
  go_enter Try.func6, Try.ntmps6
  go_wp2_with (first
    | (go_at_call 15; refine (awake_any _).mono ?_; rintro e w' ⟨rfl, rfl⟩)
    | (go_at_call 8; refine (join_yes 0 3 hx hy _).mono ?_; rw [ej]; rintro e w' ⟨rfl, rfl⟩)
    | (go_at_call 10; refine (below_yes 0 3 hx hy _).mono ?_; rw [eb]; rintro e w' ⟨rfl, rfl⟩)
    | (go_at_call 12; go_in))
  go_ret
  exact ⟨rfl, by repeat (first | exact Grown.refl _ | apply Grown.drew | apply Grown.alloc)⟩

theorem at_10 (a0 : Int) (m0 : bits .and .i64 (a0 / 4) 3 = 1) (m1 : bits .and .i64 a0 3 = 0) (w : World) :
    Calls Try.prog 6 #[.int .i64 a0] w fun e w' => e = .returned (.bool true) ∧ Grown w w' := by
  have hx : Lab 1 := ⟨by decide, by decide⟩
  have hy : Lab 0 := ⟨by decide, by decide⟩
  have ej : bits .or .i64 1 0 = 1 := by decide
  have eb : (bits .andNot .i64 1 0 == 0) = false := by decide
  go_enter Try.func6, Try.ntmps6
  go_wp2_with (first
    | (go_at_call 15; refine (awake_any _).mono ?_; rintro e w' ⟨rfl, rfl⟩)
    | (go_at_call 8; refine (join_yes 1 0 hx hy _).mono ?_; rw [ej]; rintro e w' ⟨rfl, rfl⟩)
    | (go_at_call 10; refine (below_yes 1 0 hx hy _).mono ?_; rw [eb]; rintro e w' ⟨rfl, rfl⟩)
    | (go_at_call 12; go_in))
  go_ret
  exact ⟨rfl, by repeat (first | exact Grown.refl _ | apply Grown.drew | apply Grown.alloc)⟩

theorem at_11 (a0 : Int) (m0 : bits .and .i64 (a0 / 4) 3 = 1) (m1 : bits .and .i64 a0 3 = 1) (w : World) :
    Calls Try.prog 6 #[.int .i64 a0] w fun e w' => e = .returned (.bool true) ∧ Grown w w' := by
  have hx : Lab 1 := ⟨by decide, by decide⟩
  have hy : Lab 1 := ⟨by decide, by decide⟩
  have ej : bits .or .i64 1 1 = 1 := by decide
  have eb : (bits .andNot .i64 1 1 == 0) = true := by decide
  go_enter Try.func6, Try.ntmps6
  go_wp2_with (first
    | (go_at_call 15; refine (awake_any _).mono ?_; rintro e w' ⟨rfl, rfl⟩)
    | (go_at_call 8; refine (join_yes 1 1 hx hy _).mono ?_; rw [ej]; rintro e w' ⟨rfl, rfl⟩)
    | (go_at_call 10; refine (below_yes 1 1 hx hy _).mono ?_; rw [eb]; rintro e w' ⟨rfl, rfl⟩)
    | (go_at_call 12; go_in))
  go_ret
  exact ⟨rfl, by repeat (first | exact Grown.refl _ | apply Grown.drew | apply Grown.alloc)⟩

theorem at_12 (a0 : Int) (m0 : bits .and .i64 (a0 / 4) 3 = 1) (m1 : bits .and .i64 a0 3 = 2) (w : World) :
    Calls Try.prog 6 #[.int .i64 a0] w fun e w' => e = .returned (.bool true) ∧ Grown w w' := by
  have hx : Lab 1 := ⟨by decide, by decide⟩
  have hy : Lab 2 := ⟨by decide, by decide⟩
  have ej : bits .or .i64 1 2 = 3 := by decide
  have eb : (bits .andNot .i64 1 2 == 0) = false := by decide
  go_enter Try.func6, Try.ntmps6
  go_wp2_with (first
    | (go_at_call 15; refine (awake_any _).mono ?_; rintro e w' ⟨rfl, rfl⟩)
    | (go_at_call 8; refine (join_yes 1 2 hx hy _).mono ?_; rw [ej]; rintro e w' ⟨rfl, rfl⟩)
    | (go_at_call 10; refine (below_yes 1 2 hx hy _).mono ?_; rw [eb]; rintro e w' ⟨rfl, rfl⟩)
    | (go_at_call 12; go_in))
  go_ret
  exact ⟨rfl, by repeat (first | exact Grown.refl _ | apply Grown.drew | apply Grown.alloc)⟩

theorem at_13 (a0 : Int) (m0 : bits .and .i64 (a0 / 4) 3 = 1) (m1 : bits .and .i64 a0 3 = 3) (w : World) :
    Calls Try.prog 6 #[.int .i64 a0] w fun e w' => e = .returned (.bool true) ∧ Grown w w' := by
  have hx : Lab 1 := ⟨by decide, by decide⟩
  have hy : Lab 3 := ⟨by decide, by decide⟩
  have ej : bits .or .i64 1 3 = 3 := by decide
  have eb : (bits .andNot .i64 1 3 == 0) = true := by decide
  go_enter Try.func6, Try.ntmps6
  go_wp2_with (first
    | (go_at_call 15; refine (awake_any _).mono ?_; rintro e w' ⟨rfl, rfl⟩)
    | (go_at_call 8; refine (join_yes 1 3 hx hy _).mono ?_; rw [ej]; rintro e w' ⟨rfl, rfl⟩)
    | (go_at_call 10; refine (below_yes 1 3 hx hy _).mono ?_; rw [eb]; rintro e w' ⟨rfl, rfl⟩)
    | (go_at_call 12; go_in))
  go_ret
  exact ⟨rfl, by repeat (first | exact Grown.refl _ | apply Grown.drew | apply Grown.alloc)⟩

end Go.Proofs.Ytmmingdnlofjjaa.labelTable
