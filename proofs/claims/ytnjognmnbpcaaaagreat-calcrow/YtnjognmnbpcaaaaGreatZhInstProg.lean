/-
  What the landed package inst's May, Put and Get hand back.
-/
import Derived.Test.YtnjognmnbpcaaaaGreatZlad
import Derived.Test.YtnjognmnbpcaaaaGreatZlab
import Derived.Deep.QuietTactic
import Derived.BigQuiet
namespace Go.Proofs.YtnjognmnbpcaaaaGreat
open Go.RowKit
set_option linter.unusedSimpArgs false
set_option linter.unusedVariables false
theorem gupTo_any (n m : Int) (w : World) :
    Calls Tryz.prog 153 #[.int .i64 n, .int .i64 m] w fun e w' => e = .returned (.bool (upToV n m)) ∧ w = w' := by
  unfold upToV
  by_cases h0 : 0 ≤ n
  · by_cases h1 : n ≤ m
    · rw [decide_eq_true (show 0 ≤ n ∧ n ≤ m from ⟨h0, h1⟩)]
      go_enter Tryz.func153, Tryz.ntmps153
      go_wp2
      go_ret
      exact ⟨rfl, rfl⟩
    · rw [decide_eq_false (show ¬ (0 ≤ n ∧ n ≤ m) from fun x => h1 x.2)]
      go_enter Tryz.func153, Tryz.ntmps153
      go_wp2
      go_ret
      exact ⟨rfl, rfl⟩
  · rw [decide_eq_false (show ¬ (0 ≤ n ∧ n ≤ m) from fun x => h0 x.1)]
    go_enter Tryz.func153, Tryz.ntmps153
    go_wp2
    go_ret
    exact ⟨rfl, rfl⟩
theorem glmay_any (n : Int) (w : World) :
    Calls Tryz.prog 121 #[.int .i64 n] w fun e w' => e = .returned (.bool (upToV n 3)) ∧ w = w' := by
  unfold upToV
  by_cases h0 : 0 ≤ n
  · by_cases h1 : n ≤ 3
    · rw [decide_eq_true (show 0 ≤ n ∧ n ≤ 3 from ⟨h0, h1⟩)]
      have h2 : n < 4 := by omega
      go_enter Tryz.func121, Tryz.ntmps121
      go_wp2
      go_ret
      exact ⟨rfl, rfl⟩
    · rw [decide_eq_false (show ¬ (0 ≤ n ∧ n ≤ 3) from fun x => h1 x.2)]
      have h2 : ¬ n < 4 := by omega
      go_enter Tryz.func121, Tryz.ntmps121
      go_wp2
      go_ret
      exact ⟨rfl, rfl⟩
  · rw [decide_eq_false (show ¬ (0 ≤ n ∧ n ≤ 3) from fun x => h0 x.1)]
    go_enter Tryz.func121, Tryz.ntmps121
    go_wp2
    go_ret
    exact ⟨rfl, rfl⟩
theorem gisReg_any (n : Int) (w : World) :
    Calls Tryz.prog 152 #[.int .i64 n] w fun e w' => e = .returned (.bool (upToV n 3)) ∧ w = w' := by
  go_enter Tryz.func152, Tryz.ntmps152
  go_wp2_with (go_at_call 153; refine (gupTo_any _ _ _).mono ?_; rintro e w' ⟨rfl, rfl⟩)
  go_ret
  exact ⟨rfl, rfl⟩
/-- With nothing but what its code names. -/
def namedV (i : Nat → Int) : Nat → Int :=
  if i 0 = 2 ∨ i 0 = 3 then quad (i 0) (i 1) (i 2) (i 3)
  else if i 0 = 0 ∨ i 0 = 1 ∨ i 0 = 4 then quad (i 0) (i 1) (i 2) 0
  else if i 0 = 6 then quad (i 0) (i 1) 0 0
  else quad (i 0) 0 0 0
/-- Is what it names within its bounds? -/
def fitsV (i : Nat → Int) : Bool :=
  if i 0 = 0 then upToV (i 1) 3 && upToV (i 2) 255
  else if i 0 = 1 then upToV (i 1) 3 && upToV (i 2) 3
  else if i 0 = 2 ∨ i 0 = 3 then upToV (i 1) 3 && upToV (i 2) 3 && upToV (i 3) 3
  else if i 0 = 4 then upToV (i 1) 3 && upToV (i 2) 16
  else if i 0 = 5 then true
  else if i 0 = 6 then upToV (i 1) 255
  else false
section
variable {i : Nat → Int}
theorem named_all (h : i 0 = 2 ∨ i 0 = 3) : namedV i = quad (i 0) (i 1) (i 2) (i 3) := by unfold namedV; rw [if_pos h]
theorem named_ab (h : i 0 = 0 ∨ i 0 = 1 ∨ i 0 = 4) : namedV i = quad (i 0) (i 1) (i 2) 0 := by unfold namedV; rw [if_neg (by omega), if_pos h]
theorem named_a (h : i 0 = 6) : namedV i = quad (i 0) (i 1) 0 0 := by unfold namedV; rw [if_neg (by omega), if_neg (by omega), if_pos h]
theorem named_no (h : i 0 < 0 ∨ 6 < i 0 ∨ i 0 = 5) : namedV i = quad (i 0) 0 0 0 := by unfold namedV; rw [if_neg (by omega), if_neg (by omega), if_neg (by omega)]
theorem named_0 : namedV i 0 = i 0 := by
  unfold namedV
  split
  · rfl
  · split
    · rfl
    · split <;> rfl
theorem fits_0 (h : i 0 = 0) : fitsV i = (upToV (i 1) 3 && upToV (i 2) 255) := by unfold fitsV; rw [if_pos h]
theorem fits_1 (h : i 0 = 1) : fitsV i = (upToV (i 1) 3 && upToV (i 2) 3) := by unfold fitsV; rw [if_neg (by omega), if_pos h]
theorem fits_23 (h : i 0 = 2 ∨ i 0 = 3) : fitsV i = (upToV (i 1) 3 && upToV (i 2) 3 && upToV (i 3) 3) := by unfold fitsV; rw [if_neg (by omega), if_neg (by omega), if_pos h]
theorem fits_4 (h : i 0 = 4) : fitsV i = (upToV (i 1) 3 && upToV (i 2) 16) := by unfold fitsV; rw [if_neg (by omega), if_neg (by omega), if_neg (by omega), if_pos h]
theorem fits_5 (h : i 0 = 5) : fitsV i = true := by unfold fitsV; rw [if_neg (by omega), if_neg (by omega), if_neg (by omega), if_neg (by omega), if_pos h]
theorem fits_6 (h : i 0 = 6) : fitsV i = upToV (i 1) 255 := by unfold fitsV; rw [if_neg (by omega), if_neg (by omega), if_neg (by omega), if_neg (by omega), if_neg (by omega), if_pos h]
theorem fits_no (h : i 0 < 0 ∨ 6 < i 0) : fitsV i = false := by unfold fitsV; rw [if_neg (by omega), if_neg (by omega), if_neg (by omega), if_neg (by omega), if_neg (by omega), if_neg (by omega)]
/-- One that may be is one that is as named and fits. -/
theorem instMay_named : instMay i = (i 1 == namedV i 1 && i 2 == namedV i 2 && i 3 == namedV i 3 && fitsV i) := by
  rcases inst_cases i with h0 | h0 | h0 | h0 | h0 | h0 | h0 | h0
  · rw [instMay_no h0, fits_no h0, Bool.and_false]
  · rw [instMay_0 h0, fits_0 h0, named_ab (.inl h0)]; simp only [quad, beq_self_eq_true, Bool.true_and]; rw [Bool.and_comm]
  · rw [instMay_1 h0, fits_1 h0, named_ab (.inr (.inl h0))]; simp only [quad, beq_self_eq_true, Bool.true_and]; rw [Bool.and_comm]
  · rw [instMay_23 (.inl h0), fits_23 (.inl h0), named_all (.inl h0)]; simp only [quad, beq_self_eq_true, Bool.true_and]
  · rw [instMay_23 (.inr h0), fits_23 (.inr h0), named_all (.inr h0)]; simp only [quad, beq_self_eq_true, Bool.true_and]
  · rw [instMay_4 h0, fits_4 h0, named_ab (.inr (.inr h0))]; simp only [quad, beq_self_eq_true, Bool.true_and]; rw [Bool.and_comm]
  · rw [instMay_5 h0, fits_5 h0, named_no (.inr (.inr h0))]; simp only [quad, Bool.and_true]
  · rw [instMay_6 h0, fits_6 h0, named_a h0]; simp only [quad, beq_self_eq_true, Bool.true_and]; rw [Bool.and_comm, Bool.and_assoc, Bool.and_comm (upToV _ _)] ; simp only [Bool.and_comm, Bool.and_left_comm]
end
set_option maxHeartbeats 2000000 in
theorem gnamed_any (i : Nat → Int) (w : World) :
    Calls Tryz.prog 150 #[quadA i] w fun e w' => e = .returned (quadA (namedV i)) ∧ Below w.heap.size w w' := by
  unfold quadA
  rcases inst_cases i with h0 | h0 | h0 | h0 | h0 | h0 | h0 | h0
  · have n0 : ¬ i 0 = 0 := by omega
    have n1 : ¬ i 0 = 1 := by omega
    have n2 : ¬ i 0 = 2 := by omega
    have n3 : ¬ i 0 = 3 := by omega
    have n4 : ¬ i 0 = 4 := by omega
    have n6 : ¬ i 0 = 6 := by omega
    rw [named_no (by omega)]
    clear h0
    go_enter Tryz.func150, Tryz.ntmps150
    go_wp2
    exact bodyPost_ret (v := .agg #[.int .i64 (i 0), .int .i64 0, .int .i64 0, .int .i64 0]) (by simp [results, Tryz.results150, go_sem]) rfl ⟨rfl, by go_grown⟩
  · rw [named_ab (.inl h0), h0]
    go_enter Tryz.func150, Tryz.ntmps150
    go_wp2
    exact bodyPost_ret (v := .agg #[.int .i64 0, .int .i64 (i 1), .int .i64 (i 2), .int .i64 0]) (by simp [results, Tryz.results150, go_sem]) rfl ⟨rfl, by go_grown⟩
  · rw [named_ab (.inr (.inl h0)), h0]
    go_enter Tryz.func150, Tryz.ntmps150
    go_wp2
    exact bodyPost_ret (v := .agg #[.int .i64 1, .int .i64 (i 1), .int .i64 (i 2), .int .i64 0]) (by simp [results, Tryz.results150, go_sem]) rfl ⟨rfl, by go_grown⟩
  · rw [named_all (.inl h0), h0]
    go_enter Tryz.func150, Tryz.ntmps150
    go_wp2
    exact bodyPost_ret (v := .agg #[.int .i64 2, .int .i64 (i 1), .int .i64 (i 2), .int .i64 (i 3)]) (by simp [results, Tryz.results150, go_sem]) rfl ⟨rfl, by go_grown⟩
  · rw [named_all (.inr h0), h0]
    go_enter Tryz.func150, Tryz.ntmps150
    go_wp2
    exact bodyPost_ret (v := .agg #[.int .i64 3, .int .i64 (i 1), .int .i64 (i 2), .int .i64 (i 3)]) (by simp [results, Tryz.results150, go_sem]) rfl ⟨rfl, by go_grown⟩
  · rw [named_ab (.inr (.inr h0)), h0]
    go_enter Tryz.func150, Tryz.ntmps150
    go_wp2
    exact bodyPost_ret (v := .agg #[.int .i64 4, .int .i64 (i 1), .int .i64 (i 2), .int .i64 0]) (by simp [results, Tryz.results150, go_sem]) rfl ⟨rfl, by go_grown⟩
  · rw [named_no (.inr (.inr h0)), h0]
    go_enter Tryz.func150, Tryz.ntmps150
    go_wp2
    exact bodyPost_ret (v := .agg #[.int .i64 5, .int .i64 0, .int .i64 0, .int .i64 0]) (by simp [results, Tryz.results150, go_sem]) rfl ⟨rfl, by go_grown⟩
  · rw [named_a h0, h0]
    go_enter Tryz.func150, Tryz.ntmps150
    go_wp2
    exact bodyPost_ret (v := .agg #[.int .i64 6, .int .i64 (i 1), .int .i64 0, .int .i64 0]) (by simp [results, Tryz.results150, go_sem]) rfl ⟨rfl, by go_grown⟩
set_option maxHeartbeats 2000000 in
theorem gfits_any (i : Nat → Int) (w : World) :
    Calls Tryz.prog 151 #[quadA i] w fun e w' => e = .returned (.bool (fitsV i)) ∧ Below w.heap.size w w' := by
  unfold quadA
  rcases inst_cases i with h0 | h0 | h0 | h0 | h0 | h0 | h0 | h0
  · have n0 : ¬ i 0 = 0 := by omega
    have n1 : ¬ i 0 = 1 := by omega
    have n2 : ¬ i 0 = 2 := by omega
    have n3 : ¬ i 0 = 3 := by omega
    have n4 : ¬ i 0 = 4 := by omega
    have n5 : ¬ i 0 = 5 := by omega
    have n6 : ¬ i 0 = 6 := by omega
    rw [fits_no h0]
    clear h0
    go_enter Tryz.func151, Tryz.ntmps151
    go_wp2
    go_ret
    exact ⟨rfl, by go_grown⟩
  · rw [fits_0 h0, h0]
    cases h1 : upToV (i 1) 3 <;> cases h2 : upToV (i 2) 255
    all_goals
      go_enter Tryz.func151, Tryz.ntmps151
      go_wp2_with (first | (go_at_call 152; refine (gisReg_any _ _).mono ?_; rintro e w' ⟨rfl, rfl⟩) | (go_at_call 121; refine (glmay_any _ _).mono ?_; rintro e w' ⟨rfl, rfl⟩) | (go_at_call 153; refine (gupTo_any _ _ _).mono ?_; rintro e w' ⟨rfl, rfl⟩))
      go_ret
      exact ⟨rfl, by go_grown⟩
  · rw [fits_1 h0, h0]
    cases h1 : upToV (i 1) 3 <;> cases h2 : upToV (i 2) 3
    all_goals
      go_enter Tryz.func151, Tryz.ntmps151
      go_wp2_with (first | (go_at_call 152; refine (gisReg_any _ _).mono ?_; rintro e w' ⟨rfl, rfl⟩) | (go_at_call 121; refine (glmay_any _ _).mono ?_; rintro e w' ⟨rfl, rfl⟩) | (go_at_call 153; refine (gupTo_any _ _ _).mono ?_; rintro e w' ⟨rfl, rfl⟩))
      go_ret
      exact ⟨rfl, by go_grown⟩
  · rw [fits_23 (.inl h0), h0]
    cases h1 : upToV (i 1) 3 <;> cases h2 : upToV (i 2) 3
    all_goals
      go_enter Tryz.func151, Tryz.ntmps151
      go_wp2_with (first | (go_at_call 152; refine (gisReg_any _ _).mono ?_; rintro e w' ⟨rfl, rfl⟩) | (go_at_call 121; refine (glmay_any _ _).mono ?_; rintro e w' ⟨rfl, rfl⟩) | (go_at_call 153; refine (gupTo_any _ _ _).mono ?_; rintro e w' ⟨rfl, rfl⟩))
      go_ret
      exact ⟨rfl, by go_grown⟩
  · rw [fits_23 (.inr h0), h0]
    cases h1 : upToV (i 1) 3 <;> cases h2 : upToV (i 2) 3
    all_goals
      go_enter Tryz.func151, Tryz.ntmps151
      go_wp2_with (first | (go_at_call 152; refine (gisReg_any _ _).mono ?_; rintro e w' ⟨rfl, rfl⟩) | (go_at_call 121; refine (glmay_any _ _).mono ?_; rintro e w' ⟨rfl, rfl⟩) | (go_at_call 153; refine (gupTo_any _ _ _).mono ?_; rintro e w' ⟨rfl, rfl⟩))
      go_ret
      exact ⟨rfl, by go_grown⟩
  · rw [fits_4 h0, h0]
    cases h1 : upToV (i 1) 3 <;> cases h2 : upToV (i 2) 16
    all_goals
      go_enter Tryz.func151, Tryz.ntmps151
      go_wp2_with (first | (go_at_call 152; refine (gisReg_any _ _).mono ?_; rintro e w' ⟨rfl, rfl⟩) | (go_at_call 121; refine (glmay_any _ _).mono ?_; rintro e w' ⟨rfl, rfl⟩) | (go_at_call 153; refine (gupTo_any _ _ _).mono ?_; rintro e w' ⟨rfl, rfl⟩))
      go_ret
      exact ⟨rfl, by go_grown⟩
  · rw [fits_5 h0, h0]
    go_enter Tryz.func151, Tryz.ntmps151
    go_wp2
    go_ret
    exact ⟨rfl, by go_grown⟩
  · rw [fits_6 h0, h0]
    go_enter Tryz.func151, Tryz.ntmps151
    go_wp2_with (first | (go_at_call 152; refine (gisReg_any _ _).mono ?_; rintro e w' ⟨rfl, rfl⟩) | (go_at_call 121; refine (glmay_any _ _).mono ?_; rintro e w' ⟨rfl, rfl⟩) | (go_at_call 153; refine (gupTo_any _ _ _).mono ?_; rintro e w' ⟨rfl, rfl⟩))
    go_ret
    exact ⟨rfl, by go_grown⟩
set_option maxHeartbeats 2000000 in
theorem may_ic : MayIC := by
  intro i w
  rw [instMay_named]
  have C1 := hide fun w => gnamed_any i w
  have C2 := hide fun w => gfits_any i w
  have e0 : namedV i 0 = i 0 := named_0
  generalize namedV i = n at *
  generalize fitsV i = f at *
  unfold quadA at *
  rw [e0] at C1
  clear e0
  cases e1 : (i 1 == n 1) <;> cases e2 : (i 2 == n 2) <;> cases e3 : (i 3 == n 3)
  all_goals
    simp only [Bool.and_true, Bool.and_false, Bool.true_and, Bool.false_and]
    go_enter Tryz.func148, Tryz.ntmps148
    go_upto_region 1 with (fail)
    have b1 : Below w.heap.size w (w.alloc (.cells #[.int .i64 (i 0), .int .i64 (i 1), .int .i64 (i 2), .int .i64 (i 3)] 47)) := by go_grown
    have B := blk_new w (quadL i) 47
    change Blk (w.alloc (.cells #[.int .i64 (i 0), .int .i64 (i 1), .int .i64 (i 2), .int .i64 (i 3)] 47)) w.heap.size (quadL i) at B
    generalize w.alloc (.cells #[.int .i64 (i 0), .int .i64 (i 1), .int .i64 (i 2), .int .i64 (i 3)] 47) = W at *
    obtain ⟨p0, p1, p2, p3⟩ := B.kin4
    have K1 : Hid (∀ u : Kin W, Calls Tryz.prog 150 #[.agg #[.int .i64 (i 0), .int .i64 (i 1), .int .i64 (i 2), .int .i64 (i 3)]] u.at_ fun e w'' => e = .returned (.agg #[.int .i64 (i 0), .int .i64 (n 1), .int .i64 (n 2), .int .i64 (n 3)]) ∧ ∃ u' : Kin W, w'' = u'.at_) := fun u => Calls.kin_of (C1.out _)
    have K2 : Hid (∀ u : Kin W, Calls Tryz.prog 151 #[.agg #[.int .i64 (i 0), .int .i64 (i 1), .int .i64 (i 2), .int .i64 (i 3)]] u.at_ fun e w'' => e = .returned (.bool f) ∧ ∃ u' : Kin W, w'' = u'.at_) := fun u => Calls.kin_of (C2.out _)
    have kne : Nonempty (Kin W) := kin_any W
    refine wp_region_kin (by kernel_rfl) (by kernel_rfl) ?_
    repeat (go_big_quiet_step ((first | (go_at_call 150; exact K1.out _) | (go_at_call 151; exact K2.out _))))
    refine wpQuiet_nil ?_
    rintro _ ⟨u, rfl⟩
    have b2 : Below w.heap.size w u.at_ := b1.trans (u.below.mono b1.size)
    clear p0 p1 p2 p3 K1 K2 kne B b1 C1 C2
    generalize u.at_ = V at *
    clear u
    go_wp2
    go_ret
    exact ⟨rfl, b2⟩
end Go.Proofs.YtnjognmnbpcaaaaGreat
