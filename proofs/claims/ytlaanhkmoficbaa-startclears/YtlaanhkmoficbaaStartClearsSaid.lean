/-
  The law StartClears, if package start's functions keep their statements.
-/
import Derived.Test.YtlaanhkmoficbaaStartAwake
import Derived.Test.YtlaanhkmoficbaaLabelAnys
namespace Go.Proofs.Ytlaanhkmoficbaa
open Go.RowKit
set_option linter.unusedSimpArgs false
set_option linter.unusedVariables false

set_option maxRecDepth 100000 in
set_option maxHeartbeats 4000000 in
theorem startClears_at (hM : MaySC) (hN : NewSC) (a0 id a b : Int) (w : World) (hi : bits .and .i64 a0 127 = id) (ha : bits .and .i64 a0 3 = a) (hb : bits .and .i64 (a0 / 4) 3 = b) (hI : upToV id 254 = true) (la : Lab a) (lb : Lab b) :
    Calls Try.prog 5 #[.int .i64 a0] w fun e w' => e = .returned (.bool true) ∧ Below w.heap.size w w' := by
  have C0 := hide fun w => awake11_any hM hN w
  have C1 := hide fun w => (hN id a b none 0 0 (fun _ => 0) w (by omega) (fun _ => ⟨rfl, rfl⟩) (row_zero _ _ _)).mono fun _ _ h => newS_any h
  have hm : startMay id a b 0 (fun _ => 0) = belowV a b := by
    unfold startMay
    rw [hI, Bool.true_and, show progMay 0 (fun _ => 0) = true from rfl, Bool.and_true]
  have hu := belowV_yes la lb
  rw [under_iff la lb] at hu
  rw [hm, hu] at C1
  clear hm hu hM hN hI la lb
  unfold startA at C1
  cases hx : (bits .or .i64 a b == b)
  · rw [hx] at C1
    simp only [newE, newN, cond_false] at C1
    have hne : ¬ bits .or .i64 a b = b := by intro h; rw [h] at hx; simp at hx
    have hn2 : (bits .or .i64 a b != b) = true := by simp [hne]
    clear hx
    go_enter Try.func5, Try.ntmps5
    go_wp2_with fail
    refine (C0.out _).mono ?_
    rintro e w1 ⟨rfl, b1⟩
    replace b1 := hide b1
    clear C0
    go_wp2_with fail
    refine (C1.out _).mono ?_
    rintro e w2 ⟨a2, c2, rfl, _, _, hb2⟩
    have b2 := hide (Below.on b1.out hb2)
    clear C1 hb2 b1
    go_wp2_with (first | (refine wpList_store_all rfl 30 (.tmp 5) (.tmp 21) rfl _ _ (sessL (newI false id a b) (.slice a2 0 c2) (.slice none 0 0) (.slice none 0 0)) rfl rfl (blk_new _ (sessL (fun _ => 0) (.slice none 0 0) (.slice none 0 0) (.slice none 0 0)) 30) rfl Try.sizeSess rfl ?_; intro W' BW TW _; have b4 := hide (Below.on b2.out (made_touch TW)); clear TW b2 BW) | (go_at_call 11; refine (num_any _ _).mono ?_; rintro e w' ⟨rfl, rfl⟩))
    go_ret
    exact ⟨rfl, b4.out⟩
  · rw [hx] at C1
    simp only [newE, newN, cond_true] at C1
    have hne : bits .or .i64 a b = b := by simpa using hx
    clear hx
    go_enter Try.func5, Try.ntmps5
    go_wp2_with fail
    refine (C0.out _).mono ?_
    rintro e w1 ⟨rfl, b1⟩
    replace b1 := hide b1
    clear C0
    go_wp2_with fail
    refine (C1.out _).mono ?_
    rintro e w2 ⟨a2, c2, rfl, _, _, hb2⟩
    have b2 := hide (Below.on b1.out hb2)
    clear C1 hb2 b1
    go_wp2_with (first | (refine wpList_store_all rfl 30 (.tmp 5) (.tmp 21) rfl _ _ (sessL (newI true id a b) (.slice a2 0 c2) (.slice none 0 0) (.slice none 0 0)) rfl rfl (blk_new _ (sessL (fun _ => 0) (.slice none 0 0) (.slice none 0 0) (.slice none 0 0)) 30) rfl Try.sizeSess rfl ?_; intro W' BW TW _; have b4 := hide (Below.on b2.out (made_touch TW)); have d1 : W'.cell? ⟨w2.heap.size, 1, none⟩ = some (.int .i64 a) := BW.cell 1 _ rfl; have d2 : W'.cell? ⟨w2.heap.size, 2, none⟩ = some (.int .i64 b) := BW.cell 2 _ rfl; have d4 : W'.cell? ⟨w2.heap.size, 4, none⟩ = some (.int .i64 0) := BW.cell 4 _ rfl; have d15 : W'.cell? ⟨w2.heap.size, 15, none⟩ = some (.int .i64 0) := BW.cell 15 _ rfl; clear TW b2 BW) | (go_at_call 11; refine (num_any _ _).mono ?_; rintro e w' ⟨rfl, rfl⟩))
    go_ret
    exact ⟨rfl, b4.out⟩

theorem startClears_said (hM : MaySC) (hN : NewSC) (a0 : Int) (w : World) :
    Calls Try.prog 5 #[.int .i64 a0] w fun e w' => e = .returned (.bool true) ∧ Below w.heap.size w w' :=
  startClears_at hM hN a0 _ _ _ w (mask127 a0) (mask3 a0) (mask3 (a0 / 4)) (upToV_of (by omega) (by omega)) (lab_mod a0) (lab_mod (a0 / 4))

end Go.Proofs.Ytlaanhkmoficbaa
