/-
  The laws' own machine: two sessions; so many steps of one. As lists.
-/
import Derived.Test.YtaaenolbfhhnfaaGreatZhNewRef
import Derived.Test.YtaaenolbfhhnfaaGreatZhStepRef
import Derived.Test.YtaaenolbfhhnfaaGreatZlai
namespace Go.Proofs.YtaaenolbfhhnfaaGreat
open Go.RowKit
set_option linter.unusedVariables false
def begunS : PScript := ⟨[[5, 6], [7], [], [9]], 9, [⟨[3, 0, 3], [2, 0, 0, 0, 1, 0, 0, 0, 3, 0, 0, 0]⟩, ⟨[5, 1, 1], [2, 0, 0, 1, 3, 0, 1, 0]⟩], []⟩
def begunM : PMach := initM begunS
theorem newP_begun : newP begunS = (begunM, 0) := newP_yes (by decide +kernel)
/-- So many steps of session i. -/
def stepM (M : PMach) (i : Int) : Nat → PMach
  | 0 => M
  | n + 1 => (stepP (stepM M i n) i).1
theorem slIs_blk {W : World} {b k n : Nat} {L : List Int} (h : Blk W b (L.map (Value.int .i64))) (hl : L.length = n * k) (hf : n * (8 * k) ≤ 140737488351232) : SlIs W k ⟨some ⟨b, 0, none⟩, n, n⟩ L :=
  ⟨hl, ⟨hf, Nat.le_refl _, fun h => by cases h⟩, fun i hi => ⟨b, 0, rfl, h.lt, by
    rw [Nat.zero_add]
    have hi' : i < L.length := by rw [hl]; exact hi
    refine h.cell i _ ?_
    simp [lz, List.getD, hi']⟩⟩
/-- Two Starts, in a block. -/
theorem staIs_two {W : World} {b : Nat} {p0 p1 : Sl} {x y : PStart} (h : Blk W b (startOf p0 x ++ startOf p1 y)) (hx : x.num.length = 3) (hy : y.num.length = 3) (h0 : SlIs W 4 p0 x.prog) (h1 : SlIs W 4 p1 y.prog) :
    StaIs W ⟨some ⟨b, 0, none⟩, 2, 2⟩ (fun i => if i = 0 then p0 else p1) [x, y] :=
  ⟨rfl, ⟨by show 2 * 48 ≤ _; decide, Nat.le_refl _, fun h => by cases h⟩, fun j hj => ⟨b, 0, rfl, h.lt, by
    rw [Nat.zero_add]
    refine h.cell j _ ?_
    have hj : j < 8 := hj
    match j, hj with
    | 0, _ => rfl
    | 1, _ => rfl
    | 2, _ => rfl
    | 3, _ => rfl
    | 4, _ => rfl
    | 5, _ => rfl
    | 6, _ => rfl
    | 7, _ => rfl⟩, fun i hi => by
    have hi : i < 2 := hi
    match i, hi with
    | 0, _ => exact ⟨hx, h0⟩
    | 1, _ => exact ⟨hy, h1⟩⟩
end Go.Proofs.YtaaenolbfhhnfaaGreat
