/-
  What came in, opened: a script.
-/
import Derived.Test.YtjjokalheloimaaGreatZlah
import Derived.Test.YtjjokalheloimaaGreatZlaf
namespace Go.Proofs.YtjjokalheloimaaGreat
open Go.ChangeShapes Go.WideShapes
def ScrR (w : World) (cs : List Value) : Prop := ∃ (B : ScrM) (S : PScript), cs = scrL B S ∧ ScrIs w B S
def StasR (w : World) (cs : List Value) : Prop := ∃ (s : Sl) (p : Nat → Sl) (X : List PStart), cs = [s.v] ∧ StaIs w s p X
section
variable {H : Type} {enc : TypeId × Value → H} {w : World} {base : Nat} {spare : Nat → Bool} {held : Bool}
theorem opens_vals : Opens enc Tryz.prog w base spare held 22 (RowsR w 1 8) :=
  opens_ints Tryz.underlying22 (by decide) (by kernel_rfl) (by kernel_rfl) (intsAt_int Tryz.underlying3)
theorem opens_slots : Opens enc Tryz.prog w base spare held 25 (RowsR w 2 16) :=
  opens_ints Tryz.underlying25 (by decide) (by kernel_rfl) (by kernel_rfl) (intsAt_flat Tryz.underlying156 (e := 3) (by kernel_rfl) Tryz.underlying3 (by kernel_rfl) (by kernel_rfl))
def ValsR (w : World) (cs : List Value) : Prop := ∀ i, i < 4 → RowsR w 1 8 ((cs.drop i).take 1)
theorem opens_four_vals : Opens enc Tryz.prog w base spare held 23 (ValsR w) :=
  opens_imp (opens_array Tryz.underlying23 opens_vals) (by
    rintro cs ⟨_, h⟩ i hi
    have := h i hi
    simp only [show Tryz.prog.cellsOf 22 = 1 by kernel_rfl, Nat.mul_one] at this
    exact this)
theorem opens_starts : Opens enc Tryz.prog w base spare held 24 (StasR w) := by
  refine opens_imp (opens_slice (k := 4) (by_ := 48) Tryz.underlying24 (by decide) (by kernel_rfl) (by kernel_rfl) opens_start) ?_
  rintro cs ⟨a, n, c, f, rfl, hf, hr, hx⟩
  have key : ∀ i, ∃ y : Sl × PStart, i < n → (List.range 4).map (fun j => f (i * 4 + j)) = startOf y.1 y.2 ∧ y.2.num.length = 3 ∧ SlIs w 4 y.1 y.2.prog := fun i => by
    by_cases hi : i < n
    · obtain ⟨id, l, cl, pa, pn, pc, z, e, _, hf2, hr2⟩ := hx i hi
      refine ⟨(⟨pa, pn, pc⟩, ⟨[id, l, cl], (List.range (pn * 4)).map z⟩), fun _ => ⟨e, rfl, slIs_of hf2 hr2⟩⟩
    · exact ⟨(noSl, noStart), fun h => absurd h hi⟩
  obtain ⟨Y, hY⟩ : ∃ Y : Nat → Sl × PStart, ∀ i, i < n → (List.range 4).map (fun j => f (i * 4 + j)) = startOf (Y i).1 (Y i).2 ∧ (Y i).2.num.length = 3 ∧ SlIs w 4 (Y i).1 (Y i).2.prog := ⟨fun i => Classical.choose (key i), fun i => Classical.choose_spec (key i)⟩
  have hat : ∀ i, i < n → ((List.range n).map fun i => (Y i).2).getD i noStart = (Y i).2 := fun i hi => by simp [List.getD, hi]
  refine ⟨⟨a, n, c⟩, fun i => (Y i).1, (List.range n).map fun i => (Y i).2, rfl, by simp, hf, hr.congr fun j hj => ?_, fun i hi => by rw [hat i hi]; exact (hY i hi).2⟩
  have hi : j / 4 < n := Nat.div_lt_of_lt_mul (by rw [Nat.mul_comm]; exact hj)
  have hm : j % 4 < 4 := Nat.mod_lt _ (by decide)
  unfold startCell
  rw [hat _ hi, ← (hY _ hi).1]
  simp [List.getD, hm, show j / 4 * 4 + j % 4 = j by omega]
theorem Tryz.layoutScr : layout Tryz.prog 27 = some [(23, 0), (3, 4), (24, 5), (25, 6)] := by kernel_rfl
set_option maxHeartbeats 1000000 in
theorem opens_scr : Opens enc Tryz.prog w base spare held 27 (ScrR w) := by
  refine opens_imp (opens_layout (R := fun i => match i with | 0 => ValsR w | 1 => IntR | 2 => StasR w | _ => RowsR w 2 16) Tryz.layoutScr fun i y hy => ?_) ?_
  · match i, hy with
    | 0, hy => cases hy; exact opens_four_vals
    | 1, hy => cases hy; exact opens_int Tryz.underlying3
    | 2, hy => cases hy; exact opens_starts
    | 3, hy => cases hy; exact opens_slots
    | i + 4, hy => cases hy
  · rintro cs ⟨hl, h⟩
    rw [show Tryz.prog.cellsOf 27 = 7 by kernel_rfl] at hl
    have h0 := h 0 _ rfl
    obtain ⟨n4, e4, _⟩ := h 1 _ rfl
    obtain ⟨s, p, X, e5, hs⟩ := h 2 _ rfl
    obtain ⟨o, lo, e6, ho⟩ := rows_sl (h 3 _ rfl) rfl
    clear h
    simp only [show Tryz.prog.cellsOf 3 = 1 by kernel_rfl, show Tryz.prog.cellsOf 23 = 4 by kernel_rfl, show Tryz.prog.cellsOf 24 = 1 by kernel_rfl, show Tryz.prog.cellsOf 25 = 1 by kernel_rfl] at h0 e4 e5 e6
    obtain ⟨w0, l0, e0, k0⟩ := rows_sl (h0 0 (by decide)) rfl
    obtain ⟨w1, l1, e1, k1⟩ := rows_sl (h0 1 (by decide)) rfl
    obtain ⟨w2, l2, e2, k2⟩ := rows_sl (h0 2 (by decide)) rfl
    obtain ⟨w3, l3, e3, k3⟩ := rows_sl (h0 3 (by decide)) rfl
    replace e0 := four_cell (by decide) e0; replace e1 := four_cell (by decide) e1; replace e2 := four_cell (by decide) e2; replace e3 := four_cell (by decide) e3
    replace e4 := one_cell e4; replace e5 := one_cell e5; replace e6 := one_cell e6
    refine ⟨⟨fourSl w0 w1 w2 w3, s, p, o⟩, ⟨[l0, l1, l2, l3], n4, X, lo⟩, ?_, rfl, fun g hg => ?_, hs, ho⟩
    · apply List.ext_getElem?
      intro i
      match i with
      | 0 => exact e0
      | 1 => exact e1
      | 2 => exact e2
      | 3 => exact e3
      | 4 => exact e4
      | 5 => exact e5
      | 6 => exact e6
      | i + 7 => rw [List.getElem?_eq_none (by omega), List.getElem?_eq_none (by simp [scrL])]
    · match g, hg with
      | 0, _ => exact k0
      | 1, _ => exact k1
      | 2, _ => exact k2
      | 3, _ => exact k3
end
end Go.Proofs.YtjjokalheloimaaGreat
