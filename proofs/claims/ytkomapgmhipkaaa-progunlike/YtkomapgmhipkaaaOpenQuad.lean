/-
  What came in, opened: an array of four ints. Nothing of a program here.
-/
import Derived.Test.YtkomapgmhipkaaaOpen
import Derived.Test.YtkomapgmhipkaaaQuad
namespace Go.Proofs.Ytkomapgmhipkaaa
open Go.ChangeShapes Go.WideShapes

section
variable {H : Type} {enc : TypeId × Value → H} {P : Program} {w : World} {base : Nat} {spare : Nat → Bool} {held : Bool}

theorem open_quad {r : Reach} {b0 : Nat} {t e : TypeId} {v : Value} {d : DataW H} {p : List MemPlace} (ha : P.underlying t = some (.array 4 e)) (he : P.underlying e = some (.int .i64)) (h1 : P.cellsOf e = 1) (hC : P.cellsOf t = 4)
    (hv : Value.okWide P w r b0 t v) (h : DataW.Trod enc P w base spare held t v d p) :
    ∃ c : Nat → Int, v = quadA c ∧ ∀ i, i < 4 → (Lit.int .i64 (c i)).wf = true := by
  have hv' : ∃ cs, v = .agg cs ∧ cs.size = P.cellsOf t := by
    simp only [Value.okWide, ha] at hv
    obtain ⟨cs, h1, h2, _⟩ := hv
    exact ⟨cs, h1, h2⟩
  obtain ⟨cs, rfl, hcs⟩ := hv'
  rw [hC] at hcs
  obtain ⟨fuel, hf⟩ := h
  obtain ⟨xs, m, _, _, _, hxl, hel4⟩ := DataW.trod_array ha hf
  have key : ∀ g, ∃ z : Int, g < 4 → cs[g]? = some (.int .i64 z) ∧ (Lit.int .i64 z).wf = true := by
    intro g
    by_cases hg : g < 4
    · have h2 := hel4 g hg
      rw [h1, Nat.mul_one] at h2
      have h3 : xs[g]? = some xs[g] := by simp [hxl, hg]
      rw [h3] at h2
      obtain ⟨z, hc, _, hw⟩ := DataW.trod_int he h2
      refine ⟨z, fun _ => ⟨?_, hw⟩⟩
      have h4 : ((cs.toList.drop g).take 1)[0]? = some (.int .i64 z) := by
        have : (Value.agg cs).cells.toList = cs.toList := by simp [Value.cells]
        rw [this] at hc
        rw [hc]; rfl
      simpa using h4
    · exact ⟨0, fun h => absurd h hg⟩
  have hz := fun g hg => (Classical.choose_spec (key g) hg).1
  refine ⟨fun g => Classical.choose (key g), ?_, fun g hg => (Classical.choose_spec (key g) hg).2⟩
  unfold quadA
  congr 1
  apply Array.ext_getElem?
  intro i
  match i with
  | 0 => simpa using hz 0 (by omega)
  | 1 => simpa using hz 1 (by omega)
  | 2 => simpa using hz 2 (by omega)
  | 3 => simpa using hz 3 (by omega)
  | i + 4 => simp [hcs]

/-- A struct of four ints, by value. -/
theorem open_flat4 {r : Reach} {b0 : Nat} {t e : TypeId} {fs : Array Field} {v : Value} {d : DataW H} {p : List MemPlace} (hs : P.underlying t = some (.struct fs)) (hf : flatB fs e = true) (he : P.underlying e = some (.int .i64)) (h1 : P.cellsOf e = 1) (hC : P.cellsOf t = fs.size) (h4 : fs.size = 4)
    (hv : Value.okWide P w r b0 t v) (h : DataW.Trod enc P w base spare held t v d p) : ∃ c : Nat → Int, v = quadA c ∧ ∀ i, i < 4 → (Lit.int .i64 (c i)).wf = true := by
  obtain ⟨cs, rfl, hsz⟩ := okWide_struct hs hv
  obtain ⟨fuel, hd⟩ := h
  obtain ⟨_, z, hz⟩ := trod_flat hs hf he h1 hC hd
  rw [hC, h4] at hsz
  rw [h4] at hz
  refine ⟨z, ?_, fun i hi => (hz i hi).2⟩
  unfold quadA
  congr 1
  apply Array.ext_getElem?
  intro i
  match i with
  | 0 => simpa [Value.cells] using (hz 0 (by omega)).1
  | 1 => simpa [Value.cells] using (hz 1 (by omega)).1
  | 2 => simpa [Value.cells] using (hz 2 (by omega)).1
  | 3 => simpa [Value.cells] using (hz 3 (by omega)).1
  | i + 4 => simp [hsz]

end
end Go.Proofs.Ytkomapgmhipkaaa
