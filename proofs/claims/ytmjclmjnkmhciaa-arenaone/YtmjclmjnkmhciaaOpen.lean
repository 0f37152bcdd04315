/-
  What came in, opened: a struct whose fields are all ints. Nothing of a program here.
-/
import Derived.WalkKit
import Derived.ProofKit
import Derived.OpenShut
import Derived.ChangeArms
namespace Go.Proofs.Ytmjclmjnkmhciaa
open Go.ChangeShapes Go.WideShapes

/-- Field i lies at offset i, and is an int (of type e). -/
def flatB (fs : Array Field) (e : TypeId) : Bool := (List.range fs.size).all fun i => match fs[i]? with
  | some f => f.offset == i && f.type == e
  | none => false

section
variable {H : Type} {enc : TypeId × Value → H} {P : Program} {w : World} {base : Nat} {spare : Nat → Bool} {held : Bool}

theorem flat_of {fs : Array Field} {e : TypeId} (h : flatB fs e = true) : ∀ (i : Nat) (f : Field), fs[i]? = some f → f.offset = i ∧ f.type = e := by
  intro i f hi
  have hlt : i < fs.size := (Array.getElem?_eq_some_iff.1 hi).1
  have := List.all_eq_true.1 h i (List.mem_range.2 hlt)
  simp only [hi, Bool.and_eq_true, beq_iff_eq] at this
  exact this

/-- The cells of a struct of ints are ints. -/
theorem trod_flat {t e : TypeId} {fs : Array Field} {fuel : Nat} {cs : List Value} {x : DataW H × List MemPlace} (hs : P.underlying t = some (.struct fs)) (hf : flatB fs e = true) (he : P.underlying e = some (.int .i64)) (h1 : P.cellsOf e = 1) (hC : P.cellsOf t = fs.size)
    (h : DataW.trod enc P w base spare held fuel t cs = some x) : cs.length = fs.size ∧ ∃ z : Nat → Int, ∀ i, i < fs.size → cs[i]? = some (.int .i64 (z i)) ∧ (Lit.int .i64 (z i)).wf = true := by
  obtain ⟨xs, n, _, _, hl, hxl, hfs⟩ := DataW.trod_struct hs h
  rw [hC] at hl
  refine ⟨hl, ?_⟩
  have key : ∀ i, ∃ zi : Int, i < fs.size → cs[i]? = some (.int .i64 zi) ∧ (Lit.int .i64 zi).wf = true := by
    intro i
    by_cases hi : i < fs.size
    · obtain ⟨f, hfi⟩ : ∃ f, fs[i]? = some f := ⟨fs[i], by simp [hi]⟩
      obtain ⟨ho, ht⟩ := flat_of hf i f hfi
      have h2 := hfs i f hfi
      rw [ho, ht, h1] at h2
      have hxi : ∃ y, xs[i]? = some y := ⟨xs[i], by simp [hxl, hi]⟩
      obtain ⟨y, hy⟩ := hxi
      rw [hy] at h2
      obtain ⟨zi, hc, _, hw⟩ := DataW.trod_int he h2
      refine ⟨zi, fun _ => ⟨?_, hw⟩⟩
      have : ((cs.drop i).take 1)[0]? = some (.int .i64 zi) := by rw [hc]; rfl
      simpa using this
    · exact ⟨0, fun h => absurd h hi⟩
  exact ⟨fun i => Classical.choose (key i), fun i hi => Classical.choose_spec (key i) hi⟩

/-- A struct of three ints, by value. -/
theorem open_flat3 {r : Reach} {b0 : Nat} {t e : TypeId} {fs : Array Field} {v : Value} {d : DataW H} {p : List MemPlace} (hs : P.underlying t = some (.struct fs)) (hf : flatB fs e = true) (he : P.underlying e = some (.int .i64)) (h1 : P.cellsOf e = 1) (hC : P.cellsOf t = fs.size) (h3 : fs.size = 3)
    (hv : Value.okWide P w r b0 t v) (h : DataW.Trod enc P w base spare held t v d p) :
    ∃ x y z : Int, v = .agg #[.int .i64 x, .int .i64 y, .int .i64 z] ∧ (Lit.int .i64 x).wf = true ∧ (Lit.int .i64 y).wf = true ∧ (Lit.int .i64 z).wf = true := by
  obtain ⟨cs, rfl, hsz⟩ := okWide_struct hs hv
  obtain ⟨fuel, hd⟩ := h
  obtain ⟨_, z, hz⟩ := trod_flat hs hf he h1 hC hd
  rw [hC, h3] at hsz
  rw [h3] at hz
  refine ⟨z 0, z 1, z 2, ?_, (hz 0 (by omega)).2, (hz 1 (by omega)).2, (hz 2 (by omega)).2⟩
  have g : cs = #[.int .i64 (z 0), .int .i64 (z 1), .int .i64 (z 2)] := by
    apply Array.ext_getElem?
    intro i
    match i with
    | 0 => simpa [Value.cells] using (hz 0 (by omega)).1
    | 1 => simpa [Value.cells] using (hz 1 (by omega)).1
    | 2 => simpa [Value.cells] using (hz 2 (by omega)).1
    | i + 3 => simp [hsz]
  rw [g]

end
end Go.Proofs.Ytmjclmjnkmhciaa
