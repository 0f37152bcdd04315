/-
  What came in, opened: a slice of ints or of structs of ints; an array of four such slices. Nothing of a program here.
-/
import Derived.Test.YtmjclmjnkmhciaaOpenRow
import Derived.Test.YtmjclmjnkmhciaaArenaPure
import Derived.SizedLaws
namespace Go.Proofs.Ytmjclmjnkmhciaa
open Go.ChangeShapes Go.WideShapes

section
variable {H : Type} {enc : TypeId × Value → H} {P : Program} {w : World} {base : Nat} {spare : Nat → Bool} {held : Bool}

theorem weightsAll_mem {e : TypeId} {x : Nat} {d : DataW H} : ∀ {l : List (DataW H)}, d ∈ l → x ∈ d.weights P e → x ∈ DataW.weightsAll P e l
  | [], h, _ => by cases h
  | y :: l, h, hx => by
    rw [DataW.weightsAll]
    rcases List.mem_cons.1 h with rfl | h
    · exact List.mem_append.2 (.inl hx)
    · exact List.mem_append.2 (.inr (weightsAll_mem h hx))

theorem sized_arr {ts : List TypeId} {ds : List (DataW H)} (h : (DataW.weightsEach P ts ds).all (· ≤ reachBytes) = true) {j n g : Nat} {t e' e : TypeId} {parts : List (DataW H)} {elems sp : List (DataW H)} (ht : ts[j]? = some t) (hd : ds[j]? = some (.agg parts)) (hu : P.underlying t = some (.array n e')) (hg : parts[g]? = some (.slice elems sp)) (hu' : P.underlying e' = some (.slice e)) :
    (elems.length + sp.length) * P.bytesOf e ≤ reachBytes := by
  have hm : (elems.length + sp.length) * P.bytesOf e ∈ (DataW.agg parts).weights P t := by
    simp only [DataW.weights, hu]
    exact weightsAll_mem (List.mem_of_getElem? hg) (by simp [DataW.weights, hu'])
  have := List.all_eq_true.1 h _ (DataW.weights_mem_each ht hd _ hm)
  simpa using this

/-- An array of four such slices, by value. -/
theorem open_arr4 {r : Reach} {b0 : Nat} {t te e : TypeId} {k by_ : Nat} {v : Value} {d : DataW H} {p : List MemPlace} {ts : List TypeId} {ds : List (DataW H)} {j : Nat} (ha : P.underlying t = some (.array 4 te)) (hs : P.underlying te = some (.slice e)) (hk : 0 < k) (hC : P.cellsOf e = k) (hCs : P.cellsOf te = 1) (hCa : P.cellsOf t = 4) (hby : P.bytesOf e = by_)
    (hel : IntsAt enc P w base spare held e k) (hv : Value.okWide P w r b0 t v) (h : DataW.Trod enc P w base spare held t v d p) (hsz : (DataW.weightsEach P ts ds).all (· ≤ reachBytes) = true) (ht : ts[j]? = some t) (hd : ds[j]? = some d) :
    ∃ (s : Nat → Sl) (z : Nat → Nat → Int), v = arenaA s ∧ ∀ g, g < 4 → ((s g).n * by_ ≤ 140737488351232 ∧ ((s g).a = none → (s g).n = 0 ∧ (s g).c = 0)) ∧ Row w (s g).a ((s g).n * k) (fun i => .int .i64 (z g i)) := by
  have hv' : ∃ cs, v = .agg cs ∧ cs.size = P.cellsOf t := by
    simp only [Value.okWide, ha] at hv
    obtain ⟨cs, h1, h2, _⟩ := hv
    exact ⟨cs, h1, h2⟩
  obtain ⟨cs, rfl, hcs⟩ := hv'
  rw [hCa] at hcs
  obtain ⟨fuel, hf⟩ := h
  obtain ⟨xs, m, _, hx, _, hxl, hel4⟩ := DataW.trod_array ha hf
  simp only [Prod.mk.injEq] at hx
  obtain ⟨rfl, _⟩ := hx
  have key : ∀ g, ∃ (x : Sl) (z : Nat → Int), g < 4 → cs[g]? = some (.slice x.a x.n x.c) ∧ (x.n * by_ ≤ 140737488351232 ∧ (x.a = none → x.n = 0 ∧ x.c = 0)) ∧ Row w x.a (x.n * k) (fun i => .int .i64 (z i)) := by
    intro g
    by_cases hg : g < 4
    · have h1 := hel4 g hg
      rw [hCs, Nat.mul_one] at h1
      have h2 : xs[g]? = some xs[g] := by simp [hxl, hg]
      rw [h2] at h1
      obtain ⟨a, n, c, z, hc, hnil, _, hrow, hx1⟩ := open_row hs hk hC hel h1
      refine ⟨⟨a, n, c⟩, z, fun _ => ⟨?_, ⟨?_, hnil⟩, hrow⟩⟩
      · have h3 : ((cs.toList.drop g).take 1)[0]? = some (.slice a n c) := by
          have : (Value.agg cs).cells.toList = cs.toList := by simp [Value.cells]
          rw [this] at hc
          rw [hc]; rfl
        simpa using h3
      · rcases hx1 with ⟨_, rfl⟩ | ⟨elems, rest, e1, e2⟩
        · show 0 * by_ ≤ _; omega
        · have h4 : (xs.map (·.1))[g]? = some (.slice elems rest) := by simp [h2, e1]
          have h5 := sized_arr hsz ht hd ha h4 hs
          rw [hby, e2] at h5
          have h6 : n * by_ ≤ (n + rest.length) * by_ := Nat.mul_le_mul_right _ (by omega)
          simp only [reachBytes] at h5
          show n * by_ ≤ _
          omega
    · exact ⟨⟨none, 0, 0⟩, fun _ => 0, fun h => absurd h hg⟩
  refine ⟨fun g => Classical.choose (key g), fun g => Classical.choose (Classical.choose_spec (key g)), ?_, fun g hg => (Classical.choose_spec (Classical.choose_spec (key g)) hg).2⟩
  have hz := fun g hg => (Classical.choose_spec (Classical.choose_spec (key g)) hg).1
  unfold arenaA
  congr 1
  apply Array.ext_getElem?
  intro i
  match i with
  | 0 => simpa using hz 0 (by omega)
  | 1 => simpa using hz 1 (by omega)
  | 2 => simpa using hz 2 (by omega)
  | 3 => simpa using hz 3 (by omega)
  | i + 4 => simp [hcs]

end
end Go.Proofs.Ytmjclmjnkmhciaa
