/-
  What came in, opened: a slice of ints or of structs of ints. Nothing of a program here.
-/
import Derived.Test.YtmjclmjnkmhciaaOpen
import Derived.Test.YtmjclmjnkmhciaaRow
import Derived.SizedLaws
namespace Go.Proofs.Ytmjclmjnkmhciaa
open Go.ChangeShapes Go.WideShapes

section
variable {H : Type} {enc : TypeId × Value → H} {P : Program} {w : World} {base : Nat} {spare : Nat → Bool} {held : Bool}

/-- An element's cells are k ints. -/
def IntsAt (enc : TypeId × Value → H) (P : Program) (w : World) (base : Nat) (spare : Nat → Bool) (held : Bool) (e : TypeId) (k : Nat) : Prop :=
  ∀ (fuel : Nat) (cs : List Value) (x : DataW H × List MemPlace), DataW.trod enc P w base spare held fuel e cs = some x → ∃ z : Nat → Int, ∀ i, i < k → cs[i]? = some (.int .i64 (z i))

theorem intsAt_int {e : TypeId} (he : P.underlying e = some (.int .i64)) : IntsAt enc P w base spare held e 1 := by
  intro fuel cs x h
  obtain ⟨n, rfl, _⟩ := DataW.trod_int he h
  exact ⟨fun _ => n, fun i hi => by obtain rfl : i = 0 := by omega
                                    rfl⟩
theorem intsAt_flat {t e : TypeId} {fs : Array Field} (hs : P.underlying t = some (.struct fs)) (hf : flatB fs e = true) (he : P.underlying e = some (.int .i64)) (h1 : P.cellsOf e = 1) (hC : P.cellsOf t = fs.size) : IntsAt enc P w base spare held t fs.size := by
  intro fuel cs x h
  obtain ⟨_, z, hz⟩ := trod_flat hs hf he h1 hC h
  exact ⟨z, fun i hi => (hz i hi).1⟩

/-- A slice of such elements. -/
theorem open_row {t e : TypeId} {k fuel : Nat} {cs : List Value} {x : DataW H × List MemPlace} (hs : P.underlying t = some (.slice e)) (hk : 0 < k) (hC : P.cellsOf e = k) (hel : IntsAt enc P w base spare held e k) (h : DataW.trod enc P w base spare held fuel t cs = some x) :
    ∃ (a : Option Addr) (n c : Nat) (z : Nat → Int), cs = [.slice a n c] ∧ (a = none → n = 0 ∧ c = 0) ∧ n ≤ c ∧ Row w a (n * k) (fun i => .int .i64 (z i)) ∧ ((x.1 = .nil ∧ n = 0) ∨ ∃ elems rest, x.1 = .slice elems rest ∧ elems.length = n) := by
  rcases DataW.trod_slice hs h with ⟨rfl, rfl⟩ | ⟨a, n, c, elems, rest, m, _, rfl, rfl, _, hle, _, hel2, hcell, _, _⟩
  · exact ⟨none, 0, 0, fun _ => 0, rfl, fun _ => ⟨rfl, rfl⟩, Nat.le_refl _, by rw [Nat.zero_mul]; exact row_zero _ _ _, .inl ⟨rfl, rfl⟩⟩
  · rw [hC] at hcell
    have key : ∀ i, ∃ z : Nat → Int, i < n → ∀ j, j < k → w.cell? ((a.add (i * k)).add j) = some (.int .i64 (z j)) := by
      intro i
      by_cases hi : i < n
      · have h1 := hcell i hi
        have h2 : elems[i]? = some elems[i] := by simp [hel2, hi]
        rw [h2] at h1
        obtain ⟨ci, hci, ht⟩ := Option.bind_eq_some_iff.1 h1
        obtain ⟨_, _, hc⟩ := World.cells?_some hci
        obtain ⟨z, hz⟩ := hel _ _ _ ht
        exact ⟨z, fun _ j hj => by rw [hc j hj]; exact hz j hj⟩
      · exact ⟨fun _ => 0, fun h => absurd h hi⟩
    obtain ⟨Z, hZ⟩ : ∃ Z : Nat → Nat → Int, ∀ i, i < n → ∀ j, j < k → w.cell? ((a.add (i * k)).add j) = some (.int .i64 (Z i j)) := ⟨fun i => Classical.choose (key i), fun i => Classical.choose_spec (key i)⟩
    clear key
    obtain ⟨b, off, spot⟩ := a
    have hspot : 0 < n → spot = .none := by
      intro hn
      simpa [Addr.add] using World.cell?_spot (hZ 0 hn 0 hk)
    refine ⟨some ⟨b, off, spot⟩, n, c, fun j => Z (j / k) (j % k), rfl, (fun h => by cases h), hle, ?_, .inr ⟨_, _, rfl, by simpa using hel2⟩⟩
    by_cases hn : 0 < n
    · obtain rfl := hspot hn
      refine row_cells fun j hj => ?_
      have hdiv : j / k < n := Nat.div_lt_of_lt_mul (by rw [Nat.mul_comm]; exact hj)
      have hz := hZ (j / k) hdiv (j % k) (Nat.mod_lt _ hk)
      rw [add_plain] at hz ⊢
      rw [add_plain] at hz
      rw [Nat.add_assoc, show j / k * k + j % k = j by rw [Nat.mul_comm]; exact Nat.div_add_mod j k] at hz
      exact hz
    · obtain rfl : n = 0 := by omega
      rw [Nat.zero_mul]
      exact row_zero _ _ _

/-- A slice of such elements, by value. -/
theorem open_rows {r : Reach} {b0 : Nat} {t e : TypeId} {k by_ : Nat} {v : Value} {d : DataW H} {p : List MemPlace} {ts : List TypeId} {ds : List (DataW H)} {j : Nat} (hs : P.underlying t = some (.slice e)) (hk : 0 < k) (hC : P.cellsOf e = k) (hby : P.bytesOf e = by_)
    (hel : IntsAt enc P w base spare held e k) (hv : Value.okWide P w r b0 t v) (h : DataW.Trod enc P w base spare held t v d p) (hsz : (DataW.weightsEach P ts ds).all (· ≤ reachBytes) = true) (ht : ts[j]? = some t) (hd : ds[j]? = some d) :
    ∃ (a : Option Addr) (n c : Nat) (z : Nat → Int), v = .slice a n c ∧ (n * by_ ≤ 140737488351232 ∧ n ≤ c ∧ (a = none → n = 0 ∧ c = 0)) ∧ Row w a (n * k) (fun i => .int .i64 (z i)) := by
  obtain ⟨a', n', c', rfl⟩ := okWide_slice hs hv
  obtain ⟨fuel, hf⟩ := h
  obtain ⟨a, n, c, z, hc, hnil, hle, hrow, hx⟩ := open_row hs hk hC hel hf
  simp only [Value.cells, List.cons.injEq, Value.slice.injEq, and_true] at hc
  obtain ⟨rfl, rfl, rfl⟩ := hc
  refine ⟨a', n', c', z, rfl, ⟨?_, hle, hnil⟩, hrow⟩
  rcases hx with ⟨_, rfl⟩ | ⟨elems, rest, e1, e2⟩
  · omega
  · dsimp only at e1
    rw [e1] at hd
    have h5 := sized_slice hsz ht hd hs
    rw [hby, e2] at h5
    have h6 : n' * by_ ≤ (n' + rest.length) * by_ := Nat.mul_le_mul_right _ (by omega)
    simp only [reachBytes] at h5
    omega

end
end Go.Proofs.Ytmjclmjnkmhciaa
