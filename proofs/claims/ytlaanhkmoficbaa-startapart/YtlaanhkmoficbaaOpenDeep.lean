/-
  What came in, opened: types made of ints, slices, structs and arrays, whatever their depth. 'Opens t R': whatever was read of the type, within reach, has cells that R tells. Nothing of a program here.
-/
import Derived.Test.YtlaanhkmoficbaaOpenRow
import Derived.Test.YtlaanhkmoficbaaSl
namespace Go.Proofs.Ytlaanhkmoficbaa
open Go.ChangeShapes Go.WideShapes

section
variable {H : Type} {enc : TypeId × Value → H} {P : Program} {w : World} {base : Nat} {spare : Nat → Bool} {held : Bool}

/-- What it weighs is within reach. -/
def Sized (P : Program) (t : TypeId) (d : DataW H) : Prop := ∀ x ∈ d.weights P t, x ≤ reachBytes
def Opens (enc : TypeId × Value → H) (P : Program) (w : World) (base : Nat) (spare : Nat → Bool) (held : Bool) (t : TypeId) (R : List Value → Prop) : Prop :=
  ∀ (fuel : Nat) (cs : List Value) (x : DataW H × List MemPlace), DataW.trod enc P w base spare held fuel t cs = some x → Sized P t x.1 → R cs

theorem mem_weightsAll {e : TypeId} {x : Nat} {d : DataW H} : ∀ {l : List (DataW H)}, d ∈ l → x ∈ d.weights P e → x ∈ DataW.weightsAll P e l
  | [], h, _ => by cases h
  | y :: l, h, hx => by
    rw [DataW.weightsAll]
    rcases List.mem_cons.1 h with rfl | h
    · exact List.mem_append.2 (.inl hx)
    · exact List.mem_append.2 (.inr (mem_weightsAll h hx))

def IntR (cs : List Value) : Prop := ∃ n : Int, cs = [.int .i64 n] ∧ (Lit.int .i64 n).wf = true
theorem opens_int {t : TypeId} (ht : P.underlying t = some (.int .i64)) : Opens enc P w base spare held t IntR := by
  intro fuel cs x h _
  obtain ⟨n, rfl, _, hw⟩ := DataW.trod_int ht h
  exact ⟨n, rfl, hw⟩

theorem opens_struct {t : TypeId} {fs : Array Field} {R : Nat → List Value → Prop} (hs : P.underlying t = some (.struct fs)) (hR : ∀ i f, fs[i]? = some f → Opens enc P w base spare held f.type (R i)) :
    Opens enc P w base spare held t fun cs => cs.length = P.cellsOf t ∧ ∀ i f, fs[i]? = some f → R i ((cs.drop f.offset).take (P.cellsOf f.type)) := by
  intro fuel cs x h hz
  obtain ⟨xs, m, _, rfl, hl, hxl, hfs⟩ := DataW.trod_struct hs h
  refine ⟨hl, fun i f hf => ?_⟩
  have hi : i < fs.size := (Array.getElem?_eq_some_iff.1 hf).1
  obtain ⟨y, hy⟩ : ∃ y, xs[i]? = some y := ⟨xs[i], by simp [hxl, hi]⟩
  have h2 := hfs i f hf
  rw [hy] at h2
  refine hR i f hf _ _ _ h2 fun a ha => hz a ?_
  simp only [DataW.weights, hs]
  exact DataW.weights_mem_each (t := f.type) (d := y.1) (j := i) (by simp [hf]) (by simp [hy]) a ha

theorem opens_array {t e : TypeId} {n : Nat} {R : List Value → Prop} (hs : P.underlying t = some (.array n e)) (hR : Opens enc P w base spare held e R) :
    Opens enc P w base spare held t fun cs => cs.length = P.cellsOf t ∧ ∀ i, i < n → R ((cs.drop (i * P.cellsOf e)).take (P.cellsOf e)) := by
  intro fuel cs x h hz
  obtain ⟨xs, m, _, rfl, hl, hxl, hfs⟩ := DataW.trod_array hs h
  refine ⟨hl, fun i hi => ?_⟩
  obtain ⟨y, hy⟩ : ∃ y, xs[i]? = some y := ⟨xs[i], by simp [hxl, hi]⟩
  have h2 := hfs i hi
  rw [hy] at h2
  refine hR _ _ _ h2 fun a ha => hz a ?_
  simp only [DataW.weights, hs]
  exact mem_weightsAll (d := y.1) (List.mem_of_getElem? (i := i) (by simp [hy])) ha

/-- A slice: its address, its length, its cells by a function of the place. -/
theorem opens_slice {t e : TypeId} {k by_ : Nat} {R : List Value → Prop} (hs : P.underlying t = some (.slice e)) (hk : 0 < k) (hC : P.cellsOf e = k) (hby : P.bytesOf e = by_) (hR : Opens enc P w base spare held e R) :
    Opens enc P w base spare held t fun cs => ∃ (a : Option Addr) (n c : Nat) (f : Nat → Value), cs = [.slice a n c] ∧ (n * by_ ≤ 140737488351232 ∧ n ≤ c ∧ (a = none → n = 0 ∧ c = 0)) ∧ Row w a (n * k) f ∧ ∀ i, i < n → R ((List.range k).map fun j => f (i * k + j)) := by
  intro fuel cs x h hz
  rcases DataW.trod_slice hs h with ⟨rfl, rfl⟩ | ⟨a, n, c, elems, rest, m, _, rfl, rfl, _, hle, _, hel2, hcell, _, _⟩
  · exact ⟨none, 0, 0, fun _ => undef, rfl, ⟨by omega, Nat.le_refl _, fun _ => ⟨rfl, rfl⟩⟩, by rw [Nat.zero_mul]; exact row_zero _ _ _, fun i hi => absurd hi (Nat.not_lt_zero _)⟩
  · have hwt : n * by_ ≤ 140737488351232 := by
      have h5 := hz ((elems.length + rest.length) * P.bytesOf e) (by simp [DataW.weights, hs])
      rw [hby, hel2] at h5
      have h6 : n * by_ ≤ (n + rest.length) * by_ := Nat.mul_le_mul_right _ (by omega)
      simp only [reachBytes] at h5
      omega
    rw [hC] at hcell
    have key : ∀ i, ∃ ci : List Value, i < n → R ci ∧ ci.length = k ∧ ∀ j, j < k → w.cell? ((a.add (i * k)).add j) = ci[j]? := by
      intro i
      by_cases hi : i < n
      · have h1 := hcell i hi
        have h2 : elems[i]? = some elems[i] := by simp [hel2, hi]
        rw [h2] at h1
        obtain ⟨ci, hci, ht⟩ := Option.bind_eq_some_iff.1 h1
        obtain ⟨_, hl, hc⟩ := World.cells?_some hci
        refine ⟨ci, fun _ => ⟨hR _ _ _ ht fun y hy => hz y ?_, hl, hc⟩⟩
        simp only [DataW.weights, hs]
        exact List.mem_cons_of_mem _ (List.mem_append.2 (.inl (mem_weightsAll (d := elems[i].1) (List.mem_map.2 ⟨elems[i], by simp, rfl⟩) hy)))
      · exact ⟨[], fun h => absurd h hi⟩
    obtain ⟨C, hC2⟩ : ∃ C : Nat → List Value, ∀ i, i < n → R (C i) ∧ (C i).length = k ∧ ∀ j, j < k → w.cell? ((a.add (i * k)).add j) = (C i)[j]? := ⟨fun i => Classical.choose (key i), fun i => Classical.choose_spec (key i)⟩
    clear key
    obtain ⟨b, off, spot⟩ := a
    have hspot : 0 < n → spot = .none := by
      intro hn
      obtain ⟨_, hl, hc⟩ := hC2 0 hn
      have := hc 0 hk
      rw [List.getElem?_eq_getElem (by omega)] at this
      simpa [Addr.add] using World.cell?_spot this
    refine ⟨some ⟨b, off, spot⟩, n, c, fun j => (C (j / k)).getD (j % k) undef, rfl, ⟨hwt, hle, fun h => by cases h⟩, ?_, fun i hi => ?_⟩
    · by_cases hn : 0 < n
      · obtain rfl := hspot hn
        refine row_cells fun j hj => ?_
        have hdiv : j / k < n := Nat.div_lt_of_lt_mul (by rw [Nat.mul_comm]; exact hj)
        obtain ⟨_, hl, hc⟩ := hC2 (j / k) hdiv
        have hm := Nat.mod_lt j hk
        have hz := hc (j % k) hm
        rw [add_plain] at hz ⊢
        rw [add_plain] at hz
        rw [Nat.add_assoc, show j / k * k + j % k = j by rw [Nat.mul_comm]; exact Nat.div_add_mod j k] at hz
        rw [hz, List.getElem?_eq_getElem (by omega)]
        simp [List.getD, List.getElem?_eq_getElem (show j % k < (C (j / k)).length by omega)]
      · obtain rfl : n = 0 := by omega
        rw [Nat.zero_mul]
        exact row_zero _ _ _
    · obtain ⟨hr, hl, _⟩ := hC2 i hi
      have e : (List.range k).map (fun j => (C ((i * k + j) / k)).getD ((i * k + j) % k) undef) = C i := by
        apply List.ext_getElem
        · simp [hl]
        · intro j h1 h2
          simp only [List.length_map, List.length_range] at h1
          have e1 : (i * k + j) / k = i := by rw [Nat.mul_comm, Nat.mul_add_div hk, Nat.div_eq_of_lt h1]; omega
          have e2 : (i * k + j) % k = j := by rw [Nat.mul_comm, Nat.mul_add_mod, Nat.mod_eq_of_lt h1]
          simp only [List.getElem_map, List.getElem_range, e1, e2]
          simp [List.getD, h2]
      show R ((List.range k).map (fun j => (C ((i * k + j) / k)).getD ((i * k + j) % k) undef))
      rw [e]
      exact hr

/-- A slice of ints, or of structs of ints. -/
def RowsR (w : World) (k by_ : Nat) (cs : List Value) : Prop := ∃ (a : Option Addr) (n c : Nat) (z : Nat → Int), cs = [.slice a n c] ∧ (n * by_ ≤ 140737488351232 ∧ n ≤ c ∧ (a = none → n = 0 ∧ c = 0)) ∧ Row w a (n * k) fun i => .int .i64 (z i)
theorem opens_ints {t e : TypeId} {k by_ : Nat} (hs : P.underlying t = some (.slice e)) (hk : 0 < k) (hC : P.cellsOf e = k) (hby : P.bytesOf e = by_) (hel : IntsAt enc P w base spare held e k) :
    Opens enc P w base spare held t (RowsR w k by_) := by
  intro fuel cs x h hz
  obtain ⟨a, n, c, z, rfl, hnil, hle, hrow, hx⟩ := open_row hs hk hC hel h
  refine ⟨a, n, c, z, rfl, ⟨?_, hle, hnil⟩, hrow⟩
  rcases hx with ⟨_, rfl⟩ | ⟨elems, rest, e1, e2⟩
  · omega
  · have h5 := hz ((elems.length + rest.length) * P.bytesOf e) (by simp [e1, DataW.weights, hs])
    rw [hby, e2] at h5
    have h6 : n * by_ ≤ (n + rest.length) * by_ := Nat.mul_le_mul_right _ (by omega)
    simp only [reachBytes] at h5
    omega

theorem opens_imp {t : TypeId} {R R' : List Value → Prop} (h : Opens enc P w base spare held t R) (hi : ∀ cs, R cs → R' cs) : Opens enc P w base spare held t R' := fun fuel cs x ht hz => hi cs (h fuel cs x ht hz)

/-- A struct's fields: each one's type and place. -/
def layout (P : Program) (t : TypeId) : Option (List (TypeId × Nat)) := match P.underlying t with
  | some (.struct fs) => some (fs.toList.map fun f => (f.type, f.offset))
  | _ => none
theorem opens_layout {t : TypeId} {L : List (TypeId × Nat)} {R : Nat → List Value → Prop} (hL : layout P t = some L) (hR : ∀ i y, L[i]? = some y → Opens enc P w base spare held y.1 (R i)) :
    Opens enc P w base spare held t fun cs => cs.length = P.cellsOf t ∧ ∀ i y, L[i]? = some y → R i ((cs.drop y.2).take (P.cellsOf y.1)) := by
  unfold layout at hL
  split at hL
  · rename_i fs hs
    cases hL
    refine opens_imp (opens_struct (R := R) hs fun i f hf => hR i (f.type, f.offset) (by simp [hf])) ?_
    rintro cs ⟨hl, h⟩
    refine ⟨hl, fun i y hy => ?_⟩
    simp only [List.getElem?_map, Option.map_eq_some_iff] at hy
    obtain ⟨f, hf, rfl⟩ := hy
    exact h i f (by simpa using hf)
  · cases hL

/-- A struct that came in, by value. -/
theorem open_agg {r : Reach} {b0 : Nat} {t : TypeId} {L : List (TypeId × Nat)} {v : Value} {d : DataW H} {p : List MemPlace} {ts : List TypeId} {ds : List (DataW H)} {j : Nat} {R : List Value → Prop} (hL : layout P t = some L) (hR : Opens enc P w base spare held t R)
    (hv : Value.okWide P w r b0 t v) (h : DataW.Trod enc P w base spare held t v d p) (hsz : (DataW.weightsEach P ts ds).all (· ≤ reachBytes) = true) (ht : ts[j]? = some t) (hd : ds[j]? = some d) :
    ∃ cs : List Value, v = .agg cs.toArray ∧ R cs := by
  obtain ⟨fs, hs⟩ : ∃ fs, P.underlying t = some (.struct fs) := by
    unfold layout at hL
    split at hL
    · exact ⟨_, by assumption⟩
    · cases hL
  obtain ⟨cs, rfl, _⟩ := okWide_struct hs hv
  obtain ⟨fuel, hf⟩ := h
  refine ⟨cs.toList, by simp, ?_⟩
  have e : (Value.agg cs).cells.toList = cs.toList := by simp [Value.cells]
  rw [e] at hf
  refine hR _ _ _ hf fun x hx => ?_
  have := List.all_eq_true.1 hsz _ (DataW.weights_mem_each ht hd _ hx)
  simpa using this

end
end Go.Proofs.Ytlaanhkmoficbaa
