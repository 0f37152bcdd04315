/-
  Several small texts in one: ClockPure, Open, OpenRow, OpenDeep, OpenStart, OpenMach, Sel, AskProg, RegsStat, HalfOwn.
-/
import Derived.Test.YtnjognmnbpcaaaaGreatZlab
import Derived.WalkKit
import Derived.ProofKit
import Derived.OpenShut
import Derived.ChangeArms
import Derived.SizedLaws
import Derived.Test.YtnjognmnbpcaaaaGreatZlac
namespace Go.Proofs.YtnjognmnbpcaaaaGreat
open Go.RowKit
/-- May the clocks, the level, the ceiling be? -/
def nextOk (c : Nat → Int) (l m : Int) : Bool := upToV l 3 && upToV m 65535 && allUp c 65535 4
/-- The number of Next's error. -/
def nextE (c : Nat → Int) (l m : Int) : Int := bif nextOk c l m then (if m ≤ c l.toNat then 501 else 0) else 500
/-- Next's clocks. -/
def nextC (c : Nat → Int) (l m : Int) : Nat → Int := bif nextOk c l m then (if m ≤ c l.toNat then fun _ => 0 else updQ c l.toNat (c l.toNat + 1)) else fun _ => 0
/-- Next's number. -/
def nextK (c : Nat → Int) (l m : Int) : Int := bif nextOk c l m then (if m ≤ c l.toNat then 0 else c l.toNat + 1) else 0
theorem next_form {c : Nat → Int} {l m : Int} (h : nextOk c l m = false) : nextE c l m = 500 ∧ nextC c l m = (fun _ => 0) ∧ nextK c l m = 0 := by
  unfold nextE nextC nextK; rw [h]; exact ⟨rfl, rfl, rfl⟩
theorem next_full {c : Nat → Int} {l m : Int} (h : nextOk c l m = true) (h' : m ≤ c l.toNat) : nextE c l m = 501 ∧ nextC c l m = (fun _ => 0) ∧ nextK c l m = 0 := by
  unfold nextE nextC nextK; rw [h]
  simp only [cond_true, if_pos h', and_self]
theorem next_on {c : Nat → Int} {l m : Int} (h : nextOk c l m = true) (h' : ¬ m ≤ c l.toNat) : nextE c l m = 0 ∧ nextC c l m = updQ c l.toNat (c l.toNat + 1) ∧ nextK c l m = c l.toNat + 1 := by
  unfold nextE nextC nextK; rw [h]
  simp only [cond_true, if_neg h', and_self]
theorem nextOk_get {c : Nat → Int} {l m : Int} (h : nextOk c l m = true) : upToV l 3 = true ∧ upToV m 65535 = true ∧ allUp c 65535 4 = true := by
  unfold nextOk at h
  simp only [Bool.and_eq_true] at h
  exact ⟨h.1.1, h.1.2, h.2⟩
end Go.Proofs.YtnjognmnbpcaaaaGreat
namespace Go.Proofs.YtnjognmnbpcaaaaGreat
open Go.ChangeShapes Go.WideShapes
/-- Field i lies at offset i, and is an int (of type e). -/
def flatB (fs : Array Field) (e : TypeId) : Bool := (List.range fs.size).all fun i => match fs[i]? with
  | some f => f.offset == i && f.type == e
  | none => false
section
variable {H : Type} {enc : TypeId × Value → H} {P : Program} {w : World} {base : Nat} {spare : Nat → Bool} {held : Bool}
theorem flat_of {fs : Array Field} {e : TypeId} (h : flatB fs e = true) : ∀ (i : Nat) (f : Field), fs[i]? = some f → f.offset = i ∧ f.type = e := by
  intro i f hi
  have hlt : i < fs.size := (Array.getElem?_eq_some_iff.1 hi).1
  have := List.all_eq_true.1 h i (List.mem_range.2 hlt)
  simp only [hi, Bool.and_eq_true, beq_iff_eq] at this
  exact this
/-- The cells of a struct of ints are ints. -/
theorem trod_flat {t e : TypeId} {fs : Array Field} {fuel : Nat} {cs : List Value} {x : DataW H × List MemPlace} (hs : P.underlying t = some (.struct fs)) (hf : flatB fs e = true) (he : P.underlying e = some (.int .i64)) (h1 : P.cellsOf e = 1) (hC : P.cellsOf t = fs.size)
    (h : DataW.trod enc P w base spare held fuel t cs = some x) : cs.length = fs.size ∧ ∃ z : Nat → Int, ∀ i, i < fs.size → cs[i]? = some (.int .i64 (z i)) ∧ (Lit.int .i64 (z i)).wf = true := by
  obtain ⟨xs, n, _, _, hl, hxl, hfs⟩ := DataW.trod_struct hs h
  rw [hC] at hl
  refine ⟨hl, ?_⟩
  have key : ∀ i, ∃ zi : Int, i < fs.size → cs[i]? = some (.int .i64 zi) ∧ (Lit.int .i64 zi).wf = true := by
    intro i
    by_cases hi : i < fs.size
    · obtain ⟨f, hfi⟩ : ∃ f, fs[i]? = some f := ⟨fs[i], by simp [hi]⟩
      obtain ⟨ho, ht⟩ := flat_of hf i f hfi
      have h2 := hfs i f hfi
      rw [ho, ht, h1] at h2
      have hxi : ∃ y, xs[i]? = some y := ⟨xs[i], by simp [hxl, hi]⟩
      obtain ⟨y, hy⟩ := hxi
      rw [hy] at h2
      obtain ⟨zi, hc, _, hw⟩ := DataW.trod_int he h2
      refine ⟨zi, fun _ => ⟨?_, hw⟩⟩
      have : ((cs.drop i).take 1)[0]? = some (.int .i64 zi) := by rw [hc]; rfl
      simpa using this
    · exact ⟨0, fun h => absurd h hi⟩
  exact ⟨fun i => Classical.choose (key i), fun i hi => Classical.choose_spec (key i) hi⟩
end
end Go.Proofs.YtnjognmnbpcaaaaGreat
namespace Go.Proofs.YtnjognmnbpcaaaaGreat
open Go.ChangeShapes Go.WideShapes
section
variable {H : Type} {enc : TypeId × Value → H} {P : Program} {w : World} {base : Nat} {spare : Nat → Bool} {held : Bool}
/-- An element's cells are k ints. -/
def IntsAt (enc : TypeId × Value → H) (P : Program) (w : World) (base : Nat) (spare : Nat → Bool) (held : Bool) (e : TypeId) (k : Nat) : Prop :=
  ∀ (fuel : Nat) (cs : List Value) (x : DataW H × List MemPlace), DataW.trod enc P w base spare held fuel e cs = some x → ∃ z : Nat → Int, ∀ i, i < k → cs[i]? = some (.int .i64 (z i))
theorem intsAt_flat {t e : TypeId} {fs : Array Field} (hs : P.underlying t = some (.struct fs)) (hf : flatB fs e = true) (he : P.underlying e = some (.int .i64)) (h1 : P.cellsOf e = 1) (hC : P.cellsOf t = fs.size) : IntsAt enc P w base spare held t fs.size := by
  intro fuel cs x h
  obtain ⟨_, z, hz⟩ := trod_flat hs hf he h1 hC h
  exact ⟨z, fun i hi => (hz i hi).1⟩
/-- A slice of such elements. -/
theorem open_row {t e : TypeId} {k fuel : Nat} {cs : List Value} {x : DataW H × List MemPlace} (hs : P.underlying t = some (.slice e)) (hk : 0 < k) (hC : P.cellsOf e = k) (hel : IntsAt enc P w base spare held e k) (h : DataW.trod enc P w base spare held fuel t cs = some x) :
    ∃ (a : Option Addr) (n c : Nat) (z : Nat → Int), cs = [.slice a n c] ∧ (a = none → n = 0 ∧ c = 0) ∧ n ≤ c ∧ Row w a (n * k) (fun i => .int .i64 (z i)) ∧ ((x.1 = .nil ∧ n = 0) ∨ ∃ elems rest, x.1 = .slice elems rest ∧ elems.length = n) := by
  rcases DataW.trod_slice hs h with ⟨rfl, rfl⟩ | ⟨a, n, c, elems, rest, m, _, rfl, rfl, _, hle, _, hel2, hcell, _, _⟩
  · exact ⟨none, 0, 0, fun _ => 0, rfl, fun _ => ⟨rfl, rfl⟩, Nat.le_refl _, by rw [Nat.zero_mul]; exact row_zero _ _ _, .inl ⟨rfl, rfl⟩⟩
  · rw [hC] at hcell
    have key : ∀ i, ∃ z : Nat → Int, i < n → ∀ j, j < k → w.cell? ((a.add (i * k)).add j) = some (.int .i64 (z j)) := by
      intro i
      by_cases hi : i < n
      · have h1 := hcell i hi
        have h2 : elems[i]? = some elems[i] := by simp [hel2, hi]
        rw [h2] at h1
        obtain ⟨ci, hci, ht⟩ := Option.bind_eq_some_iff.1 h1
        obtain ⟨_, _, hc⟩ := World.cells?_some hci
        obtain ⟨z, hz⟩ := hel _ _ _ ht
        exact ⟨z, fun _ j hj => by rw [hc j hj]; exact hz j hj⟩
      · exact ⟨fun _ => 0, fun h => absurd h hi⟩
    obtain ⟨Z, hZ⟩ : ∃ Z : Nat → Nat → Int, ∀ i, i < n → ∀ j, j < k → w.cell? ((a.add (i * k)).add j) = some (.int .i64 (Z i j)) := ⟨fun i => Classical.choose (key i), fun i => Classical.choose_spec (key i)⟩
    clear key
    obtain ⟨b, off, spot⟩ := a
    have hspot : 0 < n → spot = .none := by
      intro hn
      simpa [Addr.add] using World.cell?_spot (hZ 0 hn 0 hk)
    refine ⟨some ⟨b, off, spot⟩, n, c, fun j => Z (j / k) (j % k), rfl, (fun h => by cases h), hle, ?_, .inr ⟨_, _, rfl, by simpa using hel2⟩⟩
    by_cases hn : 0 < n
    · obtain rfl := hspot hn
      refine row_cells fun j hj => ?_
      have hdiv : j / k < n := Nat.div_lt_of_lt_mul (by rw [Nat.mul_comm]; exact hj)
      have hz := hZ (j / k) hdiv (j % k) (Nat.mod_lt _ hk)
      rw [add_plain] at hz ⊢
      rw [add_plain] at hz
      rw [Nat.add_assoc, show j / k * k + j % k = j by rw [Nat.mul_comm]; exact Nat.div_add_mod j k] at hz
      exact hz
    · obtain rfl : n = 0 := by omega
      rw [Nat.zero_mul]
      exact row_zero _ _ _
end
end Go.Proofs.YtnjognmnbpcaaaaGreat
namespace Go.Proofs.YtnjognmnbpcaaaaGreat
open Go.ChangeShapes Go.WideShapes
section
variable {H : Type} {enc : TypeId × Value → H} {P : Program} {w : World} {base : Nat} {spare : Nat → Bool} {held : Bool}
/-- What it weighs is within reach. -/
def Sized (P : Program) (t : TypeId) (d : DataW H) : Prop := ∀ x ∈ d.weights P t, x ≤ reachBytes
def Opens (enc : TypeId × Value → H) (P : Program) (w : World) (base : Nat) (spare : Nat → Bool) (held : Bool) (t : TypeId) (R : List Value → Prop) : Prop :=
  ∀ (fuel : Nat) (cs : List Value) (x : DataW H × List MemPlace), DataW.trod enc P w base spare held fuel t cs = some x → Sized P t x.1 → R cs
theorem mem_weightsAll {e : TypeId} {x : Nat} {d : DataW H} : ∀ {l : List (DataW H)}, d ∈ l → x ∈ d.weights P e → x ∈ DataW.weightsAll P e l
  | [], h, _ => by cases h
  | y :: l, h, hx => by
    rw [DataW.weightsAll]
    rcases List.mem_cons.1 h with rfl | h
    · exact List.mem_append.2 (.inl hx)
    · exact List.mem_append.2 (.inr (mem_weightsAll h hx))
def IntR (cs : List Value) : Prop := ∃ n : Int, cs = [.int .i64 n] ∧ (Lit.int .i64 n).wf = true
theorem opens_int {t : TypeId} (ht : P.underlying t = some (.int .i64)) : Opens enc P w base spare held t IntR := by
  intro fuel cs x h _
  obtain ⟨n, rfl, _, hw⟩ := DataW.trod_int ht h
  exact ⟨n, rfl, hw⟩
theorem opens_struct {t : TypeId} {fs : Array Field} {R : Nat → List Value → Prop} (hs : P.underlying t = some (.struct fs)) (hR : ∀ i f, fs[i]? = some f → Opens enc P w base spare held f.type (R i)) :
    Opens enc P w base spare held t fun cs => cs.length = P.cellsOf t ∧ ∀ i f, fs[i]? = some f → R i ((cs.drop f.offset).take (P.cellsOf f.type)) := by
  intro fuel cs x h hz
  obtain ⟨xs, m, _, rfl, hl, hxl, hfs⟩ := DataW.trod_struct hs h
  refine ⟨hl, fun i f hf => ?_⟩
  have hi : i < fs.size := (Array.getElem?_eq_some_iff.1 hf).1
  obtain ⟨y, hy⟩ : ∃ y, xs[i]? = some y := ⟨xs[i], by simp [hxl, hi]⟩
  have h2 := hfs i f hf
  rw [hy] at h2
  refine hR i f hf _ _ _ h2 fun a ha => hz a ?_
  simp only [DataW.weights, hs]
  exact DataW.weights_mem_each (t := f.type) (d := y.1) (j := i) (by simp [hf]) (by simp [hy]) a ha
theorem opens_array {t e : TypeId} {n : Nat} {R : List Value → Prop} (hs : P.underlying t = some (.array n e)) (hR : Opens enc P w base spare held e R) :
    Opens enc P w base spare held t fun cs => cs.length = P.cellsOf t ∧ ∀ i, i < n → R ((cs.drop (i * P.cellsOf e)).take (P.cellsOf e)) := by
  intro fuel cs x h hz
  obtain ⟨xs, m, _, rfl, hl, hxl, hfs⟩ := DataW.trod_array hs h
  refine ⟨hl, fun i hi => ?_⟩
  obtain ⟨y, hy⟩ : ∃ y, xs[i]? = some y := ⟨xs[i], by simp [hxl, hi]⟩
  have h2 := hfs i hi
  rw [hy] at h2
  refine hR _ _ _ h2 fun a ha => hz a ?_
  simp only [DataW.weights, hs]
  exact mem_weightsAll (d := y.1) (List.mem_of_getElem? (i := i) (by simp [hy])) ha
/-- A slice: its address, its length, its cells by a function of the place. -/
theorem opens_slice {t e : TypeId} {k by_ : Nat} {R : List Value → Prop} (hs : P.underlying t = some (.slice e)) (hk : 0 < k) (hC : P.cellsOf e = k) (hby : P.bytesOf e = by_) (hR : Opens enc P w base spare held e R) :
    Opens enc P w base spare held t fun cs => ∃ (a : Option Addr) (n c : Nat) (f : Nat → Value), cs = [.slice a n c] ∧ (n * by_ ≤ 140737488351232 ∧ n ≤ c ∧ (a = none → n = 0 ∧ c = 0)) ∧ Row w a (n * k) f ∧ ∀ i, i < n → R ((List.range k).map fun j => f (i * k + j)) := by
  intro fuel cs x h hz
  rcases DataW.trod_slice hs h with ⟨rfl, rfl⟩ | ⟨a, n, c, elems, rest, m, _, rfl, rfl, _, hle, _, hel2, hcell, _, _⟩
  · exact ⟨none, 0, 0, fun _ => undef, rfl, ⟨by omega, Nat.le_refl _, fun _ => ⟨rfl, rfl⟩⟩, by rw [Nat.zero_mul]; exact row_zero _ _ _, fun i hi => absurd hi (Nat.not_lt_zero _)⟩
  · have hwt : n * by_ ≤ 140737488351232 := by
      have h5 := hz ((elems.length + rest.length) * P.bytesOf e) (by simp [DataW.weights, hs])
      rw [hby, hel2] at h5
      have h6 : n * by_ ≤ (n + rest.length) * by_ := Nat.mul_le_mul_right _ (by omega)
      simp only [reachBytes] at h5
      omega
    rw [hC] at hcell
    have key : ∀ i, ∃ ci : List Value, i < n → R ci ∧ ci.length = k ∧ ∀ j, j < k → w.cell? ((a.add (i * k)).add j) = ci[j]? := by
      intro i
      by_cases hi : i < n
      · have h1 := hcell i hi
        have h2 : elems[i]? = some elems[i] := by simp [hel2, hi]
        rw [h2] at h1
        obtain ⟨ci, hci, ht⟩ := Option.bind_eq_some_iff.1 h1
        obtain ⟨_, hl, hc⟩ := World.cells?_some hci
        refine ⟨ci, fun _ => ⟨hR _ _ _ ht fun y hy => hz y ?_, hl, hc⟩⟩
        simp only [DataW.weights, hs]
        exact List.mem_cons_of_mem _ (List.mem_append.2 (.inl (mem_weightsAll (d := elems[i].1) (List.mem_map.2 ⟨elems[i], by simp, rfl⟩) hy)))
      · exact ⟨[], fun h => absurd h hi⟩
    obtain ⟨C, hC2⟩ : ∃ C : Nat → List Value, ∀ i, i < n → R (C i) ∧ (C i).length = k ∧ ∀ j, j < k → w.cell? ((a.add (i * k)).add j) = (C i)[j]? := ⟨fun i => Classical.choose (key i), fun i => Classical.choose_spec (key i)⟩
    clear key
    obtain ⟨b, off, spot⟩ := a
    have hspot : 0 < n → spot = .none := by
      intro hn
      obtain ⟨_, hl, hc⟩ := hC2 0 hn
      have := hc 0 hk
      rw [List.getElem?_eq_getElem (by omega)] at this
      simpa [Addr.add] using World.cell?_spot this
    refine ⟨some ⟨b, off, spot⟩, n, c, fun j => (C (j / k)).getD (j % k) undef, rfl, ⟨hwt, hle, fun h => by cases h⟩, ?_, fun i hi => ?_⟩
    · by_cases hn : 0 < n
      · obtain rfl := hspot hn
        refine row_cells fun j hj => ?_
        have hdiv : j / k < n := Nat.div_lt_of_lt_mul (by rw [Nat.mul_comm]; exact hj)
        obtain ⟨_, hl, hc⟩ := hC2 (j / k) hdiv
        have hm := Nat.mod_lt j hk
        have hz := hc (j % k) hm
        rw [add_plain] at hz ⊢
        rw [add_plain] at hz
        rw [Nat.add_assoc, show j / k * k + j % k = j by rw [Nat.mul_comm]; exact Nat.div_add_mod j k] at hz
        rw [hz, List.getElem?_eq_getElem (by omega)]
        simp [List.getD, List.getElem?_eq_getElem (show j % k < (C (j / k)).length by omega)]
      · obtain rfl : n = 0 := by omega
        rw [Nat.zero_mul]
        exact row_zero _ _ _
    · obtain ⟨hr, hl, _⟩ := hC2 i hi
      have e : (List.range k).map (fun j => (C ((i * k + j) / k)).getD ((i * k + j) % k) undef) = C i := by
        apply List.ext_getElem
        · simp [hl]
        · intro j h1 h2
          simp only [List.length_map, List.length_range] at h1
          have e1 : (i * k + j) / k = i := by rw [Nat.mul_comm, Nat.mul_add_div hk, Nat.div_eq_of_lt h1]; omega
          have e2 : (i * k + j) % k = j := by rw [Nat.mul_comm, Nat.mul_add_mod, Nat.mod_eq_of_lt h1]
          simp only [List.getElem_map, List.getElem_range, e1, e2]
          simp [List.getD, h2]
      show R ((List.range k).map (fun j => (C ((i * k + j) / k)).getD ((i * k + j) % k) undef))
      rw [e]
      exact hr
/-- A slice of ints, or of structs of ints. -/
def RowsR (w : World) (k by_ : Nat) (cs : List Value) : Prop := ∃ (a : Option Addr) (n c : Nat) (z : Nat → Int), cs = [.slice a n c] ∧ (n * by_ ≤ 140737488351232 ∧ n ≤ c ∧ (a = none → n = 0 ∧ c = 0)) ∧ Row w a (n * k) fun i => .int .i64 (z i)
theorem opens_ints {t e : TypeId} {k by_ : Nat} (hs : P.underlying t = some (.slice e)) (hk : 0 < k) (hC : P.cellsOf e = k) (hby : P.bytesOf e = by_) (hel : IntsAt enc P w base spare held e k) :
    Opens enc P w base spare held t (RowsR w k by_) := by
  intro fuel cs x h hz
  obtain ⟨a, n, c, z, rfl, hnil, hle, hrow, hx⟩ := open_row hs hk hC hel h
  refine ⟨a, n, c, z, rfl, ⟨?_, hle, hnil⟩, hrow⟩
  rcases hx with ⟨_, rfl⟩ | ⟨elems, rest, e1, e2⟩
  · omega
  · have h5 := hz ((elems.length + rest.length) * P.bytesOf e) (by simp [e1, DataW.weights, hs])
    rw [hby, e2] at h5
    have h6 : n * by_ ≤ (n + rest.length) * by_ := Nat.mul_le_mul_right _ (by omega)
    simp only [reachBytes] at h5
    omega
theorem opens_imp {t : TypeId} {R R' : List Value → Prop} (h : Opens enc P w base spare held t R) (hi : ∀ cs, R cs → R' cs) : Opens enc P w base spare held t R' := fun fuel cs x ht hz => hi cs (h fuel cs x ht hz)
/-- A struct's fields: each one's type and place. -/
def layout (P : Program) (t : TypeId) : Option (List (TypeId × Nat)) := match P.underlying t with
  | some (.struct fs) => some (fs.toList.map fun f => (f.type, f.offset))
  | _ => none
theorem opens_layout {t : TypeId} {L : List (TypeId × Nat)} {R : Nat → List Value → Prop} (hL : layout P t = some L) (hR : ∀ i y, L[i]? = some y → Opens enc P w base spare held y.1 (R i)) :
    Opens enc P w base spare held t fun cs => cs.length = P.cellsOf t ∧ ∀ i y, L[i]? = some y → R i ((cs.drop y.2).take (P.cellsOf y.1)) := by
  unfold layout at hL
  split at hL
  · rename_i fs hs
    cases hL
    refine opens_imp (opens_struct (R := R) hs fun i f hf => hR i (f.type, f.offset) (by simp [hf])) ?_
    rintro cs ⟨hl, h⟩
    refine ⟨hl, fun i y hy => ?_⟩
    simp only [List.getElem?_map, Option.map_eq_some_iff] at hy
    obtain ⟨f, hf, rfl⟩ := hy
    exact h i f (by simpa using hf)
  · cases hL
/-- A struct that came in, by value. -/
theorem open_agg {r : Reach} {b0 : Nat} {t : TypeId} {L : List (TypeId × Nat)} {v : Value} {d : DataW H} {p : List MemPlace} {ts : List TypeId} {ds : List (DataW H)} {j : Nat} {R : List Value → Prop} (hL : layout P t = some L) (hR : Opens enc P w base spare held t R)
    (hv : Value.okWide P w r b0 t v) (h : DataW.Trod enc P w base spare held t v d p) (hsz : (DataW.weightsEach P ts ds).all (· ≤ reachBytes) = true) (ht : ts[j]? = some t) (hd : ds[j]? = some d) :
    ∃ cs : List Value, v = .agg cs.toArray ∧ R cs := by
  obtain ⟨fs, hs⟩ : ∃ fs, P.underlying t = some (.struct fs) := by
    unfold layout at hL
    split at hL
    · exact ⟨_, by assumption⟩
    · cases hL
  obtain ⟨cs, rfl, _⟩ := okWide_struct hs hv
  obtain ⟨fuel, hf⟩ := h
  refine ⟨cs.toList, by simp, ?_⟩
  have e : (Value.agg cs).cells.toList = cs.toList := by simp [Value.cells]
  rw [e] at hf
  refine hR _ _ _ hf fun x hx => ?_
  have := List.all_eq_true.1 hsz _ (DataW.weights_mem_each ht hd _ hx)
  simpa using this
end
end Go.Proofs.YtnjognmnbpcaaaaGreat
namespace Go.Proofs.YtnjognmnbpcaaaaGreat
open Go.ChangeShapes Go.WideShapes
section
variable {H : Type} {enc : TypeId × Value → H} {w : World} {base : Nat} {spare : Nat → Bool} {held : Bool}
theorem opens_insts : Opens enc Tryz.prog w base spare held 40 (RowsR w 4 32) :=
  opens_ints Tryz.underlying40 (by decide) (by kernel_rfl) (by kernel_rfl) (intsAt_flat Tryz.underlying47 (e := 3) (by kernel_rfl) Tryz.underlying3 (by kernel_rfl) (by kernel_rfl))
theorem one_cell {cs : List Value} {o : Nat} {v : Value} (h : (cs.drop o).take 1 = [v]) : cs[o]? = some v := by
  have : ((cs.drop o).take 1)[0]? = some v := by rw [h]; rfl
  simpa using this
end
end Go.Proofs.YtnjognmnbpcaaaaGreat
namespace Go.Proofs.YtnjognmnbpcaaaaGreat
open Go.ChangeShapes Go.WideShapes
/-- A slice of structs of k ints, as a list. -/
theorem rows_sl {w : World} {k b : Nat} {cs : List Value} (h : RowsR w k b cs) (hb : b = 8 * k) : ∃ (s : Sl) (L : List Int), cs = [s.v] ∧ SlIs w k s L := by
  subst hb
  obtain ⟨a, n, c, z, rfl, hf, hr⟩ := h
  exact ⟨⟨a, n, c⟩, _, rfl, slIs_of hf hr⟩
theorem four_cell {cs : List Value} {o j : Nat} {v : Value} (hj : j < 4) (h : ((((cs.drop o).take 4).drop j).take 1) = [v]) : cs[o + j]? = some v := by
  have h1 := one_cell h
  rw [List.getElem?_take, if_pos hj, List.getElem?_drop] at h1
  exact h1
def FourR (cs : List Value) : Prop := ∀ i, i < 4 → IntR ((cs.drop i).take 1)
def SessR (w : World) (cs : List Value) : Prop := ∃ (q : SesM) (x : PSess), cs = sessOf q x ∧ SessIs w q x
def MachR (w : World) (cs : List Value) : Prop := ∃ (A : MacM) (M : PMach), cs = machL A M ∧ MachIs w A M
section
variable {H : Type} {enc : TypeId × Value → H} {w : World} {base : Nat} {spare : Nat → Bool} {held : Bool}
theorem opens_words : Opens enc Tryz.prog w base spare held 22 (RowsR w 3 24) :=
  opens_ints Tryz.underlying22 (by decide) (by kernel_rfl) (by kernel_rfl) (intsAt_flat Tryz.underlying107 (e := 3) (by kernel_rfl) Tryz.underlying3 (by kernel_rfl) (by kernel_rfl))
theorem opens_reads : Opens enc Tryz.prog w base spare held 41 (RowsR w 3 24) :=
  opens_ints Tryz.underlying41 (by decide) (by kernel_rfl) (by kernel_rfl) (intsAt_flat Tryz.underlying82 (e := 3) (by kernel_rfl) Tryz.underlying3 (by kernel_rfl) (by kernel_rfl))
theorem opens_writes : Opens enc Tryz.prog w base spare held 42 (RowsR w 3 24) :=
  opens_ints Tryz.underlying42 (by decide) (by kernel_rfl) (by kernel_rfl) (intsAt_flat Tryz.underlying85 (e := 3) (by kernel_rfl) Tryz.underlying3 (by kernel_rfl) (by kernel_rfl))
theorem opens_events : Opens enc Tryz.prog w base spare held 26 (RowsR w 4 32) :=
  opens_ints Tryz.underlying26 (by decide) (by kernel_rfl) (by kernel_rfl) (intsAt_flat Tryz.underlying88 (e := 3) (by kernel_rfl) Tryz.underlying3 (by kernel_rfl) (by kernel_rfl))
theorem opens_four : Opens enc Tryz.prog w base spare held 24 FourR :=
  opens_imp (opens_array Tryz.underlying24 (opens_int Tryz.underlying3)) (by
    rintro cs ⟨_, h⟩ i hi
    have := h i hi
    simp only [show Tryz.prog.cellsOf 3 = 1 by kernel_rfl, Nat.mul_one] at this
    exact this)
theorem Tryz.layoutSess : layout Tryz.prog 44 = some [(3, 0), (3, 1), (3, 2), (40, 3), (3, 4), (3, 5), (24, 6), (41, 10), (42, 11), (3, 12), (3, 13), (3, 14), (3, 15), (3, 16)] := by kernel_rfl
set_option maxHeartbeats 1000000 in
theorem opens_sess : Opens enc Tryz.prog w base spare held 44 (SessR w) := by
  refine opens_imp (opens_layout (R := fun i => match i with | 3 => RowsR w 4 32 | 6 => FourR | 7 => RowsR w 3 24 | 8 => RowsR w 3 24 | _ => IntR) Tryz.layoutSess fun i y hy => ?_) ?_
  · match i, hy with
    | 0, hy => cases hy; exact opens_int Tryz.underlying3
    | 1, hy => cases hy; exact opens_int Tryz.underlying3
    | 2, hy => cases hy; exact opens_int Tryz.underlying3
    | 3, hy => cases hy; exact opens_insts
    | 4, hy => cases hy; exact opens_int Tryz.underlying3
    | 5, hy => cases hy; exact opens_int Tryz.underlying3
    | 6, hy => cases hy; exact opens_four
    | 7, hy => cases hy; exact opens_reads
    | 8, hy => cases hy; exact opens_writes
    | 9, hy => cases hy; exact opens_int Tryz.underlying3
    | 10, hy => cases hy; exact opens_int Tryz.underlying3
    | 11, hy => cases hy; exact opens_int Tryz.underlying3
    | 12, hy => cases hy; exact opens_int Tryz.underlying3
    | 13, hy => cases hy; exact opens_int Tryz.underlying3
    | i + 14, hy => cases hy
  · rintro cs ⟨hl, h⟩
    rw [show Tryz.prog.cellsOf 44 = 17 by kernel_rfl] at hl
    obtain ⟨n0, e0, _⟩ := h 0 _ rfl
    obtain ⟨n1, e1, _⟩ := h 1 _ rfl
    obtain ⟨n2, e2, _⟩ := h 2 _ rfl
    obtain ⟨p, lp, e3, hp⟩ := rows_sl (h 3 _ rfl) rfl
    obtain ⟨n3, e4, _⟩ := h 4 _ rfl
    obtain ⟨n4, e5, _⟩ := h 5 _ rfl
    have h6 := h 6 _ rfl
    obtain ⟨r, lr, e7, hr⟩ := rows_sl (h 7 _ rfl) rfl
    obtain ⟨t, lt, e8, ht⟩ := rows_sl (h 8 _ rfl) rfl
    obtain ⟨n9, e9, _⟩ := h 9 _ rfl
    obtain ⟨n10, e10, _⟩ := h 10 _ rfl
    obtain ⟨n11, e11, _⟩ := h 11 _ rfl
    obtain ⟨n12, e12, _⟩ := h 12 _ rfl
    obtain ⟨n13, e13, _⟩ := h 13 _ rfl
    clear h
    simp only [show Tryz.prog.cellsOf 3 = 1 by kernel_rfl, show Tryz.prog.cellsOf 40 = 1 by kernel_rfl, show Tryz.prog.cellsOf 41 = 1 by kernel_rfl, show Tryz.prog.cellsOf 42 = 1 by kernel_rfl, show Tryz.prog.cellsOf 24 = 4 by kernel_rfl] at e0 e1 e2 e3 e4 e5 h6 e7 e8 e9 e10 e11 e12 e13
    obtain ⟨g0, f0, _⟩ := h6 0 (by decide)
    obtain ⟨g1, f1, _⟩ := h6 1 (by decide)
    obtain ⟨g2, f2, _⟩ := h6 2 (by decide)
    obtain ⟨g3, f3, _⟩ := h6 3 (by decide)
    replace e0 := one_cell e0; replace e1 := one_cell e1; replace e2 := one_cell e2; replace e3 := one_cell e3; replace e4 := one_cell e4; replace e5 := one_cell e5; replace e7 := one_cell e7; replace e8 := one_cell e8
    replace e9 := one_cell e9; replace e10 := one_cell e10; replace e11 := one_cell e11; replace e12 := one_cell e12; replace e13 := one_cell e13
    replace f0 := four_cell (by decide) f0; replace f1 := four_cell (by decide) f1; replace f2 := four_cell (by decide) f2; replace f3 := four_cell (by decide) f3
    refine ⟨⟨p, r, t⟩, ⟨[n0, n1, n2, n3, n4, g0, g1, g2, g3, n9, n10, n11, n12, n13], lp, lr, lt⟩, ?_, rfl, hp, hr, ht⟩
    apply List.ext_getElem?
    intro i
    match i with
    | 0 => exact e0
    | 1 => exact e1
    | 2 => exact e2
    | 3 => exact e3
    | 4 => exact e4
    | 5 => exact e5
    | 6 => exact f0
    | 7 => exact f1
    | 8 => exact f2
    | 9 => exact f3
    | 10 => exact e7
    | 11 => exact e8
    | 12 => exact e9
    | 13 => exact e10
    | 14 => exact e11
    | 15 => exact e12
    | 16 => exact e13
    | i + 17 => rw [List.getElem?_eq_none (by omega), List.getElem?_eq_none (by simp [sessOf, sessL])]
/-- A slice of sessions. -/
def SesR (w : World) (cs : List Value) : Prop := ∃ (s : Sl) (q : Nat → SesM) (X : List PSess), cs = [s.v] ∧ SesIs w s q X
theorem opens_sesss : Opens enc Tryz.prog w base spare held 25 (SesR w) := by
  refine opens_imp (opens_slice (k := 17) (by_ := 184) Tryz.underlying25 (by decide) (by kernel_rfl) (by kernel_rfl) opens_sess) ?_
  rintro cs ⟨a, n, c, f, rfl, hf, hr, hx⟩
  have key : ∀ i, ∃ y : SesM × PSess, i < n → (List.range 17).map (fun j => f (i * 17 + j)) = sessOf y.1 y.2 ∧ SessIs w y.1 y.2 := fun i => by
    by_cases hi : i < n
    · obtain ⟨q, x, e, h⟩ := hx i hi
      exact ⟨(q, x), fun _ => ⟨e, h⟩⟩
    · exact ⟨(⟨noSl, noSl, noSl⟩, noSess), fun h => absurd h hi⟩
  obtain ⟨Y, hY⟩ : ∃ Y : Nat → SesM × PSess, ∀ i, i < n → (List.range 17).map (fun j => f (i * 17 + j)) = sessOf (Y i).1 (Y i).2 ∧ SessIs w (Y i).1 (Y i).2 := ⟨fun i => Classical.choose (key i), fun i => Classical.choose_spec (key i)⟩
  have hat : ∀ i, i < n → ((List.range n).map fun i => (Y i).2).getD i noSess = (Y i).2 := fun i hi => by simp [List.getD, hi]
  refine ⟨⟨a, n, c⟩, fun i => (Y i).1, (List.range n).map fun i => (Y i).2, rfl, by simp, hf, hr.congr fun j hj => ?_, fun i hi => by rw [hat i hi]; exact (hY i hi).2⟩
  have hi : j / 17 < n := Nat.div_lt_of_lt_mul (by rw [Nat.mul_comm]; exact hj)
  have hm : j % 17 < 17 := Nat.mod_lt _ (by decide)
  unfold sessCell
  rw [hat _ hi, ← (hY _ hi).1]
  simp [List.getD, hm, show j / 17 * 17 + j % 17 = j by omega]
theorem Tryz.layoutMach : layout Tryz.prog 28 = some [(23, 0), (24, 4), (3, 8), (25, 9), (26, 10)] := by kernel_rfl
def ArnR (w : World) (cs : List Value) : Prop := ∀ i, i < 4 → RowsR w 3 24 ((cs.drop i).take 1)
theorem opens_arena : Opens enc Tryz.prog w base spare held 23 (ArnR w) :=
  opens_imp (opens_array Tryz.underlying23 opens_words) (by
    rintro cs ⟨_, h⟩ i hi
    have := h i hi
    simp only [show Tryz.prog.cellsOf 22 = 1 by kernel_rfl, Nat.mul_one] at this
    exact this)
def fourSl (a b c d : Sl) (g : Nat) : Sl := match g with | 0 => a | 1 => b | 2 => c | _ => d
set_option maxHeartbeats 1000000 in
theorem opens_mach : Opens enc Tryz.prog w base spare held 28 (MachR w) := by
  refine opens_imp (opens_layout (R := fun i => match i with | 0 => ArnR w | 1 => FourR | 2 => IntR | 3 => SesR w | _ => RowsR w 4 32) Tryz.layoutMach fun i y hy => ?_) ?_
  · match i, hy with
    | 0, hy => cases hy; exact opens_arena
    | 1, hy => cases hy; exact opens_four
    | 2, hy => cases hy; exact opens_int Tryz.underlying3
    | 3, hy => cases hy; exact opens_sesss
    | 4, hy => cases hy; exact opens_events
    | i + 5, hy => cases hy
  · rintro cs ⟨hl, h⟩
    rw [show Tryz.prog.cellsOf 28 = 11 by kernel_rfl] at hl
    have h0 := h 0 _ rfl
    have h1 := h 1 _ rfl
    obtain ⟨n8, e8, _⟩ := h 2 _ rfl
    obtain ⟨s, q, X, e9, hs⟩ := h 3 _ rfl
    obtain ⟨t, lt, e10, ht⟩ := rows_sl (h 4 _ rfl) rfl
    clear h
    simp only [show Tryz.prog.cellsOf 3 = 1 by kernel_rfl, show Tryz.prog.cellsOf 23 = 4 by kernel_rfl, show Tryz.prog.cellsOf 25 = 1 by kernel_rfl, show Tryz.prog.cellsOf 26 = 1 by kernel_rfl, show Tryz.prog.cellsOf 24 = 4 by kernel_rfl] at h0 h1 e8 e9 e10
    obtain ⟨w0, l0, e0, k0⟩ := rows_sl (h0 0 (by decide)) rfl
    obtain ⟨w1, l1, e1, k1⟩ := rows_sl (h0 1 (by decide)) rfl
    obtain ⟨w2, l2, e2, k2⟩ := rows_sl (h0 2 (by decide)) rfl
    obtain ⟨w3, l3, e3, k3⟩ := rows_sl (h0 3 (by decide)) rfl
    obtain ⟨c0, f0, _⟩ := h1 0 (by decide)
    obtain ⟨c1, f1, _⟩ := h1 1 (by decide)
    obtain ⟨c2, f2, _⟩ := h1 2 (by decide)
    obtain ⟨c3, f3, _⟩ := h1 3 (by decide)
    replace e0 := four_cell (by decide) e0; replace e1 := four_cell (by decide) e1; replace e2 := four_cell (by decide) e2; replace e3 := four_cell (by decide) e3
    replace f0 := four_cell (by decide) f0; replace f1 := four_cell (by decide) f1; replace f2 := four_cell (by decide) f2; replace f3 := four_cell (by decide) f3
    replace e8 := one_cell e8; replace e9 := one_cell e9; replace e10 := one_cell e10
    refine ⟨⟨fourSl w0 w1 w2 w3, s, q, t⟩, ⟨[l0, l1, l2, l3], [c0, c1, c2, c3], n8, X, lt⟩, ?_, rfl, rfl, fun g hg => ?_, hs, ht⟩
    · apply List.ext_getElem?
      intro i
      match i with
      | 0 => exact e0
      | 1 => exact e1
      | 2 => exact e2
      | 3 => exact e3
      | 4 => exact f0
      | 5 => exact f1
      | 6 => exact f2
      | 7 => exact f3
      | 8 => exact e8
      | 9 => exact e9
      | 10 => exact e10
      | i + 11 => rw [List.getElem?_eq_none (by omega), List.getElem?_eq_none (by simp [machL, macL])]
    · match g, hg with
      | 0, _ => exact k0
      | 1, _ => exact k1
      | 2, _ => exact k2
      | 3, _ => exact k3
end
end Go.Proofs.YtnjognmnbpcaaaaGreat
namespace Go.Proofs.YtnjognmnbpcaaaaGreat
open Go.RowKit
set_option linter.unusedSimpArgs false
set_option linter.unusedVariables false
/-- Those that a list of places names. -/
def selI (L : List Itm) (ix : List Nat) : List Itm := ix.map fun i => L.getD i empI
theorem St.sel {w0 W : World} {L : List Itm} (h : St w0 W L) (ix : List Nat) (hn : ix.Nodup) (hlt : ix.all (fun i => decide (i < L.length)) = true) : St w0 W (selI L ix) := by
  have get : ∀ i x, (selI L ix)[i]? = some x → ∃ j, ix[i]? = some j ∧ L[j]? = some x := fun i x e => by
    unfold selI at e
    rw [List.getElem?_map] at e
    match hj : ix[i]?, e with
    | some j, e =>
      have hm : j < L.length := by simpa using List.all_eq_true.1 hlt j (List.mem_of_getElem? hj)
      refine ⟨j, hj, ?_⟩
      simp only [Option.map_some, Option.some.injEq] at e
      rw [List.getElem?_eq_getElem hm, ← e]
      simp [List.getD, hm]
  refine ⟨h.below, fun i x e => ?_, fun i j x y ex ey hij => ?_⟩
  · obtain ⟨j, _, ej⟩ := get i x e
    exact h.here j x ej
  · obtain ⟨i', e1, h1⟩ := get i x ex
    obtain ⟨j', e2, h2⟩ := get j y ey
    refine h.apart i' j' x y h1 h2 fun e => hij ?_
    subst e
    exact (List.getElem?_inj (List.getElem?_eq_some_iff.1 e1).1 hn).1 (e1.trans e2.symm)
end Go.Proofs.YtnjognmnbpcaaaaGreat
namespace Go.Proofs.YtnjognmnbpcaaaaGreat
open Go.RowKit
set_option linter.unusedSimpArgs false
set_option linter.unusedVariables false
theorem askUpTo_any (n m : Int) (w : World) :
    Calls Tryz.prog 70 #[.int .i64 n, .int .i64 m] w fun e w' => e = .returned (.bool (upToV n m)) ∧ w = w' := by
  unfold upToV
  by_cases h0 : 0 ≤ n
  · by_cases h1 : n ≤ m
    · rw [decide_eq_true (show 0 ≤ n ∧ n ≤ m from ⟨h0, h1⟩)]
      go_enter Tryz.func70, Tryz.ntmps70
      go_wp2
      go_ret
      exact ⟨rfl, rfl⟩
    · rw [decide_eq_false (show ¬ (0 ≤ n ∧ n ≤ m) from fun x => h1 x.2)]
      go_enter Tryz.func70, Tryz.ntmps70
      go_wp2
      go_ret
      exact ⟨rfl, rfl⟩
  · rw [decide_eq_false (show ¬ (0 ≤ n ∧ n ≤ m) from fun x => h0 x.1)]
    go_enter Tryz.func70, Tryz.ntmps70
    go_wp2
    go_ret
    exact ⟨rfl, rfl⟩
/-- Is it so of all reads? The question is a function value, whatever it holds. -/
theorem askAll_any (F : FuncId) (fs cs : Array Value) (p : Nat → Bool) (a : Option Addr) (n c : Nat) (z : Nat → Int) (w : World) (hn : n ≤ 1152921504606846976) (h : Row w a (n * 3) fun i => .int .i64 (z i))
    (hF : ∀ args W, Sem.run Tryz.prog (callFunc F args) W = .ok (.enter F args) W)
    (C : Hid (∀ k, k < n → ∀ W, Below w.heap.size w W → Calls Tryz.prog F (fs.push (.agg #[.int .i64 (z (k * 3)), .int .i64 (z (k * 3 + 1)), .int .i64 (z (k * 3 + 2))]) ++ cs) W fun e w' => e = .returned (.bool (p k)) ∧ Below W.heap.size W w')) :
    Calls Tryz.prog 128 #[.slice a n c, .func (.func F) fs cs] w fun e w' => e = .returned (.bool (allTo p n)) ∧ Below w.heap.size w w' := by
  go_enter Tryz.func128, Tryz.ntmps128
  go_wp2
  go_loopw [9] (fun i wr => ∃ k : Nat, k ≤ n ∧ i = .int .i64 k ∧ Hid (allTo p k = true) ∧ Below w.heap.size w wr) (fun i _ => n - (intOf i).toNat)
  case atStart => exact ⟨0, Nat.zero_le _, rfl, rfl, Below.refl _ _⟩
  case round =>
    obtain ⟨k, hk, rfl, HS, hb⟩ := hrel
    by_cases hlt : k < n
    · have i1 : (k : Int) < (n : Int) := by omega
      obtain ⟨b, off, hsa, hbl, d0, d1, d2⟩ := (h.below hb (Nat.le_refl _)).at3 k hlt
      subst hsa
      have C1 := hide (C.out k hlt)
      clear C h
      have s0 := hb.size
      cases hp : p k
      · rw [hp] at C1
        have HN : Hid (allTo p n = false) := allTo_no k hlt hp
        clear hp
        go_wp2_with fail
        refine (C1.out _ ?_).mono ?_
        · go_grown
        rintro e w1 ⟨rfl, hb1⟩
        have b1 : Below w.heap.size w w1 := Below.on (by go_grown) hb1
        clear hb1 d0 d1 d2 C1 hF
        go_wp2
        go_ret
        exact ⟨ret_bool HN.out.symm, b1⟩
      · rw [hp] at C1
        have HN : Hid (allTo p (k + 1) = true) := by
          show allTo p (k + 1) = true
          rw [allTo, HS.out, hp]
          rfl
        clear hp
        go_wp2_with fail
        refine (C1.out _ ?_).mono ?_
        · go_grown
        rintro e w1 ⟨rfl, hb1⟩
        have b1 : Below w.heap.size w w1 := Below.on (by go_grown) hb1
        clear hb1 d0 d1 d2 C1 hF hb s0
        go_wp2
        go_roundw
        case rel => exact ⟨k + 1, by omega, by go_num, HN, b1⟩
        case measure => simp [intOf]; omega
    · obtain rfl : k = n := by omega
      go_wp2
      go_ret
      exact ⟨ret_bool HS.out.symm, hb⟩
/-- Is it so of all writes? The question is a function value, whatever it holds. -/
theorem askAllW_any (F : FuncId) (fs cs : Array Value) (p : Nat → Bool) (a : Option Addr) (n c : Nat) (z : Nat → Int) (w : World) (hn : n ≤ 1152921504606846976) (h : Row w a (n * 3) fun i => .int .i64 (z i))
    (hF : ∀ args W, Sem.run Tryz.prog (callFunc F args) W = .ok (.enter F args) W)
    (C : Hid (∀ k, k < n → ∀ W, Below w.heap.size w W → Calls Tryz.prog F (fs.push (.agg #[.int .i64 (z (k * 3)), .int .i64 (z (k * 3 + 1)), .int .i64 (z (k * 3 + 2))]) ++ cs) W fun e w' => e = .returned (.bool (p k)) ∧ Below W.heap.size W w')) :
    Calls Tryz.prog 131 #[.slice a n c, .func (.func F) fs cs] w fun e w' => e = .returned (.bool (allTo p n)) ∧ Below w.heap.size w w' := by
  go_enter Tryz.func131, Tryz.ntmps131
  go_wp2
  go_loopw [9] (fun i wr => ∃ k : Nat, k ≤ n ∧ i = .int .i64 k ∧ Hid (allTo p k = true) ∧ Below w.heap.size w wr) (fun i _ => n - (intOf i).toNat)
  case atStart => exact ⟨0, Nat.zero_le _, rfl, rfl, Below.refl _ _⟩
  case round =>
    obtain ⟨k, hk, rfl, HS, hb⟩ := hrel
    by_cases hlt : k < n
    · have i1 : (k : Int) < (n : Int) := by omega
      obtain ⟨b, off, hsa, hbl, d0, d1, d2⟩ := (h.below hb (Nat.le_refl _)).at3 k hlt
      subst hsa
      have C1 := hide (C.out k hlt)
      clear C h
      have s0 := hb.size
      cases hp : p k
      · rw [hp] at C1
        have HN : Hid (allTo p n = false) := allTo_no k hlt hp
        clear hp
        go_wp2_with fail
        refine (C1.out _ ?_).mono ?_
        · go_grown
        rintro e w1 ⟨rfl, hb1⟩
        have b1 : Below w.heap.size w w1 := Below.on (by go_grown) hb1
        clear hb1 d0 d1 d2 C1 hF
        go_wp2
        go_ret
        exact ⟨ret_bool HN.out.symm, b1⟩
      · rw [hp] at C1
        have HN : Hid (allTo p (k + 1) = true) := by
          show allTo p (k + 1) = true
          rw [allTo, HS.out, hp]
          rfl
        clear hp
        go_wp2_with fail
        refine (C1.out _ ?_).mono ?_
        · go_grown
        rintro e w1 ⟨rfl, hb1⟩
        have b1 : Below w.heap.size w w1 := Below.on (by go_grown) hb1
        clear hb1 d0 d1 d2 C1 hF hb s0
        go_wp2
        go_roundw
        case rel => exact ⟨k + 1, by omega, by go_num, HN, b1⟩
        case measure => simp [intOf]; omega
    · obtain rfl : k = n := by omega
      go_wp2
      go_ret
      exact ⟨ret_bool HS.out.symm, hb⟩
end Go.Proofs.YtnjognmnbpcaaaaGreat
namespace Go.Proofs.YtnjognmnbpcaaaaGreat
open Go.RowKit
set_option linter.unusedSimpArgs false
def SetC : Prop := ∀ (c : Nat → Int) (a b : Int) (w : World), Calls Tryz.prog 21 #[quadA c, .int .i64 a, .int .i64 b] w fun e w' => e = .returned (.tuple #[quadA (setC c a b), .int .i64 (setE c a b)]) ∧ Below w.heap.size w w'
def AddC : Prop := ∀ (c : Nat → Int) (a b : Int) (w : World), Calls Tryz.prog 22 #[quadA c, .int .i64 a, .int .i64 b] w fun e w' => e = .returned (.tuple #[quadA (addC c a b), .int .i64 (addE c a b)]) ∧ Below w.heap.size w w'
end Go.Proofs.YtnjognmnbpcaaaaGreat
namespace Go.Proofs.YtnjognmnbpcaaaaGreat
open Go.RowKit
set_option linter.unusedSimpArgs false
set_option linter.unusedVariables false
def PSess.li (x : PSess) (j : Nat) : List Int := match j with | 0 => x.prog | 1 => x.reads | _ => x.writes
/-- The lists that are its own: those whose number is below N, but for the trace (5). -/
structure HalfOwn (D : Nat → Prop) (W : World) (A : MacM) (M : PMach) (N : Nat) : Prop where
  words : ∀ g, g < 4 → SlIs W 3 (A.w g) (M.lv g)
  len : M.sess.length = A.s.n
  fit : A.s.n * 184 ≤ 140737488351232 ∧ A.s.n ≤ A.s.c ∧ (A.s.a = none → A.s.n = 0 ∧ A.s.c = 0)
  row : Row W A.s.a (A.s.n * 17) (sessCell A.q M.sess)
  is : ∀ i j, j < 3 → 6 + 3 * i + j < N → SlIs W (szL j) ((A.q i).sl j) ((M.at i).li j)
  own : ∀ m, m < N → m ≠ 5 → SlOwn D W (A.sl m)
  apart : ∀ m m', m < m' → m' < N → m ≠ 5 → m' ≠ 5 → 0 < (A.sl m).n → 0 < (A.sl m').n → (A.sl m).a ≠ (A.sl m').a
def halfI (D : Nat → Prop) (A : MacM) (M : PMach) (N : Nat) : Itm := ⟨D, fun W => 6 ≤ N ∧ HalfOwn D W A M N⟩
theorem HalfOwn.keep {D : Nat → Prop} {W W' : World} {A : MacM} {M : PMach} {N : Nat} (h : HalfOwn D W A M N) (hN : 6 ≤ N) (hs : W.heap.size ≤ W'.heap.size) (hk : ∀ b, D b → W'.heap[b]? = W.heap[b]?) : HalfOwn D W' A M N := by
  have kp : ∀ m, m < N → m ≠ 5 → 0 < (A.sl m).n → ∀ b o, (A.sl m).a = some ⟨b, o, none⟩ → W'.heap[b]? = W.heap[b]? := fun m hm h5 h0 b o e => by
    obtain ⟨b2, e2, hD, _⟩ := h.own m hm h5 h0
    rw [e2] at e; cases e
    exact hk _ hD
  refine ⟨fun g hg => ?_, h.len, h.fit, ?_, fun i j hj hm => ?_, fun m hm h5 => (h.own m hm h5).keep hk, h.apart⟩
  · exact (h.words g hg).keep hs fun h0 b o e => kp g (by omega) (by omega) (by rw [A.sl_w hg]; exact h0) b o (by rw [A.sl_w hg]; exact e)
  · exact h.row.keep hs fun h0 b o e => kp 4 (by omega) (by omega) (by rw [A.sl_s]; exact Nat.pos_of_mul_pos_right h0) b o (by rw [A.sl_s]; exact e)
  · exact (h.is i j hj hm).keep hs fun h0 b o e => kp _ hm (by omega) (by rw [A.sl_q i hj]; exact h0) b o (by rw [A.sl_q i hj]; exact e)
theorem halfI_loc (D : Nat → Prop) (A : MacM) (M : PMach) (N : Nat) : (halfI D A M N).Loc := fun W W' h hs hk => ⟨h.1, HalfOwn.keep h.2 h.1 hs hk⟩
section
variable {D D2 : Nat → Prop} {W : World} {A : MacM} {M : PMach}
theorem sl_turn {i j : Nat} (hj : j < 3) (s : Sl) (m : Nat) : (A.setQ i ((A.q i).setL j s)).sl m = if m = 6 + 3 * i + j then s else A.sl m := by
  rw [MacM.sl_setQ]
  by_cases c : 6 ≤ m ∧ (m - 6) / 3 = i
  · rw [if_pos c, SesM.sl_setL _ hj (Nat.mod_lt _ (by decide))]
    by_cases e : (m - 6) % 3 = j
    · rw [if_pos e, if_pos (by omega)]
    · rw [if_neg e, if_neg (by omega)]
      have := A.sl_q i (j := (m - 6) % 3) (Nat.mod_lt _ (by decide))
      rw [show 6 + 3 * i + (m - 6) % 3 = m by omega] at this
      exact this.symm
  · rw [if_neg c, if_neg (by omega)]
theorem sessOf_turn (q : SesM) (x : PSess) {j : Nat} (hj : j < 3) (s : Sl) : sessOf (q.setL j s) x = (sessOf q x).set (posL j) (.slice s.a s.n s.c) := by
  have : j = 0 ∨ j = 1 ∨ j = 2 := by omega
  rcases this with rfl | rfl | rfl <;> rfl
theorem HalfOwn.turn {i j b : Nat} (h : HalfOwn D W A M (6 + 3 * i + j)) (hi : i < A.s.n) (hj : j < 3) (hb : A.s.a = some ⟨b, 0, none⟩) {s : Sl} (hs : SlIs W (szL j) s ((M.at i).li j)) (ho : SlOwn D2 W s) (hD : ∀ k, D k → D2 k → False) :
    HalfOwn (fun k => D k ∨ D2 k) (W.setCell ⟨b, i * 17 + posL j, none⟩ (.slice s.a s.n s.c)) (A.setQ i ((A.q i).setL j s)) M (6 + 3 * i + j + 1) := by
  have hp : posL j < 17 := by unfold posL; split <;> omega
  have h4 : 0 < (A.sl 4).n := by rw [A.sl_s]; omega
  obtain ⟨b', e', hDb, l, hl⟩ := h.own 4 (by omega) (by omega) h4
  rw [A.sl_s, hb] at e'
  cases e'
  have T : Touch b (b + 1) W (W.setCell ⟨b, i * 17 + posL j, none⟩ (.slice s.a s.n s.c)) := (Touch.refl b (b + 1) W).setCell (a := ⟨b, i * 17 + posL j, none⟩) (Nat.le_refl b) (Nat.lt_succ_self b) _
  have blk : ∀ m, m < 6 + 3 * i + j → m ≠ 5 → m ≠ 4 → 0 < (A.sl m).n → ∀ b2 o, (A.sl m).a = some ⟨b2, o, none⟩ → (W.setCell ⟨b, i * 17 + posL j, none⟩ (.slice s.a s.n s.c)).heap[b2]? = W.heap[b2]? := fun m hm h5 hm4 h0 b2 o e => by
    obtain ⟨b3, e3, hD3, l3, hl3⟩ := h.own m hm h5 h0
    rw [e3] at e; cases e
    have hne : b2 ≠ b := fun hh => by
      subst hh
      rcases Nat.lt_or_gt_of_ne hm4 with h' | h'
      · exact h.apart m 4 h' (by omega) h5 (by omega) h0 h4 (by rw [e3, A.sl_s, hb])
      · exact h.apart 4 m h' hm (by omega) h5 h4 h0 (by rw [e3, A.sl_s, hb])
    exact T.block _ (by omega) hl3.lt
  have new : ∀ b2 o, 0 < s.n → s.a = some ⟨b2, o, none⟩ → D2 b2 ∧ (W.setCell ⟨b, i * 17 + posL j, none⟩ (.slice s.a s.n s.c)).heap[b2]? = W.heap[b2]? := fun b2 o h0 e => by
    obtain ⟨b3, e3, hD3, l3, hl3⟩ := ho h0
    rw [e3] at e; cases e
    have hne : b2 ≠ b := fun hh => hD b hDb (hh ▸ hD3)
    exact ⟨hD3, T.block _ (by omega) hl3.lt⟩
  refine ⟨fun g hg => ?_, h.len, h.fit, fun c hc => ?_, fun i' j' hj' hm => ?_, fun m hm h5 => ?_, fun m m' hmm hm' h5 h5' h0 h0' => ?_⟩
  · exact (h.words g hg).keep T.size fun h0 b2 o e => blk g (by omega) (by omega) (by omega) (by rw [A.sl_w hg]; exact h0) b2 o (by rw [A.sl_w hg]; exact e)
  · have hc : c < A.s.n * 17 := hc
    obtain ⟨b2, off, e2, hlt, hcc⟩ := h.row c hc
    rw [hb] at e2; cases e2
    rw [Nat.zero_add] at hcc
    refine ⟨b, 0, hb, Nat.lt_of_lt_of_le hlt T.size, ?_⟩
    rw [Nat.zero_add]
    by_cases e : c = i * 17 + posL j
    · subst e
      rw [World.cell?_setCell_same _ _ _ hcc]
      unfold sessCell
      rw [show (i * 17 + posL j) / 17 = i by omega, show (i * 17 + posL j) % 17 = posL j by omega]
      show some _ = some ((sessOf ((A.setQ i ((A.q i).setL j s)).q i) (M.at i)).getD (posL j) undef)
      rw [show (A.setQ i ((A.q i).setL j s)).q i = (A.q i).setL j s by unfold MacM.setQ updM; simp, sessOf_turn _ _ hj]
      have : posL j < (sessOf (A.q i) (M.at i)).length := by rw [sessOf_len]; exact hp
      simp [List.getD, this]
    · rw [World.cell?_setCell_other _ _ _ _ (fun he => by simp only [Addr.mk.injEq] at he; omega), hcc]
      unfold sessCell
      by_cases e2 : c / 17 = i
      · rw [e2]
        show some ((sessOf (A.q i) (M.at i)).getD (c % 17) undef) = some ((sessOf ((A.setQ i ((A.q i).setL j s)).q i) (M.at i)).getD (c % 17) undef)
        rw [show (A.setQ i ((A.q i).setL j s)).q i = (A.q i).setL j s by unfold MacM.setQ updM; simp, sessOf_turn _ _ hj]
        have : ¬ posL j = c % 17 := by omega
        simp [List.getD, List.getElem?_set, this]
      · rw [show (A.setQ i ((A.q i).setL j s)).q (c / 17) = A.q (c / 17) by unfold MacM.setQ updM; simp [e2]]
  · have hq : ((A.setQ i ((A.q i).setL j s)).q i').sl j' = if 6 + 3 * i' + j' = 6 + 3 * i + j then s else (A.q i').sl j' := by
      rw [← MacM.sl_q _ i' hj', sl_turn hj, A.sl_q i' hj']
    rw [hq]
    by_cases e : 6 + 3 * i' + j' = 6 + 3 * i + j
    · rw [if_pos e]
      obtain rfl : i' = i := by omega
      obtain rfl : j' = j := by omega
      exact hs.keep T.size fun h0 b2 o e => (new b2 o h0 e).2
    · rw [if_neg e]
      exact (h.is i' j' hj' (by omega)).keep T.size fun h0 b2 o e2 => blk (6 + 3 * i' + j') (by omega) (by omega) (by omega) (by rw [A.sl_q i' hj']; exact h0) b2 o (by rw [A.sl_q i' hj']; exact e2)
  · rw [sl_turn hj]
    by_cases e : m = 6 + 3 * i + j
    · rw [if_pos e]
      intro h0
      obtain ⟨b3, e3, hD3, l3, hl3⟩ := ho h0
      exact ⟨b3, e3, .inr hD3, l3, hl3.touch T (by
        have : b3 ≠ b := fun x => hD b hDb (x ▸ hD3)
        omega)⟩
    · rw [if_neg e]
      intro h0
      obtain ⟨b3, e3, hD3, l3, hl3⟩ := h.own m (by omega) h5 h0
      by_cases hbb : b3 = b
      · subst hbb
        exact ⟨b3, e3, .inl hD3, _, hl3.set (i * 17 + posL j) _⟩
      · exact ⟨b3, e3, .inl hD3, l3, hl3.touch T (by omega)⟩
  · rw [sl_turn hj] at h0 h0' ⊢
    rw [sl_turn hj]
    rw [if_neg (by omega)] at h0 ⊢
    by_cases e : m' = 6 + 3 * i + j
    · rw [if_pos e] at h0' ⊢
      intro hh
      obtain ⟨b3, e3, hD3, _⟩ := h.own m (by omega) h5 h0
      obtain ⟨b4, e4, hD4, _⟩ := ho h0'
      rw [e3, e4] at hh
      cases hh
      exact hD _ hD3 hD4
    · rw [if_neg e] at h0' ⊢
      exact h.apart m m' hmm (by omega) h5 h5' h0 h0'
/-- All its sessions' lists, and a trace of its own: a machine. -/
theorem HalfOwn.whole (h : HalfOwn D W A M (6 + 3 * A.s.n)) (h4 : M.words.length = 4) (hc : M.clocks.length = 4) (hn : ∀ i, i < A.s.n → (M.at i).num.length = 14) {s : Sl} (ht : ListOwn D2 88 4 W s M.trace) (hD : ∀ k, D k → D2 k → False) :
    MachOwn (fun k => D k ∨ D2 k) W { A with e := s } M := by
  have sl5 : ({ A with e := s } : MacM).sl 5 = s := rfl
  have slo : ∀ m, m ≠ 5 → ({ A with e := s } : MacM).sl m = A.sl m := fun m hm => by
    unfold MacM.sl
    simp only
    by_cases c : m < 4
    · rw [if_pos c, if_pos c]
    · rw [if_neg c, if_neg c]
      by_cases c4 : m = 4
      · rw [if_pos c4, if_pos c4]
      · rw [if_neg c4, if_neg c4, if_neg hm, if_neg hm]
  obtain ⟨v, hv, hrow, hg⟩ := ht.row
  refine ⟨⟨h4, hc, h.words, ⟨h.len, h.fit, h.row, fun i hi => ⟨hn i hi, ?_, ?_, ?_⟩⟩, ht.is⟩, fun m hm => ?_, fun m m' hmm hm' h0 h0' => ?_, v, hv, hrow, fun g hgg => ⟨.inr (hg g hgg), fun m hm h5 h0 => ?_⟩⟩
  · have hi : i < A.s.n := hi
    exact h.is i 0 (by decide) (by omega)
  · have hi : i < A.s.n := hi
    exact h.is i 1 (by decide) (by omega)
  · have hi : i < A.s.n := hi
    exact h.is i 2 (by decide) (by omega)
  · have hm : m < 6 + 3 * A.s.n := hm
    by_cases e : m = 5
    · subst e
      rw [sl5]
      exact ht.own.mono fun k hk => .inr hk
    · rw [slo m e]
      exact (h.own m hm e).mono fun k hk => .inl hk
  · have hm' : m' < 6 + 3 * A.s.n := hm'
    by_cases e : m = 5
    · subst e
      rw [sl5] at h0 ⊢
      rw [slo m' (by omega)] at h0' ⊢
      intro hh
      obtain ⟨b3, e3, hD3, _⟩ := ht.own h0
      obtain ⟨b4, e4, hD4, _⟩ := h.own m' hm' (by omega) h0'
      rw [e3, e4] at hh; cases hh
      exact hD _ hD4 hD3
    · rw [slo m e] at h0 ⊢
      by_cases e' : m' = 5
      · subst e'
        rw [sl5] at h0' ⊢
        intro hh
        obtain ⟨b3, e3, hD3, _⟩ := ht.own h0'
        obtain ⟨b4, e4, hD4, _⟩ := h.own m (by omega) e h0
        rw [e3, e4] at hh; cases hh
        exact hD _ hD4 hD3
      · rw [slo m' e'] at h0' ⊢
        exact h.apart m m' hmm hm' e e' h0 h0'
  · have hm : m < 6 + 3 * A.s.n := hm
    rw [slo m h5] at h0 ⊢
    intro hh
    obtain ⟨b4, e4, hD4, _⟩ := h.own m hm h5 h0
    rw [e4] at hh; cases hh
    exact hD _ hD4 (hg g hgg)
end
end Go.Proofs.YtnjognmnbpcaaaaGreat
