/-
  Rows that a call made, in blocks of their own: 'Own w b m f': block b's first m cells hold f 0, f 1, .., and may be written. What an append leaves; a new row out of an old one. Nothing of a program here.
-/
import Derived.Test.YtmjclmjnkmhciaaRow
import Derived.Test.YtmjclmjnkmhciaaMem
import Derived.Laws.AppendOwn
namespace Go.Proofs.Ytmjclmjnkmhciaa
open Go.RowKit

/-- The first m of a function's values. -/
def rowL (f : Nat → Value) (m : Nat) : List Value := (List.range m).map f
theorem rowL_len (f : Nat → Value) (m : Nat) : (rowL f m).length = m := by simp [rowL]
theorem rowL_get {f : Nat → Value} {m i : Nat} (h : i < m) : (rowL f m)[i]? = some (f i) := by simp [rowL, h]
theorem rowL_none {f : Nat → Value} {m i : Nat} (h : m ≤ i) : (rowL f m)[i]? = none := List.getElem?_eq_none (by rw [rowL_len]; exact h)
theorem rowL_one {f : Nat → Value} {m : Nat} (h : ∀ i, i < m → (f i).oneCell' = true) : ∀ u ∈ rowL f m, u.oneCell' = true := by
  intro u hu
  simp only [rowL, List.mem_map, List.mem_range] at hu
  obtain ⟨i, hi, rfl⟩ := hu
  exact h i hi
theorem rowL_add (f : Nat → Value) (m k : Nat) : rowL f (m + k) = rowL f m ++ rowL (fun i => f (m + i)) k := by
  apply List.ext_getElem?
  intro i
  by_cases h : i < m
  · rw [rowL_get (by omega), List.getElem?_append_left (by rw [rowL_len]; exact h), rowL_get h]
  · rw [List.getElem?_append_right (by rw [rowL_len]; omega), rowL_len]
    by_cases h2 : i < m + k
    · rw [rowL_get h2, rowL_get (by omega), show m + (i - m) = i by omega]
    · rw [rowL_none (by omega), rowL_none (by omega)]
theorem rowL_congr {f g : Nat → Value} {m : Nat} (h : ∀ i, i < m → f i = g i) : rowL f m = rowL g m := by
  apply List.ext_getElem?
  intro i
  by_cases hi : i < m
  · rw [rowL_get hi, rowL_get hi, h i hi]
  · rw [rowL_none (by omega), rowL_none (by omega)]

/-- A row's cells, as the law of append asks for them. -/
theorem Row.news {w : World} {ad : Addr} {n : Nat} {f : Nat → Value} (h : Row w (some ad) n f) : ∀ j u, (rowL f n)[j]? = some u → w.cell? (ad.add j) = some u := by
  intro j u hu
  have hj : j < n := by
    have := (List.getElem?_eq_some_iff.1 hu).1
    rwa [rowL_len] at this
  rw [rowL_get hj] at hu
  obtain ⟨b, off, e, _, hc⟩ := h j hj
  obtain rfl := Option.some.inj e
  obtain rfl := Option.some.inj hu
  have hadd : (⟨b, off, none⟩ : Addr).add j = ⟨b, off + j, none⟩ := by unfold Addr.add; split <;> simp_all
  rw [hadd]
  exact hc

/-- Block b's first m cells. -/
def Own (w : World) (b m : Nat) (f : Nat → Value) : Prop := ∃ l, Blk w b l ∧ ∀ i, i < m → l[i]? = some (f i)

section
variable {w w' : World} {b m : Nat} {f g : Nat → Value}
theorem Own.lt (h : Own w b m f) : b < w.heap.size := h.choose_spec.1.lt
theorem Own.row (h : Own w b m f) : Row w (some ⟨b, 0, none⟩) m f := by
  obtain ⟨l, hl, hf⟩ := h
  exact fun i hi => ⟨b, 0, rfl, hl.lt, by rw [Nat.zero_add]; exact hl.cell i _ (hf i hi)⟩
theorem Own.alloc (h : Own w b m f) (o : Obj) : Own (w.alloc o) b m f := by
  obtain ⟨l, hl, hf⟩ := h
  exact ⟨l, hl.alloc o, hf⟩
theorem Own.below {B : Nat} (h : Own w b m f) (hb : Below B w w') (hB : b < B) : Own w' b m f := by
  obtain ⟨l, hl, hf⟩ := h
  exact ⟨l, hl.below hb hB, hf⟩
theorem Own.on (h : Own w b m f) (hb : Below w.heap.size w w') : Own w' b m f := h.below hb h.lt
theorem Own.far (h : Own w b m f) {a : Addr} (v : Value) (hb : b ≠ a.block) : Own (w.setCell a v) b m f := by
  obtain ⟨l, hl, hf⟩ := h
  exact ⟨l, hl.far v hb, hf⟩
theorem Own.drawn (h : Own w b m f) (n : Nat) : Own (w.drewN n) b m f := h
theorem Own.drew (h : Own w b m f) : Own w.drew b m f := h
theorem Own.cell (h : Own w b m f) {i : Nat} (hi : i < m) : w.cell? ⟨b, i, none⟩ = some (f i) := by
  obtain ⟨l, hl, hf⟩ := h
  exact hl.cell i _ (hf i hi)
theorem Own.frozen (h : Own w b m f) (i : Nat) : w.frozen? ⟨b, i, none⟩ = false := by
  obtain ⟨l, hl, _⟩ := h
  exact hl.frozen i
theorem Own.congr (h : Own w b m f) (hfg : ∀ i, i < m → f i = g i) : Own w b m g := by
  obtain ⟨l, hl, hf⟩ := h
  exact ⟨l, hl, fun i hi => by rw [hf i hi, hfg i hi]⟩
theorem Own.less (h : Own w b m f) {k : Nat} (hk : k ≤ m) : Own w b k f := by
  obtain ⟨l, hl, hf⟩ := h
  exact ⟨l, hl, fun i hi => hf i (by omega)⟩
theorem Own.set (h : Own w b m f) (i : Nat) (v : Value) : Own (w.setCell ⟨b, i, none⟩ v) b m (fun j => if j = i then v else f j) := by
  obtain ⟨l, hl, hf⟩ := h
  refine ⟨l.set i v, hl.set i v, fun j hj => ?_⟩
  rw [List.getElem?_set]
  have hlen : j < l.length := (List.getElem?_eq_some_iff.1 (hf j hj)).1
  by_cases e : i = j
  · subst e; simp [hlen]
  · simp only [if_neg e, if_neg (Ne.symm e)]
    exact hf j hj
end

theorem own_of_blk {w : World} {b : Nat} {l : List Value} (h : Blk w b l) (f : Nat → Value) (hf : ∀ i, i < l.length → l[i]? = some (f i)) : Own w b l.length f := ⟨l, h, hf⟩

/-- What a law of append leaves: nothing, or a block of the call's own. -/
theorem own_of_owns {w : World} {base : Nat} {e : TypeId} {k n : Nat} {v : Value} {f : Nat → Value} (h : w.ownsRow base e k v n (rowL f (n * k))) :
    (v = .slice none 0 0 ∧ n = 0) ∨ ∃ g cap, v = .slice (some ⟨g, 0, none⟩) n cap ∧ base ≤ g ∧ n ≤ cap ∧ cap ≤ maxLen ∧ Own w g (n * k) f := by
  rcases h.2 with h2 | ⟨g, cap, cur, hv, hg, hh, hn, hm, _, ht⟩
  · exact .inl h2
  · refine .inr ⟨g, cap, hv, hg, hn, hm, cur.toList, ⟨e, by simpa using hh⟩, fun i hi => ?_⟩
    have h3 : (cur.toList.take (n * k))[i]? = some (f i) := by rw [ht]; exact rowL_get hi
    rw [List.getElem?_take, if_pos hi] at h3
    exact h3
/-- An own row, as the law of append asks for it. -/
theorem owns_of_own {w : World} {e : TypeId} {k n cap g base : Nat} {cur : Array Value} {f : Nat → Value} (hh : w.heap[g]? = some (.cells cur e (0, 0))) (hg : base ≤ g) (hn : n ≤ cap) (hm : cap ≤ maxLen) (hs : cur.size = cap * k) (hf : ∀ i, i < n * k → cur[i]? = some (f i)) :
    w.ownsRow base e k (.slice (some ⟨g, 0, none⟩) n cap) n (rowL f (n * k)) := by
  refine ⟨rowL_len _ _, .inr ⟨g, cap, cur, rfl, hg, hh, hn, hm, hs, ?_⟩⟩
  apply List.ext_getElem?
  intro i
  rw [List.getElem?_take]
  by_cases h : i < n * k
  · rw [if_pos h, rowL_get h]; simpa using hf i h
  · rw [if_neg h, rowL_none (by omega)]

/-- The cells of a row of numbers. -/
def intF (z : Nat → Int) (i : Nat) : Value := .int .i64 (z i)

/-- The row with another number in a place. -/
def updZ (z : Nat → Int) (m : Nat) (x : Int) (i : Nat) : Int := if i = m then x else z i
theorem Own.setInt {w : World} {b m : Nat} {z : Nat → Int} (h : Own w b m (intF z)) (i : Nat) (x : Int) : Own (w.setCell ⟨b, i, none⟩ (.int .i64 x)) b m (intF (updZ z i x)) :=
  (h.set i (.int .i64 x)).congr fun j _ => by unfold intF updZ; split <;> rfl

end Go.Proofs.Ytmjclmjnkmhciaa
