/-
  Several small texts in one: RegionOf, Row, Mem, Own, Touch, Kin, LoadAll, StoreAll, Stay, Sep, Turnwise, Fork, Tree, WordPure, Quad, InstPure, ProgPure, Plain, LabelCalls, LabelAnys, LabelUp, SessPure, Lz, Sl, MachPure, AppendRow.
-/
import Derived.Test.YtaaenolbfhhnfaaGreatRows
import Derived.WalkKit
import Derived.WalkSmall
import Derived.WideShapes
import Derived.Below
import Derived.Handy
import Derived.Deep.Draws
import Derived.Laws.AppendOwn
import Derived.Deep.QuietTactic
import Derived.BigQuiet
import Derived.Deep.MidRow
import Derived.BigFrame
import Derived.Deep.RegionHeld3
import Derived.WalkSpells
import Derived.Laws.AppendOwnNone
import Derived.OwnWalk
namespace Go.Proofs.YtaaenolbfhhnfaaGreat
/-- The region of that number. -/
def regionOf (n : Nat) : Code → Option Code
  | .region id ops d => if id == n then some (.region id ops d) else none
  | .seq a b => match regionOf n a with
    | some c => some c
    | none => regionOf n b
  | .block _ c => regionOf n c
  | .scope c => regionOf n c
  | .loop c => regionOf n c
  | .cond _ a b => match regionOf n a with
    | some c => some c
    | none => regionOf n b
  | _ => none
end Go.Proofs.YtaaenolbfhhnfaaGreat
namespace Go.Proofs.YtaaenolbfhhnfaaGreat
open Go.RowKit
theorem hide {p : Prop} (h : p) : Hid p := h
theorem unhide {p : Prop} (h : Hid p) : p := h
theorem ret_bool {a b : Bool} (h : a = b) : Ending.returned (.bool a) = .returned (.bool b) := by rw [h]
theorem ret_int {k : IntKind} {a b : Int} (h : a = b) : Ending.returned (.int k a) = .returned (.int k b) := by rw [h]
theorem ret_bool_int {k : IntKind} {a b : Bool} {c d : Int} (h : a = b) (h' : c = d) : Ending.returned (.tuple #[.bool a, .int k c]) = .returned (.tuple #[.bool b, .int k d]) := by rw [h, h']
theorem ret_int_bool {k : IntKind} {a b : Int} {c d : Bool} (h : a = b) (h' : c = d) : Ending.returned (.tuple #[.int k a, .bool c]) = .returned (.tuple #[.int k b, .bool d]) := by rw [h, h']
/-- A contract of a call that turns nothing, the other way round. -/
theorem flip {P : Program} {f : FuncId} {args : Array Value} {w : World} {v : Value} (h : Calls P f args w fun e w' => e = .returned v ∧ w = w') : Calls P f args w fun e w' => e = .returned v ∧ w' = w :=
  h.mono fun _ _ ⟨he, hm⟩ => ⟨he, hm.symm⟩
theorem drewN_on {w wr : World} (h : ∃ q, wr = w.drewN q) (k : Nat) : ∃ q, wr.drewN k = w.drewN q := by
  obtain ⟨q, rfl⟩ := h
  exact ⟨q + k, World.drewN_drewN ..⟩
/-- The first n cells from the address on hold f 0, f 1, ..; they lie in a block that is there. Of no cell nothing is said of the address. -/
def Row (w : World) (a : Option Addr) (n : Nat) (f : Nat → Value) : Prop :=
  ∀ i, i < n → ∃ b off, a = some ⟨b, off, none⟩ ∧ b < w.heap.size ∧ w.cell? ⟨b, off + i, none⟩ = some (f i)
theorem row_zero (w : World) (a : Option Addr) (f : Nat → Value) : Row w a 0 f := fun _ h => absurd h (Nat.not_lt_zero _)
theorem Row.below {w w' : World} {B : Nat} {a : Option Addr} {n : Nat} {f : Nat → Value} (h : Row w a n f) (hb : Below B w w') (hB : w.heap.size ≤ B) : Row w' a n f := by
  intro i hi
  obtain ⟨b, off, rfl, hlt, hc⟩ := h i hi
  exact ⟨b, off, rfl, Nat.lt_of_lt_of_le hlt hb.size, (hb.cell (p := ⟨b, off + i, .none⟩) (by exact Nat.lt_of_lt_of_le hlt hB)).trans hc⟩
theorem Row.drewN {w : World} {a : Option Addr} {n : Nat} {f : Nat → Value} (h : Row w a n f) (k : Nat) : Row (w.drewN k) a n f := h
theorem Row.congr {w : World} {a : Option Addr} {n : Nat} {f g : Nat → Value} (h : Row w a n f) (hfg : ∀ i, i < n → f i = g i) : Row w a n g := by
  intro i hi
  obtain ⟨b, off, e, hlt, hc⟩ := h i hi
  exact ⟨b, off, e, hlt, by rw [← hfg i hi]; exact hc⟩
theorem Row.less {w : World} {a : Option Addr} {n m : Nat} {f : Nat → Value} (h : Row w a n f) (hm : m ≤ n) : Row w a m f := fun i hi => h i (Nat.lt_of_lt_of_le hi hm)
/-- What came in, opened. -/
theorem row_cells {w : World} {x : Addr} {n : Nat} {f : Nat → Value} (h : ∀ i, i < n → w.cell? (x.add i) = some (f i)) : Row w (some x) n f := by
  by_cases hn : n = 0
  · subst hn; exact row_zero _ _ _
  · obtain ⟨b, off, spot⟩ := x
    have hspot : spot = .none := by simpa [Addr.add] using World.cell?_spot (h 0 (by omega))
    subst hspot
    intro i hi
    have hc := h i hi
    rw [Go.WideShapes.add_plain] at hc
    exact ⟨b, off, rfl, World.block_lt_of_cell? w _ hc, hc⟩
/-- The block that an append onto what a call owns may write is one of the call's own. -/
theorem owns_block {w : World} {base : Nat} {e : TypeId} {size : Nat} {v : Value} {n : Nat} {xs : List Value} (h : w.ownsRow base e size v n xs) : ∀ k, v.ownBlock = some k → base ≤ k := by
  intro k hk
  rcases h.2 with ⟨rfl, _⟩ | ⟨g, cap, cur, rfl, hg, _⟩
  · simp [Value.ownBlock] at hk
  · simp [Value.ownBlock] at hk
    omega
end Go.Proofs.YtaaenolbfhhnfaaGreat
namespace Go.Proofs.YtaaenolbfhhnfaaGreat
open Go.RowKit
/-- Block b holds the cells l. -/
def Blk (w : World) (b : Nat) (l : List Value) : Prop := ∃ t, w.heap[b]? = some (.cells l.toArray t (0, 0))
theorem blk_new (w : World) (l : List Value) (t : TypeId) : Blk (w.alloc (.cells l.toArray t)) w.heap.size l := ⟨t, by show (w.heap.push _)[w.heap.size]? = _; exact Array.getElem?_push_size⟩
theorem Blk.lt {w : World} {b : Nat} {l : List Value} (h : Blk w b l) : b < w.heap.size := by
  obtain ⟨t, h⟩ := h
  exact (Array.getElem?_eq_some_iff.1 h).1
theorem Blk.alloc {w : World} {b : Nat} {l : List Value} (h : Blk w b l) (o : Obj) : Blk (w.alloc o) b l := by
  have := h.lt
  obtain ⟨t, h⟩ := h
  exact ⟨t, by rw [Below.heap_alloc _ _ _ this]; exact h⟩
theorem Blk.below {w w' : World} {B b : Nat} {l : List Value} (h : Blk w b l) (hb : Below B w w') (hB : b < B) : Blk w' b l := by
  obtain ⟨t, h⟩ := h
  exact ⟨t, by rw [hb.block b hB]; exact h⟩
/-- Behind a call that left what lay below as it was. -/
theorem Blk.on {w w' : World} {b : Nat} {l : List Value} (h : Blk w b l) (hb : Below w.heap.size w w') : Blk w' b l := h.below hb h.lt
theorem Blk.drew {w : World} {b : Nat} {l : List Value} (h : Blk w b l) : Blk w.drew b l := h
theorem Blk.cell {w : World} {b : Nat} {l : List Value} (h : Blk w b l) (i : Nat) (v : Value) (hi : l[i]? = some v) : w.cell? ⟨b, i, none⟩ = some v := by
  obtain ⟨t, h⟩ := h
  simp [World.cell?, h, hi]
theorem Blk.frozen {w : World} {b : Nat} {l : List Value} (h : Blk w b l) (i : Nat) : w.frozen? ⟨b, i, none⟩ = false := by
  obtain ⟨t, h⟩ := h
  simp [World.frozen?, h]
theorem Blk.set {w : World} {b : Nat} {l : List Value} (h : Blk w b l) (i : Nat) (v : Value) : Blk (w.setCell ⟨b, i, none⟩ v) b (l.set i v) := by
  obtain ⟨t, h⟩ := h
  refine ⟨t, ?_⟩
  simp only [World.setCell, Array.getElem?_modify, if_true, h, Option.map_some]
  simp
theorem Blk.far {w : World} {b : Nat} {l : List Value} (h : Blk w b l) {a : Addr} (v : Value) (hb : b ≠ a.block) : Blk (w.setCell a v) b l := by
  obtain ⟨t, h⟩ := h
  exact ⟨t, by rw [Below.heap_setCell _ _ _ _ hb]; exact h⟩
/-- One of one cell, of two, of three, of four: each cell, each mark. -/
theorem Blk.one {w : World} {b : Nat} {x : Value} (h : Blk w b [x]) : w.cell? ⟨b, 0, none⟩ = some x ∧ w.frozen? ⟨b, 0, none⟩ = false := ⟨h.cell 0 _ rfl, h.frozen 0⟩
theorem Blk.three {w : World} {b : Nat} {x y z : Value} (h : Blk w b [x, y, z]) : (w.cell? ⟨b, 0, none⟩ = some x ∧ w.cell? ⟨b, 1, none⟩ = some y ∧ w.cell? ⟨b, 2, none⟩ = some z) ∧ w.frozen? ⟨b, 0, none⟩ = false ∧ w.frozen? ⟨b, 1, none⟩ = false ∧ w.frozen? ⟨b, 2, none⟩ = false :=
  ⟨⟨h.cell 0 _ rfl, h.cell 1 _ rfl, h.cell 2 _ rfl⟩, h.frozen 0, h.frozen 1, h.frozen 2⟩
theorem Blk.four {w : World} {b : Nat} {x y z u : Value} (h : Blk w b [x, y, z, u]) : (w.cell? ⟨b, 0, none⟩ = some x ∧ w.cell? ⟨b, 1, none⟩ = some y ∧ w.cell? ⟨b, 2, none⟩ = some z ∧ w.cell? ⟨b, 3, none⟩ = some u) ∧ w.frozen? ⟨b, 0, none⟩ = false ∧ w.frozen? ⟨b, 1, none⟩ = false ∧ w.frozen? ⟨b, 2, none⟩ = false ∧ w.frozen? ⟨b, 3, none⟩ = false :=
  ⟨⟨h.cell 0 _ rfl, h.cell 1 _ rfl, h.cell 2 _ rfl, h.cell 3 _ rfl⟩, h.frozen 0, h.frozen 1, h.frozen 2, h.frozen 3⟩
/-- Behind a call that left what lay below as it was. -/
theorem Below.on {w W w1 : World} (h : Below w.heap.size w W) (hb : Below W.heap.size W w1) : Below w.heap.size w w1 := h.trans (hb.mono h.size)
theorem Below.drawn {B : Nat} {a w : World} (h : Below B a w) (n : Nat) : Below B a (w.drewN n) := ⟨h.os, h.tape, h.output, h.size, h.block⟩
theorem Blk.drawn {w : World} {b : Nat} {l : List Value} (h : Blk w b l) (n : Nat) : Blk (w.drewN n) b l := h
theorem Blk.grown {w w' : World} {b : Nat} {l : List Value} {row : Option Nat} (h : Blk w b l) (hg : w.grownBy w' row) (hr : some b ≠ row) : Blk w' b l := by
  have hlt := h.lt
  obtain ⟨t, h⟩ := h
  exact ⟨t, by rw [hg.block b hlt hr]; exact h⟩
/-- Blocks, each with its cells. -/
def Held (w : World) (L : List (Nat × List Value)) : Prop := ∀ p ∈ L, Blk w p.1 p.2
theorem Held.nil (w : World) : Held w [] := fun _ h => by cases h
theorem Held.cons {w : World} {b : Nat} {l : List Value} {L : List (Nat × List Value)} (h : Blk w b l) (H : Held w L) : Held w ((b, l) :: L) := fun p hp => by
  rcases List.mem_cons.1 hp with rfl | hp
  · exact h
  · exact H p hp
theorem Held.on {w w' : World} {L : List (Nat × List Value)} (H : Held w L) (hb : Below w.heap.size w w') : Held w' L := fun p hp => (H p hp).on hb
theorem Held.alloc {w : World} {L : List (Nat × List Value)} (H : Held w L) (o : Obj) : Held (w.alloc o) L := fun p hp => (H p hp).alloc o
theorem Held.drawn {w : World} {L : List (Nat × List Value)} (H : Held w L) (n : Nat) : Held (w.drewN n) L := H
theorem Held.at {w : World} {L : List (Nat × List Value)} (H : Held w L) (i : Nat) {b : Nat} {l : List Value} (h : L[i]? = some (b, l)) : Blk w b l := H (b, l) (List.mem_of_getElem? h)
end Go.Proofs.YtaaenolbfhhnfaaGreat
namespace Go.Proofs.YtaaenolbfhhnfaaGreat
open Go.RowKit
/-- The first m of a function's values. -/
def rowL (f : Nat → Value) (m : Nat) : List Value := (List.range m).map f
theorem rowL_len (f : Nat → Value) (m : Nat) : (rowL f m).length = m := by simp [rowL]
theorem rowL_get {f : Nat → Value} {m i : Nat} (h : i < m) : (rowL f m)[i]? = some (f i) := by simp [rowL, h]
theorem rowL_none {f : Nat → Value} {m i : Nat} (h : m ≤ i) : (rowL f m)[i]? = none := List.getElem?_eq_none (by rw [rowL_len]; exact h)
theorem rowL_one {f : Nat → Value} {m : Nat} (h : ∀ i, i < m → (f i).oneCell' = true) : ∀ u ∈ rowL f m, u.oneCell' = true := by
  intro u hu
  simp only [rowL, List.mem_map, List.mem_range] at hu
  obtain ⟨i, hi, rfl⟩ := hu
  exact h i hi
theorem rowL_add (f : Nat → Value) (m k : Nat) : rowL f (m + k) = rowL f m ++ rowL (fun i => f (m + i)) k := by
  apply List.ext_getElem?
  intro i
  by_cases h : i < m
  · rw [rowL_get (by omega), List.getElem?_append_left (by rw [rowL_len]; exact h), rowL_get h]
  · rw [List.getElem?_append_right (by rw [rowL_len]; omega), rowL_len]
    by_cases h2 : i < m + k
    · rw [rowL_get h2, rowL_get (by omega), show m + (i - m) = i by omega]
    · rw [rowL_none (by omega), rowL_none (by omega)]
theorem rowL_congr {f g : Nat → Value} {m : Nat} (h : ∀ i, i < m → f i = g i) : rowL f m = rowL g m := by
  apply List.ext_getElem?
  intro i
  by_cases hi : i < m
  · rw [rowL_get hi, rowL_get hi, h i hi]
  · rw [rowL_none (by omega), rowL_none (by omega)]
/-- A row's cells, as the law of append asks for them. -/
theorem Row.news {w : World} {ad : Addr} {n : Nat} {f : Nat → Value} (h : Row w (some ad) n f) : ∀ j u, (rowL f n)[j]? = some u → w.cell? (ad.add j) = some u := by
  intro j u hu
  have hj : j < n := by
    have := (List.getElem?_eq_some_iff.1 hu).1
    rwa [rowL_len] at this
  rw [rowL_get hj] at hu
  obtain ⟨b, off, e, _, hc⟩ := h j hj
  obtain rfl := Option.some.inj e
  obtain rfl := Option.some.inj hu
  have hadd : (⟨b, off, none⟩ : Addr).add j = ⟨b, off + j, none⟩ := by unfold Addr.add; split <;> simp_all
  rw [hadd]
  exact hc
/-- Block b's first m cells. -/
def Own (w : World) (b m : Nat) (f : Nat → Value) : Prop := ∃ l, Blk w b l ∧ ∀ i, i < m → l[i]? = some (f i)
section
variable {w w' : World} {b m : Nat} {f g : Nat → Value}
theorem Own.lt (h : Own w b m f) : b < w.heap.size := h.choose_spec.1.lt
theorem Own.row (h : Own w b m f) : Row w (some ⟨b, 0, none⟩) m f := by
  obtain ⟨l, hl, hf⟩ := h
  exact fun i hi => ⟨b, 0, rfl, hl.lt, by rw [Nat.zero_add]; exact hl.cell i _ (hf i hi)⟩
theorem Own.alloc (h : Own w b m f) (o : Obj) : Own (w.alloc o) b m f := by
  obtain ⟨l, hl, hf⟩ := h
  exact ⟨l, hl.alloc o, hf⟩
theorem Own.below {B : Nat} (h : Own w b m f) (hb : Below B w w') (hB : b < B) : Own w' b m f := by
  obtain ⟨l, hl, hf⟩ := h
  exact ⟨l, hl.below hb hB, hf⟩
theorem Own.on (h : Own w b m f) (hb : Below w.heap.size w w') : Own w' b m f := h.below hb h.lt
theorem Own.far (h : Own w b m f) {a : Addr} (v : Value) (hb : b ≠ a.block) : Own (w.setCell a v) b m f := by
  obtain ⟨l, hl, hf⟩ := h
  exact ⟨l, hl.far v hb, hf⟩
theorem Own.drawn (h : Own w b m f) (n : Nat) : Own (w.drewN n) b m f := h
theorem Own.drew (h : Own w b m f) : Own w.drew b m f := h
theorem Own.cell (h : Own w b m f) {i : Nat} (hi : i < m) : w.cell? ⟨b, i, none⟩ = some (f i) := by
  obtain ⟨l, hl, hf⟩ := h
  exact hl.cell i _ (hf i hi)
theorem Own.frozen (h : Own w b m f) (i : Nat) : w.frozen? ⟨b, i, none⟩ = false := by
  obtain ⟨l, hl, _⟩ := h
  exact hl.frozen i
theorem Own.congr (h : Own w b m f) (hfg : ∀ i, i < m → f i = g i) : Own w b m g := by
  obtain ⟨l, hl, hf⟩ := h
  exact ⟨l, hl, fun i hi => by rw [hf i hi, hfg i hi]⟩
theorem Own.less (h : Own w b m f) {k : Nat} (hk : k ≤ m) : Own w b k f := by
  obtain ⟨l, hl, hf⟩ := h
  exact ⟨l, hl, fun i hi => hf i (by omega)⟩
theorem Own.set (h : Own w b m f) (i : Nat) (v : Value) : Own (w.setCell ⟨b, i, none⟩ v) b m (fun j => if j = i then v else f j) := by
  obtain ⟨l, hl, hf⟩ := h
  refine ⟨l.set i v, hl.set i v, fun j hj => ?_⟩
  rw [List.getElem?_set]
  have hlen : j < l.length := (List.getElem?_eq_some_iff.1 (hf j hj)).1
  by_cases e : i = j
  · subst e; simp [hlen]
  · simp only [if_neg e, if_neg (Ne.symm e)]
    exact hf j hj
end
/-- What a law of append leaves: nothing, or a block of the call's own. -/
theorem own_of_owns {w : World} {base : Nat} {e : TypeId} {k n : Nat} {v : Value} {f : Nat → Value} (h : w.ownsRow base e k v n (rowL f (n * k))) :
    (v = .slice none 0 0 ∧ n = 0) ∨ ∃ g cap, v = .slice (some ⟨g, 0, none⟩) n cap ∧ base ≤ g ∧ n ≤ cap ∧ cap ≤ maxLen ∧ Own w g (n * k) f := by
  rcases h.2 with h2 | ⟨g, cap, cur, hv, hg, hh, hn, hm, _, ht⟩
  · exact .inl h2
  · refine .inr ⟨g, cap, hv, hg, hn, hm, cur.toList, ⟨e, by simpa using hh⟩, fun i hi => ?_⟩
    have h3 : (cur.toList.take (n * k))[i]? = some (f i) := by rw [ht]; exact rowL_get hi
    rw [List.getElem?_take, if_pos hi] at h3
    exact h3
/-- The cells of a row of numbers. -/
def intF (z : Nat → Int) (i : Nat) : Value := .int .i64 (z i)
end Go.Proofs.YtaaenolbfhhnfaaGreat
namespace Go.Proofs.YtaaenolbfhhnfaaGreat
open Go.RowKit
/-- Nothing but the blocks from B up to C has turned. -/
structure Touch (B C : Nat) (w w' : World) : Prop where
  os : w'.os = w.os
  tape : w'.tape = w.tape
  output : w'.output = w.output
  size : w.heap.size ≤ w'.heap.size
  block : ∀ k, k < B ∨ C ≤ k → k < w.heap.size → w'.heap[k]? = w.heap[k]?
section
variable {B C : Nat} {w w' w'' : World}
theorem Touch.refl (B C : Nat) (w : World) : Touch B C w w := ⟨rfl, rfl, rfl, Nat.le_refl _, fun _ _ _ => rfl⟩
theorem Touch.trans (h : Touch B C w w') (k : Touch B C w' w'') : Touch B C w w'' :=
  ⟨k.os.trans h.os, k.tape.trans h.tape, k.output.trans h.output, Nat.le_trans h.size k.size, fun i hi hl => (k.block i hi (by have := h.size; omega)).trans (h.block i hi hl)⟩
theorem Touch.setCell (h : Touch B C w w') {a : Addr} (hB : B ≤ a.block) (hC : a.block < C) (v : Value) : Touch B C w (w'.setCell a v) :=
  h.trans ⟨rfl, rfl, rfl, by simp [World.setCell], fun k hk _ => Below.heap_setCell _ _ _ _ (by omega)⟩
theorem Touch.alloc (h : Touch B C w w') (o : Obj) : Touch B C w (w'.alloc o) :=
  h.trans ⟨rfl, rfl, rfl, by simp, fun k _ hl => Below.heap_alloc _ _ _ hl⟩
theorem Touch.below (h : Touch B C w w') (hB : B ≤ w.heap.size) : Below B w w' := ⟨h.os, h.tape, h.output, h.size, fun k hk => h.block k (.inl hk) (by omega)⟩
theorem Touch.mono {B' C' : Nat} (h : Touch B C w w') (hB : B' ≤ B) (hC : C ≤ C') : Touch B' C' w w' := ⟨h.os, h.tape, h.output, h.size, fun k hk => h.block k (by omega)⟩
theorem Blk.touch {b : Nat} {l : List Value} (h : Blk w b l) (ht : Touch B C w w') (hb : b < B ∨ C ≤ b) : Blk w' b l := by
  have := h.lt
  obtain ⟨t, h⟩ := h
  exact ⟨t, by rw [ht.block b hb this]; exact h⟩
theorem Own.touch {b m : Nat} {f : Nat → Value} (h : Own w b m f) (ht : Touch B C w w') (hb : b < B ∨ C ≤ b) : Own w' b m f := by
  obtain ⟨l, hl, hf⟩ := h
  exact ⟨l, hl.touch ht hb, hf⟩
theorem Row.touch {a : Option Addr} {n : Nat} {f : Nat → Value} (h : Row w a n f) (ht : Touch B C w w') (hb : ∀ b o, a = some ⟨b, o, none⟩ → b < B ∨ C ≤ b) : Row w' a n f := by
  intro i hi
  obtain ⟨b, off, e, hlt, hc⟩ := h i hi
  refine ⟨b, off, e, Nat.lt_of_lt_of_le hlt ht.size, ?_⟩
  rw [← hc]
  exact World.cell?_of_block (w := w) (a := ⟨b, off + i, .none⟩) (ht.block b (hb b off e) hlt)
end
end Go.Proofs.YtaaenolbfhhnfaaGreat
namespace Go.Proofs.YtaaenolbfhhnfaaGreat
open Go.RowKit
/-- A world in which nothing that was in w has turned. -/
structure Kin (w : World) where
  at_ : World
  below : Below w.heap.size w at_
/-- There is one: w itself. The walk of a region wants it among the hypotheses. -/
theorem kin_any (w : World) : Nonempty (Kin w) := ⟨⟨w, Below.refl _ _⟩⟩
theorem Kin.cell {w : World} (u : Kin w) (b o : Nat) (h : b < w.heap.size) : u.at_.cell? ⟨b, o, none⟩ = w.cell? ⟨b, o, none⟩ := u.below.cell (p := ⟨b, o, none⟩) h
theorem wp_region_kin {P : Program} {id : Nat} {Q : Exit → Act → World → Prop} {a : Act} {w : World} {l : List Oper} (hm : P.follows .mixedOrders = true) (hB : Region.lexB .any l.toArray = true)
    (h : wpQuiet P l.toArray (fun w' => ∃ u : Kin w, w' = u.at_) (fun a' => ∀ w', (∃ u : Kin w, w' = u.at_) → Q .normal a' w') l a) : (Code.region id l.toArray true).wp P Q a w :=
  wp_region_quiet (C := fun w' => ∃ u : Kin w, w' = u.at_) hm hB ⟨⟨w.drew, (Below.refl _ _).drew⟩, rfl⟩ (by simpa using h)
theorem Calls.kin_of {P : Program} {f : FuncId} {args : Array Value} {w : World} {u : Kin w} {v : Value}
    (h : Calls P f args u.at_ fun e w' => e = .returned v ∧ Below u.at_.heap.size u.at_ w') : Calls P f args u.at_ fun e w'' => e = .returned v ∧ ∃ u' : Kin w, w'' = u'.at_ :=
  h.mono fun _ w' ⟨he, hb⟩ => ⟨he, ⟨w', u.below.trans (hb.mono u.below.size)⟩, rfl⟩
theorem Calls.kin_same {P : Program} {f : FuncId} {args : Array Value} {w : World} {u : Kin w} {v : Value}
    (h : Calls P f args u.at_ fun e w' => e = .returned v ∧ u.at_ = w') : Calls P f args u.at_ fun e w'' => e = .returned v ∧ ∃ u' : Kin w, w'' = u'.at_ :=
  h.mono fun _ _ ⟨he, hm⟩ => ⟨he, u, hm.symm⟩
theorem Blk.kin {w : World} {b : Nat} {l : List Value} (h : Blk w b l) (u : Kin w) : Blk u.at_ b l := h.on u.below
theorem Blk.kin3 {w : World} {b : Nat} {x y z : Value} (h : Blk w b [x, y, z]) : (∀ u : Kin w, u.at_.cell? ⟨b, 0, none⟩ = some x) ∧ (∀ u : Kin w, u.at_.cell? ⟨b, 1, none⟩ = some y) ∧ (∀ u : Kin w, u.at_.cell? ⟨b, 2, none⟩ = some z) :=
  ⟨fun u => (h.kin u).cell 0 _ rfl, fun u => (h.kin u).cell 1 _ rfl, fun u => (h.kin u).cell 2 _ rfl⟩
theorem Blk.kin4 {w : World} {b : Nat} {x y z v : Value} (h : Blk w b [x, y, z, v]) : (∀ u : Kin w, u.at_.cell? ⟨b, 0, none⟩ = some x) ∧ (∀ u : Kin w, u.at_.cell? ⟨b, 1, none⟩ = some y) ∧ (∀ u : Kin w, u.at_.cell? ⟨b, 2, none⟩ = some z) ∧ (∀ u : Kin w, u.at_.cell? ⟨b, 3, none⟩ = some v) :=
  ⟨fun u => (h.kin u).cell 0 _ rfl, fun u => (h.kin u).cell 1 _ rfl, fun u => (h.kin u).cell 2 _ rfl, fun u => (h.kin u).cell 3 _ rfl⟩
end Go.Proofs.YtaaenolbfhhnfaaGreat
namespace Go.Proofs.YtaaenolbfhhnfaaGreat
open Go.RowKit
theorem Blk.range {w : World} {b : Nat} {l : List Value} (h : Blk w b l) : w.rangeAt b 0 l := fun j v hv => by rw [Nat.zero_add]; exact h.cell j v hv
theorem wpList_load_at {P : Program} {ops : Array Oper} {rest : List Oper} {op : Oper} {a : Act} {w : World} {Q : Exit → Act → World → Prop} (ty : TypeId) (x : Operand) (ho : op.op = .load ty x) (hgd : Region.wanted op (yielded ops a.tmps) = true) (b o : Nat) (hx : a.eval x = .pointer (some ⟨b, o, none⟩)) (cs : List Value)
    (hr : (P.underlying ty).any (·.isRow) = true) (hi : (P.info? ty).map (·.size) = some cs.length) (h : w.rangeAt b o cs) (hw : wpList P ops Q rest (a.put op.dst (.agg cs.toArray)) w) : wpList P ops Q (op :: rest) a w := by
  cases hd : P.underlying ty with
  | none => rw [hd] at hr; cases hr
  | some d =>
    rw [hd] at hr
    exact BigFrame.wpList_want hgd fun _ hK => wp_load_mid ty x ho b o hx cs d h hd hr hi (hK _ _ hw)
theorem wpQuiet_load_at {P : Program} {ops : Array Oper} {w : World} {Q : Act → Prop} {a : Act} {o : Oper} {rest : List Oper} (ty : TypeId) (x : Operand) (ho : o.op = .load ty x) (hw : Region.wanted o (yielded ops a.tmps) = true) (b off : Nat) (hx : a.eval x = .pointer (some ⟨b, off, none⟩)) (cs : List Value)
    (hr : (P.underlying ty).any (·.isRow) = true) (hi : (P.info? ty).map (·.size) = some cs.length) (hb : b < w.heap.size) (h : w.rangeAt b off cs)
    (hk : wpQuiet P ops (fun w' => ∃ u : Kin w, w' = u.at_) Q rest (a.put o.dst (.agg cs.toArray))) : wpQuiet P ops (fun w' => ∃ u : Kin w, w' = u.at_) Q (o :: rest) a := by
  refine BigFrame.wpQuiet_want hw fun K hK => ⟨.agg cs.toArray, ?_, hK _ hk⟩
  rintro _ ⟨u, rfl⟩
  cases hd : P.underlying ty with
  | none => rw [hd] at hr; cases hr
  | some d =>
    rw [hd] at hr
    have hru : u.at_.rangeAt b off cs := fun j v hv => (u.cell b _ hb).trans (h j v hv)
    unfold Oper.quietAt execOp
    simp only [ho, hx, Instr.loadAt, Instr.sureAddr, Sem.run_bind, Sem.run_pure, Result.andThen_ok, run_loadVar_mid u.at_ b off ty cs d hru hd hr hi]
    exact ⟨rfl, rfl⟩
end Go.Proofs.YtaaenolbfhhnfaaGreat
namespace Go.Proofs.YtaaenolbfhhnfaaGreat
open Go.RowKit
/-- A list with others laid over it from a place on. -/
def setL (l : List Value) (o : Nat) : List Value → List Value
  | [] => l
  | v :: r => setL (l.set o v) (o + 1) r
theorem setL_take : ∀ (vs l : List Value) (o : Nat), o + vs.length = l.length → setL l o vs = l.take o ++ vs
  | [], l, o, h => by rw [setL, List.append_nil, List.take_of_length_le (by simp at h; omega)]
  | v :: r, l, o, h => by
    have hlt : o < l.length := by simp at h; omega
    rw [setL, setL_take r (l.set o v) (o + 1) (by simp at h ⊢; omega), List.take_add_one]
    rw [List.getElem?_set_self hlt, List.take_set_of_le (Nat.le_refl _)]
    simp
theorem setL_all {vs l : List Value} (h : vs.length = l.length) : setL l 0 vs = vs := by
  rw [setL_take vs l 0 (by omega)]
  rfl
theorem Blk.setCells {b : Nat} : ∀ (vs : List Value) (o : Nat) {w : World} {l : List Value}, Blk w b l → Blk (w.setCells b o vs) b (setL l o vs)
  | [], _, _, _, h => h
  | v :: r, o, _, _, h => Blk.setCells r (o + 1) (h.set o v)
theorem Touch.setCells {b : Nat} : ∀ (vs : List Value) (o : Nat) (w : World), Touch b (b + 1) w (w.setCells b o vs)
  | [], _, w => Touch.refl _ _ w
  | v :: r, o, w => ((Touch.refl b (b + 1) w).setCell (a := ⟨b, o, none⟩) (Nat.le_refl b) (Nat.lt_succ_self b) v).trans (Touch.setCells r (o + 1) _)
theorem size_setCells {b : Nat} : ∀ (vs : List Value) (o : Nat) (w : World), (w.setCells b o vs).heap.size = w.heap.size
  | [], _, _ => rfl
  | v :: r, o, w => by rw [World.setCells, size_setCells r]; exact World.size_setCell ..
theorem wpList_store_all {P : Program} {ops : Array Oper} {rest : List Oper} {op : Oper} {a : Act} {w : World} {Q : Exit → Act → World → Prop} (hgd : Region.wanted op (yielded ops a.tmps) = true) (ty : TypeId) (x y : Operand) (ho : op.op = .store ty x y)
    (b : Nat) (l vs : List Value) (hx : a.eval x = .pointer (some ⟨b, 0, none⟩)) (hy : a.eval y = .agg vs.toArray) (hB : Blk w b l) (hl : vs.length = l.length)
    (hi : (P.info? ty).map (·.size) = some vs.length) (h1 : vs.all (·.oneCell') = true)
    (h : ∀ W, Blk W b vs → Touch b (b + 1) w W → W.heap.size = w.heap.size → wpList P ops Q rest (a.put op.dst undef) W) : wpList P ops Q (op :: rest) a w := by
  refine BigFrame.wpList_want hgd fun _ hK => wp_store_mid ty x y ho b 0 vs.toArray hx hy (fun j hj => ?_) (by simpa using hi) (by simpa using h1) (hK _ _ (h _ ?_ (Touch.setCells _ _ _) (size_setCells _ _ _)))
  · have hj' : j < l.length := by simpa [hl] using hj
    refine ⟨?_, hB.frozen _⟩
    rw [Nat.zero_add, hB.cell j l[j] (List.getElem?_eq_getElem hj')]
    rfl
  · have := Blk.setCells vs 0 hB
    rw [setL_all hl] at this
    simpa using this
end Go.Proofs.YtaaenolbfhhnfaaGreat
namespace Go.Proofs.YtaaenolbfhhnfaaGreat
open Go.RowKit
/-- It stays where only new memory is written. -/
def Stays (S : World → Prop) : Prop := ∀ W W', S W → Below W.heap.size W W' → S W'
theorem Stays.and {S T : World → Prop} (hS : Stays S) (hT : Stays T) : Stays fun W => S W ∧ T W := fun W W' h b => ⟨hS W W' h.1 b, hT W W' h.2 b⟩
theorem stays_blk (b : Nat) (l : List Value) : Stays fun W => Blk W b l := fun _ _ h b => h.on b
theorem stays_below (w : World) : Stays fun W => Below w.heap.size w W := fun _ _ h b => Below.on h b
end Go.Proofs.YtaaenolbfhhnfaaGreat
namespace Go.Proofs.YtaaenolbfhhnfaaGreat
open Go.RowKit
set_option linter.unusedSimpArgs false
set_option linter.unusedVariables false
/-- A list of operations, not one: a test that costs nothing ('with_reducible refine isList ?_'). -/
theorem isList {P : Program} {ops : Array Oper} {l : List Oper} {a : Act} {w : World} {Q : Exit → Act → World → Prop} (h : wpList P ops Q l a w) : wpList P ops Q l a w := h
/-- One thing that a call holds: the blocks in D, and what is known of them. -/
structure Itm where
  D : Nat → Prop
  S : World → Prop
/-- It hangs on its own blocks alone. -/
def Itm.Loc (x : Itm) : Prop := ∀ W W', x.S W → W.heap.size ≤ W'.heap.size → (∀ k, x.D k → W'.heap[k]? = W.heap[k]?) → x.S W'
/-- Nothing but blocks in D has turned. -/
structure Chg (D : Nat → Prop) (W W' : World) : Prop where
  os : W'.os = W.os
  tape : W'.tape = W.tape
  output : W'.output = W.output
  size : W.heap.size ≤ W'.heap.size
  block : ∀ k, k < W.heap.size → ¬ D k → W'.heap[k]? = W.heap[k]?
section
variable {D : Nat → Prop} {W W' W'' : World}
theorem Chg.refl (D : Nat → Prop) (W : World) : Chg D W W := ⟨rfl, rfl, rfl, Nat.le_refl _, fun _ _ _ => rfl⟩
theorem Chg.trans (h : Chg D W W') (k : Chg D W' W'') : Chg D W W'' :=
  ⟨k.os.trans h.os, k.tape.trans h.tape, k.output.trans h.output, Nat.le_trans h.size k.size, fun i hi hd => (k.block i (by have := h.size; omega) hd).trans (h.block i hi hd)⟩
theorem Chg.mono {D' : Nat → Prop} (h : Chg D W W') (hd : ∀ k, k < W.heap.size → D k → D' k) : Chg D' W W' := ⟨h.os, h.tape, h.output, h.size, fun i hi hn => h.block i hi fun x => hn (hd i hi x)⟩
theorem chg_touch {lo hi : Nat} (h : Touch lo hi W W') : Chg (fun k => lo ≤ k ∧ k < hi) W W' := ⟨h.os, h.tape, h.output, h.size, fun k hk hn => h.block k (by omega) hk⟩
theorem chg_set {b o : Nat} {v : Value} (hd : D b) : Chg D W (W.setCell ⟨b, o, none⟩ v) := ⟨rfl, rfl, rfl, by simp [World.setCell], fun k _ hn => Below.heap_setCell _ _ _ _ fun e => hn (by rw [show k = b from e]; exact hd)⟩
theorem chg_grown {row : Option Nat} (h : W.grownBy W' row) (hd : ∀ k, row = some k → D k) : Chg D W W' := ⟨h.os, h.tape, h.output, h.size, fun k hk hn => h.block k hk fun e => hn (hd k e.symm)⟩
theorem Chg.belowOf {B : Nat} {w0 : World} (h : Chg D W W') (hb : Below B w0 W) (hd : ∀ k, D k → B ≤ k) (hs : B ≤ W.heap.size) : Below B w0 W' :=
  hb.trans ⟨h.os, h.tape, h.output, h.size, fun k hk => h.block k (by omega) fun x => by have := hd k x; omega⟩
end
/-- Where a walk stands: what lay below is as it was; what the call holds: each apart from all others. -/
structure St (w0 W : World) (L : List Itm) : Prop where
  below : Below w0.heap.size w0 W
  here : ∀ (i : Nat) (x : Itm), L[i]? = some x → x.Loc ∧ x.S W ∧ ∀ k, x.D k → w0.heap.size ≤ k ∧ k < W.heap.size
  apart : ∀ (i j : Nat) (x y : Itm), L[i]? = some x → L[j]? = some y → i ≠ j → ∀ k, x.D k → y.D k → False
def blkI (b : Nat) (l : List Value) : Itm := ⟨fun k => k = b, fun W => Blk W b l⟩
theorem blkI_loc (b : Nat) (l : List Value) : (blkI b l).Loc := fun W W' h _ hk => by
  obtain ⟨t, h⟩ := (h : Blk W b l)
  exact ⟨t, by rw [hk b rfl]; exact h⟩
/-- Nothing. -/
def empI : Itm := ⟨fun _ => False, fun _ => True⟩
section
variable {w0 W W' : World} {L : List Itm}
theorem St.refl (w : World) : St w w [] := ⟨Below.refl _ w, fun i x e => by simp at e, fun i j x y e => by simp at e⟩
theorem St.on (h : St w0 W L) (hb : Below W.heap.size W W') : St w0 W' L :=
  ⟨Below.on h.below hb, fun i x e => by
    obtain ⟨h1, h2, h3⟩ := h.here i x e
    exact ⟨h1, h1 W W' h2 hb.size fun k hk => hb.block k (h3 k hk).2, fun k hk => ⟨(h3 k hk).1, Nat.lt_of_lt_of_le (h3 k hk).2 hb.size⟩⟩, h.apart⟩
theorem St.get (h : St w0 W L) (i : Nat) {x : Itm} (e : L[i]? = some x) : x.S W := (h.here i x e).2.1
theorem St.blk (h : St w0 W L) (i : Nat) {b : Nat} {l : List Value} (e : L[i]? = some (blkI b l)) : Blk W b l := h.get i e
theorem St.push (h : St w0 W L) (hb : Below W.heap.size W W') (x : Itm) (hl : x.Loc) (hS : x.S W') (hd : ∀ k, x.D k → W.heap.size ≤ k ∧ k < W'.heap.size) : St w0 W' (x :: L) := by
  have h' := h.on hb
  have hw := h.below.size
  refine ⟨h'.below, fun i y e => ?_, fun i j y z ey ez hij k hy hz => ?_⟩
  · cases i with
    | zero =>
      obtain rfl : x = y := by simpa using e
      exact ⟨hl, hS, fun k hk => ⟨by have := (hd k hk).1; omega, (hd k hk).2⟩⟩
    | succ i => exact h'.here i y (by simpa using e)
  · cases i with
    | zero =>
      obtain rfl : x = y := by simpa using ey
      cases j with
      | zero => exact hij rfl
      | succ j =>
        have := ((h.here j z (by simpa using ez)).2.2 k hz).2
        have := (hd k hy).1
        omega
    | succ i =>
      cases j with
      | zero =>
        obtain rfl : x = z := by simpa using ez
        have := ((h.here i y (by simpa using ey)).2.2 k hy).2
        have := (hd k hz).1
        omega
      | succ j => exact h.apart i j y z (by simpa using ey) (by simpa using ez) (fun e => hij (by rw [e])) k hy hz
theorem St.alloc (h : St w0 W L) (l : List Value) (t : TypeId) : St w0 (W.alloc (.cells l.toArray t)) (blkI W.heap.size l :: L) :=
  h.push ((Below.refl _ W).alloc (Nat.le_refl _) _) (blkI W.heap.size l) (blkI_loc _ _) (blk_new W l t) fun k hk => by
    obtain rfl : k = W.heap.size := hk
    exact ⟨Nat.le_refl _, by simp⟩
theorem St.drew (h : St w0 W L) : St w0 W.drew L := h.on (Below.refl _ W).drew
theorem St.drawn (h : St w0 W L) (n : Nat) : St w0 (W.drewN n) L := h.on (Below.drawn (Below.refl _ W) n)
/-- One item turns, and may take new memory; nothing else turns. -/
theorem St.set (h : St w0 W L) (i : Nat) {x : Itm} (e : L[i]? = some x) (x' : Itm) (hc : Chg x.D W W') (hl : x'.Loc) (hS : x'.S W') (hd : ∀ k, x'.D k → x.D k ∨ W.heap.size ≤ k ∧ k < W'.heap.size) : St w0 W' (L.set i x') := by
  have hi : i < L.length := (List.getElem?_eq_some_iff.1 e).1
  obtain ⟨g1, g2, g3⟩ := h.here i x e
  have hs := h.below.size
  refine ⟨hc.belowOf h.below (fun k hk => (g3 k hk).1) hs, fun j y ey => ?_, fun j m y z ey ez hjm k hy hz => ?_⟩
  · rw [List.getElem?_set] at ey
    by_cases hij : i = j
    · rw [if_pos hij, if_pos (by omega)] at ey
      obtain rfl : x' = y := by simpa using ey
      exact ⟨hl, hS, fun k hk => by
        have := hc.size
        rcases hd k hk with hx | hx
        · have := g3 k hx; omega
        · omega⟩
    · rw [if_neg hij] at ey
      obtain ⟨k1, k2, k3⟩ := h.here j y ey
      exact ⟨k1, k1 W W' k2 hc.size fun k hk => hc.block k (k3 k hk).2 fun hx => h.apart i j x y e ey hij k hx hk, fun k hk => ⟨(k3 k hk).1, Nat.lt_of_lt_of_le (k3 k hk).2 hc.size⟩⟩
  · rw [List.getElem?_set] at ey ez
    by_cases hij : i = j
    · rw [if_pos hij, if_pos (by omega)] at ey
      obtain rfl : x' = y := by simpa using ey
      rw [if_neg (by omega)] at ez
      rcases hd k hy with hx | hx
      · exact h.apart i m x z e ez (by omega) k hx hz
      · have := ((h.here m z ez).2.2 k hz).2; omega
    · rw [if_neg hij] at ey
      by_cases him : i = m
      · rw [if_pos him, if_pos (by omega)] at ez
        obtain rfl : x' = z := by simpa using ez
        rcases hd k hz with hx | hx
        · exact h.apart i j x y e ey hij k hx hy
        · have := ((h.here j y ey).2.2 k hy).2; omega
      · rw [if_neg him] at ez
        exact h.apart j m y z ey ez hjm k hy hz
theorem St.setBlk (h : St w0 W L) (i : Nat) {b : Nat} {l : List Value} (e : L[i]? = some (blkI b l)) (l' : List Value) (ht : Touch b (b + 1) W W') (hS : Blk W' b l') : St w0 W' (L.set i (blkI b l')) :=
  h.set i e (blkI b l') ((chg_touch ht).mono fun k _ hk => by show k = b; omega) (blkI_loc _ _) hS fun k hk => .inl hk
/-- The newest item is let go. -/
theorem St.tail {x : Itm} (h : St w0 W (x :: L)) : St w0 W L :=
  ⟨h.below, fun i y e => h.here (i + 1) y (by simpa using e), fun i j y z ey ez hij => h.apart (i + 1) (j + 1) y z (by simpa using ey) (by simpa using ez) (by omega)⟩
/-- The item behind the newest is let go. -/
theorem St.skip {x y : Itm} (h : St w0 W (x :: y :: L)) : St w0 W (x :: L) := by
  refine ⟨h.below, fun i z e => ?_, fun i j z u ez eu hij => ?_⟩
  · cases i with
    | zero => exact h.here 0 z e
    | succ i => exact h.here (i + 2) z (by simpa using e)
  · cases i with
    | zero =>
      cases j with
      | zero => exact absurd rfl hij
      | succ j => exact h.apart 0 (j + 2) z u ez (by simpa using eu) (by omega)
    | succ i =>
      cases j with
      | zero => exact h.apart (i + 2) 0 z u (by simpa using ez) eu (by omega)
      | succ j => exact h.apart (i + 2) (j + 2) z u (by simpa using ez) (by simpa using eu) (by omega)
/-- What one item held goes over to another one. -/
theorem St.give (h : St w0 W L) (i j : Nat) {x y : Itm} (ex : L[i]? = some x) (ey : L[j]? = some y) (hij : i ≠ j) (x' : Itm) (hl : x'.Loc) (hS : x'.S W) (hd : ∀ k, x'.D k → x.D k ∨ y.D k) : St w0 W ((L.set i x').set j empI) := by
  have hi : i < L.length := (List.getElem?_eq_some_iff.1 ex).1
  have hj : j < L.length := (List.getElem?_eq_some_iff.1 ey).1
  have get : ∀ m z, ((L.set i x').set j empI)[m]? = some z → (m = j ∧ z = empI) ∨ (m = i ∧ z = x') ∨ (m ≠ i ∧ m ≠ j ∧ L[m]? = some z) := fun m z ez => by
    rw [List.getElem?_set] at ez
    by_cases hm : j = m
    · rw [if_pos hm, if_pos (by simpa using by omega)] at ez
      exact .inl ⟨hm.symm, by simpa using ez.symm⟩
    · rw [if_neg hm, List.getElem?_set] at ez
      by_cases hmi : i = m
      · rw [if_pos hmi, if_pos (by omega)] at ez
        exact .inr (.inl ⟨hmi.symm, by simpa using ez.symm⟩)
      · rw [if_neg hmi] at ez
        exact .inr (.inr ⟨Ne.symm hmi, Ne.symm hm, ez⟩)
  refine ⟨h.below, fun m z ez => ?_, fun m n y' z' ey' ez' hmn k hy hz => ?_⟩
  · rcases get m z ez with ⟨_, rfl⟩ | ⟨_, rfl⟩ | ⟨_, _, e⟩
    · exact ⟨fun _ _ _ _ _ => trivial, trivial, fun k hk => hk.elim⟩
    · exact ⟨hl, hS, fun k hk => (hd k hk).elim ((h.here i x ex).2.2 k) ((h.here j y ey).2.2 k)⟩
    · exact h.here m z e
  · rcases get m y' ey' with ⟨_, rfl⟩ | ⟨h1, rfl⟩ | ⟨h1, h2, e1⟩
    · exact hy.elim
    · rcases get n z' ez' with ⟨_, rfl⟩ | ⟨h3, rfl⟩ | ⟨h3, h4, e2⟩
      · exact hz.elim
      · omega
      · rcases hd k hy with hx | hx
        · exact h.apart i n x z' ex e2 (Ne.symm h3) k hx hz
        · exact h.apart j n y z' ey e2 (Ne.symm h4) k hx hz
    · rcases get n z' ez' with ⟨_, rfl⟩ | ⟨h3, rfl⟩ | ⟨h3, h4, e2⟩
      · exact hz.elim
      · rcases hd k hz with hx | hx
        · exact h.apart i m x y' ex e1 (Ne.symm h1) k hx hy
        · exact h.apart j m y y' ey e1 (Ne.symm h2) k hx hy
      · exact h.apart m n y' z' e1 e2 hmn k hy hz
end
/-- What an operand holds, by looking. -/
def ValOf (a : Act) : Operand → Value → Prop
  | .tmp n, v => a.tmps.toList[n]? = some v
  | .const c, v => c = v
  | y, v => a.eval y = v
theorem ValOf.eval {a : Act} {y : Operand} {v : Value} (h : ValOf a y v) : a.eval y = v := by
  cases y
  case tmp n =>
    have h : a.tmps.toList[n]? = some v := h
    show a.tmps.getD n undef = v
    rw [Array.getElem?_toList] at h
    rw [Array.getD_eq_getD_getElem?, h]
    rfl
  all_goals exact h
/-- What a load of one cell hands back. -/
theorem run_loadVar_one {P : Program} (w : World) (a : Addr) (ty : TypeId) (v : Value) (hc : w.cell? a = some v) (hp : (P.underlying ty).any (fun d => !d.isRow) = true) : (loadVar ty a).run P w = .ok v w := by
  cases hd : P.underlying ty with
  | none => rw [hd] at hp; cases hp
  | some d =>
    rw [hd] at hp
    have hagg : (isAgg ty).run P w = .ok false w := by
      unfold isAgg
      rw [Sem.run_bind, run_underlying hd w]
      cases d <;> simp_all
    simp [loadVar, Sem.run_bind, hagg, hc]
theorem wpList_load_one {P : Program} {ops : Array Oper} {rest : List Oper} {op : Oper} {a : Act} {w : World} {Q : Exit → Act → World → Prop} (ty : TypeId) (x : Operand) (ho : op.op = .load ty x) (hgd : Region.wanted op (yielded ops a.tmps) = true) (ad : Addr) (hx : a.eval x = .pointer (some ad)) (v : Value)
    (hp : (P.underlying ty).any (fun d => !d.isRow) = true) (h : w.cell? ad = some v) (hw : wpList P ops Q rest (a.put op.dst v) w) : wpList P ops Q (op :: rest) a w := by
  refine BigFrame.wpList_want hgd fun _ hK => ?_
  unfold Oper.wp execOp
  simp only [ho, hx, Instr.loadAt, Instr.sureAddr, Sem.run_bind, Sem.run_pure, Result.andThen_ok, run_loadVar_one w ad ty v h hp]
  exact hK _ _ hw
/-- A load of one cell of an item. -/
theorem st_load1 {w0 : World} {L : List Itm} {P : Program} {ops : Array Oper} {rest : List Oper} {op : Oper} {a : Act} {w : World} {Q : Exit → Act → World → Prop} (HS : Hid (St w0 w L)) (i : Nat) {b : Nat} {l : List Value} (e : L[i]? = some (blkI b l)) (ty : TypeId) (x : Operand) (ho : op.op = .load ty x) (o : Nat) (hx : a.eval x = .pointer (some ⟨b, o, none⟩)) (hgd : Region.wanted op (yielded ops a.tmps) = true)
    (hp : (P.underlying ty).any (fun d => !d.isRow) = true) {v : Value} (hv : l[o]? = some v) (hw : wpList P ops Q rest (a.put op.dst v) w) : wpList P ops Q (op :: rest) a w :=
  wpList_load_one ty x ho hgd _ hx v hp ((HS.out.blk i e).cell o v hv) hw
/-- A load of an item whole. -/
theorem st_loadA {w0 : World} {L : List Itm} {P : Program} {ops : Array Oper} {rest : List Oper} {op : Oper} {a : Act} {w : World} {Q : Exit → Act → World → Prop} (HS : Hid (St w0 w L)) (i : Nat) {b : Nat} {l : List Value} (e : L[i]? = some (blkI b l)) (ty : TypeId) (x : Operand) (ho : op.op = .load ty x) (hx : a.eval x = .pointer (some ⟨b, 0, none⟩)) (hgd : Region.wanted op (yielded ops a.tmps) = true)
    (hr : (P.underlying ty).any (·.isRow) = true) (hi : (P.info? ty).map (·.size) = some l.length) (hw : wpList P ops Q rest (a.put op.dst (.agg l.toArray)) w) : wpList P ops Q (op :: rest) a w :=
  wpList_load_at ty x ho hgd b 0 hx l hr hi (HS.out.blk i e).range hw
/-- A load of some cells of an item. -/
theorem st_loadR {w0 : World} {L : List Itm} {P : Program} {ops : Array Oper} {rest : List Oper} {op : Oper} {a : Act} {w : World} {Q : Exit → Act → World → Prop} (HS : Hid (St w0 w L)) (i : Nat) {b : Nat} {l : List Value} (e : L[i]? = some (blkI b l)) (ty : TypeId) (x : Operand) (ho : op.op = .load ty x) (o : Nat) (hx : a.eval x = .pointer (some ⟨b, o, none⟩)) (hgd : Region.wanted op (yielded ops a.tmps) = true)
    (hr : (P.underlying ty).any (·.isRow) = true) (cs r : List Value) (hi : (P.info? ty).map (·.size) = some cs.length) (hl : l.drop o = cs ++ r) (hw : wpList P ops Q rest (a.put op.dst (.agg cs.toArray)) w) : wpList P ops Q (op :: rest) a w := by
  refine wpList_load_at ty x ho hgd b o hx cs hr hi (fun j v hj => ?_) hw
  refine (HS.out.blk i e).cell (o + j) v ?_
  have : (l.drop o)[j]? = some v := by rw [hl, List.getElem?_append_left (List.getElem?_eq_some_iff.1 hj).1]; exact hj
  simpa using this
theorem run_storeVar_one {P : Program} (w : World) (a : Addr) (ty : TypeId) (u v : Value) (hc : w.cell? a = some u) (hf : w.frozen? a = false) (h1 : v.oneCell' = true) (hi : (P.info? ty).map (·.size) = some 1) : (storeVar ty a v).run P w = .ok () (w.setCell a v) := by
  have hv : v.cells = #[v] := by cases v <;> first | rfl | cases h1
  obtain ⟨b, o, s⟩ := a
  have hs : s = none := by simpa using World.cell?_spot hc
  subst hs
  have := run_storeCells_cells (P := P) b o [v] 0 w (fun j hj => by simp at hj; subst hj; simpa using (by rw [hc]; rfl : (w.cell? ⟨b, o, none⟩).isSome = true)) (fun j hj => by simp at hj; subst hj; simpa using hf) (fun x hx => by simp at hx; subst hx; exact h1)
  cases hq : P.info? ty with
  | none => simp [hq] at hi
  | some i =>
    have hs : i.size = 1 := by simp [hq] at hi; omega
    simp only [Nat.add_zero] at this
    simp [storeVar, sizeOf, typeInfo, hq, hv, hs, this, World.setCells]
theorem wpList_store_one {P : Program} {ops : Array Oper} {rest : List Oper} {op : Oper} {a : Act} {w : World} {Q : Exit → Act → World → Prop} (ty : TypeId) (x y : Operand) (ho : op.op = .store ty x y) (hgd : Region.wanted op (yielded ops a.tmps) = true) (ad : Addr) (hx : a.eval x = .pointer (some ad)) (u v : Value) (hy : a.eval y = v)
    (hi : (P.info? ty).map (·.size) = some 1) (h1 : v.oneCell' = true) (hc : w.cell? ad = some u) (hf : w.frozen? ad = false) (hw : wpList P ops Q rest (a.put op.dst undef) (w.setCell ad v)) : wpList P ops Q (op :: rest) a w := by
  refine BigFrame.wpList_want hgd fun _ hK => ?_
  unfold Oper.wp execOp
  simp only [ho, hx, hy, Instr.storeAt, Instr.sureAddr, Sem.run_bind, Sem.run_pure, Result.andThen_ok, run_storeVar_one w ad ty u v hc hf h1 hi]
  exact hK _ _ hw
/-- A store into one cell of an item. -/
theorem st_store1 {w0 : World} {L : List Itm} {P : Program} {ops : Array Oper} {rest : List Oper} {op : Oper} {a : Act} {w : World} {Q : Exit → Act → World → Prop} (HS : Hid (St w0 w L)) (i : Nat) {b : Nat} {l : List Value} (e : L[i]? = some (blkI b l)) (ty : TypeId) (x y : Operand) (ho : op.op = .store ty x y) (o : Nat) (hx : a.eval x = .pointer (some ⟨b, o, none⟩)) (hgd : Region.wanted op (yielded ops a.tmps) = true)
    {v : Value} (hy : ValOf a y v) (hi : (P.info? ty).map (·.size) = some 1) (h1 : v.oneCell' = true) {u : Value} (hu : l[o]? = some u) (hw : ∀ W, Hid (St w0 W (L.set i (blkI b (l.set o v)))) → wpList P ops Q rest (a.put op.dst undef) W) : wpList P ops Q (op :: rest) a w :=
  have B := HS.out.blk i e
  wpList_store_one ty x y ho hgd _ hx u v hy.eval hi h1 (B.cell o u hu) (B.frozen o) (hw _ (HS.out.setBlk i e _ ((Touch.refl b (b + 1) w).setCell (a := ⟨b, o, none⟩) (Nat.le_refl b) (Nat.lt_succ_self b) v) (B.set o v)))
/-- A store over an item whole. -/
theorem st_storeA {w0 : World} {L : List Itm} {P : Program} {ops : Array Oper} {rest : List Oper} {op : Oper} {a : Act} {w : World} {Q : Exit → Act → World → Prop} (HS : Hid (St w0 w L)) (i : Nat) {b : Nat} {l : List Value} (e : L[i]? = some (blkI b l)) (ty : TypeId) (x y : Operand) (ho : op.op = .store ty x y) (hx : a.eval x = .pointer (some ⟨b, 0, none⟩)) (hgd : Region.wanted op (yielded ops a.tmps) = true)
    (vs : List Value) (hy : ValOf a y (.agg vs.toArray)) (hl : vs.length = l.length) (hi : (P.info? ty).map (·.size) = some vs.length) (h1 : vs.all (·.oneCell') = true) (hw : ∀ W, Hid (St w0 W (L.set i (blkI b vs))) → wpList P ops Q rest (a.put op.dst undef) W) : wpList P ops Q (op :: rest) a w :=
  have B := HS.out.blk i e
  wpList_store_all hgd ty x y ho b l vs hx hy.eval B hl hi h1 fun W BW TW sW => hw W (HS.out.setBlk i e vs TW BW)
/-- A store over some cells of an item. -/
theorem st_storeR {w0 : World} {L : List Itm} {P : Program} {ops : Array Oper} {rest : List Oper} {op : Oper} {a : Act} {w : World} {Q : Exit → Act → World → Prop} (HS : Hid (St w0 w L)) (i : Nat) {b : Nat} {l : List Value} (e : L[i]? = some (blkI b l)) (ty : TypeId) (x y : Operand) (ho : op.op = .store ty x y) (o : Nat) (hx : a.eval x = .pointer (some ⟨b, o, none⟩)) (hgd : Region.wanted op (yielded ops a.tmps) = true)
    (vs : List Value) (hy : ValOf a y (.agg vs.toArray)) (hl : o + vs.length ≤ l.length) (hi : (P.info? ty).map (·.size) = some vs.length) (h1 : vs.all (·.oneCell') = true) (hw : ∀ W, Hid (St w0 W (L.set i (blkI b (setL l o vs)))) → wpList P ops Q rest (a.put op.dst undef) W) : wpList P ops Q (op :: rest) a w := by
  have B := HS.out.blk i e
  refine BigFrame.wpList_want hgd fun _ hK => wp_store_mid ty x y ho b o vs.toArray hx hy.eval (fun j hj => ?_) (by simpa using hi) (by simpa using h1) (hK _ _ (hw _ (HS.out.setBlk i e _ (Touch.setCells _ _ _) (Blk.setCells vs o B))))
  have hj' : o + j < l.length := by have : j < vs.length := by simpa using hj
                                    omega
  refine ⟨?_, B.frozen _⟩
  rw [B.cell (o + j) l[o + j] (List.getElem?_eq_getElem hj')]
  rfl
/-- A new item: a variable that holds a value of many cells; of one; a blank one. -/
theorem run_newVar {P : Program} (w : World) (t : TypeId) (v : Value) : (newVar t v).run P w = .ok ⟨w.heap.size, 0, none⟩ (w.alloc (.cells v.cells t)) := by
  unfold newVar newRow
  simp [Sem.run_bind, go_sem]
theorem st_box {w0 : World} {L : List Itm} {P : Program} {ops : Array Oper} {rest : List Oper} {op : Oper} {a : Act} {w : World} {Q : Exit → Act → World → Prop} (HS : Hid (St w0 w L)) (ty : TypeId) (x : Operand) (ho : op.op = .box ty x) (hgd : Region.wanted op (yielded ops a.tmps) = true) (l : List Value) (hx : (a.eval x).cells = l.toArray)
    (hw : ∀ W b, Hid (St w0 W (blkI b l :: L)) → wpList P ops Q rest (a.put op.dst (.pointer (some ⟨b, 0, none⟩))) W) : wpList P ops Q (op :: rest) a w := by
  refine BigFrame.wpList_want hgd fun _ hK => ?_
  unfold Oper.wp execOp
  simp only [ho, Instr.box, Sem.run_bind, Sem.run_pure, Result.andThen_ok, run_newVar, hx]
  exact hK _ _ (hw _ _ (HS.out.alloc l ty))
theorem st_alloc {w0 : World} {L : List Itm} {P : Program} {ops : Array Oper} {rest : List Oper} {op : Oper} {a : Act} {w : World} {Q : Exit → Act → World → Prop} (HS : Hid (St w0 w L)) (ty : TypeId) (ho : op.op = .alloc ty) (hgd : Region.wanted op (yielded ops a.tmps) = true) (l : List Value) (hz : ((P.info? ty).bind (·.zero)).map (·.cells) = some l.toArray)
    (hw : ∀ W b, Hid (St w0 W (blkI b l :: L)) → wpList P ops Q rest (a.put op.dst (.pointer (some ⟨b, 0, none⟩))) W) : wpList P ops Q (op :: rest) a w := by
  refine BigFrame.wpList_want hgd fun _ hK => ?_
  cases hq : P.info? ty with
  | none => simp [hq] at hz
  | some i =>
    cases hzz : i.zero with
    | none => simp [hq, hzz] at hz
    | some z =>
      have hc : z.cells = l.toArray := by simpa [hq, hzz] using hz
      have hzv : (zeroValue ty).run P w = .ok z w := by simp [zeroValue, typeInfo, Sem.run_bind, hq, hzz]
      unfold Oper.wp execOp
      simp only [ho, Instr.alloc, Sem.run_bind, hzv, Sem.run_pure, Result.andThen_ok, run_newVar, hc]
      exact hK _ _ (hw _ _ (HS.out.alloc l ty))
section
variable {w0 w : World} {L : List Itm} {P : Program} {op : Oper} {a : Act} {K : Act → World → Prop} {Q : Exit → Act → World → Prop}
theorem stw_store1 (HS : Hid (St w0 w L)) (i : Nat) {b : Nat} {l : List Value} (e : L[i]? = some (blkI b l)) (ty : TypeId) (x y : Operand) (ho : op.op = .store ty x y) (o : Nat) (hx : a.eval x = .pointer (some ⟨b, o, none⟩))
    {v : Value} (hy : ValOf a y v) (hi : (P.info? ty).map (·.size) = some 1) (h1 : v.oneCell' = true) {u : Value} (hu : l[o]? = some u) (hw : ∀ W, Hid (St w0 W (L.set i (blkI b (l.set o v)))) → K (a.put op.dst undef) W) : op.wp P a w K Q := by
  have B := HS.out.blk i e
  unfold Oper.wp execOp
  simp only [ho, hx, hy.eval, Instr.storeAt, Instr.sureAddr, Sem.run_bind, Sem.run_pure, Result.andThen_ok, run_storeVar_one w ⟨b, o, none⟩ ty u v (B.cell o u hu) (B.frozen o) h1 hi]
  exact hw _ (HS.out.setBlk i e _ ((Touch.refl b (b + 1) w).setCell (a := ⟨b, o, none⟩) (Nat.le_refl b) (Nat.lt_succ_self b) v) (B.set o v))
theorem stw_storeA (HS : Hid (St w0 w L)) (i : Nat) {b : Nat} {l : List Value} (e : L[i]? = some (blkI b l)) (ty : TypeId) (x y : Operand) (ho : op.op = .store ty x y) (hx : a.eval x = .pointer (some ⟨b, 0, none⟩))
    (vs : List Value) (hy : ValOf a y (.agg vs.toArray)) (hl : vs.length = l.length) (hi : (P.info? ty).map (·.size) = some vs.length) (h1 : vs.all (·.oneCell') = true) (hw : ∀ W, Hid (St w0 W (L.set i (blkI b vs))) → K (a.put op.dst undef) W) : op.wp P a w K Q := by
  have B := HS.out.blk i e
  refine wp_store_mid ty x y ho b 0 vs.toArray hx hy.eval (fun j hj => ?_) (by simpa using hi) (by simpa using h1) (hw _ (HS.out.setBlk i e vs (Touch.setCells _ _ _) ?_))
  · have hj' : j < l.length := by simpa [hl] using hj
    refine ⟨?_, B.frozen _⟩
    rw [Nat.zero_add, B.cell j l[j] (List.getElem?_eq_getElem hj')]
    rfl
  · have := Blk.setCells vs 0 B
    rw [setL_all hl] at this
    simpa using this
theorem stw_alloc (HS : Hid (St w0 w L)) (ty : TypeId) (ho : op.op = .alloc ty) (l : List Value) (hz : ((P.info? ty).bind (·.zero)).map (·.cells) = some l.toArray)
    (hw : ∀ W b, Hid (St w0 W (blkI b l :: L)) → K (a.put op.dst (.pointer (some ⟨b, 0, none⟩))) W) : op.wp P a w K Q := by
  cases hq : P.info? ty with
  | none => simp [hq] at hz
  | some i =>
    cases hzz : i.zero with
    | none => simp [hq, hzz] at hz
    | some z =>
      have hc : z.cells = l.toArray := by simpa [hq, hzz] using hz
      have hzv : (zeroValue ty).run P w = .ok z w := by simp [zeroValue, typeInfo, Sem.run_bind, hq, hzz]
      unfold Oper.wp execOp
      simp only [ho, Instr.alloc, Sem.run_bind, hzv, Sem.run_pure, Result.andThen_ok, run_newVar, hc]
      exact hw _ _ (HS.out.alloc l ty)
end
end Go.Proofs.YtaaenolbfhhnfaaGreat
namespace Go.Proofs.YtaaenolbfhhnfaaGreat
open Go.RowKit
set_option linter.unusedSimpArgs false
set_option linter.unusedVariables false
section
variable {P : Program} {ops : Array Oper} {Q : Exit → Act → World → Prop} {md : Region.Mode} {C : World → Prop}
theorem nil_val {o : Oper} {x : Operand} (ho : o.op = .nilCheck x) {ρ : Operand → Value} {w w' : World} {n : Next} (h : (execOp ρ o).run P w = .ok n w') : ∃ v, n = .value v := by
  unfold execOp at h
  simp only [ho] at h
  split at h
  · simp [runtimePanic] at h
  · simp [runtimePanic] at h
  · simp [runtimePanic] at h
  · split at h
    · simp [runtimePanic] at h
    · rw [Sem.run_bind] at h
      cases hp : Sem.run P program w with
      | ok p w1 =>
        rw [hp] at h
        simp only [Result.andThen_ok] at h
        rw [Sem.run_bind] at h
        rename_i ty v _
        cases hq : Sem.run P (nilAhead (p.types.size + Made.depth) ty v ‹String›) w1 with
        | ok b w2 =>
          rw [hq] at h
          simp only [Result.andThen_ok] at h
          split at h
          · simp [Sem.run_bind, unsupported, Result.andThen] at h
          · simp at h
            exact ⟨_, h.1.symm⟩
        | halt c w2 =>
          rw [hq] at h
          simp [Result.andThen] at h
      | halt c w1 =>
        rw [hp] at h
        simp [Result.andThen] at h
    · simp at h
      exact ⟨_, h.1.symm⟩
  · simp at h
    exact ⟨_, h.1.symm⟩
/-- Operations that hand back a value, or halt. -/
def plainB : Op → Bool
  | .move _ | .assign _ | .pick .. | .nilCheck _ | .load .. | .build .. | .fieldAddr .. | .field .. | .indexAddr .. | .index .. | .binOp .. | .unOp .. | .extract .. | .convert .. | .slice .. => true
  | .call c => (match c.callee with | .builtin .len => true | .builtin .min => true | _ => false)
  | _ => false
theorem val_of_bind {s : Sem Value} {w w' : World} {n : Next} (h : (do pure (Next.value (← s)) : Sem Next).run P w = .ok n w') : ∃ v, n = .value v := by
  rw [Sem.run_bind] at h
  cases hr : s.run P w with
  | ok x w1 =>
    rw [hr] at h
    simp [Result.andThen] at h
    exact ⟨_, h.1.symm⟩
  | halt x w1 =>
    rw [hr] at h
    simp [Result.andThen] at h
theorem val_of_plain {o : Oper} {ρ : Operand → Value} {w w' : World} {n : Next} (hp : plainB o.op = true) (h : (execOp ρ o).run P w = .ok n w') : ∃ v, n = .value v := by
  obtain ⟨dst, op, type, pos, after, guard⟩ := o
  cases op <;> first | (simp [plainB] at hp; done) | skip
  case move x => simp [execOp] at h; exact ⟨_, h.1.symm⟩
  case nilCheck x => exact nil_val rfl h
  case assign x => simp [execOp] at h; exact ⟨_, h.1.symm⟩
  case pick c a b =>
    unfold execOp at h
    simp only [] at h
    rw [Sem.run_bind] at h
    cases hr : (asBool (ρ c)).run P w with
    | ok x w1 =>
      rw [hr] at h
      simp [Result.andThen] at h
      exact ⟨_, h.1.symm⟩
    | halt x w1 =>
      rw [hr] at h
      simp [Result.andThen] at h
  case call c =>
    obtain ⟨callee, args, ats⟩ := c
    cases callee <;> first | (simp [plainB] at hp; done) | skip
    case builtin b =>
      cases b <;> first | (simp [plainB] at hp; done) | skip
      all_goals
        rw [BigFrame.execOp_builtin] at h
        simp only [BigFrame.builtin_len, BigFrame.builtin_min] at h
        exact val_of_bind h
  all_goals exact val_of_bind h
/-- What the quiet walk shows of an operation that is plain. -/
theorem yieldsIf_of_quiet {o : Oper} {v : Value} {a : Act} (hp : plainB o.op = true) (hw : Region.wanted o (yielded ops a.tmps) = true) (h : ∀ w, C w → o.quietAt P a C w v) : YieldsIf P ops C o v a := by
  refine .inl ⟨hw, fun w hC => ?_⟩
  have := h w hC
  unfold Oper.quietAt at this
  cases hr : (execOp a.eval o).run P w with
  | ok n w' =>
    obtain ⟨u, rfl⟩ := val_of_plain hp hr
    rw [hr] at this
    simp only [Oper.quietUpon] at this
    rw [this.1, this.2]
  | halt x w' => rw [hr] at this; exact this.elim
/-- Whatever order is picked from here on, and C holds behind every operation but the late ones (behind a neutral one, if it held ahead). -/
def wpAnyL (P : Program) (md : Region.Mode) (ops : Array Oper) (Q : Exit → Act → World → Prop) (C : World → Prop) (late neut : Nat → Bool) : Nat → Array Bool → Act → World → Prop
  | 0, listed, a, w => Region.ready md ops listed = [] ∧ Q .normal a w
  | fuel + 1, listed, a, w =>
    (Region.ready md ops listed = [] → Q .normal a w) ∧
    ∀ i ∈ Region.ready md ops listed, wpOp P ops Q i (fun a' w' => (late i = false → (neut i = true → C w) → C w') ∧ wpAnyL P md ops Q C late neut fuel (listed.setIfInBounds i true) a' w') a w
variable {late neut : Nat → Bool}
theorem wpAny_of_late : ∀ (fuel : Nat) (listed : Array Bool) (a : Act) (w : World), wpAnyL P md ops Q C late neut fuel listed a w → wpAny P md ops Q fuel listed a w
  | 0, _, _, _, h => h
  | fuel + 1, _, _, _, h => ⟨h.1, fun i hi => wpOp_mono (fun a' w' h' => wpAny_of_late fuel _ a' w' h'.2) (h.2 i hi)⟩
theorem wpAnyL_first {i : Nat} {oi : Oper} {v : Value} (hi : ops[i]? = some oi) (hsel : ∀ (j : Nat) (o : Oper) cs b, ops[j]? = some o → o.op ≠ .select cs b)
    (hQ : ∀ c a w, Q (.panic c) (a.put oi.dst v) w → Q (.panic c) a w) (hl : ∀ j oj, ops[j]? = some oj → late j = true → ∃ e ∈ oj.after, Region.binds md e = true ∧ e.on = i) :
    ∀ (fuel : Nat) (listed : Array Bool) (a : Act) (w : World),
      (∀ j oj, ops[j]? = some oj → j ≠ i → listed.getD j true = false → (∀ e ∈ oj.after, Region.binds md e = true → e.on ≠ i) → oi.apart ops oj = true) →
      i ∈ Region.ready md ops listed → YieldsIf P ops C oi v a → C w →
      wpAnyL P md ops Q C late neut fuel (listed.setIfInBounds i true) (a.put oi.dst v) w → wpAnyL P md ops Q C late neut (fuel + 1) listed a w := by
  intro fuel
  induction fuel with
  | zero =>
    intro listed a w _ hr hy hS H
    refine ⟨fun h => (by rw [h] at hr; cases hr), fun j hj => ?_⟩
    by_cases hji : j = i
    · subst hji; exact hy.wpOp hi hS ⟨fun _ _ => hS, H⟩
    · have := ready_mono hj hji
      rw [H.1] at this
      cases this
  | succ fuel ih =>
    intro listed a w hfree hr hy hS H
    refine ⟨fun h => (by rw [h] at hr; cases hr), fun j hj => ?_⟩
    by_cases hji : j = i
    · subst hji; exact hy.wpOp hi hS ⟨fun _ _ => hS, H⟩
    · have h1 := H.2 j (ready_mono hj hji)
      obtain ⟨hjun, oj, hoj, hall⟩ := mem_ready.1 hj
      have hnot : ∀ e ∈ oj.after, Region.binds md e = true → e.on ≠ i := fun e he hb heq => by
        have h1 := hall e he hb
        have h0 := (mem_ready.1 hr).1
        rw [heq] at h1
        rcases Nat.lt_or_ge i listed.size with h' | h'
        · simp [h'] at h0 h1; rw [h0] at h1; cases h1
        · simp [Array.getElem?_eq_none h'] at h1
      have hlj : late j = false := by
        cases hc : late j with
        | false => rfl
        | true =>
          obtain ⟨e, he, hb, heq⟩ := hl j oj hoj hc
          exact absurd heq (hnot e he hb)
      have h2 := wpOp_putIf hoj (hfree j oj hoj hji hjun hnot) (fun cs b => hsel i oi cs b hi) (fun cs b => hsel j oj cs b hoj) hQ hy h1
      have hfree' : ∀ k ok, ops[k]? = some ok → k ≠ i → (listed.setIfInBounds j true).getD k true = false →
          (∀ e ∈ ok.after, Region.binds md e = true → e.on ≠ i) → oi.apart ops ok = true := fun k ok hk hki hun hno => by
        refine hfree k ok hk hki ?_ hno
        by_cases hjk : j = k
        · subst hjk; exact hjun
        · rw [getD_set_ne true hjk] at hun; exact hun
      refine wpOp_mono (fun a' w' h3 => ⟨h3.2.1, ih (listed.setIfInBounds j true) a' w' hfree' (ready_mono hr (Ne.symm hji)) h3.1 (h3.2.1 hlj fun _ => hS) ?_⟩) h2
      rw [Array.setIfInBounds_comm _ _ hji]
      exact h3.2.2
theorem wpAnyL_worldless {i : Nat} {oi : Oper} {v : Value} (hi : ops[i]? = some oi) (hsel : ∀ (j : Nat) (o : Oper) cs b, ops[j]? = some o → o.op ≠ .select cs b)
    (hQ : ∀ c a w, Q (.panic c) (a.put oi.dst v) w → Q (.panic c) a w) (hli : late i = true ∨ neut i = true) :
    ∀ (fuel : Nat) (listed : Array Bool) (a : Act) (w : World),
      (∀ j oj, ops[j]? = some oj → j ≠ i → listed.getD j true = false → (∀ e ∈ oj.after, Region.binds md e = true → e.on ≠ i) → oi.apart ops oj = true) →
      i ∈ Region.ready md ops listed → Yields P ops oi v a →
      wpAnyL P md ops Q C late neut fuel (listed.setIfInBounds i true) (a.put oi.dst v) w → wpAnyL P md ops Q C late neut (fuel + 1) listed a w := by
  intro fuel
  induction fuel with
  | zero =>
    intro listed a w _ hr hy H
    refine ⟨fun h => (by rw [h] at hr; cases hr), fun j hj => ?_⟩
    by_cases hji : j = i
    · subst hji; exact hy.wpOp hi ⟨fun h hc => hc (hli.resolve_left (by rw [h]; decide)), H⟩
    · have := ready_mono hj hji
      rw [H.1] at this
      cases this
  | succ fuel ih =>
    intro listed a w hfree hr hy H
    refine ⟨fun h => (by rw [h] at hr; cases hr), fun j hj => ?_⟩
    by_cases hji : j = i
    · subst hji; exact hy.wpOp hi ⟨fun h hc => hc (hli.resolve_left (by rw [h]; decide)), H⟩
    · have h1 := H.2 j (ready_mono hj hji)
      obtain ⟨hjun, oj, hoj, hall⟩ := mem_ready.1 hj
      have hnot : ∀ e ∈ oj.after, Region.binds md e = true → e.on ≠ i := fun e he hb heq => by
        have h1 := hall e he hb
        have h0 := (mem_ready.1 hr).1
        rw [heq] at h1
        rcases Nat.lt_or_ge i listed.size with h' | h'
        · simp [h'] at h0 h1; rw [h0] at h1; cases h1
        · simp [Array.getElem?_eq_none h'] at h1
      have h2 := wpOp_put hoj (hfree j oj hoj hji hjun hnot) (fun cs b => hsel i oi cs b hi) (fun cs b => hsel j oj cs b hoj) hQ hy h1
      have hfree' : ∀ k ok, ops[k]? = some ok → k ≠ i → (listed.setIfInBounds j true).getD k true = false →
          (∀ e ∈ ok.after, Region.binds md e = true → e.on ≠ i) → oi.apart ops ok = true := fun k ok hk hki hun hno => by
        refine hfree k ok hk hki ?_ hno
        by_cases hjk : j = k
        · subst hjk; exact hjun
        · rw [getD_set_ne true hjk] at hun; exact hun
      refine wpOp_mono (fun a' w' h3 => ⟨h3.2.1, ih (listed.setIfInBounds j true) a' w' hfree' (ready_mono hr (Ne.symm hji)) h3.1 ?_⟩) h2
      rw [Array.setIfInBounds_comm _ _ hji]
      exact h3.2.2
/-- May what only reads come first, in this order, and must the rest come so, one behind another (marks: 0; 1, late; 2, late and looking at no memory: it may come whenever)? -/
def lateWaits (md : Region.Mode) (ops : Array Oper) (late : List Nat) (q : Nat) : Bool :=
  late.all fun j => (((ops[j]?).map fun o => o.after.any fun e => Region.binds md e && e.on == q).getD false)
def okTail (md : Region.Mode) (ops : Array Oper) (late neut : List Nat) : List Nat → List Nat → Array Bool → Bool
  | t :: ts, b :: bs, l => (match b with
      | 2 => Region.free md ops l t && (Region.ready md ops l).contains t && late.contains t
      | 3 => Region.free md ops l t && (Region.ready md ops l).contains t && neut.contains t
      | _ => Region.ready md ops l == [t]) && okTail md ops late neut ts bs (l.setIfInBounds t true)
  | [], [], l => (Region.ready md ops l == [])
  | _, _, _ => false
def okTake (md : Region.Mode) (ops : Array Oper) (late neut ts bs : List Nat) : List Nat → Array Bool → Bool
  | q :: qs, l => Region.free md ops l q && (Region.ready md ops l).contains q && lateWaits md ops late q && ((ops[q]?).map fun o => plainB o.op).getD false && okTake md ops late neut ts bs qs (l.setIfInBounds q true)
  | [], l => okTail md ops late neut ts bs l
/-- What is left, one behind another. -/
def wpTail (P : Program) (ops : Array Oper) (Q : Exit → Act → World → Prop) (C : World → Prop) (late : List Nat) : List Nat → List Nat → Act → World → Prop
  | t :: ts, b :: bs, a, w => (match b with
      | 2 => ∃ o v, ops[t]? = some o ∧ Yields P ops o v a ∧ wpTail P ops Q C late ts bs (a.put o.dst v) w
      | 3 => ∃ o v, ops[t]? = some o ∧ Yields P ops o v a ∧ wpTail P ops Q C late ts bs (a.put o.dst v) w
      | _ => wpOp P ops Q t (fun a' w' => (late.contains t = false → C w') ∧ wpTail P ops Q C late ts bs a' w') a w)
  | _, _, a, w => Q .normal a w
theorem any_of_tail {late neut : List Nat} (hsel : ∀ (j : Nat) (o : Oper) cs b, ops[j]? = some o → o.op ≠ .select cs b) (hQ : ∀ c a d v w, Q (.panic c) (a.put d v) w → Q (.panic c) a w) : ∀ (ts bs : List Nat) (l : Array Bool) (a : Act) (w : World), okTail md ops late neut ts bs l = true → wpTail P ops Q C late ts bs a w → wpAnyL P md ops Q C late.contains neut.contains ts.length l a w
  | [], [], l, a, w, hok, h => ⟨by simpa [okTail] using hok, h⟩
  | [], _ :: _, _, _, _, hok, _ => by simp [okTail] at hok
  | _ :: _, [], _, _, _, hok, _ => by simp [okTail] at hok
  | t :: ts, b :: bs, l, a, w, hok, h => by
    simp only [okTail, Bool.and_eq_true] at hok
    by_cases hb : b = 2
    · subst hb
      obtain ⟨o, v, ho, hy, hk⟩ := h
      simp only [Bool.and_eq_true] at hok
      exact wpAnyL_worldless ho hsel (fun c a w => hQ c a o.dst v w) (.inl hok.1.2) _ l a w (Region.free_spec ho hok.1.1.1) (by simpa using hok.1.1.2) hy (any_of_tail hsel hQ ts bs _ _ w hok.2 hk)
    by_cases hb3 : b = 3
    · subst hb3
      obtain ⟨o, v, ho, hy, hk⟩ := h
      simp only [Bool.and_eq_true] at hok
      exact wpAnyL_worldless ho hsel (fun c a w => hQ c a o.dst v w) (.inr hok.1.2) _ l a w (Region.free_spec ho hok.1.1.1) (by simpa using hok.1.1.2) hy (any_of_tail hsel hQ ts bs _ _ w hok.2 hk)
    · have hr : Region.ready md ops l = [t] := by
        have := hok.1
        split at this
        · exact absurd rfl hb
        · exact absurd rfl hb3
        · simpa using this
      have hk : wpOp P ops Q t (fun a' w' => (late.contains t = false → C w') ∧ wpTail P ops Q C late ts bs a' w') a w := by
        unfold wpTail at h
        split at h
        · exact absurd rfl hb
        · exact absurd rfl hb3
        · exact h
      refine ⟨fun h0 => (by rw [hr] at h0; cases h0), fun i hi => ?_⟩
      rw [hr, List.mem_singleton] at hi
      subst hi
      exact wpOp_mono (fun a' w' ⟨h1, h2⟩ => ⟨fun hl _ => h1 hl, any_of_tail hsel hQ ts bs _ a' w' hok.2 h2⟩) hk
theorem any_of_take {late neut ts bs : List Nat} (hsel : ∀ (j : Nat) (o : Oper) cs b, ops[j]? = some o → o.op ≠ .select cs b) (hQ : ∀ c a d v w, Q (.panic c) (a.put d v) w → Q (.panic c) a w) (w : World) (hC : C w) :
    ∀ (qs : List Nat) (os : List Oper) (l : Array Bool) (a : Act), qs.map (ops[·]?) = os.map some → okTake md ops late neut ts bs qs l = true → wpQuiet P ops C (fun a' => wpTail P ops Q C late ts bs a' w) os a → wpAnyL P md ops Q C late.contains neut.contains (qs.length + ts.length) l a w
  | [], [], l, a, _, hok, h => by
    rw [List.length_nil, Nat.zero_add]
    exact any_of_tail hsel hQ ts bs l a w hok h
  | [], _ :: _, _, _, he, _, _ => by simp at he
  | _ :: _, [], _, _, he, _, _ => by simp at he
  | q :: qs, o :: os, l, a, he, hok, h => by
    simp only [List.map_cons, List.cons.injEq] at he
    simp only [okTake, Bool.and_eq_true] at hok
    obtain ⟨⟨⟨⟨h1, h2⟩, h3⟩, h4⟩, h5⟩ := hok
    rw [he.1] at h4
    have hp : plainB o.op = true := by simpa using h4
    have hy : ∃ v, YieldsIf P ops C o v a ∧ wpQuiet P ops C (fun a' => wpTail P ops Q C late ts bs a' w) os (a.put o.dst v) := by
      unfold wpQuiet at h
      split at h
      · rename_i hw
        obtain ⟨v, hv, hk⟩ := h
        exact ⟨v, yieldsIf_of_quiet hp hw hv, hk⟩
      · rename_i hw
        exact ⟨undef, .inr ⟨by simpa using hw, rfl⟩, h⟩
    obtain ⟨v, hv, hk⟩ := hy
    rw [List.length_cons, show qs.length + 1 + ts.length = (qs.length + ts.length) + 1 by omega]
    refine wpAnyL_first he.1 hsel (fun c a w => hQ c a o.dst v w) (fun j oj hj hlj => ?_) _ l a w (Region.free_spec he.1 h1) (by simpa using h2) hv hC (any_of_take hsel hQ w hC qs os _ _ he.2 h5 hk)
    unfold lateWaits at h3
    rw [List.all_eq_true] at h3
    have := h3 j (by simpa using hlj)
    rw [hj] at this
    simp only [Option.map_some, Option.getD_some] at this
    obtain ⟨e, he', hb⟩ := Array.any_eq_true'.1 this
    simp only [Bool.and_eq_true, beq_iff_eq] at hb
    exact ⟨e, he', hb.1, hb.2⟩
/-- THE LAW: the quiet walk of what only reads, then the rest. -/
theorem wp_region_turn {id : Nat} {a : Act} {w : World} {l : List Oper} (qs ts bs late neut : List Nat) (os : List Oper) (C : World → Prop) (hm : P.follows .mixedOrders = true) (hs : Region.noSelect l.toArray = true) (he : qs.map (l.toArray[·]?) = os.map some)
    (hok : okTake .any l.toArray late neut ts bs qs (Array.replicate l.toArray.size false) = true) (hlen : qs.length + ts.length = l.toArray.size) (hC : C w.drew)
    (h : wpQuiet P l.toArray C (fun a' => wpTail P l.toArray (NoPanic Q) C late ts bs a' w.drew) os a) : (Code.region id l.toArray true).wp P Q a w := by
  refine wp_region_noPanic ?_
  refine wp_region_any hm (wpAny_of_late (C := C) (late := late.contains) (neut := neut.contains) _ _ _ _ ?_)
  rw [← hlen]
  exact any_of_take (Region.noSelect_spec hs) (fun _ _ _ _ _ h => h) w.drew hC qs os _ a he (by rw [hlen]; exact hok) h
theorem wpQuiet_mono' {Q1 Q2 : Act → Prop} (h : ∀ a, Q1 a → Q2 a) : ∀ {os : List Oper} {a : Act}, wpQuiet P ops C Q1 os a → wpQuiet P ops C Q2 os a
  | [], a, hh => h a hh
  | o :: os, a, hh => by
    unfold wpQuiet at hh ⊢
    split
    · rename_i hw
      rw [if_pos hw] at hh
      exact Oper.quiet_mono (fun a' => wpQuiet_mono' h) hh
    · rename_i hw
      rw [if_neg hw] at hh
      exact wpQuiet_mono' h hh
/-- Those that a mask names. -/
def pickAt : List Oper → List Bool → List Oper
  | o :: os, true :: m => o :: pickAt os m
  | _ :: os, false :: m => pickAt os m
  | _, _ => []
def maskIdx : Nat → List Bool → List Nat
  | _, [] => []
  | k, true :: m => k :: maskIdx (k + 1) m
  | k, false :: m => maskIdx (k + 1) m
theorem mask_ok {l : List Oper} : ∀ (m : List Bool) (k : Nat), k + m.length ≤ l.length → (maskIdx k m).map (l.toArray[·]?) = (pickAt (l.drop k) m).map some
  | [], k, _ => by simp [maskIdx]; cases l.drop k <;> rfl
  | b :: m, k, h => by
    have hk : k < l.length := by simp at h; omega
    have ih := mask_ok (l := l) m (k + 1) (by simp at h; omega)
    rw [List.drop_eq_getElem_cons hk]
    cases b
    · exact ih
    · simp only [maskIdx, pickAt, List.map_cons]
      rw [ih]
      simp [hk]
/-- A world of a class: what the walk's simp goes over. -/
structure Cls (C : World → Prop) where
  at_ : World
  ok : C at_
def InC (C : World → Prop) (w : World) : Prop := ∃ u : Cls C, w = u.at_
theorem InC.mk {C : World → Prop} {w : World} (h : C w) : InC C w := ⟨⟨w, h⟩, rfl⟩
theorem InC.out {C : World → Prop} {w : World} (h : ∃ u : Cls C, w = u.at_) : C w := by obtain ⟨u, rfl⟩ := h; exact u.ok
/-- What is left, one behind another, the operations themselves; a mark each. -/
def wpRest (P : Program) (ops : Array Oper) (Q : Exit → Act → World → Prop) (C : World → Prop) : List Nat → List Oper → Act → World → Prop
  | b :: bs, o :: os, a, w => (match b with
      | 2 => ∃ v, Yields P ops o v a ∧ wpRest P ops Q C bs os (a.put o.dst v) w
      | 3 => ∃ v, Yields P ops o v a ∧ wpRest P ops Q C bs os (a.put o.dst v) w
      | _ => if Region.wanted o (yielded ops a.tmps) = true then o.wp P a w (fun a' w' => (b = 0 → C w') ∧ wpRest P ops Q C bs os a' w') Q else ((b = 0 → C w) ∧ wpRest P ops Q C bs os (a.put o.dst undef) w))
  | _, _, a, w => Q .normal a w
theorem wpRest_cons {b : Nat} {bs : List Nat} {o : Oper} {os : List Oper} {a : Act} {w : World} (hb : (b != 2 && b != 3) = true) (hw : Region.wanted o (yielded ops a.tmps) = true)
    (h : ∀ K : Act → World → Prop, (∀ a' w', (b = 0 → C w') → wpRest P ops Q C bs os a' w' → K a' w') → o.wp P a w K Q) : wpRest P ops Q C (b :: bs) (o :: os) a w := by
  unfold wpRest
  split
  · simp at hb
  · simp at hb
  · rw [if_pos hw]
    exact h _ fun a' w' h1 h2 => ⟨h1, h2⟩
/-- A number handed on, whenever. -/
theorem wpRest_assign {bs : List Nat} {o : Oper} {os : List Oper} {a : Act} {w : World} (x : Operand) (ho : o.op = .assign x) (hw : Region.wanted o (yielded ops a.tmps) = true) {v : Value} (hx : ValOf a x v)
    (h : wpRest P ops Q C bs os (a.put o.dst v) w) : wpRest P ops Q C (2 :: bs) (o :: os) a w :=
  ⟨v, .inl ⟨hw, fun w => by unfold execOp; simp only [ho, hx.eval]; rfl⟩, h⟩
theorem wpRest_nil {a : Act} {w : World} (h : Q .normal a w) : wpRest P ops Q C [] [] a w := h
theorem tail_of_rest {late : List Nat} : ∀ (ts bs : List Nat) (os : List Oper) (a : Act) (w : World), ts.map (ops[·]?) = os.map some → ts.map (late.contains ·) = bs.map (fun b => b != 0 && b != 3) → wpRest P ops Q C bs os a w → wpTail P ops Q C late ts bs a w
  | [], bs, os, a, w, h1, h2, h => by
    obtain rfl : os = [] := by simpa using h1.symm
    obtain rfl : bs = [] := by simpa using h2.symm
    exact h
  | t :: ts, bs, os, a, w, h1, h2, h => by
    cases os with
    | nil => simp at h1
    | cons o os =>
      cases bs with
      | nil => simp at h2
      | cons b bs =>
        simp only [List.map_cons, List.cons.injEq] at h1 h2
        by_cases hb : b = 2
        · subst hb
          obtain ⟨v, hy, hk⟩ := h
          exact ⟨o, v, h1.1, hy, tail_of_rest ts bs os _ w h1.2 h2.2 hk⟩
        by_cases hb3 : b = 3
        · subst hb3
          obtain ⟨v, hy, hk⟩ := h
          exact ⟨o, v, h1.1, hy, tail_of_rest ts bs os _ w h1.2 h2.2 hk⟩
        · unfold wpTail
          unfold wpRest at h
          split
          · exact absurd rfl hb
          · exact absurd rfl hb3
          · unfold wpOp
            simp only [h1.1]
            split at h
            · exact absurd rfl hb
            · exact absurd rfl hb3
            · have hlt : late.contains t = false → b = 0 := fun hh => by
                rw [hh] at h2
                have h3 := h2.1
                have hb3' : (b != 3) = true := by simpa using hb3
                rw [hb3', Bool.and_true] at h3
                simpa using h3.symm
              split
              · rename_i hw
                rw [if_pos hw] at h
                exact .inl (Oper.wp_mono (fun a' w' ⟨k1, k2⟩ => ⟨fun hh => k1 (hlt hh), tail_of_rest ts bs os a' w' h1.2 h2.2 k2⟩) h)
              · rename_i hw
                rw [if_neg hw] at h
                exact ⟨fun hh => h.1 (hlt hh), tail_of_rest ts bs os _ w h1.2 h2.2 h.2⟩
def lateOf : List Nat → List Nat → List Nat
  | _ :: ts, 0 :: bs => lateOf ts bs
  | _ :: ts, 3 :: bs => lateOf ts bs
  | t :: ts, _ :: bs => t :: lateOf ts bs
  | _, _ => []
def neutOf : List Nat → List Nat → List Nat
  | t :: ts, 3 :: bs => t :: neutOf ts bs
  | _ :: ts, _ :: bs => neutOf ts bs
  | _, _ => []
theorem wp_region_mask {id : Nat} {a : Act} {w : World} {l : List Oper} (m m2 : List Bool) (bs : List Nat) (C : World → Prop) (hm : P.follows .mixedOrders = true) (hs : Region.noSelect l.toArray = true) (hl : ((m.length == l.length) && (m2.length == l.length)) = true)
    (hok : (okTake .any l.toArray (lateOf (maskIdx 0 m2) bs) (neutOf (maskIdx 0 m2) bs) (maskIdx 0 m2) bs (maskIdx 0 m) (Array.replicate l.toArray.size false) && (((maskIdx 0 m).length + (maskIdx 0 m2).length == l.toArray.size) && ((maskIdx 0 m2).map ((lateOf (maskIdx 0 m2) bs).contains ·) == bs.map (fun b => b != 0 && b != 3)))) = true) (hC : C w.drew)
    (h : Nonempty (Cls C) → wpQuiet P l.toArray (fun w' => ∃ u : Cls C, w' = u.at_) (fun a' => wpRest P l.toArray (NoPanic Q) (InC C) bs (pickAt l m2) a' w.drew) (pickAt l m) a) : (Code.region id l.toArray true).wp P Q a w := by
  simp only [Bool.and_eq_true, beq_iff_eq] at hl hok
  refine wp_region_turn (maskIdx 0 m) (maskIdx 0 m2) bs (lateOf (maskIdx 0 m2) bs) (neutOf (maskIdx 0 m2) bs) (pickAt l m) (InC C) hm hs (mask_ok (l := l) m 0 (by omega)) hok.1 hok.2.1 (InC.mk hC) ?_
  exact wpQuiet_mono' (fun a' h' => tail_of_rest _ _ _ a' _ (mask_ok (l := l) m2 0 (by omega)) hok.2.2 h') (h ⟨⟨_, hC⟩⟩)
/-- A load of one cell, in a quiet walk, whatever the class. -/
theorem wpQuiet_ld {Q : Act → Prop} {a : Act} {o : Oper} {rest : List Oper} (ty : TypeId) (x : Operand) (ho : o.op = .load ty x) (ad : Addr) (hx : a.eval x = .pointer (some ad)) (hw : Region.wanted o (yielded ops a.tmps) = true)
    (hp : (P.underlying ty).any (fun d => !d.isRow) = true) {v : Value} (h : ∀ w, C w → w.cell? ad = some v) (hk : wpQuiet P ops (fun w' => ∃ u : Cls C, w' = u.at_) Q rest (a.put o.dst v)) : wpQuiet P ops (fun w' => ∃ u : Cls C, w' = u.at_) Q (o :: rest) a := by
  refine BigFrame.wpQuiet_want hw fun K hK => ⟨v, fun w hC => ?_, hK _ hk⟩
  replace hC := InC.out hC
  unfold Oper.quietAt execOp
  simp only [ho, hx, Instr.loadAt, Instr.sureAddr, Sem.run_bind, Sem.run_pure, Result.andThen_ok, run_loadVar_one w ad ty v (h w hC) hp]
  exact ⟨rfl, rfl⟩
/-- A load of many. -/
theorem wpQuiet_la {Q : Act → Prop} {a : Act} {o : Oper} {rest : List Oper} (ty : TypeId) (x : Operand) (ho : o.op = .load ty x) (b off : Nat) (hx : a.eval x = .pointer (some ⟨b, off, none⟩)) (hw : Region.wanted o (yielded ops a.tmps) = true)
    (hr : (P.underlying ty).any (·.isRow) = true) (cs : List Value) (hi : (P.info? ty).map (·.size) = some cs.length) (h : ∀ w, C w → w.rangeAt b off cs) (hk : wpQuiet P ops (fun w' => ∃ u : Cls C, w' = u.at_) Q rest (a.put o.dst (.agg cs.toArray))) : wpQuiet P ops (fun w' => ∃ u : Cls C, w' = u.at_) Q (o :: rest) a := by
  refine BigFrame.wpQuiet_want hw fun K hK => ⟨.agg cs.toArray, fun w hC => ?_, hK _ hk⟩
  replace hC := InC.out hC
  cases hd : P.underlying ty with
  | none => rw [hd] at hr; cases hr
  | some d =>
    rw [hd] at hr
    unfold Oper.quietAt execOp
    simp only [ho, hx, Instr.loadAt, Instr.sureAddr, Sem.run_bind, Sem.run_pure, Result.andThen_ok, run_loadVar_mid w b off ty cs d (h w hC) hd hr hi]
    exact ⟨rfl, rfl⟩
end
end Go.Proofs.YtaaenolbfhhnfaaGreat
namespace Go.Proofs.YtaaenolbfhhnfaaGreat
open Go.RowKit
set_option linter.unusedSimpArgs false
set_option linter.unusedVariables false
section
variable {P : Program} {ops : Array Oper} {Q : Exit → Act → World → Prop} {md : Region.Mode} {C : World → Prop}
def okTakeG (md : Region.Mode) (ops : Array Oper) (late : List Nat) (fin : Array Bool → Bool) : List Nat → Array Bool → Bool
  | q :: qs, l => Region.free md ops l q && (Region.ready md ops l).contains q && lateWaits md ops late q && ((ops[q]?).map fun o => plainB o.op).getD false && okTakeG md ops late fin qs (l.setIfInBounds q true)
  | [], l => fin l
theorem any_of_takeG {late neut : List Nat} {fin : Array Bool → Bool} {R : Act → Prop} {n : Nat} (hsel : ∀ (j : Nat) (o : Oper) cs b, ops[j]? = some o → o.op ≠ .select cs b) (hQ : ∀ c a d v w, Q (.panic c) (a.put d v) w → Q (.panic c) a w) (w : World) (hC : C w)
    (hfin : ∀ l a, fin l = true → R a → wpAnyL P md ops Q C late.contains neut.contains n l a w) :
    ∀ (qs : List Nat) (os : List Oper) (l : Array Bool) (a : Act), qs.map (ops[·]?) = os.map some → okTakeG md ops late fin qs l = true → wpQuiet P ops C R os a → wpAnyL P md ops Q C late.contains neut.contains (qs.length + n) l a w
  | [], [], l, a, _, hok, h => by
    rw [List.length_nil, Nat.zero_add]
    exact hfin l a hok h
  | [], _ :: _, _, _, he, _, _ => by simp at he
  | _ :: _, [], _, _, he, _, _ => by simp at he
  | q :: qs, o :: os, l, a, he, hok, h => by
    simp only [List.map_cons, List.cons.injEq] at he
    simp only [okTakeG, Bool.and_eq_true] at hok
    obtain ⟨⟨⟨⟨h1, h2⟩, h3⟩, h4⟩, h5⟩ := hok
    rw [he.1] at h4
    have hp : plainB o.op = true := by simpa using h4
    have hy : ∃ v, YieldsIf P ops C o v a ∧ wpQuiet P ops C R os (a.put o.dst v) := by
      unfold wpQuiet at h
      split at h
      · rename_i hw
        obtain ⟨v, hv, hk⟩ := h
        exact ⟨v, yieldsIf_of_quiet hp hw hv, hk⟩
      · rename_i hw
        exact ⟨undef, .inr ⟨by simpa using hw, rfl⟩, h⟩
    obtain ⟨v, hv, hk⟩ := hy
    rw [List.length_cons, show qs.length + 1 + n = (qs.length + n) + 1 by omega]
    refine wpAnyL_first he.1 hsel (fun c a w => hQ c a o.dst v w) (fun j oj hj hlj => ?_) _ l a w (Region.free_spec he.1 h1) (by simpa using h2) hv hC (any_of_takeG hsel hQ w hC hfin qs os _ _ he.2 h5 hk)
    unfold lateWaits at h3
    rw [List.all_eq_true] at h3
    have := h3 j (by simpa using hlj)
    rw [hj] at this
    simp only [Option.map_some, Option.getD_some] at this
    obtain ⟨e, he', hb⟩ := Array.any_eq_true'.1 this
    simp only [Bool.and_eq_true, beq_iff_eq] at hb
    exact ⟨e, he', hb.1, hb.2⟩
/-- One of two comes next. -/
def okFork (md : Region.Mode) (ops : Array Oper) (late neut : List Nat) (t1 : Nat) (ts1 bs1 : List Nat) (t2 : Nat) (ts2 bs2 : List Nat) (l : Array Bool) : Bool :=
  (Region.ready md ops l == [t1, t2]) && (okTail md ops late neut ts1 bs1 (l.setIfInBounds t1 true) && okTail md ops late neut ts2 bs2 (l.setIfInBounds t2 true))
theorem any_of_fork {late neut : List Nat} (hsel : ∀ (j : Nat) (o : Oper) cs b, ops[j]? = some o → o.op ≠ .select cs b) (hQ : ∀ c a d v w, Q (.panic c) (a.put d v) w → Q (.panic c) a w)
    {t1 t2 : Nat} {ts1 bs1 ts2 bs2 : List Nat} (hlen : ts1.length = ts2.length) (hl1 : late.contains t1 = false) (hl2 : late.contains t2 = false) (l : Array Bool) (a : Act) (w : World) (hok : okFork md ops late neut t1 ts1 bs1 t2 ts2 bs2 l = true)
    (h1 : wpTail P ops Q C late (t1 :: ts1) (0 :: bs1) a w) (h2 : wpTail P ops Q C late (t2 :: ts2) (0 :: bs2) a w) : wpAnyL P md ops Q C late.contains neut.contains (ts1.length + 1) l a w := by
  simp only [okFork, Bool.and_eq_true, beq_iff_eq] at hok
  obtain ⟨hr, ho1, ho2⟩ := hok
  have h1 : wpOp P ops Q t1 (fun a' w' => (late.contains t1 = false → C w') ∧ wpTail P ops Q C late ts1 bs1 a' w') a w := h1
  have h2 : wpOp P ops Q t2 (fun a' w' => (late.contains t2 = false → C w') ∧ wpTail P ops Q C late ts2 bs2 a' w') a w := h2
  refine ⟨fun h0 => (by rw [hr] at h0; cases h0), fun i hi => ?_⟩
  rw [hr, List.mem_cons, List.mem_singleton] at hi
  rcases hi with rfl | rfl
  · exact wpOp_mono (fun a' w' ⟨k1, k2⟩ => ⟨fun hl _ => k1 hl, any_of_tail hsel hQ ts1 bs1 _ a' w' ho1 k2⟩) h1
  · refine wpOp_mono (fun a' w' ⟨k1, k2⟩ => ⟨fun hl _ => k1 hl, ?_⟩) h2
    rw [hlen]
    exact any_of_tail hsel hQ ts2 bs2 _ a' w' ho2 k2
/-- Those that a list of places names. -/
def pickIx (l : List Oper) : List Nat → List Oper
  | [] => []
  | t :: ts => (match l[t]? with | some o => o :: pickIx l ts | none => [])
theorem pickIx_ok {l : List Oper} : ∀ {ts : List Nat}, (ts.all fun t => decide (t < l.length)) = true → ts.map (l.toArray[·]?) = (pickIx l ts).map some
  | [], _ => rfl
  | t :: ts, h => by
    simp only [List.all_cons, Bool.and_eq_true, decide_eq_true_eq] at h
    have ih := pickIx_ok h.2
    unfold pickIx
    rw [List.getElem?_eq_getElem h.1]
    simp only [List.map_cons]
    rw [ih]
    simp [h.1]
/-- THE LAW of a fork: what a mask names only reads; then t1 or t2, each ahead of its tail (marks as in wp_region_mask). -/
theorem wp_region_fork {id : Nat} {a : Act} {w : World} {l : List Oper} (m : List Bool) (t1 : Nat) (ts1 bs1 : List Nat) (t2 : Nat) (ts2 bs2 : List Nat) (C : World → Prop) (hm : P.follows .mixedOrders = true) (hs : Region.noSelect l.toArray = true) (hl : (m.length == l.length) = true)
    (hok : (okTakeG .any l.toArray (lateOf ts1 bs1) (okFork .any l.toArray (lateOf ts1 bs1) (neutOf ts1 bs1) t1 ts1 bs1 t2 ts2 bs2) (maskIdx 0 m) (Array.replicate l.toArray.size false) && (((maskIdx 0 m).length + (ts1.length + 1) == l.toArray.size) && (ts1.length == ts2.length) && ((t1 :: ts1).all fun t => decide (t < l.length)) && ((t2 :: ts2).all fun t => decide (t < l.length))
      && ((t1 :: ts1).map ((lateOf ts1 bs1).contains ·) == (0 :: bs1).map (fun b => b != 0 && b != 3)) && ((t2 :: ts2).map ((lateOf ts1 bs1).contains ·) == (0 :: bs2).map (fun b => b != 0 && b != 3)))) = true) (hC : C w.drew)
    (h : Nonempty (Cls C) → wpQuiet P l.toArray (fun w' => ∃ u : Cls C, w' = u.at_) (fun a' => wpRest P l.toArray (NoPanic Q) (InC C) (0 :: bs1) (pickIx l (t1 :: ts1)) a' w.drew ∧ wpRest P l.toArray (NoPanic Q) (InC C) (0 :: bs2) (pickIx l (t2 :: ts2)) a' w.drew) (pickAt l m) a) : (Code.region id l.toArray true).wp P Q a w := by
  simp only [Bool.and_eq_true] at hok
  obtain ⟨hok1, ⟨⟨⟨⟨hlen, hlen2⟩, hin1⟩, hin2⟩, hm1⟩, hm2⟩ := hok
  rw [beq_iff_eq] at hlen hlen2 hm1 hm2 hl
  refine wp_region_noPanic ?_
  refine wp_region_any hm (wpAny_of_late (C := InC C) (late := (lateOf ts1 bs1).contains) (neut := (neutOf ts1 bs1).contains) _ _ _ _ ?_)
  rw [← hlen]
  refine any_of_takeG (Region.noSelect_spec hs) (fun _ _ _ _ _ h => h) w.drew (InC.mk hC) (R := fun a' => wpRest P l.toArray (NoPanic Q) (InC C) (0 :: bs1) (pickIx l (t1 :: ts1)) a' w.drew ∧ wpRest P l.toArray (NoPanic Q) (InC C) (0 :: bs2) (pickIx l (t2 :: ts2)) a' w.drew) (fun l' a' hf hR => ?_) _ _ _ a (mask_ok (l := l) m 0 (by omega)) (by rw [hlen]; exact hok1) (h ⟨⟨_, hC⟩⟩)
  have e1 := hm1
  have e2 := hm2
  simp only [List.map_cons, List.cons.injEq] at e1 e2
  exact any_of_fork (Region.noSelect_spec hs) (fun _ _ _ _ _ h => h) hlen2 (by simpa using e1.1) (by simpa using e2.1) l' a' _ hf (tail_of_rest _ _ _ a' _ (pickIx_ok hin1) hm1 hR.1) (tail_of_rest _ _ _ a' _ (pickIx_ok hin2) hm2 hR.2)
/-- What only reads, then one that makes memory, then what only reads again. -/
def okMid (md : Region.Mode) (ops : Array Oper) (t : Nat) (qs2 : List Nat) (l : Array Bool) : Bool := (Region.ready md ops l == [t]) && okTakeG md ops [] (fun l => Region.ready md ops l == []) qs2 (l.setIfInBounds t true)
def wpMid (P : Program) (ops : Array Oper) (Q : Exit → Act → World → Prop) (C : World → Prop) (o : Oper) (os : List Oper) (a : Act) (w : World) : Prop :=
  if Region.wanted o (yielded ops a.tmps) = true then o.wp P a w (fun a' w' => InC C w' ∧ wpQuiet P ops (fun w' => ∃ u : Cls C, w' = u.at_) (fun a'' => Q .normal a'' w') os a') Q else InC C w ∧ wpQuiet P ops (fun w' => ∃ u : Cls C, w' = u.at_) (fun a'' => Q .normal a'' w) os (a.put o.dst undef)
theorem wpMid_op {o : Oper} {os : List Oper} {a : Act} {w : World} (hw : Region.wanted o (yielded ops a.tmps) = true)
    (h : ∀ K : Act → World → Prop, (∀ a' w', InC C w' → wpQuiet P ops (fun w' => ∃ u : Cls C, w' = u.at_) (fun a'' => Q .normal a'' w') os a' → K a' w') → o.wp P a w K Q) : wpMid P ops Q C o os a w := by
  unfold wpMid
  rw [if_pos hw]
  exact h _ fun a' w' h1 h2 => ⟨h1, h2⟩
theorem wp_region_mid {id : Nat} {a : Act} {w : World} {l : List Oper} (m : List Bool) (t : Nat) (o : Oper) (m2 : List Bool) (C : World → Prop) (hm : P.follows .mixedOrders = true) (hs : Region.noSelect l.toArray = true) (hl : ((m.length == l.length) && (m2.length == l.length)) = true) (ho : l[t]? = some o)
    (hok : (okTakeG .any l.toArray [] (okMid .any l.toArray t (maskIdx 0 m2)) (maskIdx 0 m) (Array.replicate l.toArray.size false) && ((maskIdx 0 m).length + ((maskIdx 0 m2).length + 1) == l.toArray.size)) = true) (hC : C w.drew)
    (h : Nonempty (Cls C) → wpQuiet P l.toArray (fun w' => ∃ u : Cls C, w' = u.at_) (fun a' => wpMid P l.toArray (NoPanic Q) C o (pickAt l m2) a' w.drew) (pickAt l m) a) : (Code.region id l.toArray true).wp P Q a w := by
  simp only [Bool.and_eq_true, decide_eq_true_eq] at hok hl
  obtain ⟨hok1, hlen⟩ := hok
  obtain ⟨hl1, hl2⟩ := hl
  rw [beq_iff_eq] at hlen hl1 hl2
  refine wp_region_noPanic ?_
  refine wp_region_any hm (wpAny_of_late (C := InC C) (late := ([] : List Nat).contains) (neut := ([] : List Nat).contains) _ _ _ _ ?_)
  rw [← hlen]
  refine any_of_takeG (Region.noSelect_spec hs) (fun _ _ _ _ _ h => h) w.drew (InC.mk hC) (R := fun a' => wpMid P l.toArray (NoPanic Q) C o (pickAt l m2) a' w.drew) (fun l' a' hf hR => ?_) _ _ _ a (mask_ok (l := l) m 0 (by omega)) (by rw [hlen]; exact hok1) (h ⟨⟨_, hC⟩⟩)
  simp only [okMid, Bool.and_eq_true, beq_iff_eq] at hf
  obtain ⟨hr, hf2⟩ := hf
  have ho' : l.toArray[t]? = some o := by simpa using ho
  have hR2 : wpOp P l.toArray (NoPanic Q) t (fun a' w' => InC C w' ∧ wpQuiet P l.toArray (fun w' => ∃ u : Cls C, w' = u.at_) (fun a'' => NoPanic Q .normal a'' w') (pickAt l m2) a') a' w.drew := by
    unfold wpMid at hR
    unfold wpOp
    simp only [ho']
    split
    · rename_i hw
      rw [if_pos hw] at hR
      exact .inl hR
    · rename_i hw
      rw [if_neg hw] at hR
      exact hR
  refine ⟨fun h0 => (by rw [hr] at h0; cases h0), fun i hi => ?_⟩
  rw [hr, List.mem_singleton] at hi
  subst hi
  refine wpOp_mono (fun a2 w2 ⟨k1, k2⟩ => ⟨fun _ _ => k1, ?_⟩) hR2
  have := any_of_takeG (n := 0) (late := []) (neut := []) (Region.noSelect_spec hs) (fun _ _ _ _ _ h => h) w2 k1 (R := fun a'' => NoPanic Q .normal a'' w2) (fun l3 a3 hf3 hR3 => ⟨by simpa using hf3, hR3⟩) _ _ _ a2 (mask_ok (l := l) m2 0 (by omega)) hf2 k2
  exact this
/-- What looks at no memory comes first (each by itself, whatever the world), then what only reads, then the tail. -/
def okPre (md : Region.Mode) (ops : Array Oper) (neut : List Nat) (fin : Array Bool → Bool) : List Nat → Array Bool → Bool
  | t :: ts, l => Region.free md ops l t && (Region.ready md ops l).contains t && neut.contains t && okPre md ops neut fin ts (l.setIfInBounds t true)
  | [], l => fin l
def wpPre (P : Program) (ops : Array Oper) (R : Act → Prop) : List Oper → Act → Prop
  | o :: os, a => ∃ v, Yields P ops o v a ∧ wpPre P ops R os (a.put o.dst v)
  | [], a => R a
theorem any_of_pre {late neut : List Nat} {fin : Array Bool → Bool} {R : Act → Prop} {n : Nat} {w : World} (hsel : ∀ (j : Nat) (o : Oper) cs b, ops[j]? = some o → o.op ≠ .select cs b) (hQ : ∀ c a d v w, Q (.panic c) (a.put d v) w → Q (.panic c) a w)
    (hfin : ∀ l a, fin l = true → R a → wpAnyL P md ops Q C late.contains neut.contains n l a w) :
    ∀ (ts : List Nat) (os : List Oper) (l : Array Bool) (a : Act), ts.map (ops[·]?) = os.map some → okPre md ops neut fin ts l = true → wpPre P ops R os a → wpAnyL P md ops Q C late.contains neut.contains (ts.length + n) l a w
  | [], [], l, a, _, hok, h => by
    rw [List.length_nil, Nat.zero_add]
    exact hfin l a hok h
  | [], _ :: _, _, _, he, _, _ => by simp at he
  | _ :: _, [], _, _, he, _, _ => by simp at he
  | t :: ts, o :: os, l, a, he, hok, h => by
    simp only [List.map_cons, List.cons.injEq] at he
    simp only [okPre, Bool.and_eq_true] at hok
    obtain ⟨⟨⟨h1, h2⟩, h3⟩, h4⟩ := hok
    obtain ⟨v, hy, hk⟩ := h
    rw [List.length_cons, show ts.length + 1 + n = (ts.length + n) + 1 by omega]
    exact wpAnyL_worldless he.1 hsel (fun c a w => hQ c a o.dst v w) (.inr h3) _ l a w (Region.free_spec he.1 h1) (by simpa using h2) hy (any_of_pre hsel hQ hfin ts os _ _ he.2 h4 hk)
theorem wp_region_pre {id : Nat} {a : Act} {w : World} {l : List Oper} (ps qs ts bs : List Nat) (C : World → Prop) (hm : P.follows .mixedOrders = true) (hs : Region.noSelect l.toArray = true)
    (hl : ((ps.all fun t => decide (t < l.length)) && ((qs.all fun t => decide (t < l.length)) && (ts.all fun t => decide (t < l.length)))) = true)
    (hok : (okPre .any l.toArray (ps ++ neutOf ts bs) (okTakeG .any l.toArray (lateOf ts bs) (okTail .any l.toArray (lateOf ts bs) (ps ++ neutOf ts bs) ts bs) qs) ps (Array.replicate l.toArray.size false) && ((ps.length + (qs.length + ts.length) == l.toArray.size) && (ts.map ((lateOf ts bs).contains ·) == bs.map (fun b => b != 0 && b != 3)))) = true) (hC : C w.drew)
    (h : Nonempty (Cls C) → wpPre P l.toArray (fun a' => wpQuiet P l.toArray (fun w' => ∃ u : Cls C, w' = u.at_) (fun a'' => wpRest P l.toArray (NoPanic Q) (InC C) bs (pickIx l ts) a'' w.drew) (pickIx l qs) a') (pickIx l ps) a) : (Code.region id l.toArray true).wp P Q a w := by
  simp only [Bool.and_eq_true] at hok hl
  obtain ⟨hok1, hlen, hmk⟩ := hok
  obtain ⟨hl1, hl2, hl3⟩ := hl
  rw [beq_iff_eq] at hlen hmk
  refine wp_region_noPanic ?_
  refine wp_region_any hm (wpAny_of_late (C := InC C) (late := (lateOf ts bs).contains) (neut := (ps ++ neutOf ts bs).contains) _ _ _ _ ?_)
  rw [← hlen]
  refine any_of_pre (Region.noSelect_spec hs) (fun _ _ _ _ _ h => h) (R := fun a' => wpQuiet P l.toArray (fun w' => ∃ u : Cls C, w' = u.at_) (fun a'' => wpRest P l.toArray (NoPanic Q) (InC C) bs (pickIx l ts) a'' w.drew) (pickIx l qs) a') (fun l1 a1 hf1 hR1 => ?_) ps _ _ a (pickIx_ok hl1) (by rw [hlen]; exact hok1) (h ⟨⟨_, hC⟩⟩)
  refine any_of_takeG (Region.noSelect_spec hs) (fun _ _ _ _ _ h => h) w.drew (InC.mk hC) (R := fun a'' => wpRest P l.toArray (NoPanic Q) (InC C) bs (pickIx l ts) a'' w.drew) (fun l2 a2 hf2 hR2 => ?_) qs _ l1 a1 (pickIx_ok hl2) hf1 hR1
  exact any_of_tail (Region.noSelect_spec hs) (fun _ _ _ _ _ h => h) ts bs l2 a2 _ hf2 (tail_of_rest _ _ _ a2 _ (pickIx_ok hl3) hmk hR2)
theorem wpPre_of {R : Act → Prop} {o : Oper} {os : List Oper} {a : Act} {v : Value} (hw : Region.wanted o (yielded ops a.tmps) = true) (hv : ∀ w, (execOp a.eval o).run P w = .ok (.value v) w) (h : wpPre P ops R os (a.put o.dst v)) : wpPre P ops R (o :: os) a := ⟨v, .inl ⟨hw, hv⟩, h⟩
theorem wpPre_move {R : Act → Prop} {o : Oper} {os : List Oper} {a : Act} (x : Operand) (ho : o.op = .move x) (hw : Region.wanted o (yielded ops a.tmps) = true) {v : Value} (hx : ValOf a x v) (h : wpPre P ops R os (a.put o.dst v)) : wpPre P ops R (o :: os) a :=
  wpPre_of hw (fun w => by unfold execOp; simp only [ho, hx.eval]; rfl) h
theorem wpPre_nilCheck {R : Act → Prop} {o : Oper} {os : List Oper} {a : Act} (x : Operand) (ho : o.op = .nilCheck x) (hw : Region.wanted o (yielded ops a.tmps) = true) {ad : Addr} (hx : ValOf a x (.pointer (some ad))) (h : wpPre P ops R os (a.put o.dst (.pointer (some ad)))) : wpPre P ops R (o :: os) a :=
  wpPre_of hw (fun w => by unfold execOp; simp only [ho, hx.eval]; rfl) h
theorem wpRest_nilCheck {bs : List Nat} {o : Oper} {os : List Oper} {a : Act} {w : World} (x : Operand) (ho : o.op = .nilCheck x) (hw : Region.wanted o (yielded ops a.tmps) = true) {ad : Addr} (hx : ValOf a x (.pointer (some ad)))
    (h : wpRest P ops Q C bs os (a.put o.dst (.pointer (some ad))) w) : wpRest P ops Q C (3 :: bs) (o :: os) a w :=
  ⟨_, .inl ⟨hw, fun w => by unfold execOp; simp only [ho, hx.eval]; rfl⟩, h⟩
theorem wpRest_of {bs : List Nat} {o : Oper} {os : List Oper} {a : Act} {w : World} {v : Value} (hw : Region.wanted o (yielded ops a.tmps) = true) (hv : ∀ w, (execOp a.eval o).run P w = .ok (.value v) w) (h : wpRest P ops Q C bs os (a.put o.dst v) w) : wpRest P ops Q C (3 :: bs) (o :: os) a w := ⟨v, .inl ⟨hw, hv⟩, h⟩
end
end Go.Proofs.YtaaenolbfhhnfaaGreat
namespace Go.Proofs.YtaaenolbfhhnfaaGreat
open Go.RowKit
set_option linter.unusedSimpArgs false
set_option linter.unusedVariables false
section
variable {P : Program} {ops : Array Oper} {Q : Exit → Act → World → Prop} {C : World → Prop}
/-- What is left, in whatever order; C holds behind every operation. -/
def wpTree (P : Program) (ops : Array Oper) (Q : Exit → Act → World → Prop) (C : World → Prop) (n : Nat) (l : Array Bool) (a : Act) (w : World) : Prop :=
  wpAnyL P .any ops Q C ([] : List Nat).contains (List.range ops.size).contains n l a w
theorem wp_region_tree {id : Nat} {a : Act} {w : World} {l : List Oper} (m : List Bool) (l0 : Array Bool) (n : Nat) (C : World → Prop) (hm : P.follows .mixedOrders = true) (hs : Region.noSelect l.toArray = true) (hl : (m.length == l.length) = true)
    (hok : (okTakeG .any l.toArray [] (fun x => x == l0) (maskIdx 0 m) (Array.replicate l.toArray.size false) && ((maskIdx 0 m).length + n == l.toArray.size)) = true) (hC : C w.drew)
    (h : Nonempty (Cls C) → wpQuiet P l.toArray (fun w' => ∃ u : Cls C, w' = u.at_) (fun a' => wpTree P l.toArray (NoPanic Q) (InC C) n l0 a' w.drew) (pickAt l m) a) : (Code.region id l.toArray true).wp P Q a w := by
  simp only [Bool.and_eq_true] at hok
  obtain ⟨hok1, hlen⟩ := hok
  rw [beq_iff_eq] at hlen hl
  refine wp_region_noPanic ?_
  refine wp_region_any hm (wpAny_of_late (C := InC C) (late := ([] : List Nat).contains) (neut := (List.range l.toArray.size).contains) _ _ _ _ ?_)
  have key := any_of_takeG (P := P) (Q := NoPanic Q) (md := .any) (C := InC C) (late := []) (neut := List.range l.toArray.size) (n := n) (Region.noSelect_spec hs) (fun _ _ _ _ _ h => h) w.drew (InC.mk hC) (R := fun a' => wpTree P l.toArray (NoPanic Q) (InC C) n l0 a' w.drew) (fin := fun x => x == l0) (fun l' a' hf hR => by rw [beq_iff_eq] at hf; rw [hf]; exact hR) _ _ _ a (mask_ok (l := l) m 0 (by omega)) hok1 (h ⟨⟨_, hC⟩⟩)
  rw [hlen] at key
  exact key
theorem tree_step {n : Nat} {l : Array Bool} {a : Act} {w : World} (is : List Nat) (hr : Region.ready .any ops l = is) (hne : (is != []) = true) (h : ∀ i, i ∈ is → wpOp P ops Q i (fun a' w' => C w' ∧ wpTree P ops Q C n (l.setIfInBounds i true) a' w') a w) : wpTree P ops Q C (n + 1) l a w :=
  ⟨fun h0 => (by rw [hr] at h0; subst h0; cases hne), fun i hi => wpOp_mono (fun a' w' k => ⟨fun _ _ => k.1, k.2⟩) (h i (hr ▸ hi))⟩
theorem tree_end {l : Array Bool} {a : Act} {w : World} (hr : Region.ready .any ops l = []) (h : Q .normal a w) : wpTree P ops Q C 0 l a w := ⟨hr, h⟩
theorem in_one {p : Nat → Prop} {x : Nat} (h : p x) : ∀ i, i ∈ [x] → p i := fun i hi => by
  obtain rfl : i = x := by simpa using hi
  exact h
theorem in_two {p : Nat → Prop} {x y : Nat} (h : p x) (h' : p y) : ∀ i, i ∈ [x, y] → p i := fun i hi => by
  simp only [List.mem_cons, List.not_mem_nil, or_false] at hi
  rcases hi with rfl | rfl
  · exact h
  · exact h'
theorem in_three {p : Nat → Prop} {x y z : Nat} (h : p x) (h' : p y) (h2 : p z) : ∀ i, i ∈ [x, y, z] → p i := fun i hi => by
  simp only [List.mem_cons, List.not_mem_nil, or_false] at hi
  rcases hi with rfl | rfl | rfl
  · exact h
  · exact h'
  · exact h2
theorem tree_op {lo : List Oper} {i : Nat} {o : Oper} {a : Act} {w : World} {R : Act → World → Prop} (ho : lo[i]? = some o) (hw : Region.wanted o (yielded lo.toArray a.tmps) = true) (h : ∀ K : Act → World → Prop, (∀ a' w', C w' → R a' w' → K a' w') → o.wp P a w K Q) : wpOp P lo.toArray Q i (fun a' w' => C w' ∧ R a' w') a w := by
  have ho' : lo.toArray[i]? = some o := by simpa using ho
  unfold wpOp
  rw [ho']
  simp only
  rw [if_pos hw]
  exact .inl (h _ fun a' w' h1 h2 => ⟨h1, h2⟩)
/-- What looks at no memory, whenever. -/
theorem tree_x {lo : List Oper} {n : Nat} {l : Array Bool} {a : Act} {w : World} (i : Nat) {o : Oper} {v : Value} (hi : lo[i]? = some o) (hs : Region.noSelect lo.toArray = true) (hf : (Region.free .any lo.toArray l i && ((Region.ready .any lo.toArray l).contains i && decide (i < lo.toArray.size))) = true) (hw : Region.wanted o (yielded lo.toArray a.tmps) = true) (hv : ∀ w, (execOp a.eval o).run P w = .ok (.value v) w)
    (h : wpTree P lo.toArray (NoPanic Q) C n (l.setIfInBounds i true) (a.put o.dst v) w) : wpTree P lo.toArray (NoPanic Q) C (n + 1) l a w := by
  simp only [Bool.and_eq_true, decide_eq_true_eq] at hf
  obtain ⟨h1, h2, h3⟩ := hf
  exact wpAnyL_worldless (show lo.toArray[i]? = some o by simpa using hi) (Region.noSelect_spec hs) (fun c a w h => h) (.inr (by simpa using h3)) n l a w (Region.free_spec (show lo.toArray[i]? = some o by simpa using hi) h1) (by simpa using h2) (.inl ⟨hw, hv⟩) h
/-- What reads memory alone, when it is ready. -/
theorem tree_q {lo : List Oper} {n : Nat} {l : Array Bool} {a : Act} {w : World} (i : Nat) {o : Oper} {v : Value} (hi : lo[i]? = some o) (hs : Region.noSelect lo.toArray = true) (hf : (Region.free .any lo.toArray l i && (Region.ready .any lo.toArray l).contains i) = true) (hw : Region.wanted o (yielded lo.toArray a.tmps) = true) (hv : ∀ w, C w → (execOp a.eval o).run P w = .ok (.value v) w) (hC : C w)
    (h : wpTree P lo.toArray (NoPanic Q) C n (l.setIfInBounds i true) (a.put o.dst v) w) : wpTree P lo.toArray (NoPanic Q) C (n + 1) l a w := by
  simp only [Bool.and_eq_true] at hf
  exact wpAnyL_first (show lo.toArray[i]? = some o by simpa using hi) (Region.noSelect_spec hs) (fun c a w h => h) (fun j oj _ hl => by simp at hl) n l a w (Region.free_spec (show lo.toArray[i]? = some o by simpa using hi) hf.1) (by simpa using hf.2) (.inl ⟨hw, hv⟩) hC h
/-- A load of a whole row, when it is ready. -/
theorem tree_la {lo : List Oper} {n : Nat} {l : Array Bool} {a : Act} {w : World} (i : Nat) {o : Oper} (ty : TypeId) (x : Operand) (b : Nat) (cs : List Value) (hi : lo[i]? = some o) (ho : o.op = .load ty x) (hx : a.eval x = .pointer (some ⟨b, 0, none⟩)) (hr : (P.underlying ty).any (·.isRow) = true) (hz : (P.info? ty).map (·.size) = some cs.length) (hs : Region.noSelect lo.toArray = true) (hf : (Region.free .any lo.toArray l i && (Region.ready .any lo.toArray l).contains i) = true) (hw : Region.wanted o (yielded lo.toArray a.tmps) = true) (hv : ∀ w, C w → w.rangeAt b 0 cs) (hC : C w)
    (h : wpTree P lo.toArray (NoPanic Q) C n (l.setIfInBounds i true) (a.put o.dst (.agg cs.toArray)) w) : wpTree P lo.toArray (NoPanic Q) C (n + 1) l a w := by
  refine tree_q i hi hs hf hw (v := .agg cs.toArray) (fun w hw' => ?_) hC h
  have key := hv w hw'
  cases hd : P.underlying ty with
  | none => rw [hd] at hr; cases hr
  | some d =>
    rw [hd] at hr
    unfold execOp
    simp only [ho, hx, Instr.loadAt, Instr.sureAddr, Sem.run_bind, Sem.run_pure, Result.andThen_ok, run_loadVar_mid w b 0 ty cs d key hd hr hz]
end
end Go.Proofs.YtaaenolbfhhnfaaGreat
namespace Go.Proofs.YtaaenolbfhhnfaaGreat
open Go.RowKit
/-- From 0 to a most? -/
def upToV (n m : Int) : Bool := decide (0 ≤ n ∧ n ≤ m)
/-- A word's value. -/
def wordA (v n l : Int) : Value := .agg #[.int .i64 v, .int .i64 n, .int .i64 l]
/-- May it be a word? -/
def wmay (v n l : Int) : Bool := upToV v 255 && upToV n 65535 && upToV l 255
theorem upToV_yes {n m : Int} (h : upToV n m = true) : 0 ≤ n ∧ n ≤ m := of_decide_eq_true h
theorem upToV_of {n m : Int} (h0 : 0 ≤ n) (h1 : n ≤ m) : upToV n m = true := decide_eq_true ⟨h0, h1⟩
theorem wmay_yes {v n l : Int} (h : wmay v n l = true) : upToV v 255 = true ∧ upToV n 65535 = true ∧ upToV l 255 = true := by
  unfold wmay at h
  simp only [Bool.and_eq_true] at h
  exact ⟨h.1.1, h.1.2, h.2⟩
theorem wmay_of {v n l : Int} (hv : upToV v 255 = true) (hn : upToV n 65535 = true) (hl : upToV l 255 = true) : wmay v n l = true := by
  unfold wmay; rw [hv, hn, hl]; rfl
theorem wmay_no1 {v n l : Int} (h : upToV v 255 = false) : wmay v n l = false := by unfold wmay; rw [h]; rfl
theorem wmay_no2 {v n l : Int} (h : upToV n 65535 = false) : wmay v n l = false := by unfold wmay; rw [h]; simp
theorem wmay_no3 {v n l : Int} (h : upToV l 255 = false) : wmay v n l = false := by unfold wmay; rw [h]; simp
/-- The number of Lock's error. -/
def lockE (v n l i : Int) : Int := bif wmay v n l && upToV i 254 then (if l = 0 then 0 else 301) else 300
/-- Lock's word. -/
def lockW (v n l i : Int) : Value := bif wmay v n l && upToV i 254 then (if l = 0 then wordA v n (i + 1) else wordA 0 0 0) else wordA 0 0 0
/-- The number of Write's error (Free's: of a word's own value, version). -/
def writeE (v n l x y : Int) : Int := bif wmay v n l && wmay x y 0 then 0 else 300
/-- Write's word. -/
def writeW (v n l x y : Int) : Value := bif wmay v n l && wmay x y 0 then wordA x y 0 else wordA 0 0 0
end Go.Proofs.YtaaenolbfhhnfaaGreat
namespace Go.Proofs.YtaaenolbfhhnfaaGreat
open Go.RowKit
/-- Four numbers: an array's value. -/
def quadA (c : Nat → Int) : Value := .agg #[.int .i64 (c 0), .int .i64 (c 1), .int .i64 (c 2), .int .i64 (c 3)]
/-- The cells of that value. -/
def quadL (c : Nat → Int) : List Value := [.int .i64 (c 0), .int .i64 (c 1), .int .i64 (c 2), .int .i64 (c 3)]
/-- Another number in a place. -/
def updQ (c : Nat → Int) (k : Nat) (x : Int) (i : Nat) : Int := if i = k then x else c i
theorem updQ_same (c : Nat → Int) (k : Nat) (x : Int) : updQ c k x k = x := if_pos rfl
theorem quadL_get (c : Nat → Int) {k : Nat} (hk : k < 4) : (quadL c)[k]? = some (.int .i64 (c k)) := by
  have : k = 0 ∨ k = 1 ∨ k = 2 ∨ k = 3 := by omega
  rcases this with rfl | rfl | rfl | rfl <;> rfl
theorem quadL_set (c : Nat → Int) {k : Nat} (hk : k < 4) (x : Int) : (quadL c).set k (.int .i64 x) = quadL (updQ c k x) := by
  have : k = 0 ∨ k = 1 ∨ k = 2 ∨ k = 3 := by omega
  rcases this with rfl | rfl | rfl | rfl <;> rfl
/-- The four of them, named. -/
def quad (a b c d : Int) : Nat → Int
  | 0 => a
  | 1 => b
  | 2 => c
  | _ => d
/-- Are the first k from 0 to h? -/
def allUp (c : Nat → Int) (h : Int) : Nat → Bool
  | 0 => true
  | k + 1 => allUp c h k && upToV (c k) h
theorem allUp_get {c : Nat → Int} {h : Int} : ∀ {n : Nat}, allUp c h n = true → ∀ i, i < n → upToV (c i) h = true
  | 0, _, i, hi => absurd hi (Nat.not_lt_zero _)
  | n + 1, e, i, hi => by
    simp only [allUp, Bool.and_eq_true] at e
    by_cases x : i = n
    · subst x; exact e.2
    · exact allUp_get e.1 i (by omega)
theorem allUp_no {c : Nat → Int} {h : Int} {n : Nat} (i : Nat) (hi : i < n) (e : upToV (c i) h = false) : allUp c h n = false := by
  cases x : allUp c h n with
  | false => rfl
  | true => rw [allUp_get x i hi] at e; cases e
theorem Blk.cells4 {w : World} {b : Nat} {x y z u : Value} (h : Blk w b [x, y, z, u]) : w.cell? ⟨b, 0, none⟩ = some x ∧ w.cell? ⟨b, 1, none⟩ = some y ∧ w.cell? ⟨b, 2, none⟩ = some z ∧ w.cell? ⟨b, 3, none⟩ = some u := h.four.1
/-- A whole array stored over another one. -/
theorem Blk.over {w : World} {b : Nat} {c : Nat → Int} (h : Blk w b (quadL c)) (d : Nat → Int) :
    Blk ((((w.setCell ⟨b, 0, none⟩ (.int .i64 (d 0))).setCell ⟨b, 1, none⟩ (.int .i64 (d 1))).setCell ⟨b, 2, none⟩ (.int .i64 (d 2))).setCell ⟨b, 3, none⟩ (.int .i64 (d 3))) b (quadL d) :=
  (((h.set 0 (.int .i64 (d 0))).set 1 (.int .i64 (d 1))).set 2 (.int .i64 (d 2))).set 3 (.int .i64 (d 3))
theorem Below.over {B : Nat} {a w : World} {b : Nat} (h : Below B a w) (hb : B ≤ b) (d : Nat → Int) :
    Below B a ((((w.setCell ⟨b, 0, none⟩ (.int .i64 (d 0))).setCell ⟨b, 1, none⟩ (.int .i64 (d 1))).setCell ⟨b, 2, none⟩ (.int .i64 (d 2))).setCell ⟨b, 3, none⟩ (.int .i64 (d 3))) :=
  (((h.setCell hb _).setCell hb _).setCell hb _).setCell hb _
end Go.Proofs.YtaaenolbfhhnfaaGreat
namespace Go.Proofs.YtaaenolbfhhnfaaGreat
open Go.RowKit
/-- May it be an instruction? -/
def instMay (i : Nat → Int) : Bool :=
  if i 0 = 0 then upToV (i 1) 3 && upToV (i 2) 255 && (i 3 == 0)
  else if i 0 = 1 then upToV (i 1) 3 && upToV (i 2) 3 && (i 3 == 0)
  else if i 0 = 2 ∨ i 0 = 3 then upToV (i 1) 3 && upToV (i 2) 3 && upToV (i 3) 3
  else if i 0 = 4 then upToV (i 1) 3 && upToV (i 2) 16 && (i 3 == 0)
  else if i 0 = 5 then (i 1 == 0) && (i 2 == 0) && (i 3 == 0)
  else if i 0 = 6 then upToV (i 1) 255 && (i 2 == 0) && (i 3 == 0)
  else false
section
variable {i : Nat → Int}
theorem instMay_0 (h : i 0 = 0) : instMay i = (upToV (i 1) 3 && upToV (i 2) 255 && (i 3 == 0)) := by unfold instMay; rw [if_pos h]
theorem instMay_1 (h : i 0 = 1) : instMay i = (upToV (i 1) 3 && upToV (i 2) 3 && (i 3 == 0)) := by unfold instMay; rw [if_neg (by omega), if_pos h]
theorem instMay_23 (h : i 0 = 2 ∨ i 0 = 3) : instMay i = (upToV (i 1) 3 && upToV (i 2) 3 && upToV (i 3) 3) := by unfold instMay; rw [if_neg (by omega), if_neg (by omega), if_pos h]
theorem instMay_4 (h : i 0 = 4) : instMay i = (upToV (i 1) 3 && upToV (i 2) 16 && (i 3 == 0)) := by unfold instMay; rw [if_neg (by omega), if_neg (by omega), if_neg (by omega), if_pos h]
theorem instMay_5 (h : i 0 = 5) : instMay i = ((i 1 == 0) && (i 2 == 0) && (i 3 == 0)) := by unfold instMay; rw [if_neg (by omega), if_neg (by omega), if_neg (by omega), if_neg (by omega), if_pos h]
theorem instMay_6 (h : i 0 = 6) : instMay i = (upToV (i 1) 255 && (i 2 == 0) && (i 3 == 0)) := by unfold instMay; rw [if_neg (by omega), if_neg (by omega), if_neg (by omega), if_neg (by omega), if_neg (by omega), if_pos h]
theorem instMay_no (h0 : i 0 < 0 ∨ 6 < i 0) : instMay i = false := by unfold instMay; rw [if_neg (by omega), if_neg (by omega), if_neg (by omega), if_neg (by omega), if_neg (by omega), if_neg (by omega)]
theorem inst_cases (i : Nat → Int) : (i 0 < 0 ∨ 6 < i 0) ∨ i 0 = 0 ∨ i 0 = 1 ∨ i 0 = 2 ∨ i 0 = 3 ∨ i 0 = 4 ∨ i 0 = 5 ∨ i 0 = 6 := by omega
theorem and3b {x y z : Bool} (h : (x && y && z) = true) : x = true ∧ y = true ∧ z = true := by
  simp only [Bool.and_eq_true] at h
  exact ⟨h.1.1, h.1.2, h.2⟩
end
end Go.Proofs.YtaaenolbfhhnfaaGreat
namespace Go.Proofs.YtaaenolbfhhnfaaGreat
open Go.RowKit
/-- The k-th instruction. -/
def instAt (z : Nat → Int) (k : Nat) : Nat → Int := fun j => z (k * 4 + j)
/-- Does the k-th instruction jump where it may not? -/
def badJump (z : Nat → Int) (n k : Nat) : Bool := (z (k * 4) == 4) && (decide (z (k * 4 + 2) ≤ (k : Int)) || decide ((n : Int) < z (k * 4 + 2)))
/-- May the first k be, of n? -/
def progTo (z : Nat → Int) (n : Nat) : Nat → Bool
  | 0 => true
  | k + 1 => progTo z n k && (instMay (instAt z k) && !badJump z n k)
/-- May it be a program? -/
def progMay (n : Nat) (z : Nat → Int) : Bool := progTo z n n && decide (n ≤ 16)
theorem progTo_get {z : Nat → Int} {n : Nat} : ∀ {k : Nat}, progTo z n k = true → ∀ i, i < k → instMay (instAt z i) = true ∧ badJump z n i = false
  | 0, _, i, hi => absurd hi (Nat.not_lt_zero _)
  | k + 1, h, i, hi => by
    simp only [progTo, Bool.and_eq_true, Bool.not_eq_true'] at h
    by_cases e : i = k
    · subst e; exact h.2
    · exact progTo_get h.1 i (by omega)
theorem progTo_no {z : Nat → Int} {n k : Nat} (i : Nat) (hi : i < k) (h : (instMay (instAt z i) && !badJump z n i) = false) : progTo z n k = false := by
  cases e : progTo z n k with
  | false => rfl
  | true =>
    obtain ⟨h1, h2⟩ := progTo_get e i hi
    rw [h1, h2] at h
    cases h
theorem progMay_get {n : Nat} {z : Nat → Int} (h : progMay n z = true) : progTo z n n = true ∧ n ≤ 16 := by
  simp only [progMay, Bool.and_eq_true, decide_eq_true_eq] at h
  exact h
theorem progMay_mk {n : Nat} {z : Nat → Int} (h : progTo z n n = true) (h' : n ≤ 16) : progMay n z = true := by rw [progMay, h, decide_eq_true h']; rfl
theorem progMay_no {n : Nat} {z : Nat → Int} (i : Nat) (hi : i < n) (h : (instMay (instAt z i) && !badJump z n i) = false) : progMay n z = false := by rw [progMay, progTo_no i hi h]; rfl
theorem progMay_long {n : Nat} {z : Nat → Int} (h : 16 < n) : progMay n z = false := by rw [progMay, decide_eq_false (by omega), Bool.and_false]
end Go.Proofs.YtaaenolbfhhnfaaGreat
namespace Go.Proofs.YtaaenolbfhhnfaaGreat
open Go.RowKit
theorem mask (k : Nat) (hk : k < 63) (n : Int) : bits .and .i64 n ((2 ^ k - 1 : Nat) : Int) = n % ((2 ^ k : Nat) : Int) := by
  have hp : (2 ^ k : Nat) ≤ 2 ^ 62 := Nat.pow_le_pow_right (by decide) (by omega)
  have hp0 : 0 < (2 ^ k : Nat) := Nat.pow_pos (by decide)
  have h2 : (BitVec.ofInt 64 ((2 ^ k - 1 : Nat) : Int)).toNat = 2 ^ k - 1 := by
    rw [BitVec.ofInt_natCast, BitVec.toNat_ofNat]; exact Nat.mod_eq_of_lt (by omega)
  have h1 : ((BitVec.ofInt 64 n).toNat : Int) = n % (2 ^ 64 : Nat) := by
    rw [BitVec.toNat_ofInt]; exact Int.toNat_of_nonneg (Int.emod_nonneg _ (by decide))
  show IntKind.i64.wrap ((BitVec.ofInt 64 n &&& BitVec.ofInt 64 ((2 ^ k - 1 : Nat) : Int)).toNat : Int) = _
  rw [BitVec.toNat_and, h2, Nat.and_two_pow_sub_one_eq_mod]
  have hd : ((2 ^ k : Nat) : Int) ∣ ((2 ^ 64 : Nat) : Int) := Int.natCast_dvd_natCast.mpr (Nat.pow_dvd_pow 2 (by omega))
  have e : (((BitVec.ofInt 64 n).toNat % 2 ^ k : Nat) : Int) = n % ((2 ^ k : Nat) : Int) := by
    rw [Int.natCast_emod, h1]
    exact Int.emod_emod_of_dvd n hd
  rw [e]
  have b0 := Int.emod_nonneg n (b := ((2 ^ k : Nat) : Int)) (by omega)
  have b1 := Int.emod_lt_of_pos n (b := ((2 ^ k : Nat) : Int)) (by omega)
  have b2 : ((2 ^ k : Nat) : Int) ≤ 4611686018427387904 := by
    have : ((2 ^ k : Nat) : Int) ≤ ((2 ^ 62 : Nat) : Int) := Int.ofNat_le.mpr hp
    simpa using this
  simp only [IntKind.wrap, IntKind.bits, IntKind.signed]
  generalize n % ((2 ^ k : Nat) : Int) = r at *
  generalize ((2 ^ k : Nat) : Int) = q at *
  simp
  omega
/-- One of the four labels. -/
def Lab (x : Int) : Prop := 0 ≤ x ∧ x < 4
theorem lab_cases {x : Int} (h : Lab x) : x = 0 ∨ x = 1 ∨ x = 2 ∨ x = 3 := by
  obtain ⟨a, b⟩ := h
  omega
end Go.Proofs.YtaaenolbfhhnfaaGreat
namespace Go.Proofs.YtaaenolbfhhnfaaGreat
open Go.RowKit
/-- No label. -/
def NoLab (x : Int) : Prop := x < 0 ∨ 4 ≤ x
theorem may_yes (a : Int) (h : Lab a) (w : World) :
    Calls Tryz.prog 117 #[.int .i64 a] w fun e w' => e = .returned (.bool true) ∧ w = w' := by
  obtain ⟨h0, h1⟩ := h
  go_enter Tryz.func117, Tryz.ntmps117
  go_wp2
  go_ret
  exact ⟨rfl, rfl⟩
theorem may_no (a : Int) (h : NoLab a) (w : World) :
    Calls Tryz.prog 117 #[.int .i64 a] w fun e w' => e = .returned (.bool false) ∧ w = w' := by
  rcases h with h | h
  · go_enter Tryz.func117, Tryz.ntmps117
    go_wp2
    go_ret
    exact ⟨rfl, rfl⟩
  · have h0 : 0 ≤ a := by omega
    have h2 : ¬ a < 4 := by omega
    go_enter Tryz.func117, Tryz.ntmps117
    go_wp2
    go_ret
    exact ⟨rfl, rfl⟩
theorem below_yes (a b : Int) (ha : Lab a) (hb : Lab b) (w : World) :
    Calls Tryz.prog 75 #[.int .i64 a, .int .i64 b] w fun e w' => e = .returned (.tuple #[.bool (bits .andNot .i64 a b == 0), .int .i64 0]) ∧ w = w' := by
  go_enter Tryz.func75, Tryz.ntmps75
  go_wp2_with (go_at_call 117; refine (may_yes _ (by assumption) _).mono ?_; rintro e w' ⟨rfl, rfl⟩)
  go_ret2
  exact ⟨rfl, rfl⟩
theorem below_no1 (a b : Int) (ha : NoLab a) (w : World) :
    Calls Tryz.prog 75 #[.int .i64 a, .int .i64 b] w fun e w' => e = .returned (.tuple #[.bool false, .int .i64 100]) ∧ w = w' := by
  go_enter Tryz.func75, Tryz.ntmps75
  go_wp2_with (go_at_call 117; refine (may_no _ (by assumption) _).mono ?_; rintro e w' ⟨rfl, rfl⟩)
  go_ret2
  exact ⟨rfl, rfl⟩
theorem below_no2 (a b : Int) (ha : Lab a) (hb : NoLab b) (w : World) :
    Calls Tryz.prog 75 #[.int .i64 a, .int .i64 b] w fun e w' => e = .returned (.tuple #[.bool false, .int .i64 100]) ∧ w = w' := by
  go_enter Tryz.func75, Tryz.ntmps75
  go_wp2_with (first | (go_at_call 117; refine (may_yes _ (by assumption) _).mono ?_; rintro e w' ⟨rfl, rfl⟩) | (go_at_call 117; refine (may_no _ (by assumption) _).mono ?_; rintro e w' ⟨rfl, rfl⟩))
  go_ret2
  exact ⟨rfl, rfl⟩
theorem rmay_yes (a : Int) (h : Lab a) (w : World) :
    Calls Tryz.prog 64 #[.int .i64 a] w fun e w' => e = .returned (.bool true) ∧ w = w' := by
  obtain ⟨h0, h1⟩ := h
  have h2 : a ≤ 3 := by omega
  go_enter Tryz.func64, Tryz.ntmps64
  go_wp2
  go_ret
  exact ⟨rfl, rfl⟩
theorem rmay_no (a : Int) (h : NoLab a) (w : World) :
    Calls Tryz.prog 64 #[.int .i64 a] w fun e w' => e = .returned (.bool false) ∧ w = w' := by
  rcases h with h | h
  · go_enter Tryz.func64, Tryz.ntmps64
    go_wp2
    go_ret
    exact ⟨rfl, rfl⟩
  · have h0 : 0 ≤ a := by omega
    have h2 : ¬ a ≤ 3 := by omega
    go_enter Tryz.func64, Tryz.ntmps64
    go_wp2
    go_ret
    exact ⟨rfl, rfl⟩
end Go.Proofs.YtaaenolbfhhnfaaGreat
namespace Go.Proofs.YtaaenolbfhhnfaaGreat
open Go.RowKit
theorem noLab_of {x : Int} (h : ¬ Lab x) : NoLab x := by
  unfold Lab at h
  unfold NoLab
  omega
theorem not_lab {x : Int} (h : NoLab x) : ¬ Lab x := by
  unfold Lab
  unfold NoLab at h
  omega
/-- May's answer. -/
def mayV (a : Int) : Bool := decide (0 ≤ a ∧ a < 4)
/-- The number of the error of Join and of Below. -/
def labE (a b : Int) : Int := if (0 ≤ a ∧ a < 4) ∧ (0 ≤ b ∧ b < 4) then 0 else 100
/-- Below's answer. -/
def belowV (a b : Int) : Bool := if (0 ≤ a ∧ a < 4) ∧ (0 ≤ b ∧ b < 4) then bits .andNot .i64 a b == 0 else false
theorem belowV_yes {a b : Int} (ha : Lab a) (hb : Lab b) : belowV a b = (bits .andNot .i64 a b == 0) := if_pos ⟨ha, hb⟩
theorem belowV_no1 {a b : Int} (ha : NoLab a) : belowV a b = false := if_neg fun h => not_lab ha h.1
theorem belowV_no2 {a b : Int} (hb : NoLab b) : belowV a b = false := if_neg fun h => not_lab hb h.2
theorem mayV_no {a : Int} (ha : NoLab a) : mayV a = false := decide_eq_false (not_lab ha)
theorem may_any (a : Int) (w : World) :
    Calls Tryz.prog 117 #[.int .i64 a] w fun e w' => e = .returned (.bool (mayV a)) ∧ w = w' := by
  unfold mayV
  by_cases h : 0 ≤ a ∧ a < 4
  · rw [decide_eq_true h]
    exact may_yes a h w
  · rw [decide_eq_false h]
    exact may_no a (noLab_of h) w
theorem rmay_any (a : Int) (w : World) :
    Calls Tryz.prog 64 #[.int .i64 a] w fun e w' => e = .returned (.bool (mayV a)) ∧ w = w' := by
  unfold mayV
  by_cases h : 0 ≤ a ∧ a < 4
  · rw [decide_eq_true h]
    exact rmay_yes a h w
  · rw [decide_eq_false h]
    exact rmay_no a (noLab_of h) w
theorem below_any (a b : Int) (w : World) :
    Calls Tryz.prog 75 #[.int .i64 a, .int .i64 b] w fun e w' => e = .returned (.tuple #[.bool (belowV a b), .int .i64 (labE a b)]) ∧ w = w' := by
  unfold belowV labE
  by_cases h : 0 ≤ a ∧ a < 4
  · by_cases k : 0 ≤ b ∧ b < 4
    · rw [if_pos ⟨h, k⟩, if_pos ⟨h, k⟩]
      exact below_yes a b h k w
    · rw [if_neg fun x => k x.2, if_neg fun x => k x.2]
      exact below_no2 a b h (noLab_of k) w
  · rw [if_neg fun x => h x.1, if_neg fun x => h x.1]
    exact below_no1 a b (noLab_of h) w
end Go.Proofs.YtaaenolbfhhnfaaGreat
namespace Go.Proofs.YtaaenolbfhhnfaaGreat
open Go.RowKit
theorem mayV_up (l : Int) : mayV l = upToV l 3 := decide_eq_decide.2 (by omega)
end Go.Proofs.YtaaenolbfhhnfaaGreat
namespace Go.Proofs.YtaaenolbfhhnfaaGreat
open Go.RowKit
/-- May it be a Start? -/
def startMay (id l c : Int) (n : Nat) (z : Nat → Int) : Bool := upToV id 254 && (belowV l c && progMay n z)
def startA (id l c : Int) (p : Value) : Value := .agg #[.int .i64 id, .int .i64 l, .int .i64 c, p]
def startL (id l c : Int) (p : Value) : List Value := [.int .i64 id, .int .i64 l, .int .i64 c, p]
def sessA (i : Nat → Int) (p r t : Value) : Value := .agg #[.int .i64 (i 0), .int .i64 (i 1), .int .i64 (i 2), p, .int .i64 (i 3), .int .i64 (i 4), .int .i64 (i 5), .int .i64 (i 6), .int .i64 (i 7), .int .i64 (i 8), r, t, .int .i64 (i 9), .int .i64 (i 10), .int .i64 (i 11), .int .i64 (i 12), .int .i64 (i 13)]
def sessL (i : Nat → Int) (p r t : Value) : List Value := [.int .i64 (i 0), .int .i64 (i 1), .int .i64 (i 2), p, .int .i64 (i 3), .int .i64 (i 4), .int .i64 (i 5), .int .i64 (i 6), .int .i64 (i 7), .int .i64 (i 8), r, t, .int .i64 (i 9), .int .i64 (i 10), .int .i64 (i 11), .int .i64 (i 12), .int .i64 (i 13)]
/-- A session's cells, each. -/
theorem Blk.sess {w : World} {b : Nat} {i : Nat → Int} {p r t : Value} (h : Blk w b (sessL i p r t)) :
    w.cell? ⟨b, 0, none⟩ = some (.int .i64 (i 0)) ∧ w.cell? ⟨b, 1, none⟩ = some (.int .i64 (i 1)) ∧ w.cell? ⟨b, 2, none⟩ = some (.int .i64 (i 2)) ∧ w.cell? ⟨b, 3, none⟩ = some p ∧ w.cell? ⟨b, 4, none⟩ = some (.int .i64 (i 3)) ∧ w.cell? ⟨b, 5, none⟩ = some (.int .i64 (i 4)) ∧ w.cell? ⟨b, 6, none⟩ = some (.int .i64 (i 5)) ∧ w.cell? ⟨b, 7, none⟩ = some (.int .i64 (i 6)) ∧ w.cell? ⟨b, 8, none⟩ = some (.int .i64 (i 7)) ∧ w.cell? ⟨b, 9, none⟩ = some (.int .i64 (i 8)) ∧ w.cell? ⟨b, 10, none⟩ = some r ∧ w.cell? ⟨b, 11, none⟩ = some t ∧ w.cell? ⟨b, 12, none⟩ = some (.int .i64 (i 9)) ∧ w.cell? ⟨b, 13, none⟩ = some (.int .i64 (i 10)) ∧ w.cell? ⟨b, 14, none⟩ = some (.int .i64 (i 11)) ∧ w.cell? ⟨b, 15, none⟩ = some (.int .i64 (i 12)) ∧ w.cell? ⟨b, 16, none⟩ = some (.int .i64 (i 13)) :=
  ⟨h.cell 0 _ rfl, h.cell 1 _ rfl, h.cell 2 _ rfl, h.cell 3 _ rfl, h.cell 4 _ rfl, h.cell 5 _ rfl, h.cell 6 _ rfl, h.cell 7 _ rfl, h.cell 8 _ rfl, h.cell 9 _ rfl, h.cell 10 _ rfl, h.cell 11 _ rfl, h.cell 12 _ rfl, h.cell 13 _ rfl, h.cell 14 _ rfl, h.cell 15 _ rfl, h.cell 16 _ rfl⟩
theorem Blk.start {w : World} {b : Nat} {id l c : Int} {p : Value} (h : Blk w b (startL id l c p)) :
    w.cell? ⟨b, 0, none⟩ = some (.int .i64 id) ∧ w.cell? ⟨b, 1, none⟩ = some (.int .i64 l) ∧ w.cell? ⟨b, 2, none⟩ = some (.int .i64 c) ∧ w.cell? ⟨b, 3, none⟩ = some p :=
  ⟨h.cell 0 _ rfl, h.cell 1 _ rfl, h.cell 2 _ rfl, h.cell 3 _ rfl⟩
end Go.Proofs.YtaaenolbfhhnfaaGreat
namespace Go.Proofs.YtaaenolbfhhnfaaGreat
open Go.RowKit
/-- A list of numbers, just laid. -/
def lz (l : List Int) (i : Nat) : Int := l.getD i 0
end Go.Proofs.YtaaenolbfhhnfaaGreat
namespace Go.Proofs.YtaaenolbfhhnfaaGreat
/-- A slice. -/
structure Sl where
  a : Option Addr
  n : Nat
  c : Nat
end Go.Proofs.YtaaenolbfhhnfaaGreat
namespace Go.Proofs.YtaaenolbfhhnfaaGreat
open Go.RowKit
structure PSess where
  num : List Int
  prog : List Int
  reads : List Int
  writes : List Int
structure PMach where
  words : List (List Int)
  clocks : List Int
  ceil : Int
  sess : List PSess
  trace : List Int
def noSess : PSess := ⟨[], [], [], []⟩
/-- The machine beside an error. -/
def noMach : PMach := ⟨[[], [], [], []], [0, 0, 0, 0], 0, [], []⟩
def PMach.lv (M : PMach) (g : Nat) : List Int := M.words.getD g []
def PMach.at (M : PMach) (i : Nat) : PSess := M.sess.getD i noSess
def Sl.v (s : Sl) : Value := .slice s.a s.n s.c
/-- Where a session's lists lie. -/
structure SesM where
  p : Sl
  r : Sl
  t : Sl
/-- Where a machine's lists lie. -/
structure MacM where
  w : Nat → Sl
  s : Sl
  q : Nat → SesM
  e : Sl
def noSl : Sl := ⟨none, 0, 0⟩
def noMac : MacM := ⟨fun _ => noSl, noSl, fun _ => ⟨noSl, noSl, noSl⟩, noSl⟩
/-- The slice's cells hold the list's numbers, k an element. -/
def SlIs (W : World) (k : Nat) (s : Sl) (L : List Int) : Prop :=
  L.length = s.n * k ∧ (s.n * (8 * k) ≤ 140737488351232 ∧ s.n ≤ s.c ∧ (s.a = none → s.n = 0 ∧ s.c = 0)) ∧ Row W s.a (s.n * k) fun i => .int .i64 (lz L i)
def sessOf (q : SesM) (x : PSess) : List Value := sessL (lz x.num) (.slice q.p.a q.p.n q.p.c) (.slice q.r.a q.r.n q.r.c) (.slice q.t.a q.t.n q.t.c)
def SessIs (W : World) (q : SesM) (x : PSess) : Prop := x.num.length = 14 ∧ SlIs W 4 q.p x.prog ∧ SlIs W 3 q.r x.reads ∧ SlIs W 3 q.t x.writes
/-- A cell of the sessions' list. -/
def sessCell (q : Nat → SesM) (X : List PSess) (j : Nat) : Value := (sessOf (q (j / 17)) (X.getD (j / 17) noSess)).getD (j % 17) undef
def SesIs (W : World) (s : Sl) (q : Nat → SesM) (X : List PSess) : Prop :=
  X.length = s.n ∧ (s.n * 184 ≤ 140737488351232 ∧ s.n ≤ s.c ∧ (s.a = none → s.n = 0 ∧ s.c = 0)) ∧ Row W s.a (s.n * 17) (sessCell q X) ∧ ∀ i, i < s.n → SessIs W (q i) (X.getD i noSess)
def macL (s : Nat → Sl) (c : Nat → Int) (m : Int) (ss ts : Value) : List Value := [.slice (s 0).a (s 0).n (s 0).c, .slice (s 1).a (s 1).n (s 1).c, .slice (s 2).a (s 2).n (s 2).c, .slice (s 3).a (s 3).n (s 3).c, .int .i64 (c 0), .int .i64 (c 1), .int .i64 (c 2), .int .i64 (c 3), .int .i64 m, ss, ts]
def macA (s : Nat → Sl) (c : Nat → Int) (m : Int) (ss ts : Value) : Value := .agg #[.slice (s 0).a (s 0).n (s 0).c, .slice (s 1).a (s 1).n (s 1).c, .slice (s 2).a (s 2).n (s 2).c, .slice (s 3).a (s 3).n (s 3).c, .int .i64 (c 0), .int .i64 (c 1), .int .i64 (c 2), .int .i64 (c 3), .int .i64 m, ss, ts]
def machL (A : MacM) (M : PMach) : List Value := macL A.w (lz M.clocks) M.ceil (.slice A.s.a A.s.n A.s.c) (.slice A.e.a A.e.n A.e.c)
def machA (A : MacM) (M : PMach) : Value := macA A.w (lz M.clocks) M.ceil (.slice A.s.a A.s.n A.s.c) (.slice A.e.a A.e.n A.e.c)
theorem Blk.mac {w : World} {b : Nat} {s : Nat → Sl} {c : Nat → Int} {m : Int} {ss ts : Value} (h : Blk w b (macL s c m ss ts)) :
    w.cell? ⟨b, 0, none⟩ = some (.slice (s 0).a (s 0).n (s 0).c) ∧ w.cell? ⟨b, 1, none⟩ = some (.slice (s 1).a (s 1).n (s 1).c) ∧ w.cell? ⟨b, 2, none⟩ = some (.slice (s 2).a (s 2).n (s 2).c) ∧ w.cell? ⟨b, 3, none⟩ = some (.slice (s 3).a (s 3).n (s 3).c) ∧ w.cell? ⟨b, 4, none⟩ = some (.int .i64 (c 0)) ∧ w.cell? ⟨b, 5, none⟩ = some (.int .i64 (c 1)) ∧ w.cell? ⟨b, 6, none⟩ = some (.int .i64 (c 2)) ∧ w.cell? ⟨b, 7, none⟩ = some (.int .i64 (c 3)) ∧ w.cell? ⟨b, 8, none⟩ = some (.int .i64 m) ∧ w.cell? ⟨b, 9, none⟩ = some ss ∧ w.cell? ⟨b, 10, none⟩ = some ts :=
  ⟨h.cell 0 _ rfl, h.cell 1 _ rfl, h.cell 2 _ rfl, h.cell 3 _ rfl, h.cell 4 _ rfl, h.cell 5 _ rfl, h.cell 6 _ rfl, h.cell 7 _ rfl, h.cell 8 _ rfl, h.cell 9 _ rfl, h.cell 10 _ rfl⟩
structure MachIs (W : World) (A : MacM) (M : PMach) : Prop where
  four : M.words.length = 4
  clocks : M.clocks.length = 4
  words : ∀ g, g < 4 → SlIs W 3 (A.w g) (M.lv g)
  sess : SesIs W A.s A.q M.sess
  trace : SlIs W 4 A.e M.trace
theorem SlIs.below {W W' : World} {k : Nat} {s : Sl} {L : List Int} (h : SlIs W k s L) (hb : Below W.heap.size W W') : SlIs W' k s L := ⟨h.1, h.2.1, h.2.2.below hb (Nat.le_refl _)⟩
theorem SessIs.below {W W' : World} {q : SesM} {x : PSess} (h : SessIs W q x) (hb : Below W.heap.size W W') : SessIs W' q x := ⟨h.1, h.2.1.below hb, h.2.2.1.below hb, h.2.2.2.below hb⟩
theorem SesIs.below {W W' : World} {s : Sl} {q : Nat → SesM} {X : List PSess} (h : SesIs W s q X) (hb : Below W.heap.size W W') : SesIs W' s q X := ⟨h.1, h.2.1, h.2.2.1.below hb (Nat.le_refl _), fun i hi => (h.2.2.2 i hi).below hb⟩
theorem MachIs.below {W W' : World} {A : MacM} {M : PMach} (h : MachIs W A M) (hb : Below W.heap.size W W') : MachIs W' A M :=
  ⟨h.four, h.clocks, fun g hg => (h.words g hg).below hb, h.sess.below hb, h.trace.below hb⟩
theorem slIs_none (W : World) (k : Nat) : SlIs W k noSl [] := ⟨by show 0 = 0 * k; omega, ⟨by show 0 * _ ≤ _; omega, Nat.le_refl _, fun _ => ⟨rfl, rfl⟩⟩, by show Row W _ (0 * k) _; rw [Nat.zero_mul]; exact row_zero _ _ _⟩
theorem machIs_none (W : World) : MachIs W noMac noMach :=
  ⟨rfl, rfl, fun g hg => by
    have : noMach.lv g = [] := by
      have : g = 0 ∨ g = 1 ∨ g = 2 ∨ g = 3 := by omega
      rcases this with rfl | rfl | rfl | rfl <;> rfl
    rw [this]; exact slIs_none W 3, ⟨rfl, ⟨by decide, by decide, fun _ => ⟨rfl, rfl⟩⟩, row_zero _ _ _, fun i hi => absurd hi (Nat.not_lt_zero _)⟩, slIs_none W 4⟩
/-- A row of numbers, as a list. -/
theorem lz_map {m : Nat} {z : Nat → Int} {i : Nat} (h : i < m) : lz ((List.range m).map z) i = z i := by simp [lz, List.getD, h]
theorem slIs_of {W : World} {k : Nat} {a : Option Addr} {n c : Nat} {z : Nat → Int} (hf : n * (8 * k) ≤ 140737488351232 ∧ n ≤ c ∧ (a = none → n = 0 ∧ c = 0)) (hr : Row W a (n * k) fun i => .int .i64 (z i)) : SlIs W k ⟨a, n, c⟩ ((List.range (n * k)).map z) :=
  ⟨by simp, hf, hr.congr fun i hi => by rw [lz_map hi]⟩
/-- A session's cells in the list. -/
theorem SesIs.cell {W : World} {s : Sl} {q : Nat → SesM} {X : List PSess} (h : SesIs W s q X) {i j : Nat} (hi : i < s.n) (hj : j < 17) : ∃ b off, s.a = some ⟨b, off, none⟩ ∧ b < W.heap.size ∧ W.cell? ⟨b, off + (i * 17 + j), none⟩ = some ((sessOf (q i) (X.getD i noSess)).getD j undef) := by
  obtain ⟨b, off, e, hb, hc⟩ := h.2.2.1 (i * 17 + j) (by omega)
  refine ⟨b, off, e, hb, hc.trans ?_⟩
  unfold sessCell
  rw [show (i * 17 + j) / 17 = i by omega, show (i * 17 + j) % 17 = j by omega]
end Go.Proofs.YtaaenolbfhhnfaaGreat
namespace Go.Proofs.YtaaenolbfhhnfaaGreat
open Go.RowKit
theorem grown_same (w : World) (row : Option Nat) : w.grownBy w row := ⟨rfl, rfl, rfl, Nat.le_refl _, fun _ _ _ => rfl⟩
theorem wpList_append_row {P : Program} {w : World} {ops : Array Oper} {rest : List Oper} {o : Oper} {a : Act} {Q : Exit → Act → World → Prop} (hgd : o.guard = none) (s x : Operand) (t : TypeId)
    (ho : o.op = .call { callee := .builtin .append, args := #[s, x], argTypes := #[t, t] })
    (base : Nat) (e : TypeId) (i : TypeInfo) (z : Value) (size bytes : Nat) (ht : P.underlying t = some (.slice e)) (hi : P.info? e = some i) (hz : i.zero = some z)
    (hsize : i.size = size) (hby : i.bytes = bytes) (hzs : z.cells.size = size) (hsz : 0 < size)
    (v : Value) (m : Nat) (xs : List Value) (hs : a.eval s = v) (hown : w.ownsRow base e size v m xs)
    (ad : Option Addr) (n c : Nat) (f : Nat → Value) (hx : a.eval x = .slice ad n c) (ha : ad = none → n = 0 ∧ c = 0) (hrow : Row w ad (n * size) f) (h1 : ∀ i, (f i).oneCell' = true)
    (h63 : m + n ≤ maxLen) (hbytes : (m + n) * bytes ≤ 140737488355328) (hbase : base ≤ w.heap.size)
    (h : ∀ v' w', w'.ownsRow base e size v' (m + n) (xs ++ rowL f (n * size)) → w.grownBy w' v.ownBlock → wpList P ops Q rest (a.put o.dst v') w') : wpList P ops Q (o :: rest) a w := by
  cases ad with
  | none =>
    obtain ⟨rfl, rfl⟩ := ha rfl
    refine wpList_append_own_none hgd s x t ho base e i size ht hi v m xs hs hown hx (h v w ?_ (grown_same _ _))
    have : rowL f (0 * size) = [] := by rw [Nat.zero_mul]; rfl
    rw [this, List.append_nil]
    exact hown
  | some ad =>
    exact wpList_append_own w hgd s x t ho base e i z size bytes ht hi hz hsize hby hzs hsz v m xs hs hown ad n c (rowL f (n * size)) hx (rowL_len _ _) hrow.news (rowL_one fun i _ => h1 i) h63 hbytes hbase fun v' w' h2 h3 _ => h v' w' h2 h3
/-- What is owned, as a slice. -/
theorem slice_of_owns {w : World} {base : Nat} {e : TypeId} {k n : Nat} {v : Value} {f : Nat → Value} (h : w.ownsRow base e k v n (rowL f (n * k))) :
    ∃ (a : Option Addr) (c : Nat), v = .slice a n c ∧ n ≤ c ∧ (a = none → n = 0 ∧ c = 0) ∧ Row w a (n * k) f ∧ (0 < n → ∃ b, a = some ⟨b, 0, none⟩ ∧ base ≤ b ∧ b < w.heap.size ∧ Own w b (n * k) f) := by
  rcases own_of_owns h with ⟨rfl, h0⟩ | ⟨g, cap, rfl, hg1, hc, _, ho⟩
  · subst h0
    exact ⟨none, 0, rfl, Nat.le_refl _, fun _ => ⟨rfl, rfl⟩, by rw [Nat.zero_mul]; exact row_zero _ _ _, fun h => absurd h (Nat.lt_irrefl 0)⟩
  · exact ⟨some ⟨g, 0, none⟩, cap, rfl, hc, (fun h => by cases h), ho.row, fun _ => ⟨g, rfl, hg1, ho.lt, ho⟩⟩
theorem owns_drawn {w : World} {base : Nat} {e : TypeId} {k n : Nat} {v : Value} {xs : List Value} (h : w.ownsRow base e k v n xs) (q : Nat) : (w.drewN q).ownsRow base e k v n xs := h
end Go.Proofs.YtaaenolbfhhnfaaGreat
