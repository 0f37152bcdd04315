/-
  Several small texts in one: AppList, Tree.
-/
import Derived.Test.YtnjognmnbpcaaaaGreatZlac
namespace Go.Proofs.YtnjognmnbpcaaaaGreat
open Go.RowKit
set_option linter.unusedSimpArgs false
set_option linter.unusedVariables false
theorem rowL_more {l x : List Int} {n k : Nat} (hl : l.length = n * k) (hx : x.length = k) : rowL (intF (lz l)) (n * k) ++ x.map (Value.int .i64) = rowL (intF (lz (l ++ x))) ((n + 1) * k) := by
  have hm : (n + 1) * k = n * k + k := by rw [Nat.add_mul, Nat.one_mul]
  apply List.ext_getElem?
  intro i
  by_cases h1 : i < n * k
  · rw [List.getElem?_append_left (by rw [rowL_len]; exact h1), rowL_get h1, rowL_get (by omega)]
    unfold intF
    rw [lz_left (by rw [hl]; exact h1)]
  · rw [List.getElem?_append_right (by rw [rowL_len]; omega), rowL_len]
    by_cases h2 : i < (n + 1) * k
    · rw [rowL_get h2]
      unfold intF
      rw [lz_right (by rw [hl]; omega), hl]
      have : i - n * k < x.length := by omega
      simp [lz, List.getD, this]
    · rw [rowL_none (by omega)]
      simp; omega
theorem stw_app1 {w0 w : World} {L : List Itm} {P : Program} {op : Oper} {a : Act} {K : Act → World → Prop} {Q : Exit → Act → World → Prop} (HS : Hid (St w0 w L)) (i : Nat) {D : Nat → Prop} {e : TypeId} {k : Nat} {sl : Sl} {l : List Int} {be : Nat} {x : List Int} (B : ∀ q u, (x.map (Value.int .i64))[q]? = some u → w.cell? ⟨be, q, none⟩ = some u) (hxk : x.length = k) (ei : L[i]? = some (slI D e k sl l)) (hn : sl.n < 512)
    (s y : Operand) (t : TypeId) (ho : op.op = .call { callee := .builtin .append, args := #[s, y], argTypes := #[t, t] }) (z : Value) (bytes : Nat) (ht : P.underlying t = some (.slice e)) (hi : (P.info? e).map (fun i => (i.zero, i.size, i.bytes)) = some (some z, k, bytes)) (hzs : z.cells.size = k) (hk : 0 < k) (hk9 : k ≤ 100) (hb8 : bytes = 8 * k)
    (hs : a.eval s = .slice sl.a sl.n sl.c) (hy : a.eval y = .slice (some ⟨be, 0, none⟩) 1 1)
    (h : ∀ W D' g cap, Hid (St w0 W (L.set i (slI D' e k ⟨some ⟨g, 0, none⟩, sl.n + 1, cap⟩ (l ++ x)))) → K (a.put op.dst (.slice (some ⟨g, 0, none⟩) (sl.n + 1) cap)) W) : op.wp P a w K Q := by
  obtain ⟨ie, hie, hz, hsize, hby⟩ := info_parts hi
  have hM : ListOwn D e k w sl l := HS.out.get i ei
  obtain ⟨v0, rfl, ho5, hb5⟩ := hM.row
  have hlen := hM.is.1
  refine wp_append_lies w s y t ho 0 e ie z k bytes ht hie hz hsize hby hzs hk (.slice sl.a sl.n sl.c) sl.n _ hs ho5 ⟨be, 0, none⟩ 1 1 (x.map (Value.int .i64)) hy (by simp [hxk]) (fun q u hq => ?_) (fun u hu => ?_) (by decide) (by unfold maxLen; omega) (by rw [hb8]; have : (sl.n + 1) * (8 * k) ≤ 512 * 800 := Nat.mul_le_mul (by omega) (by omega); omega) (Nat.zero_le _) w.heap.size rfl fun g cap W' hown hgrow hat hlt => ?_
  · have hadd : (⟨be, 0, none⟩ : Addr).add q = ⟨be, q, none⟩ := by unfold Addr.add; split <;> simp_all
    rw [hadd]
    exact B q u hq
  · obtain ⟨q, _, rfl⟩ := List.mem_map.1 hu
    rfl
  · rw [rowL_more hlen hxk] at hown
    have hown2 := hown
    obtain ⟨a', c', e2, hc, ha', hr, ho'⟩ := slice_of_owns hown
    simp only [Value.slice.injEq] at e2
    obtain ⟨e3, _, e4⟩ := e2
    subst e3; subst e4
    refine h W' (fun q => D q ∨ q = g) g cap (HS.out.set i ei (slI (fun q => D q ∨ q = g) e k ⟨some ⟨g, 0, none⟩, sl.n + 1, cap⟩ (l ++ x)) (chg_grown hgrow fun g' hg' => hb5 g' hg') (slI_loc _ _ _ _ _) ⟨⟨?_, ⟨?_, hc, ha'⟩, hr⟩, fun h0 => ?_, _, rfl, hown2, fun q hq => ?_⟩ fun q hq => ?_)
    · show (l ++ x).length = (sl.n + 1) * k
      rw [List.length_append, hlen, hxk, Nat.add_mul, Nat.one_mul]
    · show (sl.n + 1) * (8 * k) ≤ _
      have : (sl.n + 1) * (8 * k) ≤ 512 * 800 := Nat.mul_le_mul (by omega) (by omega)
      omega
    · obtain ⟨b, e1, _, _, q, hq, _⟩ := ho' h0
      cases e1
      exact ⟨g, rfl, .inr rfl, q, hq⟩
    · right
      simpa [Value.ownBlock, eq_comm] using hq
    · rcases hq with hq | rfl
      · exact .inl hq
      · rcases hat with hat | hat
        · exact .inl (hb5 q hat)
        · exact .inr ⟨by omega, hlt⟩
theorem st_app1 {w0 w : World} {L : List Itm} {P : Program} {ops : Array Oper} {rest : List Oper} {op : Oper} {a : Act} {Q : Exit → Act → World → Prop} (HS : Hid (St w0 w L)) (i : Nat) {D : Nat → Prop} {e : TypeId} {k : Nat} {sl : Sl} {l : List Int} {be : Nat} {x : List Int} (B : ∀ q u, (x.map (Value.int .i64))[q]? = some u → w.cell? ⟨be, q, none⟩ = some u) (hxk : x.length = k) (ei : L[i]? = some (slI D e k sl l)) (hn : sl.n < 512) (hgd : Region.wanted op (yielded ops a.tmps) = true)
    (s y : Operand) (t : TypeId) (ho : op.op = .call { callee := .builtin .append, args := #[s, y], argTypes := #[t, t] }) (z : Value) (bytes : Nat) (ht : P.underlying t = some (.slice e)) (hi : (P.info? e).map (fun i => (i.zero, i.size, i.bytes)) = some (some z, k, bytes)) (hzs : z.cells.size = k) (hk : 0 < k) (hk9 : k ≤ 100) (hb8 : bytes = 8 * k)
    (hs : a.eval s = .slice sl.a sl.n sl.c) (hy : a.eval y = .slice (some ⟨be, 0, none⟩) 1 1)
    (h : ∀ W D' g cap, Hid (St w0 W (L.set i (slI D' e k ⟨some ⟨g, 0, none⟩, sl.n + 1, cap⟩ (l ++ x)))) → wpList P ops Q rest (a.put op.dst (.slice (some ⟨g, 0, none⟩) (sl.n + 1) cap)) W) : wpList P ops Q (op :: rest) a w :=
  BigFrame.wpList_want hgd fun _ hK => stw_app1 HS i B hxk ei hn s y t ho z bytes ht hi hzs hk hk9 hb8 hs hy fun W D' g cap h2 => hK _ _ (h W D' g cap h2)
theorem slI_nil (w0 W : World) (L : List Itm) (e : TypeId) (k : Nat) (h : St w0 W L) : St w0 W (slI (fun _ => False) e k noSl [] :: L) :=
  h.push (Below.refl _ W) (slI (fun _ => False) e k noSl []) (slI_loc _ _ _ _ _) ⟨slIs_none W k, slOwn_none _ _ rfl, _, rfl, by rw [show (noSl.n * k) = 0 from Nat.zero_mul k]; exact World.ownsRow_nil _ _ _ _, fun g hg => by simp [Value.ownBlock, noSl] at hg⟩ fun k hk => hk.elim
end Go.Proofs.YtnjognmnbpcaaaaGreat
namespace Go.Proofs.YtnjognmnbpcaaaaGreat
open Go.RowKit
set_option linter.unusedSimpArgs false
set_option linter.unusedVariables false
section
variable {P : Program} {ops : Array Oper} {Q : Exit → Act → World → Prop} {C : World → Prop}
/-- What is left, in whatever order; C holds behind every operation. -/
def wpTree (P : Program) (ops : Array Oper) (Q : Exit → Act → World → Prop) (C : World → Prop) (n : Nat) (l : Array Bool) (a : Act) (w : World) : Prop :=
  wpAnyL P .any ops Q C ([] : List Nat).contains (List.range ops.size).contains n l a w
theorem wp_region_tree {id : Nat} {a : Act} {w : World} {l : List Oper} (m : List Bool) (l0 : Array Bool) (n : Nat) (C : World → Prop) (hm : P.follows .mixedOrders = true) (hs : Region.noSelect l.toArray = true) (hl : (m.length == l.length) = true)
    (hok : (okTakeG .any l.toArray [] (fun x => x == l0) (maskIdx 0 m) (Array.replicate l.toArray.size false) && ((maskIdx 0 m).length + n == l.toArray.size)) = true) (hC : C w.drew)
    (h : Nonempty (Cls C) → wpQuiet P l.toArray (fun w' => ∃ u : Cls C, w' = u.at_) (fun a' => wpTree P l.toArray (NoPanic Q) (InC C) n l0 a' w.drew) (pickAt l m) a) : (Code.region id l.toArray true).wp P Q a w := by
  simp only [Bool.and_eq_true] at hok
  obtain ⟨hok1, hlen⟩ := hok
  rw [beq_iff_eq] at hlen hl
  refine wp_region_noPanic ?_
  refine wp_region_any hm (wpAny_of_late (C := InC C) (late := ([] : List Nat).contains) (neut := (List.range l.toArray.size).contains) _ _ _ _ ?_)
  have key := any_of_takeG (P := P) (Q := NoPanic Q) (md := .any) (C := InC C) (late := []) (neut := List.range l.toArray.size) (n := n) (Region.noSelect_spec hs) (fun _ _ _ _ _ h => h) w.drew (InC.mk hC) (R := fun a' => wpTree P l.toArray (NoPanic Q) (InC C) n l0 a' w.drew) (fin := fun x => x == l0) (fun l' a' hf hR => by rw [beq_iff_eq] at hf; rw [hf]; exact hR) _ _ _ a (mask_ok (l := l) m 0 (by omega)) hok1 (h ⟨⟨_, hC⟩⟩)
  rw [hlen] at key
  exact key
theorem tree_step {n : Nat} {l : Array Bool} {a : Act} {w : World} (is : List Nat) (hr : Region.ready .any ops l = is) (hne : (is != []) = true) (h : ∀ i, i ∈ is → wpOp P ops Q i (fun a' w' => C w' ∧ wpTree P ops Q C n (l.setIfInBounds i true) a' w') a w) : wpTree P ops Q C (n + 1) l a w :=
  ⟨fun h0 => (by rw [hr] at h0; subst h0; cases hne), fun i hi => wpOp_mono (fun a' w' k => ⟨fun _ _ => k.1, k.2⟩) (h i (hr ▸ hi))⟩
theorem tree_end {l : Array Bool} {a : Act} {w : World} (hr : Region.ready .any ops l = []) (h : Q .normal a w) : wpTree P ops Q C 0 l a w := ⟨hr, h⟩
theorem in_one {p : Nat → Prop} {x : Nat} (h : p x) : ∀ i, i ∈ [x] → p i := fun i hi => by
  obtain rfl : i = x := by simpa using hi
  exact h
theorem tree_op {lo : List Oper} {i : Nat} {o : Oper} {a : Act} {w : World} {R : Act → World → Prop} (ho : lo[i]? = some o) (hw : Region.wanted o (yielded lo.toArray a.tmps) = true) (h : ∀ K : Act → World → Prop, (∀ a' w', C w' → R a' w' → K a' w') → o.wp P a w K Q) : wpOp P lo.toArray Q i (fun a' w' => C w' ∧ R a' w') a w := by
  have ho' : lo.toArray[i]? = some o := by simpa using ho
  unfold wpOp
  rw [ho']
  simp only
  rw [if_pos hw]
  exact .inl (h _ fun a' w' h1 h2 => ⟨h1, h2⟩)
end
end Go.Proofs.YtnjognmnbpcaaaaGreat
