/-
  An append of a row, nil or not, onto what a call owns. Nothing of a program here.
-/
import Derived.Test.YtlaanhkmoficbaaOwn
import Derived.Laws.AppendOwnNone
import Derived.OwnWalk
namespace Go.Proofs.Ytlaanhkmoficbaa
open Go.RowKit

theorem grown_same (w : World) (row : Option Nat) : w.grownBy w row := ⟨rfl, rfl, rfl, Nat.le_refl _, fun _ _ _ => rfl⟩

theorem wpList_append_row {P : Program} {w : World} {ops : Array Oper} {rest : List Oper} {o : Oper} {a : Act} {Q : Exit → Act → World → Prop} (hgd : o.guard = none) (s x : Operand) (t : TypeId)
    (ho : o.op = .call { callee := .builtin .append, args := #[s, x], argTypes := #[t, t] })
    (base : Nat) (e : TypeId) (i : TypeInfo) (z : Value) (size bytes : Nat) (ht : P.underlying t = some (.slice e)) (hi : P.info? e = some i) (hz : i.zero = some z)
    (hsize : i.size = size) (hby : i.bytes = bytes) (hzs : z.cells.size = size) (hsz : 0 < size)
    (v : Value) (m : Nat) (xs : List Value) (hs : a.eval s = v) (hown : w.ownsRow base e size v m xs)
    (ad : Option Addr) (n c : Nat) (f : Nat → Value) (hx : a.eval x = .slice ad n c) (ha : ad = none → n = 0 ∧ c = 0) (hrow : Row w ad (n * size) f) (h1 : ∀ i, (f i).oneCell' = true)
    (h63 : m + n ≤ maxLen) (hbytes : (m + n) * bytes ≤ 140737488355328) (hbase : base ≤ w.heap.size)
    (h : ∀ v' w', w'.ownsRow base e size v' (m + n) (xs ++ rowL f (n * size)) → w.grownBy w' v.ownBlock → wpList P ops Q rest (a.put o.dst v') w') : wpList P ops Q (o :: rest) a w := by
  cases ad with
  | none =>
    obtain ⟨rfl, rfl⟩ := ha rfl
    refine wpList_append_own_none hgd s x t ho base e i size ht hi v m xs hs hown hx (h v w ?_ (grown_same _ _))
    have : rowL f (0 * size) = [] := by rw [Nat.zero_mul]; rfl
    rw [this, List.append_nil]
    exact hown
  | some ad =>
    exact wpList_append_own w hgd s x t ho base e i z size bytes ht hi hz hsize hby hzs hsz v m xs hs hown ad n c (rowL f (n * size)) hx (rowL_len _ _) hrow.news (rowL_one fun i _ => h1 i) h63 hbytes hbase fun v' w' h2 h3 _ => h v' w' h2 h3

/-- What is owned, as a slice. -/
theorem slice_of_owns {w : World} {base : Nat} {e : TypeId} {k n : Nat} {v : Value} {f : Nat → Value} (h : w.ownsRow base e k v n (rowL f (n * k))) :
    ∃ (a : Option Addr) (c : Nat), v = .slice a n c ∧ n ≤ c ∧ (a = none → n = 0 ∧ c = 0) ∧ Row w a (n * k) f ∧ (0 < n → ∃ b, a = some ⟨b, 0, none⟩ ∧ base ≤ b ∧ b < w.heap.size ∧ Own w b (n * k) f) := by
  rcases own_of_owns h with ⟨rfl, h0⟩ | ⟨g, cap, rfl, hg1, hc, _, ho⟩
  · subst h0
    exact ⟨none, 0, rfl, Nat.le_refl _, fun _ => ⟨rfl, rfl⟩, by rw [Nat.zero_mul]; exact row_zero _ _ _, fun h => absurd h (Nat.lt_irrefl 0)⟩
  · exact ⟨some ⟨g, 0, none⟩, cap, rfl, hc, (fun h => by cases h), ho.row, fun _ => ⟨g, rfl, hg1, ho.lt, ho⟩⟩
theorem owns_on {w w1 : World} {base : Nat} {e : TypeId} {size : Nat} {v : Value} {n : Nat} {xs : List Value} (h : w.ownsRow base e size v n xs) (hb : Below w.heap.size w w1) : w1.ownsRow base e size v n xs := by
  rcases h with ⟨hl, h2 | ⟨g, cap, cur, hv, hg, hh, r⟩⟩
  · exact ⟨hl, .inl h2⟩
  · have hlt : g < w.heap.size := by
      have := Array.getElem?_eq_some_iff.1 hh
      exact this.1
    exact ⟨hl, .inr ⟨g, cap, cur, hv, hg, by rw [hb.block g hlt]; exact hh, r⟩⟩
theorem owns_drawn {w : World} {base : Nat} {e : TypeId} {k n : Nat} {v : Value} {xs : List Value} (h : w.ownsRow base e k v n xs) (q : Nat) : (w.drewN q).ownsRow base e k v n xs := h

end Go.Proofs.Ytlaanhkmoficbaa
