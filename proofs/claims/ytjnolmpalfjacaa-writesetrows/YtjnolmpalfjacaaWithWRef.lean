/-
  The document's With of chapter 10.
-/
import Derived.Test.YtjnolmpalfjacaaWritesRef
import Derived.Test.YtjnolmpalfjacaaAppendRow
import Derived.Test.YtjnolmpalfjacaaSl
namespace Go.Proofs.Ytjnolmpalfjacaa
open Go.RowKit
set_option linter.unusedSimpArgs false
set_option linter.unusedVariables false

/-- One write's numbers. -/
def oneW (l i v : Int) : Nat → Int := insW 0 0 (fun _ => 0) l i v
theorem Blk.write {w : World} {b : Nat} {l i v : Int} (h : Blk w b [.int .i64 l, .int .i64 i, .int .i64 v]) : Row w (some ⟨b, 0, none⟩) (1 * 3) fun j => .int .i64 (oneW l i v j) := by
  refine Own.row ⟨_, h, fun j hj => ?_⟩
  have : j = 0 ∨ j = 1 ∨ j = 2 := by omega
  rcases this with rfl | rfl | rfl <;> rfl
theorem writesMay_one (l i v : Int) : writesMay 1 (oneW l i v) = writeMay l i v := by
  show ((true && writeMay l i v) && (true && riseW (oneW l i v) 0) && true) = _
  rw [Bool.true_and, Bool.and_true, show riseW (oneW l i v) 0 = true from rfl, Bool.and_self, Bool.and_true]

/-- What With hands back: in new memory the writes with the one more, or nothing. -/
def WithWPost (n : Nat) (z : Nat → Int) (l i v : Int) (w : World) (e : Ending) (w' : World) : Prop :=
  ∃ x : Sl, e = .returned (.tuple #[.slice x.a x.n x.c, .int .i64 (withWE n z l i v)]) ∧ (x.a = none → x.n = 0 ∧ x.c = 0) ∧ x.n ≤ x.c ∧ x.n = withWN n z l i v ∧ (withWOk n z l i v = false → x = ⟨none, 0, 0⟩) ∧
    (0 < x.n → ∃ b, x.a = some ⟨b, 0, none⟩ ∧ w.heap.size ≤ b ∧ b < w'.heap.size ∧ Own w' b (x.n * 3) (intF (withWZ n z l i v))) ∧ Below w.heap.size w w'
theorem withW_no {n : Nat} {z : Nat → Int} {l i v : Int} {w w' : World} (h : withWOk n z l i v = false) (hb : Below w.heap.size w w') : WithWPost n z l i v w (.returned (.tuple #[.slice none 0 0, .int .i64 1000])) w' :=
  ⟨⟨none, 0, 0⟩, by unfold withWE; rw [h]; rfl, fun _ => ⟨rfl, rfl⟩, Nat.le_refl _, by unfold withWN; rw [h]; rfl, fun _ => rfl, fun hp => absurd hp (Nat.lt_irrefl 0), hb⟩
theorem withW_yes {n m : Nat} {z : Nat → Int} {l i v : Int} {w w' : World} {a : Option Addr} {c : Nat} (h : withWOk n z l i v = true) (hm : m = posW n z l i + 1 + (n - toW n z l i)) (hb : Below w.heap.size w w')
    (hc : m ≤ c) (ho : 0 < m → ∃ b, a = some ⟨b, 0, none⟩ ∧ w.heap.size ≤ b ∧ b < w'.heap.size ∧ Own w' b (m * 3) (intF (withWZ n z l i v))) : WithWPost n z l i v w (.returned (.tuple #[.slice a m c, .int .i64 0])) w' := by
  obtain ⟨b, e1, e2, e3, e4⟩ := ho (by omega)
  exact ⟨⟨a, m, c⟩, by unfold withWE; rw [h]; rfl, (fun ha => by rw [e1] at ha; cases ha), hc, by unfold withWN; rw [h]; exact hm, (fun h' => by rw [h] at h'; cases h'), fun _ => ⟨b, e1, e2, e3, e4⟩, hb⟩
/-- A row, and three cells more of the same function. -/
theorem rowL_three (Z : Nat → Int) (m : Nat) {x y u : Int} (h : Z (m * 3) = x ∧ Z (m * 3 + 1) = y ∧ Z (m * 3 + 2) = u) : rowL (intF Z) (m * 3) ++ [.int .i64 x, .int .i64 y, .int .i64 u] = rowL (intF Z) ((m + 1) * 3) := by
  obtain ⟨rfl, rfl, rfl⟩ := h
  rw [show (m + 1) * 3 = m * 3 + 3 by omega, rowL_add]
  rfl
/-- Where the loop stands: how many were taken over, whether the one more was. -/
def MidW (n : Nat) (z : Nat → Int) (l i : Int) (k m : Nat) (d : Bool) : Prop :=
  (d = false → m = k ∧ k ≤ posW n z l i) ∧ (d = true → toW n z l i ≤ k ∧ m = posW n z l i + 1 + (k - toW n z l i))
theorem MidW.few {n k m : Nat} {z : Nat → Int} {l i : Int} {d : Bool} (H : Wr n z) (h : MidW n z l i k m d) (hk : k ≤ n) : m ≤ 17 := by
  have h1 := posW_le n z l i
  have h3 := H.few
  have h2 : posW n z l i ≤ toW n z l i := by unfold toW; cases hasW n z l i <;> simp only [cond_true, cond_false] <;> omega
  cases d
  · have := (h.1 rfl).1; omega
  · have := h.2 rfl; omega

section
variable {n k m : Nat} {z : Nat → Int} {l i v : Int}
/-- One that is ahead is taken over as it is. -/
theorem MidW.ahead (H : Wr n z) (hm : writeMay l i v = true) (h : MidW n z l i k m false) (hk : k < n) (hlt : wkey z k < 4 * l + i) :
    MidW n z l i (k + 1) (m + 1) false ∧ (withWZ n z l i v (m * 3) = z (k * 3) ∧ withWZ n z l i v (m * 3 + 1) = z (k * 3 + 1) ∧ withWZ n z l i v (m * 3 + 2) = z (k * 3 + 2)) := by
  obtain ⟨rfl, hp⟩ := h.1 rfl
  have hp' : m < posW n z l i := by
    by_cases e : m = posW n z l i
    · exfalso
      have h3 := H.alone m hk
      have := lead_no (p := ltW z l i) (n := n) (by show posW n z l i < n; omega)
      rw [show lead (ltW z l i) n = m from e.symm] at this
      have h4 := (ltW_key (l := l) ⟨h3.1, h3.2.1⟩ (writeMay_yes hm).2.1).2 hlt
      rw [this] at h4; cases h4
    · omega
  unfold withWZ
  exact ⟨⟨fun _ => ⟨rfl, by omega⟩, fun h => (by cases h)⟩, insW_ahead (by omega), insW_ahead (by omega), insW_ahead (by omega)⟩
/-- At the first that is not ahead, the one more is taken. -/
theorem MidW.here (H : Wr n z) (hm : writeMay l i v = true) (h : MidW n z l i k m false) (hk : k ≤ n) (hge : k < n → ¬ wkey z k < 4 * l + i) :
    (withWZ n z l i v (m * 3) = l ∧ withWZ n z l i v (m * 3 + 1) = i ∧ withWZ n z l i v (m * 3 + 2) = v) ∧
      (k < n → wkey z k = 4 * l + i → MidW n z l i (k + 1) (m + 1) true) ∧ (k < n → ¬ wkey z k = 4 * l + i → MidW n z l i (k + 1) (m + 1 + 1) true ∧ (withWZ n z l i v ((m + 1) * 3) = z (k * 3) ∧ withWZ n z l i v ((m + 1) * 3 + 1) = z (k * 3 + 1) ∧ withWZ n z l i v ((m + 1) * 3 + 2) = z (k * 3 + 2))) ∧
      (k = n → m + 1 = posW n z l i + 1 + (n - toW n z l i)) := by
  obtain ⟨rfl, hp⟩ := h.1 rfl
  have hi := (writeMay_yes hm).2.1
  have e : posW n z l i = m := by
    by_cases e : posW n z l i = m
    · exact e
    · exfalso
      have hlt : m < posW n z l i := by omega
      have h3 := H.alone m (by have := posW_le n z l i; omega)
      exact hge (by have := posW_le n z l i; omega) ((ltW_key ⟨h3.1, h3.2.1⟩ hi).1 (allTo_get (lead_all (ltW z l i) n) m hlt))
  refine ⟨?_, fun hk ek => ?_, fun hk ek => ?_, fun hk => ?_⟩
  · unfold withWZ
    rw [e]
    exact insW_at _ _ _ _ _ _
  · have hh : hasW n z l i = true := hasW_iff.2 ⟨m, hk, by have := H.alone m hk; have := (writeMay_yes hm).1; unfold wkey at ek; omega, by have := H.alone m hk; have := (writeMay_yes hm).1; unfold wkey at ek; omega⟩
    have ht : toW n z l i = m + 1 := by unfold toW; rw [hh, e]; rfl
    exact ⟨fun h => (by cases h), fun _ => ⟨by omega, by omega⟩⟩
  · have hh : hasW n z l i = false := by
      cases e' : hasW n z l i with
      | false => rfl
      | true =>
        have := H.has e'
        rw [e] at this
        exact absurd (show wkey z m = 4 * l + i by unfold wkey; rw [this.2.1, this.2.2]) ek
    have ht : toW n z l i = m := by unfold toW; rw [hh, e]; rfl
    refine ⟨⟨fun h => (by cases h), fun _ => ⟨by omega, by omega⟩⟩, ?_⟩
    unfold withWZ
    rw [e, ht]
    refine ⟨?_, ?_, ?_⟩
    · have := insW_behind (p := m) (t := m) (z := z) (l := l) (i := i) (v := v) 0
      simpa using this
    · exact insW_behind (p := m) (t := m) (z := z) (l := l) (i := i) (v := v) 1
    · exact insW_behind (p := m) (t := m) (z := z) (l := l) (i := i) (v := v) 2
  · subst hk
    have hh : hasW m z l i = false := by
      cases e' : hasW m z l i with
      | false => rfl
      | true => have := (H.has e').1; omega
    unfold toW
    rw [hh, e]
    simp
/-- Those behind are taken over. -/
theorem MidW.behind (H : Wr n z) (hm : writeMay l i v = true) (h : MidW n z l i k m true) (hk : k < n) :
    MidW n z l i (k + 1) (m + 1) true ∧ ¬ wkey z k = 4 * l + i ∧ (withWZ n z l i v (m * 3) = z (k * 3) ∧ withWZ n z l i v (m * 3 + 1) = z (k * 3 + 1) ∧ withWZ n z l i v (m * 3 + 2) = z (k * 3 + 2)) := by
  obtain ⟨h1, h2⟩ := h.2 rfl
  have h3 := (H.parts hm).2 k h1 hk
  refine ⟨⟨fun h => (by cases h), fun _ => ⟨by omega, by omega⟩⟩, by omega, ?_⟩
  subst h2
  unfold withWZ
  obtain ⟨d, hd⟩ : ∃ d, k = toW n z l i + d := ⟨k - toW n z l i, by omega⟩
  have e : k - toW n z l i = d := by omega
  rw [e]
  subst hd
  generalize posW n z l i = p, toW n z l i = t at *
  refine ⟨?_, ?_, ?_⟩
  · have := insW_behind (p := p) (t := t) (z := z) (l := l) (i := i) (v := v) (d * 3)
    rw [show (p + 1 + d) * 3 = (p + 1) * 3 + d * 3 by omega, this, show (t + d) * 3 = t * 3 + d * 3 by omega]
  · have := insW_behind (p := p) (t := t) (z := z) (l := l) (i := i) (v := v) (d * 3 + 1)
    rw [show (p + 1 + d) * 3 + 1 = (p + 1) * 3 + (d * 3 + 1) by omega, this, show (t + d) * 3 + 1 = t * 3 + (d * 3 + 1) by omega]
  · have := insW_behind (p := p) (t := t) (z := z) (l := l) (i := i) (v := v) (d * 3 + 2)
    rw [show (p + 1 + d) * 3 + 2 = (p + 1) * 3 + (d * 3 + 2) by omega, this, show (t + d) * 3 + 2 = t * 3 + (d * 3 + 2) by omega]
theorem MidW.done (H : Wr n z) (h : MidW n z l i n m true) : m = posW n z l i + 1 + (n - toW n z l i) := (h.2 rfl).2
end

end Go.Proofs.Ytjnolmpalfjacaa
