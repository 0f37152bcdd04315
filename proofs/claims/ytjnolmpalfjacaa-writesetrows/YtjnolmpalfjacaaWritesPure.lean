/-
  Writes: which may be, with one more in its row, which word's value, all of one level. Writes are told by their numbers' places, three a write. No Go in sight.
-/
import Derived.Test.YtjnolmpalfjacaaAllTo
import Derived.Test.YtjnolmpalfjacaaWordPure
namespace Go.Proofs.Ytjnolmpalfjacaa
open Go.RowKit

/-- May it be a write, alone? -/
def writeMay (l i v : Int) : Bool := upToV l 3 && upToV i 3 && upToV v 255
theorem writeMay_yes {l i v : Int} (h : writeMay l i v = true) : (0 ≤ l ∧ l ≤ 3) ∧ (0 ≤ i ∧ i ≤ 3) ∧ 0 ≤ v ∧ v ≤ 255 := by
  simp only [writeMay, Bool.and_eq_true] at h
  exact ⟨upToV_yes h.1.1, upToV_yes h.1.2, upToV_yes h.2⟩
theorem writeMay_of {l i v : Int} (h : (0 ≤ l ∧ l ≤ 3) ∧ (0 ≤ i ∧ i ≤ 3) ∧ 0 ≤ v ∧ v ≤ 255) : writeMay l i v = true := by
  rw [writeMay, upToV_of h.1.1 h.1.2, upToV_of h.2.1.1 h.2.1.2, upToV_of h.2.2.1 h.2.2.2]; rfl
/-- Where the k-th one's word stands in the row of words. -/
def wkey (z : Nat → Int) (k : Nat) : Int := 4 * z (k * 3) + z (k * 3 + 1)
def aloneW (z : Nat → Int) (k : Nat) : Bool := writeMay (z (k * 3)) (z (k * 3 + 1)) (z (k * 3 + 2))
/-- Does the k-th stand behind the one ahead of it? -/
def riseW (z : Nat → Int) (k : Nat) : Bool := decide (k = 0) || decide (wkey z (k - 1) < wkey z k)
/-- May they be? -/
def writesMay (n : Nat) (z : Nat → Int) : Bool := allTo (aloneW z) n && allTo (riseW z) n && decide (n ≤ 16)
/-- Is the j-th ahead of that word? By Level, of one Level by Index. -/
def ltW (z : Nat → Int) (l i : Int) (j : Nat) : Bool := decide (z (j * 3) < l) || (decide (z (j * 3) = l) && decide (z (j * 3 + 1) < i))
/-- Are all ahead of the k-th ahead of its word? -/
def aheadW (z : Nat → Int) (k : Nat) : Bool := allTo (ltW z (z (k * 3)) (z (k * 3 + 1))) k

/-- Three numbers that may be, for each; they rise; at most sixteen. -/
structure Wr (n : Nat) (z : Nat → Int) : Prop where
  alone : ∀ k, k < n → (0 ≤ z (k * 3) ∧ z (k * 3) ≤ 3) ∧ (0 ≤ z (k * 3 + 1) ∧ z (k * 3 + 1) ≤ 3) ∧ 0 ≤ z (k * 3 + 2) ∧ z (k * 3 + 2) ≤ 255
  rise : ∀ j k, j < k → k < n → wkey z j < wkey z k
  few : n ≤ 16

theorem rise_all {z : Nat → Int} {n : Nat} (h : allTo (riseW z) n = true) : ∀ k, k < n → ∀ j, j < k → wkey z j < wkey z k
  | 0, _, j, hj => absurd hj (Nat.not_lt_zero _)
  | k + 1, hk, j, hj => by
    have h1 := allTo_get h (k + 1) hk
    simp only [riseW, Bool.or_eq_true, decide_eq_true_eq, Nat.add_sub_cancel] at h1
    have h1 : wkey z k < wkey z (k + 1) := by rcases h1 with h1 | h1 <;> omega
    by_cases e : j = k
    · subst e; exact h1
    · have := rise_all h k (by omega) j (by omega)
      omega
theorem writesMay_get {n : Nat} {z : Nat → Int} (h : writesMay n z = true) : Wr n z := by
  simp only [writesMay, Bool.and_eq_true, decide_eq_true_eq] at h
  exact ⟨fun k hk => writeMay_yes (allTo_get h.1.1 k hk), fun j k hjk hk => rise_all h.1.2 k hk j hjk, h.2⟩
theorem Wr.may {n : Nat} {z : Nat → Int} (h : Wr n z) : writesMay n z = true := by
  rw [writesMay, allTo_mk (p := aloneW z) fun k hk => writeMay_of (h.alone k hk), allTo_mk (p := riseW z) fun k hk => ?_, decide_eq_true h.few]
  · rfl
  · unfold riseW
    cases k with
    | zero => rfl
    | succ k => rw [Nat.add_sub_cancel, decide_eq_true (h.rise k (k + 1) (by omega) hk), Bool.or_true]
theorem writesMay_alones {n : Nat} {z : Nat → Int} (h : allTo (aloneW z) n = false) : writesMay n z = false := by rw [writesMay, h]; rfl
theorem writesMay_alone {n : Nat} {z : Nat → Int} (k : Nat) (hk : k < n) (h : aloneW z k = false) : writesMay n z = false := writesMay_alones (allTo_no k hk h)
theorem writesMay_rise {n : Nat} {z : Nat → Int} (k : Nat) (hk : k < n) (h : riseW z k = false) : writesMay n z = false := by rw [writesMay, allTo_no k hk h, Bool.and_false, Bool.false_and]
theorem writesMay_long {n : Nat} {z : Nat → Int} (h : 16 < n) : writesMay n z = false := by rw [writesMay, decide_eq_false (by omega), Bool.and_false]
theorem ltW_iff {z : Nat → Int} {l i : Int} {j : Nat} : ltW z l i j = true ↔ z (j * 3) < l ∨ z (j * 3) = l ∧ z (j * 3 + 1) < i := by
  simp only [ltW, Bool.or_eq_true, Bool.and_eq_true, decide_eq_true_eq]
/-- Where the numbers may be, a word is ahead of another just if it stands so in the row of words. -/
theorem ltW_key {z : Nat → Int} {l i : Int} {j : Nat} (h : (0 ≤ z (j * 3) ∧ z (j * 3) ≤ 3) ∧ 0 ≤ z (j * 3 + 1) ∧ z (j * 3 + 1) ≤ 3) (h' : 0 ≤ i ∧ i ≤ 3) : ltW z l i j = true ↔ wkey z j < 4 * l + i := by
  rw [ltW_iff, wkey]
  omega
theorem writesMay_ahead {n : Nat} {z : Nat → Int} (h : allTo (aloneW z) n = true) (h' : allTo (aheadW z) n = true) (hn : n ≤ 16) : writesMay n z = true := by
  have ha := fun k hk => writeMay_yes (allTo_get h k hk)
  refine Wr.may ⟨ha, fun j k hjk hk => ?_, hn⟩
  exact (ltW_key ⟨(ha j (by omega)).1, (ha j (by omega)).2.1⟩ (ha k hk).2.1).1 (allTo_get (allTo_get h' k hk) j hjk)
theorem writesMay_not_ahead {n : Nat} {z : Nat → Int} (k : Nat) (hk : k < n) (h : aheadW z k = false) : writesMay n z = false := by
  cases e : writesMay n z with
  | false => rfl
  | true =>
    have H := writesMay_get e
    have : aheadW z k = true := allTo_mk fun j hj => (ltW_key ⟨(H.alone j (by omega)).1, (H.alone j (by omega)).2.1⟩ (H.alone k hk).2.1).2 (H.rise j k hj hk)
    rw [this] at h; cases h

/-- How many, from the first on, is it so of? -/
def lead (p : Nat → Bool) : Nat → Nat
  | 0 => 0
  | k + 1 => bif allTo p (k + 1) then k + 1 else lead p k
theorem lead_le (p : Nat → Bool) : ∀ n, lead p n ≤ n
  | 0 => Nat.le_refl _
  | n + 1 => by
    rw [lead]
    have := lead_le p n
    cases allTo p (n + 1) <;> simp only [cond_true, cond_false] <;> omega
theorem lead_all (p : Nat → Bool) : ∀ n, allTo p (lead p n) = true
  | 0 => rfl
  | n + 1 => by
    rw [lead]
    cases e : allTo p (n + 1)
    · exact lead_all p n
    · exact e
theorem lead_is {p : Nat → Bool} {k : Nat} (h : allTo p k = true) : ∀ {n : Nat}, k ≤ n → (k < n → p k = false) → lead p n = k
  | 0, hk, _ => by rw [lead]; omega
  | n + 1, hk, hp => by
    rw [lead]
    by_cases e : k = n + 1
    · subst e; rw [h]; rfl
    · rw [allTo_no k (by omega) (hp (by omega)), cond_false, lead_is h (n := n) (by omega) fun h => hp (by omega)]
theorem lead_no {p : Nat → Bool} : ∀ {n : Nat}, lead p n < n → p (lead p n) = false
  | 0, h => absurd h (Nat.not_lt_zero _)
  | n + 1, h => by
    rw [lead] at h ⊢
    cases e : allTo p (n + 1)
    · rw [e, cond_false] at h
      rw [cond_false]
      by_cases h' : lead p n < n
      · exact lead_no h'
      · have h2 := lead_le p n
        have h3 : lead p n = n := by omega
        have h4 := lead_all p n
        rw [h3] at h4 ⊢
        rw [allTo, h4, Bool.true_and] at e
        exact e
    · rw [e, cond_true] at h; omega

/-- How many are ahead of that word. -/
def posW (n : Nat) (z : Nat → Int) (l i : Int) : Nat := lead (ltW z l i) n
/-- Is there one of that word? -/
def hasW (n : Nat) (z : Nat → Int) (l i : Int) : Bool := !noneTo z l i n
/-- From where on they are behind that word. -/
def toW (n : Nat) (z : Nat → Int) (l i : Int) : Nat := bif hasW n z l i then posW n z l i + 1 else posW n z l i
theorem posW_le (n : Nat) (z : Nat → Int) (l i : Int) : posW n z l i ≤ n := lead_le _ _
theorem isWord_iff {z : Nat → Int} {l i : Int} {j : Nat} : isWord z l i j = true ↔ z (j * 3) = l ∧ z (j * 3 + 1) = i := by
  simp only [isWord, Bool.and_eq_true, beq_iff_eq]
theorem hasW_iff {n : Nat} {z : Nat → Int} {l i : Int} : hasW n z l i = true ↔ ∃ k, k < n ∧ z (k * 3) = l ∧ z (k * 3 + 1) = i := by
  unfold hasW noneTo
  constructor
  · intro h
    rw [Bool.not_eq_true'] at h
    obtain ⟨k, hk, h⟩ := allTo_ex h
    rw [Bool.not_eq_false'] at h
    exact ⟨k, hk, isWord_iff.1 h⟩
  · rintro ⟨k, hk, h⟩
    rw [allTo_no k hk (by rw [isWord_iff.2 h]; rfl)]
    rfl
theorem hasW_no {n : Nat} {z : Nat → Int} {l i : Int} (h : hasW n z l i = false) (k : Nat) (hk : k < n) : ¬ (z (k * 3) = l ∧ z (k * 3 + 1) = i) := fun e => by
  rw [hasW_iff.2 ⟨k, hk, e⟩] at h; cases h
/-- The one of a word stands behind those that are ahead of it. -/
theorem Wr.pos {n : Nat} {z : Nat → Int} (H : Wr n z) {l i : Int} {k : Nat} (hk : k < n) (h : z (k * 3) = l ∧ z (k * 3 + 1) = i) : posW n z l i = k := by
  refine lead_is (allTo_mk fun j hj => ?_) (by omega) fun _ => ?_
  · have h1 := H.rise j k hj hk
    have h2 := H.alone k hk
    have h3 := H.alone j (by omega)
    rw [h.1, h.2] at h2
    rw [ltW_key ⟨h3.1, h3.2.1⟩ h2.2.1, ← h.1, ← h.2]
    exact h1
  · cases e : ltW z l i k with
    | false => rfl
    | true => rw [ltW_iff] at e; omega
theorem Wr.has {n : Nat} {z : Nat → Int} (H : Wr n z) {l i : Int} (h : hasW n z l i = true) : posW n z l i < n ∧ z (posW n z l i * 3) = l ∧ z (posW n z l i * 3 + 1) = i := by
  obtain ⟨k, hk, e⟩ := hasW_iff.1 h
  rw [H.pos hk e]
  exact ⟨hk, e⟩
theorem toW_le {n : Nat} {z : Nat → Int} {l i : Int} (H : Wr n z) : toW n z l i ≤ n := by
  unfold toW
  cases e : hasW n z l i
  · exact posW_le _ _ _ _
  · have := (H.has e).1
    rw [cond_true]
    omega

/-- The writes with one more: p ahead of it, those from t on behind it. -/
def insW (p t : Nat) (z : Nat → Int) (l i v : Int) (j : Nat) : Int :=
  if j < p * 3 then z j else if j = p * 3 then l else if j = p * 3 + 1 then i else if j = p * 3 + 2 then v else z (t * 3 + (j - (p + 1) * 3))
theorem insW_ahead {p t : Nat} {z : Nat → Int} {l i v : Int} {j : Nat} (h : j < p * 3) : insW p t z l i v j = z j := by unfold insW; rw [if_pos h]
theorem insW_at (p t : Nat) (z : Nat → Int) (l i v : Int) : insW p t z l i v (p * 3) = l ∧ insW p t z l i v (p * 3 + 1) = i ∧ insW p t z l i v (p * 3 + 2) = v := by
  unfold insW
  refine ⟨?_, ?_, ?_⟩
  · rw [if_neg (by omega), if_pos rfl]
  · rw [if_neg (by omega), if_neg (by omega), if_pos rfl]
  · rw [if_neg (by omega), if_neg (by omega), if_neg (by omega), if_pos rfl]
theorem insW_behind {p t : Nat} {z : Nat → Int} {l i v : Int} (j : Nat) : insW p t z l i v ((p + 1) * 3 + j) = z (t * 3 + j) := by
  unfold insW
  rw [if_neg (by omega), if_neg (by omega), if_neg (by omega), if_neg (by omega), Nat.add_sub_cancel_left]
/-- One of them: one that was ahead, the new one, or one that was behind. -/
theorem insW_one {p t : Nat} {z : Nat → Int} {l i v : Int} (k : Nat) :
    (k < p → ∀ o, o < 3 → insW p t z l i v (k * 3 + o) = z (k * 3 + o)) ∧ (p < k → ∀ o, o < 3 → insW p t z l i v (k * 3 + o) = z ((t + (k - (p + 1))) * 3 + o)) := by
  constructor
  · intro h o ho
    exact insW_ahead (by omega)
  · intro h o ho
    have := insW_behind (p := p) (t := t) (z := z) (l := l) (i := i) (v := v) ((k - (p + 1)) * 3 + o)
    rw [show (p + 1) * 3 + ((k - (p + 1)) * 3 + o) = k * 3 + o by omega] at this
    rw [this]
    congr 1
    omega

def withWOk (n : Nat) (z : Nat → Int) (l i v : Int) : Bool := writesMay n z && writeMay l i v
def withWE (n : Nat) (z : Nat → Int) (l i v : Int) : Int := bif withWOk n z l i v then 0 else 1000
/-- How many they are then. -/
def withWN (n : Nat) (z : Nat → Int) (l i v : Int) : Nat := bif withWOk n z l i v then posW n z l i + 1 + (n - toW n z l i) else 0
def withWZ (n : Nat) (z : Nat → Int) (l i v : Int) : Nat → Int := insW (posW n z l i) (toW n z l i) z l i v
theorem withWOk_mk {n : Nat} {z : Nat → Int} {l i v : Int} (h : writesMay n z = true) (h' : writeMay l i v = true) : withWOk n z l i v = true := by rw [withWOk, h, h']; rfl
theorem withWOk_writes {n : Nat} {z : Nat → Int} {l i v : Int} (h : writesMay n z = false) : withWOk n z l i v = false := by rw [withWOk, h]; rfl
theorem withWOk_write {n : Nat} {z : Nat → Int} {l i v : Int} (h : writeMay l i v = false) : withWOk n z l i v = false := by rw [withWOk, h, Bool.and_false]
theorem withWOk_get {n : Nat} {z : Nat → Int} {l i v : Int} (h : withWOk n z l i v = true) : writesMay n z = true ∧ writeMay l i v = true := by
  simp only [withWOk, Bool.and_eq_true] at h
  exact h

/-- Where a rising row's numbers stand. -/
theorem Wr.low {n : Nat} {z : Nat → Int} (H : Wr n z) : ∀ k, k < n → (k : Int) ≤ wkey z k
  | 0, hk => by have := H.alone 0 hk; unfold wkey; omega
  | k + 1, hk => by
    have h1 := H.low k (by omega)
    have h2 := H.rise k (k + 1) (by omega) hk
    omega
theorem Wr.high {n : Nat} {z : Nat → Int} (H : Wr n z) : ∀ d k, k < n → n - 1 - k = d → wkey z k + d ≤ 15
  | 0, k, hk, _ => by have := H.alone k hk; unfold wkey; omega
  | d + 1, k, hk, hd => by
    have h1 := H.high d (k + 1) (by omega) (by omega)
    have h2 := H.rise k (k + 1) (by omega) (by omega)
    omega

section
variable {n : Nat} {z : Nat → Int} {l i v : Int}
/-- Those ahead are ahead, those from t on are behind. -/
theorem Wr.parts (H : Wr n z) (hm : writeMay l i v = true) : (∀ k, k < posW n z l i → wkey z k < 4 * l + i) ∧ (∀ k, toW n z l i ≤ k → k < n → 4 * l + i < wkey z k) := by
  obtain ⟨hl, hi, _⟩ := writeMay_yes hm
  have hle := posW_le n z l i
  constructor
  · intro k hk
    have h3 := H.alone k (by omega)
    exact (ltW_key ⟨h3.1, h3.2.1⟩ hi).1 (allTo_get (lead_all (ltW z l i) n) k hk)
  · intro k hk hkn
    cases e : hasW n z l i
    · unfold toW at hk
      rw [e, cond_false] at hk
      have hp : posW n z l i < n := by omega
      have h0 : ¬ wkey z (posW n z l i) < 4 * l + i := by
        have h3 := H.alone _ hp
        rw [← ltW_key ⟨h3.1, h3.2.1⟩ hi]
        rw [show ltW z l i (posW n z l i) = false from lead_no hp]
        simp
      have h1 := hasW_no e k hkn
      have h3 := H.alone k hkn
      have h2 : wkey z (posW n z l i) ≤ wkey z k := by
        by_cases ek : posW n z l i = k
        · rw [ek]; omega
        · have := H.rise (posW n z l i) k (by omega) hkn
          omega
      have h4 : ¬ wkey z k = 4 * l + i := by unfold wkey; omega
      omega
    · obtain ⟨h1, h2, h3⟩ := H.has e
      unfold toW at hk
      rw [e, cond_true] at hk
      have := H.rise _ k (show posW n z l i < k by omega) hkn
      unfold wkey at this ⊢
      rw [h2, h3] at this
      omega
theorem insW_keys (p t : Nat) (z : Nat → Int) (l i v : Int) (k : Nat) :
    (k < p → wkey (insW p t z l i v) k = wkey z k) ∧ (k = p → wkey (insW p t z l i v) k = 4 * l + i) ∧ (p < k → wkey (insW p t z l i v) k = wkey z (t + (k - (p + 1)))) := by
  unfold wkey
  refine ⟨fun h => ?_, fun h => ?_, fun h => ?_⟩
  · rw [show k * 3 = k * 3 + 0 from rfl, (insW_one k).1 h 0 (by omega), (insW_one k).1 h 1 (by omega)]
  · subst h
    rw [(insW_at _ _ _ _ _ _).1, (insW_at _ _ _ _ _ _).2.1]
  · have h0 := (insW_one (t := t) (z := z) (l := l) (i := i) (v := v) k).2 h 0 (by omega)
    simp only [Nat.add_zero] at h0
    rw [h0, (insW_one k).2 h 1 (by omega)]
/-- With one more they may be. -/
theorem Wr.ins (H : Wr n z) (hm : writeMay l i v = true) : Wr (posW n z l i + 1 + (n - toW n z l i)) (withWZ n z l i v) := by
  obtain ⟨ha, hb⟩ := H.parts hm
  obtain ⟨hl, hi, hv⟩ := writeMay_yes hm
  have hp := posW_le n z l i
  have ht := toW_le (l := l) (i := i) H
  have hpt : posW n z l i ≤ toW n z l i := by unfold toW; cases hasW n z l i <;> simp only [cond_true, cond_false] <;> omega
  have hlow : (posW n z l i : Int) ≤ 4 * l + i := by
    by_cases h0 : posW n z l i = 0
    · omega
    · have h1 := ha (posW n z l i - 1) (by omega)
      have h2 := H.low (posW n z l i - 1) (by omega)
      omega
  have hhigh : 4 * l + i + (n - toW n z l i : Nat) ≤ 15 := by
    by_cases h0 : toW n z l i = n
    · omega
    · have h1 := hb (toW n z l i) (by omega) (by omega)
      have h2 := H.high _ (toW n z l i) (by omega) rfl
      omega
  unfold withWZ
  generalize posW n z l i = p, toW n z l i = t at *
  refine ⟨fun k hk => ?_, fun j k hjk hk => ?_, by omega⟩
  · obtain ⟨e1, e2⟩ := insW_one (p := p) (t := t) (z := z) (l := l) (i := i) (v := v) k
    by_cases h1 : k < p
    · rw [show k * 3 = k * 3 + 0 from rfl, e1 h1 0 (by omega), e1 h1 1 (by omega), e1 h1 2 (by omega)]
      exact H.alone k (by omega)
    · by_cases h2 : p < k
      · rw [show k * 3 = k * 3 + 0 from rfl, e2 h2 0 (by omega), e2 h2 1 (by omega), e2 h2 2 (by omega)]
        exact H.alone (t + (k - (p + 1))) (by omega)
      · obtain rfl : k = p := by omega
        rw [(insW_at _ _ _ _ _ _).1, (insW_at _ _ _ _ _ _).2.1, (insW_at _ _ _ _ _ _).2.2]
        exact ⟨hl, hi, hv⟩
  · obtain ⟨j1, j2, j3⟩ := insW_keys p t z l i v j
    obtain ⟨k1, k2, k3⟩ := insW_keys p t z l i v k
    by_cases h1 : k < p
    · rw [k1 h1, j1 (by omega)]
      exact H.rise j k hjk (by omega)
    · by_cases h2 : p < k
      · rw [k3 h2]
        have hk' : t + (k - (p + 1)) < n := by omega
        by_cases h3 : j < p
        · rw [j1 h3]
          exact H.rise _ _ (by omega) hk'
        · by_cases h4 : p < j
          · rw [j3 h4]
            exact H.rise _ _ (by omega) hk'
          · rw [j2 (by omega)]
            exact hb _ (by omega) hk'
      · rw [k2 (by omega), j1 (by omega)]
        exact ha j (by omega)
end

/-- Is there a write of that word, with that value? -/
def InW (n : Nat) (z : Nat → Int) (l i v : Int) : Prop := ∃ k, k < n ∧ z (k * 3) = l ∧ z (k * 3 + 1) = i ∧ z (k * 3 + 2) = v
theorem InW.has {n : Nat} {z : Nat → Int} {l i v : Int} (h : InW n z l i v) : hasW n z l i = true := by
  obtain ⟨k, hk, h0, h1, _⟩ := h
  exact hasW_iff.2 ⟨k, hk, h0, h1⟩
theorem inW_of_has {n : Nat} {z : Nat → Int} {l i : Int} (H : Wr n z) (h : hasW n z l i = true) : InW n z l i (z (posW n z l i * 3 + 2)) :=
  ⟨_, (H.has h).1, (H.has h).2.1, (H.has h).2.2, rfl⟩
theorem Wr.val {n : Nat} {z : Nat → Int} (H : Wr n z) {l i v : Int} (h : InW n z l i v) : z (posW n z l i * 3 + 2) = v := by
  obtain ⟨k, hk, h0, h1, h2⟩ := h
  rw [H.pos hk ⟨h0, h1⟩, h2]
/-- What is among them, with one more: that one, and all of other words. -/
theorem ins_in {n : Nat} {z : Nat → Int} {l i v : Int} (H : Wr n z) (hm : writeMay l i v = true) (l' i' v' : Int) :
    InW (posW n z l i + 1 + (n - toW n z l i)) (withWZ n z l i v) l' i' v' ↔ (l' = l ∧ i' = i ∧ v' = v) ∨ (¬ (l' = l ∧ i' = i) ∧ InW n z l' i' v') := by
  obtain ⟨ha, hb⟩ := H.parts hm
  have hp := posW_le n z l i
  have ht := toW_le (l := l) (i := i) H
  have hgap : ∀ k, posW n z l i ≤ k → k < toW n z l i → z (k * 3) = l ∧ z (k * 3 + 1) = i := by
    intro k h1 h2
    cases e : hasW n z l i
    · unfold toW at h2; rw [e, cond_false] at h2; omega
    · obtain ⟨h3, h4⟩ := H.has e
      unfold toW at h2; rw [e, cond_true] at h2
      obtain rfl : k = posW n z l i := by omega
      exact h4
  unfold withWZ InW
  generalize posW n z l i = p, toW n z l i = t at *
  constructor
  · rintro ⟨k, hk, h0, h1, h2⟩
    obtain ⟨e1, e2⟩ := insW_one (p := p) (t := t) (z := z) (l := l) (i := i) (v := v) k
    by_cases c1 : k < p
    · have f0 := e1 c1 0 (by omega)
      simp only [Nat.add_zero] at f0
      rw [f0] at h0
      rw [e1 c1 1 (by omega)] at h1
      rw [e1 c1 2 (by omega)] at h2
      refine .inr ⟨?_, k, by omega, h0, h1, h2⟩
      rintro ⟨rfl, rfl⟩
      have := ha k c1
      unfold wkey at this
      omega
    · by_cases c2 : p < k
      · have f0 := e2 c2 0 (by omega)
        simp only [Nat.add_zero] at f0
        rw [f0] at h0
        rw [e2 c2 1 (by omega)] at h1
        rw [e2 c2 2 (by omega)] at h2
        refine .inr ⟨?_, _, by omega, h0, h1, h2⟩
        rintro ⟨rfl, rfl⟩
        have := hb (t + (k - (p + 1))) (by omega) (by omega)
        unfold wkey at this
        omega
      · obtain rfl : k = p := by omega
        rw [(insW_at _ _ _ _ _ _).1] at h0
        rw [(insW_at _ _ _ _ _ _).2.1] at h1
        rw [(insW_at _ _ _ _ _ _).2.2] at h2
        exact .inl ⟨h0.symm, h1.symm, h2.symm⟩
  · rintro (⟨rfl, rfl, rfl⟩ | ⟨hne, k, hk, h0, h1, h2⟩)
    · exact ⟨p, by omega, insW_at _ _ _ _ _ _⟩
    · by_cases c1 : k < p
      · obtain ⟨e1, _⟩ := insW_one (p := p) (t := t) (z := z) (l := l) (i := i) (v := v) k
        have f0 := e1 c1 0 (by omega)
        simp only [Nat.add_zero] at f0
        exact ⟨k, by omega, by rw [f0, h0], by rw [e1 c1 1 (by omega), h1], by rw [e1 c1 2 (by omega), h2]⟩
      · have c3 : t ≤ k := by
          by_cases c : t ≤ k
          · exact c
          · have := hgap k (by omega) (by omega)
            rw [h0, h1] at this
            exact absurd this hne
        obtain ⟨_, e2⟩ := insW_one (p := p) (t := t) (z := z) (l := l) (i := i) (v := v) (p + 1 + (k - t))
        have ek : t + (p + 1 + (k - t) - (p + 1)) = k := by omega
        rw [ek] at e2
        have f0 := e2 (by omega) 0 (by omega)
        simp only [Nat.add_zero] at f0
        exact ⟨p + 1 + (k - t), by omega, by rw [f0, h0], by rw [e2 (by omega) 1 (by omega), h1], by rw [e2 (by omega) 2 (by omega), h2]⟩
/-- Writes that hold the same are the same. -/
theorem same_to {n m : Nat} {z y : Nat → Int} (H : Wr n z) (G : Wr m y) (h : ∀ l i v, InW n z l i v ↔ InW m y l i v) : ∀ k, (k ≤ n → k ≤ m) ∧ (k ≤ m → k ≤ n) ∧ (k ≤ n → ∀ j, j < k * 3 → z j = y j)
  | 0 => ⟨fun _ => Nat.zero_le _, fun _ => Nat.zero_le _, fun _ j hj => by omega⟩
  | k + 1 => by
    obtain ⟨i1, i2, i3⟩ := same_to H G h k
    have keys : k ≤ n → ∀ j, j < k → wkey z j = wkey y j := fun hn j hj => by
      unfold wkey; rw [i3 hn (j * 3) (by omega), i3 hn (j * 3 + 1) (by omega)]
    -- the k-th of the one is among the other's from the k-th on
    have a1 : k < n → ∃ q, k ≤ q ∧ q < m ∧ y (q * 3) = z (k * 3) ∧ y (q * 3 + 1) = z (k * 3 + 1) ∧ y (q * 3 + 2) = z (k * 3 + 2) := fun hk => by
      obtain ⟨q, hq, e0, e1, e2⟩ := (h _ _ _).1 ⟨k, hk, rfl, rfl, rfl⟩
      refine ⟨q, ?_, hq, e0, e1, e2⟩
      by_cases c : k ≤ q
      · exact c
      · have h1 := H.rise q k (by omega) hk
        rw [keys (by omega) q (by omega)] at h1
        unfold wkey at h1
        omega
    have a2 : k < m → ∃ q, k ≤ q ∧ q < n ∧ z (q * 3) = y (k * 3) ∧ z (q * 3 + 1) = y (k * 3 + 1) ∧ z (q * 3 + 2) = y (k * 3 + 2) := fun hk => by
      obtain ⟨q, hq, e0, e1, e2⟩ := (h _ _ _).2 ⟨k, hk, rfl, rfl, rfl⟩
      refine ⟨q, ?_, hq, e0, e1, e2⟩
      by_cases c : k ≤ q
      · exact c
      · have h1 := G.rise q k (by omega) hk
        rw [← keys (i2 (by omega)) q (by omega)] at h1
        unfold wkey at h1
        omega
    refine ⟨fun hn => ?_, fun hm => ?_, fun hn j hj => ?_⟩
    · obtain ⟨q, h1, h2, _⟩ := a1 hn
      omega
    · obtain ⟨q, h1, h2, _⟩ := a2 hm
      omega
    · by_cases c : j < k * 3
      · exact i3 (by omega) j c
      · obtain ⟨q, h1, h2, e0, e1, e2⟩ := a1 hn
        obtain ⟨r, h3, h4, f0, f1, f2⟩ := a2 (by omega)
        have k1 : wkey y q = wkey z k := by unfold wkey; rw [e0, e1]
        have k2 : wkey z r = wkey y k := by unfold wkey; rw [f0, f1]
        have eq : q = k := by
          by_cases c : q = k
          · exact c
          · have g1 := G.rise k q (by omega) h2
            by_cases c' : r = k
            · subst c'; omega
            · have g2 := H.rise k r (by omega) h4
              omega
        subst eq
        have : j = q * 3 ∨ j = q * 3 + 1 ∨ j = q * 3 + 2 := by omega
        rcases this with rfl | rfl | rfl
        · exact e0.symm
        · exact e1.symm
        · exact e2.symm
theorem same_writes {n m : Nat} {z y : Nat → Int} (H : Wr n z) (G : Wr m y) (h : ∀ l i v, InW n z l i v ↔ InW m y l i v) : n = m ∧ ∀ j, j < n * 3 → z j = y j := by
  have h1 := (same_to H G h n).1 (Nat.le_refl _)
  have h2 := (same_to H G h m).2.1 (Nat.le_refl _)
  exact ⟨by omega, (same_to H G h n).2.2 (Nat.le_refl _)⟩

/-- Find's answers. -/
def findIs (n : Nat) (z : Nat → Int) (l i : Int) : Bool := writesMay n z && hasW n z l i
def findVal (n : Nat) (z : Nat → Int) (l i : Int) : Int := bif findIs n z l i then z (posW n z l i * 3 + 2) else 0
theorem find_no {n : Nat} {z : Nat → Int} {l i : Int} (h : findIs n z l i = false) : findVal n z l i = 0 := by unfold findVal; rw [h]; rfl
theorem find_in {n : Nat} {z : Nat → Int} {l i v : Int} (H : Wr n z) (h : InW n z l i v) : findIs n z l i = true ∧ findVal n z l i = v := by
  have e : findIs n z l i = true := by rw [findIs, H.may, h.has]; rfl
  exact ⟨e, by unfold findVal; rw [e, cond_true, H.val h]⟩
/-- At's answer. -/
def atLv (z : Nat → Int) (l : Int) (k : Nat) : Bool := z (k * 3) == l
def atW (n : Nat) (z : Nat → Int) (l : Int) : Bool := writesMay n z && allTo (atLv z l) n

section
variable {z x : Nat → Int} {n : Nat}
theorem writesMay_congr (h : ∀ i, i < n * 3 → z i = x i) : writesMay n z = writesMay n x := by
  rw [writesMay, writesMay, allTo_congr (p := aloneW z) (q := aloneW x) fun k hk => ?_, allTo_congr (p := riseW z) (q := riseW x) fun k hk => ?_]
  · unfold riseW
    by_cases e : k = 0
    · simp [e]
    · unfold wkey
      rw [h (k * 3) (by omega), h (k * 3 + 1) (by omega), h ((k - 1) * 3) (by omega), h ((k - 1) * 3 + 1) (by omega)]
  · unfold aloneW
    rw [h (k * 3) (by omega), h (k * 3 + 1) (by omega), h (k * 3 + 2) (by omega)]
end

end Go.Proofs.Ytjnolmpalfjacaa
