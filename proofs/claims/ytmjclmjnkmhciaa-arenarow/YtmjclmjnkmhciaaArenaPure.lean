/-
  Arenas: four lists of words, as a walk meets them. 's g' is the slice of level g, 'z g' its cells, three a word.
-/
import Derived.Test.YtmjclmjnkmhciaaRows
import Derived.Test.YtmjclmjnkmhciaaWordPure
import Derived.Test.YtmjclmjnkmhciaaWordsSame
import Derived.Test.YtmjclmjnkmhciaaSl
namespace Go.Proofs.Ytmjclmjnkmhciaa
open Go.RowKit

/-- An arena's value: the four slices. -/
def arenaA (s : Nat → Sl) : Value := .agg #[.slice (s 0).a (s 0).n (s 0).c, .slice (s 1).a (s 1).n (s 1).c, .slice (s 2).a (s 2).n (s 2).c, .slice (s 3).a (s 3).n (s 3).c]
/-- The cells of that value. -/
def arenaL (s : Nat → Sl) : List Value := [.slice (s 0).a (s 0).n (s 0).c, .slice (s 1).a (s 1).n (s 1).c, .slice (s 2).a (s 2).n (s 2).c, .slice (s 3).a (s 3).n (s 3).c]
theorem arenaL_get (s : Nat → Sl) {k : Nat} (hk : k < 4) : (arenaL s)[k]? = some (.slice (s k).a (s k).n (s k).c) := by
  have : k = 0 ∨ k = 1 ∨ k = 2 ∨ k = 3 := by omega
  rcases this with rfl | rfl | rfl | rfl <;> rfl
/-- The words of an arena lie there. -/
def Arn (w : World) (s : Nat → Sl) (z : Nat → Nat → Int) : Prop := ∀ g, g < 4 → Row w (s g).a ((s g).n * 3) fun i => .int .i64 (z g i)
theorem Arn.below {w w' : World} {B : Nat} {s : Nat → Sl} {z : Nat → Nat → Int} (h : Arn w s z) (hb : Below B w w') (hB : w.heap.size ≤ B) : Arn w' s z := fun g hg => (h g hg).below hb hB
theorem Arn.drewN {w : World} {s : Nat → Sl} {z : Nat → Nat → Int} (h : Arn w s z) (k : Nat) : Arn (w.drewN k) s z := h
/-- No level is longer than a machine could hold. -/
def Short (s : Nat → Sl) : Prop := ∀ g, g < 4 → (s g).n ≤ 1152921504606846976

/-- Are the first k levels of two arenas the same? -/
def sameLv (s s' : Nat → Sl) (z z' : Nat → Nat → Int) : Nat → Bool
  | 0 => true
  | k + 1 => sameLv s s' z z' k && (decide ((s k).n = (s' k).n) && eqTo (z k) (z' k) ((s k).n * 3))

theorem sameLv_no {s s' : Nat → Sl} {z z' : Nat → Nat → Int} (k : Nat) (h : (decide ((s k).n = (s' k).n) && eqTo (z k) (z' k) ((s k).n * 3)) = false) : ∀ {m : Nat}, k < m → sameLv s s' z z' m = false
  | 0, hk => absurd hk (Nat.not_lt_zero _)
  | m + 1, hk => by
    by_cases e : k = m
    · subst e; rw [sameLv, h, Bool.and_false]
    · rw [sameLv, sameLv_no k h (by omega), Bool.false_and]
theorem sameLv_mk {s s' : Nat → Sl} {z z' : Nat → Nat → Int} : ∀ {m : Nat}, (∀ g, g < m → (s g).n = (s' g).n ∧ ∀ i, i < (s g).n * 3 → z g i = z' g i) → sameLv s s' z z' m = true
  | 0, _ => rfl
  | m + 1, h => by
    rw [sameLv, sameLv_mk fun g hg => h g (by omega), decide_eq_true (h m (by omega)).1, eqTo_mk (h m (by omega)).2]
    rfl

/-- May the first k words of a row be? -/
def wordsTo (z : Nat → Int) : Nat → Bool
  | 0 => true
  | k + 1 => wordsTo z k && wmay (z (k * 3)) (z (k * 3 + 1)) (z (k * 3 + 2))
/-- May a level be: at most four words, each may be? -/
def lvMay (n : Nat) (z : Nat → Int) : Bool := decide (n ≤ 4) && wordsTo z n
/-- May the first k levels be? -/
def lvTo (s : Nat → Sl) (z : Nat → Nat → Int) : Nat → Bool
  | 0 => true
  | k + 1 => lvTo s z k && lvMay (s k).n (z k)
/-- May it be an arena? -/
def amay (s : Nat → Sl) (z : Nat → Nat → Int) : Bool := lvTo s z 4

theorem wordsTo_get {z : Nat → Int} : ∀ {n : Nat}, wordsTo z n = true → ∀ i, i < n → wmay (z (i * 3)) (z (i * 3 + 1)) (z (i * 3 + 2)) = true
  | 0, _, i, hi => absurd hi (Nat.not_lt_zero _)
  | n + 1, h, i, hi => by
    simp only [wordsTo, Bool.and_eq_true] at h
    by_cases e : i = n
    · subst e; exact h.2
    · exact wordsTo_get h.1 i (by omega)
theorem wordsTo_mk {z : Nat → Int} : ∀ {n : Nat}, (∀ i, i < n → wmay (z (i * 3)) (z (i * 3 + 1)) (z (i * 3 + 2)) = true) → wordsTo z n = true
  | 0, _ => rfl
  | n + 1, h => by rw [wordsTo, wordsTo_mk fun i hi => h i (by omega), h n (by omega)]; rfl
theorem wordsTo_no {z : Nat → Int} {n : Nat} (i : Nat) (hi : i < n) (h : wmay (z (i * 3)) (z (i * 3 + 1)) (z (i * 3 + 2)) = false) : wordsTo z n = false := by
  cases e : wordsTo z n with
  | false => rfl
  | true => rw [wordsTo_get e i hi] at h; cases h
theorem lvTo_get {s : Nat → Sl} {z : Nat → Nat → Int} : ∀ {n : Nat}, lvTo s z n = true → ∀ i, i < n → lvMay (s i).n (z i) = true
  | 0, _, i, hi => absurd hi (Nat.not_lt_zero _)
  | n + 1, h, i, hi => by
    simp only [lvTo, Bool.and_eq_true] at h
    by_cases e : i = n
    · subst e; exact h.2
    · exact lvTo_get h.1 i (by omega)
theorem lvTo_mk {s : Nat → Sl} {z : Nat → Nat → Int} : ∀ {n : Nat}, (∀ i, i < n → lvMay (s i).n (z i) = true) → lvTo s z n = true
  | 0, _ => rfl
  | n + 1, h => by rw [lvTo, lvTo_mk fun i hi => h i (by omega), h n (by omega)]; rfl
theorem lvTo_no {s : Nat → Sl} {z : Nat → Nat → Int} {n : Nat} (i : Nat) (hi : i < n) (h : lvMay (s i).n (z i) = false) : lvTo s z n = false := by
  cases e : lvTo s z n with
  | false => rfl
  | true => rw [lvTo_get e i hi] at h; cases h
theorem lvMay_get {n : Nat} {z : Nat → Int} (h : lvMay n z = true) : n ≤ 4 ∧ wordsTo z n = true := by
  simp only [lvMay, Bool.and_eq_true, decide_eq_true_eq] at h
  exact h
theorem lvMay_mk {n : Nat} {z : Nat → Int} (h : n ≤ 4) (h' : wordsTo z n = true) : lvMay n z = true := by
  rw [lvMay, decide_eq_true h, h']; rfl
theorem lvMay_long {n : Nat} {z : Nat → Int} (h : 4 < n) : lvMay n z = false := by
  rw [lvMay, decide_eq_false (by omega)]; rfl
theorem lvMay_bad {n : Nat} {z : Nat → Int} (i : Nat) (hi : i < n) (h : wmay (z (i * 3)) (z (i * 3 + 1)) (z (i * 3 + 2)) = false) : lvMay n z = false := by
  rw [lvMay, wordsTo_no i hi h, Bool.and_false]

/-- Is there such a word? -/
def thereV (s : Nat → Sl) (l i : Int) : Bool := decide ((0 ≤ l ∧ l < 4) ∧ 0 ≤ i ∧ i < ((s l.toNat).n : Int))
/-- The number of Get's error. -/
def getE (s : Nat → Sl) (z : Nat → Nat → Int) (l i : Int) : Int := bif amay s z && thereV s l i then 0 else 400
/-- Get's word. -/
def getW (s : Nat → Sl) (z : Nat → Nat → Int) (l i : Int) : Value := bif amay s z && thereV s l i then wordA (z l.toNat (i.toNat * 3)) (z l.toNat (i.toNat * 3 + 1)) (z l.toNat (i.toNat * 3 + 2)) else wordA 0 0 0

theorem getW_no {s : Nat → Sl} {z : Nat → Nat → Int} {l i : Int} (h : (amay s z && thereV s l i) = false) : getW s z l i = wordA 0 0 0 ∧ getE s z l i = 400 := by
  unfold getW getE; rw [h]; exact ⟨rfl, rfl⟩
theorem getW_yes {s : Nat → Sl} {z : Nat → Nat → Int} {l i : Int} (h : amay s z = true) (h' : thereV s l i = true) :
    getW s z l i = wordA (z l.toNat (i.toNat * 3)) (z l.toNat (i.toNat * 3 + 1)) (z l.toNat (i.toNat * 3 + 2)) ∧ getE s z l i = 0 := by
  unfold getW getE; rw [h, h']; exact ⟨rfl, rfl⟩
theorem thereV_get {s : Nat → Sl} {l i : Int} (h : thereV s l i = true) : ∃ (g k : Nat), l = g ∧ i = k ∧ g < 4 ∧ k < (s g).n := by
  have := of_decide_eq_true h
  obtain ⟨⟨h0, h1⟩, h2, h3⟩ := this
  refine ⟨l.toNat, i.toNat, by omega, by omega, by omega, by omega⟩

/-- May that word be put there? -/
def putOk (s : Nat → Sl) (z : Nat → Nat → Int) (l i v n k : Int) : Bool := amay s z && thereV s l i && wmay v n k
/-- The number of Put's error. -/
def putE (s : Nat → Sl) (z : Nat → Nat → Int) (l i v n k : Int) : Int := bif putOk s z l i v n k then 0 else 400
/-- A row with another word in a place. -/
def putR (z : Nat → Int) (i : Nat) (v n k : Int) (j : Nat) : Int := if j = i * 3 + 2 then k else if j = i * 3 + 1 then n else if j = i * 3 then v else z j
/-- An arena with another word in a place. -/
def putZ (z : Nat → Nat → Int) (l i : Nat) (v n k : Int) (g : Nat) : Nat → Int := if g = l then putR (z g) i v n k else z g

theorem putOk_get {s : Nat → Sl} {z : Nat → Nat → Int} {l i v n k : Int} (h : putOk s z l i v n k = true) : amay s z = true ∧ thereV s l i = true ∧ wmay v n k = true := by
  unfold putOk at h
  simp only [Bool.and_eq_true] at h
  exact ⟨h.1.1, h.1.2, h.2⟩

/-- Four lists of values lie there. -/
def Vals (w : World) (v : Nat → Sl) (y : Nat → Nat → Int) : Prop := ∀ g, g < 4 → Row w (v g).a (v g).n fun i => .int .i64 (y g i)
theorem Vals.below {w w' : World} {B : Nat} {v : Nat → Sl} {y : Nat → Nat → Int} (h : Vals w v y) (hb : Below B w w') (hB : w.heap.size ≤ B) : Vals w' v y := fun g hg => (h g hg).below hb hB
/-- May the first k values be? -/
def valsTo (y : Nat → Int) : Nat → Bool
  | 0 => true
  | k + 1 => valsTo y k && upToV (y k) 255
/-- May a level be made of them? -/
def lvNew (n : Nat) (y : Nat → Int) : Bool := decide (n ≤ 4) && valsTo y n
/-- May the first k levels be made? -/
def newTo (v : Nat → Sl) (y : Nat → Nat → Int) : Nat → Bool
  | 0 => true
  | k + 1 => newTo v y k && lvNew (v k).n (y k)
/-- May an arena be made of them? -/
def newOk (v : Nat → Sl) (y : Nat → Nat → Int) : Bool := newTo v y 4
/-- The number of New's error. -/
def newE (v : Nat → Sl) (y : Nat → Nat → Int) : Int := bif newOk v y then 0 else 400
/-- Its words' cells. -/
def newZ (y : Nat → Nat → Int) (g j : Nat) : Int := if j % 3 = 0 then y g (j / 3) else 0

theorem valsTo_get {y : Nat → Int} : ∀ {n : Nat}, valsTo y n = true → ∀ i, i < n → upToV (y i) 255 = true
  | 0, _, i, hi => absurd hi (Nat.not_lt_zero _)
  | n + 1, h, i, hi => by
    simp only [valsTo, Bool.and_eq_true] at h
    by_cases e : i = n
    · subst e; exact h.2
    · exact valsTo_get h.1 i (by omega)
theorem valsTo_mk {y : Nat → Int} : ∀ {n : Nat}, (∀ i, i < n → upToV (y i) 255 = true) → valsTo y n = true
  | 0, _ => rfl
  | n + 1, h => by rw [valsTo, valsTo_mk fun i hi => h i (by omega), h n (by omega)]; rfl
theorem lvNew_get {n : Nat} {y : Nat → Int} (h : lvNew n y = true) : n ≤ 4 ∧ valsTo y n = true := by
  simp only [lvNew, Bool.and_eq_true, decide_eq_true_eq] at h
  exact h
theorem lvNew_mk {n : Nat} {y : Nat → Int} (h : n ≤ 4) (h' : valsTo y n = true) : lvNew n y = true := by
  rw [lvNew, decide_eq_true h, h']; rfl
theorem lvNew_long {n : Nat} {y : Nat → Int} (h : 4 < n) : lvNew n y = false := by
  rw [lvNew, decide_eq_false (by omega)]; rfl
theorem lvNew_bad {n : Nat} {y : Nat → Int} (i : Nat) (hi : i < n) (h : upToV (y i) 255 = false) : lvNew n y = false := by
  cases e : lvNew n y with
  | false => rfl
  | true => rw [valsTo_get (lvNew_get e).2 i hi] at h; cases h
theorem newTo_get {v : Nat → Sl} {y : Nat → Nat → Int} : ∀ {n : Nat}, newTo v y n = true → ∀ i, i < n → lvNew (v i).n (y i) = true
  | 0, _, i, hi => absurd hi (Nat.not_lt_zero _)
  | n + 1, h, i, hi => by
    simp only [newTo, Bool.and_eq_true] at h
    by_cases e : i = n
    · subst e; exact h.2
    · exact newTo_get h.1 i (by omega)
theorem newTo_mk {v : Nat → Sl} {y : Nat → Nat → Int} : ∀ {n : Nat}, (∀ i, i < n → lvNew (v i).n (y i) = true) → newTo v y n = true
  | 0, _ => rfl
  | n + 1, h => by rw [newTo, newTo_mk fun i hi => h i (by omega), h n (by omega)]; rfl
theorem newOk_no {v : Nat → Sl} {y : Nat → Nat → Int} (i : Nat) (hi : i < 4) (h : lvNew (v i).n (y i) = false) : newOk v y = false := by
  cases e : newOk v y with
  | false => rfl
  | true => rw [newTo_get e i hi] at h; cases h

end Go.Proofs.Ytmjclmjnkmhciaa
