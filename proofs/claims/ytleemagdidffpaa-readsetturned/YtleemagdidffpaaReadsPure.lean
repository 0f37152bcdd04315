/-
  Reads: which may be, with one more, whose words are there, good, changed. Reads are told by their numbers' places, three a read. No Go in sight.
-/
import Derived.Test.YtleemagdidffpaaArenaSaid
namespace Go.Proofs.Ytleemagdidffpaa
open Go.RowKit

/-- Is it so of the first k? -/
def allTo (p : Nat → Bool) : Nat → Bool
  | 0 => true
  | k + 1 => allTo p k && p k
theorem allTo_get {p : Nat → Bool} : ∀ {n : Nat}, allTo p n = true → ∀ i, i < n → p i = true
  | 0, _, i, hi => absurd hi (Nat.not_lt_zero _)
  | n + 1, h, i, hi => by
    simp only [allTo, Bool.and_eq_true] at h
    by_cases e : i = n
    · subst e; exact h.2
    · exact allTo_get h.1 i (by omega)
theorem allTo_mk {p : Nat → Bool} : ∀ {n : Nat}, (∀ i, i < n → p i = true) → allTo p n = true
  | 0, _ => rfl
  | n + 1, h => by rw [allTo, allTo_mk fun i hi => h i (by omega), h n (by omega)]; rfl
theorem allTo_no {p : Nat → Bool} {n : Nat} (i : Nat) (hi : i < n) (h : p i = false) : allTo p n = false := by
  cases e : allTo p n with
  | false => rfl
  | true => rw [allTo_get e i hi] at h; cases h
theorem allTo_ex {p : Nat → Bool} : ∀ {n : Nat}, allTo p n = false → ∃ i, i < n ∧ p i = false
  | 0, h => by cases h
  | n + 1, h => by
    cases e : p n
    · exact ⟨n, by omega, e⟩
    · rw [allTo, e, Bool.and_true] at h
      obtain ⟨i, hi, hp⟩ := allTo_ex h
      exact ⟨i, by omega, hp⟩
theorem allTo_congr {p q : Nat → Bool} : ∀ {n : Nat}, (∀ i, i < n → p i = q i) → allTo p n = allTo q n
  | 0, _ => rfl
  | n + 1, h => by rw [allTo, allTo, allTo_congr fun i hi => h i (by omega), h n (by omega)]
theorem allTo_add (p : Nat → Bool) (m : Nat) : ∀ k, allTo p (m + k) = (allTo p m && allTo (fun i => p (m + i)) k)
  | 0 => by rw [Nat.add_zero, allTo, Bool.and_true]
  | k + 1 => by rw [← Nat.add_assoc, allTo, allTo_add p m k, allTo, Bool.and_assoc]
theorem allTo_and (p q : Nat → Bool) : ∀ n, allTo (fun i => p i && q i) n = (allTo p n && allTo q n)
  | 0 => rfl
  | n + 1 => by
    rw [allTo, allTo, allTo, allTo_and p q n]
    cases allTo p n <;> cases allTo q n <;> cases p n <;> cases q n <;> rfl
theorem allTo_less {p : Nat → Bool} {n m : Nat} (h : allTo p n = true) (hm : m ≤ n) : allTo p m = true := allTo_mk fun i hi => allTo_get h i (by omega)

/-- May it be a read, alone? -/
def readMay (l i v : Int) : Bool := upToV l 3 && upToV i 3 && upToV v 65535
/-- Is a read of that word? -/
def isWord (z : Nat → Int) (l i : Int) (j : Nat) : Bool := (z (j * 3) == l) && (z (j * 3 + 1) == i)
/-- Is none of the first k of that word? -/
def noneTo (z : Nat → Int) (l i : Int) (k : Nat) : Bool := allTo (fun j => !isWord z l i j) k
/-- May the k-th be, alone? -/
def aloneP (z : Nat → Int) (k : Nat) : Bool := readMay (z (k * 3)) (z (k * 3 + 1)) (z (k * 3 + 2))
/-- Is none ahead of the k-th of its word? -/
def apartP (z : Nat → Int) (k : Nat) : Bool := noneTo z (z (k * 3)) (z (k * 3 + 1)) k
/-- May they be? -/
def readsMay (n : Nat) (z : Nat → Int) : Bool := allTo (aloneP z) n && allTo (apartP z) n && decide (n ≤ 16)
theorem readsMay_get {n : Nat} {z : Nat → Int} (h : readsMay n z = true) : allTo (aloneP z) n = true ∧ allTo (apartP z) n = true ∧ n ≤ 16 := by
  simp only [readsMay, Bool.and_eq_true, decide_eq_true_eq] at h
  exact ⟨h.1.1, h.1.2, h.2⟩
theorem readsMay_mk {n : Nat} {z : Nat → Int} (h : allTo (aloneP z) n = true) (h' : allTo (apartP z) n = true) (hn : n ≤ 16) : readsMay n z = true := by rw [readsMay, h, h', decide_eq_true hn]; rfl
theorem readsMay_alone {n : Nat} {z : Nat → Int} (k : Nat) (hk : k < n) (h : aloneP z k = false) : readsMay n z = false := by rw [readsMay, allTo_no k hk h]; rfl
theorem readsMay_alones {n : Nat} {z : Nat → Int} (h : allTo (aloneP z) n = false) : readsMay n z = false := by rw [readsMay, h]; rfl
theorem readsMay_apart {n : Nat} {z : Nat → Int} (k : Nat) (hk : k < n) (h : apartP z k = false) : readsMay n z = false := by rw [readsMay, allTo_no k hk h, Bool.and_false, Bool.false_and]
theorem readsMay_long {n : Nat} {z : Nat → Int} (h : 16 < n) : readsMay n z = false := by rw [readsMay, decide_eq_false (by omega), Bool.and_false]
theorem readMay_yes {l i v : Int} (h : readMay l i v = true) : upToV l 3 = true ∧ upToV i 3 = true ∧ upToV v 65535 = true := by
  simp only [readMay, Bool.and_eq_true] at h
  exact ⟨h.1.1, h.1.2, h.2⟩
theorem readMay_of {l i v : Int} (h : upToV l 3 = true) (h' : upToV i 3 = true) (h'' : upToV v 65535 = true) : readMay l i v = true := by rw [readMay, h, h', h'']; rfl

/-- May one more be read? -/
def withOk (n : Nat) (z : Nat → Int) (l i v : Int) : Bool := readsMay n z && readMay l i v && (!noneTo z l i n || decide (n + 1 ≤ 16))
def withE (n : Nat) (z : Nat → Int) (l i v : Int) : Int := bif withOk n z l i v then 0 else 900
/-- How many they are then. The numbers are 'putR z n l i v'. -/
def withN (n : Nat) (z : Nat → Int) (l i v : Int) : Nat := bif withOk n z l i v then (bif noneTo z l i n then n + 1 else n) else 0
theorem putR_old {z : Nat → Int} {n : Nat} {l i v : Int} {j : Nat} (h : j < n * 3) : putR z n l i v j = z j := by
  unfold putR
  rw [if_neg (by omega), if_neg (by omega), if_neg (by omega)]
theorem putR_new (z : Nat → Int) (n : Nat) (l i v : Int) : putR z n l i v (n * 3) = l ∧ putR z n l i v (n * 3 + 1) = i ∧ putR z n l i v (n * 3 + 2) = v := by
  unfold putR
  refine ⟨?_, ?_, ?_⟩
  · rw [if_neg (by omega), if_neg (by omega), if_pos rfl]
  · rw [if_neg (by omega), if_pos rfl]
  · rw [if_pos rfl]
theorem withN_le (n : Nat) (z : Nat → Int) (l i v : Int) : withN n z l i v ≤ 16 := by
  unfold withN
  cases h : withOk n z l i v
  · exact Nat.zero_le _
  · simp only [withOk, Bool.and_eq_true, Bool.or_eq_true, Bool.not_eq_true', decide_eq_true_eq] at h
    have := (readsMay_get h.1.1).2.2
    cases hn : noneTo z l i n
    · exact this
    · rcases h.2 with e | e
      · rw [hn] at e; cases e
      · exact e

/-- Is its word there? -/
def thereP (s : Nat → Sl) (z : Nat → Int) (k : Nat) : Bool := thereV s (z (k * 3)) (z (k * 3 + 1))
/-- Is its word of that version? -/
def sameP (y : Nat → Nat → Int) (z : Nat → Int) (k : Nat) : Bool := y (z (k * 3)).toNat ((z (k * 3 + 1)).toNat * 3 + 1) == z (k * 3 + 2)
/-- Is its word free, or that one's? -/
def freeP (y : Nat → Nat → Int) (z : Nat → Int) (d : Int) (k : Nat) : Bool := (y (z (k * 3)).toNat ((z (k * 3 + 1)).toNat * 3 + 2) == 0) || (y (z (k * 3)).toNat ((z (k * 3 + 1)).toNat * 3 + 2) == d + 1)
def goodP (y : Nat → Nat → Int) (z : Nat → Int) (d : Int) (k : Nat) : Bool := sameP y z k && freeP y z d k
/-- May both be, and is each word there? -/
def fitR (s : Nat → Sl) (y : Nat → Nat → Int) (n : Nat) (z : Nat → Int) : Bool := amay s y && readsMay n z && allTo (thereP s z) n
def goodOk (s : Nat → Sl) (y : Nat → Nat → Int) (n : Nat) (z : Nat → Int) (d : Int) : Bool := fitR s y n z && upToV d 254
def goodE (s : Nat → Sl) (y : Nat → Nat → Int) (n : Nat) (z : Nat → Int) (d : Int) : Int := bif goodOk s y n z d then 0 else 900
def goodV (s : Nat → Sl) (y : Nat → Nat → Int) (n : Nat) (z : Nat → Int) (d : Int) : Bool := goodOk s y n z d && allTo (goodP y z d) n
def chgE (s : Nat → Sl) (y : Nat → Nat → Int) (n : Nat) (z : Nat → Int) : Int := bif fitR s y n z then 0 else 900
def chgV (s : Nat → Sl) (y : Nat → Nat → Int) (n : Nat) (z : Nat → Int) : Bool := fitR s y n z && !allTo (sameP y z) n

section
variable {s t : Nat → Sl} {y : Nat → Nat → Int} {n : Nat} {z : Nat → Int} {d : Int}
theorem fitR_get (h : fitR s y n z = true) : amay s y = true ∧ readsMay n z = true ∧ allTo (thereP s z) n = true := by
  simp only [fitR, Bool.and_eq_true] at h
  exact ⟨h.1.1, h.1.2, h.2⟩
theorem fitR_mk (h : amay s y = true) (h' : readsMay n z = true) (h'' : allTo (thereP s z) n = true) : fitR s y n z = true := by rw [fitR, h, h', h'']; rfl
theorem goodOk_get (h : goodOk s y n z d = true) : fitR s y n z = true ∧ upToV d 254 = true := by
  simp only [goodOk, Bool.and_eq_true] at h
  exact h
theorem goodOk_mk (h : fitR s y n z = true) (h' : upToV d 254 = true) : goodOk s y n z d = true := by rw [goodOk, h, h']; rfl
theorem good_no (h : goodOk s y n z d = false) : goodV s y n z d = false ∧ goodE s y n z d = 900 := by
  unfold goodV goodE; rw [h]; exact ⟨rfl, rfl⟩
theorem good_yes (h : goodOk s y n z d = true) : goodV s y n z d = allTo (goodP y z d) n ∧ goodE s y n z d = 0 := by
  unfold goodV goodE; rw [h]; exact ⟨rfl, rfl⟩
theorem chg_no (h : fitR s y n z = false) : chgV s y n z = false ∧ chgE s y n z = 900 := by
  unfold chgV chgE; rw [h]; exact ⟨rfl, rfl⟩
theorem chg_yes (h : fitR s y n z = true) : chgV s y n z = !allTo (sameP y z) n ∧ chgE s y n z = 0 := by
  unfold chgV chgE; rw [h]; exact ⟨rfl, rfl⟩
theorem goodOk_fit (h : fitR s y n z = false) : goodOk s y n z d = false := by rw [goodOk, h]; rfl
theorem goodOk_id (h : upToV d 254 = false) : goodOk s y n z d = false := by rw [goodOk, h, Bool.and_false]
theorem fitR_arena (h : amay s y = false) : fitR s y n z = false := by rw [fitR, h]; rfl
theorem fitR_reads (h : readsMay n z = false) : fitR s y n z = false := by rw [fitR, h, Bool.and_false, Bool.false_and]
theorem fitR_there (h : allTo (thereP s z) n = false) : fitR s y n z = false := by rw [fitR, h, Bool.and_false]
theorem thereP_congr (ht : ∀ g, g < 4 → (t g).n = (s g).n) (k : Nat) : thereP t z k = thereP s z k := thereV_congr ht _ _
theorem fitR_congr (ht : ∀ g, g < 4 → (t g).n = (s g).n) : fitR t y n z = fitR s y n z := by
  rw [fitR, fitR, amay_congr ht, allTo_congr fun i _ => thereP_congr ht i]
theorem goodOk_congr (ht : ∀ g, g < 4 → (t g).n = (s g).n) : goodOk t y n z d = goodOk s y n z d := by rw [goodOk, goodOk, fitR_congr ht]
theorem good_congr (ht : ∀ g, g < 4 → (t g).n = (s g).n) : goodV t y n z d = goodV s y n z d ∧ goodE t y n z d = goodE s y n z d := by
  unfold goodV goodE; rw [goodOk_congr ht]; exact ⟨rfl, rfl⟩
theorem chg_congr (ht : ∀ g, g < 4 → (t g).n = (s g).n) : chgV t y n z = chgV s y n z ∧ chgE t y n z = chgE s y n z := by
  unfold chgV chgE; rw [fitR_congr ht]; exact ⟨rfl, rfl⟩
end

section
variable {z x : Nat → Int} {m n : Nat}
theorem isWord_congr (h : ∀ i, i < n * 3 → z i = x i) (l i : Int) {j : Nat} (hj : j < n) : isWord z l i j = isWord x l i j := by
  unfold isWord
  rw [h (j * 3) (by omega), h (j * 3 + 1) (by omega)]
theorem noneTo_congr (h : ∀ i, i < n * 3 → z i = x i) (l i : Int) : noneTo z l i n = noneTo x l i n := allTo_congr fun j hj => by rw [isWord_congr h l i hj]
theorem aloneP_congr (h : ∀ i, i < n * 3 → z i = x i) {j : Nat} (hj : j < n) : aloneP z j = aloneP x j := by
  unfold aloneP
  rw [h (j * 3) (by omega), h (j * 3 + 1) (by omega), h (j * 3 + 2) (by omega)]
theorem apartP_congr (h : ∀ i, i < n * 3 → z i = x i) {j : Nat} (hj : j < n) : apartP z j = apartP x j := by
  unfold apartP
  rw [h (j * 3) (by omega), h (j * 3 + 1) (by omega), noneTo_congr (n := j) fun i hi => h i (by omega)]
theorem readsMay_congr (h : ∀ i, i < n * 3 → z i = x i) : readsMay n z = readsMay n x := by
  rw [readsMay, readsMay, allTo_congr fun i hi => aloneP_congr h hi, allTo_congr fun i hi => apartP_congr h hi]
theorem thereP_cells {s : Nat → Sl} (h : ∀ i, i < n * 3 → z i = x i) {j : Nat} (hj : j < n) : thereP s z j = thereP s x j := by
  unfold thereP
  rw [h (j * 3) (by omega), h (j * 3 + 1) (by omega)]
theorem sameP_cells {y : Nat → Nat → Int} (h : ∀ i, i < n * 3 → z i = x i) {j : Nat} (hj : j < n) : sameP y z j = sameP y x j := by
  unfold sameP
  rw [h (j * 3) (by omega), h (j * 3 + 1) (by omega), h (j * 3 + 2) (by omega)]
theorem goodP_cells {y : Nat → Nat → Int} {d : Int} (h : ∀ i, i < n * 3 → z i = x i) {j : Nat} (hj : j < n) : goodP y z d j = goodP y x d j := by
  unfold goodP freeP
  rw [sameP_cells h hj, h (j * 3) (by omega), h (j * 3 + 1) (by omega)]
end

/-- One more, of a word that was not read. -/
theorem readsMay_more {n : Nat} {z : Nat → Int} {l i v : Int} (h : readsMay n z = true) (hr : readMay l i v = true) (hn : noneTo z l i n = true) (h16 : n + 1 ≤ 16) : readsMay (n + 1) (putR z n l i v) = true := by
  obtain ⟨h1, h2, _⟩ := readsMay_get h
  obtain ⟨e0, e1, e2⟩ := putR_new z n l i v
  have old : ∀ j, j < n * 3 → putR z n l i v j = z j := fun j hj => putR_old hj
  refine readsMay_mk ?_ ?_ h16
  · rw [allTo, allTo_congr fun j hj => aloneP_congr old hj, h1]
    unfold aloneP
    rw [e0, e1, e2, hr]
    rfl
  · rw [allTo, allTo_congr fun j hj => apartP_congr old hj, h2]
    unfold apartP
    rw [e0, e1, noneTo_congr old, hn]
    rfl
/-- The reads behind the first m. -/
def fromR (z : Nat → Int) (m : Nat) (i : Nat) : Int := z (m * 3 + i)
theorem fromR_at (z : Nat → Int) (m k : Nat) : fromR z m (k * 3) = z ((m + k) * 3) ∧ fromR z m (k * 3 + 1) = z ((m + k) * 3 + 1) ∧ fromR z m (k * 3 + 2) = z ((m + k) * 3 + 2) := by
  unfold fromR
  refine ⟨?_, ?_, ?_⟩ <;> (congr 1; omega)
theorem readsMay_parts {n m : Nat} {z : Nat → Int} (h : readsMay n z = true) (hm : m ≤ n) : readsMay m z = true ∧ readsMay (n - m) (fromR z m) = true := by
  obtain ⟨h1, h2, h3⟩ := readsMay_get h
  refine ⟨readsMay_mk (allTo_less h1 hm) (allTo_less h2 hm) (by omega), readsMay_mk (allTo_mk fun k hk => ?_) (allTo_mk fun k hk => ?_) (by omega)⟩
  · obtain ⟨e0, e1, e2⟩ := fromR_at z m k
    have := allTo_get h1 (m + k) (by omega)
    unfold aloneP at this ⊢
    rw [e0, e1, e2]
    exact this
  · obtain ⟨e0, e1, _⟩ := fromR_at z m k
    have := allTo_get h2 (m + k) (by omega)
    unfold apartP at this ⊢
    rw [e0, e1]
    refine allTo_mk fun j hj => ?_
    obtain ⟨f0, f1, _⟩ := fromR_at z m j
    have := allTo_get this (m + j) (by omega)
    unfold isWord at this ⊢
    rw [f0, f1]
    exact this
theorem fromR_there (s : Nat → Sl) (z : Nat → Int) (m k : Nat) : thereP s (fromR z m) k = thereP s z (m + k) := by
  obtain ⟨e0, e1, _⟩ := fromR_at z m k
  unfold thereP
  rw [e0, e1]
theorem fromR_same (y : Nat → Nat → Int) (z : Nat → Int) (m k : Nat) : sameP y (fromR z m) k = sameP y z (m + k) := by
  obtain ⟨e0, e1, e2⟩ := fromR_at z m k
  unfold sameP
  rw [e0, e1, e2]
theorem fromR_good (y : Nat → Nat → Int) (z : Nat → Int) (d : Int) (m k : Nat) : goodP y (fromR z m) d k = goodP y z d (m + k) := by
  obtain ⟨e0, e1, _⟩ := fromR_at z m k
  unfold goodP freeP
  rw [fromR_same, e0, e1]
/-- Reads are good just if both parts are. -/
theorem good_parts {s : Nat → Sl} {y : Nat → Nat → Int} {n m : Nat} {z : Nat → Int} {d : Int} (h : goodOk s y n z d = true) (hm : m ≤ n) :
    goodOk s y m z d = true ∧ goodOk s y (n - m) (fromR z m) d = true ∧ allTo (goodP y z d) n = (allTo (goodP y z d) m && allTo (goodP y (fromR z m) d) (n - m)) ∧ allTo (sameP y z) n = (allTo (sameP y z) m && allTo (sameP y (fromR z m)) (n - m)) := by
  obtain ⟨hf, hd⟩ := goodOk_get h
  obtain ⟨ha, hr, ht⟩ := fitR_get hf
  obtain ⟨r1, r2⟩ := readsMay_parts hr hm
  have hmk : m + (n - m) = n := by omega
  refine ⟨goodOk_mk (fitR_mk ha r1 (allTo_less ht hm)) hd, goodOk_mk (fitR_mk ha r2 (allTo_mk fun k hk => ?_)) hd, ?_, ?_⟩
  · rw [fromR_there]
    exact allTo_get ht (m + k) (by omega)
  · have := allTo_add (goodP y z d) m (n - m)
    rw [hmk] at this
    rw [this, allTo_congr (p := goodP y (fromR z m) d) fun k _ => fromR_good y z d m k]
  · have := allTo_add (sameP y z) m (n - m)
    rw [hmk] at this
    rw [this, allTo_congr (p := sameP y (fromR z m)) fun k _ => fromR_same y z m k]
/-- Good reads are not changed. -/
theorem good_same {y : Nat → Nat → Int} {z : Nat → Int} {d : Int} {n : Nat} (h : allTo (goodP y z d) n = true) : allTo (sameP y z) n = true := allTo_mk fun i hi => by
  have := allTo_get h i hi
  simp only [goodP, Bool.and_eq_true] at this
  exact this.1

end Go.Proofs.Ytleemagdidffpaa
