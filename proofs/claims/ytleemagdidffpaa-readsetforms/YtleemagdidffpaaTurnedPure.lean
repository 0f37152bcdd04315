/-
  A word turned: of another version, or locked. Which reads are good then. No Go in sight.
-/
import Derived.Test.YtleemagdidffpaaFirstPure
namespace Go.Proofs.Ytleemagdidffpaa
open Go.RowKit
set_option linter.unusedVariables false

theorem Sixteens.same {n : Nat} {z : Nat → Int} {f : Nat → Bool} (h : Sixteens n z f) {k : Nat} (e : f k = true) : Sixteens n z (updF f k) :=
  ⟨h.may, fun j hj => by rw [updF_old e]; exact h.named j hj, by rw [cnt_congr fun j _ => updF_old e j]; exact h.many⟩
/-- All versions are 0. -/
def Naught (n : Nat) (z : Nat → Int) : Prop := ∀ j, j < n → z (j * 3 + 2) = 0
theorem Naught.more {n : Nat} {z : Nat → Int} (h : Naught n z) (l i : Int) : Naught (n + 1) (putR z n l i 0) := by
  intro j hj
  by_cases e : j = n
  · subst e; exact (putR_new z j l i 0).2.2
  · rw [putR_old (by omega)]; exact h j (by omega)
/-- A read's word, as its level and its place. -/
theorem Sixteens.place {n : Nat} {z : Nat → Int} {f : Nat → Bool} (h : Sixteens n z f) {j : Nat} (hj : j < n) : ∃ g i : Nat, g < 4 ∧ i < 4 ∧ z (j * 3) = (g : Int) ∧ z (j * 3 + 1) = (i : Int) := by
  obtain ⟨h1, h2, _⟩ := readMay_yes (allTo_get (readsMay_get h.may).1 j hj)
  have := upToV_yes h1
  have := upToV_yes h2
  exact ⟨(z (j * 3)).toNat, (z (j * 3 + 1)).toNat, by omega, by omega, by omega, by omega⟩

/-- An arena of four words a level, free ones of version 0. -/
structure Fours (t : Nat → Sl) (y : Nat → Nat → Int) : Prop where
  n : ∀ g, g < 4 → (t g).n = 4
  may : amay t y = true
  version : ∀ g i, y g (i * 3 + 1) = 0
  lock : ∀ g i, y g (i * 3 + 2) = 0

section
variable {t : Nat → Sl} {y : Nat → Nat → Int} {n : Nat} {z : Nat → Int} {f : Nat → Bool}
theorem Fours.there (hF : Fours t y) (h : Sixteens n z f) : allTo (thereP t z) n = true := allTo_mk fun j hj => by
  obtain ⟨g, i, hg, hi, e0, e1⟩ := h.place hj
  unfold thereP
  rw [e0, e1]
  exact thereV_mk hg (by rw [hF.n g hg]; exact hi)
theorem Fours.ok (hF : Fours t y) (h : Sixteens n z f) {d : Int} (hd : upToV d 254 = true) : goodOk t y n z d = true := goodOk_mk (fitR_mk hF.may h.may (hF.there h)) hd
theorem Fours.good (hF : Fours t y) (h : Sixteens n z f) (hz : Naught n z) (d : Int) : allTo (goodP y z d) n = true := allTo_mk fun j hj => by
  obtain ⟨g, i, hg, hi, e0, e1⟩ := h.place hj
  unfold goodP sameP freeP
  rw [e0, e1, hz j hj, Int.toNat_natCast, Int.toNat_natCast, hF.version, hF.lock]
  rfl
/-- With another number in a word. -/
theorem Fours.turned (hF : Fours t y) {l k c : Nat} {x : Int} (hl : l < 4) (hk : k < 4) (hc : c = 1 ∨ c = 2) (hx : upToV x 255 = true) : amay t (oneZ y l (k * 3 + c) x) = true := by
  obtain ⟨x0, x1⟩ := upToV_yes hx
  refine lvTo_mk fun g hg => ?_
  obtain ⟨h4, hw⟩ := lvMay_get (lvTo_get hF.may g hg)
  refine lvMay_mk h4 (wordsTo_mk fun i hi => ?_)
  have hm := wordsTo_get hw i hi
  unfold oneZ
  by_cases e : g = l
  · rw [if_pos e]
    obtain ⟨m1, m2, m3⟩ := wmay_yes hm
    unfold updZ
    refine wmay_of ?_ ?_ ?_
    · rw [if_neg (by omega)]; exact m1
    · split
      · exact upToV_of x0 (by omega)
      · exact m2
    · split
      · exact hx
      · exact m3
  · rw [if_neg e]; exact hm
theorem turned_at {l k c : Nat} (y : Nat → Nat → Int) (x : Int) (g i c' : Nat) (hc : c < 3) (hc' : c' < 3) : oneZ y l (k * 3 + c) x g (i * 3 + c') = if g = l ∧ i = k ∧ c' = c then x else y g (i * 3 + c') := by
  unfold oneZ
  by_cases e : g = l
  · rw [if_pos e]
    unfold updZ
    by_cases e2 : i * 3 + c' = k * 3 + c
    · rw [if_pos e2, if_pos ⟨e, by omega, by omega⟩]
    · rw [if_neg e2, if_neg (by omega)]
  · rw [if_neg e, if_neg (fun h => e h.1)]
theorem isWord_at {j g i l k : Nat} (e0 : z (j * 3) = (g : Int)) (e1 : z (j * 3 + 1) = (i : Int)) : isWord z (l : Int) (k : Int) j = decide (g = l ∧ i = k) := by
  unfold isWord
  rw [e0, e1]
  by_cases h1 : g = l <;> by_cases h2 : i = k <;> simp [h1, h2]
  · intro h; omega
  · intro h; omega
  · intro h; omega

/-- A word that is locked by that one and 1: good of that one and 1 alone. -/
theorem Fours.locked (hF : Fours t y) (h : Sixteens n z f) (hz : Naught n z) {l k : Nat} (hl : l < 4) (hk : k < 4) {d : Int} (hd : 0 ≤ d) :
    allTo (goodP (oneZ y l (k * 3 + 2) (d + 2)) z d) n = noneTo z (l : Int) (k : Int) n ∧ allTo (goodP (oneZ y l (k * 3 + 2) (d + 2)) z (d + 1)) n = true ∧ allTo (sameP (oneZ y l (k * 3 + 2) (d + 2)) z) n = true := by
  have hs : ∀ j, j < n → sameP (oneZ y l (k * 3 + 2) (d + 2)) z j = true := fun j hj => by
    obtain ⟨g, i, hg, hi, e0, e1⟩ := h.place hj
    unfold sameP
    rw [e0, e1, hz j hj, Int.toNat_natCast, Int.toNat_natCast, turned_at y _ g i 1 (by omega) (by omega), if_neg (by omega), hF.version]
    rfl
  refine ⟨allTo_congr fun j hj => ?_, allTo_mk fun j hj => ?_, allTo_mk hs⟩
  · obtain ⟨g, i, hg, hi, e0, e1⟩ := h.place hj
    unfold goodP
    rw [hs j hj, Bool.true_and, isWord_at e0 e1]
    unfold freeP
    rw [e0, e1, Int.toNat_natCast, Int.toNat_natCast, turned_at y _ g i 2 (by omega) (by omega), hF.lock]
    by_cases hw : g = l ∧ i = k
    · rw [if_pos ⟨hw.1, hw.2, rfl⟩, decide_eq_true hw, beq_eq_false_iff_ne.2 (by omega), beq_eq_false_iff_ne.2 (by omega)]
      rfl
    · rw [if_neg (fun x => hw ⟨x.1, x.2.1⟩), decide_eq_false hw]
      rfl
  · obtain ⟨g, i, hg, hi, e0, e1⟩ := h.place hj
    unfold goodP
    rw [hs j hj, Bool.true_and]
    unfold freeP
    rw [e0, e1, Int.toNat_natCast, Int.toNat_natCast, turned_at y _ g i 2 (by omega) (by omega), hF.lock]
    split
    · rw [show d + 2 = d + 1 + 1 by omega, beq_self_eq_true, Bool.or_true]
    · rfl
/-- A word of another version: good of nobody. -/
theorem Fours.newer (hF : Fours t y) (h : Sixteens n z f) (hz : Naught n z) {l k : Nat} (hl : l < 4) (hk : k < 4) (d : Int) :
    allTo (goodP (oneZ y l (k * 3 + 1) 3) z d) n = noneTo z (l : Int) (k : Int) n ∧ allTo (sameP (oneZ y l (k * 3 + 1) 3) z) n = noneTo z (l : Int) (k : Int) n := by
  have hs : ∀ j, j < n → sameP (oneZ y l (k * 3 + 1) 3) z j = !isWord z (l : Int) (k : Int) j := fun j hj => by
    obtain ⟨g, i, hg, hi, e0, e1⟩ := h.place hj
    rw [isWord_at e0 e1]
    unfold sameP
    rw [e0, e1, hz j hj, Int.toNat_natCast, Int.toNat_natCast, turned_at y _ g i 1 (by omega) (by omega), hF.version]
    by_cases hw : g = l ∧ i = k
    · rw [if_pos ⟨hw.1, hw.2, rfl⟩, decide_eq_true hw]
      rfl
    · rw [if_neg (fun x => hw ⟨x.1, x.2.1⟩), decide_eq_false hw]
      rfl
  refine ⟨allTo_congr fun j hj => ?_, allTo_congr hs⟩
  obtain ⟨g, i, hg, hi, e0, e1⟩ := h.place hj
  unfold goodP
  rw [hs j hj]
  unfold freeP
  rw [e0, e1, Int.toNat_natCast, Int.toNat_natCast, turned_at y _ g i 2 (by omega) (by omega), if_neg (by omega), hF.lock]
  simp
end

/-- A list of numbers, just laid. -/
def lz (l : List Int) (i : Nat) : Int := l.getD i 0
theorem blk_lz (w : World) (l : List Int) (t : TypeId) : Blk (w.alloc (.cells (l.map (Value.int .i64)).toArray t)) w.heap.size (l.map (Value.int .i64)) := blk_new w _ t
theorem Blk.lzRow {w : World} {b : Nat} {l : List Int} (h : Blk w b (l.map (Value.int .i64))) : Row w (some ⟨b, 0, none⟩) l.length fun i => .int .i64 (lz l i) := by
  have := (own_of_blk h (fun i => .int .i64 (lz l i)) (fun i hi => by
    have hi' : i < l.length := by simpa using hi
    simp [lz, hi'])).row
  simpa using this

end Go.Proofs.Ytleemagdidffpaa
