/-
  What the four functions of package arena hand back: statements, to be proved of the landed code, and what the laws need of them.
-/
import Derived.Test.YtmjclmjnkmhciaaArenaNewRef
namespace Go.Proofs.Ytmjclmjnkmhciaa
open Go.RowKit

/-- No list of values is longer than what can come in; nil has none. -/
def VFit (v : Nat → Sl) : Prop := ∀ g, g < 4 → (v g).n * 8 ≤ 140737488351232 ∧ ((v g).a = none → (v g).n = 0 ∧ (v g).c = 0)
theorem VFit.short {s : Nat → Sl} (h : VFit s) : Short s := fun g hg => by have := (h g hg).1; omega

def NewC : Prop := ∀ (v : Nat → Sl) (y : Nat → Nat → Int) (w : World), VFit v → Vals w v y → Calls Try.prog 9 #[arenaA v] w (NewPost v y w)
def MayC : Prop := ∀ (s : Nat → Sl) (z : Nat → Nat → Int) (w : World), Fit s → Arn w s z → Calls Try.prog 17 #[arenaA s] w fun e w' => e = .returned (.bool (amay s z)) ∧ Below w.heap.size w w'
def GetC : Prop := ∀ (s : Nat → Sl) (z : Nat → Nat → Int) (l i : Int) (w : World), Fit s → Arn w s z → Calls Try.prog 11 #[arenaA s, .int .i64 l, .int .i64 i] w fun e w' => e = .returned (.tuple #[getW s z l i, .int .i64 (getE s z l i)]) ∧ Below w.heap.size w w'
def PutC : Prop := ∀ (s : Nat → Sl) (z : Nat → Nat → Int) (l i v n k : Int) (w : World), Fit s → Arn w s z → Calls Try.prog 13 #[arenaA s, .int .i64 l, .int .i64 i, wordA v n k] w (PutPost s z l i v n k w)

/-- Four things, by their places. -/
def four {α : Type} (a b c d : α) : Nat → α
  | 0 => a
  | 1 => b
  | 2 => c
  | _ => d

theorem four_all {P : Nat → Prop} (h0 : P 0) (h1 : P 1) (h2 : P 2) (h3 : P 3) : ∀ g, g < 4 → P g := by
  intro g hg
  have : g = 0 ∨ g = 1 ∨ g = 2 ∨ g = 3 := by omega
  rcases this with rfl | rfl | rfl | rfl <;> assumption

/-- What New makes may be. -/
theorem new_may {v t : Nat → Sl} {y : Nat → Nat → Int} (h : newOk v y = true) (ht : ∀ g, g < 4 → (t g).n = (v g).n) : amay t (newZ y) = true := by
  refine lvTo_mk fun g hg => ?_
  obtain ⟨h4, hv⟩ := lvNew_get (newTo_get h g hg)
  rw [ht g hg]
  refine lvMay_mk h4 (wordsTo_mk fun i hi => ?_)
  have e0 : newZ y g (i * 3) = y g i := by unfold newZ; rw [if_pos (by omega)]; congr 1; omega
  have e1 : newZ y g (i * 3 + 1) = 0 := by unfold newZ; rw [if_neg (by omega)]
  have e2 : newZ y g (i * 3 + 2) = 0 := by unfold newZ; rw [if_neg (by omega)]
  rw [e0, e1, e2]
  exact wmay_of (valsTo_get hv i hi) rfl rfl
theorem newZ_word (y : Nat → Nat → Int) (g i : Nat) : newZ y g (i * 3) = y g i ∧ newZ y g (i * 3 + 1) = 0 ∧ newZ y g (i * 3 + 2) = 0 := by
  refine ⟨?_, ?_, ?_⟩
  · unfold newZ; rw [if_pos (by omega)]; congr 1; omega
  · unfold newZ; rw [if_neg (by omega)]
  · unfold newZ; rw [if_neg (by omega)]
/-- What Put makes may be. -/
theorem put_may {s t : Nat → Sl} {z : Nat → Nat → Int} {l i : Nat} {v n k : Int} (h : amay s z = true) (hm : wmay v n k = true) (ht : ∀ g, g < 4 → (t g).n = (s g).n) : amay t (putZ z l i v n k) = true := by
  refine lvTo_mk fun g hg => ?_
  obtain ⟨h4, hw⟩ := lvMay_get (lvTo_get h g hg)
  rw [ht g hg]
  refine lvMay_mk h4 (wordsTo_mk fun j hj => ?_)
  unfold putZ
  by_cases e : g = l
  · rw [if_pos e]
    unfold putR
    by_cases e2 : j = i
    · subst e2
      rw [if_neg (by omega), if_neg (by omega), if_pos rfl, if_neg (by omega), if_pos rfl, if_pos rfl]
      exact hm
    · rw [if_neg (by omega), if_neg (by omega), if_neg (by omega), if_neg (by omega), if_neg (by omega), if_neg (by omega), if_neg (by omega), if_neg (by omega), if_neg (by omega)]
      exact wordsTo_get hw j hj
  · rw [if_neg e]
    exact wordsTo_get hw j hj
theorem thereV_mk {s : Nat → Sl} {g k : Nat} (hg : g < 4) (hk : k < (s g).n) : thereV s (g : Int) (k : Int) = true :=
  decide_eq_true ⟨⟨by omega, by omega⟩, by omega, by rw [Int.toNat_natCast]; omega⟩
theorem thereV_not {s : Nat → Sl} {l i : Int} (h : ∀ g k : Nat, l = g → i = k → g < 4 → ¬ k < (s g).n) : thereV s l i = false := by
  cases e : thereV s l i with
  | false => rfl
  | true =>
    obtain ⟨g, k, hl, hi, hg, hk⟩ := thereV_get e
    exact absurd hk (h g k hl hi hg)
/-- Get at a word that is there. -/
theorem get_at {s : Nat → Sl} {z : Nat → Nat → Int} (h : amay s z = true) {g k : Nat} (hg : g < 4) (hk : k < (s g).n) :
    getW s z (g : Int) (k : Int) = wordA (z g (k * 3)) (z g (k * 3 + 1)) (z g (k * 3 + 2)) ∧ getE s z (g : Int) (k : Int) = 0 := by
  have := getW_yes h (thereV_mk hg hk)
  rw [Int.toNat_natCast, Int.toNat_natCast] at this
  exact this
theorem new_fit {v t : Nat → Sl} {y : Nat → Nat → Int} (hny : Nilly t) (h : newOk v y = true) (ht : ∀ g, g < 4 → (t g).n = (v g).n) : Fit t :=
  hny.fit fun g hg => by have := (lvNew_get (newTo_get h g hg)).1; rw [ht g hg]; omega
theorem nil_fit : Fit nilS := fun _ _ => ⟨by show 0 * 24 ≤ _; omega, fun _ => ⟨rfl, rfl⟩⟩
theorem same_fit {s t : Nat → Sl} (hny : Nilly t) (hs : Fit s) (ht : ∀ g, g < 4 → (t g).n = (s g).n) : Fit t := hny.fit fun g hg => by rw [ht g hg]; exact (hs g hg).1

section
variable {s t : Nat → Sl} {z : Nat → Nat → Int}
theorem amay_congr (ht : ∀ g, g < 4 → (t g).n = (s g).n) : amay t z = amay s z := by
  unfold amay
  simp only [lvTo, ht 0 (by omega), ht 1 (by omega), ht 2 (by omega), ht 3 (by omega)]
theorem thereV_congr (ht : ∀ g, g < 4 → (t g).n = (s g).n) (l i : Int) : thereV t l i = thereV s l i := by
  unfold thereV
  by_cases h : 0 ≤ l ∧ l < 4
  · rw [ht l.toNat (by omega)]
  · rw [decide_eq_false (fun x => h x.1), decide_eq_false (fun x => h x.1)]
theorem getW_congr (ht : ∀ g, g < 4 → (t g).n = (s g).n) (l i : Int) : getW t z l i = getW s z l i ∧ getE t z l i = getE s z l i := by
  unfold getW getE
  rw [amay_congr ht, thereV_congr ht]
  exact ⟨rfl, rfl⟩
theorem putOk_congr (ht : ∀ g, g < 4 → (t g).n = (s g).n) (l i v n k : Int) : putOk t z l i v n k = putOk s z l i v n k := by
  unfold putOk
  rw [amay_congr ht, thereV_congr ht]
theorem getW_word (s : Nat → Sl) (z : Nat → Nat → Int) (l i : Int) : ∃ x y u, getW s z l i = wordA x y u := by
  unfold getW
  cases amay s z && thereV s l i
  · exact ⟨_, _, _, rfl⟩
  · exact ⟨_, _, _, rfl⟩
theorem sameLv_nil (z z' : Nat → Nat → Int) : sameLv nilS nilS z z' 4 = true := sameLv_mk fun _ _ => ⟨rfl, fun _ hi => absurd hi (Nat.not_lt_zero _)⟩
end

/-- Two that New hands back are the same. -/
theorem new_same {v t t' : Nat → Sl} {y : Nat → Nat → Int} (h : newOk v y = true → ∀ g, g < 4 → (t g).n = (v g).n) (h0 : newOk v y = false → t = nilS) (h' : newOk v y = true → ∀ g, g < 4 → (t' g).n = (v g).n) (h0' : newOk v y = false → t' = nilS) : sameLv t t' (newZ y) (newZ y) 4 = true := by
  cases e : newOk v y
  · rw [h0 e, h0' e]; exact sameLv_nil _ _
  · exact sameLv_mk fun g hg => ⟨(h e g hg).trans (h' e g hg).symm, fun _ _ => rfl⟩
/-- Two that Put hands back are the same. -/
theorem put_same {s x t t' : Nat → Sl} {z z1 z2 : Nat → Nat → Int} {l i v n k : Int} (hx : ∀ g, g < 4 → (x g).n = (s g).n)
    (h : putOk x z l i v n k = true → (∀ g, g < 4 → (t g).n = (x g).n) ∧ z1 = putZ z l.toNat i.toNat v n k) (h0 : putOk x z l i v n k = false → t = nilS)
    (h' : putOk s z l i v n k = true → (∀ g, g < 4 → (t' g).n = (s g).n) ∧ z2 = putZ z l.toNat i.toNat v n k) (h0' : putOk s z l i v n k = false → t' = nilS) : sameLv t t' z1 z2 4 = true ∧ putE x z l i v n k = putE s z l i v n k := by
  have e0 := putOk_congr (z := z) hx l i v n k
  unfold putE
  rw [e0] at h h0 ⊢
  refine ⟨?_, rfl⟩
  cases e : putOk s z l i v n k
  · rw [h0 e, h0' e]; exact sameLv_nil _ _
  · obtain ⟨a1, a2⟩ := h e
    obtain ⟨a3, a4⟩ := h' e
    exact sameLv_mk fun g hg => ⟨by rw [a1 g hg, a3 g hg, hx g hg], fun _ _ => by rw [a2, a4]⟩

end Go.Proofs.Ytmjclmjnkmhciaa
