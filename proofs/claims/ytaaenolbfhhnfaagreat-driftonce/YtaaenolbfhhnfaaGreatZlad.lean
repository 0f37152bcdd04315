/-
  Several small texts in one: MachOwn, MachTurn, RowKin, RowKin4, ReadsMem, WritesMem, RegsPure, RegsRef, Apart, Turnwise, Lists, MachList, Fork, AskProg, RegsStat, RegsProg.
-/
import Derived.Test.YtaaenolbfhhnfaaGreatZlab
import Derived.Deep.AppendLies
import Derived.Laws.AppendOwnNone
import Derived.OwnWalk
import Derived.Test.YtaaenolbfhhnfaaGreatRows
import Derived.WalkKit
import Derived.WalkSpells
import Derived.RegionTactic
import Derived.BigRegion
import Derived.Deep.Cut
import Derived.Deep.RegionHeld3
import Derived.Deep.QuietTactic
import Derived.ChangeKeysEq
namespace Go.Proofs.YtaaenolbfhhnfaaGreat
open Go.RowKit
set_option linter.unusedSimpArgs false
set_option linter.unusedVariables false
/-- A machine's lists, by number: its levels', its sessions', its trace's, each session's three. -/
def SesM.sl (q : SesM) (j : Nat) : Sl := match j with | 0 => q.p | 1 => q.r | _ => q.t
def MacM.sl (A : MacM) (j : Nat) : Sl := if j < 4 then A.w j else if j = 4 then A.s else if j = 5 then A.e else (A.q ((j - 6) / 3)).sl ((j - 6) % 3)
theorem MacM.sl_w (A : MacM) {g : Nat} (h : g < 4) : A.sl g = A.w g := by simp [MacM.sl, h]
theorem MacM.sl_s (A : MacM) : A.sl 4 = A.s := rfl
theorem MacM.sl_e (A : MacM) : A.sl 5 = A.e := rfl
theorem MacM.sl_q (A : MacM) (i : Nat) {j : Nat} (hj : j < 3) : A.sl (6 + 3 * i + j) = (A.q i).sl j := by
  unfold MacM.sl
  rw [if_neg (by omega), if_neg (by omega), if_neg (by omega), show (6 + 3 * i + j - 6) / 3 = i by omega, show (6 + 3 * i + j - 6) % 3 = j by omega]
def MacM.num (A : MacM) : Nat := 6 + 3 * A.s.n
/-- Where its cells stand, they stand in this world too. -/
theorem Row.keep {W W' : World} {a : Option Addr} {n : Nat} {f : Nat → Value} (h : Row W a n f) (hs : W.heap.size ≤ W'.heap.size) (hk : 0 < n → ∀ b o, a = some ⟨b, o, none⟩ → W'.heap[b]? = W.heap[b]?) : Row W' a n f := by
  intro i hi
  obtain ⟨b, off, e, hlt, hc⟩ := h i hi
  exact ⟨b, off, e, by omega, by rw [← hc]; exact World.cell?_of_block (w := W) (a := ⟨b, off + i, .none⟩) (hk (by omega) b off e)⟩
theorem SlIs.keep {W W' : World} {k : Nat} {s : Sl} {L : List Int} (h : SlIs W k s L) (hs : W.heap.size ≤ W'.heap.size) (hk : 0 < s.n → ∀ b o, s.a = some ⟨b, o, none⟩ → W'.heap[b]? = W.heap[b]?) : SlIs W' k s L :=
  ⟨h.1, h.2.1, h.2.2.keep hs fun h0 => hk (Nat.pos_of_mul_pos_right h0)⟩
theorem SessIs.keep {W W' : World} {q : SesM} {x : PSess} (h : SessIs W q x) (hs : W.heap.size ≤ W'.heap.size) (hk : ∀ j, j < 3 → 0 < (q.sl j).n → ∀ b o, (q.sl j).a = some ⟨b, o, none⟩ → W'.heap[b]? = W.heap[b]?) : SessIs W' q x :=
  ⟨h.1, h.2.1.keep hs (hk 0 (by decide)), h.2.2.1.keep hs (hk 1 (by decide)), h.2.2.2.keep hs (hk 2 (by decide))⟩
theorem MachIs.keep {W W' : World} {A : MacM} {M : PMach} (h : MachIs W A M) (hs : W.heap.size ≤ W'.heap.size) (hk : ∀ j, j < A.num → 0 < (A.sl j).n → ∀ b o, (A.sl j).a = some ⟨b, o, none⟩ → W'.heap[b]? = W.heap[b]?) : MachIs W' A M where
  four := h.four
  clocks := h.clocks
  words := fun g hg => (h.words g hg).keep hs fun h0 b o e => hk g (by unfold MacM.num; omega) (by rw [A.sl_w hg]; exact h0) b o (by rw [A.sl_w hg]; exact e)
  sess := ⟨h.sess.1, h.sess.2.1, h.sess.2.2.1.keep hs fun h0 => hk 4 (by unfold MacM.num; omega) (Nat.pos_of_mul_pos_right h0), fun i hi => (h.sess.2.2.2 i hi).keep hs fun j hj h0 b o e => hk (6 + 3 * i + j) (by unfold MacM.num; omega) (by rw [A.sl_q i hj]; exact h0) b o (by rw [A.sl_q i hj]; exact e)⟩
  trace := h.trace.keep hs (hk 5 (by unfold MacM.num; omega))
def SlOwn (D : Nat → Prop) (W : World) (s : Sl) : Prop := 0 < s.n → ∃ b, s.a = some ⟨b, 0, none⟩ ∧ D b ∧ ∃ l, Blk W b l
theorem SlOwn.keep {D : Nat → Prop} {W W' : World} {s : Sl} (h : SlOwn D W s) (hk : ∀ b, D b → W'.heap[b]? = W.heap[b]?) : SlOwn D W' s := fun h0 => by
  obtain ⟨b, e, h1, l, t, h3⟩ := h h0
  exact ⟨b, e, h1, l, t, by rw [hk b h1]; exact h3⟩
theorem SlOwn.mono {D D' : Nat → Prop} {W : World} {s : Sl} (h : SlOwn D W s) (hd : ∀ k, D k → D' k) : SlOwn D' W s := fun h0 => by
  obtain ⟨b, e, h3, h5⟩ := h h0
  exact ⟨b, e, hd b h3, h5⟩
theorem slOwn_none (D : Nat → Prop) (W : World) {s : Sl} (h : s.n = 0) : SlOwn D W s := fun h0 => by omega
/-- The block of an owned row stands as it was: so does the row. -/
theorem ownsRow_keep {W W' : World} {base : Nat} {e : TypeId} {k n : Nat} {v : Value} {xs : List Value} (h : W.ownsRow base e k v n xs) (hk : ∀ g, v.ownBlock = some g → W'.heap[g]? = W.heap[g]?) : W'.ownsRow base e k v n xs := by
  obtain ⟨hl, h2⟩ := h
  refine ⟨hl, ?_⟩
  rcases h2 with h2 | ⟨g, cap, cur, rfl, hg, hh, rest⟩
  · exact .inl h2
  · exact .inr ⟨g, cap, cur, rfl, hg, by rw [hk g rfl]; exact hh, rest⟩
/-- In memory of its own. -/
structure MachOwn (D : Nat → Prop) (W : World) (A : MacM) (M : PMach) : Prop where
  is : MachIs W A M
  own : ∀ j, j < A.num → SlOwn D W (A.sl j)
  apart : ∀ i j, i < j → j < A.num → 0 < (A.sl i).n → 0 < (A.sl j).n → (A.sl i).a ≠ (A.sl j).a
  trace : ∃ v, v = A.e.v ∧ W.ownsRow 0 70 4 v A.e.n (rowL (intF (lz M.trace)) (A.e.n * 4)) ∧ ∀ g, v.ownBlock = some g → D g ∧ ∀ j, j < A.num → j ≠ 5 → 0 < (A.sl j).n → (A.sl j).a ≠ some ⟨g, 0, none⟩
section
variable {D : Nat → Prop} {W W' : World} {A : MacM} {M : PMach}
theorem MachOwn.keep (h : MachOwn D W A M) (hs : W.heap.size ≤ W'.heap.size) (hk : ∀ b, D b → W'.heap[b]? = W.heap[b]?) : MachOwn D W' A M where
  is := h.is.keep hs fun j hj h0 b o e => by
    obtain ⟨b', e', h1, _⟩ := h.own j hj h0
    rw [e'] at e
    cases e
    exact hk _ h1
  own := fun j hj => (h.own j hj).keep hk
  apart := h.apart
  trace := by
    obtain ⟨v, hv, ho, hb⟩ := h.trace
    exact ⟨v, hv, ownsRow_keep ho fun g hg => hk g (hb g hg).1, hb⟩
theorem MachOwn.mono {D' : Nat → Prop} (h : MachOwn D W A M) (h2 : ∀ k, D k → D' k) : MachOwn D' W A M where
  is := h.is
  own := fun j hj => (h.own j hj).mono h2
  apart := h.apart
  trace := by
    obtain ⟨v, hv, ho, hb⟩ := h.trace
    exact ⟨v, hv, ho, fun g hg => ⟨h2 g (hb g hg).1, (hb g hg).2⟩⟩
end
def machI (D : Nat → Prop) (A : MacM) (M : PMach) : Itm := ⟨D, fun W => MachOwn D W A M⟩
theorem machI_loc (D : Nat → Prop) (A : MacM) (M : PMach) : (machI D A M).Loc := fun W W' h hs hk => (h : MachOwn D W A M).keep hs hk
theorem noMac_n (j : Nat) : (noMac.sl j).n = 0 := by
  unfold MacM.sl noMac SesM.sl
  split
  · rfl
  · split
    · rfl
    · split
      · rfl
      · split <;> rfl
theorem machOwn_none (D : Nat → Prop) (W : World) : MachOwn D W noMac noMach where
  is := machIs_none W
  own := fun j hj h0 => by have := noMac_n j; omega
  apart := fun i j _ hj h0 _ => by have := noMac_n i; omega
  trace := ⟨.slice none 0 0, rfl, World.ownsRow_nil _ _ _ _, fun g hg => by simp [Value.ownBlock] at hg⟩
/-- A session's numbers' places in its cells. -/
def posN (k : Nat) : Nat := if k < 3 then k else if k < 9 then k + 1 else k + 3
def PSess.setN (x : PSess) (k : Nat) (v : Int) : PSess := { x with num := x.num.set k v }
def PMach.setS (M : PMach) (i : Nat) (x : PSess) : PMach := { M with sess := M.sess.set i x }
def PMach.setLv (M : PMach) (g : Nat) (L : List Int) : PMach := { M with words := M.words.set g L }
def updM (q : Nat → SesM) (i : Nat) (x : SesM) (k : Nat) : SesM := if k = i then x else q k
def MacM.setQ (A : MacM) (i : Nat) (x : SesM) : MacM := { A with q := updM A.q i x }
theorem updM_self (q : Nat → SesM) (i : Nat) : updM q i (q i) = q := by funext k; unfold updM; split <;> simp_all
theorem MacM.setQ_self (A : MacM) (i : Nat) : A.setQ i (A.q i) = A := by unfold MacM.setQ; rw [updM_self]
theorem MacM.num_setQ (A : MacM) (i : Nat) (x : SesM) : (A.setQ i x).num = A.num := rfl
theorem MacM.sl_setQ (A : MacM) (i : Nat) (x : SesM) (j : Nat) : (A.setQ i x).sl j = if 6 ≤ j ∧ (j - 6) / 3 = i then x.sl ((j - 6) % 3) else A.sl j := by
  unfold MacM.sl MacM.setQ
  simp only [updM]
  by_cases h1 : j < 4
  · rw [if_pos h1, if_pos h1, if_neg (by omega)]
  · rw [if_neg h1, if_neg h1]
    by_cases h2 : j = 4
    · rw [if_pos h2, if_pos h2, if_neg (by omega)]
    · rw [if_neg h2, if_neg h2]
      by_cases h3 : j = 5
      · rw [if_pos h3, if_pos h3, if_neg (by omega)]
      · rw [if_neg h3, if_neg h3]
        by_cases h4 : (j - 6) / 3 = i
        · rw [if_pos h4, if_pos ⟨by omega, h4⟩]
        · rw [if_neg h4, if_neg (by omega)]
theorem getD_set_eq {α : Type} {l : List α} {i : Nat} (x d : α) (h : i < l.length) : (l.set i x).getD i d = x := by simp [List.getD, h]
theorem getD_set_ne' {α : Type} {l : List α} {i j : Nat} (x d : α) (h : i ≠ j) : (l.set i x).getD j d = l.getD j d := by simp [List.getD, h]
section
variable {D : Nat → Prop} {W W' : World} {A : MacM} {M : PMach}
/-- The sessions' block. -/
theorem MachOwn.sblk (h : MachOwn D W A M) {i : Nat} (hi' : i < A.s.n) : ∃ b, A.s.a = some ⟨b, 0, none⟩ ∧ D b ∧ ∃ l, Blk W b l := h.own 4 (by unfold MacM.num; omega) (by rw [A.sl_s]; omega)
/-- A session turns: the cells of its place in the sessions' block, nothing else. -/
theorem MachOwn.turn (h : MachOwn D W A M) {i b : Nat} (hi' : i < A.s.n) (hb : A.s.a = some ⟨b, 0, none⟩) (q' : SesM) (x' : PSess) (ht : Touch b (b + 1) W W') (hB : ∃ l, Blk W' b l)
    (hc : ∀ j, j < 17 → W'.cell? ⟨b, i * 17 + j, none⟩ = some ((sessOf q' x').getD j undef)) (hf : ∀ o, o < i * 17 ∨ i * 17 + 17 ≤ o → W'.cell? ⟨b, o, none⟩ = W.cell? ⟨b, o, none⟩)
    (hx : SessIs W' q' x') (ho : ∀ j, j < 3 → SlOwn D W' (q'.sl j)) (ha : ∀ j k, j < 3 → k < A.num → k ≠ 6 + 3 * i + j → 0 < (q'.sl j).n → 0 < ((A.setQ i q').sl k).n → ((A.setQ i q').sl k).a ≠ (q'.sl j).a) (ht5 : ∀ v, v = A.e.v → ∀ g, v.ownBlock = some g → ∀ j, j < 3 → 0 < (q'.sl j).n → (q'.sl j).a ≠ some ⟨g, 0, none⟩) :
    MachOwn D W' (A.setQ i q') (M.setS i x') := by
  have hX := h.is.sess.1
  have far : ∀ j, j < A.num → j ≠ 4 → 0 < (A.sl j).n → ∀ b' o, (A.sl j).a = some ⟨b', o, none⟩ → b' ≠ b := fun j hj hj4 h0 b' o e hbb => by
    subst hbb
    obtain ⟨b2, e2, _⟩ := h.own j hj h0
    rw [e2] at e
    cases e
    have h4 : 0 < (A.sl 4).n := by rw [A.sl_s]; omega
    rcases Nat.lt_or_gt_of_ne hj4 with hl | hl
    · exact h.apart j 4 hl (by unfold MacM.num; omega) h0 h4 (by rw [e2, A.sl_s, hb])
    · exact h.apart 4 j hl hj h4 h0 (by rw [e2, A.sl_s, hb])
  have keepB : ∀ b', b' ≠ b → b' < W.heap.size → W'.heap[b']? = W.heap[b']? := fun b' hb' hlt => ht.block b' (by omega) hlt
  have lt_of : ∀ j, j < A.num → 0 < (A.sl j).n → ∀ b' o, (A.sl j).a = some ⟨b', o, none⟩ → b' < W.heap.size := fun j hj h0 b' o e => by
    obtain ⟨b2, e2, _, l, hl⟩ := h.own j hj h0
    rw [e2] at e
    cases e
    exact hl.lt
  have kp : ∀ j, j < A.num → j ≠ 4 → 0 < (A.sl j).n → ∀ b' o, (A.sl j).a = some ⟨b', o, none⟩ → W'.heap[b']? = W.heap[b']? := fun j hj hj4 h0 b' o e => keepB b' (far j hj hj4 h0 b' o e) (lt_of j hj h0 b' o e)
  have nn : A.num = 6 + 3 * A.s.n := rfl
  refine ⟨⟨h.is.four, h.is.clocks, fun g hg => ?_, ⟨?_, h.is.sess.2.1, ?_, ?_⟩, ?_⟩, ?_, ?_, ?_⟩
  · have := (h.is.words g hg).keep ht.size fun h0 b' o e => kp g (by omega) (by omega) (by rw [A.sl_w hg]; exact h0) b' o (by rw [A.sl_w hg]; exact e)
    exact this
  · show (M.sess.set i x').length = A.s.n
    rw [List.length_set]; exact hX
  · show Row W' A.s.a (A.s.n * 17) (sessCell (updM A.q i q') (M.sess.set i x'))
    intro c hcl
    obtain ⟨b2, off, e2, hlt, hcc⟩ := h.is.sess.2.2.1 c hcl
    rw [hb] at e2
    cases e2
    refine ⟨b, 0, hb, Nat.lt_of_lt_of_le hlt ht.size, ?_⟩
    rw [Nat.zero_add] at hcc ⊢
    unfold sessCell updM
    by_cases hci : c / 17 = i
    · rw [if_pos hci, hci, getD_set_eq _ _ (by omega)]
      have := hc (c % 17) (Nat.mod_lt _ (by decide))
      rw [← this, show i * 17 + c % 17 = c by omega]
    · rw [if_neg hci, getD_set_ne' _ _ (Ne.symm hci), hf c (by omega)]
      exact hcc
  · intro k hk
    show SessIs W' (updM A.q i q' k) ((M.sess.set i x').getD k noSess)
    unfold updM
    by_cases hki : k = i
    · subst hki; rw [if_pos rfl, getD_set_eq _ _ (by omega)]; exact hx
    · rw [if_neg hki, getD_set_ne' _ _ (Ne.symm hki)]
      exact (h.is.sess.2.2.2 k hk).keep ht.size fun j hj h0 b' o e => by
        have hk' : k < A.s.n := hk
        exact kp (6 + 3 * k + j) (by omega) (by omega) (by rw [A.sl_q k hj]; exact h0) b' o (by rw [A.sl_q k hj]; exact e)
  · have := h.is.trace.keep ht.size fun h0 b' o e => kp 5 (by omega) (by omega) (by rw [A.sl_e]; exact h0) b' o (by rw [A.sl_e]; exact e)
    exact this
  · intro j hj
    rw [A.num_setQ] at hj
    rw [A.sl_setQ]
    split
    · exact ho _ (Nat.mod_lt _ (by decide))
    · intro h0
      obtain ⟨b2, e2, h1, l, hl⟩ := h.own j hj h0
      by_cases hbb : b2 = b
      · subst hbb; exact ⟨b2, e2, h1, hB⟩
      · exact ⟨b2, e2, h1, l, hl.touch ht (by omega)⟩
  · intro k j hkj hj hk0 hj0
    rw [A.num_setQ] at hj
    by_cases cj : 6 ≤ j ∧ (j - 6) / 3 = i
    · have e : (A.setQ i q').sl j = q'.sl ((j - 6) % 3) := by rw [A.sl_setQ, if_pos cj]
      rw [e] at hj0 ⊢
      exact ha _ k (Nat.mod_lt _ (by decide)) (by omega) (by omega) hj0 hk0
    · by_cases ck : 6 ≤ k ∧ (k - 6) / 3 = i
      · have e : (A.setQ i q').sl k = q'.sl ((k - 6) % 3) := by rw [A.sl_setQ, if_pos ck]
        rw [e] at hk0 ⊢
        exact (ha _ j (Nat.mod_lt _ (by decide)) hj (by omega) hk0 hj0).symm
      · have e1 : (A.setQ i q').sl j = A.sl j := by rw [A.sl_setQ, if_neg cj]
        have e2 : (A.setQ i q').sl k = A.sl k := by rw [A.sl_setQ, if_neg ck]
        rw [e1] at hj0 ⊢
        rw [e2] at hk0 ⊢
        exact h.apart k j hkj hj hk0 hj0
  · obtain ⟨v, hv, hown, hb5⟩ := h.trace
    have nb : ∀ g, v.ownBlock = some g → g ≠ b := fun g hg hgb => (hb5 g hg).2 4 (by omega) (by decide) (by rw [A.sl_s]; omega) (by rw [A.sl_s, hb, hgb])
    refine ⟨v, hv, ownsRow_keep hown fun g hg => keepB g (nb g hg) (hown.lt g hg).2, fun g hg => ⟨(hb5 g hg).1, fun j hj hj5 h0 => ?_⟩⟩
    by_cases cj : 6 ≤ j ∧ (j - 6) / 3 = i
    · have e1 : (A.setQ i q').sl j = q'.sl ((j - 6) % 3) := by rw [A.sl_setQ, if_pos cj]
      rw [e1] at h0 ⊢
      exact ht5 v hv g hg _ (Nat.mod_lt _ (by decide)) h0
    · have e1 : (A.setQ i q').sl j = A.sl j := by rw [A.sl_setQ, if_neg cj]
      rw [e1] at h0 ⊢
      exact (hb5 g hg).2 j hj hj5 h0
/-- Two of its lists lie apart. -/
theorem MachOwn.ne (h : MachOwn D W A M) {j k : Nat} (hjk : j ≠ k) (hj : j < A.num) (hk : k < A.num) (h0 : 0 < (A.sl j).n) (h1 : 0 < (A.sl k).n) : (A.sl j).a ≠ (A.sl k).a := by
  rcases Nat.lt_or_gt_of_ne hjk with hl | hl
  · exact h.apart j k hl hk h0 h1
  · exact (h.apart k j hl hj h1 h0).symm
theorem lz_set {l : List Int} {k m : Nat} {v : Int} (hk : k < l.length) : lz (l.set k v) m = if m = k then v else lz l m := by
  unfold lz
  by_cases h : m = k
  · subst h; rw [if_pos rfl, getD_set_eq _ _ hk]
  · rw [if_neg h, getD_set_ne' _ _ (Ne.symm h)]
theorem sessOf_setN {q : SesM} {x : PSess} (hx : x.num.length = 14) {k : Nat} (hk : k < 14) (v : Int) : sessOf q (x.setN k v) = (sessOf q x).set (posN k) (.int .i64 v) := by
  unfold sessOf PSess.setN sessL
  have : k = 0 ∨ k = 1 ∨ k = 2 ∨ k = 3 ∨ k = 4 ∨ k = 5 ∨ k = 6 ∨ k = 7 ∨ k = 8 ∨ k = 9 ∨ k = 10 ∨ k = 11 ∨ k = 12 ∨ k = 13 := by omega
  rcases this with rfl | rfl | rfl | rfl | rfl | rfl | rfl | rfl | rfl | rfl | rfl | rfl | rfl | rfl <;> simp [lz_set, hx, posN]
theorem sessOf_len (q : SesM) (x : PSess) : (sessOf q x).length = 17 := rfl
theorem getD_set (l : List Value) (o j : Nat) (v : Value) (h : o < l.length) : (l.set o v).getD j undef = if j = o then v else l.getD j undef := by
  by_cases e : j = o
  · subst e; rw [if_pos rfl, getD_set_eq _ _ h]
  · rw [if_neg e, getD_set_ne' _ _ (Ne.symm e)]
/-- A session's lists lie apart from all others. -/
theorem MachOwn.sesApart (h : MachOwn D W A M) {i : Nat} (hi' : i < A.s.n) : ∀ j k, j < 3 → k < A.num → k ≠ 6 + 3 * i + j → 0 < ((A.q i).sl j).n → 0 < ((A.setQ i (A.q i)).sl k).n → ((A.setQ i (A.q i)).sl k).a ≠ ((A.q i).sl j).a := fun j k hj hk hkj h0 h1 => by
  rw [A.setQ_self] at h1 ⊢
  have hn : 6 + 3 * i + j < A.num := by unfold MacM.num; omega
  have := h.ne hkj hk hn h1 (by rw [A.sl_q i hj]; exact h0)
  rw [A.sl_q i hj] at this
  exact this
theorem MachOwn.ses5 (h : MachOwn D W A M) {i : Nat} (hi' : i < A.s.n) : ∀ v, v = A.e.v → ∀ g, v.ownBlock = some g → ∀ j, j < 3 → 0 < ((A.q i).sl j).n → ((A.q i).sl j).a ≠ some ⟨g, 0, none⟩ := fun v hv g hg j hj h0 => by
  obtain ⟨v', hv', _, hb5⟩ := h.trace
  subst hv; subst hv'
  have := (hb5 g hg).2 (6 + 3 * i + j) (by unfold MacM.num; omega) (by omega) (by rw [A.sl_q i hj]; exact h0)
  rw [A.sl_q i hj] at this
  exact this
/-- One cell of a session is written over. -/
theorem MachOwn.cellTurn (h : MachOwn D W A M) {i b o : Nat} (hi' : i < A.s.n) (hb : A.s.a = some ⟨b, 0, none⟩) (ho : o < 17) (v : Value) :
    Touch b (b + 1) W (W.setCell ⟨b, i * 17 + o, none⟩ v) ∧ (∃ l, Blk (W.setCell ⟨b, i * 17 + o, none⟩ v) b l) ∧ (∀ j, j < 17 → (W.setCell ⟨b, i * 17 + o, none⟩ v).cell? ⟨b, i * 17 + j, none⟩ = some (((sessOf (A.q i) (M.at i)).set o v).getD j undef)) ∧ (∀ p, p < i * 17 ∨ i * 17 + 17 ≤ p → (W.setCell ⟨b, i * 17 + o, none⟩ v).cell? ⟨b, p, none⟩ = W.cell? ⟨b, p, none⟩) := by
  obtain ⟨b2, e2, _, l, hl⟩ := h.sblk hi'
  rw [hb] at e2; cases e2
  have c0 : ∀ j, j < 17 → W.cell? ⟨b, i * 17 + j, none⟩ = some ((sessOf (A.q i) (M.at i)).getD j undef) := fun j hj => by
    obtain ⟨b3, off, e3, _, hc⟩ := h.is.sess.cell hi' hj
    rw [hb] at e3; cases e3
    rw [Nat.zero_add] at hc
    exact hc
  refine ⟨(Touch.refl b (b + 1) W).setCell (a := ⟨b, i * 17 + o, none⟩) (Nat.le_refl b) (Nat.lt_succ_self b) v, ⟨_, hl.set (i * 17 + o) v⟩, fun j hj => ?_, fun p hp => ?_⟩
  · rw [getD_set _ _ _ _ (by rw [sessOf_len]; exact ho)]
    by_cases e : j = o
    · subst e; rw [if_pos rfl]; exact World.cell?_setCell_same _ _ _ (c0 j hj)
    · rw [if_neg e, World.cell?_setCell_other _ _ _ _ (fun he => by simp only [Addr.mk.injEq] at he; omega)]; exact c0 j hj
  · exact World.cell?_setCell_other _ _ _ _ (fun he => by simp only [Addr.mk.injEq] at he; omega)
/-- A number of a session is written. -/
theorem MachOwn.turnN (h : MachOwn D W A M) {i b k : Nat} (hi' : i < A.s.n) (hb : A.s.a = some ⟨b, 0, none⟩) (hk : k < 14) (v : Int) :
    MachOwn D (W.setCell ⟨b, i * 17 + posN k, none⟩ (.int .i64 v)) A (M.setS i ((M.at i).setN k v)) := by
  have hp : posN k < 17 := by unfold posN; split <;> (try split) <;> omega
  obtain ⟨t1, t2, t3, t4⟩ := h.cellTurn hi' hb hp (.int .i64 v)
  have hs : SessIs W (A.q i) (M.at i) := h.is.sess.2.2.2 i hi'
  have := h.turn hi' hb (A.q i) ((M.at i).setN k v) t1 t2 (fun j hj => by rw [sessOf_setN hs.1 hk]; exact t3 j hj) t4 ?_ ?_ (h.sesApart hi') (h.ses5 hi')
  · rw [A.setQ_self] at this; exact this
  · have hx : SessIs (W.setCell ⟨b, i * 17 + posN k, none⟩ (.int .i64 v)) (A.q i) (M.at i) := hs.keep t1.size fun j hj h0 b' o e => by
      have hn : 6 + 3 * i + j < A.num := by unfold MacM.num; omega
      have hne := h.ne (j := 6 + 3 * i + j) (k := 4) (by omega) hn (by unfold MacM.num; omega) (by rw [A.sl_q i hj]; exact h0) (by rw [A.sl_s]; omega)
      rw [A.sl_q i hj, A.sl_s, hb, e] at hne
      obtain ⟨b2, e2, _, l, hl⟩ := h.own _ hn (by rw [A.sl_q i hj]; exact h0)
      rw [A.sl_q i hj, e] at e2
      cases e2
      exact t1.block b' (by simp at hne; omega) hl.lt
    exact ⟨by unfold PSess.setN; rw [List.length_set]; exact hx.1, hx.2⟩
  · intro j hj h0
    have hn : 6 + 3 * i + j < A.num := by unfold MacM.num; omega
    obtain ⟨b2, e2, h1, l, hl⟩ := h.own _ hn (by rw [A.sl_q i hj]; exact h0)
    rw [A.sl_q i hj] at e2
    by_cases hbb : b2 = b
    · subst hbb; exact ⟨b2, e2, h1, t2⟩
    · exact ⟨b2, e2, h1, l, hl.touch t1 (by omega)⟩
theorem lz_left {l m : List Int} {i : Nat} (h : i < l.length) : lz (l ++ m) i = lz l i := by simp [lz, List.getD, List.getElem?_append_left h]
theorem lz_right {l m : List Int} {i : Nat} (h : l.length ≤ i) : lz (l ++ m) i = lz m (i - l.length) := by simp [lz, List.getD, List.getElem?_append_right h]
/-- The trace grows. -/
def MacM.setE (A : MacM) (e : Sl) : MacM := { A with e := e }
theorem MacM.num_setE (A : MacM) (e : Sl) : (A.setE e).num = A.num := rfl
theorem MacM.sl_setE (A : MacM) (e : Sl) (j : Nat) : (A.setE e).sl j = if j = 5 then e else A.sl j := by
  unfold MacM.sl MacM.setE
  by_cases h1 : j < 4
  · rw [if_pos h1, if_pos h1, if_neg (by omega)]
  · rw [if_neg h1, if_neg h1]
    by_cases h2 : j = 4
    · rw [if_pos h2, if_pos h2, if_neg (by omega)]
    · rw [if_neg h2, if_neg h2]
      by_cases h3 : j = 5
      · rw [if_pos h3, if_pos h3]
      · rw [if_neg h3, if_neg h3, if_neg h3]
theorem MachOwn.traced (h : MachOwn D W A M) {v : Value} (hv : v = A.e.v) (hg : W.grownBy W' v.ownBlock) {g cap : Nat} {x : List Int} (hx : x.length = 4) (hn : A.e.n < 512)
    (ho : W'.ownsRow 0 70 4 (.slice (some ⟨g, 0, none⟩) (A.e.n + 1) cap) (A.e.n + 1) (rowL (intF (lz M.trace)) (A.e.n * 4) ++ x.map (Value.int .i64))) (hat : v.ownBlock = some g ∨ W.heap.size ≤ g) :
    MachOwn (fun k => D k ∨ k = g) W' (A.setE ⟨some ⟨g, 0, none⟩, A.e.n + 1, cap⟩) { M with trace := M.trace ++ x } := by
  obtain ⟨v', hv', ho5, hb5⟩ := h.trace
  subst hv; subst hv'
  have nn : A.num = 6 + 3 * A.s.n := rfl
  have hlen := h.is.trace.1
  have blt : ∀ j, j < A.num → 0 < (A.sl j).n → ∀ b o, (A.sl j).a = some ⟨b, o, none⟩ → b < W.heap.size := fun j hj h0 b o e => by
    obtain ⟨b2, e2, _, l, hl⟩ := h.own j hj h0
    rw [e2] at e; cases e; exact hl.lt
  have kp : ∀ j, j < A.num → j ≠ 5 → 0 < (A.sl j).n → ∀ b o, (A.sl j).a = some ⟨b, o, none⟩ → W'.heap[b]? = W.heap[b]? := fun j hj hj5 h0 b o e => by
    refine hg.block b (blt j hj h0 b o e) fun hr => ?_
    obtain ⟨b2, e2, _⟩ := h.own j hj h0
    rw [e2] at e; cases e
    exact (hb5 _ hr.symm).2 j hj hj5 h0 e2
  have gne : ∀ j, j < A.num → j ≠ 5 → 0 < (A.sl j).n → (A.sl j).a ≠ some ⟨g, 0, none⟩ := fun j hj hj5 h0 e => by
    rcases hat with hat | hat
    · exact (hb5 g hat).2 j hj hj5 h0 e
    · have := blt j hj h0 g 0 e; omega
  have hL : rowL (intF (lz M.trace)) (A.e.n * 4) ++ x.map (Value.int .i64) = rowL (intF (lz (M.trace ++ x))) ((A.e.n + 1) * 4) := by
    apply List.ext_getElem?
    intro i
    by_cases h1 : i < A.e.n * 4
    · rw [List.getElem?_append_left (by rw [rowL_len]; exact h1), rowL_get h1, rowL_get (by omega)]
      unfold intF
      rw [lz_left (by rw [hlen]; exact h1)]
    · rw [List.getElem?_append_right (by rw [rowL_len]; omega), rowL_len]
      by_cases h2 : i < (A.e.n + 1) * 4
      · rw [rowL_get h2]
        unfold intF
        rw [lz_right (by rw [hlen]; omega), hlen]
        have : i - A.e.n * 4 < x.length := by omega
        simp [lz, List.getD, this]
      · rw [rowL_none (by omega)]
        simp; omega
  rw [hL] at ho
  have own' : Own W' g ((A.e.n + 1) * 4) (intF (lz (M.trace ++ x))) := by
    rcases own_of_owns ho with ⟨e, _⟩ | ⟨g2, c2, e, _, _, _, o⟩
    · cases e
    · cases e; exact o
  have hcap : A.e.n + 1 ≤ cap := by
    rcases ho.2 with ⟨e, _⟩ | ⟨g2, c2, cur, e, _, _, hn2, _⟩
    · cases e
    · cases e; exact hn2
  refine ⟨⟨h.is.four, h.is.clocks, fun k hk => ?_, ⟨h.is.sess.1, h.is.sess.2.1, ?_, fun i hi => ?_⟩, ⟨?_, ⟨?_, hcap, fun e => by cases e⟩, own'.row⟩⟩, fun j hj => ?_, fun i j hij hj h0 h1 => ?_, ⟨.slice (some ⟨g, 0, none⟩) (A.e.n + 1) cap, rfl, ho, fun g' hg' => ?_⟩⟩
  · exact (h.is.words k hk).keep hg.size fun h0 b o e => kp k (by omega) (by omega) (by rw [A.sl_w hk]; exact h0) b o (by rw [A.sl_w hk]; exact e)
  · exact h.is.sess.2.2.1.keep hg.size fun h0 b o e => kp 4 (by omega) (by omega) (by rw [A.sl_s]; exact Nat.pos_of_mul_pos_right h0) b o (by rw [A.sl_s]; exact e)
  · have hi' : i < A.s.n := hi
    exact (h.is.sess.2.2.2 i hi).keep hg.size fun j hj h0 b o e => kp (6 + 3 * i + j) (by omega) (by omega) (by rw [A.sl_q i hj]; exact h0) b o (by rw [A.sl_q i hj]; exact e)
  · show (M.trace ++ x).length = (A.e.n + 1) * 4
    rw [List.length_append, hlen, hx]; omega
  · show (A.e.n + 1) * _ ≤ _
    omega
  · rw [A.num_setE] at hj
    rw [A.sl_setE]
    split
    · exact fun _ => by
        obtain ⟨l, hl, _⟩ := own'
        exact ⟨g, rfl, .inr rfl, l, hl⟩
    · rename_i hj5
      intro h0
      obtain ⟨b2, e2, h1, l, t, hl⟩ := h.own j hj h0
      exact ⟨b2, e2, .inl h1, l, t, by rw [kp j hj hj5 h0 b2 0 e2]; exact hl⟩
  · rw [A.num_setE] at hj
    by_cases i5 : i = 5
    · have e1 : (A.setE ⟨some ⟨g, 0, none⟩, A.e.n + 1, cap⟩).sl i = ⟨some ⟨g, 0, none⟩, A.e.n + 1, cap⟩ := by rw [A.sl_setE, if_pos i5]
      have e2 : (A.setE ⟨some ⟨g, 0, none⟩, A.e.n + 1, cap⟩).sl j = A.sl j := by rw [A.sl_setE, if_neg (by omega)]
      rw [e1]; rw [e2] at h1 ⊢
      exact (gne j hj (by omega) h1).symm
    · have e1 : (A.setE ⟨some ⟨g, 0, none⟩, A.e.n + 1, cap⟩).sl i = A.sl i := by rw [A.sl_setE, if_neg i5]
      rw [e1] at h0 ⊢
      by_cases j5 : j = 5
      · have e2 : (A.setE ⟨some ⟨g, 0, none⟩, A.e.n + 1, cap⟩).sl j = ⟨some ⟨g, 0, none⟩, A.e.n + 1, cap⟩ := by rw [A.sl_setE, if_pos j5]
        rw [e2]
        exact gne i (by omega) i5 h0
      · have e2 : (A.setE ⟨some ⟨g, 0, none⟩, A.e.n + 1, cap⟩).sl j = A.sl j := by rw [A.sl_setE, if_neg j5]
        rw [e2] at h1 ⊢
        exact h.apart i j hij hj h0 h1
  · obtain rfl : g = g' := by simpa [Value.ownBlock] using hg'
    refine ⟨.inr rfl, fun j hj hj5 h0 => ?_⟩
    have e2 : (A.setE ⟨some ⟨g, 0, none⟩, A.e.n + 1, cap⟩).sl j = A.sl j := by rw [A.sl_setE, if_neg hj5]
    rw [e2] at h0 ⊢
    exact gne j hj hj5 h0
theorem MachIs.scell (h : MachIs W A M) {i b : Nat} (hi' : i < A.s.n) (j : Nat) (hj : j < 17) {v : Value} (hv : (sessOf (A.q i) (M.at i))[j]? = some v) (hb : A.s.a = some ⟨b, 0, none⟩) : W.cell? ⟨b, i * 17 + j, none⟩ = some v := by
  obtain ⟨b2, off, e2, _, hc⟩ := h.sess.cell hi' hj
  rw [hb] at e2; cases e2
  rw [Nat.zero_add] at hc
  rw [hc]
  show some ((sessOf (A.q i) (M.at i)).getD j undef) = _
  rw [List.getD_eq_getElem?_getD, hv]
  rfl
end
/-- An event is appended to a machine's own trace. -/
theorem stw_event {w0 w : World} {L : List Itm} {P : Program} {op : Oper} {a : Act} {K : Act → World → Prop} {Q : Exit → Act → World → Prop} (HS : Hid (St w0 w L)) (j i : Nat) {D : Nat → Prop} {A : MacM} {M : PMach} {be : Nat} {x : List Int} (ej : L[j]? = some (blkI be (x.map (Value.int .i64)))) (hx4 : x.length = 4) (ei : L[i]? = some (machI D A M)) (hn : A.e.n < 512)
    (s y : Operand) (t : TypeId) (ho : op.op = .call { callee := .builtin .append, args := #[s, y], argTypes := #[t, t] }) (ie : TypeInfo) (z : Value) (ht : P.underlying t = some (.slice 70)) (hi : P.info? 70 = some ie) (hz : ie.zero = some z) (hsize : ie.size = 4) (hby : ie.bytes = 32) (hzs : z.cells.size = 4)
    (hs : a.eval s = .slice A.e.a A.e.n A.e.c) (hy : a.eval y = .slice (some ⟨be, 0, none⟩) 1 1)
    (h : ∀ W D' g cap, Hid (St w0 W (L.set i (machI D' (A.setE ⟨some ⟨g, 0, none⟩, A.e.n + 1, cap⟩) { M with trace := M.trace ++ x }))) → K (a.put op.dst (.slice (some ⟨g, 0, none⟩) (A.e.n + 1) cap)) W) : op.wp P a w K Q := by
  have hM : MachOwn D w A M := HS.out.get i ei
  obtain ⟨_, rfl, ho5, hb5⟩ := hM.trace
  have B := HS.out.blk j ej
  refine wp_append_lies w s y t ho 0 70 ie z 4 32 ht hi hz hsize hby hzs (by decide) A.e.v A.e.n _ hs ho5 ⟨be, 0, none⟩ 1 1 (x.map (Value.int .i64)) hy (by simp [hx4]) (fun k u hk => ?_) (fun u hu => ?_) (by decide) (by unfold maxLen; omega) (by omega) (Nat.zero_le _) w.heap.size rfl fun g cap W' hown hgrow hat hlt => ?_
  · have hadd : (⟨be, 0, none⟩ : Addr).add k = ⟨be, k, none⟩ := by unfold Addr.add; split <;> simp_all
    rw [hadd]
    exact B.cell k u hk
  · obtain ⟨q, _, rfl⟩ := List.mem_map.1 hu
    rfl
  · refine h W' (fun k => D k ∨ k = g) g cap (HS.out.set i ei (machI (fun k => D k ∨ k = g) (A.setE ⟨some ⟨g, 0, none⟩, A.e.n + 1, cap⟩) { M with trace := M.trace ++ x }) (chg_grown hgrow fun g' hg' => (hb5 g' hg').1) (machI_loc _ _ _) (hM.traced rfl hgrow hx4 hn hown (hat.imp id fun e => by omega)) fun k hk => ?_)
    rcases hk with hk | rfl
    · exact .inl hk
    · rcases hat with hat | hat
      · exact .inl (hb5 k hat).1
      · exact .inr ⟨by omega, hlt⟩
section
variable {D : Nat → Prop} {W W' : World} {A : MacM} {M : PMach}
end
end Go.Proofs.YtaaenolbfhhnfaaGreat
namespace Go.Proofs.YtaaenolbfhhnfaaGreat
open Go.RowKit
set_option linter.unusedSimpArgs false
set_option linter.unusedVariables false
/-- A session with another list. -/
def PSess.setL (x : PSess) (j : Nat) (l : List Int) : PSess := match j with | 0 => { x with prog := l } | 1 => { x with reads := l } | _ => { x with writes := l }
def SesM.setL (q : SesM) (j : Nat) (s : Sl) : SesM := match j with | 0 => { q with p := s } | 1 => { q with r := s } | _ => { q with t := s }
def posL (j : Nat) : Nat := match j with | 0 => 3 | 1 => 10 | _ => 11
def szL (j : Nat) : Nat := match j with | 0 => 4 | _ => 3
theorem SesM.sl_setL (q : SesM) {j k : Nat} (hj : j < 3) (hk : k < 3) (s : Sl) : (q.setL j s).sl k = if k = j then s else q.sl k := by
  have : j = 0 ∨ j = 1 ∨ j = 2 := by omega
  have : k = 0 ∨ k = 1 ∨ k = 2 := by omega
  rcases ‹j = 0 ∨ j = 1 ∨ j = 2› with rfl | rfl | rfl <;> rcases ‹k = 0 ∨ k = 1 ∨ k = 2› with rfl | rfl | rfl <;> rfl
theorem sessOf_setL (q : SesM) (x : PSess) {j : Nat} (hj : j < 3) (s : Sl) (l : List Int) : sessOf (q.setL j s) (x.setL j l) = (sessOf q x).set (posL j) (.slice s.a s.n s.c) := by
  have : j = 0 ∨ j = 1 ∨ j = 2 := by omega
  rcases this with rfl | rfl | rfl <;> rfl
theorem SessIs.setL {W : World} {q : SesM} {x : PSess} (h : SessIs W q x) {j : Nat} (hj : j < 3) {s : Sl} {l : List Int} (hs : SlIs W (szL j) s l) : SessIs W (q.setL j s) (x.setL j l) := by
  have : j = 0 ∨ j = 1 ∨ j = 2 := by omega
  rcases this with rfl | rfl | rfl
  · exact ⟨h.1, hs, h.2.2.1, h.2.2.2⟩
  · exact ⟨h.1, h.2.1, hs, h.2.2.2⟩
  · exact ⟨h.1, h.2.1, h.2.2.1, hs⟩
section
variable {D : Nat → Prop} {W W' : World} {A : MacM} {M : PMach}
/-- A session's lists stand as they stood where a cell of the sessions' block is written over. -/
theorem MachOwn.sesKeep (h : MachOwn D W A M) {i b : Nat} (hi' : i < A.s.n) (hb : A.s.a = some ⟨b, 0, none⟩) (ht : Touch b (b + 1) W W') : SessIs W' (A.q i) (M.at i) := by
  have hs : SessIs W (A.q i) (M.at i) := h.is.sess.2.2.2 i hi'
  refine hs.keep ht.size fun j hj h0 b' o e => ?_
  have hn : 6 + 3 * i + j < A.num := by unfold MacM.num; omega
  have hne := h.ne (j := 6 + 3 * i + j) (k := 4) (by omega) hn (by unfold MacM.num; omega) (by rw [A.sl_q i hj]; exact h0) (by rw [A.sl_s]; omega)
  rw [A.sl_q i hj, A.sl_s, hb, e] at hne
  obtain ⟨b2, e2, _, l, hl⟩ := h.own _ hn (by rw [A.sl_q i hj]; exact h0)
  rw [A.sl_q i hj, e] at e2
  cases e2
  exact ht.block b' (by simp at hne; omega) hl.lt
theorem MachOwn.sesOwnKeep (h : MachOwn D W A M) {i b : Nat} (hi' : i < A.s.n) (ht : Touch b (b + 1) W W') (t2 : ∃ l, Blk W' b l) {j : Nat} (hj : j < 3) : SlOwn D W' ((A.q i).sl j) := fun h0 => by
  have hn : 6 + 3 * i + j < A.num := by unfold MacM.num; omega
  obtain ⟨b2, e2, h1, l, hl⟩ := h.own _ hn (by rw [A.sl_q i hj]; exact h0)
  rw [A.sl_q i hj] at e2
  by_cases hbb : b2 = b
  · subst hbb; exact ⟨b2, e2, h1, t2⟩
  · exact ⟨b2, e2, h1, l, hl.touch ht (by omega)⟩
/-- A list of a session is laid by. -/
theorem MachOwn.turnNil (h : MachOwn D W A M) {i b j : Nat} (hi' : i < A.s.n) (hb : A.s.a = some ⟨b, 0, none⟩) (hj : j < 3) :
    MachOwn D (W.setCell ⟨b, i * 17 + posL j, none⟩ (.slice none 0 0)) (A.setQ i ((A.q i).setL j noSl)) (M.setS i ((M.at i).setL j [])) := by
  have hp : posL j < 17 := by unfold posL; split <;> omega
  obtain ⟨t1, t2, t3, t4⟩ := h.cellTurn hi' hb hp (.slice none 0 0)
  refine h.turn hi' hb ((A.q i).setL j noSl) ((M.at i).setL j []) t1 t2 (fun k hk => by rw [sessOf_setL _ _ hj]; exact t3 k hk) t4 ((h.sesKeep hi' hb t1).setL hj (slIs_none _ _)) (fun k hk => ?_) (fun k m hk hm hkm h0 h1 => ?_) (fun v hv g hg k hk h0 => ?_)
  · rw [SesM.sl_setL _ hj hk]
    split
    · exact slOwn_none _ _ rfl
    · exact h.sesOwnKeep hi' t1 t2 hk
  · rw [SesM.sl_setL _ hj hk] at h0 ⊢
    split at h0
    · exact absurd h0 (Nat.lt_irrefl 0)
    · rename_i hkj
      rw [if_neg hkj]
      rw [MacM.sl_setQ] at h1 ⊢
      split at h1
      · rename_i hc
        rw [if_pos hc]
        rw [SesM.sl_setL _ hj (Nat.mod_lt _ (by decide))] at h1 ⊢
        split at h1
        · exact absurd h1 (Nat.lt_irrefl 0)
        · rename_i hkj2
          rw [if_neg hkj2]
          have := h.ne (j := m) (k := 6 + 3 * i + k) (by omega) hm (by unfold MacM.num; omega) (by unfold MacM.sl; rw [if_neg (by omega), if_neg (by omega), if_neg (by omega), hc.2]; exact h1) (by rw [A.sl_q i hk]; exact h0)
          rw [A.sl_q i hk] at this
          unfold MacM.sl at this
          rw [if_neg (by omega), if_neg (by omega), if_neg (by omega), hc.2] at this
          exact this
      · rename_i hc
        rw [if_neg hc]
        have := h.ne (j := m) (k := 6 + 3 * i + k) (by omega) hm (by unfold MacM.num; omega) h1 (by rw [A.sl_q i hk]; exact h0)
        rw [A.sl_q i hk] at this
        exact this
  · rw [SesM.sl_setL _ hj hk] at h0 ⊢
    split at h0
    · exact absurd h0 (Nat.lt_irrefl 0)
    · rename_i hkj
      rw [if_neg hkj]
      exact h.ses5 hi' v hv g hg k hk h0
/-- A number of a word is written. -/
theorem MachOwn.turnW (h : MachOwn D W A M) {g b c : Nat} (hg : g < 4) (hc : c < (A.w g).n * 3) (hb : (A.w g).a = some ⟨b, 0, none⟩) (v : Int) :
    MachOwn D (W.setCell ⟨b, c, none⟩ (.int .i64 v)) A (M.setLv g ((M.lv g).set c v)) := by
  have nn : A.num = 6 + 3 * A.s.n := rfl
  have h0g : 0 < (A.sl g).n := by rw [A.sl_w hg]; exact Nat.pos_of_mul_pos_right (by omega : 0 < (A.w g).n * 3)
  have hbg : (A.sl g).a = some ⟨b, 0, none⟩ := by rw [A.sl_w hg]; exact hb
  have ht : Touch b (b + 1) W (W.setCell ⟨b, c, none⟩ (.int .i64 v)) := (Touch.refl b (b + 1) W).setCell (a := ⟨b, c, none⟩) (Nat.le_refl b) (Nat.lt_succ_self b) _
  obtain ⟨b2, e2, hDb, lb, hlb⟩ := h.own g (by omega) h0g
  rw [hbg] at e2; cases e2
  have lt_of : ∀ j, j < A.num → 0 < (A.sl j).n → ∀ b' o, (A.sl j).a = some ⟨b', o, none⟩ → b' < W.heap.size := fun j hj h0 b' o e => by
    obtain ⟨b2, e2, _, l, hl⟩ := h.own j hj h0
    rw [e2] at e; cases e; exact hl.lt
  have far : ∀ j, j < A.num → j ≠ g → 0 < (A.sl j).n → ∀ b' o, (A.sl j).a = some ⟨b', o, none⟩ → b' ≠ b := fun j hj hjg h0 b' o e hbb => by
    subst hbb
    obtain ⟨b2, e2, _⟩ := h.own j hj h0
    rw [e2] at e; cases e
    exact h.ne hjg hj (by omega) h0 h0g (by rw [e2, hbg])
  have kp : ∀ j, j < A.num → j ≠ g → 0 < (A.sl j).n → ∀ b' o, (A.sl j).a = some ⟨b', o, none⟩ → (W.setCell ⟨b, c, none⟩ (.int .i64 v)).heap[b']? = W.heap[b']? := fun j hj hjg h0 b' o e => ht.block b' (by have := far j hj hjg h0 b' o e; omega) (lt_of j hj h0 b' o e)
  have hlen : (M.lv g).length = (A.w g).n * 3 := (h.is.words g hg).1
  have h4 := h.is.four
  have lvs : ∀ k, (M.setLv g ((M.lv g).set c v)).lv k = if k = g then (M.lv g).set c v else M.lv k := fun k => by
    show (M.words.set g _).getD k [] = _
    by_cases e : k = g
    · subst e; rw [if_pos rfl, getD_set_eq _ _ (by omega)]
    · rw [if_neg e, getD_set_ne' _ _ (Ne.symm e)]; rfl
  refine ⟨⟨by show (M.words.set g _).length = 4; rw [List.length_set]; exact h4, h.is.clocks, fun k hk => ?_, ⟨h.is.sess.1, h.is.sess.2.1, ?_, fun i hi => ?_⟩, ?_⟩, fun j hj => ?_, h.apart, ?_⟩
  · rw [lvs k]
    by_cases e : k = g
    · subst e
      rw [if_pos rfl]
      have hw := h.is.words k hk
      refine ⟨by rw [List.length_set]; exact hw.1, hw.2.1, fun i hi => ?_⟩
      obtain ⟨b3, off, e3, hlt, hcc⟩ := hw.2.2 i hi
      rw [hb] at e3; cases e3
      refine ⟨b, 0, hb, Nat.lt_of_lt_of_le hlt ht.size, ?_⟩
      rw [Nat.zero_add] at hcc ⊢
      show (W.setCell ⟨b, c, none⟩ (.int .i64 v)).cell? ⟨b, i, none⟩ = some (.int .i64 (lz ((M.lv k).set c v) i))
      rw [lz_set (by rw [hlen]; exact hc)]
      by_cases e : i = c
      · subst e; rw [if_pos rfl]; exact World.cell?_setCell_same _ _ _ hcc
      · rw [if_neg e, World.cell?_setCell_other _ _ _ _ (fun he => by simp only [Addr.mk.injEq] at he; omega)]; exact hcc
    · rw [if_neg e]
      exact (h.is.words k hk).keep ht.size fun h0 b' o e' => kp k (by omega) e (by rw [A.sl_w hk]; exact h0) b' o (by rw [A.sl_w hk]; exact e')
  · exact h.is.sess.2.2.1.keep ht.size fun h0 b' o e => kp 4 (by omega) (by omega) (by rw [A.sl_s]; exact Nat.pos_of_mul_pos_right h0) b' o (by rw [A.sl_s]; exact e)
  · have hi' : i < A.s.n := hi
    exact (h.is.sess.2.2.2 i hi).keep ht.size fun j hj h0 b' o e => kp (6 + 3 * i + j) (by omega) (by omega) (by rw [A.sl_q i hj]; exact h0) b' o (by rw [A.sl_q i hj]; exact e)
  · exact h.is.trace.keep ht.size fun h0 b' o e => kp 5 (by omega) (by omega) (by rw [A.sl_e]; exact h0) b' o (by rw [A.sl_e]; exact e)
  · intro h0
    obtain ⟨b2, e2, h1, l, hl⟩ := h.own j hj h0
    by_cases hbb : b2 = b
    · subst hbb; exact ⟨b2, e2, h1, _, hl.set c _⟩
    · exact ⟨b2, e2, h1, l, hl.touch ht (by omega)⟩
  · obtain ⟨v', hv', ho, hb5⟩ := h.trace
    exact ⟨v', hv', ownsRow_keep ho fun g' hg' => ht.block g' (by
      have : g' ≠ b := fun e => (hb5 g' hg').2 g (by omega) (by omega) h0g (by rw [hbg, e])
      omega) (ho.lt g' hg').2, hb5⟩
theorem MachOwn.wblk (h : MachOwn D W A M) {g : Nat} (hg : g < 4) (h0 : 0 < (A.w g).n) : ∃ b, (A.w g).a = some ⟨b, 0, none⟩ ∧ D b ∧ ∃ l, Blk W b l := by
  have := h.own g (by unfold MacM.num; omega) (by rw [A.sl_w hg]; exact h0)
  rw [A.sl_w hg] at this
  exact this
end
section
variable {w0 w : World} {L : List Itm} {P : Program} {ops : Array Oper} {rest : List Oper} {op : Oper} {a : Act} {K : Act → World → Prop} {Q : Exit → Act → World → Prop} {D : Nat → Prop} {A : MacM} {M : PMach}
/-- A cell of a session. -/
theorem stw_loadS (h : MachIs w A M) {k bs off : Nat} (hk : k < A.s.n) (hbs : A.s.a = some ⟨bs, off, none⟩) (c : Nat) (hc : c < 17) {v : Value} (hv : (sessOf (A.q k) (M.at k))[c]? = some v) (ty : TypeId) (x : Operand) (ho : op.op = .load ty x) (o : Nat) (hx : a.eval x = .pointer (some ⟨bs, o, none⟩)) (ho' : o = off + (k * 17 + c))
    (hp : (P.underlying ty).any (fun d => !d.isRow) = true) (hw : K (a.put op.dst v) w) : op.wp P a w K Q := by
  have hcell : w.cell? ⟨bs, o, none⟩ = some v := by
    obtain ⟨b2, off2, e2, _, hcc⟩ := h.sess.cell hk hc
    rw [hbs] at e2; cases e2
    rw [ho', hcc]
    show some ((sessOf (A.q k) (M.at k)).getD c undef) = _
    rw [List.getD_eq_getElem?_getD, hv]
    rfl
  unfold Oper.wp execOp
  simp only [ho, hx, Instr.loadAt, Instr.sureAddr, Sem.run_bind, Sem.run_pure, Result.andThen_ok, run_loadVar_one w _ ty v hcell hp]
  exact hw
theorem st_loadS (h : MachIs w A M) {k bs off : Nat} (hk : k < A.s.n) (hbs : A.s.a = some ⟨bs, off, none⟩) (c : Nat) (hc : c < 17) {v : Value} (hv : (sessOf (A.q k) (M.at k))[c]? = some v) (ty : TypeId) (x : Operand) (ho : op.op = .load ty x) (o : Nat) (hx : a.eval x = .pointer (some ⟨bs, o, none⟩)) (ho' : o = off + (k * 17 + c)) (hgd : Region.wanted op (yielded ops a.tmps) = true)
    (hp : (P.underlying ty).any (fun d => !d.isRow) = true) (hw : wpList P ops Q rest (a.put op.dst v) w) : wpList P ops Q (op :: rest) a w :=
  BigFrame.wpList_want hgd fun _ hK => stw_loadS h hk hbs c hc hv ty x ho o hx ho' hp (hK _ _ hw)
theorem stw_storeN (HS : Hid (St w0 w L)) (i : Nat) (ei : L[i]? = some (machI D A M)) {k bs : Nat} (hk : k < A.s.n) (hbs : A.s.a = some ⟨bs, 0, none⟩) (j : Nat) (hj : j < 14) (ty : TypeId) (x y : Operand) (ho : op.op = .store ty x y) (o : Nat) (hx : a.eval x = .pointer (some ⟨bs, o, none⟩)) (ho' : o = k * 17 + posN j)
    {v : Int} (hy : ValOf a y (.int .i64 v)) (hi : (P.info? ty).map (·.size) = some 1) (hw : ∀ W, Hid (St w0 W (L.set i (machI D A (M.setS k ((M.at k).setN j v))))) → K (a.put op.dst undef) W) : op.wp P a w K Q := by
  have hM : MachOwn D w A M := HS.out.get i ei
  have hp : posN j < 17 := by unfold posN; split <;> (try split) <;> omega
  obtain ⟨b, e, hD, l, hl⟩ := hM.sblk hk
  rw [hbs] at e; cases e
  have hc : ∃ u, w.cell? ⟨bs, k * 17 + posN j, none⟩ = some u := by
    obtain ⟨b2, off, e2, _, hcc⟩ := hM.is.sess.cell hk hp
    rw [hbs] at e2; cases e2
    rw [Nat.zero_add] at hcc
    exact ⟨_, hcc⟩
  obtain ⟨u, hu⟩ := hc
  subst ho'
  unfold Oper.wp execOp
  simp only [ho, hx, hy.eval, Instr.storeAt, Instr.sureAddr, Sem.run_bind, Sem.run_pure, Result.andThen_ok, run_storeVar_one w ⟨bs, k * 17 + posN j, none⟩ ty u (.int .i64 v) hu (hl.frozen _) rfl hi]
  exact hw _ (HS.out.set i ei _ (chg_set hD) (machI_loc _ _ _) (hM.turnN hk hbs hj v) fun k hk => .inl hk)
theorem st_storeN (HS : Hid (St w0 w L)) (i : Nat) (ei : L[i]? = some (machI D A M)) {k bs : Nat} (hk : k < A.s.n) (hbs : A.s.a = some ⟨bs, 0, none⟩) (j : Nat) (hj : j < 14) (ty : TypeId) (x y : Operand) (ho : op.op = .store ty x y) (o : Nat) (hx : a.eval x = .pointer (some ⟨bs, o, none⟩)) (ho' : o = k * 17 + posN j) (hgd : Region.wanted op (yielded ops a.tmps) = true)
    {v : Int} (hy : ValOf a y (.int .i64 v)) (hi : (P.info? ty).map (·.size) = some 1) (hw : ∀ W, Hid (St w0 W (L.set i (machI D A (M.setS k ((M.at k).setN j v))))) → wpList P ops Q rest (a.put op.dst undef) W) : wpList P ops Q (op :: rest) a w :=
  BigFrame.wpList_want hgd fun _ hK => stw_storeN HS i ei hk hbs j hj ty x y ho o hx ho' hy hi fun W h => hK _ _ (hw W h)
theorem stw_storeNil (HS : Hid (St w0 w L)) (i : Nat) (ei : L[i]? = some (machI D A M)) {k bs : Nat} (hk : k < A.s.n) (hbs : A.s.a = some ⟨bs, 0, none⟩) (j : Nat) (hj : j < 3) (ty : TypeId) (x y : Operand) (ho : op.op = .store ty x y) (o : Nat) (hx : a.eval x = .pointer (some ⟨bs, o, none⟩)) (ho' : o = k * 17 + posL j)
    (hy : ValOf a y (.slice none 0 0)) (hi : (P.info? ty).map (·.size) = some 1) (hw : ∀ W, Hid (St w0 W (L.set i (machI D (A.setQ k ((A.q k).setL j noSl)) (M.setS k ((M.at k).setL j []))))) → K (a.put op.dst undef) W) : op.wp P a w K Q := by
  have hM : MachOwn D w A M := HS.out.get i ei
  have hp : posL j < 17 := by unfold posL; split <;> omega
  obtain ⟨b, e, hD, l, hl⟩ := hM.sblk hk
  rw [hbs] at e; cases e
  have hc : ∃ u, w.cell? ⟨bs, k * 17 + posL j, none⟩ = some u := by
    obtain ⟨b2, off, e2, _, hcc⟩ := hM.is.sess.cell hk hp
    rw [hbs] at e2; cases e2
    rw [Nat.zero_add] at hcc
    exact ⟨_, hcc⟩
  obtain ⟨u, hu⟩ := hc
  subst ho'
  unfold Oper.wp execOp
  simp only [ho, hx, hy.eval, Instr.storeAt, Instr.sureAddr, Sem.run_bind, Sem.run_pure, Result.andThen_ok, run_storeVar_one w ⟨bs, k * 17 + posL j, none⟩ ty u (.slice none 0 0) hu (hl.frozen _) rfl hi]
  exact hw _ (HS.out.set i ei _ (chg_set hD) (machI_loc _ _ _) (hM.turnNil hk hbs hj) fun k hk => .inl hk)
theorem st_storeNil (HS : Hid (St w0 w L)) (i : Nat) (ei : L[i]? = some (machI D A M)) {k bs : Nat} (hk : k < A.s.n) (hbs : A.s.a = some ⟨bs, 0, none⟩) (j : Nat) (hj : j < 3) (ty : TypeId) (x y : Operand) (ho : op.op = .store ty x y) (o : Nat) (hx : a.eval x = .pointer (some ⟨bs, o, none⟩)) (ho' : o = k * 17 + posL j) (hgd : Region.wanted op (yielded ops a.tmps) = true)
    (hy : ValOf a y (.slice none 0 0)) (hi : (P.info? ty).map (·.size) = some 1) (hw : ∀ W, Hid (St w0 W (L.set i (machI D (A.setQ k ((A.q k).setL j noSl)) (M.setS k ((M.at k).setL j []))))) → wpList P ops Q rest (a.put op.dst undef) W) : wpList P ops Q (op :: rest) a w :=
  BigFrame.wpList_want hgd fun _ hK => stw_storeNil HS i ei hk hbs j hj ty x y ho o hx ho' hy hi fun W h => hK _ _ (hw W h)
/-- A number of a word. -/
theorem stw_storeW (HS : Hid (St w0 w L)) (i : Nat) (ei : L[i]? = some (machI D A M)) {g b c : Nat} (hg : g < 4) (hc : c < (A.w g).n * 3) (hb : (A.w g).a = some ⟨b, 0, none⟩) (ty : TypeId) (x y : Operand) (ho : op.op = .store ty x y) (hx : a.eval x = .pointer (some ⟨b, c, none⟩))
    {v : Int} (hy : ValOf a y (.int .i64 v)) (hi : (P.info? ty).map (·.size) = some 1) (hw : ∀ W, Hid (St w0 W (L.set i (machI D A (M.setLv g ((M.lv g).set c v))))) → K (a.put op.dst undef) W) : op.wp P a w K Q := by
  have hM : MachOwn D w A M := HS.out.get i ei
  obtain ⟨b2, e, hD, l, hl⟩ := hM.wblk hg (Nat.pos_of_mul_pos_right (by omega : 0 < (A.w g).n * 3))
  rw [hb] at e; cases e
  have hcell : ∃ u, w.cell? ⟨b, c, none⟩ = some u := by
    obtain ⟨b2, off, e2, _, hcc⟩ := (hM.is.words g hg).2.2 c hc
    rw [hb] at e2; cases e2
    rw [Nat.zero_add] at hcc
    exact ⟨_, hcc⟩
  obtain ⟨u, hu⟩ := hcell
  unfold Oper.wp execOp
  simp only [ho, hx, hy.eval, Instr.storeAt, Instr.sureAddr, Sem.run_bind, Sem.run_pure, Result.andThen_ok, run_storeVar_one w ⟨b, c, none⟩ ty u (.int .i64 v) hu (hl.frozen _) rfl hi]
  exact hw _ (HS.out.set i ei _ (chg_set hD) (machI_loc _ _ _) (hM.turnW hg hc hb v) fun k hk => .inl hk)
theorem st_storeW (HS : Hid (St w0 w L)) (i : Nat) (ei : L[i]? = some (machI D A M)) {g b c : Nat} (hg : g < 4) (hc : c < (A.w g).n * 3) (hb : (A.w g).a = some ⟨b, 0, none⟩) (ty : TypeId) (x y : Operand) (ho : op.op = .store ty x y) (hx : a.eval x = .pointer (some ⟨b, c, none⟩)) (hgd : Region.wanted op (yielded ops a.tmps) = true)
    {v : Int} (hy : ValOf a y (.int .i64 v)) (hi : (P.info? ty).map (·.size) = some 1) (hw : ∀ W, Hid (St w0 W (L.set i (machI D A (M.setLv g ((M.lv g).set c v))))) → wpList P ops Q rest (a.put op.dst undef) W) : wpList P ops Q (op :: rest) a w :=
  BigFrame.wpList_want hgd fun _ hK => stw_storeW HS i ei hg hc hb ty x y ho hx hy hi fun W h => hK _ _ (hw W h)
end
end Go.Proofs.YtaaenolbfhhnfaaGreat
namespace Go.Proofs.YtaaenolbfhhnfaaGreat
open Go.RowKit
/-- One of a row of threes, in every world that has it. -/
theorem Row.kin3 {W : World} {a : Option Addr} {n : Nat} {f : Nat → Value} (h : Row W a (n * 3) f) (k : Nat) (hk : k < n) :
    ∃ b off, a = some ⟨b, off, none⟩ ∧ b < W.heap.size ∧ (∀ u : Kin W, u.at_.cell? ⟨b, off + k * 3, none⟩ = some (f (k * 3))) ∧ (∀ u : Kin W, u.at_.cell? ⟨b, off + k * 3 + 1, none⟩ = some (f (k * 3 + 1))) ∧ (∀ u : Kin W, u.at_.cell? ⟨b, off + k * 3 + 2, none⟩ = some (f (k * 3 + 2))) := by
  obtain ⟨b, off, e, hb, c0, c1, c2⟩ := h.at3 k hk
  exact ⟨b, off, e, hb, fun u => (u.cell b _ hb).trans c0, fun u => (u.cell b _ hb).trans c1, fun u => (u.cell b _ hb).trans c2⟩
end Go.Proofs.YtaaenolbfhhnfaaGreat
namespace Go.Proofs.YtaaenolbfhhnfaaGreat
open Go.RowKit
theorem Row.at4 {w : World} {a : Option Addr} {n : Nat} {f : Nat → Value} (h : Row w a (n * 4) f) (k : Nat) (hk : k < n) :
    ∃ b off, a = some ⟨b, off, none⟩ ∧ b < w.heap.size ∧ w.cell? ⟨b, off + k * 4, none⟩ = some (f (k * 4)) ∧ w.cell? ⟨b, off + k * 4 + 1, none⟩ = some (f (k * 4 + 1)) ∧ w.cell? ⟨b, off + k * 4 + 2, none⟩ = some (f (k * 4 + 2)) ∧ w.cell? ⟨b, off + k * 4 + 3, none⟩ = some (f (k * 4 + 3)) := by
  obtain ⟨b, off, rfl, hb, c0⟩ := h (k * 4) (by omega)
  obtain ⟨_, _, e, _, c1⟩ := h (k * 4 + 1) (by omega)
  obtain ⟨_, _, e2, _, c2⟩ := h (k * 4 + 2) (by omega)
  obtain ⟨_, _, e3, _, c3⟩ := h (k * 4 + 3) (by omega)
  simp only [Option.some.injEq, Addr.mk.injEq] at e e2 e3
  obtain ⟨rfl, rfl, _⟩ := e
  obtain ⟨rfl, rfl, _⟩ := e2
  obtain ⟨rfl, rfl, _⟩ := e3
  exact ⟨b, off, rfl, hb, c0, c1, c2, c3⟩
theorem Row.kin4 {W : World} {a : Option Addr} {n : Nat} {f : Nat → Value} (h : Row W a (n * 4) f) (k : Nat) (hk : k < n) :
    ∃ b off, a = some ⟨b, off, none⟩ ∧ b < W.heap.size ∧ (∀ u : Kin W, u.at_.cell? ⟨b, off + k * 4, none⟩ = some (f (k * 4))) ∧ (∀ u : Kin W, u.at_.cell? ⟨b, off + k * 4 + 1, none⟩ = some (f (k * 4 + 1))) ∧ (∀ u : Kin W, u.at_.cell? ⟨b, off + k * 4 + 2, none⟩ = some (f (k * 4 + 2))) ∧ (∀ u : Kin W, u.at_.cell? ⟨b, off + k * 4 + 3, none⟩ = some (f (k * 4 + 3))) := by
  obtain ⟨b, off, e, hb, c0, c1, c2, c3⟩ := h.at4 k hk
  exact ⟨b, off, e, hb, fun u => (u.cell b _ hb).trans c0, fun u => (u.cell b _ hb).trans c1, fun u => (u.cell b _ hb).trans c2, fun u => (u.cell b _ hb).trans c3⟩
/-- A world itself is one of its class. -/
theorem kin_self {W : World} {p : World → Prop} (h : ∀ u : Kin W, p u.at_) : p W := h ⟨W, Below.refl _ _⟩
end Go.Proofs.YtaaenolbfhhnfaaGreat
namespace Go.Proofs.YtaaenolbfhhnfaaGreat
open Go.RowKit
set_option linter.unusedSimpArgs false
theorem Tryz.infoRead : (Tryz.prog.info? 66).map (fun i => (i.zero, i.size, i.bytes)) = some (some (.agg #[.int .i64 0, .int .i64 0, .int .i64 0]), 3, 24) := by kernel_rfl
end Go.Proofs.YtaaenolbfhhnfaaGreat
namespace Go.Proofs.YtaaenolbfhhnfaaGreat
open Go.RowKit
set_option linter.unusedSimpArgs false
theorem Tryz.infoWrite : (Tryz.prog.info? 68).map (fun i => (i.zero, i.size, i.bytes)) = some (some (.agg #[.int .i64 0, .int .i64 0, .int .i64 0]), 3, 24) := by kernel_rfl
end Go.Proofs.YtaaenolbfhhnfaaGreat
namespace Go.Proofs.YtaaenolbfhhnfaaGreat
open Go.RowKit
def setOk (c : Nat → Int) (a v : Int) : Bool := allUp c 255 4 && upToV a 3 && upToV v 255
def addOk (c : Nat → Int) (a b : Int) : Bool := allUp c 255 4 && upToV a 3 && upToV b 3
/-- The numbers of their errors. -/
def setE (c : Nat → Int) (a v : Int) : Int := bif setOk c a v then 0 else 600
def addE (c : Nat → Int) (a b : Int) : Int := bif addOk c a b then 0 else 600
/-- Their registers. -/
def setC (c : Nat → Int) (a v : Int) : Nat → Int := bif setOk c a v then updQ c a.toNat v else fun _ => 0
def addC (c : Nat → Int) (a b : Int) : Nat → Int := bif addOk c a b then updQ c a.toNat ((c a.toNat + c b.toNat) % 256) else fun _ => 0
theorem and3 {x y z : Bool} (h : (x && y && z) = true) : x = true ∧ y = true ∧ z = true := by
  simp only [Bool.and_eq_true] at h
  exact ⟨h.1.1, h.1.2, h.2⟩
theorem and3_no1 {x y z : Bool} (h : x = false) : (x && y && z) = false := by rw [h]; rfl
theorem set_no {c : Nat → Int} {a v : Int} (h : setOk c a v = false) : setE c a v = 600 ∧ setC c a v = fun _ => 0 := by unfold setE setC; rw [h]; exact ⟨rfl, rfl⟩
theorem set_yes {c : Nat → Int} {a v : Int} (h : setOk c a v = true) : setE c a v = 0 ∧ setC c a v = updQ c a.toNat v := by unfold setE setC; rw [h]; exact ⟨rfl, rfl⟩
theorem add_no {c : Nat → Int} {a b : Int} (h : addOk c a b = false) : addE c a b = 600 ∧ addC c a b = fun _ => 0 := by unfold addE addC; rw [h]; exact ⟨rfl, rfl⟩
theorem add_yes {c : Nat → Int} {a b : Int} (h : addOk c a b = true) : addE c a b = 0 ∧ addC c a b = updQ c a.toNat ((c a.toNat + c b.toNat) % 256) := by unfold addE addC; rw [h]; exact ⟨rfl, rfl⟩
end Go.Proofs.YtaaenolbfhhnfaaGreat
namespace Go.Proofs.YtaaenolbfhhnfaaGreat
open Go.RowKit
set_option linter.unusedSimpArgs false
theorem rregsMay_any (c : Nat → Int) (w : World) :
    Calls Tryz.prog 131 #[quadA c] w fun e w' => e = .returned (.bool (allUp c 255 4)) ∧ Below w.heap.size w w' := by
  unfold quadA
  go_enter Tryz.func131, Tryz.ntmps131
  go_wp2
  go_loopw [3] (fun i wr => ∃ k : Nat, k ≤ 4 ∧ i = .int .i64 k ∧ Hid (allUp c 255 k = true) ∧ Blk wr w.heap.size (quadL c) ∧ Below w.heap.size w wr) (fun i _ => 4 - (intOf i).toNat)
  case atStart => exact ⟨0, Nat.zero_le _, rfl, rfl, blk_new w (quadL c) 30, by go_grown⟩
  case round =>
    obtain ⟨k, hk, rfl, HS, B1, hb⟩ := hrel
    by_cases hlt : k < 4
    · have i1 : (k : Int) < 4 := by omega
      have c1 := B1.cell k _ (quadL_get c hlt)
      cases hv : upToV (c k) 255
      · go_wp2_with (go_at_call 101; refine (rvalue_any _ _).mono ?_; rintro e w' ⟨rfl, rfl⟩)
        go_ret
        exact ⟨ret_bool (allUp_no k hlt hv).symm, hb⟩
      · have HN : Hid (allUp c 255 (k + 1) = true) := by
          show allUp c 255 (k + 1) = true
          rw [allUp, HS.out, hv]
          rfl
        go_wp2_with (go_at_call 101; refine (rvalue_any _ _).mono ?_; rintro e w' ⟨rfl, rfl⟩)
        go_roundw
        case rel => exact ⟨k + 1, by omega, by go_num, HN, B1, hb⟩
        case measure => simp [intOf]; omega
    · obtain rfl : k = 4 := by omega
      go_wp2
      go_ret
      exact ⟨ret_bool HS.out.symm, hb⟩
set_option maxHeartbeats 1000000 in
theorem rset_any (c : Nat → Int) (a b : Int) (w : World) :
    Calls Tryz.prog 176 #[quadA c, .int .i64 a, .int .i64 b] w fun e w' => e = .returned (.tuple #[quadA (setC c a b), .int .i64 (setE c a b)]) ∧ Below w.heap.size w w' := by
  cases h1 : allUp c 255 4
  · obtain ⟨e1, e2⟩ := set_no (c := c) (a := a) (v := b) (and3_no1 h1)
    rw [e1, e2]
    unfold quadA
    go_enter Tryz.func176, Tryz.ntmps176
    go_wp2_with fail
    refine (rregsMay_any c _).mono ?_
    rintro e w1 ⟨rfl, hb⟩
    rw [h1]
    have B2 := (blk_new (w.alloc _) _ _).on hb
    rw [World.size_alloc] at B2
    have b1 : Below w.heap.size w w1 := Below.on (by go_grown) hb
    obtain ⟨⟨d0, d1, d2, d3⟩, g0, g1, g2, g3⟩ := B2.four
    clear hb
    go_wp2
    exact bodyPost_ret (v := .tuple #[.agg #[.int .i64 0, .int .i64 0, .int .i64 0, .int .i64 0], .int .i64 600]) (by simp [results, Tryz.results176, go_sem, d0, d1, d2, d3]) rfl ⟨rfl, by go_grown⟩
  cases h2 : upToV a 3 && upToV b 255
  · obtain ⟨e1, e2⟩ := set_no (c := c) (a := a) (v := b) (by unfold setOk; rw [Bool.and_assoc, h2, Bool.and_false])
    rw [e1, e2]
    unfold quadA
    cases ha : upToV a 3 <;> cases hv : upToV b 255 <;> (try (rw [ha, hv] at h2; cases h2; done))
    all_goals
      go_enter Tryz.func176, Tryz.ntmps176
      go_wp2_with fail
      refine (rregsMay_any c _).mono ?_
      rintro e w1 ⟨rfl, hb⟩
      rw [h1]
      have B2 := (blk_new (w.alloc _) _ _).on hb
      rw [World.size_alloc] at B2
      have b1 : Below w.heap.size w w1 := Below.on (by go_grown) hb
      obtain ⟨⟨d0, d1, d2, d3⟩, g0, g1, g2, g3⟩ := B2.four
      clear hb h2
      go_wp2_with (first | (go_at_call 187; refine (rreg_any _ _).mono ?_; rintro e w' ⟨rfl, rfl⟩) | (go_at_call 101; refine (rvalue_any _ _).mono ?_; rintro e w' ⟨rfl, rfl⟩))
      exact bodyPost_ret (v := .tuple #[.agg #[.int .i64 0, .int .i64 0, .int .i64 0, .int .i64 0], .int .i64 600]) (by simp [results, Tryz.results176, go_sem, d0, d1, d2, d3]) rfl ⟨rfl, by go_grown⟩
  · have hok : setOk c a b = true := by unfold setOk; rw [Bool.and_assoc, h1, h2]; rfl
    obtain ⟨e1, e2⟩ := set_yes hok
    obtain ⟨_, ha, hv⟩ := and3 hok
    rw [e1, e2]
    obtain ⟨ha0, ha1⟩ := upToV_yes ha
    obtain ⟨g, rfl⟩ : ∃ g : Nat, a = g := ⟨a.toNat, by omega⟩
    rw [Int.toNat_natCast]
    have hg : g < 4 := by omega
    have i1 : (g : Int) < 4 := by omega
    clear e1 e2 hok h2
    unfold quadA
    go_enter Tryz.func176, Tryz.ntmps176
    go_wp2_with fail
    refine (rregsMay_any c _).mono ?_
    rintro e w1 ⟨rfl, hb⟩
    rw [h1]
    have B1 := ((blk_new w (quadL c) 30).alloc _).on hb
    have B2 := (blk_new (w.alloc _) _ _).on hb
    rw [World.size_alloc] at B2
    have b1 : Below w.heap.size w w1 := Below.on (by go_grown) hb
    have c1 := B1.cell g _ (quadL_get c hg)
    have f1 := B1.frozen g
    clear hb
    go_upto_region 4 with (first | (go_at_call 187; refine (rreg_any _ _).mono ?_; rintro e w' ⟨rfl, rfl⟩) | (go_at_call 101; refine (rvalue_any _ _).mono ?_; rintro e w' ⟨rfl, rfl⟩))
    have B1' := B1.set g (.int .i64 b)
    rw [quadL_set c hg] at B1'
    have B2' := B2.far (a := ⟨w.heap.size, g, none⟩) (.int .i64 b) (by simp)
    have b' : Below w.heap.size w (w1.setCell ⟨w.heap.size, g, none⟩ (.int .i64 b)) := b1.setCell (by simp) _
    clear B1 B2 b1 c1 f1
    generalize w1.setCell ⟨w.heap.size, g, none⟩ (.int .i64 b) = W at *
    obtain ⟨⟨c0, c1, c2, c3⟩, f0, f1, f2, f3⟩ := B1'.four
    obtain ⟨⟨d0, d1, d2, d3⟩, g0, g1, g2, g3⟩ := B2'.four
    go_wp2
    exact bodyPost_ret (v := .tuple #[quadA (updQ c g b), .int .i64 0]) (by simp [results, Tryz.results176, go_sem, d0, d1, d2, d3, quadA]) rfl ⟨rfl, by go_grown⟩
set_option maxHeartbeats 1000000 in
theorem radd_any (c : Nat → Int) (a b : Int) (w : World) :
    Calls Tryz.prog 177 #[quadA c, .int .i64 a, .int .i64 b] w fun e w' => e = .returned (.tuple #[quadA (addC c a b), .int .i64 (addE c a b)]) ∧ Below w.heap.size w w' := by
  cases h1 : allUp c 255 4
  · obtain ⟨e1, e2⟩ := add_no (c := c) (a := a) (b := b) (and3_no1 h1)
    rw [e1, e2]
    unfold quadA
    go_enter Tryz.func177, Tryz.ntmps177
    go_wp2_with fail
    refine (rregsMay_any c _).mono ?_
    rintro e w1 ⟨rfl, hb⟩
    rw [h1]
    have B2 := (blk_new (w.alloc _) _ _).on hb
    rw [World.size_alloc] at B2
    have b1 : Below w.heap.size w w1 := Below.on (by go_grown) hb
    obtain ⟨⟨d0, d1, d2, d3⟩, g0, g1, g2, g3⟩ := B2.four
    clear hb
    go_wp2
    exact bodyPost_ret (v := .tuple #[.agg #[.int .i64 0, .int .i64 0, .int .i64 0, .int .i64 0], .int .i64 600]) (by simp [results, Tryz.results177, go_sem, d0, d1, d2, d3]) rfl ⟨rfl, by go_grown⟩
  cases h2 : upToV a 3 && upToV b 3
  · obtain ⟨e1, e2⟩ := add_no (c := c) (a := a) (b := b) (by unfold addOk; rw [Bool.and_assoc, h2, Bool.and_false])
    rw [e1, e2]
    unfold quadA
    cases ha : upToV a 3 <;> cases hv : upToV b 3 <;> (try (rw [ha, hv] at h2; cases h2; done))
    all_goals
      go_enter Tryz.func177, Tryz.ntmps177
      go_wp2_with fail
      refine (rregsMay_any c _).mono ?_
      rintro e w1 ⟨rfl, hb⟩
      rw [h1]
      have B2 := (blk_new (w.alloc _) _ _).on hb
      rw [World.size_alloc] at B2
      have b1 : Below w.heap.size w w1 := Below.on (by go_grown) hb
      obtain ⟨⟨d0, d1, d2, d3⟩, g0, g1, g2, g3⟩ := B2.four
      clear hb h2
      go_wp2_with (first | (go_at_call 187; refine (rreg_any _ _).mono ?_; rintro e w' ⟨rfl, rfl⟩) | (go_at_call 101; refine (rvalue_any _ _).mono ?_; rintro e w' ⟨rfl, rfl⟩))
      exact bodyPost_ret (v := .tuple #[.agg #[.int .i64 0, .int .i64 0, .int .i64 0, .int .i64 0], .int .i64 600]) (by simp [results, Tryz.results177, go_sem, d0, d1, d2, d3]) rfl ⟨rfl, by go_grown⟩
  · have hok : addOk c a b = true := by unfold addOk; rw [Bool.and_assoc, h1, h2]; rfl
    obtain ⟨e1, e2⟩ := add_yes hok
    obtain ⟨_, ha, hv⟩ := and3 hok
    rw [e1, e2]
    obtain ⟨ha0, ha1⟩ := upToV_yes ha
    obtain ⟨hb0, hb1⟩ := upToV_yes hv
    obtain ⟨g, rfl⟩ : ∃ g : Nat, a = g := ⟨a.toNat, by omega⟩
    obtain ⟨h, rfl⟩ : ∃ g : Nat, b = g := ⟨b.toNat, by omega⟩
    rw [Int.toNat_natCast, Int.toNat_natCast]
    have hg : g < 4 := by omega
    have hh : h < 4 := by omega
    have i1 : (g : Int) < 4 := by omega
    have i2 : (h : Int) < 4 := by omega
    obtain ⟨p0, p1⟩ := upToV_yes (allUp_get h1 g hg)
    obtain ⟨q0, q1⟩ := upToV_yes (allUp_get h1 h hh)
    have tm : (c g + c h).tmod 256 = (c g + c h) % 256 := Int.tmod_eq_emod_of_nonneg (by omega)
    clear e1 e2 hok h2
    unfold quadA
    go_enter Tryz.func177, Tryz.ntmps177
    go_wp2_with fail
    refine (rregsMay_any c _).mono ?_
    rintro e w1 ⟨rfl, hb⟩
    rw [h1]
    have B1 := ((blk_new w (quadL c) 30).alloc _).on hb
    have B2 := (blk_new (w.alloc _) _ _).on hb
    rw [World.size_alloc] at B2
    have b1 : Below w.heap.size w w1 := Below.on (by go_grown) hb
    have c1 := B1.cell g _ (quadL_get c hg)
    have c2 := B1.cell h _ (quadL_get c hh)
    have f1 := B1.frozen g
    clear hb
    go_upto_region 3 with (first | (go_at_call 187; refine (rreg_any _ _).mono ?_; rintro e w' ⟨rfl, rfl⟩) | (go_at_call 101; refine (rvalue_any _ _).mono ?_; rintro e w' ⟨rfl, rfl⟩))
    go_region
    have B1' := B1.set g (.int .i64 ((c g + c h) % 256))
    rw [quadL_set c hg] at B1'
    have B2' := (B2.far (a := ⟨w.heap.size, g, none⟩) (.int .i64 ((c g + c h) % 256)) (by simp)).drew
    have b' : Below w.heap.size w (w1.setCell ⟨w.heap.size, g, none⟩ (.int .i64 ((c g + c h) % 256))).drew := (b1.setCell (by simp) _).drew
    replace B1' := B1'.drew
    clear B1 B2 b1 c1 c2 f1
    generalize (w1.setCell ⟨w.heap.size, g, none⟩ (.int .i64 ((c g + c h) % 256))).drew = W at *
    obtain ⟨⟨c0, c1, c2, c3⟩, f0, f1, f2, f3⟩ := B1'.four
    obtain ⟨⟨d0, d1, d2, d3⟩, g0, g1, g2, g3⟩ := B2'.four
    go_wp2
    exact bodyPost_ret (v := .tuple #[quadA (updQ c g ((c g + c h) % 256)), .int .i64 0]) (by simp [results, Tryz.results177, go_sem, d0, d1, d2, d3, quadA]) rfl ⟨rfl, by go_grown⟩
end Go.Proofs.YtaaenolbfhhnfaaGreat
namespace Go.Proofs.YtaaenolbfhhnfaaGreat
open Go.RowKit
section
variable {P : Program} {w : World}
theorem run_append_apart (base : Nat) (t ty e : TypeId) (i : TypeInfo) (z : Value) (size bytes : Nat) (ht : P.underlying t = some (.slice e)) (hi : P.info? e = some i) (hz : i.zero = some z)
    (hsize : i.size = size) (hby : i.bytes = bytes) (hzs : z.cells.size = size) (hsz : 0 < size)
    (v : Value) (n : Nat) (xs : List Value) (hown : w.ownsRow base e size v n xs)
    (a : Addr) (m c : Nat) (news : List Value) (hl : news.length = m * size) (hnews : ∀ j u, news[j]? = some u → w.cell? (a.add j) = some u) (h1 : ∀ u ∈ news, u.oneCell' = true)
    (h63 : n + m ≤ maxLen) (hbytes : (n + m) * bytes ≤ 140737488355328) (hbase : base ≤ w.heap.size) :
    ∃ v' w', (Builtin.append_ #[t, t] ty #[v, .slice (some a) m c]).run P w = .ok v' w' ∧ w'.ownsRow base e size v' (n + m) (xs ++ news) ∧ w.grownBy w' v.ownBlock ∧
      (∀ g, v'.ownBlock = some g → v.ownBlock = some g ∨ w.heap.size ≤ g) := by
  obtain ⟨v', w', hr, ho, hg, hn⟩ := run_append_own (P := P) w base t ty e i z size bytes ht hi hz hsize hby hzs hsz v n xs hown a m c news hl hnews h1 h63 hbytes hbase
  refine ⟨v', w', hr, ho, hg, ?_⟩
  subst hsize hby
  have h63' : n + m ≤ 9223372036854775807 := by simp only [maxLen] at h63; omega
  rcases hown.2 with ⟨rfl, rfl⟩ | ⟨g, cap, cur, rfl, _, hgg, _, _, hcs, _⟩
  · by_cases hm : m = 0
    · rw [hn.2 ⟨rfl, hm⟩]
      intro g h; simp [Value.ownBlock] at h
    · have hr2 := run_append_nil (P := P) w t ty e i z ht hi hz a m c news hl hnews (by omega) (by omega) (by simp only [Nat.zero_add] at hbytes; omega)
      rw [hr2] at hr
      injection hr with hv _
      subst hv
      intro g h
      simp [Value.ownBlock] at h
      omega
  · by_cases hroom : n + m ≤ cap
    · have hfit : n * i.size + news.length ≤ cur.size := by rw [hl, hcs, ← Nat.add_mul]; exact Nat.mul_le_mul_right _ hroom
      have hr2 := run_append_room (P := P) w t ty e i ht hi g n cap cur hgg a m c news hl hnews h1 hroom hfit
      rw [hr2] at hr
      injection hr with hv _
      subst hv
      intro g' h
      exact .inl h
    · have hr2 := run_append_grow (P := P) w t ty e i z ht hi hz ⟨g, 0, none⟩ n cap xs hown.1 (hown.cells (g := g) rfl) a m c news hl hnews (by omega) (by omega) (growslice_fits (by omega) hbytes)
      rw [hr2] at hr
      injection hr with hv _
      subst hv
      intro g' h
      simp [Value.ownBlock] at h
      omega
end
/-- Two of the call's own rows lie apart. -/
def Off (v u : Value) : Prop := ∀ g, v.ownBlock = some g → u.ownBlock ≠ some g
theorem Off.symm {v u : Value} (h : Off v u) : Off u v := fun g hu hv => h g hv hu
theorem Off.ne {v u : Value} (h : Off v u) : u.ownBlock = none ∨ u.ownBlock ≠ v.ownBlock := by
  cases e : u.ownBlock with
  | none => exact .inl rfl
  | some g => exact .inr fun hv => h g hv.symm e
/-- Behind an append onto the first. -/
theorem Off.on {v v' u : Value} (h : Off v u) {N : Nat} (hu : ∀ g, u.ownBlock = some g → g < N) (hv : ∀ g, v'.ownBlock = some g → v.ownBlock = some g ∨ N ≤ g) : Off v' u := by
  intro g hg hug
  rcases hv g hg with h1 | h1
  · exact h g h1 hug
  · have := hu g hug
    omega
end Go.Proofs.YtaaenolbfhhnfaaGreat
namespace Go.Proofs.YtaaenolbfhhnfaaGreat
open Go.RowKit
set_option linter.unusedSimpArgs false
set_option linter.unusedVariables false
section
variable {P : Program} {ops : Array Oper} {Q : Exit → Act → World → Prop} {md : Region.Mode} {C : World → Prop}
theorem nil_val {o : Oper} {x : Operand} (ho : o.op = .nilCheck x) {ρ : Operand → Value} {w w' : World} {n : Next} (h : (execOp ρ o).run P w = .ok n w') : ∃ v, n = .value v := by
  unfold execOp at h
  simp only [ho] at h
  split at h
  · simp [runtimePanic] at h
  · simp [runtimePanic] at h
  · simp [runtimePanic] at h
  · split at h
    · simp [runtimePanic] at h
    · rw [Sem.run_bind] at h
      cases hp : Sem.run P program w with
      | ok p w1 =>
        rw [hp] at h
        simp only [Result.andThen_ok] at h
        rw [Sem.run_bind] at h
        rename_i ty v _
        cases hq : Sem.run P (nilAhead (p.types.size + Made.depth) ty v ‹String›) w1 with
        | ok b w2 =>
          rw [hq] at h
          simp only [Result.andThen_ok] at h
          split at h
          · simp [Sem.run_bind, unsupported, Result.andThen] at h
          · simp at h
            exact ⟨_, h.1.symm⟩
        | halt c w2 =>
          rw [hq] at h
          simp [Result.andThen] at h
      | halt c w1 =>
        rw [hp] at h
        simp [Result.andThen] at h
    · simp at h
      exact ⟨_, h.1.symm⟩
  · simp at h
    exact ⟨_, h.1.symm⟩
/-- Operations that hand back a value, or halt. -/
def plainB : Op → Bool
  | .move _ | .assign _ | .pick .. | .nilCheck _ | .load .. | .build .. | .fieldAddr .. | .field .. | .indexAddr .. | .index .. | .binOp .. | .unOp .. | .extract .. | .convert .. | .slice .. => true
  | .call c => (match c.callee with | .builtin .len => true | .builtin .min => true | _ => false)
  | _ => false
theorem val_of_bind {s : Sem Value} {w w' : World} {n : Next} (h : (do pure (Next.value (← s)) : Sem Next).run P w = .ok n w') : ∃ v, n = .value v := by
  rw [Sem.run_bind] at h
  cases hr : s.run P w with
  | ok x w1 =>
    rw [hr] at h
    simp [Result.andThen] at h
    exact ⟨_, h.1.symm⟩
  | halt x w1 =>
    rw [hr] at h
    simp [Result.andThen] at h
theorem val_of_plain {o : Oper} {ρ : Operand → Value} {w w' : World} {n : Next} (hp : plainB o.op = true) (h : (execOp ρ o).run P w = .ok n w') : ∃ v, n = .value v := by
  obtain ⟨dst, op, type, pos, after, guard⟩ := o
  cases op <;> first | (simp [plainB] at hp; done) | skip
  case move x => simp [execOp] at h; exact ⟨_, h.1.symm⟩
  case nilCheck x => exact nil_val rfl h
  case assign x => simp [execOp] at h; exact ⟨_, h.1.symm⟩
  case pick c a b =>
    unfold execOp at h
    simp only [] at h
    rw [Sem.run_bind] at h
    cases hr : (asBool (ρ c)).run P w with
    | ok x w1 =>
      rw [hr] at h
      simp [Result.andThen] at h
      exact ⟨_, h.1.symm⟩
    | halt x w1 =>
      rw [hr] at h
      simp [Result.andThen] at h
  case call c =>
    obtain ⟨callee, args, ats⟩ := c
    cases callee <;> first | (simp [plainB] at hp; done) | skip
    case builtin b =>
      cases b <;> first | (simp [plainB] at hp; done) | skip
      all_goals
        rw [BigFrame.execOp_builtin] at h
        simp only [BigFrame.builtin_len, BigFrame.builtin_min] at h
        exact val_of_bind h
  all_goals exact val_of_bind h
/-- What the quiet walk shows of an operation that is plain. -/
theorem yieldsIf_of_quiet {o : Oper} {v : Value} {a : Act} (hp : plainB o.op = true) (hw : Region.wanted o (yielded ops a.tmps) = true) (h : ∀ w, C w → o.quietAt P a C w v) : YieldsIf P ops C o v a := by
  refine .inl ⟨hw, fun w hC => ?_⟩
  have := h w hC
  unfold Oper.quietAt at this
  cases hr : (execOp a.eval o).run P w with
  | ok n w' =>
    obtain ⟨u, rfl⟩ := val_of_plain hp hr
    rw [hr] at this
    simp only [Oper.quietUpon] at this
    rw [this.1, this.2]
  | halt x w' => rw [hr] at this; exact this.elim
/-- Whatever order is picked from here on, and C holds behind every operation but the late ones (behind a neutral one, if it held ahead). -/
def wpAnyL (P : Program) (md : Region.Mode) (ops : Array Oper) (Q : Exit → Act → World → Prop) (C : World → Prop) (late neut : Nat → Bool) : Nat → Array Bool → Act → World → Prop
  | 0, listed, a, w => Region.ready md ops listed = [] ∧ Q .normal a w
  | fuel + 1, listed, a, w =>
    (Region.ready md ops listed = [] → Q .normal a w) ∧
    ∀ i ∈ Region.ready md ops listed, wpOp P ops Q i (fun a' w' => (late i = false → (neut i = true → C w) → C w') ∧ wpAnyL P md ops Q C late neut fuel (listed.setIfInBounds i true) a' w') a w
variable {late neut : Nat → Bool}
theorem wpAny_of_late : ∀ (fuel : Nat) (listed : Array Bool) (a : Act) (w : World), wpAnyL P md ops Q C late neut fuel listed a w → wpAny P md ops Q fuel listed a w
  | 0, _, _, _, h => h
  | fuel + 1, _, _, _, h => ⟨h.1, fun i hi => wpOp_mono (fun a' w' h' => wpAny_of_late fuel _ a' w' h'.2) (h.2 i hi)⟩
theorem wpAnyL_first {i : Nat} {oi : Oper} {v : Value} (hi : ops[i]? = some oi) (hsel : ∀ (j : Nat) (o : Oper) cs b, ops[j]? = some o → o.op ≠ .select cs b)
    (hQ : ∀ c a w, Q (.panic c) (a.put oi.dst v) w → Q (.panic c) a w) (hl : ∀ j oj, ops[j]? = some oj → late j = true → ∃ e ∈ oj.after, Region.binds md e = true ∧ e.on = i) :
    ∀ (fuel : Nat) (listed : Array Bool) (a : Act) (w : World),
      (∀ j oj, ops[j]? = some oj → j ≠ i → listed.getD j true = false → (∀ e ∈ oj.after, Region.binds md e = true → e.on ≠ i) → oi.apart ops oj = true) →
      i ∈ Region.ready md ops listed → YieldsIf P ops C oi v a → C w →
      wpAnyL P md ops Q C late neut fuel (listed.setIfInBounds i true) (a.put oi.dst v) w → wpAnyL P md ops Q C late neut (fuel + 1) listed a w := by
  intro fuel
  induction fuel with
  | zero =>
    intro listed a w _ hr hy hS H
    refine ⟨fun h => (by rw [h] at hr; cases hr), fun j hj => ?_⟩
    by_cases hji : j = i
    · subst hji; exact hy.wpOp hi hS ⟨fun _ _ => hS, H⟩
    · have := ready_mono hj hji
      rw [H.1] at this
      cases this
  | succ fuel ih =>
    intro listed a w hfree hr hy hS H
    refine ⟨fun h => (by rw [h] at hr; cases hr), fun j hj => ?_⟩
    by_cases hji : j = i
    · subst hji; exact hy.wpOp hi hS ⟨fun _ _ => hS, H⟩
    · have h1 := H.2 j (ready_mono hj hji)
      obtain ⟨hjun, oj, hoj, hall⟩ := mem_ready.1 hj
      have hnot : ∀ e ∈ oj.after, Region.binds md e = true → e.on ≠ i := fun e he hb heq => by
        have h1 := hall e he hb
        have h0 := (mem_ready.1 hr).1
        rw [heq] at h1
        rcases Nat.lt_or_ge i listed.size with h' | h'
        · simp [h'] at h0 h1; rw [h0] at h1; cases h1
        · simp [Array.getElem?_eq_none h'] at h1
      have hlj : late j = false := by
        cases hc : late j with
        | false => rfl
        | true =>
          obtain ⟨e, he, hb, heq⟩ := hl j oj hoj hc
          exact absurd heq (hnot e he hb)
      have h2 := wpOp_putIf hoj (hfree j oj hoj hji hjun hnot) (fun cs b => hsel i oi cs b hi) (fun cs b => hsel j oj cs b hoj) hQ hy h1
      have hfree' : ∀ k ok, ops[k]? = some ok → k ≠ i → (listed.setIfInBounds j true).getD k true = false →
          (∀ e ∈ ok.after, Region.binds md e = true → e.on ≠ i) → oi.apart ops ok = true := fun k ok hk hki hun hno => by
        refine hfree k ok hk hki ?_ hno
        by_cases hjk : j = k
        · subst hjk; exact hjun
        · rw [getD_set_ne true hjk] at hun; exact hun
      refine wpOp_mono (fun a' w' h3 => ⟨h3.2.1, ih (listed.setIfInBounds j true) a' w' hfree' (ready_mono hr (Ne.symm hji)) h3.1 (h3.2.1 hlj fun _ => hS) ?_⟩) h2
      rw [Array.setIfInBounds_comm _ _ hji]
      exact h3.2.2
theorem wpAnyL_worldless {i : Nat} {oi : Oper} {v : Value} (hi : ops[i]? = some oi) (hsel : ∀ (j : Nat) (o : Oper) cs b, ops[j]? = some o → o.op ≠ .select cs b)
    (hQ : ∀ c a w, Q (.panic c) (a.put oi.dst v) w → Q (.panic c) a w) (hli : late i = true ∨ neut i = true) :
    ∀ (fuel : Nat) (listed : Array Bool) (a : Act) (w : World),
      (∀ j oj, ops[j]? = some oj → j ≠ i → listed.getD j true = false → (∀ e ∈ oj.after, Region.binds md e = true → e.on ≠ i) → oi.apart ops oj = true) →
      i ∈ Region.ready md ops listed → Yields P ops oi v a →
      wpAnyL P md ops Q C late neut fuel (listed.setIfInBounds i true) (a.put oi.dst v) w → wpAnyL P md ops Q C late neut (fuel + 1) listed a w := by
  intro fuel
  induction fuel with
  | zero =>
    intro listed a w _ hr hy H
    refine ⟨fun h => (by rw [h] at hr; cases hr), fun j hj => ?_⟩
    by_cases hji : j = i
    · subst hji; exact hy.wpOp hi ⟨fun h hc => hc (hli.resolve_left (by rw [h]; decide)), H⟩
    · have := ready_mono hj hji
      rw [H.1] at this
      cases this
  | succ fuel ih =>
    intro listed a w hfree hr hy H
    refine ⟨fun h => (by rw [h] at hr; cases hr), fun j hj => ?_⟩
    by_cases hji : j = i
    · subst hji; exact hy.wpOp hi ⟨fun h hc => hc (hli.resolve_left (by rw [h]; decide)), H⟩
    · have h1 := H.2 j (ready_mono hj hji)
      obtain ⟨hjun, oj, hoj, hall⟩ := mem_ready.1 hj
      have hnot : ∀ e ∈ oj.after, Region.binds md e = true → e.on ≠ i := fun e he hb heq => by
        have h1 := hall e he hb
        have h0 := (mem_ready.1 hr).1
        rw [heq] at h1
        rcases Nat.lt_or_ge i listed.size with h' | h'
        · simp [h'] at h0 h1; rw [h0] at h1; cases h1
        · simp [Array.getElem?_eq_none h'] at h1
      have h2 := wpOp_put hoj (hfree j oj hoj hji hjun hnot) (fun cs b => hsel i oi cs b hi) (fun cs b => hsel j oj cs b hoj) hQ hy h1
      have hfree' : ∀ k ok, ops[k]? = some ok → k ≠ i → (listed.setIfInBounds j true).getD k true = false →
          (∀ e ∈ ok.after, Region.binds md e = true → e.on ≠ i) → oi.apart ops ok = true := fun k ok hk hki hun hno => by
        refine hfree k ok hk hki ?_ hno
        by_cases hjk : j = k
        · subst hjk; exact hjun
        · rw [getD_set_ne true hjk] at hun; exact hun
      refine wpOp_mono (fun a' w' h3 => ⟨h3.2.1, ih (listed.setIfInBounds j true) a' w' hfree' (ready_mono hr (Ne.symm hji)) h3.1 ?_⟩) h2
      rw [Array.setIfInBounds_comm _ _ hji]
      exact h3.2.2
/-- May what only reads come first, in this order, and must the rest come so, one behind another (marks: 0; 1, late; 2, late and looking at no memory: it may come whenever)? -/
def lateWaits (md : Region.Mode) (ops : Array Oper) (late : List Nat) (q : Nat) : Bool :=
  late.all fun j => (((ops[j]?).map fun o => o.after.any fun e => Region.binds md e && e.on == q).getD false)
def okTail (md : Region.Mode) (ops : Array Oper) (late neut : List Nat) : List Nat → List Nat → Array Bool → Bool
  | t :: ts, b :: bs, l => (match b with
      | 2 => Region.free md ops l t && (Region.ready md ops l).contains t && late.contains t
      | 3 => Region.free md ops l t && (Region.ready md ops l).contains t && neut.contains t
      | _ => Region.ready md ops l == [t]) && okTail md ops late neut ts bs (l.setIfInBounds t true)
  | [], [], l => (Region.ready md ops l == [])
  | _, _, _ => false
def okTake (md : Region.Mode) (ops : Array Oper) (late neut ts bs : List Nat) : List Nat → Array Bool → Bool
  | q :: qs, l => Region.free md ops l q && (Region.ready md ops l).contains q && lateWaits md ops late q && ((ops[q]?).map fun o => plainB o.op).getD false && okTake md ops late neut ts bs qs (l.setIfInBounds q true)
  | [], l => okTail md ops late neut ts bs l
/-- What is left, one behind another. -/
def wpTail (P : Program) (ops : Array Oper) (Q : Exit → Act → World → Prop) (C : World → Prop) (late : List Nat) : List Nat → List Nat → Act → World → Prop
  | t :: ts, b :: bs, a, w => (match b with
      | 2 => ∃ o v, ops[t]? = some o ∧ Yields P ops o v a ∧ wpTail P ops Q C late ts bs (a.put o.dst v) w
      | 3 => ∃ o v, ops[t]? = some o ∧ Yields P ops o v a ∧ wpTail P ops Q C late ts bs (a.put o.dst v) w
      | _ => wpOp P ops Q t (fun a' w' => (late.contains t = false → C w') ∧ wpTail P ops Q C late ts bs a' w') a w)
  | _, _, a, w => Q .normal a w
theorem any_of_tail {late neut : List Nat} (hsel : ∀ (j : Nat) (o : Oper) cs b, ops[j]? = some o → o.op ≠ .select cs b) (hQ : ∀ c a d v w, Q (.panic c) (a.put d v) w → Q (.panic c) a w) : ∀ (ts bs : List Nat) (l : Array Bool) (a : Act) (w : World), okTail md ops late neut ts bs l = true → wpTail P ops Q C late ts bs a w → wpAnyL P md ops Q C late.contains neut.contains ts.length l a w
  | [], [], l, a, w, hok, h => ⟨by simpa [okTail] using hok, h⟩
  | [], _ :: _, _, _, _, hok, _ => by simp [okTail] at hok
  | _ :: _, [], _, _, _, hok, _ => by simp [okTail] at hok
  | t :: ts, b :: bs, l, a, w, hok, h => by
    simp only [okTail, Bool.and_eq_true] at hok
    by_cases hb : b = 2
    · subst hb
      obtain ⟨o, v, ho, hy, hk⟩ := h
      simp only [Bool.and_eq_true] at hok
      exact wpAnyL_worldless ho hsel (fun c a w => hQ c a o.dst v w) (.inl hok.1.2) _ l a w (Region.free_spec ho hok.1.1.1) (by simpa using hok.1.1.2) hy (any_of_tail hsel hQ ts bs _ _ w hok.2 hk)
    by_cases hb3 : b = 3
    · subst hb3
      obtain ⟨o, v, ho, hy, hk⟩ := h
      simp only [Bool.and_eq_true] at hok
      exact wpAnyL_worldless ho hsel (fun c a w => hQ c a o.dst v w) (.inr hok.1.2) _ l a w (Region.free_spec ho hok.1.1.1) (by simpa using hok.1.1.2) hy (any_of_tail hsel hQ ts bs _ _ w hok.2 hk)
    · have hr : Region.ready md ops l = [t] := by
        have := hok.1
        split at this
        · exact absurd rfl hb
        · exact absurd rfl hb3
        · simpa using this
      have hk : wpOp P ops Q t (fun a' w' => (late.contains t = false → C w') ∧ wpTail P ops Q C late ts bs a' w') a w := by
        unfold wpTail at h
        split at h
        · exact absurd rfl hb
        · exact absurd rfl hb3
        · exact h
      refine ⟨fun h0 => (by rw [hr] at h0; cases h0), fun i hi => ?_⟩
      rw [hr, List.mem_singleton] at hi
      subst hi
      exact wpOp_mono (fun a' w' ⟨h1, h2⟩ => ⟨fun hl _ => h1 hl, any_of_tail hsel hQ ts bs _ a' w' hok.2 h2⟩) hk
theorem any_of_take {late neut ts bs : List Nat} (hsel : ∀ (j : Nat) (o : Oper) cs b, ops[j]? = some o → o.op ≠ .select cs b) (hQ : ∀ c a d v w, Q (.panic c) (a.put d v) w → Q (.panic c) a w) (w : World) (hC : C w) :
    ∀ (qs : List Nat) (os : List Oper) (l : Array Bool) (a : Act), qs.map (ops[·]?) = os.map some → okTake md ops late neut ts bs qs l = true → wpQuiet P ops C (fun a' => wpTail P ops Q C late ts bs a' w) os a → wpAnyL P md ops Q C late.contains neut.contains (qs.length + ts.length) l a w
  | [], [], l, a, _, hok, h => by
    rw [List.length_nil, Nat.zero_add]
    exact any_of_tail hsel hQ ts bs l a w hok h
  | [], _ :: _, _, _, he, _, _ => by simp at he
  | _ :: _, [], _, _, he, _, _ => by simp at he
  | q :: qs, o :: os, l, a, he, hok, h => by
    simp only [List.map_cons, List.cons.injEq] at he
    simp only [okTake, Bool.and_eq_true] at hok
    obtain ⟨⟨⟨⟨h1, h2⟩, h3⟩, h4⟩, h5⟩ := hok
    rw [he.1] at h4
    have hp : plainB o.op = true := by simpa using h4
    have hy : ∃ v, YieldsIf P ops C o v a ∧ wpQuiet P ops C (fun a' => wpTail P ops Q C late ts bs a' w) os (a.put o.dst v) := by
      unfold wpQuiet at h
      split at h
      · rename_i hw
        obtain ⟨v, hv, hk⟩ := h
        exact ⟨v, yieldsIf_of_quiet hp hw hv, hk⟩
      · rename_i hw
        exact ⟨undef, .inr ⟨by simpa using hw, rfl⟩, h⟩
    obtain ⟨v, hv, hk⟩ := hy
    rw [List.length_cons, show qs.length + 1 + ts.length = (qs.length + ts.length) + 1 by omega]
    refine wpAnyL_first he.1 hsel (fun c a w => hQ c a o.dst v w) (fun j oj hj hlj => ?_) _ l a w (Region.free_spec he.1 h1) (by simpa using h2) hv hC (any_of_take hsel hQ w hC qs os _ _ he.2 h5 hk)
    unfold lateWaits at h3
    rw [List.all_eq_true] at h3
    have := h3 j (by simpa using hlj)
    rw [hj] at this
    simp only [Option.map_some, Option.getD_some] at this
    obtain ⟨e, he', hb⟩ := Array.any_eq_true'.1 this
    simp only [Bool.and_eq_true, beq_iff_eq] at hb
    exact ⟨e, he', hb.1, hb.2⟩
/-- THE LAW: the quiet walk of what only reads, then the rest. -/
theorem wp_region_turn {id : Nat} {a : Act} {w : World} {l : List Oper} (qs ts bs late neut : List Nat) (os : List Oper) (C : World → Prop) (hm : P.follows .mixedOrders = true) (hs : Region.noSelect l.toArray = true) (he : qs.map (l.toArray[·]?) = os.map some)
    (hok : okTake .any l.toArray late neut ts bs qs (Array.replicate l.toArray.size false) = true) (hlen : qs.length + ts.length = l.toArray.size) (hC : C w.drew)
    (h : wpQuiet P l.toArray C (fun a' => wpTail P l.toArray (NoPanic Q) C late ts bs a' w.drew) os a) : (Code.region id l.toArray true).wp P Q a w := by
  refine wp_region_noPanic ?_
  refine wp_region_any hm (wpAny_of_late (C := C) (late := late.contains) (neut := neut.contains) _ _ _ _ ?_)
  rw [← hlen]
  exact any_of_take (Region.noSelect_spec hs) (fun _ _ _ _ _ h => h) w.drew hC qs os _ a he (by rw [hlen]; exact hok) h
theorem wpQuiet_mono' {Q1 Q2 : Act → Prop} (h : ∀ a, Q1 a → Q2 a) : ∀ {os : List Oper} {a : Act}, wpQuiet P ops C Q1 os a → wpQuiet P ops C Q2 os a
  | [], a, hh => h a hh
  | o :: os, a, hh => by
    unfold wpQuiet at hh ⊢
    split
    · rename_i hw
      rw [if_pos hw] at hh
      exact Oper.quiet_mono (fun a' => wpQuiet_mono' h) hh
    · rename_i hw
      rw [if_neg hw] at hh
      exact wpQuiet_mono' h hh
/-- Those that a mask names. -/
def pickAt : List Oper → List Bool → List Oper
  | o :: os, true :: m => o :: pickAt os m
  | _ :: os, false :: m => pickAt os m
  | _, _ => []
def maskIdx : Nat → List Bool → List Nat
  | _, [] => []
  | k, true :: m => k :: maskIdx (k + 1) m
  | k, false :: m => maskIdx (k + 1) m
theorem mask_ok {l : List Oper} : ∀ (m : List Bool) (k : Nat), k + m.length ≤ l.length → (maskIdx k m).map (l.toArray[·]?) = (pickAt (l.drop k) m).map some
  | [], k, _ => by simp [maskIdx]; cases l.drop k <;> rfl
  | b :: m, k, h => by
    have hk : k < l.length := by simp at h; omega
    have ih := mask_ok (l := l) m (k + 1) (by simp at h; omega)
    rw [List.drop_eq_getElem_cons hk]
    cases b
    · exact ih
    · simp only [maskIdx, pickAt, List.map_cons]
      rw [ih]
      simp [hk]
/-- A world of a class: what the walk's simp goes over. -/
structure Cls (C : World → Prop) where
  at_ : World
  ok : C at_
def InC (C : World → Prop) (w : World) : Prop := ∃ u : Cls C, w = u.at_
theorem InC.mk {C : World → Prop} {w : World} (h : C w) : InC C w := ⟨⟨w, h⟩, rfl⟩
theorem InC.out {C : World → Prop} {w : World} (h : ∃ u : Cls C, w = u.at_) : C w := by obtain ⟨u, rfl⟩ := h; exact u.ok
/-- What is left, one behind another, the operations themselves; a mark each. -/
def wpRest (P : Program) (ops : Array Oper) (Q : Exit → Act → World → Prop) (C : World → Prop) : List Nat → List Oper → Act → World → Prop
  | b :: bs, o :: os, a, w => (match b with
      | 2 => ∃ v, Yields P ops o v a ∧ wpRest P ops Q C bs os (a.put o.dst v) w
      | 3 => ∃ v, Yields P ops o v a ∧ wpRest P ops Q C bs os (a.put o.dst v) w
      | _ => if Region.wanted o (yielded ops a.tmps) = true then o.wp P a w (fun a' w' => (b = 0 → C w') ∧ wpRest P ops Q C bs os a' w') Q else ((b = 0 → C w) ∧ wpRest P ops Q C bs os (a.put o.dst undef) w))
  | _, _, a, w => Q .normal a w
theorem wpRest_cons {b : Nat} {bs : List Nat} {o : Oper} {os : List Oper} {a : Act} {w : World} (hb : (b != 2 && b != 3) = true) (hw : Region.wanted o (yielded ops a.tmps) = true)
    (h : ∀ K : Act → World → Prop, (∀ a' w', (b = 0 → C w') → wpRest P ops Q C bs os a' w' → K a' w') → o.wp P a w K Q) : wpRest P ops Q C (b :: bs) (o :: os) a w := by
  unfold wpRest
  split
  · simp at hb
  · simp at hb
  · rw [if_pos hw]
    exact h _ fun a' w' h1 h2 => ⟨h1, h2⟩
/-- A number handed on, whenever. -/
theorem wpRest_assign {bs : List Nat} {o : Oper} {os : List Oper} {a : Act} {w : World} (x : Operand) (ho : o.op = .assign x) (hw : Region.wanted o (yielded ops a.tmps) = true) {v : Value} (hx : ValOf a x v)
    (h : wpRest P ops Q C bs os (a.put o.dst v) w) : wpRest P ops Q C (2 :: bs) (o :: os) a w :=
  ⟨v, .inl ⟨hw, fun w => by unfold execOp; simp only [ho, hx.eval]; rfl⟩, h⟩
theorem wpRest_nil {a : Act} {w : World} (h : Q .normal a w) : wpRest P ops Q C [] [] a w := h
theorem tail_of_rest {late : List Nat} : ∀ (ts bs : List Nat) (os : List Oper) (a : Act) (w : World), ts.map (ops[·]?) = os.map some → ts.map (late.contains ·) = bs.map (fun b => b != 0 && b != 3) → wpRest P ops Q C bs os a w → wpTail P ops Q C late ts bs a w
  | [], bs, os, a, w, h1, h2, h => by
    obtain rfl : os = [] := by simpa using h1.symm
    obtain rfl : bs = [] := by simpa using h2.symm
    exact h
  | t :: ts, bs, os, a, w, h1, h2, h => by
    cases os with
    | nil => simp at h1
    | cons o os =>
      cases bs with
      | nil => simp at h2
      | cons b bs =>
        simp only [List.map_cons, List.cons.injEq] at h1 h2
        by_cases hb : b = 2
        · subst hb
          obtain ⟨v, hy, hk⟩ := h
          exact ⟨o, v, h1.1, hy, tail_of_rest ts bs os _ w h1.2 h2.2 hk⟩
        by_cases hb3 : b = 3
        · subst hb3
          obtain ⟨v, hy, hk⟩ := h
          exact ⟨o, v, h1.1, hy, tail_of_rest ts bs os _ w h1.2 h2.2 hk⟩
        · unfold wpTail
          unfold wpRest at h
          split
          · exact absurd rfl hb
          · exact absurd rfl hb3
          · unfold wpOp
            simp only [h1.1]
            split at h
            · exact absurd rfl hb
            · exact absurd rfl hb3
            · have hlt : late.contains t = false → b = 0 := fun hh => by
                rw [hh] at h2
                have h3 := h2.1
                have hb3' : (b != 3) = true := by simpa using hb3
                rw [hb3', Bool.and_true] at h3
                simpa using h3.symm
              split
              · rename_i hw
                rw [if_pos hw] at h
                exact .inl (Oper.wp_mono (fun a' w' ⟨k1, k2⟩ => ⟨fun hh => k1 (hlt hh), tail_of_rest ts bs os a' w' h1.2 h2.2 k2⟩) h)
              · rename_i hw
                rw [if_neg hw] at h
                exact ⟨fun hh => h.1 (hlt hh), tail_of_rest ts bs os _ w h1.2 h2.2 h.2⟩
def lateOf : List Nat → List Nat → List Nat
  | _ :: ts, 0 :: bs => lateOf ts bs
  | _ :: ts, 3 :: bs => lateOf ts bs
  | t :: ts, _ :: bs => t :: lateOf ts bs
  | _, _ => []
def neutOf : List Nat → List Nat → List Nat
  | t :: ts, 3 :: bs => t :: neutOf ts bs
  | _ :: ts, _ :: bs => neutOf ts bs
  | _, _ => []
theorem wp_region_mask {id : Nat} {a : Act} {w : World} {l : List Oper} (m m2 : List Bool) (bs : List Nat) (C : World → Prop) (hm : P.follows .mixedOrders = true) (hs : Region.noSelect l.toArray = true) (hl : ((m.length == l.length) && (m2.length == l.length)) = true)
    (hok : (okTake .any l.toArray (lateOf (maskIdx 0 m2) bs) (neutOf (maskIdx 0 m2) bs) (maskIdx 0 m2) bs (maskIdx 0 m) (Array.replicate l.toArray.size false) && (((maskIdx 0 m).length + (maskIdx 0 m2).length == l.toArray.size) && ((maskIdx 0 m2).map ((lateOf (maskIdx 0 m2) bs).contains ·) == bs.map (fun b => b != 0 && b != 3)))) = true) (hC : C w.drew)
    (h : Nonempty (Cls C) → wpQuiet P l.toArray (fun w' => ∃ u : Cls C, w' = u.at_) (fun a' => wpRest P l.toArray (NoPanic Q) (InC C) bs (pickAt l m2) a' w.drew) (pickAt l m) a) : (Code.region id l.toArray true).wp P Q a w := by
  simp only [Bool.and_eq_true, beq_iff_eq] at hl hok
  refine wp_region_turn (maskIdx 0 m) (maskIdx 0 m2) bs (lateOf (maskIdx 0 m2) bs) (neutOf (maskIdx 0 m2) bs) (pickAt l m) (InC C) hm hs (mask_ok (l := l) m 0 (by omega)) hok.1 hok.2.1 (InC.mk hC) ?_
  exact wpQuiet_mono' (fun a' h' => tail_of_rest _ _ _ a' _ (mask_ok (l := l) m2 0 (by omega)) hok.2.2 h') (h ⟨⟨_, hC⟩⟩)
/-- A load of one cell, in a quiet walk, whatever the class. -/
theorem wpQuiet_ld {Q : Act → Prop} {a : Act} {o : Oper} {rest : List Oper} (ty : TypeId) (x : Operand) (ho : o.op = .load ty x) (ad : Addr) (hx : a.eval x = .pointer (some ad)) (hw : Region.wanted o (yielded ops a.tmps) = true)
    (hp : (P.underlying ty).any (fun d => !d.isRow) = true) {v : Value} (h : ∀ w, C w → w.cell? ad = some v) (hk : wpQuiet P ops (fun w' => ∃ u : Cls C, w' = u.at_) Q rest (a.put o.dst v)) : wpQuiet P ops (fun w' => ∃ u : Cls C, w' = u.at_) Q (o :: rest) a := by
  refine BigFrame.wpQuiet_want hw fun K hK => ⟨v, fun w hC => ?_, hK _ hk⟩
  replace hC := InC.out hC
  unfold Oper.quietAt execOp
  simp only [ho, hx, Instr.loadAt, Instr.sureAddr, Sem.run_bind, Sem.run_pure, Result.andThen_ok, run_loadVar_one w ad ty v (h w hC) hp]
  exact ⟨rfl, rfl⟩
/-- A load of many. -/
theorem wpQuiet_la {Q : Act → Prop} {a : Act} {o : Oper} {rest : List Oper} (ty : TypeId) (x : Operand) (ho : o.op = .load ty x) (b off : Nat) (hx : a.eval x = .pointer (some ⟨b, off, none⟩)) (hw : Region.wanted o (yielded ops a.tmps) = true)
    (hr : (P.underlying ty).any (·.isRow) = true) (cs : List Value) (hi : (P.info? ty).map (·.size) = some cs.length) (h : ∀ w, C w → w.rangeAt b off cs) (hk : wpQuiet P ops (fun w' => ∃ u : Cls C, w' = u.at_) Q rest (a.put o.dst (.agg cs.toArray))) : wpQuiet P ops (fun w' => ∃ u : Cls C, w' = u.at_) Q (o :: rest) a := by
  refine BigFrame.wpQuiet_want hw fun K hK => ⟨.agg cs.toArray, fun w hC => ?_, hK _ hk⟩
  replace hC := InC.out hC
  cases hd : P.underlying ty with
  | none => rw [hd] at hr; cases hr
  | some d =>
    rw [hd] at hr
    unfold Oper.quietAt execOp
    simp only [ho, hx, Instr.loadAt, Instr.sureAddr, Sem.run_bind, Sem.run_pure, Result.andThen_ok, run_loadVar_mid w b off ty cs d (h w hC) hd hr hi]
    exact ⟨rfl, rfl⟩
end
end Go.Proofs.YtaaenolbfhhnfaaGreat
namespace Go.Proofs.YtaaenolbfhhnfaaGreat
open Go.RowKit
set_option linter.unusedSimpArgs false
set_option linter.unusedVariables false
/-- A list of numbers in memory of its own, as an append may go on. -/
structure ListOwn (D : Nat → Prop) (e : TypeId) (k : Nat) (W : World) (s : Sl) (L : List Int) : Prop where
  is : SlIs W k s L
  own : SlOwn D W s
  row : ∃ v, v = .slice s.a s.n s.c ∧ W.ownsRow 0 e k v s.n (rowL (intF (lz L)) (s.n * k)) ∧ ∀ g, v.ownBlock = some g → D g
def slI (D : Nat → Prop) (e : TypeId) (k : Nat) (s : Sl) (L : List Int) : Itm := ⟨D, fun W => ListOwn D e k W s L⟩
theorem slI_loc (D : Nat → Prop) (e : TypeId) (k : Nat) (s : Sl) (L : List Int) : (slI D e k s L).Loc := fun W W' h hs hk => by
  obtain ⟨h1, h2, v, h3, h4, h5⟩ := (h : ListOwn D e k W s L)
  refine ⟨h1.keep hs fun h0 b o e => ?_, h2.keep hk, v, h3, ownsRow_keep h4 fun g hg => hk g (h5 g hg), h5⟩
  obtain ⟨b2, e2, hD, _⟩ := h2 h0
  rw [e2] at e; cases e
  exact hk _ hD
/-- An empty literal. -/
def litI (b : Nat) (e : TypeId) (size : Nat) : Itm := ⟨fun k => k = b, fun W => W.ownsRow 0 e size (.slice (some ⟨b, 0, none⟩) 0 0) 0 []⟩
theorem litI_loc (b : Nat) (e : TypeId) (size : Nat) : (litI b e size).Loc := fun W W' h _ hk =>
  ownsRow_keep (show W.ownsRow 0 e size (.slice (some ⟨b, 0, none⟩) 0 0) 0 [] from h) fun g hg => hk g (by
    show g = b
    simp only [Value.ownBlock, Option.some.injEq] at hg
    omega)
theorem run_lit0 {P : Program} (w : World) (t e : TypeId) (size : Nat) (ht : P.underlying t = some (.slice e)) (hi : (P.info? e).map (·.size) = some size) : (Instr.buildSlice t 0 #[]).run P w = .ok (.slice (some ⟨w.heap.size, 0, none⟩) 0 0) (w.alloc (.cells #[] e)) := by
  unfold Instr.buildSlice
  cases hq : P.info? e with
  | none => simp [hq] at hi
  | some i =>
    simp [Sem.run_bind, run_underlying ht, sizeOf, typeInfo, hq, Instr.fill, newRow, Result.andThen, go_sem]
theorem stw_lit0 {w0 : World} {L : List Itm} {P : Program} {op : Oper} {a : Act} {w : World} {K : Act → World → Prop} {Q : Exit → Act → World → Prop} (HS : Hid (St w0 w L)) (t e : TypeId) (size : Nat) (ho : op.op = .buildSlice t 0 #[]) (ht : P.underlying t = some (.slice e)) (hi : (P.info? e).map (·.size) = some size)
    (hw : ∀ W b, Hid (St w0 W (litI b e size :: L)) → K (a.put op.dst (.slice (some ⟨b, 0, none⟩) 0 0)) W) : op.wp P a w K Q := by
  unfold Oper.wp execOp
  simp only [ho, Array.map_empty, Sem.run_bind, run_lit0 w t e size ht hi, Sem.run_pure, Result.andThen_ok]
  refine hw _ w.heap.size (HS.out.push ((Below.refl _ w).alloc (Nat.le_refl _) _) (litI w.heap.size e size) (litI_loc _ _ _) ?_ fun k hk => ?_)
  · exact World.ownsRow_made w #[] 0 (Nat.zero_le _) (by decide) (by simp)
  · obtain rfl : k = w.heap.size := hk
    exact ⟨Nat.le_refl _, by simp⟩
theorem st_lit0 {w0 : World} {L : List Itm} {P : Program} {ops : Array Oper} {rest : List Oper} {op : Oper} {a : Act} {w : World} {Q : Exit → Act → World → Prop} (HS : Hid (St w0 w L)) (t e : TypeId) (size : Nat) (ho : op.op = .buildSlice t 0 #[]) (hgd : Region.wanted op (yielded ops a.tmps) = true) (ht : P.underlying t = some (.slice e)) (hi : (P.info? e).map (·.size) = some size)
    (hw : ∀ W b, Hid (St w0 W (litI b e size :: L)) → wpList P ops Q rest (a.put op.dst (.slice (some ⟨b, 0, none⟩) 0 0)) W) : wpList P ops Q (op :: rest) a w :=
  BigFrame.wpList_want hgd fun _ hK => stw_lit0 HS t e size ho ht hi fun W b h => hK _ _ (hw W b h)
/-- What an append onto nothing leaves. -/
theorem run_copy {P : Program} {w : World} (t ty e : TypeId) (i : TypeInfo) (z : Value) (size bytes : Nat) (ht : P.underlying t = some (.slice e)) (hi : P.info? e = some i) (hz : i.zero = some z) (hsize : i.size = size) (hby : i.bytes = bytes) (hzs : z.cells.size = size) (hsz : 0 < size)
    (v : Value) (hown : w.ownsRow 0 e size v 0 []) (s : Sl) (f : Nat → Value) (hr : Row w s.a (s.n * size) f) (hf : s.a = none → s.n = 0 ∧ s.c = 0) (h1 : ∀ i, (f i).oneCell' = true) (hn : s.n ≤ maxLen) (hb : s.n * bytes ≤ 140737488355328) :
    ∃ (v' : Value) (w' : World), (Builtin.append_ #[t, t] ty #[v, .slice s.a s.n s.c]).run P w = .ok v' w' ∧ w'.ownsRow 0 e size v' s.n (rowL f (s.n * size)) ∧ w.grownBy w' v.ownBlock ∧ ∀ g, v'.ownBlock = some g → v.ownBlock = some g ∨ w.heap.size ≤ g := by
  cases hs : s.a with
  | none =>
    obtain ⟨hn0, hc0⟩ := hf hs
    rw [hn0, hc0]
    have := run_append_owned_none (P := P) (w := w) 0 t ty e i size ht hi v 0 [] hown
    refine ⟨v, w, ?_, ?_, grown_same _ _, fun g hg => .inl hg⟩
    · exact this
    · rw [Nat.zero_mul]; exact hown
  | some ad =>
    rw [hs] at hr
    have := run_append_apart (P := P) (w := w) 0 t ty e i z size bytes ht hi hz hsize hby hzs hsz v 0 [] hown ad s.n s.c (rowL f (s.n * size)) (rowL_len _ _) hr.news (rowL_one fun i _ => h1 i) (by omega) (by rw [Nat.zero_add]; exact hb) (Nat.zero_le _)
    obtain ⟨v', w', e1, e2, e3, e4⟩ := this
    rw [Nat.zero_add, List.nil_append] at e2
    exact ⟨v', w', e1, e2, e3, e4⟩
theorem slI_of {W : World} {e : TypeId} {k : Nat} {v : Value} {s : Sl} {L : List Int} {w : World} (h : SlIs w k s L) (ho : W.ownsRow 0 e k v s.n (rowL (intF (lz L)) (s.n * k))) (D : Nat → Prop) (hD : ∀ g, v.ownBlock = some g → D g) :
    ∃ s' : Sl, v = .slice s'.a s'.n s'.c ∧ s'.n = s.n ∧ ListOwn D e k W s' L := by
  obtain ⟨a', c', rfl, hc, ha', hr, ho'⟩ := slice_of_owns ho
  refine ⟨⟨a', s.n, c'⟩, rfl, rfl, ⟨h.1, ⟨h.2.1.1, hc, ha'⟩, hr⟩, fun h0 => ?_, _, rfl, ho, hD⟩
  obtain ⟨b, e1, _, _, l, hl, _⟩ := ho' h0
  refine ⟨b, e1, hD b ?_, l, hl⟩
  show Value.ownBlock (.slice a' s.n c') = some b
  rw [e1]; rfl
theorem stw_copy {w0 w : World} {L : List Itm} {P : Program} {op : Oper} {a : Act} {K : Act → World → Prop} {Q : Exit → Act → World → Prop} (HS : Hid (St w0 w L)) (j : Nat) {b : Nat} {e : TypeId} {k : Nat} (ej : L[j]? = some (litI b e k)) {s : Sl} {l : List Int} (hI : SlIs w k s l)
    (x y : Operand) (t : TypeId) (ho : op.op = .call { callee := .builtin .append, args := #[x, y], argTypes := #[t, t] }) (z : Value) (bytes : Nat) (ht : P.underlying t = some (.slice e)) (hi : (P.info? e).map (fun i => (i.zero, i.size, i.bytes)) = some (some z, k, bytes)) (hzs : z.cells.size = k) (hk : 0 < k) (hb8 : bytes = 8 * k)
    (hx : a.eval x = .slice (some ⟨b, 0, none⟩) 0 0) (hy : a.eval y = .slice s.a s.n s.c)
    (h : ∀ W D' s', Hid (s'.n = s.n) → Hid (St w0 W (L.set j (slI D' e k s' l))) → K (a.put op.dst (.slice s'.a s'.n s'.c)) W) : op.wp P a w K Q := by
  obtain ⟨i, hi', hz, hsize, hby⟩ := info_parts hi
  have hown : w.ownsRow 0 e k (.slice (some ⟨b, 0, none⟩) 0 0) 0 [] := HS.out.get j ej
  have hle := hI.2.1.1
  obtain ⟨v', W, hr, ho2, hg, hat⟩ := run_copy (P := P) t op.type e i z k bytes ht hi' hz hsize hby hzs hk _ hown s _ hI.2.2 hI.2.1.2.2 (fun _ => rfl) (by
    have : s.n * 1 ≤ s.n * (8 * k) := Nat.mul_le_mul_left _ (by omega)
    unfold maxLen; omega) (by rw [hb8]; omega)
  obtain ⟨s', rfl, hn, hs1⟩ := slI_of hI ho2 (fun g => g = b ∨ w.heap.size ≤ g ∧ g < W.heap.size) (fun g hg' => by
    rcases hat g hg' with h1 | h1
    · simp only [Value.ownBlock, Option.some.injEq] at h1; exact .inl h1.symm
    · exact .inr ⟨h1, (ho2.lt g hg').2⟩)
  unfold Oper.wp execOp
  simp only [ho, resolve, invoke, builtin, Sem.run_bind, Sem.run_pure, Result.andThen_ok, List.map_toArray, List.map_cons, List.map_nil, hx, hy, hr]
  refine h W _ s' hn (HS.out.set j ej (slI (fun g => g = b ∨ w.heap.size ≤ g ∧ g < W.heap.size) e k s' l) (chg_grown hg fun g hg' => ?_) (slI_loc _ _ _ _ _) hs1 fun g hg' => hg')
  simp only [Value.ownBlock, Option.some.injEq] at hg'
  exact hg'.symm
theorem stw_copyN {w0 w : World} {L : List Itm} {P : Program} {op : Oper} {a : Act} {K : Act → World → Prop} {Q : Exit → Act → World → Prop} (HS : Hid (St w0 w L)) (e : TypeId) {k : Nat} {s : Sl} {l : List Int} (hI : SlIs w k s l)
    (x y : Operand) (t : TypeId) (ho : op.op = .call { callee := .builtin .append, args := #[x, y], argTypes := #[t, t] }) (z : Value) (bytes : Nat) (ht : P.underlying t = some (.slice e)) (hi : (P.info? e).map (fun i => (i.zero, i.size, i.bytes)) = some (some z, k, bytes)) (hzs : z.cells.size = k) (hk : 0 < k) (hb8 : bytes = 8 * k)
    (hx : a.eval x = .slice none 0 0) (hy : a.eval y = .slice s.a s.n s.c)
    (h : ∀ W D' s', Hid (s'.n = s.n) → Hid (St w0 W (slI D' e k s' l :: L)) → K (a.put op.dst (.slice s'.a s'.n s'.c)) W) : op.wp P a w K Q := by
  obtain ⟨i, hi', hz, hsize, hby⟩ := info_parts hi
  have hle := hI.2.1.1
  obtain ⟨v', W, hr, ho2, hg, hat⟩ := run_copy (P := P) t op.type e i z k bytes ht hi' hz hsize hby hzs hk _ (World.ownsRow_nil w 0 e k) s _ hI.2.2 hI.2.1.2.2 (fun _ => rfl) (by
    have : s.n * 1 ≤ s.n * (8 * k) := Nat.mul_le_mul_left _ (by omega)
    unfold maxLen; omega) (by rw [hb8]; omega)
  obtain ⟨s', rfl, hn, hs1⟩ := slI_of hI ho2 (fun g => w.heap.size ≤ g ∧ g < W.heap.size) (fun g hg' => by
    rcases hat g hg' with h1 | h1
    · simp [Value.ownBlock] at h1
    · exact ⟨h1, (ho2.lt g hg').2⟩)
  unfold Oper.wp execOp
  simp only [ho, resolve, invoke, builtin, Sem.run_bind, Sem.run_pure, Result.andThen_ok, List.map_toArray, List.map_cons, List.map_nil, hx, hy, hr]
  exact h W _ s' hn (HS.out.push ((Below.refl _ w).grown hg (Nat.le_refl _) fun g hg' => by simp [Value.ownBlock] at hg') (slI (fun g => w.heap.size ≤ g ∧ g < W.heap.size) e k s' l) (slI_loc _ _ _ _ _) hs1 fun g hg' => hg')
theorem st_copy {w0 w : World} {L : List Itm} {P : Program} {ops : Array Oper} {rest : List Oper} {op : Oper} {a : Act} {Q : Exit → Act → World → Prop} (HS : Hid (St w0 w L)) (j : Nat) {b : Nat} {e : TypeId} {k : Nat} (ej : L[j]? = some (litI b e k)) {s : Sl} {l : List Int} (hI : SlIs w k s l) (hgd : Region.wanted op (yielded ops a.tmps) = true)
    (x y : Operand) (t : TypeId) (ho : op.op = .call { callee := .builtin .append, args := #[x, y], argTypes := #[t, t] }) (z : Value) (bytes : Nat) (ht : P.underlying t = some (.slice e)) (hi : (P.info? e).map (fun i => (i.zero, i.size, i.bytes)) = some (some z, k, bytes)) (hzs : z.cells.size = k) (hk : 0 < k) (hb8 : bytes = 8 * k)
    (hx : a.eval x = .slice (some ⟨b, 0, none⟩) 0 0) (hy : a.eval y = .slice s.a s.n s.c)
    (h : ∀ W D' s', Hid (s'.n = s.n) → Hid (St w0 W (L.set j (slI D' e k s' l))) → wpList P ops Q rest (a.put op.dst (.slice s'.a s'.n s'.c)) W) : wpList P ops Q (op :: rest) a w :=
  BigFrame.wpList_want hgd fun _ hK => stw_copy HS j ej hI x y t ho z bytes ht hi hzs hk hb8 hx hy fun W D' s' h1 h2 => hK _ _ (h W D' s' h1 h2)
theorem st_copyN {w0 w : World} {L : List Itm} {P : Program} {ops : Array Oper} {rest : List Oper} {op : Oper} {a : Act} {Q : Exit → Act → World → Prop} (HS : Hid (St w0 w L)) (e : TypeId) {k : Nat} {s : Sl} {l : List Int} (hI : SlIs w k s l) (hgd : Region.wanted op (yielded ops a.tmps) = true)
    (x y : Operand) (t : TypeId) (ho : op.op = .call { callee := .builtin .append, args := #[x, y], argTypes := #[t, t] }) (z : Value) (bytes : Nat) (ht : P.underlying t = some (.slice e)) (hi : (P.info? e).map (fun i => (i.zero, i.size, i.bytes)) = some (some z, k, bytes)) (hzs : z.cells.size = k) (hk : 0 < k) (hb8 : bytes = 8 * k)
    (hx : a.eval x = .slice none 0 0) (hy : a.eval y = .slice s.a s.n s.c)
    (h : ∀ W D' s', Hid (s'.n = s.n) → Hid (St w0 W (slI D' e k s' l :: L)) → wpList P ops Q rest (a.put op.dst (.slice s'.a s'.n s'.c)) W) : wpList P ops Q (op :: rest) a w :=
  BigFrame.wpList_want hgd fun _ hK => stw_copyN HS e hI x y t ho z bytes ht hi hzs hk hb8 hx hy fun W D' s' h1 h2 => hK _ _ (h W D' s' h1 h2)
/-- A session's lists, each in memory of its own, apart from the others. -/
structure SesOwn (D : Nat → Prop) (W : World) (q : SesM) (x : PSess) : Prop where
  is : SessIs W q x
  own : ∀ j, j < 3 → SlOwn D W (q.sl j)
  apart : ∀ i j, i < j → j < 3 → 0 < (q.sl i).n → 0 < (q.sl j).n → (q.sl i).a ≠ (q.sl j).a
theorem SesOwn.mono {D D' : Nat → Prop} {W : World} {q : SesM} {x : PSess} (h : SesOwn D W q x) (hd : ∀ k, D k → D' k) : SesOwn D' W q x := ⟨h.is, fun j hj => (h.own j hj).mono hd, h.apart⟩
def sesI (D : Nat → Prop) (q : SesM) (x : PSess) : Itm := ⟨D, fun W => SesOwn D W q x⟩
theorem sesI_loc (D : Nat → Prop) (q : SesM) (x : PSess) : (sesI D q x).Loc := fun W W' h hs hk => by
  have h : SesOwn D W q x := h
  exact ⟨h.is.keep hs fun j hj h0 b o e => (by
    obtain ⟨b2, e2, hD, _⟩ := h.own j hj h0
    rw [e2] at e; cases e
    exact hk _ hD), fun j hj => (h.own j hj).keep hk, h.apart⟩
/-- Two items' blocks are apart: so are their rows. -/
theorem SlOwn.ne {D D' : Nat → Prop} {W : World} {s s' : Sl} (h : SlOwn D W s) (h' : SlOwn D' W s') (hd : ∀ k, D k → D' k → False) (h0 : 0 < s.n) (h1 : 0 < s'.n) : s.a ≠ s'.a := fun e => by
  obtain ⟨b, e1, hD, _⟩ := h h0
  obtain ⟨b', e2, hD', _⟩ := h' h1
  rw [e1, e2] at e
  simp only [Option.some.injEq, Addr.mk.injEq, and_true] at e
  subst e
  exact hd _ hD hD'
end Go.Proofs.YtaaenolbfhhnfaaGreat
namespace Go.Proofs.YtaaenolbfhhnfaaGreat
open Go.RowKit
set_option linter.unusedSimpArgs false
set_option linter.unusedVariables false
section
variable {D D2 : Nat → Prop} {W : World} {A : MacM} {M : PMach}
theorem MachOwn.turnL (h : MachOwn D W A M) {i b j : Nat} (hi' : i < A.s.n) (hb : A.s.a = some ⟨b, 0, none⟩) (hj : j < 3) {s : Sl} {l : List Int} (hs : SlIs W (szL j) s l) (ho : SlOwn D2 W s) (hD : ∀ k, D k → D2 k → False) :
    MachOwn (fun k => D k ∨ D2 k) (W.setCell ⟨b, i * 17 + posL j, none⟩ (.slice s.a s.n s.c)) (A.setQ i ((A.q i).setL j s)) (M.setS i ((M.at i).setL j l)) := by
  have hp : posL j < 17 := by unfold posL; split <;> omega
  have h' : MachOwn (fun k => D k ∨ D2 k) W A M := h.mono fun k hk => .inl hk
  obtain ⟨b0, e0, hDb, _⟩ := h.sblk hi'
  rw [hb] at e0; cases e0
  obtain ⟨t1, t2, t3, t4⟩ := h'.cellTurn hi' hb hp (.slice s.a s.n s.c)
  have old : ∀ m, m < A.num → 0 < (A.sl m).n → 0 < s.n → (A.sl m).a ≠ s.a := fun m hm h0 hs0 e => by
    obtain ⟨b1, e1, d1, _⟩ := h.own m hm h0
    obtain ⟨b2, e2, d2, _⟩ := ho hs0
    rw [e1, e2] at e
    cases e
    exact hD _ d1 d2
  have sld : ∀ {m : Nat}, (A.setQ i ((A.q i).setL j s)).sl m = if 6 ≤ m ∧ (m - 6) / 3 = i then (if (m - 6) % 3 = j then s else (A.q i).sl ((m - 6) % 3)) else A.sl m := fun {m} => by
    rw [MacM.sl_setQ]
    split
    · rw [SesM.sl_setL _ hj (Nat.mod_lt _ (by decide))]
    · rfl
  have slq : ∀ {m : Nat}, 6 ≤ m ∧ (m - 6) / 3 = i → A.sl m = (A.q i).sl ((m - 6) % 3) := fun {m} hc => by
    have := A.sl_q i (j := (m - 6) % 3) (Nat.mod_lt _ (by decide))
    rw [show 6 + 3 * i + (m - 6) % 3 = m by omega] at this
    exact this
  refine h'.turn hi' hb ((A.q i).setL j s) ((M.at i).setL j l) t1 t2 (fun k hk => by rw [sessOf_setL _ _ hj]; exact t3 k hk) t4 ((h'.sesKeep hi' hb t1).setL hj ?_) (fun k hk => ?_) (fun k m hk hm hkm h0 h1 => ?_) (fun v hv g hg k hk h0 => ?_)
  · refine hs.keep t1.size fun h0 b' o e => ?_
    obtain ⟨b2, e2, d2, l2, hl⟩ := ho h0
    rw [e2] at e; cases e
    exact t1.block b' (by
      have : b' ≠ b := fun x => hD b hDb (x ▸ d2)
      omega) hl.lt
  · rw [SesM.sl_setL _ hj hk]
    split
    · intro h0
      obtain ⟨b2, e2, d2, l2, hl⟩ := ho h0
      have : b2 ≠ b := fun x => hD b hDb (x ▸ d2)
      exact ⟨b2, e2, .inr d2, l2, hl.touch t1 (by omega)⟩
    · exact h'.sesOwnKeep hi' t1 t2 hk
  · have hn : 6 + 3 * i + k < A.num := by unfold MacM.num; omega
    rw [SesM.sl_setL _ hj hk] at h0 ⊢
    rw [sld] at h1 ⊢
    by_cases hkj : k = j
    · subst hkj
      rw [if_pos rfl] at h0 ⊢
      by_cases hc : 6 ≤ m ∧ (m - 6) / 3 = i
      · rw [if_pos hc, if_neg (by omega)] at h1 ⊢
        rw [← slq hc] at h1 ⊢
        exact old m hm h1 h0
      · rw [if_neg hc] at h1 ⊢
        exact old m hm h1 h0
    · rw [if_neg hkj] at h0 ⊢
      by_cases hc : 6 ≤ m ∧ (m - 6) / 3 = i
      · by_cases hmj : (m - 6) % 3 = j
        · rw [if_pos hc, if_pos hmj] at h1 ⊢
          have := old _ hn (by rw [A.sl_q i hk]; exact h0) h1
          rw [A.sl_q i hk] at this
          exact this.symm
        · rw [if_pos hc, if_neg hmj] at h1 ⊢
          rw [← slq hc] at h1 ⊢
          have := h.ne (j := m) (k := 6 + 3 * i + k) (by omega) hm hn h1 (by rw [A.sl_q i hk]; exact h0)
          rw [A.sl_q i hk] at this
          exact this
      · rw [if_neg hc] at h1 ⊢
        have := h.ne (j := m) (k := 6 + 3 * i + k) (by omega) hm hn h1 (by rw [A.sl_q i hk]; exact h0)
        rw [A.sl_q i hk] at this
        exact this
  · rw [SesM.sl_setL _ hj hk] at h0 ⊢
    split at h0
    · rename_i hkj
      rw [if_pos hkj]
      obtain ⟨v', hv', _, hb5⟩ := h.trace
      subst hv; subst hv'
      obtain ⟨b2, e2, d2, _⟩ := ho h0
      intro e
      rw [e2] at e; cases e
      exact hD _ (hb5 g hg).1 d2
    · rename_i hkj
      rw [if_neg hkj]
      exact h.ses5 hi' v hv g hg k hk h0
end
/-- A list of numbers in memory of its own, of whatever make. -/
def lisI (D : Nat → Prop) (k : Nat) (s : Sl) (L : List Int) : Itm := ⟨D, fun W => SlIs W k s L ∧ SlOwn D W s⟩
theorem lisI_loc (D : Nat → Prop) (k : Nat) (s : Sl) (L : List Int) : (lisI D k s L).Loc := fun W W' h hs hk => by
  obtain ⟨h1, h2⟩ := (h : SlIs W k s L ∧ SlOwn D W s)
  refine ⟨h1.keep hs fun h0 b o e => ?_, h2.keep hk⟩
  obtain ⟨b2, e2, hD, _⟩ := h2 h0
  rw [e2] at e; cases e
  exact hk _ hD
section
variable {w0 w : World} {L : List Itm} {P : Program} {ops : Array Oper} {rest : List Oper} {op : Oper} {a : Act} {K : Act → World → Prop} {Q : Exit → Act → World → Prop} {D D2 : Nat → Prop} {A : MacM} {M : PMach}
theorem stw_storeL (HS : Hid (St w0 w L)) (i i2 : Nat) (ei : L[i]? = some (machI D A M)) {k bs : Nat} {s : Sl} {l : List Int} (j : Nat) (hj : j < 3) (e2 : L[i2]? = some (lisI D2 (szL j) s l)) (hne : i ≠ i2) (hk : k < A.s.n) (hbs : A.s.a = some ⟨bs, 0, none⟩) (ty : TypeId) (x y : Operand) (ho : op.op = .store ty x y) (o : Nat) (hx : a.eval x = .pointer (some ⟨bs, o, none⟩)) (ho' : o = k * 17 + posL j)
    (hy : ValOf a y (.slice s.a s.n s.c)) (hi : (P.info? ty).map (·.size) = some 1) (hw : ∀ W, Hid (St w0 W ((L.set i2 empI).set i (machI (fun k => D k ∨ D2 k) (A.setQ k ((A.q k).setL j s)) (M.setS k ((M.at k).setL j l))))) → K (a.put op.dst undef) W) : op.wp P a w K Q := by
  have hM : MachOwn D w A M := HS.out.get i ei
  have hL : SlIs w (szL j) s l ∧ SlOwn D2 w s := HS.out.get i2 e2
  have hp : posL j < 17 := by unfold posL; split <;> omega
  obtain ⟨b, eb, hD, l1, hl⟩ := hM.sblk hk
  rw [hbs] at eb; cases eb
  have hc : ∃ u, w.cell? ⟨bs, k * 17 + posL j, none⟩ = some u := by
    obtain ⟨b2, off, e2, _, hcc⟩ := hM.is.sess.cell hk hp
    rw [hbs] at e2; cases e2
    rw [Nat.zero_add] at hcc
    exact ⟨_, hcc⟩
  obtain ⟨u, hu⟩ := hc
  subst ho'
  have hdis : ∀ k, D k → D2 k → False := HS.out.apart i i2 _ _ ei e2 hne
  have l1' := machI_loc D A M
  have l2' := lisI_loc D2 (szL j) s l
  have HG := HS.out.give i i2 ei e2 hne (x' := ⟨fun k => D k ∨ D2 k, fun W => MachOwn D W A M ∧ (SlIs W (szL j) s l ∧ SlOwn D2 W s)⟩) (fun W W' h hs hk => ⟨l1' W W' h.1 hs fun k hk' => hk k (.inl hk'), l2' W W' h.2 hs fun k hk' => hk k (.inr hk')⟩) ⟨hM, hL⟩ fun k hk => hk
  have hiL : i < L.length := (List.getElem?_eq_some_iff.1 ei).1
  have hg : ((L.set i (⟨fun k => D k ∨ D2 k, fun W => MachOwn D W A M ∧ (SlIs W (szL j) s l ∧ SlOwn D2 W s)⟩ : Itm)).set i2 empI)[i]? = some ⟨fun k => D k ∨ D2 k, fun W => MachOwn D W A M ∧ (SlIs W (szL j) s l ∧ SlOwn D2 W s)⟩ := by
    rw [List.getElem?_set, if_neg (Ne.symm hne), List.getElem?_set, if_pos rfl, if_pos hiL]
  have HT := HG.set i hg (machI (fun k => D k ∨ D2 k) (A.setQ k ((A.q k).setL j s)) (M.setS k ((M.at k).setL j l))) (W' := w.setCell ⟨bs, k * 17 + posL j, none⟩ (.slice s.a s.n s.c)) (chg_set (.inl hD)) (machI_loc _ _ _) (hM.turnL hk hbs hj hL.1 hL.2 hdis) fun k hk => .inl hk
  have eq : ((L.set i (⟨fun k => D k ∨ D2 k, fun W => MachOwn D W A M ∧ (SlIs W (szL j) s l ∧ SlOwn D2 W s)⟩ : Itm)).set i2 empI).set i (machI (fun k => D k ∨ D2 k) (A.setQ k ((A.q k).setL j s)) (M.setS k ((M.at k).setL j l))) = (L.set i2 empI).set i (machI (fun k => D k ∨ D2 k) (A.setQ k ((A.q k).setL j s)) (M.setS k ((M.at k).setL j l))) := by
    rw [List.set_comm _ _ hne, List.set_set]
  rw [eq] at HT
  unfold Oper.wp execOp
  simp only [ho, hx, hy.eval, Instr.storeAt, Instr.sureAddr, Sem.run_bind, Sem.run_pure, Result.andThen_ok, run_storeVar_one w ⟨bs, k * 17 + posL j, none⟩ ty u (.slice s.a s.n s.c) hu (hl.frozen _) rfl hi]
  exact hw _ HT
theorem st_storeL (HS : Hid (St w0 w L)) (i i2 : Nat) (ei : L[i]? = some (machI D A M)) {k bs : Nat} {s : Sl} {l : List Int} (j : Nat) (hj : j < 3) (e2 : L[i2]? = some (lisI D2 (szL j) s l)) (hne : i ≠ i2) (hk : k < A.s.n) (hbs : A.s.a = some ⟨bs, 0, none⟩) (ty : TypeId) (x y : Operand) (ho : op.op = .store ty x y) (o : Nat) (hx : a.eval x = .pointer (some ⟨bs, o, none⟩)) (ho' : o = k * 17 + posL j) (hgd : Region.wanted op (yielded ops a.tmps) = true)
    (hy : ValOf a y (.slice s.a s.n s.c)) (hi : (P.info? ty).map (·.size) = some 1) (hw : ∀ W, Hid (St w0 W ((L.set i2 empI).set i (machI (fun k => D k ∨ D2 k) (A.setQ k ((A.q k).setL j s)) (M.setS k ((M.at k).setL j l))))) → wpList P ops Q rest (a.put op.dst undef) W) : wpList P ops Q (op :: rest) a w :=
  BigFrame.wpList_want hgd fun _ hK => stw_storeL HS i i2 ei j hj e2 hne hk hbs ty x y ho o hx ho' hy hi fun W h => hK _ _ (hw W h)
end
end Go.Proofs.YtaaenolbfhhnfaaGreat
namespace Go.Proofs.YtaaenolbfhhnfaaGreat
open Go.RowKit
set_option linter.unusedSimpArgs false
set_option linter.unusedVariables false
section
variable {P : Program} {ops : Array Oper} {Q : Exit → Act → World → Prop} {md : Region.Mode} {C : World → Prop}
def okTakeG (md : Region.Mode) (ops : Array Oper) (late : List Nat) (fin : Array Bool → Bool) : List Nat → Array Bool → Bool
  | q :: qs, l => Region.free md ops l q && (Region.ready md ops l).contains q && lateWaits md ops late q && ((ops[q]?).map fun o => plainB o.op).getD false && okTakeG md ops late fin qs (l.setIfInBounds q true)
  | [], l => fin l
theorem any_of_takeG {late neut : List Nat} {fin : Array Bool → Bool} {R : Act → Prop} {n : Nat} (hsel : ∀ (j : Nat) (o : Oper) cs b, ops[j]? = some o → o.op ≠ .select cs b) (hQ : ∀ c a d v w, Q (.panic c) (a.put d v) w → Q (.panic c) a w) (w : World) (hC : C w)
    (hfin : ∀ l a, fin l = true → R a → wpAnyL P md ops Q C late.contains neut.contains n l a w) :
    ∀ (qs : List Nat) (os : List Oper) (l : Array Bool) (a : Act), qs.map (ops[·]?) = os.map some → okTakeG md ops late fin qs l = true → wpQuiet P ops C R os a → wpAnyL P md ops Q C late.contains neut.contains (qs.length + n) l a w
  | [], [], l, a, _, hok, h => by
    rw [List.length_nil, Nat.zero_add]
    exact hfin l a hok h
  | [], _ :: _, _, _, he, _, _ => by simp at he
  | _ :: _, [], _, _, he, _, _ => by simp at he
  | q :: qs, o :: os, l, a, he, hok, h => by
    simp only [List.map_cons, List.cons.injEq] at he
    simp only [okTakeG, Bool.and_eq_true] at hok
    obtain ⟨⟨⟨⟨h1, h2⟩, h3⟩, h4⟩, h5⟩ := hok
    rw [he.1] at h4
    have hp : plainB o.op = true := by simpa using h4
    have hy : ∃ v, YieldsIf P ops C o v a ∧ wpQuiet P ops C R os (a.put o.dst v) := by
      unfold wpQuiet at h
      split at h
      · rename_i hw
        obtain ⟨v, hv, hk⟩ := h
        exact ⟨v, yieldsIf_of_quiet hp hw hv, hk⟩
      · rename_i hw
        exact ⟨undef, .inr ⟨by simpa using hw, rfl⟩, h⟩
    obtain ⟨v, hv, hk⟩ := hy
    rw [List.length_cons, show qs.length + 1 + n = (qs.length + n) + 1 by omega]
    refine wpAnyL_first he.1 hsel (fun c a w => hQ c a o.dst v w) (fun j oj hj hlj => ?_) _ l a w (Region.free_spec he.1 h1) (by simpa using h2) hv hC (any_of_takeG hsel hQ w hC hfin qs os _ _ he.2 h5 hk)
    unfold lateWaits at h3
    rw [List.all_eq_true] at h3
    have := h3 j (by simpa using hlj)
    rw [hj] at this
    simp only [Option.map_some, Option.getD_some] at this
    obtain ⟨e, he', hb⟩ := Array.any_eq_true'.1 this
    simp only [Bool.and_eq_true, beq_iff_eq] at hb
    exact ⟨e, he', hb.1, hb.2⟩
/-- One of two comes next. -/
def okFork (md : Region.Mode) (ops : Array Oper) (late neut : List Nat) (t1 : Nat) (ts1 bs1 : List Nat) (t2 : Nat) (ts2 bs2 : List Nat) (l : Array Bool) : Bool :=
  (Region.ready md ops l == [t1, t2]) && (okTail md ops late neut ts1 bs1 (l.setIfInBounds t1 true) && okTail md ops late neut ts2 bs2 (l.setIfInBounds t2 true))
theorem any_of_fork {late neut : List Nat} (hsel : ∀ (j : Nat) (o : Oper) cs b, ops[j]? = some o → o.op ≠ .select cs b) (hQ : ∀ c a d v w, Q (.panic c) (a.put d v) w → Q (.panic c) a w)
    {t1 t2 : Nat} {ts1 bs1 ts2 bs2 : List Nat} (hlen : ts1.length = ts2.length) (hl1 : late.contains t1 = false) (hl2 : late.contains t2 = false) (l : Array Bool) (a : Act) (w : World) (hok : okFork md ops late neut t1 ts1 bs1 t2 ts2 bs2 l = true)
    (h1 : wpTail P ops Q C late (t1 :: ts1) (0 :: bs1) a w) (h2 : wpTail P ops Q C late (t2 :: ts2) (0 :: bs2) a w) : wpAnyL P md ops Q C late.contains neut.contains (ts1.length + 1) l a w := by
  simp only [okFork, Bool.and_eq_true, beq_iff_eq] at hok
  obtain ⟨hr, ho1, ho2⟩ := hok
  have h1 : wpOp P ops Q t1 (fun a' w' => (late.contains t1 = false → C w') ∧ wpTail P ops Q C late ts1 bs1 a' w') a w := h1
  have h2 : wpOp P ops Q t2 (fun a' w' => (late.contains t2 = false → C w') ∧ wpTail P ops Q C late ts2 bs2 a' w') a w := h2
  refine ⟨fun h0 => (by rw [hr] at h0; cases h0), fun i hi => ?_⟩
  rw [hr, List.mem_cons, List.mem_singleton] at hi
  rcases hi with rfl | rfl
  · exact wpOp_mono (fun a' w' ⟨k1, k2⟩ => ⟨fun hl _ => k1 hl, any_of_tail hsel hQ ts1 bs1 _ a' w' ho1 k2⟩) h1
  · refine wpOp_mono (fun a' w' ⟨k1, k2⟩ => ⟨fun hl _ => k1 hl, ?_⟩) h2
    rw [hlen]
    exact any_of_tail hsel hQ ts2 bs2 _ a' w' ho2 k2
/-- Those that a list of places names. -/
def pickIx (l : List Oper) : List Nat → List Oper
  | [] => []
  | t :: ts => (match l[t]? with | some o => o :: pickIx l ts | none => [])
theorem pickIx_ok {l : List Oper} : ∀ {ts : List Nat}, (ts.all fun t => decide (t < l.length)) = true → ts.map (l.toArray[·]?) = (pickIx l ts).map some
  | [], _ => rfl
  | t :: ts, h => by
    simp only [List.all_cons, Bool.and_eq_true, decide_eq_true_eq] at h
    have ih := pickIx_ok h.2
    unfold pickIx
    rw [List.getElem?_eq_getElem h.1]
    simp only [List.map_cons]
    rw [ih]
    simp [h.1]
/-- THE LAW of a fork: what a mask names only reads; then t1 or t2, each ahead of its tail (marks as in wp_region_mask). -/
theorem wp_region_fork {id : Nat} {a : Act} {w : World} {l : List Oper} (m : List Bool) (t1 : Nat) (ts1 bs1 : List Nat) (t2 : Nat) (ts2 bs2 : List Nat) (C : World → Prop) (hm : P.follows .mixedOrders = true) (hs : Region.noSelect l.toArray = true) (hl : (m.length == l.length) = true)
    (hok : (okTakeG .any l.toArray (lateOf ts1 bs1) (okFork .any l.toArray (lateOf ts1 bs1) (neutOf ts1 bs1) t1 ts1 bs1 t2 ts2 bs2) (maskIdx 0 m) (Array.replicate l.toArray.size false) && (((maskIdx 0 m).length + (ts1.length + 1) == l.toArray.size) && (ts1.length == ts2.length) && ((t1 :: ts1).all fun t => decide (t < l.length)) && ((t2 :: ts2).all fun t => decide (t < l.length))
      && ((t1 :: ts1).map ((lateOf ts1 bs1).contains ·) == (0 :: bs1).map (fun b => b != 0 && b != 3)) && ((t2 :: ts2).map ((lateOf ts1 bs1).contains ·) == (0 :: bs2).map (fun b => b != 0 && b != 3)))) = true) (hC : C w.drew)
    (h : Nonempty (Cls C) → wpQuiet P l.toArray (fun w' => ∃ u : Cls C, w' = u.at_) (fun a' => wpRest P l.toArray (NoPanic Q) (InC C) (0 :: bs1) (pickIx l (t1 :: ts1)) a' w.drew ∧ wpRest P l.toArray (NoPanic Q) (InC C) (0 :: bs2) (pickIx l (t2 :: ts2)) a' w.drew) (pickAt l m) a) : (Code.region id l.toArray true).wp P Q a w := by
  simp only [Bool.and_eq_true] at hok
  obtain ⟨hok1, ⟨⟨⟨⟨hlen, hlen2⟩, hin1⟩, hin2⟩, hm1⟩, hm2⟩ := hok
  rw [beq_iff_eq] at hlen hlen2 hm1 hm2 hl
  refine wp_region_noPanic ?_
  refine wp_region_any hm (wpAny_of_late (C := InC C) (late := (lateOf ts1 bs1).contains) (neut := (neutOf ts1 bs1).contains) _ _ _ _ ?_)
  rw [← hlen]
  refine any_of_takeG (Region.noSelect_spec hs) (fun _ _ _ _ _ h => h) w.drew (InC.mk hC) (R := fun a' => wpRest P l.toArray (NoPanic Q) (InC C) (0 :: bs1) (pickIx l (t1 :: ts1)) a' w.drew ∧ wpRest P l.toArray (NoPanic Q) (InC C) (0 :: bs2) (pickIx l (t2 :: ts2)) a' w.drew) (fun l' a' hf hR => ?_) _ _ _ a (mask_ok (l := l) m 0 (by omega)) (by rw [hlen]; exact hok1) (h ⟨⟨_, hC⟩⟩)
  have e1 := hm1
  have e2 := hm2
  simp only [List.map_cons, List.cons.injEq] at e1 e2
  exact any_of_fork (Region.noSelect_spec hs) (fun _ _ _ _ _ h => h) hlen2 (by simpa using e1.1) (by simpa using e2.1) l' a' _ hf (tail_of_rest _ _ _ a' _ (pickIx_ok hin1) hm1 hR.1) (tail_of_rest _ _ _ a' _ (pickIx_ok hin2) hm2 hR.2)
/-- What only reads, then one that makes memory, then what only reads again. -/
def okMid (md : Region.Mode) (ops : Array Oper) (t : Nat) (qs2 : List Nat) (l : Array Bool) : Bool := (Region.ready md ops l == [t]) && okTakeG md ops [] (fun l => Region.ready md ops l == []) qs2 (l.setIfInBounds t true)
def wpMid (P : Program) (ops : Array Oper) (Q : Exit → Act → World → Prop) (C : World → Prop) (o : Oper) (os : List Oper) (a : Act) (w : World) : Prop :=
  if Region.wanted o (yielded ops a.tmps) = true then o.wp P a w (fun a' w' => InC C w' ∧ wpQuiet P ops (fun w' => ∃ u : Cls C, w' = u.at_) (fun a'' => Q .normal a'' w') os a') Q else InC C w ∧ wpQuiet P ops (fun w' => ∃ u : Cls C, w' = u.at_) (fun a'' => Q .normal a'' w) os (a.put o.dst undef)
theorem wpMid_op {o : Oper} {os : List Oper} {a : Act} {w : World} (hw : Region.wanted o (yielded ops a.tmps) = true)
    (h : ∀ K : Act → World → Prop, (∀ a' w', InC C w' → wpQuiet P ops (fun w' => ∃ u : Cls C, w' = u.at_) (fun a'' => Q .normal a'' w') os a' → K a' w') → o.wp P a w K Q) : wpMid P ops Q C o os a w := by
  unfold wpMid
  rw [if_pos hw]
  exact h _ fun a' w' h1 h2 => ⟨h1, h2⟩
theorem wp_region_mid {id : Nat} {a : Act} {w : World} {l : List Oper} (m : List Bool) (t : Nat) (o : Oper) (m2 : List Bool) (C : World → Prop) (hm : P.follows .mixedOrders = true) (hs : Region.noSelect l.toArray = true) (hl : ((m.length == l.length) && (m2.length == l.length)) = true) (ho : l[t]? = some o)
    (hok : (okTakeG .any l.toArray [] (okMid .any l.toArray t (maskIdx 0 m2)) (maskIdx 0 m) (Array.replicate l.toArray.size false) && ((maskIdx 0 m).length + ((maskIdx 0 m2).length + 1) == l.toArray.size)) = true) (hC : C w.drew)
    (h : Nonempty (Cls C) → wpQuiet P l.toArray (fun w' => ∃ u : Cls C, w' = u.at_) (fun a' => wpMid P l.toArray (NoPanic Q) C o (pickAt l m2) a' w.drew) (pickAt l m) a) : (Code.region id l.toArray true).wp P Q a w := by
  simp only [Bool.and_eq_true, decide_eq_true_eq] at hok hl
  obtain ⟨hok1, hlen⟩ := hok
  obtain ⟨hl1, hl2⟩ := hl
  rw [beq_iff_eq] at hlen hl1 hl2
  refine wp_region_noPanic ?_
  refine wp_region_any hm (wpAny_of_late (C := InC C) (late := ([] : List Nat).contains) (neut := ([] : List Nat).contains) _ _ _ _ ?_)
  rw [← hlen]
  refine any_of_takeG (Region.noSelect_spec hs) (fun _ _ _ _ _ h => h) w.drew (InC.mk hC) (R := fun a' => wpMid P l.toArray (NoPanic Q) C o (pickAt l m2) a' w.drew) (fun l' a' hf hR => ?_) _ _ _ a (mask_ok (l := l) m 0 (by omega)) (by rw [hlen]; exact hok1) (h ⟨⟨_, hC⟩⟩)
  simp only [okMid, Bool.and_eq_true, beq_iff_eq] at hf
  obtain ⟨hr, hf2⟩ := hf
  have ho' : l.toArray[t]? = some o := by simpa using ho
  have hR2 : wpOp P l.toArray (NoPanic Q) t (fun a' w' => InC C w' ∧ wpQuiet P l.toArray (fun w' => ∃ u : Cls C, w' = u.at_) (fun a'' => NoPanic Q .normal a'' w') (pickAt l m2) a') a' w.drew := by
    unfold wpMid at hR
    unfold wpOp
    simp only [ho']
    split
    · rename_i hw
      rw [if_pos hw] at hR
      exact .inl hR
    · rename_i hw
      rw [if_neg hw] at hR
      exact hR
  refine ⟨fun h0 => (by rw [hr] at h0; cases h0), fun i hi => ?_⟩
  rw [hr, List.mem_singleton] at hi
  subst hi
  refine wpOp_mono (fun a2 w2 ⟨k1, k2⟩ => ⟨fun _ _ => k1, ?_⟩) hR2
  have := any_of_takeG (n := 0) (late := []) (neut := []) (Region.noSelect_spec hs) (fun _ _ _ _ _ h => h) w2 k1 (R := fun a'' => NoPanic Q .normal a'' w2) (fun l3 a3 hf3 hR3 => ⟨by simpa using hf3, hR3⟩) _ _ _ a2 (mask_ok (l := l) m2 0 (by omega)) hf2 k2
  exact this
/-- What looks at no memory comes first (each by itself, whatever the world), then what only reads, then the tail. -/
def okPre (md : Region.Mode) (ops : Array Oper) (neut : List Nat) (fin : Array Bool → Bool) : List Nat → Array Bool → Bool
  | t :: ts, l => Region.free md ops l t && (Region.ready md ops l).contains t && neut.contains t && okPre md ops neut fin ts (l.setIfInBounds t true)
  | [], l => fin l
def wpPre (P : Program) (ops : Array Oper) (R : Act → Prop) : List Oper → Act → Prop
  | o :: os, a => ∃ v, Yields P ops o v a ∧ wpPre P ops R os (a.put o.dst v)
  | [], a => R a
theorem any_of_pre {late neut : List Nat} {fin : Array Bool → Bool} {R : Act → Prop} {n : Nat} {w : World} (hsel : ∀ (j : Nat) (o : Oper) cs b, ops[j]? = some o → o.op ≠ .select cs b) (hQ : ∀ c a d v w, Q (.panic c) (a.put d v) w → Q (.panic c) a w)
    (hfin : ∀ l a, fin l = true → R a → wpAnyL P md ops Q C late.contains neut.contains n l a w) :
    ∀ (ts : List Nat) (os : List Oper) (l : Array Bool) (a : Act), ts.map (ops[·]?) = os.map some → okPre md ops neut fin ts l = true → wpPre P ops R os a → wpAnyL P md ops Q C late.contains neut.contains (ts.length + n) l a w
  | [], [], l, a, _, hok, h => by
    rw [List.length_nil, Nat.zero_add]
    exact hfin l a hok h
  | [], _ :: _, _, _, he, _, _ => by simp at he
  | _ :: _, [], _, _, he, _, _ => by simp at he
  | t :: ts, o :: os, l, a, he, hok, h => by
    simp only [List.map_cons, List.cons.injEq] at he
    simp only [okPre, Bool.and_eq_true] at hok
    obtain ⟨⟨⟨h1, h2⟩, h3⟩, h4⟩ := hok
    obtain ⟨v, hy, hk⟩ := h
    rw [List.length_cons, show ts.length + 1 + n = (ts.length + n) + 1 by omega]
    exact wpAnyL_worldless he.1 hsel (fun c a w => hQ c a o.dst v w) (.inr h3) _ l a w (Region.free_spec he.1 h1) (by simpa using h2) hy (any_of_pre hsel hQ hfin ts os _ _ he.2 h4 hk)
theorem wp_region_pre {id : Nat} {a : Act} {w : World} {l : List Oper} (ps qs ts bs : List Nat) (C : World → Prop) (hm : P.follows .mixedOrders = true) (hs : Region.noSelect l.toArray = true)
    (hl : ((ps.all fun t => decide (t < l.length)) && ((qs.all fun t => decide (t < l.length)) && (ts.all fun t => decide (t < l.length)))) = true)
    (hok : (okPre .any l.toArray (ps ++ neutOf ts bs) (okTakeG .any l.toArray (lateOf ts bs) (okTail .any l.toArray (lateOf ts bs) (ps ++ neutOf ts bs) ts bs) qs) ps (Array.replicate l.toArray.size false) && ((ps.length + (qs.length + ts.length) == l.toArray.size) && (ts.map ((lateOf ts bs).contains ·) == bs.map (fun b => b != 0 && b != 3)))) = true) (hC : C w.drew)
    (h : Nonempty (Cls C) → wpPre P l.toArray (fun a' => wpQuiet P l.toArray (fun w' => ∃ u : Cls C, w' = u.at_) (fun a'' => wpRest P l.toArray (NoPanic Q) (InC C) bs (pickIx l ts) a'' w.drew) (pickIx l qs) a') (pickIx l ps) a) : (Code.region id l.toArray true).wp P Q a w := by
  simp only [Bool.and_eq_true] at hok hl
  obtain ⟨hok1, hlen, hmk⟩ := hok
  obtain ⟨hl1, hl2, hl3⟩ := hl
  rw [beq_iff_eq] at hlen hmk
  refine wp_region_noPanic ?_
  refine wp_region_any hm (wpAny_of_late (C := InC C) (late := (lateOf ts bs).contains) (neut := (ps ++ neutOf ts bs).contains) _ _ _ _ ?_)
  rw [← hlen]
  refine any_of_pre (Region.noSelect_spec hs) (fun _ _ _ _ _ h => h) (R := fun a' => wpQuiet P l.toArray (fun w' => ∃ u : Cls C, w' = u.at_) (fun a'' => wpRest P l.toArray (NoPanic Q) (InC C) bs (pickIx l ts) a'' w.drew) (pickIx l qs) a') (fun l1 a1 hf1 hR1 => ?_) ps _ _ a (pickIx_ok hl1) (by rw [hlen]; exact hok1) (h ⟨⟨_, hC⟩⟩)
  refine any_of_takeG (Region.noSelect_spec hs) (fun _ _ _ _ _ h => h) w.drew (InC.mk hC) (R := fun a'' => wpRest P l.toArray (NoPanic Q) (InC C) bs (pickIx l ts) a'' w.drew) (fun l2 a2 hf2 hR2 => ?_) qs _ l1 a1 (pickIx_ok hl2) hf1 hR1
  exact any_of_tail (Region.noSelect_spec hs) (fun _ _ _ _ _ h => h) ts bs l2 a2 _ hf2 (tail_of_rest _ _ _ a2 _ (pickIx_ok hl3) hmk hR2)
theorem wpPre_of {R : Act → Prop} {o : Oper} {os : List Oper} {a : Act} {v : Value} (hw : Region.wanted o (yielded ops a.tmps) = true) (hv : ∀ w, (execOp a.eval o).run P w = .ok (.value v) w) (h : wpPre P ops R os (a.put o.dst v)) : wpPre P ops R (o :: os) a := ⟨v, .inl ⟨hw, hv⟩, h⟩
theorem wpPre_move {R : Act → Prop} {o : Oper} {os : List Oper} {a : Act} (x : Operand) (ho : o.op = .move x) (hw : Region.wanted o (yielded ops a.tmps) = true) {v : Value} (hx : ValOf a x v) (h : wpPre P ops R os (a.put o.dst v)) : wpPre P ops R (o :: os) a :=
  wpPre_of hw (fun w => by unfold execOp; simp only [ho, hx.eval]; rfl) h
theorem wpPre_nilCheck {R : Act → Prop} {o : Oper} {os : List Oper} {a : Act} (x : Operand) (ho : o.op = .nilCheck x) (hw : Region.wanted o (yielded ops a.tmps) = true) {ad : Addr} (hx : ValOf a x (.pointer (some ad))) (h : wpPre P ops R os (a.put o.dst (.pointer (some ad)))) : wpPre P ops R (o :: os) a :=
  wpPre_of hw (fun w => by unfold execOp; simp only [ho, hx.eval]; rfl) h
theorem wpRest_nilCheck {bs : List Nat} {o : Oper} {os : List Oper} {a : Act} {w : World} (x : Operand) (ho : o.op = .nilCheck x) (hw : Region.wanted o (yielded ops a.tmps) = true) {ad : Addr} (hx : ValOf a x (.pointer (some ad)))
    (h : wpRest P ops Q C bs os (a.put o.dst (.pointer (some ad))) w) : wpRest P ops Q C (3 :: bs) (o :: os) a w :=
  ⟨_, .inl ⟨hw, fun w => by unfold execOp; simp only [ho, hx.eval]; rfl⟩, h⟩
theorem wpRest_of {bs : List Nat} {o : Oper} {os : List Oper} {a : Act} {w : World} {v : Value} (hw : Region.wanted o (yielded ops a.tmps) = true) (hv : ∀ w, (execOp a.eval o).run P w = .ok (.value v) w) (h : wpRest P ops Q C bs os (a.put o.dst v) w) : wpRest P ops Q C (3 :: bs) (o :: os) a w := ⟨v, .inl ⟨hw, hv⟩, h⟩
end
end Go.Proofs.YtaaenolbfhhnfaaGreat
namespace Go.Proofs.YtaaenolbfhhnfaaGreat
open Go.RowKit
set_option linter.unusedSimpArgs false
set_option linter.unusedVariables false
theorem askUpTo_any (n m : Int) (w : World) :
    Calls Tryz.prog 47 #[.int .i64 n, .int .i64 m] w fun e w' => e = .returned (.bool (upToV n m)) ∧ w = w' := by
  unfold upToV
  by_cases h0 : 0 ≤ n
  · by_cases h1 : n ≤ m
    · rw [decide_eq_true (show 0 ≤ n ∧ n ≤ m from ⟨h0, h1⟩)]
      go_enter Tryz.func47, Tryz.ntmps47
      go_wp2
      go_ret
      exact ⟨rfl, rfl⟩
    · rw [decide_eq_false (show ¬ (0 ≤ n ∧ n ≤ m) from fun x => h1 x.2)]
      go_enter Tryz.func47, Tryz.ntmps47
      go_wp2
      go_ret
      exact ⟨rfl, rfl⟩
  · rw [decide_eq_false (show ¬ (0 ≤ n ∧ n ≤ m) from fun x => h0 x.1)]
    go_enter Tryz.func47, Tryz.ntmps47
    go_wp2
    go_ret
    exact ⟨rfl, rfl⟩
/-- Is it so of all reads? The question is a function value, whatever it holds. -/
theorem askAll_any (F : FuncId) (fs cs : Array Value) (p : Nat → Bool) (a : Option Addr) (n c : Nat) (z : Nat → Int) (w : World) (hn : n ≤ 1152921504606846976) (h : Row w a (n * 3) fun i => .int .i64 (z i))
    (hF : ∀ args W, Sem.run Tryz.prog (callFunc F args) W = .ok (.enter F args) W)
    (C : Hid (∀ k, k < n → ∀ W, Below w.heap.size w W → Calls Tryz.prog F (fs.push (.agg #[.int .i64 (z (k * 3)), .int .i64 (z (k * 3 + 1)), .int .i64 (z (k * 3 + 2))]) ++ cs) W fun e w' => e = .returned (.bool (p k)) ∧ Below W.heap.size W w')) :
    Calls Tryz.prog 123 #[.slice a n c, .func (.func F) fs cs] w fun e w' => e = .returned (.bool (allTo p n)) ∧ Below w.heap.size w w' := by
  go_enter Tryz.func123, Tryz.ntmps123
  go_wp2
  go_loopw [9] (fun i wr => ∃ k : Nat, k ≤ n ∧ i = .int .i64 k ∧ Hid (allTo p k = true) ∧ Below w.heap.size w wr) (fun i _ => n - (intOf i).toNat)
  case atStart => exact ⟨0, Nat.zero_le _, rfl, rfl, Below.refl _ _⟩
  case round =>
    obtain ⟨k, hk, rfl, HS, hb⟩ := hrel
    by_cases hlt : k < n
    · have i1 : (k : Int) < (n : Int) := by omega
      obtain ⟨b, off, hsa, hbl, d0, d1, d2⟩ := (h.below hb (Nat.le_refl _)).at3 k hlt
      subst hsa
      have C1 := hide (C.out k hlt)
      clear C h
      have s0 := hb.size
      cases hp : p k
      · rw [hp] at C1
        have HN : Hid (allTo p n = false) := allTo_no k hlt hp
        clear hp
        go_wp2_with fail
        refine (C1.out _ ?_).mono ?_
        · go_grown
        rintro e w1 ⟨rfl, hb1⟩
        have b1 : Below w.heap.size w w1 := Below.on (by go_grown) hb1
        clear hb1 d0 d1 d2 C1 hF
        go_wp2
        go_ret
        exact ⟨ret_bool HN.out.symm, b1⟩
      · rw [hp] at C1
        have HN : Hid (allTo p (k + 1) = true) := by
          show allTo p (k + 1) = true
          rw [allTo, HS.out, hp]
          rfl
        clear hp
        go_wp2_with fail
        refine (C1.out _ ?_).mono ?_
        · go_grown
        rintro e w1 ⟨rfl, hb1⟩
        have b1 : Below w.heap.size w w1 := Below.on (by go_grown) hb1
        clear hb1 d0 d1 d2 C1 hF hb s0
        go_wp2
        go_roundw
        case rel => exact ⟨k + 1, by omega, by go_num, HN, b1⟩
        case measure => simp [intOf]; omega
    · obtain rfl : k = n := by omega
      go_wp2
      go_ret
      exact ⟨ret_bool HS.out.symm, hb⟩
/-- Is it so of all writes? The question is a function value, whatever it holds. -/
theorem askAllW_any (F : FuncId) (fs cs : Array Value) (p : Nat → Bool) (a : Option Addr) (n c : Nat) (z : Nat → Int) (w : World) (hn : n ≤ 1152921504606846976) (h : Row w a (n * 3) fun i => .int .i64 (z i))
    (hF : ∀ args W, Sem.run Tryz.prog (callFunc F args) W = .ok (.enter F args) W)
    (C : Hid (∀ k, k < n → ∀ W, Below w.heap.size w W → Calls Tryz.prog F (fs.push (.agg #[.int .i64 (z (k * 3)), .int .i64 (z (k * 3 + 1)), .int .i64 (z (k * 3 + 2))]) ++ cs) W fun e w' => e = .returned (.bool (p k)) ∧ Below W.heap.size W w')) :
    Calls Tryz.prog 126 #[.slice a n c, .func (.func F) fs cs] w fun e w' => e = .returned (.bool (allTo p n)) ∧ Below w.heap.size w w' := by
  go_enter Tryz.func126, Tryz.ntmps126
  go_wp2
  go_loopw [9] (fun i wr => ∃ k : Nat, k ≤ n ∧ i = .int .i64 k ∧ Hid (allTo p k = true) ∧ Below w.heap.size w wr) (fun i _ => n - (intOf i).toNat)
  case atStart => exact ⟨0, Nat.zero_le _, rfl, rfl, Below.refl _ _⟩
  case round =>
    obtain ⟨k, hk, rfl, HS, hb⟩ := hrel
    by_cases hlt : k < n
    · have i1 : (k : Int) < (n : Int) := by omega
      obtain ⟨b, off, hsa, hbl, d0, d1, d2⟩ := (h.below hb (Nat.le_refl _)).at3 k hlt
      subst hsa
      have C1 := hide (C.out k hlt)
      clear C h
      have s0 := hb.size
      cases hp : p k
      · rw [hp] at C1
        have HN : Hid (allTo p n = false) := allTo_no k hlt hp
        clear hp
        go_wp2_with fail
        refine (C1.out _ ?_).mono ?_
        · go_grown
        rintro e w1 ⟨rfl, hb1⟩
        have b1 : Below w.heap.size w w1 := Below.on (by go_grown) hb1
        clear hb1 d0 d1 d2 C1 hF
        go_wp2
        go_ret
        exact ⟨ret_bool HN.out.symm, b1⟩
      · rw [hp] at C1
        have HN : Hid (allTo p (k + 1) = true) := by
          show allTo p (k + 1) = true
          rw [allTo, HS.out, hp]
          rfl
        clear hp
        go_wp2_with fail
        refine (C1.out _ ?_).mono ?_
        · go_grown
        rintro e w1 ⟨rfl, hb1⟩
        have b1 : Below w.heap.size w w1 := Below.on (by go_grown) hb1
        clear hb1 d0 d1 d2 C1 hF hb s0
        go_wp2
        go_roundw
        case rel => exact ⟨k + 1, by omega, by go_num, HN, b1⟩
        case measure => simp [intOf]; omega
    · obtain rfl : k = n := by omega
      go_wp2
      go_ret
      exact ⟨ret_bool HS.out.symm, hb⟩
end Go.Proofs.YtaaenolbfhhnfaaGreat
namespace Go.Proofs.YtaaenolbfhhnfaaGreat
open Go.RowKit
set_option linter.unusedSimpArgs false
def SetC : Prop := ∀ (c : Nat → Int) (a b : Int) (w : World), Calls Tryz.prog 169 #[quadA c, .int .i64 a, .int .i64 b] w fun e w' => e = .returned (.tuple #[quadA (setC c a b), .int .i64 (setE c a b)]) ∧ Below w.heap.size w w'
end Go.Proofs.YtaaenolbfhhnfaaGreat
namespace Go.Proofs.YtaaenolbfhhnfaaGreat
open Go.RowKit
set_option linter.unusedSimpArgs false
theorem rgisReg_any (n : Int) (w : World) :
    Calls Tryz.prog 185 #[.int .i64 n] w fun e w' => e = .returned (.bool (upToV n 3)) ∧ w = w' := by
  unfold upToV
  by_cases h0 : 0 ≤ n
  · by_cases h1 : n ≤ 3
    · rw [decide_eq_true (show 0 ≤ n ∧ n ≤ 3 from ⟨h0, h1⟩)]
      have h2 : n < 4 := by omega
      go_enter Tryz.func185, Tryz.ntmps185
      go_wp2
      go_ret
      exact ⟨rfl, rfl⟩
    · rw [decide_eq_false (show ¬ (0 ≤ n ∧ n ≤ 3) from fun x => h1 x.2)]
      have h2 : ¬ n < 4 := by omega
      go_enter Tryz.func185, Tryz.ntmps185
      go_wp2
      go_ret
      exact ⟨rfl, rfl⟩
  · rw [decide_eq_false (show ¬ (0 ≤ n ∧ n ≤ 3) from fun x => h0 x.1)]
    go_enter Tryz.func185, Tryz.ntmps185
    go_wp2
    go_ret
    exact ⟨rfl, rfl⟩
theorem gmay_any (n : Int) (w : World) :
    Calls Tryz.prog 186 #[.int .i64 n] w fun e w' => e = .returned (.bool (upToV n 255)) ∧ w = w' := by
  unfold upToV
  by_cases h0 : 0 ≤ n
  · by_cases h1 : n ≤ 255
    · rw [decide_eq_true (show 0 ≤ n ∧ n ≤ 255 from ⟨h0, h1⟩)]
      go_enter Tryz.func186, Tryz.ntmps186
      go_wp2
      go_ret
      exact ⟨rfl, rfl⟩
    · rw [decide_eq_false (show ¬ (0 ≤ n ∧ n ≤ 255) from fun x => h1 x.2)]
      go_enter Tryz.func186, Tryz.ntmps186
      go_wp2
      go_ret
      exact ⟨rfl, rfl⟩
  · rw [decide_eq_false (show ¬ (0 ≤ n ∧ n ≤ 255) from fun x => h0 x.1)]
    go_enter Tryz.func186, Tryz.ntmps186
    go_wp2
    go_ret
    exact ⟨rfl, rfl⟩
/-- The function that is handed to the library: a register may not be. -/
theorem glit_any (n : Int) (w : World) :
    Calls Tryz.prog 191 #[.int .i64 n] w fun e w' => e = .returned (.bool (!upToV n 255)) ∧ w = w' := by
  go_enter Tryz.func191, Tryz.ntmps191
  go_wp2_with (go_at_call 186; refine (gmay_any _ _).mono ?_; rintro e w' ⟨rfl, rfl⟩)
  go_ret
  exact ⟨rfl, rfl⟩
/-- The place of the first that may not be, or -1. -/
theorem gidx_any (b : Nat) (c : Nat → Int) (w : World) (h : Blk w b (quadL c)) :
    Calls Tryz.prog 194 #[.slice (some ⟨b, 0, none⟩) 4 4, .func (.func 191) #[] #[]] w fun e w' => (∃ i : Int, e = .returned (.int .i64 i) ∧ (0 ≤ i ↔ allUp c 255 4 = false)) ∧ w = w' := by
  go_enter Tryz.func194, Tryz.ntmps194
  go_wp2
  go_loopw [8] (fun i wr => ∃ k : Nat, k ≤ 4 ∧ i = .int .i64 k ∧ allUp c 255 k = true ∧ w = wr) (fun i _ => 4 - (intOf i).toNat)
  case atStart => exact ⟨0, Nat.zero_le _, rfl, rfl, rfl⟩
  case round =>
    obtain ⟨k, hk, rfl, hs, rfl⟩ := hrel
    have HS := hide hs
    clear hs
    by_cases hlt : k < 4
    · have i1 : (k : Int) < 4 := by omega
      have d0 := h.cell k _ (quadL_get c hlt)
      cases hv : upToV (c k) 255
      · go_wp2_with fail
        refine (glit_any _ _).mono ?_
        rintro e w1 ⟨rfl, rfl⟩
        rw [hv]
        go_wp2
        go_ret
        exact ⟨⟨_, rfl, fun _ => allUp_no k hlt hv, fun _ => by omega⟩, rfl⟩
      · have HN : Hid (allUp c 255 (k + 1) = true) := by
          show allUp c 255 (k + 1) = true
          rw [allUp, HS.out, hv]
          rfl
        go_wp2_with fail
        refine (glit_any _ _).mono ?_
        rintro e w1 ⟨rfl, rfl⟩
        rw [hv]
        go_wp2
        go_roundw
        case rel => exact ⟨k + 1, by omega, by go_num, HN.out, trivial⟩
        case measure => simp [intOf]; omega
    · obtain rfl : k = 4 := by omega
      go_wp2
      go_ret
      exact ⟨⟨_, rfl, fun h => by omega, fun h => by rw [HS.out] at h; cases h⟩, rfl⟩
theorem ghas_any (b : Nat) (c : Nat → Int) (w : World) (h : Blk w b (quadL c)) :
    Calls Tryz.prog 190 #[.slice (some ⟨b, 0, none⟩) 4 4, .func (.func 191) #[] #[]] w fun e w' => e = .returned (.bool (!allUp c 255 4)) ∧ w = w' := by
  go_enter Tryz.func190, Tryz.ntmps190
  go_wp2_with fail
  refine (gidx_any b c _ h).mono ?_
  rintro e w1 ⟨⟨i, rfl, hi⟩, rfl⟩
  have HI := hide hi
  clear hi
  go_wp2
  go_ret
  refine ⟨ret_bool ?_, rfl⟩
  cases e : allUp c 255 4
  · exact decide_eq_true (HI.out.2 e)
  · refine decide_eq_false fun h => ?_
    have := HI.out.1 h
    rw [e] at this
    cases this
theorem gone_any (c : Nat → Int) (w : World) :
    Calls Tryz.prog 184 #[quadA c] w fun e w' => e = .returned (.bool (!allUp c 255 4)) ∧ Below w.heap.size w w' := by
  have B := blk_new w (quadL c) 30
  have C := hide (ghas_any _ c _ B)
  clear B
  unfold quadA
  go_enter Tryz.func184, Tryz.ntmps184
  go_wp2_with fail
  refine C.out.mono ?_
  rintro e w1 ⟨rfl, rfl⟩
  clear C
  go_wp2
  go_ret
  exact ⟨rfl, by go_grown⟩
set_option maxHeartbeats 1000000 in
theorem set_c : SetC := by
  intro c a b w
  cases h1 : allUp c 255 4
  · obtain ⟨e1, e2⟩ := set_no (c := c) (a := a) (v := b) (and3_no1 h1)
    rw [e1, e2]
    unfold quadA
    go_enter Tryz.func169, Tryz.ntmps169
    go_wp2_with fail
    refine (gone_any c _).mono ?_
    rintro e w1 ⟨rfl, hb⟩
    rw [h1]
    have B2 := (blk_new (w.alloc _) _ _).on hb
    rw [World.size_alloc] at B2
    have b1 : Below w.heap.size w w1 := Below.on (by go_grown) hb
    obtain ⟨⟨d0, d1, d2, d3⟩, g0, g1, g2, g3⟩ := B2.four
    clear hb
    go_wp2
    exact bodyPost_ret (v := .tuple #[.agg #[.int .i64 0, .int .i64 0, .int .i64 0, .int .i64 0], .int .i64 600]) (by simp [results, Tryz.results169, go_sem, d0, d1, d2, d3]) rfl ⟨rfl, by go_grown⟩
  cases h2 : upToV a 3 && upToV b 255
  · obtain ⟨e1, e2⟩ := set_no (c := c) (a := a) (v := b) (by unfold setOk; rw [Bool.and_assoc, h2, Bool.and_false])
    rw [e1, e2]
    unfold quadA
    cases ha : upToV a 3 <;> cases hv : upToV b 255 <;> (try (rw [ha, hv] at h2; cases h2; done))
    all_goals
      go_enter Tryz.func169, Tryz.ntmps169
      go_wp2_with fail
      refine (gone_any c _).mono ?_
      rintro e w1 ⟨rfl, hb⟩
      rw [h1]
      have B2 := (blk_new (w.alloc _) _ _).on hb
      rw [World.size_alloc] at B2
      have b1 : Below w.heap.size w w1 := Below.on (by go_grown) hb
      obtain ⟨⟨d0, d1, d2, d3⟩, g0, g1, g2, g3⟩ := B2.four
      clear hb h2
      go_wp2_with (first | (go_at_call 185; refine (rgisReg_any _ _).mono ?_; rintro e w' ⟨rfl, rfl⟩) | (go_at_call 186; refine (gmay_any _ _).mono ?_; rintro e w' ⟨rfl, rfl⟩))
      exact bodyPost_ret (v := .tuple #[.agg #[.int .i64 0, .int .i64 0, .int .i64 0, .int .i64 0], .int .i64 600]) (by simp [results, Tryz.results169, go_sem, d0, d1, d2, d3]) rfl ⟨rfl, by go_grown⟩
  · have hok : setOk c a b = true := by unfold setOk; rw [Bool.and_assoc, h1, h2]; rfl
    obtain ⟨e1, e2⟩ := set_yes hok
    obtain ⟨_, ha, hv⟩ := and3 hok
    rw [e1, e2]
    obtain ⟨ha0, ha1⟩ := upToV_yes ha
    obtain ⟨g, rfl⟩ : ∃ g : Nat, a = g := ⟨a.toNat, by omega⟩
    rw [Int.toNat_natCast]
    have hg : g < 4 := by omega
    have i1 : (g : Int) < 4 := by omega
    clear e1 e2 hok h2
    unfold quadA
    go_enter Tryz.func169, Tryz.ntmps169
    go_wp2_with fail
    refine (gone_any c _).mono ?_
    rintro e w1 ⟨rfl, hb⟩
    rw [h1]
    have B1 := ((blk_new w (quadL c) 30).alloc _).on hb
    have B2 := (blk_new (w.alloc _) _ _).on hb
    rw [World.size_alloc] at B2
    have b1 : Below w.heap.size w w1 := Below.on (by go_grown) hb
    have c1 := B1.cell g _ (quadL_get c hg)
    have f1 := B1.frozen g
    clear hb
    go_upto_region 4 with (first | (go_at_call 185; refine (rgisReg_any _ _).mono ?_; rintro e w' ⟨rfl, rfl⟩) | (go_at_call 186; refine (gmay_any _ _).mono ?_; rintro e w' ⟨rfl, rfl⟩))
    have B1' := B1.set g (.int .i64 b)
    rw [quadL_set c hg] at B1'
    have B2' := B2.far (a := ⟨w.heap.size, g, none⟩) (.int .i64 b) (by simp)
    have b' : Below w.heap.size w (w1.setCell ⟨w.heap.size, g, none⟩ (.int .i64 b)) := b1.setCell (by simp) _
    clear B1 B2 b1 c1 f1
    generalize w1.setCell ⟨w.heap.size, g, none⟩ (.int .i64 b) = W at *
    obtain ⟨⟨c0, c1, c2, c3⟩, f0, f1, f2, f3⟩ := B1'.four
    obtain ⟨⟨d0, d1, d2, d3⟩, g0, g1, g2, g3⟩ := B2'.four
    go_wp2
    exact bodyPost_ret (v := .tuple #[quadA (updQ c g b), .int .i64 0]) (by simp [results, Tryz.results169, go_sem, d0, d1, d2, d3, quadA]) rfl ⟨rfl, by go_grown⟩
end Go.Proofs.YtaaenolbfhhnfaaGreat
