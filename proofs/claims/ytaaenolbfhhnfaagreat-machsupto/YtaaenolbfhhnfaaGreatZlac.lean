/-
  Several small texts in one: MachOwn, MachTurn, Apart, Lists, MachList, EqTo, At3, WordsSame, ArenaPure, RefSmall, WordCalls, WordRef, ArenaRef, ArenaCopy, ArenaPut, AllTo, WritesPure, RowKin.
-/
import Derived.Test.YtaaenolbfhhnfaaGreatZlab
import Derived.Deep.AppendLies
import Derived.WalkKit
import Derived.Test.YtaaenolbfhhnfaaGreatRows
import Derived.Deep.QuietTactic
import Derived.BigQuiet
import Derived.WalkSpells
import Derived.Laws.AppendOwnNone
import Derived.OwnWalk
import Derived.RegionTactic
import Derived.BigRegion
namespace Go.Proofs.YtaaenolbfhhnfaaGreat
open Go.RowKit
set_option linter.unusedSimpArgs false
set_option linter.unusedVariables false
/-- A machine's lists, by number: its levels', its sessions', its trace's, each session's three. -/
def SesM.sl (q : SesM) (j : Nat) : Sl := match j with | 0 => q.p | 1 => q.r | _ => q.t
def MacM.sl (A : MacM) (j : Nat) : Sl := if j < 4 then A.w j else if j = 4 then A.s else if j = 5 then A.e else (A.q ((j - 6) / 3)).sl ((j - 6) % 3)
theorem MacM.sl_w (A : MacM) {g : Nat} (h : g < 4) : A.sl g = A.w g := by simp [MacM.sl, h]
theorem MacM.sl_s (A : MacM) : A.sl 4 = A.s := rfl
theorem MacM.sl_e (A : MacM) : A.sl 5 = A.e := rfl
theorem MacM.sl_q (A : MacM) (i : Nat) {j : Nat} (hj : j < 3) : A.sl (6 + 3 * i + j) = (A.q i).sl j := by
  unfold MacM.sl
  rw [if_neg (by omega), if_neg (by omega), if_neg (by omega), show (6 + 3 * i + j - 6) / 3 = i by omega, show (6 + 3 * i + j - 6) % 3 = j by omega]
def MacM.num (A : MacM) : Nat := 6 + 3 * A.s.n
/-- Where its cells stand, they stand in this world too. -/
theorem Row.keep {W W' : World} {a : Option Addr} {n : Nat} {f : Nat → Value} (h : Row W a n f) (hs : W.heap.size ≤ W'.heap.size) (hk : 0 < n → ∀ b o, a = some ⟨b, o, none⟩ → W'.heap[b]? = W.heap[b]?) : Row W' a n f := by
  intro i hi
  obtain ⟨b, off, e, hlt, hc⟩ := h i hi
  exact ⟨b, off, e, by omega, by rw [← hc]; exact World.cell?_of_block (w := W) (a := ⟨b, off + i, .none⟩) (hk (by omega) b off e)⟩
theorem SlIs.keep {W W' : World} {k : Nat} {s : Sl} {L : List Int} (h : SlIs W k s L) (hs : W.heap.size ≤ W'.heap.size) (hk : 0 < s.n → ∀ b o, s.a = some ⟨b, o, none⟩ → W'.heap[b]? = W.heap[b]?) : SlIs W' k s L :=
  ⟨h.1, h.2.1, h.2.2.keep hs fun h0 => hk (Nat.pos_of_mul_pos_right h0)⟩
theorem SessIs.keep {W W' : World} {q : SesM} {x : PSess} (h : SessIs W q x) (hs : W.heap.size ≤ W'.heap.size) (hk : ∀ j, j < 3 → 0 < (q.sl j).n → ∀ b o, (q.sl j).a = some ⟨b, o, none⟩ → W'.heap[b]? = W.heap[b]?) : SessIs W' q x :=
  ⟨h.1, h.2.1.keep hs (hk 0 (by decide)), h.2.2.1.keep hs (hk 1 (by decide)), h.2.2.2.keep hs (hk 2 (by decide))⟩
theorem MachIs.keep {W W' : World} {A : MacM} {M : PMach} (h : MachIs W A M) (hs : W.heap.size ≤ W'.heap.size) (hk : ∀ j, j < A.num → 0 < (A.sl j).n → ∀ b o, (A.sl j).a = some ⟨b, o, none⟩ → W'.heap[b]? = W.heap[b]?) : MachIs W' A M where
  four := h.four
  clocks := h.clocks
  words := fun g hg => (h.words g hg).keep hs fun h0 b o e => hk g (by unfold MacM.num; omega) (by rw [A.sl_w hg]; exact h0) b o (by rw [A.sl_w hg]; exact e)
  sess := ⟨h.sess.1, h.sess.2.1, h.sess.2.2.1.keep hs fun h0 => hk 4 (by unfold MacM.num; omega) (Nat.pos_of_mul_pos_right h0), fun i hi => (h.sess.2.2.2 i hi).keep hs fun j hj h0 b o e => hk (6 + 3 * i + j) (by unfold MacM.num; omega) (by rw [A.sl_q i hj]; exact h0) b o (by rw [A.sl_q i hj]; exact e)⟩
  trace := h.trace.keep hs (hk 5 (by unfold MacM.num; omega))
def SlOwn (D : Nat → Prop) (W : World) (s : Sl) : Prop := 0 < s.n → ∃ b, s.a = some ⟨b, 0, none⟩ ∧ D b ∧ ∃ l, Blk W b l
theorem SlOwn.keep {D : Nat → Prop} {W W' : World} {s : Sl} (h : SlOwn D W s) (hk : ∀ b, D b → W'.heap[b]? = W.heap[b]?) : SlOwn D W' s := fun h0 => by
  obtain ⟨b, e, h1, l, t, h3⟩ := h h0
  exact ⟨b, e, h1, l, t, by rw [hk b h1]; exact h3⟩
theorem SlOwn.mono {D D' : Nat → Prop} {W : World} {s : Sl} (h : SlOwn D W s) (hd : ∀ k, D k → D' k) : SlOwn D' W s := fun h0 => by
  obtain ⟨b, e, h3, h5⟩ := h h0
  exact ⟨b, e, hd b h3, h5⟩
theorem slOwn_none (D : Nat → Prop) (W : World) {s : Sl} (h : s.n = 0) : SlOwn D W s := fun h0 => by omega
/-- The block of an owned row stands as it was: so does the row. -/
theorem ownsRow_keep {W W' : World} {base : Nat} {e : TypeId} {k n : Nat} {v : Value} {xs : List Value} (h : W.ownsRow base e k v n xs) (hk : ∀ g, v.ownBlock = some g → W'.heap[g]? = W.heap[g]?) : W'.ownsRow base e k v n xs := by
  obtain ⟨hl, h2⟩ := h
  refine ⟨hl, ?_⟩
  rcases h2 with h2 | ⟨g, cap, cur, rfl, hg, hh, rest⟩
  · exact .inl h2
  · exact .inr ⟨g, cap, cur, rfl, hg, by rw [hk g rfl]; exact hh, rest⟩
/-- In memory of its own. -/
structure MachOwn (D : Nat → Prop) (W : World) (A : MacM) (M : PMach) : Prop where
  is : MachIs W A M
  own : ∀ j, j < A.num → SlOwn D W (A.sl j)
  apart : ∀ i j, i < j → j < A.num → 0 < (A.sl i).n → 0 < (A.sl j).n → (A.sl i).a ≠ (A.sl j).a
  trace : ∃ v, v = A.e.v ∧ W.ownsRow 0 70 4 v A.e.n (rowL (intF (lz M.trace)) (A.e.n * 4)) ∧ ∀ g, v.ownBlock = some g → D g ∧ ∀ j, j < A.num → j ≠ 5 → 0 < (A.sl j).n → (A.sl j).a ≠ some ⟨g, 0, none⟩
section
variable {D : Nat → Prop} {W W' : World} {A : MacM} {M : PMach}
theorem MachOwn.keep (h : MachOwn D W A M) (hs : W.heap.size ≤ W'.heap.size) (hk : ∀ b, D b → W'.heap[b]? = W.heap[b]?) : MachOwn D W' A M where
  is := h.is.keep hs fun j hj h0 b o e => by
    obtain ⟨b', e', h1, _⟩ := h.own j hj h0
    rw [e'] at e
    cases e
    exact hk _ h1
  own := fun j hj => (h.own j hj).keep hk
  apart := h.apart
  trace := by
    obtain ⟨v, hv, ho, hb⟩ := h.trace
    exact ⟨v, hv, ownsRow_keep ho fun g hg => hk g (hb g hg).1, hb⟩
theorem MachOwn.mono {D' : Nat → Prop} (h : MachOwn D W A M) (h2 : ∀ k, D k → D' k) : MachOwn D' W A M where
  is := h.is
  own := fun j hj => (h.own j hj).mono h2
  apart := h.apart
  trace := by
    obtain ⟨v, hv, ho, hb⟩ := h.trace
    exact ⟨v, hv, ho, fun g hg => ⟨h2 g (hb g hg).1, (hb g hg).2⟩⟩
end
def machI (D : Nat → Prop) (A : MacM) (M : PMach) : Itm := ⟨D, fun W => MachOwn D W A M⟩
theorem machI_loc (D : Nat → Prop) (A : MacM) (M : PMach) : (machI D A M).Loc := fun W W' h hs hk => (h : MachOwn D W A M).keep hs hk
theorem noMac_n (j : Nat) : (noMac.sl j).n = 0 := by
  unfold MacM.sl noMac SesM.sl
  split
  · rfl
  · split
    · rfl
    · split
      · rfl
      · split <;> rfl
theorem machOwn_none (D : Nat → Prop) (W : World) : MachOwn D W noMac noMach where
  is := machIs_none W
  own := fun j hj h0 => by have := noMac_n j; omega
  apart := fun i j _ hj h0 _ => by have := noMac_n i; omega
  trace := ⟨.slice none 0 0, rfl, World.ownsRow_nil _ _ _ _, fun g hg => by simp [Value.ownBlock] at hg⟩
/-- A session's numbers' places in its cells. -/
def posN (k : Nat) : Nat := if k < 3 then k else if k < 9 then k + 1 else k + 3
def PSess.setN (x : PSess) (k : Nat) (v : Int) : PSess := { x with num := x.num.set k v }
def PMach.setS (M : PMach) (i : Nat) (x : PSess) : PMach := { M with sess := M.sess.set i x }
def PMach.setLv (M : PMach) (g : Nat) (L : List Int) : PMach := { M with words := M.words.set g L }
def updM (q : Nat → SesM) (i : Nat) (x : SesM) (k : Nat) : SesM := if k = i then x else q k
def MacM.setQ (A : MacM) (i : Nat) (x : SesM) : MacM := { A with q := updM A.q i x }
theorem updM_self (q : Nat → SesM) (i : Nat) : updM q i (q i) = q := by funext k; unfold updM; split <;> simp_all
theorem MacM.setQ_self (A : MacM) (i : Nat) : A.setQ i (A.q i) = A := by unfold MacM.setQ; rw [updM_self]
theorem MacM.num_setQ (A : MacM) (i : Nat) (x : SesM) : (A.setQ i x).num = A.num := rfl
theorem MacM.sl_setQ (A : MacM) (i : Nat) (x : SesM) (j : Nat) : (A.setQ i x).sl j = if 6 ≤ j ∧ (j - 6) / 3 = i then x.sl ((j - 6) % 3) else A.sl j := by
  unfold MacM.sl MacM.setQ
  simp only [updM]
  by_cases h1 : j < 4
  · rw [if_pos h1, if_pos h1, if_neg (by omega)]
  · rw [if_neg h1, if_neg h1]
    by_cases h2 : j = 4
    · rw [if_pos h2, if_pos h2, if_neg (by omega)]
    · rw [if_neg h2, if_neg h2]
      by_cases h3 : j = 5
      · rw [if_pos h3, if_pos h3, if_neg (by omega)]
      · rw [if_neg h3, if_neg h3]
        by_cases h4 : (j - 6) / 3 = i
        · rw [if_pos h4, if_pos ⟨by omega, h4⟩]
        · rw [if_neg h4, if_neg (by omega)]
theorem getD_set_eq {α : Type} {l : List α} {i : Nat} (x d : α) (h : i < l.length) : (l.set i x).getD i d = x := by simp [List.getD, h]
theorem getD_set_ne' {α : Type} {l : List α} {i j : Nat} (x d : α) (h : i ≠ j) : (l.set i x).getD j d = l.getD j d := by simp [List.getD, h]
section
variable {D : Nat → Prop} {W W' : World} {A : MacM} {M : PMach}
/-- The sessions' block. -/
theorem MachOwn.sblk (h : MachOwn D W A M) {i : Nat} (hi' : i < A.s.n) : ∃ b, A.s.a = some ⟨b, 0, none⟩ ∧ D b ∧ ∃ l, Blk W b l := h.own 4 (by unfold MacM.num; omega) (by rw [A.sl_s]; omega)
/-- A session turns: the cells of its place in the sessions' block, nothing else. -/
theorem MachOwn.turn (h : MachOwn D W A M) {i b : Nat} (hi' : i < A.s.n) (hb : A.s.a = some ⟨b, 0, none⟩) (q' : SesM) (x' : PSess) (ht : Touch b (b + 1) W W') (hB : ∃ l, Blk W' b l)
    (hc : ∀ j, j < 17 → W'.cell? ⟨b, i * 17 + j, none⟩ = some ((sessOf q' x').getD j undef)) (hf : ∀ o, o < i * 17 ∨ i * 17 + 17 ≤ o → W'.cell? ⟨b, o, none⟩ = W.cell? ⟨b, o, none⟩)
    (hx : SessIs W' q' x') (ho : ∀ j, j < 3 → SlOwn D W' (q'.sl j)) (ha : ∀ j k, j < 3 → k < A.num → k ≠ 6 + 3 * i + j → 0 < (q'.sl j).n → 0 < ((A.setQ i q').sl k).n → ((A.setQ i q').sl k).a ≠ (q'.sl j).a) (ht5 : ∀ v, v = A.e.v → ∀ g, v.ownBlock = some g → ∀ j, j < 3 → 0 < (q'.sl j).n → (q'.sl j).a ≠ some ⟨g, 0, none⟩) :
    MachOwn D W' (A.setQ i q') (M.setS i x') := by
  have hX := h.is.sess.1
  have far : ∀ j, j < A.num → j ≠ 4 → 0 < (A.sl j).n → ∀ b' o, (A.sl j).a = some ⟨b', o, none⟩ → b' ≠ b := fun j hj hj4 h0 b' o e hbb => by
    subst hbb
    obtain ⟨b2, e2, _⟩ := h.own j hj h0
    rw [e2] at e
    cases e
    have h4 : 0 < (A.sl 4).n := by rw [A.sl_s]; omega
    rcases Nat.lt_or_gt_of_ne hj4 with hl | hl
    · exact h.apart j 4 hl (by unfold MacM.num; omega) h0 h4 (by rw [e2, A.sl_s, hb])
    · exact h.apart 4 j hl hj h4 h0 (by rw [e2, A.sl_s, hb])
  have keepB : ∀ b', b' ≠ b → b' < W.heap.size → W'.heap[b']? = W.heap[b']? := fun b' hb' hlt => ht.block b' (by omega) hlt
  have lt_of : ∀ j, j < A.num → 0 < (A.sl j).n → ∀ b' o, (A.sl j).a = some ⟨b', o, none⟩ → b' < W.heap.size := fun j hj h0 b' o e => by
    obtain ⟨b2, e2, _, l, hl⟩ := h.own j hj h0
    rw [e2] at e
    cases e
    exact hl.lt
  have kp : ∀ j, j < A.num → j ≠ 4 → 0 < (A.sl j).n → ∀ b' o, (A.sl j).a = some ⟨b', o, none⟩ → W'.heap[b']? = W.heap[b']? := fun j hj hj4 h0 b' o e => keepB b' (far j hj hj4 h0 b' o e) (lt_of j hj h0 b' o e)
  have nn : A.num = 6 + 3 * A.s.n := rfl
  refine ⟨⟨h.is.four, h.is.clocks, fun g hg => ?_, ⟨?_, h.is.sess.2.1, ?_, ?_⟩, ?_⟩, ?_, ?_, ?_⟩
  · have := (h.is.words g hg).keep ht.size fun h0 b' o e => kp g (by omega) (by omega) (by rw [A.sl_w hg]; exact h0) b' o (by rw [A.sl_w hg]; exact e)
    exact this
  · show (M.sess.set i x').length = A.s.n
    rw [List.length_set]; exact hX
  · show Row W' A.s.a (A.s.n * 17) (sessCell (updM A.q i q') (M.sess.set i x'))
    intro c hcl
    obtain ⟨b2, off, e2, hlt, hcc⟩ := h.is.sess.2.2.1 c hcl
    rw [hb] at e2
    cases e2
    refine ⟨b, 0, hb, Nat.lt_of_lt_of_le hlt ht.size, ?_⟩
    rw [Nat.zero_add] at hcc ⊢
    unfold sessCell updM
    by_cases hci : c / 17 = i
    · rw [if_pos hci, hci, getD_set_eq _ _ (by omega)]
      have := hc (c % 17) (Nat.mod_lt _ (by decide))
      rw [← this, show i * 17 + c % 17 = c by omega]
    · rw [if_neg hci, getD_set_ne' _ _ (Ne.symm hci), hf c (by omega)]
      exact hcc
  · intro k hk
    show SessIs W' (updM A.q i q' k) ((M.sess.set i x').getD k noSess)
    unfold updM
    by_cases hki : k = i
    · subst hki; rw [if_pos rfl, getD_set_eq _ _ (by omega)]; exact hx
    · rw [if_neg hki, getD_set_ne' _ _ (Ne.symm hki)]
      exact (h.is.sess.2.2.2 k hk).keep ht.size fun j hj h0 b' o e => by
        have hk' : k < A.s.n := hk
        exact kp (6 + 3 * k + j) (by omega) (by omega) (by rw [A.sl_q k hj]; exact h0) b' o (by rw [A.sl_q k hj]; exact e)
  · have := h.is.trace.keep ht.size fun h0 b' o e => kp 5 (by omega) (by omega) (by rw [A.sl_e]; exact h0) b' o (by rw [A.sl_e]; exact e)
    exact this
  · intro j hj
    rw [A.num_setQ] at hj
    rw [A.sl_setQ]
    split
    · exact ho _ (Nat.mod_lt _ (by decide))
    · intro h0
      obtain ⟨b2, e2, h1, l, hl⟩ := h.own j hj h0
      by_cases hbb : b2 = b
      · subst hbb; exact ⟨b2, e2, h1, hB⟩
      · exact ⟨b2, e2, h1, l, hl.touch ht (by omega)⟩
  · intro k j hkj hj hk0 hj0
    rw [A.num_setQ] at hj
    by_cases cj : 6 ≤ j ∧ (j - 6) / 3 = i
    · have e : (A.setQ i q').sl j = q'.sl ((j - 6) % 3) := by rw [A.sl_setQ, if_pos cj]
      rw [e] at hj0 ⊢
      exact ha _ k (Nat.mod_lt _ (by decide)) (by omega) (by omega) hj0 hk0
    · by_cases ck : 6 ≤ k ∧ (k - 6) / 3 = i
      · have e : (A.setQ i q').sl k = q'.sl ((k - 6) % 3) := by rw [A.sl_setQ, if_pos ck]
        rw [e] at hk0 ⊢
        exact (ha _ j (Nat.mod_lt _ (by decide)) hj (by omega) hk0 hj0).symm
      · have e1 : (A.setQ i q').sl j = A.sl j := by rw [A.sl_setQ, if_neg cj]
        have e2 : (A.setQ i q').sl k = A.sl k := by rw [A.sl_setQ, if_neg ck]
        rw [e1] at hj0 ⊢
        rw [e2] at hk0 ⊢
        exact h.apart k j hkj hj hk0 hj0
  · obtain ⟨v, hv, hown, hb5⟩ := h.trace
    have nb : ∀ g, v.ownBlock = some g → g ≠ b := fun g hg hgb => (hb5 g hg).2 4 (by omega) (by decide) (by rw [A.sl_s]; omega) (by rw [A.sl_s, hb, hgb])
    refine ⟨v, hv, ownsRow_keep hown fun g hg => keepB g (nb g hg) (hown.lt g hg).2, fun g hg => ⟨(hb5 g hg).1, fun j hj hj5 h0 => ?_⟩⟩
    by_cases cj : 6 ≤ j ∧ (j - 6) / 3 = i
    · have e1 : (A.setQ i q').sl j = q'.sl ((j - 6) % 3) := by rw [A.sl_setQ, if_pos cj]
      rw [e1] at h0 ⊢
      exact ht5 v hv g hg _ (Nat.mod_lt _ (by decide)) h0
    · have e1 : (A.setQ i q').sl j = A.sl j := by rw [A.sl_setQ, if_neg cj]
      rw [e1] at h0 ⊢
      exact (hb5 g hg).2 j hj hj5 h0
/-- Two of its lists lie apart. -/
theorem MachOwn.ne (h : MachOwn D W A M) {j k : Nat} (hjk : j ≠ k) (hj : j < A.num) (hk : k < A.num) (h0 : 0 < (A.sl j).n) (h1 : 0 < (A.sl k).n) : (A.sl j).a ≠ (A.sl k).a := by
  rcases Nat.lt_or_gt_of_ne hjk with hl | hl
  · exact h.apart j k hl hk h0 h1
  · exact (h.apart k j hl hj h1 h0).symm
theorem lz_set {l : List Int} {k m : Nat} {v : Int} (hk : k < l.length) : lz (l.set k v) m = if m = k then v else lz l m := by
  unfold lz
  by_cases h : m = k
  · subst h; rw [if_pos rfl, getD_set_eq _ _ hk]
  · rw [if_neg h, getD_set_ne' _ _ (Ne.symm h)]
theorem sessOf_setN {q : SesM} {x : PSess} (hx : x.num.length = 14) {k : Nat} (hk : k < 14) (v : Int) : sessOf q (x.setN k v) = (sessOf q x).set (posN k) (.int .i64 v) := by
  unfold sessOf PSess.setN sessL
  have : k = 0 ∨ k = 1 ∨ k = 2 ∨ k = 3 ∨ k = 4 ∨ k = 5 ∨ k = 6 ∨ k = 7 ∨ k = 8 ∨ k = 9 ∨ k = 10 ∨ k = 11 ∨ k = 12 ∨ k = 13 := by omega
  rcases this with rfl | rfl | rfl | rfl | rfl | rfl | rfl | rfl | rfl | rfl | rfl | rfl | rfl | rfl <;> simp [lz_set, hx, posN]
theorem sessOf_len (q : SesM) (x : PSess) : (sessOf q x).length = 17 := rfl
theorem getD_set (l : List Value) (o j : Nat) (v : Value) (h : o < l.length) : (l.set o v).getD j undef = if j = o then v else l.getD j undef := by
  by_cases e : j = o
  · subst e; rw [if_pos rfl, getD_set_eq _ _ h]
  · rw [if_neg e, getD_set_ne' _ _ (Ne.symm e)]
/-- A session's lists lie apart from all others. -/
theorem MachOwn.sesApart (h : MachOwn D W A M) {i : Nat} (hi' : i < A.s.n) : ∀ j k, j < 3 → k < A.num → k ≠ 6 + 3 * i + j → 0 < ((A.q i).sl j).n → 0 < ((A.setQ i (A.q i)).sl k).n → ((A.setQ i (A.q i)).sl k).a ≠ ((A.q i).sl j).a := fun j k hj hk hkj h0 h1 => by
  rw [A.setQ_self] at h1 ⊢
  have hn : 6 + 3 * i + j < A.num := by unfold MacM.num; omega
  have := h.ne hkj hk hn h1 (by rw [A.sl_q i hj]; exact h0)
  rw [A.sl_q i hj] at this
  exact this
theorem MachOwn.ses5 (h : MachOwn D W A M) {i : Nat} (hi' : i < A.s.n) : ∀ v, v = A.e.v → ∀ g, v.ownBlock = some g → ∀ j, j < 3 → 0 < ((A.q i).sl j).n → ((A.q i).sl j).a ≠ some ⟨g, 0, none⟩ := fun v hv g hg j hj h0 => by
  obtain ⟨v', hv', _, hb5⟩ := h.trace
  subst hv; subst hv'
  have := (hb5 g hg).2 (6 + 3 * i + j) (by unfold MacM.num; omega) (by omega) (by rw [A.sl_q i hj]; exact h0)
  rw [A.sl_q i hj] at this
  exact this
/-- One cell of a session is written over. -/
theorem MachOwn.cellTurn (h : MachOwn D W A M) {i b o : Nat} (hi' : i < A.s.n) (hb : A.s.a = some ⟨b, 0, none⟩) (ho : o < 17) (v : Value) :
    Touch b (b + 1) W (W.setCell ⟨b, i * 17 + o, none⟩ v) ∧ (∃ l, Blk (W.setCell ⟨b, i * 17 + o, none⟩ v) b l) ∧ (∀ j, j < 17 → (W.setCell ⟨b, i * 17 + o, none⟩ v).cell? ⟨b, i * 17 + j, none⟩ = some (((sessOf (A.q i) (M.at i)).set o v).getD j undef)) ∧ (∀ p, p < i * 17 ∨ i * 17 + 17 ≤ p → (W.setCell ⟨b, i * 17 + o, none⟩ v).cell? ⟨b, p, none⟩ = W.cell? ⟨b, p, none⟩) := by
  obtain ⟨b2, e2, _, l, hl⟩ := h.sblk hi'
  rw [hb] at e2; cases e2
  have c0 : ∀ j, j < 17 → W.cell? ⟨b, i * 17 + j, none⟩ = some ((sessOf (A.q i) (M.at i)).getD j undef) := fun j hj => by
    obtain ⟨b3, off, e3, _, hc⟩ := h.is.sess.cell hi' hj
    rw [hb] at e3; cases e3
    rw [Nat.zero_add] at hc
    exact hc
  refine ⟨(Touch.refl b (b + 1) W).setCell (a := ⟨b, i * 17 + o, none⟩) (Nat.le_refl b) (Nat.lt_succ_self b) v, ⟨_, hl.set (i * 17 + o) v⟩, fun j hj => ?_, fun p hp => ?_⟩
  · rw [getD_set _ _ _ _ (by rw [sessOf_len]; exact ho)]
    by_cases e : j = o
    · subst e; rw [if_pos rfl]; exact World.cell?_setCell_same _ _ _ (c0 j hj)
    · rw [if_neg e, World.cell?_setCell_other _ _ _ _ (fun he => by simp only [Addr.mk.injEq] at he; omega)]; exact c0 j hj
  · exact World.cell?_setCell_other _ _ _ _ (fun he => by simp only [Addr.mk.injEq] at he; omega)
/-- A number of a session is written. -/
theorem MachOwn.turnN (h : MachOwn D W A M) {i b k : Nat} (hi' : i < A.s.n) (hb : A.s.a = some ⟨b, 0, none⟩) (hk : k < 14) (v : Int) :
    MachOwn D (W.setCell ⟨b, i * 17 + posN k, none⟩ (.int .i64 v)) A (M.setS i ((M.at i).setN k v)) := by
  have hp : posN k < 17 := by unfold posN; split <;> (try split) <;> omega
  obtain ⟨t1, t2, t3, t4⟩ := h.cellTurn hi' hb hp (.int .i64 v)
  have hs : SessIs W (A.q i) (M.at i) := h.is.sess.2.2.2 i hi'
  have := h.turn hi' hb (A.q i) ((M.at i).setN k v) t1 t2 (fun j hj => by rw [sessOf_setN hs.1 hk]; exact t3 j hj) t4 ?_ ?_ (h.sesApart hi') (h.ses5 hi')
  · rw [A.setQ_self] at this; exact this
  · have hx : SessIs (W.setCell ⟨b, i * 17 + posN k, none⟩ (.int .i64 v)) (A.q i) (M.at i) := hs.keep t1.size fun j hj h0 b' o e => by
      have hn : 6 + 3 * i + j < A.num := by unfold MacM.num; omega
      have hne := h.ne (j := 6 + 3 * i + j) (k := 4) (by omega) hn (by unfold MacM.num; omega) (by rw [A.sl_q i hj]; exact h0) (by rw [A.sl_s]; omega)
      rw [A.sl_q i hj, A.sl_s, hb, e] at hne
      obtain ⟨b2, e2, _, l, hl⟩ := h.own _ hn (by rw [A.sl_q i hj]; exact h0)
      rw [A.sl_q i hj, e] at e2
      cases e2
      exact t1.block b' (by simp at hne; omega) hl.lt
    exact ⟨by unfold PSess.setN; rw [List.length_set]; exact hx.1, hx.2⟩
  · intro j hj h0
    have hn : 6 + 3 * i + j < A.num := by unfold MacM.num; omega
    obtain ⟨b2, e2, h1, l, hl⟩ := h.own _ hn (by rw [A.sl_q i hj]; exact h0)
    rw [A.sl_q i hj] at e2
    by_cases hbb : b2 = b
    · subst hbb; exact ⟨b2, e2, h1, t2⟩
    · exact ⟨b2, e2, h1, l, hl.touch t1 (by omega)⟩
theorem lz_left {l m : List Int} {i : Nat} (h : i < l.length) : lz (l ++ m) i = lz l i := by simp [lz, List.getD, List.getElem?_append_left h]
theorem lz_right {l m : List Int} {i : Nat} (h : l.length ≤ i) : lz (l ++ m) i = lz m (i - l.length) := by simp [lz, List.getD, List.getElem?_append_right h]
/-- The trace grows. -/
def MacM.setE (A : MacM) (e : Sl) : MacM := { A with e := e }
theorem MacM.num_setE (A : MacM) (e : Sl) : (A.setE e).num = A.num := rfl
theorem MacM.sl_setE (A : MacM) (e : Sl) (j : Nat) : (A.setE e).sl j = if j = 5 then e else A.sl j := by
  unfold MacM.sl MacM.setE
  by_cases h1 : j < 4
  · rw [if_pos h1, if_pos h1, if_neg (by omega)]
  · rw [if_neg h1, if_neg h1]
    by_cases h2 : j = 4
    · rw [if_pos h2, if_pos h2, if_neg (by omega)]
    · rw [if_neg h2, if_neg h2]
      by_cases h3 : j = 5
      · rw [if_pos h3, if_pos h3]
      · rw [if_neg h3, if_neg h3, if_neg h3]
theorem MachOwn.traced (h : MachOwn D W A M) {v : Value} (hv : v = A.e.v) (hg : W.grownBy W' v.ownBlock) {g cap : Nat} {x : List Int} (hx : x.length = 4) (hn : A.e.n < 512)
    (ho : W'.ownsRow 0 70 4 (.slice (some ⟨g, 0, none⟩) (A.e.n + 1) cap) (A.e.n + 1) (rowL (intF (lz M.trace)) (A.e.n * 4) ++ x.map (Value.int .i64))) (hat : v.ownBlock = some g ∨ W.heap.size ≤ g) :
    MachOwn (fun k => D k ∨ k = g) W' (A.setE ⟨some ⟨g, 0, none⟩, A.e.n + 1, cap⟩) { M with trace := M.trace ++ x } := by
  obtain ⟨v', hv', ho5, hb5⟩ := h.trace
  subst hv; subst hv'
  have nn : A.num = 6 + 3 * A.s.n := rfl
  have hlen := h.is.trace.1
  have blt : ∀ j, j < A.num → 0 < (A.sl j).n → ∀ b o, (A.sl j).a = some ⟨b, o, none⟩ → b < W.heap.size := fun j hj h0 b o e => by
    obtain ⟨b2, e2, _, l, hl⟩ := h.own j hj h0
    rw [e2] at e; cases e; exact hl.lt
  have kp : ∀ j, j < A.num → j ≠ 5 → 0 < (A.sl j).n → ∀ b o, (A.sl j).a = some ⟨b, o, none⟩ → W'.heap[b]? = W.heap[b]? := fun j hj hj5 h0 b o e => by
    refine hg.block b (blt j hj h0 b o e) fun hr => ?_
    obtain ⟨b2, e2, _⟩ := h.own j hj h0
    rw [e2] at e; cases e
    exact (hb5 _ hr.symm).2 j hj hj5 h0 e2
  have gne : ∀ j, j < A.num → j ≠ 5 → 0 < (A.sl j).n → (A.sl j).a ≠ some ⟨g, 0, none⟩ := fun j hj hj5 h0 e => by
    rcases hat with hat | hat
    · exact (hb5 g hat).2 j hj hj5 h0 e
    · have := blt j hj h0 g 0 e; omega
  have hL : rowL (intF (lz M.trace)) (A.e.n * 4) ++ x.map (Value.int .i64) = rowL (intF (lz (M.trace ++ x))) ((A.e.n + 1) * 4) := by
    apply List.ext_getElem?
    intro i
    by_cases h1 : i < A.e.n * 4
    · rw [List.getElem?_append_left (by rw [rowL_len]; exact h1), rowL_get h1, rowL_get (by omega)]
      unfold intF
      rw [lz_left (by rw [hlen]; exact h1)]
    · rw [List.getElem?_append_right (by rw [rowL_len]; omega), rowL_len]
      by_cases h2 : i < (A.e.n + 1) * 4
      · rw [rowL_get h2]
        unfold intF
        rw [lz_right (by rw [hlen]; omega), hlen]
        have : i - A.e.n * 4 < x.length := by omega
        simp [lz, List.getD, this]
      · rw [rowL_none (by omega)]
        simp; omega
  rw [hL] at ho
  have own' : Own W' g ((A.e.n + 1) * 4) (intF (lz (M.trace ++ x))) := by
    rcases own_of_owns ho with ⟨e, _⟩ | ⟨g2, c2, e, _, _, _, o⟩
    · cases e
    · cases e; exact o
  have hcap : A.e.n + 1 ≤ cap := by
    rcases ho.2 with ⟨e, _⟩ | ⟨g2, c2, cur, e, _, _, hn2, _⟩
    · cases e
    · cases e; exact hn2
  refine ⟨⟨h.is.four, h.is.clocks, fun k hk => ?_, ⟨h.is.sess.1, h.is.sess.2.1, ?_, fun i hi => ?_⟩, ⟨?_, ⟨?_, hcap, fun e => by cases e⟩, own'.row⟩⟩, fun j hj => ?_, fun i j hij hj h0 h1 => ?_, ⟨.slice (some ⟨g, 0, none⟩) (A.e.n + 1) cap, rfl, ho, fun g' hg' => ?_⟩⟩
  · exact (h.is.words k hk).keep hg.size fun h0 b o e => kp k (by omega) (by omega) (by rw [A.sl_w hk]; exact h0) b o (by rw [A.sl_w hk]; exact e)
  · exact h.is.sess.2.2.1.keep hg.size fun h0 b o e => kp 4 (by omega) (by omega) (by rw [A.sl_s]; exact Nat.pos_of_mul_pos_right h0) b o (by rw [A.sl_s]; exact e)
  · have hi' : i < A.s.n := hi
    exact (h.is.sess.2.2.2 i hi).keep hg.size fun j hj h0 b o e => kp (6 + 3 * i + j) (by omega) (by omega) (by rw [A.sl_q i hj]; exact h0) b o (by rw [A.sl_q i hj]; exact e)
  · show (M.trace ++ x).length = (A.e.n + 1) * 4
    rw [List.length_append, hlen, hx]; omega
  · show (A.e.n + 1) * _ ≤ _
    omega
  · rw [A.num_setE] at hj
    rw [A.sl_setE]
    split
    · exact fun _ => by
        obtain ⟨l, hl, _⟩ := own'
        exact ⟨g, rfl, .inr rfl, l, hl⟩
    · rename_i hj5
      intro h0
      obtain ⟨b2, e2, h1, l, t, hl⟩ := h.own j hj h0
      exact ⟨b2, e2, .inl h1, l, t, by rw [kp j hj hj5 h0 b2 0 e2]; exact hl⟩
  · rw [A.num_setE] at hj
    by_cases i5 : i = 5
    · have e1 : (A.setE ⟨some ⟨g, 0, none⟩, A.e.n + 1, cap⟩).sl i = ⟨some ⟨g, 0, none⟩, A.e.n + 1, cap⟩ := by rw [A.sl_setE, if_pos i5]
      have e2 : (A.setE ⟨some ⟨g, 0, none⟩, A.e.n + 1, cap⟩).sl j = A.sl j := by rw [A.sl_setE, if_neg (by omega)]
      rw [e1]; rw [e2] at h1 ⊢
      exact (gne j hj (by omega) h1).symm
    · have e1 : (A.setE ⟨some ⟨g, 0, none⟩, A.e.n + 1, cap⟩).sl i = A.sl i := by rw [A.sl_setE, if_neg i5]
      rw [e1] at h0 ⊢
      by_cases j5 : j = 5
      · have e2 : (A.setE ⟨some ⟨g, 0, none⟩, A.e.n + 1, cap⟩).sl j = ⟨some ⟨g, 0, none⟩, A.e.n + 1, cap⟩ := by rw [A.sl_setE, if_pos j5]
        rw [e2]
        exact gne i (by omega) i5 h0
      · have e2 : (A.setE ⟨some ⟨g, 0, none⟩, A.e.n + 1, cap⟩).sl j = A.sl j := by rw [A.sl_setE, if_neg j5]
        rw [e2] at h1 ⊢
        exact h.apart i j hij hj h0 h1
  · obtain rfl : g = g' := by simpa [Value.ownBlock] using hg'
    refine ⟨.inr rfl, fun j hj hj5 h0 => ?_⟩
    have e2 : (A.setE ⟨some ⟨g, 0, none⟩, A.e.n + 1, cap⟩).sl j = A.sl j := by rw [A.sl_setE, if_neg hj5]
    rw [e2] at h0 ⊢
    exact gne j hj hj5 h0
theorem MachIs.scell (h : MachIs W A M) {i b : Nat} (hi' : i < A.s.n) (j : Nat) (hj : j < 17) {v : Value} (hv : (sessOf (A.q i) (M.at i))[j]? = some v) (hb : A.s.a = some ⟨b, 0, none⟩) : W.cell? ⟨b, i * 17 + j, none⟩ = some v := by
  obtain ⟨b2, off, e2, _, hc⟩ := h.sess.cell hi' hj
  rw [hb] at e2; cases e2
  rw [Nat.zero_add] at hc
  rw [hc]
  show some ((sessOf (A.q i) (M.at i)).getD j undef) = _
  rw [List.getD_eq_getElem?_getD, hv]
  rfl
end
/-- An event is appended to a machine's own trace. -/
theorem stw_event {w0 w : World} {L : List Itm} {P : Program} {op : Oper} {a : Act} {K : Act → World → Prop} {Q : Exit → Act → World → Prop} (HS : Hid (St w0 w L)) (j i : Nat) {D : Nat → Prop} {A : MacM} {M : PMach} {be : Nat} {x : List Int} (ej : L[j]? = some (blkI be (x.map (Value.int .i64)))) (hx4 : x.length = 4) (ei : L[i]? = some (machI D A M)) (hn : A.e.n < 512)
    (s y : Operand) (t : TypeId) (ho : op.op = .call { callee := .builtin .append, args := #[s, y], argTypes := #[t, t] }) (ie : TypeInfo) (z : Value) (ht : P.underlying t = some (.slice 70)) (hi : P.info? 70 = some ie) (hz : ie.zero = some z) (hsize : ie.size = 4) (hby : ie.bytes = 32) (hzs : z.cells.size = 4)
    (hs : a.eval s = .slice A.e.a A.e.n A.e.c) (hy : a.eval y = .slice (some ⟨be, 0, none⟩) 1 1)
    (h : ∀ W D' g cap, Hid (St w0 W (L.set i (machI D' (A.setE ⟨some ⟨g, 0, none⟩, A.e.n + 1, cap⟩) { M with trace := M.trace ++ x }))) → K (a.put op.dst (.slice (some ⟨g, 0, none⟩) (A.e.n + 1) cap)) W) : op.wp P a w K Q := by
  have hM : MachOwn D w A M := HS.out.get i ei
  obtain ⟨_, rfl, ho5, hb5⟩ := hM.trace
  have B := HS.out.blk j ej
  refine wp_append_lies w s y t ho 0 70 ie z 4 32 ht hi hz hsize hby hzs (by decide) A.e.v A.e.n _ hs ho5 ⟨be, 0, none⟩ 1 1 (x.map (Value.int .i64)) hy (by simp [hx4]) (fun k u hk => ?_) (fun u hu => ?_) (by decide) (by unfold maxLen; omega) (by omega) (Nat.zero_le _) w.heap.size rfl fun g cap W' hown hgrow hat hlt => ?_
  · have hadd : (⟨be, 0, none⟩ : Addr).add k = ⟨be, k, none⟩ := by unfold Addr.add; split <;> simp_all
    rw [hadd]
    exact B.cell k u hk
  · obtain ⟨q, _, rfl⟩ := List.mem_map.1 hu
    rfl
  · refine h W' (fun k => D k ∨ k = g) g cap (HS.out.set i ei (machI (fun k => D k ∨ k = g) (A.setE ⟨some ⟨g, 0, none⟩, A.e.n + 1, cap⟩) { M with trace := M.trace ++ x }) (chg_grown hgrow fun g' hg' => (hb5 g' hg').1) (machI_loc _ _ _) (hM.traced rfl hgrow hx4 hn hown (hat.imp id fun e => by omega)) fun k hk => ?_)
    rcases hk with hk | rfl
    · exact .inl hk
    · rcases hat with hat | hat
      · exact .inl (hb5 k hat).1
      · exact .inr ⟨by omega, hlt⟩
section
variable {D : Nat → Prop} {W W' : World} {A : MacM} {M : PMach}
end
end Go.Proofs.YtaaenolbfhhnfaaGreat
namespace Go.Proofs.YtaaenolbfhhnfaaGreat
open Go.RowKit
set_option linter.unusedSimpArgs false
set_option linter.unusedVariables false
/-- A session with another list. -/
def PSess.setL (x : PSess) (j : Nat) (l : List Int) : PSess := match j with | 0 => { x with prog := l } | 1 => { x with reads := l } | _ => { x with writes := l }
def SesM.setL (q : SesM) (j : Nat) (s : Sl) : SesM := match j with | 0 => { q with p := s } | 1 => { q with r := s } | _ => { q with t := s }
def posL (j : Nat) : Nat := match j with | 0 => 3 | 1 => 10 | _ => 11
def szL (j : Nat) : Nat := match j with | 0 => 4 | _ => 3
theorem SesM.sl_setL (q : SesM) {j k : Nat} (hj : j < 3) (hk : k < 3) (s : Sl) : (q.setL j s).sl k = if k = j then s else q.sl k := by
  have : j = 0 ∨ j = 1 ∨ j = 2 := by omega
  have : k = 0 ∨ k = 1 ∨ k = 2 := by omega
  rcases ‹j = 0 ∨ j = 1 ∨ j = 2› with rfl | rfl | rfl <;> rcases ‹k = 0 ∨ k = 1 ∨ k = 2› with rfl | rfl | rfl <;> rfl
theorem sessOf_setL (q : SesM) (x : PSess) {j : Nat} (hj : j < 3) (s : Sl) (l : List Int) : sessOf (q.setL j s) (x.setL j l) = (sessOf q x).set (posL j) (.slice s.a s.n s.c) := by
  have : j = 0 ∨ j = 1 ∨ j = 2 := by omega
  rcases this with rfl | rfl | rfl <;> rfl
theorem SessIs.setL {W : World} {q : SesM} {x : PSess} (h : SessIs W q x) {j : Nat} (hj : j < 3) {s : Sl} {l : List Int} (hs : SlIs W (szL j) s l) : SessIs W (q.setL j s) (x.setL j l) := by
  have : j = 0 ∨ j = 1 ∨ j = 2 := by omega
  rcases this with rfl | rfl | rfl
  · exact ⟨h.1, hs, h.2.2.1, h.2.2.2⟩
  · exact ⟨h.1, h.2.1, hs, h.2.2.2⟩
  · exact ⟨h.1, h.2.1, h.2.2.1, hs⟩
section
variable {D : Nat → Prop} {W W' : World} {A : MacM} {M : PMach}
/-- A session's lists stand as they stood where a cell of the sessions' block is written over. -/
theorem MachOwn.sesKeep (h : MachOwn D W A M) {i b : Nat} (hi' : i < A.s.n) (hb : A.s.a = some ⟨b, 0, none⟩) (ht : Touch b (b + 1) W W') : SessIs W' (A.q i) (M.at i) := by
  have hs : SessIs W (A.q i) (M.at i) := h.is.sess.2.2.2 i hi'
  refine hs.keep ht.size fun j hj h0 b' o e => ?_
  have hn : 6 + 3 * i + j < A.num := by unfold MacM.num; omega
  have hne := h.ne (j := 6 + 3 * i + j) (k := 4) (by omega) hn (by unfold MacM.num; omega) (by rw [A.sl_q i hj]; exact h0) (by rw [A.sl_s]; omega)
  rw [A.sl_q i hj, A.sl_s, hb, e] at hne
  obtain ⟨b2, e2, _, l, hl⟩ := h.own _ hn (by rw [A.sl_q i hj]; exact h0)
  rw [A.sl_q i hj, e] at e2
  cases e2
  exact ht.block b' (by simp at hne; omega) hl.lt
theorem MachOwn.sesOwnKeep (h : MachOwn D W A M) {i b : Nat} (hi' : i < A.s.n) (ht : Touch b (b + 1) W W') (t2 : ∃ l, Blk W' b l) {j : Nat} (hj : j < 3) : SlOwn D W' ((A.q i).sl j) := fun h0 => by
  have hn : 6 + 3 * i + j < A.num := by unfold MacM.num; omega
  obtain ⟨b2, e2, h1, l, hl⟩ := h.own _ hn (by rw [A.sl_q i hj]; exact h0)
  rw [A.sl_q i hj] at e2
  by_cases hbb : b2 = b
  · subst hbb; exact ⟨b2, e2, h1, t2⟩
  · exact ⟨b2, e2, h1, l, hl.touch ht (by omega)⟩
/-- A list of a session is laid by. -/
theorem MachOwn.turnNil (h : MachOwn D W A M) {i b j : Nat} (hi' : i < A.s.n) (hb : A.s.a = some ⟨b, 0, none⟩) (hj : j < 3) :
    MachOwn D (W.setCell ⟨b, i * 17 + posL j, none⟩ (.slice none 0 0)) (A.setQ i ((A.q i).setL j noSl)) (M.setS i ((M.at i).setL j [])) := by
  have hp : posL j < 17 := by unfold posL; split <;> omega
  obtain ⟨t1, t2, t3, t4⟩ := h.cellTurn hi' hb hp (.slice none 0 0)
  refine h.turn hi' hb ((A.q i).setL j noSl) ((M.at i).setL j []) t1 t2 (fun k hk => by rw [sessOf_setL _ _ hj]; exact t3 k hk) t4 ((h.sesKeep hi' hb t1).setL hj (slIs_none _ _)) (fun k hk => ?_) (fun k m hk hm hkm h0 h1 => ?_) (fun v hv g hg k hk h0 => ?_)
  · rw [SesM.sl_setL _ hj hk]
    split
    · exact slOwn_none _ _ rfl
    · exact h.sesOwnKeep hi' t1 t2 hk
  · rw [SesM.sl_setL _ hj hk] at h0 ⊢
    split at h0
    · exact absurd h0 (Nat.lt_irrefl 0)
    · rename_i hkj
      rw [if_neg hkj]
      rw [MacM.sl_setQ] at h1 ⊢
      split at h1
      · rename_i hc
        rw [if_pos hc]
        rw [SesM.sl_setL _ hj (Nat.mod_lt _ (by decide))] at h1 ⊢
        split at h1
        · exact absurd h1 (Nat.lt_irrefl 0)
        · rename_i hkj2
          rw [if_neg hkj2]
          have := h.ne (j := m) (k := 6 + 3 * i + k) (by omega) hm (by unfold MacM.num; omega) (by unfold MacM.sl; rw [if_neg (by omega), if_neg (by omega), if_neg (by omega), hc.2]; exact h1) (by rw [A.sl_q i hk]; exact h0)
          rw [A.sl_q i hk] at this
          unfold MacM.sl at this
          rw [if_neg (by omega), if_neg (by omega), if_neg (by omega), hc.2] at this
          exact this
      · rename_i hc
        rw [if_neg hc]
        have := h.ne (j := m) (k := 6 + 3 * i + k) (by omega) hm (by unfold MacM.num; omega) h1 (by rw [A.sl_q i hk]; exact h0)
        rw [A.sl_q i hk] at this
        exact this
  · rw [SesM.sl_setL _ hj hk] at h0 ⊢
    split at h0
    · exact absurd h0 (Nat.lt_irrefl 0)
    · rename_i hkj
      rw [if_neg hkj]
      exact h.ses5 hi' v hv g hg k hk h0
/-- A number of a word is written. -/
theorem MachOwn.turnW (h : MachOwn D W A M) {g b c : Nat} (hg : g < 4) (hc : c < (A.w g).n * 3) (hb : (A.w g).a = some ⟨b, 0, none⟩) (v : Int) :
    MachOwn D (W.setCell ⟨b, c, none⟩ (.int .i64 v)) A (M.setLv g ((M.lv g).set c v)) := by
  have nn : A.num = 6 + 3 * A.s.n := rfl
  have h0g : 0 < (A.sl g).n := by rw [A.sl_w hg]; exact Nat.pos_of_mul_pos_right (by omega : 0 < (A.w g).n * 3)
  have hbg : (A.sl g).a = some ⟨b, 0, none⟩ := by rw [A.sl_w hg]; exact hb
  have ht : Touch b (b + 1) W (W.setCell ⟨b, c, none⟩ (.int .i64 v)) := (Touch.refl b (b + 1) W).setCell (a := ⟨b, c, none⟩) (Nat.le_refl b) (Nat.lt_succ_self b) _
  obtain ⟨b2, e2, hDb, lb, hlb⟩ := h.own g (by omega) h0g
  rw [hbg] at e2; cases e2
  have lt_of : ∀ j, j < A.num → 0 < (A.sl j).n → ∀ b' o, (A.sl j).a = some ⟨b', o, none⟩ → b' < W.heap.size := fun j hj h0 b' o e => by
    obtain ⟨b2, e2, _, l, hl⟩ := h.own j hj h0
    rw [e2] at e; cases e; exact hl.lt
  have far : ∀ j, j < A.num → j ≠ g → 0 < (A.sl j).n → ∀ b' o, (A.sl j).a = some ⟨b', o, none⟩ → b' ≠ b := fun j hj hjg h0 b' o e hbb => by
    subst hbb
    obtain ⟨b2, e2, _⟩ := h.own j hj h0
    rw [e2] at e; cases e
    exact h.ne hjg hj (by omega) h0 h0g (by rw [e2, hbg])
  have kp : ∀ j, j < A.num → j ≠ g → 0 < (A.sl j).n → ∀ b' o, (A.sl j).a = some ⟨b', o, none⟩ → (W.setCell ⟨b, c, none⟩ (.int .i64 v)).heap[b']? = W.heap[b']? := fun j hj hjg h0 b' o e => ht.block b' (by have := far j hj hjg h0 b' o e; omega) (lt_of j hj h0 b' o e)
  have hlen : (M.lv g).length = (A.w g).n * 3 := (h.is.words g hg).1
  have h4 := h.is.four
  have lvs : ∀ k, (M.setLv g ((M.lv g).set c v)).lv k = if k = g then (M.lv g).set c v else M.lv k := fun k => by
    show (M.words.set g _).getD k [] = _
    by_cases e : k = g
    · subst e; rw [if_pos rfl, getD_set_eq _ _ (by omega)]
    · rw [if_neg e, getD_set_ne' _ _ (Ne.symm e)]; rfl
  refine ⟨⟨by show (M.words.set g _).length = 4; rw [List.length_set]; exact h4, h.is.clocks, fun k hk => ?_, ⟨h.is.sess.1, h.is.sess.2.1, ?_, fun i hi => ?_⟩, ?_⟩, fun j hj => ?_, h.apart, ?_⟩
  · rw [lvs k]
    by_cases e : k = g
    · subst e
      rw [if_pos rfl]
      have hw := h.is.words k hk
      refine ⟨by rw [List.length_set]; exact hw.1, hw.2.1, fun i hi => ?_⟩
      obtain ⟨b3, off, e3, hlt, hcc⟩ := hw.2.2 i hi
      rw [hb] at e3; cases e3
      refine ⟨b, 0, hb, Nat.lt_of_lt_of_le hlt ht.size, ?_⟩
      rw [Nat.zero_add] at hcc ⊢
      show (W.setCell ⟨b, c, none⟩ (.int .i64 v)).cell? ⟨b, i, none⟩ = some (.int .i64 (lz ((M.lv k).set c v) i))
      rw [lz_set (by rw [hlen]; exact hc)]
      by_cases e : i = c
      · subst e; rw [if_pos rfl]; exact World.cell?_setCell_same _ _ _ hcc
      · rw [if_neg e, World.cell?_setCell_other _ _ _ _ (fun he => by simp only [Addr.mk.injEq] at he; omega)]; exact hcc
    · rw [if_neg e]
      exact (h.is.words k hk).keep ht.size fun h0 b' o e' => kp k (by omega) e (by rw [A.sl_w hk]; exact h0) b' o (by rw [A.sl_w hk]; exact e')
  · exact h.is.sess.2.2.1.keep ht.size fun h0 b' o e => kp 4 (by omega) (by omega) (by rw [A.sl_s]; exact Nat.pos_of_mul_pos_right h0) b' o (by rw [A.sl_s]; exact e)
  · have hi' : i < A.s.n := hi
    exact (h.is.sess.2.2.2 i hi).keep ht.size fun j hj h0 b' o e => kp (6 + 3 * i + j) (by omega) (by omega) (by rw [A.sl_q i hj]; exact h0) b' o (by rw [A.sl_q i hj]; exact e)
  · exact h.is.trace.keep ht.size fun h0 b' o e => kp 5 (by omega) (by omega) (by rw [A.sl_e]; exact h0) b' o (by rw [A.sl_e]; exact e)
  · intro h0
    obtain ⟨b2, e2, h1, l, hl⟩ := h.own j hj h0
    by_cases hbb : b2 = b
    · subst hbb; exact ⟨b2, e2, h1, _, hl.set c _⟩
    · exact ⟨b2, e2, h1, l, hl.touch ht (by omega)⟩
  · obtain ⟨v', hv', ho, hb5⟩ := h.trace
    exact ⟨v', hv', ownsRow_keep ho fun g' hg' => ht.block g' (by
      have : g' ≠ b := fun e => (hb5 g' hg').2 g (by omega) (by omega) h0g (by rw [hbg, e])
      omega) (ho.lt g' hg').2, hb5⟩
theorem MachOwn.wblk (h : MachOwn D W A M) {g : Nat} (hg : g < 4) (h0 : 0 < (A.w g).n) : ∃ b, (A.w g).a = some ⟨b, 0, none⟩ ∧ D b ∧ ∃ l, Blk W b l := by
  have := h.own g (by unfold MacM.num; omega) (by rw [A.sl_w hg]; exact h0)
  rw [A.sl_w hg] at this
  exact this
end
section
variable {w0 w : World} {L : List Itm} {P : Program} {ops : Array Oper} {rest : List Oper} {op : Oper} {a : Act} {K : Act → World → Prop} {Q : Exit → Act → World → Prop} {D : Nat → Prop} {A : MacM} {M : PMach}
/-- A cell of a session. -/
theorem stw_loadS (h : MachIs w A M) {k bs off : Nat} (hk : k < A.s.n) (hbs : A.s.a = some ⟨bs, off, none⟩) (c : Nat) (hc : c < 17) {v : Value} (hv : (sessOf (A.q k) (M.at k))[c]? = some v) (ty : TypeId) (x : Operand) (ho : op.op = .load ty x) (o : Nat) (hx : a.eval x = .pointer (some ⟨bs, o, none⟩)) (ho' : o = off + (k * 17 + c))
    (hp : (P.underlying ty).any (fun d => !d.isRow) = true) (hw : K (a.put op.dst v) w) : op.wp P a w K Q := by
  have hcell : w.cell? ⟨bs, o, none⟩ = some v := by
    obtain ⟨b2, off2, e2, _, hcc⟩ := h.sess.cell hk hc
    rw [hbs] at e2; cases e2
    rw [ho', hcc]
    show some ((sessOf (A.q k) (M.at k)).getD c undef) = _
    rw [List.getD_eq_getElem?_getD, hv]
    rfl
  unfold Oper.wp execOp
  simp only [ho, hx, Instr.loadAt, Instr.sureAddr, Sem.run_bind, Sem.run_pure, Result.andThen_ok, run_loadVar_one w _ ty v hcell hp]
  exact hw
theorem st_loadS (h : MachIs w A M) {k bs off : Nat} (hk : k < A.s.n) (hbs : A.s.a = some ⟨bs, off, none⟩) (c : Nat) (hc : c < 17) {v : Value} (hv : (sessOf (A.q k) (M.at k))[c]? = some v) (ty : TypeId) (x : Operand) (ho : op.op = .load ty x) (o : Nat) (hx : a.eval x = .pointer (some ⟨bs, o, none⟩)) (ho' : o = off + (k * 17 + c)) (hgd : Region.wanted op (yielded ops a.tmps) = true)
    (hp : (P.underlying ty).any (fun d => !d.isRow) = true) (hw : wpList P ops Q rest (a.put op.dst v) w) : wpList P ops Q (op :: rest) a w :=
  BigFrame.wpList_want hgd fun _ hK => stw_loadS h hk hbs c hc hv ty x ho o hx ho' hp (hK _ _ hw)
theorem stw_storeN (HS : Hid (St w0 w L)) (i : Nat) (ei : L[i]? = some (machI D A M)) {k bs : Nat} (hk : k < A.s.n) (hbs : A.s.a = some ⟨bs, 0, none⟩) (j : Nat) (hj : j < 14) (ty : TypeId) (x y : Operand) (ho : op.op = .store ty x y) (o : Nat) (hx : a.eval x = .pointer (some ⟨bs, o, none⟩)) (ho' : o = k * 17 + posN j)
    {v : Int} (hy : ValOf a y (.int .i64 v)) (hi : (P.info? ty).map (·.size) = some 1) (hw : ∀ W, Hid (St w0 W (L.set i (machI D A (M.setS k ((M.at k).setN j v))))) → K (a.put op.dst undef) W) : op.wp P a w K Q := by
  have hM : MachOwn D w A M := HS.out.get i ei
  have hp : posN j < 17 := by unfold posN; split <;> (try split) <;> omega
  obtain ⟨b, e, hD, l, hl⟩ := hM.sblk hk
  rw [hbs] at e; cases e
  have hc : ∃ u, w.cell? ⟨bs, k * 17 + posN j, none⟩ = some u := by
    obtain ⟨b2, off, e2, _, hcc⟩ := hM.is.sess.cell hk hp
    rw [hbs] at e2; cases e2
    rw [Nat.zero_add] at hcc
    exact ⟨_, hcc⟩
  obtain ⟨u, hu⟩ := hc
  subst ho'
  unfold Oper.wp execOp
  simp only [ho, hx, hy.eval, Instr.storeAt, Instr.sureAddr, Sem.run_bind, Sem.run_pure, Result.andThen_ok, run_storeVar_one w ⟨bs, k * 17 + posN j, none⟩ ty u (.int .i64 v) hu (hl.frozen _) rfl hi]
  exact hw _ (HS.out.set i ei _ (chg_set hD) (machI_loc _ _ _) (hM.turnN hk hbs hj v) fun k hk => .inl hk)
theorem st_storeN (HS : Hid (St w0 w L)) (i : Nat) (ei : L[i]? = some (machI D A M)) {k bs : Nat} (hk : k < A.s.n) (hbs : A.s.a = some ⟨bs, 0, none⟩) (j : Nat) (hj : j < 14) (ty : TypeId) (x y : Operand) (ho : op.op = .store ty x y) (o : Nat) (hx : a.eval x = .pointer (some ⟨bs, o, none⟩)) (ho' : o = k * 17 + posN j) (hgd : Region.wanted op (yielded ops a.tmps) = true)
    {v : Int} (hy : ValOf a y (.int .i64 v)) (hi : (P.info? ty).map (·.size) = some 1) (hw : ∀ W, Hid (St w0 W (L.set i (machI D A (M.setS k ((M.at k).setN j v))))) → wpList P ops Q rest (a.put op.dst undef) W) : wpList P ops Q (op :: rest) a w :=
  BigFrame.wpList_want hgd fun _ hK => stw_storeN HS i ei hk hbs j hj ty x y ho o hx ho' hy hi fun W h => hK _ _ (hw W h)
theorem stw_storeNil (HS : Hid (St w0 w L)) (i : Nat) (ei : L[i]? = some (machI D A M)) {k bs : Nat} (hk : k < A.s.n) (hbs : A.s.a = some ⟨bs, 0, none⟩) (j : Nat) (hj : j < 3) (ty : TypeId) (x y : Operand) (ho : op.op = .store ty x y) (o : Nat) (hx : a.eval x = .pointer (some ⟨bs, o, none⟩)) (ho' : o = k * 17 + posL j)
    (hy : ValOf a y (.slice none 0 0)) (hi : (P.info? ty).map (·.size) = some 1) (hw : ∀ W, Hid (St w0 W (L.set i (machI D (A.setQ k ((A.q k).setL j noSl)) (M.setS k ((M.at k).setL j []))))) → K (a.put op.dst undef) W) : op.wp P a w K Q := by
  have hM : MachOwn D w A M := HS.out.get i ei
  have hp : posL j < 17 := by unfold posL; split <;> omega
  obtain ⟨b, e, hD, l, hl⟩ := hM.sblk hk
  rw [hbs] at e; cases e
  have hc : ∃ u, w.cell? ⟨bs, k * 17 + posL j, none⟩ = some u := by
    obtain ⟨b2, off, e2, _, hcc⟩ := hM.is.sess.cell hk hp
    rw [hbs] at e2; cases e2
    rw [Nat.zero_add] at hcc
    exact ⟨_, hcc⟩
  obtain ⟨u, hu⟩ := hc
  subst ho'
  unfold Oper.wp execOp
  simp only [ho, hx, hy.eval, Instr.storeAt, Instr.sureAddr, Sem.run_bind, Sem.run_pure, Result.andThen_ok, run_storeVar_one w ⟨bs, k * 17 + posL j, none⟩ ty u (.slice none 0 0) hu (hl.frozen _) rfl hi]
  exact hw _ (HS.out.set i ei _ (chg_set hD) (machI_loc _ _ _) (hM.turnNil hk hbs hj) fun k hk => .inl hk)
theorem st_storeNil (HS : Hid (St w0 w L)) (i : Nat) (ei : L[i]? = some (machI D A M)) {k bs : Nat} (hk : k < A.s.n) (hbs : A.s.a = some ⟨bs, 0, none⟩) (j : Nat) (hj : j < 3) (ty : TypeId) (x y : Operand) (ho : op.op = .store ty x y) (o : Nat) (hx : a.eval x = .pointer (some ⟨bs, o, none⟩)) (ho' : o = k * 17 + posL j) (hgd : Region.wanted op (yielded ops a.tmps) = true)
    (hy : ValOf a y (.slice none 0 0)) (hi : (P.info? ty).map (·.size) = some 1) (hw : ∀ W, Hid (St w0 W (L.set i (machI D (A.setQ k ((A.q k).setL j noSl)) (M.setS k ((M.at k).setL j []))))) → wpList P ops Q rest (a.put op.dst undef) W) : wpList P ops Q (op :: rest) a w :=
  BigFrame.wpList_want hgd fun _ hK => stw_storeNil HS i ei hk hbs j hj ty x y ho o hx ho' hy hi fun W h => hK _ _ (hw W h)
/-- A number of a word. -/
theorem stw_storeW (HS : Hid (St w0 w L)) (i : Nat) (ei : L[i]? = some (machI D A M)) {g b c : Nat} (hg : g < 4) (hc : c < (A.w g).n * 3) (hb : (A.w g).a = some ⟨b, 0, none⟩) (ty : TypeId) (x y : Operand) (ho : op.op = .store ty x y) (hx : a.eval x = .pointer (some ⟨b, c, none⟩))
    {v : Int} (hy : ValOf a y (.int .i64 v)) (hi : (P.info? ty).map (·.size) = some 1) (hw : ∀ W, Hid (St w0 W (L.set i (machI D A (M.setLv g ((M.lv g).set c v))))) → K (a.put op.dst undef) W) : op.wp P a w K Q := by
  have hM : MachOwn D w A M := HS.out.get i ei
  obtain ⟨b2, e, hD, l, hl⟩ := hM.wblk hg (Nat.pos_of_mul_pos_right (by omega : 0 < (A.w g).n * 3))
  rw [hb] at e; cases e
  have hcell : ∃ u, w.cell? ⟨b, c, none⟩ = some u := by
    obtain ⟨b2, off, e2, _, hcc⟩ := (hM.is.words g hg).2.2 c hc
    rw [hb] at e2; cases e2
    rw [Nat.zero_add] at hcc
    exact ⟨_, hcc⟩
  obtain ⟨u, hu⟩ := hcell
  unfold Oper.wp execOp
  simp only [ho, hx, hy.eval, Instr.storeAt, Instr.sureAddr, Sem.run_bind, Sem.run_pure, Result.andThen_ok, run_storeVar_one w ⟨b, c, none⟩ ty u (.int .i64 v) hu (hl.frozen _) rfl hi]
  exact hw _ (HS.out.set i ei _ (chg_set hD) (machI_loc _ _ _) (hM.turnW hg hc hb v) fun k hk => .inl hk)
theorem st_storeW (HS : Hid (St w0 w L)) (i : Nat) (ei : L[i]? = some (machI D A M)) {g b c : Nat} (hg : g < 4) (hc : c < (A.w g).n * 3) (hb : (A.w g).a = some ⟨b, 0, none⟩) (ty : TypeId) (x y : Operand) (ho : op.op = .store ty x y) (hx : a.eval x = .pointer (some ⟨b, c, none⟩)) (hgd : Region.wanted op (yielded ops a.tmps) = true)
    {v : Int} (hy : ValOf a y (.int .i64 v)) (hi : (P.info? ty).map (·.size) = some 1) (hw : ∀ W, Hid (St w0 W (L.set i (machI D A (M.setLv g ((M.lv g).set c v))))) → wpList P ops Q rest (a.put op.dst undef) W) : wpList P ops Q (op :: rest) a w :=
  BigFrame.wpList_want hgd fun _ hK => stw_storeW HS i ei hg hc hb ty x y ho hx hy hi fun W h => hK _ _ (hw W h)
end
end Go.Proofs.YtaaenolbfhhnfaaGreat
namespace Go.Proofs.YtaaenolbfhhnfaaGreat
open Go.RowKit
section
variable {P : Program} {w : World}
theorem run_append_apart (base : Nat) (t ty e : TypeId) (i : TypeInfo) (z : Value) (size bytes : Nat) (ht : P.underlying t = some (.slice e)) (hi : P.info? e = some i) (hz : i.zero = some z)
    (hsize : i.size = size) (hby : i.bytes = bytes) (hzs : z.cells.size = size) (hsz : 0 < size)
    (v : Value) (n : Nat) (xs : List Value) (hown : w.ownsRow base e size v n xs)
    (a : Addr) (m c : Nat) (news : List Value) (hl : news.length = m * size) (hnews : ∀ j u, news[j]? = some u → w.cell? (a.add j) = some u) (h1 : ∀ u ∈ news, u.oneCell' = true)
    (h63 : n + m ≤ maxLen) (hbytes : (n + m) * bytes ≤ 140737488355328) (hbase : base ≤ w.heap.size) :
    ∃ v' w', (Builtin.append_ #[t, t] ty #[v, .slice (some a) m c]).run P w = .ok v' w' ∧ w'.ownsRow base e size v' (n + m) (xs ++ news) ∧ w.grownBy w' v.ownBlock ∧
      (∀ g, v'.ownBlock = some g → v.ownBlock = some g ∨ w.heap.size ≤ g) := by
  obtain ⟨v', w', hr, ho, hg, hn⟩ := run_append_own (P := P) w base t ty e i z size bytes ht hi hz hsize hby hzs hsz v n xs hown a m c news hl hnews h1 h63 hbytes hbase
  refine ⟨v', w', hr, ho, hg, ?_⟩
  subst hsize hby
  have h63' : n + m ≤ 9223372036854775807 := by simp only [maxLen] at h63; omega
  rcases hown.2 with ⟨rfl, rfl⟩ | ⟨g, cap, cur, rfl, _, hgg, _, _, hcs, _⟩
  · by_cases hm : m = 0
    · rw [hn.2 ⟨rfl, hm⟩]
      intro g h; simp [Value.ownBlock] at h
    · have hr2 := run_append_nil (P := P) w t ty e i z ht hi hz a m c news hl hnews (by omega) (by omega) (by simp only [Nat.zero_add] at hbytes; omega)
      rw [hr2] at hr
      injection hr with hv _
      subst hv
      intro g h
      simp [Value.ownBlock] at h
      omega
  · by_cases hroom : n + m ≤ cap
    · have hfit : n * i.size + news.length ≤ cur.size := by rw [hl, hcs, ← Nat.add_mul]; exact Nat.mul_le_mul_right _ hroom
      have hr2 := run_append_room (P := P) w t ty e i ht hi g n cap cur hgg a m c news hl hnews h1 hroom hfit
      rw [hr2] at hr
      injection hr with hv _
      subst hv
      intro g' h
      exact .inl h
    · have hr2 := run_append_grow (P := P) w t ty e i z ht hi hz ⟨g, 0, none⟩ n cap xs hown.1 (hown.cells (g := g) rfl) a m c news hl hnews (by omega) (by omega) (growslice_fits (by omega) hbytes)
      rw [hr2] at hr
      injection hr with hv _
      subst hv
      intro g' h
      simp [Value.ownBlock] at h
      omega
end
/-- Two of the call's own rows lie apart. -/
def Off (v u : Value) : Prop := ∀ g, v.ownBlock = some g → u.ownBlock ≠ some g
theorem Off.symm {v u : Value} (h : Off v u) : Off u v := fun g hu hv => h g hv hu
theorem Off.ne {v u : Value} (h : Off v u) : u.ownBlock = none ∨ u.ownBlock ≠ v.ownBlock := by
  cases e : u.ownBlock with
  | none => exact .inl rfl
  | some g => exact .inr fun hv => h g hv.symm e
/-- Behind an append onto the first. -/
theorem Off.on {v v' u : Value} (h : Off v u) {N : Nat} (hu : ∀ g, u.ownBlock = some g → g < N) (hv : ∀ g, v'.ownBlock = some g → v.ownBlock = some g ∨ N ≤ g) : Off v' u := by
  intro g hg hug
  rcases hv g hg with h1 | h1
  · exact h g h1 hug
  · have := hu g hug
    omega
end Go.Proofs.YtaaenolbfhhnfaaGreat
namespace Go.Proofs.YtaaenolbfhhnfaaGreat
open Go.RowKit
set_option linter.unusedSimpArgs false
set_option linter.unusedVariables false
/-- A list of numbers in memory of its own, as an append may go on. -/
structure ListOwn (D : Nat → Prop) (e : TypeId) (k : Nat) (W : World) (s : Sl) (L : List Int) : Prop where
  is : SlIs W k s L
  own : SlOwn D W s
  row : ∃ v, v = .slice s.a s.n s.c ∧ W.ownsRow 0 e k v s.n (rowL (intF (lz L)) (s.n * k)) ∧ ∀ g, v.ownBlock = some g → D g
def slI (D : Nat → Prop) (e : TypeId) (k : Nat) (s : Sl) (L : List Int) : Itm := ⟨D, fun W => ListOwn D e k W s L⟩
theorem slI_loc (D : Nat → Prop) (e : TypeId) (k : Nat) (s : Sl) (L : List Int) : (slI D e k s L).Loc := fun W W' h hs hk => by
  obtain ⟨h1, h2, v, h3, h4, h5⟩ := (h : ListOwn D e k W s L)
  refine ⟨h1.keep hs fun h0 b o e => ?_, h2.keep hk, v, h3, ownsRow_keep h4 fun g hg => hk g (h5 g hg), h5⟩
  obtain ⟨b2, e2, hD, _⟩ := h2 h0
  rw [e2] at e; cases e
  exact hk _ hD
/-- An empty literal. -/
def litI (b : Nat) (e : TypeId) (size : Nat) : Itm := ⟨fun k => k = b, fun W => W.ownsRow 0 e size (.slice (some ⟨b, 0, none⟩) 0 0) 0 []⟩
theorem litI_loc (b : Nat) (e : TypeId) (size : Nat) : (litI b e size).Loc := fun W W' h _ hk =>
  ownsRow_keep (show W.ownsRow 0 e size (.slice (some ⟨b, 0, none⟩) 0 0) 0 [] from h) fun g hg => hk g (by
    show g = b
    simp only [Value.ownBlock, Option.some.injEq] at hg
    omega)
theorem run_lit0 {P : Program} (w : World) (t e : TypeId) (size : Nat) (ht : P.underlying t = some (.slice e)) (hi : (P.info? e).map (·.size) = some size) : (Instr.buildSlice t 0 #[]).run P w = .ok (.slice (some ⟨w.heap.size, 0, none⟩) 0 0) (w.alloc (.cells #[] e)) := by
  unfold Instr.buildSlice
  cases hq : P.info? e with
  | none => simp [hq] at hi
  | some i =>
    simp [Sem.run_bind, run_underlying ht, sizeOf, typeInfo, hq, Instr.fill, newRow, Result.andThen, go_sem]
theorem stw_lit0 {w0 : World} {L : List Itm} {P : Program} {op : Oper} {a : Act} {w : World} {K : Act → World → Prop} {Q : Exit → Act → World → Prop} (HS : Hid (St w0 w L)) (t e : TypeId) (size : Nat) (ho : op.op = .buildSlice t 0 #[]) (ht : P.underlying t = some (.slice e)) (hi : (P.info? e).map (·.size) = some size)
    (hw : ∀ W b, Hid (St w0 W (litI b e size :: L)) → K (a.put op.dst (.slice (some ⟨b, 0, none⟩) 0 0)) W) : op.wp P a w K Q := by
  unfold Oper.wp execOp
  simp only [ho, Array.map_empty, Sem.run_bind, run_lit0 w t e size ht hi, Sem.run_pure, Result.andThen_ok]
  refine hw _ w.heap.size (HS.out.push ((Below.refl _ w).alloc (Nat.le_refl _) _) (litI w.heap.size e size) (litI_loc _ _ _) ?_ fun k hk => ?_)
  · exact World.ownsRow_made w #[] 0 (Nat.zero_le _) (by decide) (by simp)
  · obtain rfl : k = w.heap.size := hk
    exact ⟨Nat.le_refl _, by simp⟩
theorem st_lit0 {w0 : World} {L : List Itm} {P : Program} {ops : Array Oper} {rest : List Oper} {op : Oper} {a : Act} {w : World} {Q : Exit → Act → World → Prop} (HS : Hid (St w0 w L)) (t e : TypeId) (size : Nat) (ho : op.op = .buildSlice t 0 #[]) (hgd : Region.wanted op (yielded ops a.tmps) = true) (ht : P.underlying t = some (.slice e)) (hi : (P.info? e).map (·.size) = some size)
    (hw : ∀ W b, Hid (St w0 W (litI b e size :: L)) → wpList P ops Q rest (a.put op.dst (.slice (some ⟨b, 0, none⟩) 0 0)) W) : wpList P ops Q (op :: rest) a w :=
  BigFrame.wpList_want hgd fun _ hK => stw_lit0 HS t e size ho ht hi fun W b h => hK _ _ (hw W b h)
/-- What an append onto nothing leaves. -/
theorem run_copy {P : Program} {w : World} (t ty e : TypeId) (i : TypeInfo) (z : Value) (size bytes : Nat) (ht : P.underlying t = some (.slice e)) (hi : P.info? e = some i) (hz : i.zero = some z) (hsize : i.size = size) (hby : i.bytes = bytes) (hzs : z.cells.size = size) (hsz : 0 < size)
    (v : Value) (hown : w.ownsRow 0 e size v 0 []) (s : Sl) (f : Nat → Value) (hr : Row w s.a (s.n * size) f) (hf : s.a = none → s.n = 0 ∧ s.c = 0) (h1 : ∀ i, (f i).oneCell' = true) (hn : s.n ≤ maxLen) (hb : s.n * bytes ≤ 140737488355328) :
    ∃ (v' : Value) (w' : World), (Builtin.append_ #[t, t] ty #[v, .slice s.a s.n s.c]).run P w = .ok v' w' ∧ w'.ownsRow 0 e size v' s.n (rowL f (s.n * size)) ∧ w.grownBy w' v.ownBlock ∧ ∀ g, v'.ownBlock = some g → v.ownBlock = some g ∨ w.heap.size ≤ g := by
  cases hs : s.a with
  | none =>
    obtain ⟨hn0, hc0⟩ := hf hs
    rw [hn0, hc0]
    have := run_append_owned_none (P := P) (w := w) 0 t ty e i size ht hi v 0 [] hown
    refine ⟨v, w, ?_, ?_, grown_same _ _, fun g hg => .inl hg⟩
    · exact this
    · rw [Nat.zero_mul]; exact hown
  | some ad =>
    rw [hs] at hr
    have := run_append_apart (P := P) (w := w) 0 t ty e i z size bytes ht hi hz hsize hby hzs hsz v 0 [] hown ad s.n s.c (rowL f (s.n * size)) (rowL_len _ _) hr.news (rowL_one fun i _ => h1 i) (by omega) (by rw [Nat.zero_add]; exact hb) (Nat.zero_le _)
    obtain ⟨v', w', e1, e2, e3, e4⟩ := this
    rw [Nat.zero_add, List.nil_append] at e2
    exact ⟨v', w', e1, e2, e3, e4⟩
theorem slI_of {W : World} {e : TypeId} {k : Nat} {v : Value} {s : Sl} {L : List Int} {w : World} (h : SlIs w k s L) (ho : W.ownsRow 0 e k v s.n (rowL (intF (lz L)) (s.n * k))) (D : Nat → Prop) (hD : ∀ g, v.ownBlock = some g → D g) :
    ∃ s' : Sl, v = .slice s'.a s'.n s'.c ∧ s'.n = s.n ∧ ListOwn D e k W s' L := by
  obtain ⟨a', c', rfl, hc, ha', hr, ho'⟩ := slice_of_owns ho
  refine ⟨⟨a', s.n, c'⟩, rfl, rfl, ⟨h.1, ⟨h.2.1.1, hc, ha'⟩, hr⟩, fun h0 => ?_, _, rfl, ho, hD⟩
  obtain ⟨b, e1, _, _, l, hl, _⟩ := ho' h0
  refine ⟨b, e1, hD b ?_, l, hl⟩
  show Value.ownBlock (.slice a' s.n c') = some b
  rw [e1]; rfl
theorem stw_copy {w0 w : World} {L : List Itm} {P : Program} {op : Oper} {a : Act} {K : Act → World → Prop} {Q : Exit → Act → World → Prop} (HS : Hid (St w0 w L)) (j : Nat) {b : Nat} {e : TypeId} {k : Nat} (ej : L[j]? = some (litI b e k)) {s : Sl} {l : List Int} (hI : SlIs w k s l)
    (x y : Operand) (t : TypeId) (ho : op.op = .call { callee := .builtin .append, args := #[x, y], argTypes := #[t, t] }) (z : Value) (bytes : Nat) (ht : P.underlying t = some (.slice e)) (hi : (P.info? e).map (fun i => (i.zero, i.size, i.bytes)) = some (some z, k, bytes)) (hzs : z.cells.size = k) (hk : 0 < k) (hb8 : bytes = 8 * k)
    (hx : a.eval x = .slice (some ⟨b, 0, none⟩) 0 0) (hy : a.eval y = .slice s.a s.n s.c)
    (h : ∀ W D' s', Hid (s'.n = s.n) → Hid (St w0 W (L.set j (slI D' e k s' l))) → K (a.put op.dst (.slice s'.a s'.n s'.c)) W) : op.wp P a w K Q := by
  obtain ⟨i, hi', hz, hsize, hby⟩ := info_parts hi
  have hown : w.ownsRow 0 e k (.slice (some ⟨b, 0, none⟩) 0 0) 0 [] := HS.out.get j ej
  have hle := hI.2.1.1
  obtain ⟨v', W, hr, ho2, hg, hat⟩ := run_copy (P := P) t op.type e i z k bytes ht hi' hz hsize hby hzs hk _ hown s _ hI.2.2 hI.2.1.2.2 (fun _ => rfl) (by
    have : s.n * 1 ≤ s.n * (8 * k) := Nat.mul_le_mul_left _ (by omega)
    unfold maxLen; omega) (by rw [hb8]; omega)
  obtain ⟨s', rfl, hn, hs1⟩ := slI_of hI ho2 (fun g => g = b ∨ w.heap.size ≤ g ∧ g < W.heap.size) (fun g hg' => by
    rcases hat g hg' with h1 | h1
    · simp only [Value.ownBlock, Option.some.injEq] at h1; exact .inl h1.symm
    · exact .inr ⟨h1, (ho2.lt g hg').2⟩)
  unfold Oper.wp execOp
  simp only [ho, resolve, invoke, builtin, Sem.run_bind, Sem.run_pure, Result.andThen_ok, List.map_toArray, List.map_cons, List.map_nil, hx, hy, hr]
  refine h W _ s' hn (HS.out.set j ej (slI (fun g => g = b ∨ w.heap.size ≤ g ∧ g < W.heap.size) e k s' l) (chg_grown hg fun g hg' => ?_) (slI_loc _ _ _ _ _) hs1 fun g hg' => hg')
  simp only [Value.ownBlock, Option.some.injEq] at hg'
  exact hg'.symm
theorem stw_copyN {w0 w : World} {L : List Itm} {P : Program} {op : Oper} {a : Act} {K : Act → World → Prop} {Q : Exit → Act → World → Prop} (HS : Hid (St w0 w L)) (e : TypeId) {k : Nat} {s : Sl} {l : List Int} (hI : SlIs w k s l)
    (x y : Operand) (t : TypeId) (ho : op.op = .call { callee := .builtin .append, args := #[x, y], argTypes := #[t, t] }) (z : Value) (bytes : Nat) (ht : P.underlying t = some (.slice e)) (hi : (P.info? e).map (fun i => (i.zero, i.size, i.bytes)) = some (some z, k, bytes)) (hzs : z.cells.size = k) (hk : 0 < k) (hb8 : bytes = 8 * k)
    (hx : a.eval x = .slice none 0 0) (hy : a.eval y = .slice s.a s.n s.c)
    (h : ∀ W D' s', Hid (s'.n = s.n) → Hid (St w0 W (slI D' e k s' l :: L)) → K (a.put op.dst (.slice s'.a s'.n s'.c)) W) : op.wp P a w K Q := by
  obtain ⟨i, hi', hz, hsize, hby⟩ := info_parts hi
  have hle := hI.2.1.1
  obtain ⟨v', W, hr, ho2, hg, hat⟩ := run_copy (P := P) t op.type e i z k bytes ht hi' hz hsize hby hzs hk _ (World.ownsRow_nil w 0 e k) s _ hI.2.2 hI.2.1.2.2 (fun _ => rfl) (by
    have : s.n * 1 ≤ s.n * (8 * k) := Nat.mul_le_mul_left _ (by omega)
    unfold maxLen; omega) (by rw [hb8]; omega)
  obtain ⟨s', rfl, hn, hs1⟩ := slI_of hI ho2 (fun g => w.heap.size ≤ g ∧ g < W.heap.size) (fun g hg' => by
    rcases hat g hg' with h1 | h1
    · simp [Value.ownBlock] at h1
    · exact ⟨h1, (ho2.lt g hg').2⟩)
  unfold Oper.wp execOp
  simp only [ho, resolve, invoke, builtin, Sem.run_bind, Sem.run_pure, Result.andThen_ok, List.map_toArray, List.map_cons, List.map_nil, hx, hy, hr]
  exact h W _ s' hn (HS.out.push ((Below.refl _ w).grown hg (Nat.le_refl _) fun g hg' => by simp [Value.ownBlock] at hg') (slI (fun g => w.heap.size ≤ g ∧ g < W.heap.size) e k s' l) (slI_loc _ _ _ _ _) hs1 fun g hg' => hg')
theorem st_copy {w0 w : World} {L : List Itm} {P : Program} {ops : Array Oper} {rest : List Oper} {op : Oper} {a : Act} {Q : Exit → Act → World → Prop} (HS : Hid (St w0 w L)) (j : Nat) {b : Nat} {e : TypeId} {k : Nat} (ej : L[j]? = some (litI b e k)) {s : Sl} {l : List Int} (hI : SlIs w k s l) (hgd : Region.wanted op (yielded ops a.tmps) = true)
    (x y : Operand) (t : TypeId) (ho : op.op = .call { callee := .builtin .append, args := #[x, y], argTypes := #[t, t] }) (z : Value) (bytes : Nat) (ht : P.underlying t = some (.slice e)) (hi : (P.info? e).map (fun i => (i.zero, i.size, i.bytes)) = some (some z, k, bytes)) (hzs : z.cells.size = k) (hk : 0 < k) (hb8 : bytes = 8 * k)
    (hx : a.eval x = .slice (some ⟨b, 0, none⟩) 0 0) (hy : a.eval y = .slice s.a s.n s.c)
    (h : ∀ W D' s', Hid (s'.n = s.n) → Hid (St w0 W (L.set j (slI D' e k s' l))) → wpList P ops Q rest (a.put op.dst (.slice s'.a s'.n s'.c)) W) : wpList P ops Q (op :: rest) a w :=
  BigFrame.wpList_want hgd fun _ hK => stw_copy HS j ej hI x y t ho z bytes ht hi hzs hk hb8 hx hy fun W D' s' h1 h2 => hK _ _ (h W D' s' h1 h2)
theorem st_copyN {w0 w : World} {L : List Itm} {P : Program} {ops : Array Oper} {rest : List Oper} {op : Oper} {a : Act} {Q : Exit → Act → World → Prop} (HS : Hid (St w0 w L)) (e : TypeId) {k : Nat} {s : Sl} {l : List Int} (hI : SlIs w k s l) (hgd : Region.wanted op (yielded ops a.tmps) = true)
    (x y : Operand) (t : TypeId) (ho : op.op = .call { callee := .builtin .append, args := #[x, y], argTypes := #[t, t] }) (z : Value) (bytes : Nat) (ht : P.underlying t = some (.slice e)) (hi : (P.info? e).map (fun i => (i.zero, i.size, i.bytes)) = some (some z, k, bytes)) (hzs : z.cells.size = k) (hk : 0 < k) (hb8 : bytes = 8 * k)
    (hx : a.eval x = .slice none 0 0) (hy : a.eval y = .slice s.a s.n s.c)
    (h : ∀ W D' s', Hid (s'.n = s.n) → Hid (St w0 W (slI D' e k s' l :: L)) → wpList P ops Q rest (a.put op.dst (.slice s'.a s'.n s'.c)) W) : wpList P ops Q (op :: rest) a w :=
  BigFrame.wpList_want hgd fun _ hK => stw_copyN HS e hI x y t ho z bytes ht hi hzs hk hb8 hx hy fun W D' s' h1 h2 => hK _ _ (h W D' s' h1 h2)
/-- A session's lists, each in memory of its own, apart from the others. -/
structure SesOwn (D : Nat → Prop) (W : World) (q : SesM) (x : PSess) : Prop where
  is : SessIs W q x
  own : ∀ j, j < 3 → SlOwn D W (q.sl j)
  apart : ∀ i j, i < j → j < 3 → 0 < (q.sl i).n → 0 < (q.sl j).n → (q.sl i).a ≠ (q.sl j).a
theorem SesOwn.mono {D D' : Nat → Prop} {W : World} {q : SesM} {x : PSess} (h : SesOwn D W q x) (hd : ∀ k, D k → D' k) : SesOwn D' W q x := ⟨h.is, fun j hj => (h.own j hj).mono hd, h.apart⟩
def sesI (D : Nat → Prop) (q : SesM) (x : PSess) : Itm := ⟨D, fun W => SesOwn D W q x⟩
theorem sesI_loc (D : Nat → Prop) (q : SesM) (x : PSess) : (sesI D q x).Loc := fun W W' h hs hk => by
  have h : SesOwn D W q x := h
  exact ⟨h.is.keep hs fun j hj h0 b o e => (by
    obtain ⟨b2, e2, hD, _⟩ := h.own j hj h0
    rw [e2] at e; cases e
    exact hk _ hD), fun j hj => (h.own j hj).keep hk, h.apart⟩
/-- Two items' blocks are apart: so are their rows. -/
theorem SlOwn.ne {D D' : Nat → Prop} {W : World} {s s' : Sl} (h : SlOwn D W s) (h' : SlOwn D' W s') (hd : ∀ k, D k → D' k → False) (h0 : 0 < s.n) (h1 : 0 < s'.n) : s.a ≠ s'.a := fun e => by
  obtain ⟨b, e1, hD, _⟩ := h h0
  obtain ⟨b', e2, hD', _⟩ := h' h1
  rw [e1, e2] at e
  simp only [Option.some.injEq, Addr.mk.injEq, and_true] at e
  subst e
  exact hd _ hD hD'
end Go.Proofs.YtaaenolbfhhnfaaGreat
namespace Go.Proofs.YtaaenolbfhhnfaaGreat
open Go.RowKit
set_option linter.unusedSimpArgs false
set_option linter.unusedVariables false
section
variable {D D2 : Nat → Prop} {W : World} {A : MacM} {M : PMach}
theorem MachOwn.turnL (h : MachOwn D W A M) {i b j : Nat} (hi' : i < A.s.n) (hb : A.s.a = some ⟨b, 0, none⟩) (hj : j < 3) {s : Sl} {l : List Int} (hs : SlIs W (szL j) s l) (ho : SlOwn D2 W s) (hD : ∀ k, D k → D2 k → False) :
    MachOwn (fun k => D k ∨ D2 k) (W.setCell ⟨b, i * 17 + posL j, none⟩ (.slice s.a s.n s.c)) (A.setQ i ((A.q i).setL j s)) (M.setS i ((M.at i).setL j l)) := by
  have hp : posL j < 17 := by unfold posL; split <;> omega
  have h' : MachOwn (fun k => D k ∨ D2 k) W A M := h.mono fun k hk => .inl hk
  obtain ⟨b0, e0, hDb, _⟩ := h.sblk hi'
  rw [hb] at e0; cases e0
  obtain ⟨t1, t2, t3, t4⟩ := h'.cellTurn hi' hb hp (.slice s.a s.n s.c)
  have old : ∀ m, m < A.num → 0 < (A.sl m).n → 0 < s.n → (A.sl m).a ≠ s.a := fun m hm h0 hs0 e => by
    obtain ⟨b1, e1, d1, _⟩ := h.own m hm h0
    obtain ⟨b2, e2, d2, _⟩ := ho hs0
    rw [e1, e2] at e
    cases e
    exact hD _ d1 d2
  have sld : ∀ {m : Nat}, (A.setQ i ((A.q i).setL j s)).sl m = if 6 ≤ m ∧ (m - 6) / 3 = i then (if (m - 6) % 3 = j then s else (A.q i).sl ((m - 6) % 3)) else A.sl m := fun {m} => by
    rw [MacM.sl_setQ]
    split
    · rw [SesM.sl_setL _ hj (Nat.mod_lt _ (by decide))]
    · rfl
  have slq : ∀ {m : Nat}, 6 ≤ m ∧ (m - 6) / 3 = i → A.sl m = (A.q i).sl ((m - 6) % 3) := fun {m} hc => by
    have := A.sl_q i (j := (m - 6) % 3) (Nat.mod_lt _ (by decide))
    rw [show 6 + 3 * i + (m - 6) % 3 = m by omega] at this
    exact this
  refine h'.turn hi' hb ((A.q i).setL j s) ((M.at i).setL j l) t1 t2 (fun k hk => by rw [sessOf_setL _ _ hj]; exact t3 k hk) t4 ((h'.sesKeep hi' hb t1).setL hj ?_) (fun k hk => ?_) (fun k m hk hm hkm h0 h1 => ?_) (fun v hv g hg k hk h0 => ?_)
  · refine hs.keep t1.size fun h0 b' o e => ?_
    obtain ⟨b2, e2, d2, l2, hl⟩ := ho h0
    rw [e2] at e; cases e
    exact t1.block b' (by
      have : b' ≠ b := fun x => hD b hDb (x ▸ d2)
      omega) hl.lt
  · rw [SesM.sl_setL _ hj hk]
    split
    · intro h0
      obtain ⟨b2, e2, d2, l2, hl⟩ := ho h0
      have : b2 ≠ b := fun x => hD b hDb (x ▸ d2)
      exact ⟨b2, e2, .inr d2, l2, hl.touch t1 (by omega)⟩
    · exact h'.sesOwnKeep hi' t1 t2 hk
  · have hn : 6 + 3 * i + k < A.num := by unfold MacM.num; omega
    rw [SesM.sl_setL _ hj hk] at h0 ⊢
    rw [sld] at h1 ⊢
    by_cases hkj : k = j
    · subst hkj
      rw [if_pos rfl] at h0 ⊢
      by_cases hc : 6 ≤ m ∧ (m - 6) / 3 = i
      · rw [if_pos hc, if_neg (by omega)] at h1 ⊢
        rw [← slq hc] at h1 ⊢
        exact old m hm h1 h0
      · rw [if_neg hc] at h1 ⊢
        exact old m hm h1 h0
    · rw [if_neg hkj] at h0 ⊢
      by_cases hc : 6 ≤ m ∧ (m - 6) / 3 = i
      · by_cases hmj : (m - 6) % 3 = j
        · rw [if_pos hc, if_pos hmj] at h1 ⊢
          have := old _ hn (by rw [A.sl_q i hk]; exact h0) h1
          rw [A.sl_q i hk] at this
          exact this.symm
        · rw [if_pos hc, if_neg hmj] at h1 ⊢
          rw [← slq hc] at h1 ⊢
          have := h.ne (j := m) (k := 6 + 3 * i + k) (by omega) hm hn h1 (by rw [A.sl_q i hk]; exact h0)
          rw [A.sl_q i hk] at this
          exact this
      · rw [if_neg hc] at h1 ⊢
        have := h.ne (j := m) (k := 6 + 3 * i + k) (by omega) hm hn h1 (by rw [A.sl_q i hk]; exact h0)
        rw [A.sl_q i hk] at this
        exact this
  · rw [SesM.sl_setL _ hj hk] at h0 ⊢
    split at h0
    · rename_i hkj
      rw [if_pos hkj]
      obtain ⟨v', hv', _, hb5⟩ := h.trace
      subst hv; subst hv'
      obtain ⟨b2, e2, d2, _⟩ := ho h0
      intro e
      rw [e2] at e; cases e
      exact hD _ (hb5 g hg).1 d2
    · rename_i hkj
      rw [if_neg hkj]
      exact h.ses5 hi' v hv g hg k hk h0
end
/-- A list of numbers in memory of its own, of whatever make. -/
def lisI (D : Nat → Prop) (k : Nat) (s : Sl) (L : List Int) : Itm := ⟨D, fun W => SlIs W k s L ∧ SlOwn D W s⟩
theorem lisI_loc (D : Nat → Prop) (k : Nat) (s : Sl) (L : List Int) : (lisI D k s L).Loc := fun W W' h hs hk => by
  obtain ⟨h1, h2⟩ := (h : SlIs W k s L ∧ SlOwn D W s)
  refine ⟨h1.keep hs fun h0 b o e => ?_, h2.keep hk⟩
  obtain ⟨b2, e2, hD, _⟩ := h2 h0
  rw [e2] at e; cases e
  exact hk _ hD
section
variable {w0 w : World} {L : List Itm} {P : Program} {ops : Array Oper} {rest : List Oper} {op : Oper} {a : Act} {K : Act → World → Prop} {Q : Exit → Act → World → Prop} {D D2 : Nat → Prop} {A : MacM} {M : PMach}
theorem stw_storeL (HS : Hid (St w0 w L)) (i i2 : Nat) (ei : L[i]? = some (machI D A M)) {k bs : Nat} {s : Sl} {l : List Int} (j : Nat) (hj : j < 3) (e2 : L[i2]? = some (lisI D2 (szL j) s l)) (hne : i ≠ i2) (hk : k < A.s.n) (hbs : A.s.a = some ⟨bs, 0, none⟩) (ty : TypeId) (x y : Operand) (ho : op.op = .store ty x y) (o : Nat) (hx : a.eval x = .pointer (some ⟨bs, o, none⟩)) (ho' : o = k * 17 + posL j)
    (hy : ValOf a y (.slice s.a s.n s.c)) (hi : (P.info? ty).map (·.size) = some 1) (hw : ∀ W, Hid (St w0 W ((L.set i2 empI).set i (machI (fun k => D k ∨ D2 k) (A.setQ k ((A.q k).setL j s)) (M.setS k ((M.at k).setL j l))))) → K (a.put op.dst undef) W) : op.wp P a w K Q := by
  have hM : MachOwn D w A M := HS.out.get i ei
  have hL : SlIs w (szL j) s l ∧ SlOwn D2 w s := HS.out.get i2 e2
  have hp : posL j < 17 := by unfold posL; split <;> omega
  obtain ⟨b, eb, hD, l1, hl⟩ := hM.sblk hk
  rw [hbs] at eb; cases eb
  have hc : ∃ u, w.cell? ⟨bs, k * 17 + posL j, none⟩ = some u := by
    obtain ⟨b2, off, e2, _, hcc⟩ := hM.is.sess.cell hk hp
    rw [hbs] at e2; cases e2
    rw [Nat.zero_add] at hcc
    exact ⟨_, hcc⟩
  obtain ⟨u, hu⟩ := hc
  subst ho'
  have hdis : ∀ k, D k → D2 k → False := HS.out.apart i i2 _ _ ei e2 hne
  have l1' := machI_loc D A M
  have l2' := lisI_loc D2 (szL j) s l
  have HG := HS.out.give i i2 ei e2 hne (x' := ⟨fun k => D k ∨ D2 k, fun W => MachOwn D W A M ∧ (SlIs W (szL j) s l ∧ SlOwn D2 W s)⟩) (fun W W' h hs hk => ⟨l1' W W' h.1 hs fun k hk' => hk k (.inl hk'), l2' W W' h.2 hs fun k hk' => hk k (.inr hk')⟩) ⟨hM, hL⟩ fun k hk => hk
  have hiL : i < L.length := (List.getElem?_eq_some_iff.1 ei).1
  have hg : ((L.set i (⟨fun k => D k ∨ D2 k, fun W => MachOwn D W A M ∧ (SlIs W (szL j) s l ∧ SlOwn D2 W s)⟩ : Itm)).set i2 empI)[i]? = some ⟨fun k => D k ∨ D2 k, fun W => MachOwn D W A M ∧ (SlIs W (szL j) s l ∧ SlOwn D2 W s)⟩ := by
    rw [List.getElem?_set, if_neg (Ne.symm hne), List.getElem?_set, if_pos rfl, if_pos hiL]
  have HT := HG.set i hg (machI (fun k => D k ∨ D2 k) (A.setQ k ((A.q k).setL j s)) (M.setS k ((M.at k).setL j l))) (W' := w.setCell ⟨bs, k * 17 + posL j, none⟩ (.slice s.a s.n s.c)) (chg_set (.inl hD)) (machI_loc _ _ _) (hM.turnL hk hbs hj hL.1 hL.2 hdis) fun k hk => .inl hk
  have eq : ((L.set i (⟨fun k => D k ∨ D2 k, fun W => MachOwn D W A M ∧ (SlIs W (szL j) s l ∧ SlOwn D2 W s)⟩ : Itm)).set i2 empI).set i (machI (fun k => D k ∨ D2 k) (A.setQ k ((A.q k).setL j s)) (M.setS k ((M.at k).setL j l))) = (L.set i2 empI).set i (machI (fun k => D k ∨ D2 k) (A.setQ k ((A.q k).setL j s)) (M.setS k ((M.at k).setL j l))) := by
    rw [List.set_comm _ _ hne, List.set_set]
  rw [eq] at HT
  unfold Oper.wp execOp
  simp only [ho, hx, hy.eval, Instr.storeAt, Instr.sureAddr, Sem.run_bind, Sem.run_pure, Result.andThen_ok, run_storeVar_one w ⟨bs, k * 17 + posL j, none⟩ ty u (.slice s.a s.n s.c) hu (hl.frozen _) rfl hi]
  exact hw _ HT
theorem st_storeL (HS : Hid (St w0 w L)) (i i2 : Nat) (ei : L[i]? = some (machI D A M)) {k bs : Nat} {s : Sl} {l : List Int} (j : Nat) (hj : j < 3) (e2 : L[i2]? = some (lisI D2 (szL j) s l)) (hne : i ≠ i2) (hk : k < A.s.n) (hbs : A.s.a = some ⟨bs, 0, none⟩) (ty : TypeId) (x y : Operand) (ho : op.op = .store ty x y) (o : Nat) (hx : a.eval x = .pointer (some ⟨bs, o, none⟩)) (ho' : o = k * 17 + posL j) (hgd : Region.wanted op (yielded ops a.tmps) = true)
    (hy : ValOf a y (.slice s.a s.n s.c)) (hi : (P.info? ty).map (·.size) = some 1) (hw : ∀ W, Hid (St w0 W ((L.set i2 empI).set i (machI (fun k => D k ∨ D2 k) (A.setQ k ((A.q k).setL j s)) (M.setS k ((M.at k).setL j l))))) → wpList P ops Q rest (a.put op.dst undef) W) : wpList P ops Q (op :: rest) a w :=
  BigFrame.wpList_want hgd fun _ hK => stw_storeL HS i i2 ei j hj e2 hne hk hbs ty x y ho o hx ho' hy hi fun W h => hK _ _ (hw W h)
end
end Go.Proofs.YtaaenolbfhhnfaaGreat
namespace Go.Proofs.YtaaenolbfhhnfaaGreat
/-- Are the first n of two rows of numbers the same? -/
def eqTo (z y : Nat → Int) : Nat → Bool
  | 0 => true
  | k + 1 => eqTo z y k && (z k == y k)
theorem eqTo_mk {z y : Nat → Int} : ∀ {n : Nat}, (∀ i, i < n → z i = y i) → eqTo z y n = true
  | 0, _ => rfl
  | n + 1, h => by rw [eqTo, eqTo_mk fun i hi => h i (by omega), h n (by omega)]; simp
theorem eqTo_get {z y : Nat → Int} : ∀ {n : Nat}, eqTo z y n = true → ∀ i, i < n → z i = y i
  | 0, _, i, hi => absurd hi (Nat.not_lt_zero _)
  | n + 1, h, i, hi => by
    simp only [eqTo, Bool.and_eq_true, beq_iff_eq] at h
    by_cases e : i = n
    · subst e; exact h.2
    · exact eqTo_get h.1 i (by omega)
theorem eqTo_no {z y : Nat → Int} {n : Nat} (i : Nat) (hi : i < n) (h : z i ≠ y i) : eqTo z y n = false := by
  cases e : eqTo z y n with
  | false => rfl
  | true => exact absurd (eqTo_get e i hi) h
end Go.Proofs.YtaaenolbfhhnfaaGreat
namespace Go.Proofs.YtaaenolbfhhnfaaGreat
open Go.RowKit
/-- One of a row of words: its three cells. -/
theorem Row.at3 {w : World} {a : Option Addr} {n : Nat} {f : Nat → Value} (h : Row w a (n * 3) f) (k : Nat) (hk : k < n) :
    ∃ b off, a = some ⟨b, off, none⟩ ∧ b < w.heap.size ∧ w.cell? ⟨b, off + k * 3, none⟩ = some (f (k * 3)) ∧ w.cell? ⟨b, off + k * 3 + 1, none⟩ = some (f (k * 3 + 1)) ∧ w.cell? ⟨b, off + k * 3 + 2, none⟩ = some (f (k * 3 + 2)) := by
  obtain ⟨b, off, rfl, hb, c0⟩ := h (k * 3) (by omega)
  obtain ⟨_, _, e, _, c1⟩ := h (k * 3 + 1) (by omega)
  obtain ⟨_, _, e2, _, c2⟩ := h (k * 3 + 2) (by omega)
  simp only [Option.some.injEq, Addr.mk.injEq] at e e2
  obtain ⟨rfl, rfl, _⟩ := e
  obtain ⟨rfl, rfl, _⟩ := e2
  exact ⟨b, off, rfl, hb, c0, c1, c2⟩
end Go.Proofs.YtaaenolbfhhnfaaGreat
namespace Go.Proofs.YtaaenolbfhhnfaaGreat
open Go.RowKit
set_option maxHeartbeats 1000000 in
theorem sameWords_any (a a' : Option Addr) (n c n' c' : Nat) (z y : Nat → Int) (w : World) (hn : n ≤ 1152921504606846976) (h : Row w a (n * 3) fun i => .int .i64 (z i)) (h' : Row w a' (n' * 3) fun i => .int .i64 (y i)) :
    Calls Tryz.prog 99 #[.slice a n c, .slice a' n' c'] w fun e w' => e = .returned (.bool (decide (n = n') && eqTo z y (n * 3))) ∧ ∃ q, w' = w.drewN q := by
  by_cases hnn : n = n'
  · subst hnn
    have hne : ((n : Int) != (n : Int)) = false := by simp
    go_enter Tryz.func99, Tryz.ntmps99
    go_wp2
    go_loopw [5] (fun i wr => ∃ k : Nat, k ≤ n ∧ i = .int .i64 k ∧ eqTo z y (k * 3) = true ∧ ∃ q, wr = w.drewN q) (fun i _ => n - (intOf i).toNat)
    case atStart => exact ⟨0, Nat.zero_le _, rfl, rfl, 0, rfl⟩
    case round =>
      obtain ⟨k, hk, rfl, hs, hq⟩ := hrel
      have HQ : Hid (∃ q, wr = w.drewN q) := hq
      replace h : Row wr a (n * 3) fun i => .int .i64 (z i) := by obtain ⟨q, rfl⟩ := hq; exact h
      replace h' : Row wr a' (n * 3) fun i => .int .i64 (y i) := by obtain ⟨q, rfl⟩ := hq; exact h'
      have HS : Hid (eqTo z y (k * 3) = true) := hs
      clear hs hq
      by_cases hlt : k < n
      · obtain ⟨b, off, rfl, hb, c0, c1, c2⟩ := h.at3 k hlt
        obtain ⟨b', off', rfl, hb', d0, d1, d2⟩ := h'.at3 k hlt
        clear h h'
        have i1 : (k : Int) < (n : Int) := by omega
        by_cases v0 : z (k * 3) = y (k * 3)
        · by_cases v1 : z (k * 3 + 1) = y (k * 3 + 1)
          · by_cases v2 : z (k * 3 + 2) = y (k * 3 + 2)
            · have HE : Hid (eqTo z y ((k + 1) * 3) = true) := by
                show eqTo z y ((k + 1) * 3) = true
                rw [show (k + 1) * 3 = k * 3 + 1 + 1 + 1 by omega, eqTo, eqTo, eqTo, HS.out, v0, v1, v2]
                simp
              go_wp2
              go_quiet (fail)
              go_wp2
              go_roundw
              case rel => exact ⟨k + 1, by omega, by go_num, HE.out, drewN_on HQ.out _⟩
              case measure => simp [intOf]; omega
            · have HV : Hid (z (k * 3 + 2) ≠ y (k * 3 + 2)) := v2
              go_wp2
              go_quiet (fail)
              go_wp2
              go_ret
              exact ⟨ret_bool (by simp [eqTo_no (n := n * 3) (k * 3 + 2) (by omega) HV.out]), drewN_on HQ.out _⟩
          · have HV : Hid (z (k * 3 + 1) ≠ y (k * 3 + 1)) := v1
            go_wp2
            go_quiet (fail)
            go_wp2
            go_ret
            exact ⟨ret_bool (by simp [eqTo_no (n := n * 3) (k * 3 + 1) (by omega) HV.out]), drewN_on HQ.out _⟩
        · have HV : Hid (z (k * 3) ≠ y (k * 3)) := v0
          go_wp2
          go_quiet (fail)
          go_wp2
          go_ret
          exact ⟨ret_bool (by simp [eqTo_no (n := n * 3) (k * 3) (by omega) HV.out]), drewN_on HQ.out _⟩
      · obtain rfl : k = n := by omega
        clear h h'
        go_wp2
        go_ret
        exact ⟨ret_bool (by simp [HS.out]), HQ.out⟩
  · have hne : ((n : Int) != (n' : Int)) = true := by simp; omega
    have HN : Hid (n ≠ n') := hnn
    clear hnn h h'
    go_enter Tryz.func99, Tryz.ntmps99
    go_wp2
    go_ret
    exact ⟨ret_bool (by simp [HN.out]), 0, rfl⟩
end Go.Proofs.YtaaenolbfhhnfaaGreat
namespace Go.Proofs.YtaaenolbfhhnfaaGreat
open Go.RowKit
/-- An arena's value: the four slices. -/
def arenaA (s : Nat → Sl) : Value := .agg #[.slice (s 0).a (s 0).n (s 0).c, .slice (s 1).a (s 1).n (s 1).c, .slice (s 2).a (s 2).n (s 2).c, .slice (s 3).a (s 3).n (s 3).c]
/-- The cells of that value. -/
def arenaL (s : Nat → Sl) : List Value := [.slice (s 0).a (s 0).n (s 0).c, .slice (s 1).a (s 1).n (s 1).c, .slice (s 2).a (s 2).n (s 2).c, .slice (s 3).a (s 3).n (s 3).c]
theorem arenaL_get (s : Nat → Sl) {k : Nat} (hk : k < 4) : (arenaL s)[k]? = some (.slice (s k).a (s k).n (s k).c) := by
  have : k = 0 ∨ k = 1 ∨ k = 2 ∨ k = 3 := by omega
  rcases this with rfl | rfl | rfl | rfl <;> rfl
/-- The words of an arena lie there. -/
def Arn (w : World) (s : Nat → Sl) (z : Nat → Nat → Int) : Prop := ∀ g, g < 4 → Row w (s g).a ((s g).n * 3) fun i => .int .i64 (z g i)
theorem Arn.below {w w' : World} {B : Nat} {s : Nat → Sl} {z : Nat → Nat → Int} (h : Arn w s z) (hb : Below B w w') (hB : w.heap.size ≤ B) : Arn w' s z := fun g hg => (h g hg).below hb hB
theorem Arn.drewN {w : World} {s : Nat → Sl} {z : Nat → Nat → Int} (h : Arn w s z) (k : Nat) : Arn (w.drewN k) s z := h
/-- No level is longer than a machine could hold. -/
def Short (s : Nat → Sl) : Prop := ∀ g, g < 4 → (s g).n ≤ 1152921504606846976
/-- Are the first k levels of two arenas the same? -/
def sameLv (s s' : Nat → Sl) (z z' : Nat → Nat → Int) : Nat → Bool
  | 0 => true
  | k + 1 => sameLv s s' z z' k && (decide ((s k).n = (s' k).n) && eqTo (z k) (z' k) ((s k).n * 3))
theorem sameLv_no {s s' : Nat → Sl} {z z' : Nat → Nat → Int} (k : Nat) (h : (decide ((s k).n = (s' k).n) && eqTo (z k) (z' k) ((s k).n * 3)) = false) : ∀ {m : Nat}, k < m → sameLv s s' z z' m = false
  | 0, hk => absurd hk (Nat.not_lt_zero _)
  | m + 1, hk => by
    by_cases e : k = m
    · subst e; rw [sameLv, h, Bool.and_false]
    · rw [sameLv, sameLv_no k h (by omega), Bool.false_and]
theorem sameLv_mk {s s' : Nat → Sl} {z z' : Nat → Nat → Int} : ∀ {m : Nat}, (∀ g, g < m → (s g).n = (s' g).n ∧ ∀ i, i < (s g).n * 3 → z g i = z' g i) → sameLv s s' z z' m = true
  | 0, _ => rfl
  | m + 1, h => by
    rw [sameLv, sameLv_mk fun g hg => h g (by omega), decide_eq_true (h m (by omega)).1, eqTo_mk (h m (by omega)).2]
    rfl
/-- May the first k words of a row be? -/
def wordsTo (z : Nat → Int) : Nat → Bool
  | 0 => true
  | k + 1 => wordsTo z k && wmay (z (k * 3)) (z (k * 3 + 1)) (z (k * 3 + 2))
/-- May a level be: at most four words, each may be? -/
def lvMay (n : Nat) (z : Nat → Int) : Bool := decide (n ≤ 4) && wordsTo z n
/-- May the first k levels be? -/
def lvTo (s : Nat → Sl) (z : Nat → Nat → Int) : Nat → Bool
  | 0 => true
  | k + 1 => lvTo s z k && lvMay (s k).n (z k)
/-- May it be an arena? -/
def amay (s : Nat → Sl) (z : Nat → Nat → Int) : Bool := lvTo s z 4
theorem wordsTo_get {z : Nat → Int} : ∀ {n : Nat}, wordsTo z n = true → ∀ i, i < n → wmay (z (i * 3)) (z (i * 3 + 1)) (z (i * 3 + 2)) = true
  | 0, _, i, hi => absurd hi (Nat.not_lt_zero _)
  | n + 1, h, i, hi => by
    simp only [wordsTo, Bool.and_eq_true] at h
    by_cases e : i = n
    · subst e; exact h.2
    · exact wordsTo_get h.1 i (by omega)
theorem wordsTo_mk {z : Nat → Int} : ∀ {n : Nat}, (∀ i, i < n → wmay (z (i * 3)) (z (i * 3 + 1)) (z (i * 3 + 2)) = true) → wordsTo z n = true
  | 0, _ => rfl
  | n + 1, h => by rw [wordsTo, wordsTo_mk fun i hi => h i (by omega), h n (by omega)]; rfl
theorem wordsTo_no {z : Nat → Int} {n : Nat} (i : Nat) (hi : i < n) (h : wmay (z (i * 3)) (z (i * 3 + 1)) (z (i * 3 + 2)) = false) : wordsTo z n = false := by
  cases e : wordsTo z n with
  | false => rfl
  | true => rw [wordsTo_get e i hi] at h; cases h
theorem lvTo_get {s : Nat → Sl} {z : Nat → Nat → Int} : ∀ {n : Nat}, lvTo s z n = true → ∀ i, i < n → lvMay (s i).n (z i) = true
  | 0, _, i, hi => absurd hi (Nat.not_lt_zero _)
  | n + 1, h, i, hi => by
    simp only [lvTo, Bool.and_eq_true] at h
    by_cases e : i = n
    · subst e; exact h.2
    · exact lvTo_get h.1 i (by omega)
theorem lvTo_mk {s : Nat → Sl} {z : Nat → Nat → Int} : ∀ {n : Nat}, (∀ i, i < n → lvMay (s i).n (z i) = true) → lvTo s z n = true
  | 0, _ => rfl
  | n + 1, h => by rw [lvTo, lvTo_mk fun i hi => h i (by omega), h n (by omega)]; rfl
theorem lvTo_no {s : Nat → Sl} {z : Nat → Nat → Int} {n : Nat} (i : Nat) (hi : i < n) (h : lvMay (s i).n (z i) = false) : lvTo s z n = false := by
  cases e : lvTo s z n with
  | false => rfl
  | true => rw [lvTo_get e i hi] at h; cases h
theorem lvMay_get {n : Nat} {z : Nat → Int} (h : lvMay n z = true) : n ≤ 4 ∧ wordsTo z n = true := by
  simp only [lvMay, Bool.and_eq_true, decide_eq_true_eq] at h
  exact h
theorem lvMay_mk {n : Nat} {z : Nat → Int} (h : n ≤ 4) (h' : wordsTo z n = true) : lvMay n z = true := by
  rw [lvMay, decide_eq_true h, h']; rfl
theorem lvMay_long {n : Nat} {z : Nat → Int} (h : 4 < n) : lvMay n z = false := by
  rw [lvMay, decide_eq_false (by omega)]; rfl
theorem lvMay_bad {n : Nat} {z : Nat → Int} (i : Nat) (hi : i < n) (h : wmay (z (i * 3)) (z (i * 3 + 1)) (z (i * 3 + 2)) = false) : lvMay n z = false := by
  rw [lvMay, wordsTo_no i hi h, Bool.and_false]
/-- Is there such a word? -/
def thereV (s : Nat → Sl) (l i : Int) : Bool := decide ((0 ≤ l ∧ l < 4) ∧ 0 ≤ i ∧ i < ((s l.toNat).n : Int))
theorem thereV_get {s : Nat → Sl} {l i : Int} (h : thereV s l i = true) : ∃ (g k : Nat), l = g ∧ i = k ∧ g < 4 ∧ k < (s g).n := by
  have := of_decide_eq_true h
  obtain ⟨⟨h0, h1⟩, h2, h3⟩ := this
  refine ⟨l.toNat, i.toNat, by omega, by omega, by omega, by omega⟩
/-- A row with another word in a place. -/
def putR (z : Nat → Int) (i : Nat) (v n k : Int) (j : Nat) : Int := if j = i * 3 + 2 then k else if j = i * 3 + 1 then n else if j = i * 3 then v else z j
/-- Four lists of values lie there. -/
def Vals (w : World) (v : Nat → Sl) (y : Nat → Nat → Int) : Prop := ∀ g, g < 4 → Row w (v g).a (v g).n fun i => .int .i64 (y g i)
theorem Vals.below {w w' : World} {B : Nat} {v : Nat → Sl} {y : Nat → Nat → Int} (h : Vals w v y) (hb : Below B w w') (hB : w.heap.size ≤ B) : Vals w' v y := fun g hg => (h g hg).below hb hB
/-- May the first k values be? -/
def valsTo (y : Nat → Int) : Nat → Bool
  | 0 => true
  | k + 1 => valsTo y k && upToV (y k) 255
/-- May a level be made of them? -/
def lvNew (n : Nat) (y : Nat → Int) : Bool := decide (n ≤ 4) && valsTo y n
/-- May the first k levels be made? -/
def newTo (v : Nat → Sl) (y : Nat → Nat → Int) : Nat → Bool
  | 0 => true
  | k + 1 => newTo v y k && lvNew (v k).n (y k)
/-- May an arena be made of them? -/
def newOk (v : Nat → Sl) (y : Nat → Nat → Int) : Bool := newTo v y 4
/-- The number of New's error. -/
def newE (v : Nat → Sl) (y : Nat → Nat → Int) : Int := bif newOk v y then 0 else 400
/-- Its words' cells. -/
def newZ (y : Nat → Nat → Int) (g j : Nat) : Int := if j % 3 = 0 then y g (j / 3) else 0
theorem valsTo_get {y : Nat → Int} : ∀ {n : Nat}, valsTo y n = true → ∀ i, i < n → upToV (y i) 255 = true
  | 0, _, i, hi => absurd hi (Nat.not_lt_zero _)
  | n + 1, h, i, hi => by
    simp only [valsTo, Bool.and_eq_true] at h
    by_cases e : i = n
    · subst e; exact h.2
    · exact valsTo_get h.1 i (by omega)
theorem valsTo_mk {y : Nat → Int} : ∀ {n : Nat}, (∀ i, i < n → upToV (y i) 255 = true) → valsTo y n = true
  | 0, _ => rfl
  | n + 1, h => by rw [valsTo, valsTo_mk fun i hi => h i (by omega), h n (by omega)]; rfl
theorem lvNew_get {n : Nat} {y : Nat → Int} (h : lvNew n y = true) : n ≤ 4 ∧ valsTo y n = true := by
  simp only [lvNew, Bool.and_eq_true, decide_eq_true_eq] at h
  exact h
theorem lvNew_mk {n : Nat} {y : Nat → Int} (h : n ≤ 4) (h' : valsTo y n = true) : lvNew n y = true := by
  rw [lvNew, decide_eq_true h, h']; rfl
theorem lvNew_long {n : Nat} {y : Nat → Int} (h : 4 < n) : lvNew n y = false := by
  rw [lvNew, decide_eq_false (by omega)]; rfl
theorem lvNew_bad {n : Nat} {y : Nat → Int} (i : Nat) (hi : i < n) (h : upToV (y i) 255 = false) : lvNew n y = false := by
  cases e : lvNew n y with
  | false => rfl
  | true => rw [valsTo_get (lvNew_get e).2 i hi] at h; cases h
theorem newTo_get {v : Nat → Sl} {y : Nat → Nat → Int} : ∀ {n : Nat}, newTo v y n = true → ∀ i, i < n → lvNew (v i).n (y i) = true
  | 0, _, i, hi => absurd hi (Nat.not_lt_zero _)
  | n + 1, h, i, hi => by
    simp only [newTo, Bool.and_eq_true] at h
    by_cases e : i = n
    · subst e; exact h.2
    · exact newTo_get h.1 i (by omega)
theorem newTo_mk {v : Nat → Sl} {y : Nat → Nat → Int} : ∀ {n : Nat}, (∀ i, i < n → lvNew (v i).n (y i) = true) → newTo v y n = true
  | 0, _ => rfl
  | n + 1, h => by rw [newTo, newTo_mk fun i hi => h i (by omega), h n (by omega)]; rfl
theorem newOk_no {v : Nat → Sl} {y : Nat → Nat → Int} (i : Nat) (hi : i < 4) (h : lvNew (v i).n (y i) = false) : newOk v y = false := by
  cases e : newOk v y with
  | false => rfl
  | true => rw [newTo_get e i hi] at h; cases h
end Go.Proofs.YtaaenolbfhhnfaaGreat
namespace Go.Proofs.YtaaenolbfhhnfaaGreat
open Go.RowKit
theorem num_any (x : Int) (w : World) : Calls Tryz.prog 21 #[.int .i64 x] w fun e w' => e = .returned (.int .i64 x) ∧ w = w' := by
  go_enter Tryz.func21, Tryz.ntmps21
  go_wp2
  go_ret
  exact ⟨rfl, rfl⟩
theorem rupTo_any (n m : Int) (w : World) :
    Calls Tryz.prog 129 #[.int .i64 n, .int .i64 0, .int .i64 m] w fun e w' => e = .returned (.bool (upToV n m)) ∧ w = w' := by
  unfold upToV
  by_cases h0 : 0 ≤ n
  · by_cases h1 : n ≤ m
    · rw [decide_eq_true (show 0 ≤ n ∧ n ≤ m from ⟨h0, h1⟩)]
      go_enter Tryz.func129, Tryz.ntmps129
      go_wp2
      go_ret
      exact ⟨rfl, rfl⟩
    · rw [decide_eq_false (show ¬ (0 ≤ n ∧ n ≤ m) from fun x => h1 x.2)]
      go_enter Tryz.func129, Tryz.ntmps129
      go_wp2
      go_ret
      exact ⟨rfl, rfl⟩
  · rw [decide_eq_false (show ¬ (0 ≤ n ∧ n ≤ m) from fun x => h0 x.1)]
    go_enter Tryz.func129, Tryz.ntmps129
    go_wp2
    go_ret
    exact ⟨rfl, rfl⟩
theorem rvalue_any (n : Int) (w : World) :
    Calls Tryz.prog 101 #[.int .i64 n] w fun e w' => e = .returned (.bool (upToV n 255)) ∧ w = w' := by
  go_enter Tryz.func101, Tryz.ntmps101
  go_wp2_with (go_at_call 129; refine (rupTo_any _ _ _).mono ?_; rintro e w' ⟨rfl, rfl⟩)
  go_ret
  exact ⟨rfl, rfl⟩
theorem rclock_any (n : Int) (w : World) :
    Calls Tryz.prog 62 #[.int .i64 n] w fun e w' => e = .returned (.bool (upToV n 65535)) ∧ w = w' := by
  go_enter Tryz.func62, Tryz.ntmps62
  go_wp2_with (go_at_call 129; refine (rupTo_any _ _ _).mono ?_; rintro e w' ⟨rfl, rfl⟩)
  go_ret
  exact ⟨rfl, rfl⟩
theorem rid_any (n : Int) (w : World) :
    Calls Tryz.prog 97 #[.int .i64 n] w fun e w' => e = .returned (.bool (upToV n 254)) ∧ w = w' := by
  go_enter Tryz.func97, Tryz.ntmps97
  go_wp2_with (go_at_call 129; refine (rupTo_any _ _ _).mono ?_; rintro e w' ⟨rfl, rfl⟩)
  go_ret
  exact ⟨rfl, rfl⟩
theorem rlabel_any (n : Int) (w : World) :
    Calls Tryz.prog 64 #[.int .i64 n] w fun e w' => e = .returned (.bool (upToV n 3)) ∧ w = w' := by
  go_enter Tryz.func64, Tryz.ntmps64
  go_wp2_with (go_at_call 129; refine (rupTo_any _ _ _).mono ?_; rintro e w' ⟨rfl, rfl⟩)
  go_ret
  exact ⟨rfl, rfl⟩
theorem rreg_any (n : Int) (w : World) :
    Calls Tryz.prog 187 #[.int .i64 n] w fun e w' => e = .returned (.bool (upToV n 3)) ∧ w = w' := by
  go_enter Tryz.func187, Tryz.ntmps187
  go_wp2_with (go_at_call 129; refine (rupTo_any _ _ _).mono ?_; rintro e w' ⟨rfl, rfl⟩)
  go_ret
  exact ⟨rfl, rfl⟩
theorem rwordName_any (l i : Int) (w : World) :
    Calls Tryz.prog 161 #[.int .i64 l, .int .i64 i] w fun e w' => e = .returned (.bool (upToV l 3 && upToV i 3)) ∧ w = w' := by
  cases hl : upToV l 3
  · have C := fun w => rlabel_any l w
    rw [hl] at C
    have CC := hide C
    clear C
    go_enter Tryz.func161, Tryz.ntmps161
    go_wp2_with (go_at_call 64; refine (CC.out _).mono ?_; rintro e w' ⟨rfl, rfl⟩)
    go_ret
    exact ⟨rfl, rfl⟩
  · have C := fun w => rlabel_any l w
    rw [hl] at C
    have CC := hide C
    clear C
    go_enter Tryz.func161, Tryz.ntmps161
    go_wp2_with (first | (go_at_call 64; refine (CC.out _).mono ?_; rintro e w' ⟨rfl, rfl⟩) | (go_at_call 129; refine (rupTo_any _ _ _).mono ?_; rintro e w' ⟨rfl, rfl⟩))
    go_ret
    exact ⟨rfl, rfl⟩
end Go.Proofs.YtaaenolbfhhnfaaGreat
namespace Go.Proofs.YtaaenolbfhhnfaaGreat
open Go.RowKit
theorem upTo_any (n m : Int) (w : World) :
    Calls Tryz.prog 183 #[.int .i64 n, .int .i64 m] w fun e w' => e = .returned (.bool (upToV n m)) ∧ w = w' := by
  unfold upToV
  by_cases h0 : 0 ≤ n
  · by_cases h1 : n ≤ m
    · rw [decide_eq_true (show 0 ≤ n ∧ n ≤ m from ⟨h0, h1⟩)]
      go_enter Tryz.func183, Tryz.ntmps183
      go_wp2
      go_ret
      exact ⟨rfl, rfl⟩
    · rw [decide_eq_false (show ¬ (0 ≤ n ∧ n ≤ m) from fun x => h1 x.2)]
      go_enter Tryz.func183, Tryz.ntmps183
      go_wp2
      go_ret
      exact ⟨rfl, rfl⟩
  · rw [decide_eq_false (show ¬ (0 ≤ n ∧ n ≤ m) from fun x => h0 x.1)]
    go_enter Tryz.func183, Tryz.ntmps183
    go_wp2
    go_ret
    exact ⟨rfl, rfl⟩
theorem wmay_any (v n l : Int) (w : World) :
    Calls Tryz.prog 168 #[wordA v n l] w fun e w' => e = .returned (.bool (wmay v n l)) ∧ Below w.heap.size w w' := by
  unfold wordA
  cases hv : upToV v 255
  · rw [wmay_no1 hv]
    go_enter Tryz.func168, Tryz.ntmps168
    go_wp2_with (go_at_call 183; refine (upTo_any _ _ _).mono ?_; rintro e w' ⟨rfl, rfl⟩)
    go_ret
    exact ⟨rfl, (Below.refl _ _).alloc (Nat.le_refl _) _⟩
  cases hn : upToV n 65535
  · rw [wmay_no2 hn]
    go_enter Tryz.func168, Tryz.ntmps168
    go_wp2_with (go_at_call 183; refine (upTo_any _ _ _).mono ?_; rintro e w' ⟨rfl, rfl⟩)
    go_ret
    exact ⟨rfl, (Below.refl _ _).alloc (Nat.le_refl _) _⟩
  cases hl : upToV l 255
  · rw [wmay_no3 hl]
    go_enter Tryz.func168, Tryz.ntmps168
    go_wp2_with (go_at_call 183; refine (upTo_any _ _ _).mono ?_; rintro e w' ⟨rfl, rfl⟩)
    go_ret
    exact ⟨rfl, (Below.refl _ _).alloc (Nat.le_refl _) _⟩
  · rw [wmay_of hv hn hl]
    go_enter Tryz.func168, Tryz.ntmps168
    go_wp2_with (go_at_call 183; refine (upTo_any _ _ _).mono ?_; rintro e w' ⟨rfl, rfl⟩)
    go_ret
    exact ⟨rfl, (Below.refl _ _).alloc (Nat.le_refl _) _⟩
theorem lockW_form {v n l i : Int} (h : (wmay v n l && upToV i 254) = false) : lockW v n l i = wordA 0 0 0 ∧ lockE v n l i = 300 := by
  unfold lockW lockE; rw [h]; exact ⟨rfl, rfl⟩
theorem lockW_locked {v n l i : Int} (h : wmay v n l = true) (hi : upToV i 254 = true) (hl : l ≠ 0) : lockW v n l i = wordA 0 0 0 ∧ lockE v n l i = 301 := by
  unfold lockW lockE; rw [h, hi]; simp [hl]
theorem lockW_ok {v n l i : Int} (h : wmay v n l = true) (hi : upToV i 254 = true) (hl : l = 0) : lockW v n l i = wordA v n (i + 1) ∧ lockE v n l i = 0 := by
  unfold lockW lockE; rw [h, hi]; simp [hl]
theorem writeW_form {v n l x y : Int} (h : (wmay v n l && wmay x y 0) = false) : writeW v n l x y = wordA 0 0 0 ∧ writeE v n l x y = 300 := by
  unfold writeW writeE; rw [h]; exact ⟨rfl, rfl⟩
theorem writeW_ok {v n l x y : Int} (h : wmay v n l = true) (hi : wmay x y 0 = true) : writeW v n l x y = wordA x y 0 ∧ writeE v n l x y = 0 := by
  unfold writeW writeE; rw [h, hi]; exact ⟨rfl, rfl⟩
set_option linter.unusedSimpArgs false
end Go.Proofs.YtaaenolbfhhnfaaGreat
namespace Go.Proofs.YtaaenolbfhhnfaaGreat
open Go.RowKit
set_option linter.unusedSimpArgs false
theorem rwmay_any (v n l : Int) (w : World) :
    Calls Tryz.prog 128 #[wordA v n l] w fun e w' => e = .returned (.bool (wmay v n l)) ∧ Below w.heap.size w w' := by
  unfold wordA
  cases hv : upToV v 255
  · rw [wmay_no1 hv]
    go_enter Tryz.func128, Tryz.ntmps128
    go_wp2_with (first | (go_at_call 101; refine (rvalue_any _ _).mono ?_; rintro e w' ⟨rfl, rfl⟩) | (go_at_call 62; refine (rclock_any _ _).mono ?_; rintro e w' ⟨rfl, rfl⟩) | (go_at_call 129; refine (rupTo_any _ _ _).mono ?_; rintro e w' ⟨rfl, rfl⟩))
    go_ret
    exact ⟨rfl, (Below.refl _ _).alloc (Nat.le_refl _) _⟩
  cases hn : upToV n 65535
  · rw [wmay_no2 hn]
    go_enter Tryz.func128, Tryz.ntmps128
    go_wp2_with (first | (go_at_call 101; refine (rvalue_any _ _).mono ?_; rintro e w' ⟨rfl, rfl⟩) | (go_at_call 62; refine (rclock_any _ _).mono ?_; rintro e w' ⟨rfl, rfl⟩) | (go_at_call 129; refine (rupTo_any _ _ _).mono ?_; rintro e w' ⟨rfl, rfl⟩))
    go_ret
    exact ⟨rfl, (Below.refl _ _).alloc (Nat.le_refl _) _⟩
  cases hl : upToV l 255
  · rw [wmay_no3 hl]
    go_enter Tryz.func128, Tryz.ntmps128
    go_wp2_with (first | (go_at_call 101; refine (rvalue_any _ _).mono ?_; rintro e w' ⟨rfl, rfl⟩) | (go_at_call 62; refine (rclock_any _ _).mono ?_; rintro e w' ⟨rfl, rfl⟩) | (go_at_call 129; refine (rupTo_any _ _ _).mono ?_; rintro e w' ⟨rfl, rfl⟩))
    go_ret
    exact ⟨rfl, (Below.refl _ _).alloc (Nat.le_refl _) _⟩
  · rw [wmay_of hv hn hl]
    go_enter Tryz.func128, Tryz.ntmps128
    go_wp2_with (first | (go_at_call 101; refine (rvalue_any _ _).mono ?_; rintro e w' ⟨rfl, rfl⟩) | (go_at_call 62; refine (rclock_any _ _).mono ?_; rintro e w' ⟨rfl, rfl⟩) | (go_at_call 129; refine (rupTo_any _ _ _).mono ?_; rintro e w' ⟨rfl, rfl⟩))
    go_ret
    exact ⟨rfl, (Below.refl _ _).alloc (Nat.le_refl _) _⟩
set_option maxHeartbeats 600000 in
theorem rlock_any (v n l i : Int) (w : World) :
    Calls Tryz.prog 147 #[wordA v n l, .int .i64 i] w fun e w' => e = .returned (.tuple #[lockW v n l i, .int .i64 (lockE v n l i)]) ∧ Below w.heap.size w w' := by
  cases hm : wmay v n l
  · rw [(lockW_form (i := i) (by rw [hm]; rfl)).1, (lockW_form (i := i) (by rw [hm]; rfl)).2]
    unfold wordA
    go_enter Tryz.func147, Tryz.ntmps147
    go_wp2_with fail
    refine (rwmay_any v n l _).mono ?_
    rintro e w1 ⟨rfl, hb⟩
    rw [hm]
    obtain ⟨⟨c0, c1, c2⟩, f0, f1, f2⟩ := (((blk_new w _ _).alloc _).on hb).three
    obtain ⟨⟨d0, d1, d2⟩, g0, g1, g2⟩ := ((blk_new (w.alloc _) _ _).on hb).three
    rw [World.size_alloc] at d0 d1 d2 g0 g1 g2
    have b1 : Below w.heap.size w w1 := Below.on (by go_grown) hb
    go_wp2
    exact bodyPost_ret (v := .tuple #[.agg #[.int .i64 0, .int .i64 0, .int .i64 0], .int .i64 300]) (by simp [results, Tryz.results147, go_sem, d0, d1, d2]) rfl ⟨rfl, by go_grown⟩
  cases hi : upToV i 254
  · rw [(lockW_form (i := i) (by rw [hm, hi]; rfl)).1, (lockW_form (i := i) (by rw [hm, hi]; rfl)).2]
    unfold wordA
    go_enter Tryz.func147, Tryz.ntmps147
    go_wp2_with fail
    refine (rwmay_any v n l _).mono ?_
    rintro e w1 ⟨rfl, hb⟩
    rw [hm]
    obtain ⟨⟨c0, c1, c2⟩, f0, f1, f2⟩ := (((blk_new w _ _).alloc _).on hb).three
    obtain ⟨⟨d0, d1, d2⟩, g0, g1, g2⟩ := ((blk_new (w.alloc _) _ _).on hb).three
    rw [World.size_alloc] at d0 d1 d2 g0 g1 g2
    have b1 : Below w.heap.size w w1 := Below.on (by go_grown) hb
    go_wp2_with (go_at_call 97; refine (rid_any _ _).mono ?_; rintro e w' ⟨rfl, rfl⟩)
    exact bodyPost_ret (v := .tuple #[.agg #[.int .i64 0, .int .i64 0, .int .i64 0], .int .i64 300]) (by simp [results, Tryz.results147, go_sem, d0, d1, d2]) rfl ⟨rfl, by go_grown⟩
  by_cases hl : l = 0
  · rw [(lockW_ok hm hi hl).1, (lockW_ok hm hi hl).2]
    obtain ⟨i0, i1⟩ := upToV_yes hi
    subst hl
    unfold wordA
    go_enter Tryz.func147, Tryz.ntmps147
    go_wp2_with fail
    refine (rwmay_any v n 0 _).mono ?_
    rintro e w1 ⟨rfl, hb⟩
    rw [hm]
    obtain ⟨⟨c0, c1, c2⟩, f0, f1, f2⟩ := (((blk_new w _ _).alloc _).on hb).three
    obtain ⟨⟨d0, d1, d2⟩, g0, g1, g2⟩ := ((blk_new (w.alloc _) _ _).on hb).three
    rw [World.size_alloc] at d0 d1 d2 g0 g1 g2
    have b1 : Below w.heap.size w w1 := Below.on (by go_grown) hb
    go_wp2_with (go_at_call 97; refine (rid_any _ _).mono ?_; rintro e w' ⟨rfl, rfl⟩)
    exact bodyPost_ret (v := .tuple #[.agg #[.int .i64 v, .int .i64 n, .int .i64 (i + 1)], .int .i64 0]) (by simp [results, Tryz.results147, go_sem, d0, d1, d2]) rfl ⟨rfl, by go_grown⟩
  · rw [(lockW_locked hm hi hl).1, (lockW_locked hm hi hl).2]
    have hl' : (l == 0) = false := beq_eq_false_iff_ne.2 hl
    unfold wordA
    go_enter Tryz.func147, Tryz.ntmps147
    go_wp2_with fail
    refine (rwmay_any v n l _).mono ?_
    rintro e w1 ⟨rfl, hb⟩
    rw [hm]
    obtain ⟨⟨c0, c1, c2⟩, f0, f1, f2⟩ := (((blk_new w _ _).alloc _).on hb).three
    obtain ⟨⟨d0, d1, d2⟩, g0, g1, g2⟩ := ((blk_new (w.alloc _) _ _).on hb).three
    rw [World.size_alloc] at d0 d1 d2 g0 g1 g2
    have b1 : Below w.heap.size w w1 := Below.on (by go_grown) hb
    go_wp2_with (go_at_call 97; refine (rid_any _ _).mono ?_; rintro e w' ⟨rfl, rfl⟩)
    exact bodyPost_ret (v := .tuple #[.agg #[.int .i64 0, .int .i64 0, .int .i64 0], .int .i64 301]) (by simp [results, Tryz.results147, go_sem, d0, d1, d2]) rfl ⟨rfl, by go_grown⟩
set_option maxHeartbeats 600000 in
theorem rwrite_any (v n l x y : Int) (w : World) :
    Calls Tryz.prog 149 #[wordA v n l, .int .i64 x, .int .i64 y] w fun e w' => e = .returned (.tuple #[writeW v n l x y, .int .i64 (writeE v n l x y)]) ∧ Below w.heap.size w w' := by
  cases hm : wmay v n l
  · rw [(writeW_form (x := x) (y := y) (by rw [hm]; rfl)).1, (writeW_form (x := x) (y := y) (by rw [hm]; rfl)).2]
    unfold wordA
    go_enter Tryz.func149, Tryz.ntmps149
    go_wp2_with fail
    refine (rwmay_any v n l _).mono ?_
    rintro e w1 ⟨rfl, hb⟩
    rw [hm]
    have B1 := ((blk_new (w.alloc _) _ _).alloc _).on hb
    have B2 := (blk_new ((w.alloc _).alloc _) _ _).on hb
    rw [World.size_alloc] at B1
    rw [World.size_alloc, World.size_alloc] at B2
    obtain ⟨⟨d0, d1, d2⟩, g0, g1, g2⟩ := B1.three
    obtain ⟨⟨c0, c1, c2⟩, f0, f1, f2⟩ := B2.three
    have b1 : Below w.heap.size w w1 := Below.on (by go_grown) hb
    go_wp2
    exact bodyPost_ret (v := .tuple #[.agg #[.int .i64 0, .int .i64 0, .int .i64 0], .int .i64 300]) (by simp [results, Tryz.results149, go_sem, d0, d1, d2]) rfl ⟨rfl, by go_grown⟩
  cases hi : wmay x y 0
  · rw [(writeW_form (by rw [hm, hi]; rfl)).1, (writeW_form (by rw [hm, hi]; rfl)).2]
    unfold wordA
    go_enter Tryz.func149, Tryz.ntmps149
    go_wp2_with fail
    refine (rwmay_any v n l _).mono ?_
    rintro e w1 ⟨rfl, hb⟩
    rw [hm]
    have B1 := ((blk_new (w.alloc _) _ _).alloc _).on hb
    have B2 := (blk_new ((w.alloc _).alloc _) _ _).on hb
    rw [World.size_alloc] at B1
    rw [World.size_alloc, World.size_alloc] at B2
    obtain ⟨⟨d0, d1, d2⟩, g0, g1, g2⟩ := B1.three
    obtain ⟨⟨c0, c1, c2⟩, f0, f1, f2⟩ := B2.three
    have b1 : Below w.heap.size w w1 := Below.on (by go_grown) hb
    go_wp2_with fail
    refine (rwmay_any x y 0 _).mono ?_
    rintro e w2 ⟨rfl, hb2⟩
    rw [hi]
    clear d0 d1 d2 g0 g1 g2 c0 c1 c2 f0 f1 f2
    obtain ⟨⟨d0, d1, d2⟩, g0, g1, g2⟩ := (B1.on hb2).three
    obtain ⟨⟨c0, c1, c2⟩, f0, f1, f2⟩ := (B2.on hb2).three
    have b2 : Below w.heap.size w w2 := Below.on b1 hb2
    go_wp2
    exact bodyPost_ret (v := .tuple #[.agg #[.int .i64 0, .int .i64 0, .int .i64 0], .int .i64 300]) (by simp [results, Tryz.results149, go_sem, d0, d1, d2]) rfl ⟨rfl, by go_grown⟩
  · rw [(writeW_ok hm hi).1, (writeW_ok hm hi).2]
    unfold wordA
    go_enter Tryz.func149, Tryz.ntmps149
    go_wp2_with fail
    refine (rwmay_any v n l _).mono ?_
    rintro e w1 ⟨rfl, hb⟩
    rw [hm]
    have B1 := ((blk_new (w.alloc _) _ _).alloc _).on hb
    have B2 := (blk_new ((w.alloc _).alloc _) _ _).on hb
    rw [World.size_alloc] at B1
    rw [World.size_alloc, World.size_alloc] at B2
    obtain ⟨⟨d0, d1, d2⟩, g0, g1, g2⟩ := B1.three
    obtain ⟨⟨c0, c1, c2⟩, f0, f1, f2⟩ := B2.three
    have b1 : Below w.heap.size w w1 := Below.on (by go_grown) hb
    go_wp2_with fail
    refine (rwmay_any x y 0 _).mono ?_
    rintro e w2 ⟨rfl, hb2⟩
    rw [hi]
    clear d0 d1 d2 g0 g1 g2 c0 c1 c2 f0 f1 f2
    obtain ⟨⟨d0, d1, d2⟩, g0, g1, g2⟩ := (B1.on hb2).three
    obtain ⟨⟨c0, c1, c2⟩, f0, f1, f2⟩ := (B2.on hb2).three
    have b2 : Below w.heap.size w w2 := Below.on b1 hb2
    go_wp2
    exact bodyPost_ret (v := .tuple #[.agg #[.int .i64 x, .int .i64 y, .int .i64 0], .int .i64 0]) (by simp [results, Tryz.results149, go_sem, d0, d1, d2]) rfl ⟨rfl, by go_grown⟩
end Go.Proofs.YtaaenolbfhhnfaaGreat
namespace Go.Proofs.YtaaenolbfhhnfaaGreat
open Go.RowKit
set_option maxHeartbeats 1000000 in
theorem rarenaMay_any (s : Nat → Sl) (z : Nat → Nat → Int) (w : World) (hn : Short s) (h : Arn w s z) :
    Calls Tryz.prog 61 #[arenaA s] w fun e w' => e = .returned (.bool (amay s z)) ∧ Below w.heap.size w w' := by
  unfold arenaA amay
  go_enter Tryz.func61, Tryz.ntmps61
  go_wp2
  go_loopw [3] (fun i wr => ∃ k : Nat, k ≤ 4 ∧ i = .int .i64 k ∧ lvTo s z k = true ∧ Blk wr w.heap.size (arenaL s) ∧ Below w.heap.size w wr) (fun i _ => 4 - (intOf i).toNat)
  case atStart => exact ⟨0, Nat.zero_le _, rfl, rfl, blk_new w (arenaL s) 29, by go_grown⟩
  case round =>
    obtain ⟨k, hk, rfl, hs, B1, hb⟩ := hrel
    by_cases hlt : k < 4
    · have i1 : (k : Int) < 4 := by omega
      have HK := hide (hn k hlt)
      have HS := hide hs
      have HR := hide h
      clear hs h hn
      go_wp2
      go_loopw [4] (fun j wr => ∃ m : Nat, m ≤ (s k).n ∧ m ≤ 4 ∧ j = .int .i64 m ∧ wordsTo (z k) m = true ∧ Blk wr w.heap.size (arenaL s) ∧ Below w.heap.size w wr) (fun j _ => 5 - (intOf j).toNat)
      case atStart => exact ⟨0, Nat.zero_le _, Nat.zero_le _, rfl, rfl, B1, hb⟩
      case round =>
        clear B1 hb
        rename_i wr1
        obtain ⟨m, hm, hm4, rfl, hw, B1, hb⟩ := hrel
        have c1 := B1.cell k _ (arenaL_get s hlt)
        have HW := hide hw
        clear hw
        by_cases hmn : m < (s k).n
        · have i2 : (m : Int) < ((s k).n : Int) := by omega
          by_cases h4 : m < 4
          · have i3 : ¬ (4 : Int) ≤ (m : Int) := by omega
            obtain ⟨b, off, hsa, _, d0, d1, d2⟩ := ((HR.out.below hb (Nat.le_refl _)) k hlt).at3 m hmn
            rw [hsa] at c1
            have HA := hide hsa
            clear hsa
            cases hv : wmay (z k (m * 3)) (z k (m * 3 + 1)) (z k (m * 3 + 2))
            · go_wp2_with fail
              refine (rwmay_any _ _ _ _).mono ?_
              rintro e w1 ⟨rfl, hb1⟩
              rw [hv]
              have b1 : Below w.heap.size w w1 := Below.on hb hb1
              clear hb1 c1 d0 d1 d2
              go_wp2
              go_ret
              exact ⟨ret_bool (lvTo_no k hlt (lvMay_bad m hmn hv)).symm, b1⟩
            · go_wp2_with fail
              refine (rwmay_any _ _ _ _).mono ?_
              rintro e w1 ⟨rfl, hb1⟩
              rw [hv]
              have b1 : Below w.heap.size w w1 := Below.on hb hb1
              have B3 := B1.on hb1
              have HN : Hid (wordsTo (z k) (m + 1) = true) := by
                show wordsTo (z k) (m + 1) = true
                rw [wordsTo, HW.out, hv]
                rfl
              clear hb1 c1 d0 d1 d2 B1 hb
              go_wp2
              go_roundw
              case rel => exact ⟨m + 1, by omega, by omega, by go_num, HN.out, B3, b1⟩
              case measure => simp [intOf]; omega
          · have i3 : (4 : Int) ≤ (m : Int) := by omega
            go_wp2
            go_ret
            exact ⟨ret_bool (lvTo_no k hlt (lvMay_long (by omega))).symm, hb⟩
        · obtain rfl : m = (s k).n := by omega
          have HN : Hid (lvTo s z (k + 1) = true) := by
            show lvTo s z (k + 1) = true
            rw [lvTo, HS.out, lvMay_mk (by omega) HW.out]
            rfl
          go_wp2
          go_roundw
          case rel => exact ⟨k + 1, by omega, by go_num, HN.out, B1, hb⟩
          case measure => simp [intOf]; omega
    · obtain rfl : k = 4 := by omega
      have HS := hide hs
      clear hs h hn
      go_wp2
      go_ret
      exact ⟨ret_bool HS.out.symm, hb⟩
theorem rthere_any (s : Nat → Sl) (l i : Int) (w : World) :
    Calls Tryz.prog 162 #[arenaA s, .int .i64 l, .int .i64 i] w fun e w' => e = .returned (.bool (thereV s l i)) ∧ Below w.heap.size w w' := by
  by_cases hl : 0 ≤ l ∧ l < 4
  · have hm : mayV l = true := decide_eq_true hl
    obtain ⟨g, rfl⟩ : ∃ g : Nat, l = g := ⟨l.toNat, by omega⟩
    have hg : g < 4 := by omega
    have g0 : (0 : Int) ≤ (g : Int) := by omega
    have g1 : (g : Int) < 4 := by omega
    by_cases h0 : 0 ≤ i
    · have c1 := (blk_new w (arenaL s) 29).cell g _ (arenaL_get s hg)
      unfold arenaL at c1
      by_cases h1 : i < ((s g).n : Int)
      · have HT : thereV s (g : Int) i = true := decide_eq_true ⟨hl, h0, by simpa using h1⟩
        rw [HT]
        clear HT hl
        unfold arenaA
        go_enter Tryz.func162, Tryz.ntmps162
        go_wp2_with (go_at_call 64; refine (rmay_any _ _).mono ?_; rintro e w' ⟨rfl, rfl⟩)
        go_ret
        exact ⟨rfl, (Below.refl _ _).alloc (Nat.le_refl _) _⟩
      · have HT : thereV s (g : Int) i = false := decide_eq_false (fun x => h1 (by simpa using x.2.2))
        rw [HT]
        clear HT hl
        unfold arenaA
        go_enter Tryz.func162, Tryz.ntmps162
        go_wp2_with (go_at_call 64; refine (rmay_any _ _).mono ?_; rintro e w' ⟨rfl, rfl⟩)
        go_ret
        exact ⟨ret_bool (decide_eq_false (by omega)), (Below.refl _ _).alloc (Nat.le_refl _) _⟩
    · have HT : thereV s (g : Int) i = false := decide_eq_false (fun x => h0 x.2.1)
      rw [HT]
      clear HT hl
      unfold arenaA
      go_enter Tryz.func162, Tryz.ntmps162
      go_wp2_with (go_at_call 64; refine (rmay_any _ _).mono ?_; rintro e w' ⟨rfl, rfl⟩)
      go_ret
      exact ⟨rfl, (Below.refl _ _).alloc (Nat.le_refl _) _⟩
  · have hm : mayV l = false := decide_eq_false hl
    have HT : thereV s l i = false := decide_eq_false (fun x => hl x.1)
    rw [HT]
    clear HT hl
    unfold arenaA
    go_enter Tryz.func162, Tryz.ntmps162
    go_wp2_with (go_at_call 64; refine (rmay_any _ _).mono ?_; rintro e w' ⟨rfl, rfl⟩)
    go_ret
    exact ⟨rfl, (Below.refl _ _).alloc (Nat.le_refl _) _⟩
end Go.Proofs.YtaaenolbfhhnfaaGreat
namespace Go.Proofs.YtaaenolbfhhnfaaGreat
open Go.RowKit
theorem Tryz.infoWord : (Tryz.prog.info? 54).map (fun i => (i.zero, i.size, i.bytes)) = some (some (.agg #[.int .i64 0, .int .i64 0, .int .i64 0]), 3, 24) := by kernel_rfl
/-- No level is longer than what can come in; nil has none. -/
def Fit (s : Nat → Sl) : Prop := ∀ g, g < 4 → (s g).n * 24 ≤ 140737488351232 ∧ ((s g).a = none → (s g).n = 0 ∧ (s g).c = 0)
theorem Fit.short {s : Nat → Sl} (h : Fit s) : Short s := fun g hg => by have := (h g hg).1; omega
/-- The first k levels are rows of the call's own, in blocks from B up to C, one behind another. -/
def Fresh (B C : Nat) (w : World) (t : Nat → Sl) (z : Nat → Nat → Int) (k : Nat) : Prop :=
  ∃ β : Nat → Nat, (∀ g, g < k → 0 < (t g).n → (t g).a = some ⟨β g, 0, none⟩ ∧ B ≤ β g ∧ β g < C ∧ Own w (β g) ((t g).n * 3) (intF (z g))) ∧ ∀ g h, g < h → h < k → 0 < (t g).n → 0 < (t h).n → β g < β h
section
variable {B C : Nat} {w w' : World} {t : Nat → Sl} {z : Nat → Nat → Int} {k : Nat}
theorem Fresh.zero (B C : Nat) (w : World) (t : Nat → Sl) (z : Nat → Nat → Int) : Fresh B C w t z 0 := ⟨fun _ => 0, fun _ h => absurd h (Nat.not_lt_zero _), fun _ _ _ h => absurd h (Nat.not_lt_zero _)⟩
theorem Fresh.arn (h : Fresh B C w t z 4) : Arn w t z := by
  obtain ⟨β, h1, _⟩ := h
  intro g hg i hi
  obtain ⟨e, _, _, ho⟩ := h1 g hg (by omega)
  rw [e]
  exact ho.row i hi
theorem Fresh.on (h : Fresh B C w t z k) (hb : Below w.heap.size w w') : Fresh B C w' t z k := by
  obtain ⟨β, h1, h2⟩ := h
  exact ⟨β, fun g hg hn => ⟨(h1 g hg hn).1, (h1 g hg hn).2.1, (h1 g hg hn).2.2.1, (h1 g hg hn).2.2.2.on hb⟩, h2⟩
theorem Fresh.below {D : Nat} (h : Fresh B C w t z k) (hb : Below D w w') (hD : C ≤ D) : Fresh B C w' t z k := by
  obtain ⟨β, h1, h2⟩ := h
  exact ⟨β, fun g hg hn => ⟨(h1 g hg hn).1, (h1 g hg hn).2.1, (h1 g hg hn).2.2.1, (h1 g hg hn).2.2.2.below hb (by have := (h1 g hg hn).2.2.1; omega)⟩, h2⟩
/-- Nothing but what lies behind B is stored into. -/
theorem Fresh.far (h : Fresh B C w t z k) {a : Addr} (v : Value) (ha : a.block < B ∨ C ≤ a.block) : Fresh B C (w.setCell a v) t z k := by
  obtain ⟨β, h1, h2⟩ := h
  exact ⟨β, fun g hg hn => ⟨(h1 g hg hn).1, (h1 g hg hn).2.1, (h1 g hg hn).2.2.1, (h1 g hg hn).2.2.2.far v (by have := (h1 g hg hn).2.1; have := (h1 g hg hn).2.2.1; omega)⟩, h2⟩
theorem Fresh.alloc (h : Fresh B C w t z k) (o : Obj) : Fresh B C (w.alloc o) t z k := by
  obtain ⟨β, h1, h2⟩ := h
  exact ⟨β, fun g hg hn => ⟨(h1 g hg hn).1, (h1 g hg hn).2.1, (h1 g hg hn).2.2.1, (h1 g hg hn).2.2.2.alloc o⟩, h2⟩
theorem Fresh.drawn (h : Fresh B C w t z k) (n : Nat) : Fresh B C (w.drewN n) t z k := h
theorem Fresh.drew (h : Fresh B C w t z k) : Fresh B C w.drew t z k := h
theorem Fresh.mono {B' C' : Nat} (h : Fresh B C w t z k) (hB : B' ≤ B) (hC : C ≤ C') : Fresh B' C' w t z k := by
  obtain ⟨β, h1, h2⟩ := h
  exact ⟨β, fun g hg hn => ⟨(h1 g hg hn).1, Nat.le_trans hB (h1 g hg hn).2.1, Nat.lt_of_lt_of_le (h1 g hg hn).2.2.1 hC, (h1 g hg hn).2.2.2⟩, h2⟩
end
/-- One slice set into an arena. -/
def updS (t : Nat → Sl) (k : Nat) (x : Sl) (g : Nat) : Sl := if g = k then x else t g
theorem updS_same (t : Nat → Sl) (k : Nat) (x : Sl) : updS t k x k = x := if_pos rfl
theorem updS_other (t : Nat → Sl) {k g : Nat} (x : Sl) (h : g ≠ k) : updS t k x g = t g := if_neg h
theorem updS_self (t : Nat → Sl) (k : Nat) : updS t k (t k) = t := funext fun g => by
  unfold updS
  split
  · rename_i e; rw [e]
  · rfl
theorem updS_twice (t : Nat → Sl) (k : Nat) (x x' : Sl) : updS (updS t k x) k x' = updS t k x' := funext fun g => by
  unfold updS
  split
  · rfl
  · rfl
theorem arenaL_set (t : Nat → Sl) {k : Nat} (hk : k < 4) (x : Sl) : (arenaL t).set k (.slice x.a x.n x.c) = arenaL (updS t k x) := by
  have : k = 0 ∨ k = 1 ∨ k = 2 ∨ k = 3 := by omega
  rcases this with rfl | rfl | rfl | rfl <;> rfl
/-- One level more, in a block behind the others. -/
theorem Fresh.more {B C C' : Nat} {w : World} {t : Nat → Sl} {z : Nat → Nat → Int} {k : Nat} (h : Fresh B C w t z k) (hB : B ≤ C) (hC : C ≤ C') (x : Sl)
    (hx : 0 < x.n → ∃ b, x.a = some ⟨b, 0, none⟩ ∧ C ≤ b ∧ b < C' ∧ Own w b (x.n * 3) (intF (z k))) : Fresh B C' w (updS t k x) z (k + 1) := by
  obtain ⟨β, h1, h2⟩ := h
  by_cases hp : 0 < x.n
  · obtain ⟨b, e, hb, hb', ho⟩ := hx hp
    refine ⟨fun g => if g = k then b else β g, fun g hg hn => ?_, fun g h hgh hk hg' hh' => ?_⟩
    · by_cases e2 : g = k
      · subst e2
        rw [updS_same] at hn ⊢
        simp only [if_pos]
        exact ⟨e, by omega, hb', ho⟩
      · rw [updS_other t x e2] at hn ⊢
        simp only [if_neg e2]
        have h3 := h1 g (by omega) hn
        exact ⟨h3.1, h3.2.1, by omega, h3.2.2.2⟩
    · have e2 : g ≠ k := by omega
      rw [updS_other t x e2] at hg'
      simp only [if_neg e2]
      by_cases e3 : h = k
      · subst e3
        simp only [if_pos]
        have := (h1 g (by omega) hg').2.2.1
        omega
      · rw [updS_other t x e3] at hh'
        simp only [if_neg e3]
        exact h2 g h hgh (by omega) hg' hh'
  · refine ⟨β, fun g hg hn => ?_, fun g h hgh hk hg' hh' => ?_⟩
    · by_cases e2 : g = k
      · subst e2; rw [updS_same] at hn; omega
      · rw [updS_other t x e2] at hn ⊢
        have h3 := h1 g (by omega) hn
        exact ⟨h3.1, h3.2.1, by omega, h3.2.2.2⟩
    · have e2 : g ≠ k := by omega
      rw [updS_other t x e2] at hg'
      by_cases e3 : h = k
      · subst e3; rw [updS_same] at hh'; omega
      · rw [updS_other t x e3] at hh'
        exact h2 g h hgh (by omega) hg' hh'
/-- The arena of nothing. -/
def nilS : Nat → Sl := fun _ => ⟨none, 0, 0⟩
/-- Nil has nothing, and no room. -/
def Nilly (t : Nat → Sl) : Prop := ∀ g, ((t g).a = none → (t g).n = 0 ∧ (t g).c = 0) ∧ (t g).n ≤ (t g).c
theorem Nilly.nil : Nilly nilS := fun _ => ⟨fun _ => ⟨rfl, rfl⟩, Nat.le_refl _⟩
theorem Nilly.upd {t : Nat → Sl} (h : Nilly t) (k : Nat) {x : Sl} (hx : (x.a = none → x.n = 0 ∧ x.c = 0) ∧ x.n ≤ x.c) : Nilly (updS t k x) := by
  intro g
  by_cases e : g = k
  · subst e; rw [updS_same]; exact hx
  · rw [updS_other t x e]; exact h g
theorem Nilly.fit {t : Nat → Sl} (h : Nilly t) (hn : ∀ g, g < 4 → (t g).n * 24 ≤ 140737488351232) : Fit t := fun g hg => ⟨hn g hg, (h g).1⟩
/-- What the copying keeps, behind one level more. -/
theorem copy_step {w w1 : World} {s t : Nat → Sl} {z : Nat → Nat → Int} {k N : Nat} {x : Sl} (hk : k < 4) (ht : ∀ g, g < k → (t g).n = (s g).n) (B1 : Blk w1 w.heap.size (arenaL s)) (B2 : Blk w1 (w.heap.size + 1) (arenaL nilS)) (B3 : Blk w1 (w.heap.size + 1 + 1) (arenaL t))
    (hF : Fresh (w.heap.size + 1 + 1 + 1) N w1 t z k) (hN : w.heap.size + 1 + 1 + 1 ≤ N) (hN' : N ≤ w1.heap.size) (hb : Below w.heap.size w w1) (hxn : x.n = (s k).n)
    (hx : 0 < x.n → ∃ b, x.a = some ⟨b, 0, none⟩ ∧ N ≤ b ∧ b < w1.heap.size ∧ Own w1 b (x.n * 3) (intF (z k))) :
    (∀ g, g < k + 1 → (updS t k x g).n = (s g).n) ∧ Blk (w1.setCell ⟨w.heap.size + 1 + 1, k, none⟩ (.slice x.a x.n x.c)) w.heap.size (arenaL s) ∧ Blk (w1.setCell ⟨w.heap.size + 1 + 1, k, none⟩ (.slice x.a x.n x.c)) (w.heap.size + 1) (arenaL nilS) ∧
      Blk (w1.setCell ⟨w.heap.size + 1 + 1, k, none⟩ (.slice x.a x.n x.c)) (w.heap.size + 1 + 1) (arenaL (updS t k x)) ∧
      Fresh (w.heap.size + 1 + 1 + 1) (w1.setCell ⟨w.heap.size + 1 + 1, k, none⟩ (.slice x.a x.n x.c)).heap.size (w1.setCell ⟨w.heap.size + 1 + 1, k, none⟩ (.slice x.a x.n x.c)) (updS t k x) z (k + 1) ∧
      w.heap.size + 1 + 1 + 1 ≤ (w1.setCell ⟨w.heap.size + 1 + 1, k, none⟩ (.slice x.a x.n x.c)).heap.size ∧ Below w.heap.size w (w1.setCell ⟨w.heap.size + 1 + 1, k, none⟩ (.slice x.a x.n x.c)) := by
  refine ⟨fun g hg => ?_, B1.far _ (by simp; omega), B2.far _ (by simp), ?_, ?_, by rw [World.size_setCell]; omega, hb.setCell (by simp; omega) _⟩
  · by_cases e : g = k
    · subst e; rw [updS_same]; exact hxn
    · rw [updS_other t x e]; exact ht g (by omega)
  · rw [← arenaL_set t hk]
    exact B3.set k _
  · rw [World.size_setCell]
    refine (hF.far (a := ⟨w.heap.size + 1 + 1, k, none⟩) (.slice x.a x.n x.c) (.inl (by simp))).more hN hN' x fun hp => ?_
    obtain ⟨b, e, h1, h2, ho⟩ := hx hp
    exact ⟨b, e, h1, h2, ho.far _ (by simp; omega)⟩
set_option maxHeartbeats 1000000 in
theorem copyArena_any (s : Nat → Sl) (z : Nat → Nat → Int) (w : World) (hf : Fit s) (h : Arn w s z) :
    Calls Tryz.prog 41 #[arenaA s] w fun e w' => ∃ t, e = .returned (arenaA t) ∧ (∀ g, g < 4 → (t g).n = (s g).n) ∧ Nilly t ∧ Fresh w.heap.size w'.heap.size w' t z 4 ∧ Below w.heap.size w w' := by
  obtain ⟨i0, hi, hz0, hz1, hz2⟩ := info_parts Tryz.infoWord
  unfold arenaA
  go_enter Tryz.func41, Tryz.ntmps41
  go_wp2
  go_loopw [4] (fun i wr => ∃ (k : Nat) (t : Nat → Sl), k ≤ 4 ∧ i = .int .i64 k ∧ (∀ g, g < k → (t g).n = (s g).n) ∧ Nilly t ∧ Blk wr w.heap.size (arenaL s) ∧ Blk wr (w.heap.size + 1) (arenaL nilS) ∧ Blk wr (w.heap.size + 1 + 1) (arenaL t) ∧ Fresh (w.heap.size + 1 + 1 + 1) wr.heap.size wr t z k ∧ w.heap.size + 1 + 1 + 1 ≤ wr.heap.size ∧ Below w.heap.size w wr) (fun i _ => 4 - (intOf i).toNat)
  case atStart =>
    refine ⟨0, nilS, Nat.zero_le _, rfl, fun _ h => absurd h (Nat.not_lt_zero _), Nilly.nil, ?_, ?_, ?_, Fresh.zero _ _ _ _ _, ?_, by go_grown⟩
    · exact ((blk_new w (arenaL s) 29).alloc _).alloc _
    · have := (blk_new (w.alloc (.cells (arenaL s).toArray 29)) (arenaL nilS) 29).alloc (.cells (arenaL nilS).toArray 29)
      rw [World.size_alloc] at this
      exact this
    · have := blk_new ((w.alloc (.cells (arenaL s).toArray 29)).alloc (.cells (arenaL nilS).toArray 29)) (arenaL nilS) 29
      rw [World.size_alloc, World.size_alloc] at this
      exact this
    · simp only [World.size_alloc]; omega
  case round =>
    obtain ⟨k, t, hk, rfl, ht, hny, B1, B2, B3, hF, hz, hb⟩ := hrel
    have HNY := hide hny
    clear hny
    by_cases hlt : k < 4
    · have i1 : (k : Int) < 4 := by omega
      have c1 := B1.cell k _ (arenaL_get s hlt)
      have d1 := B3.cell k _ (arenaL_get t hlt)
      have f1 := B3.frozen k
      have z2 := B3.lt
      have z1 := B1.lt
      have hr := (h.below hb (Nat.le_refl _)) k hlt
      obtain ⟨hn, ha⟩ := hf k hlt
      clear h hf
      cases hsa : (s k).a with
      | none =>
        obtain ⟨hn0, hc0⟩ := ha hsa
        rw [hsa, hn0, hc0] at c1
        have HT := hide ht
        have HN := hide hn0
        clear ha hr hsa hn0 hc0 ht hn
        go_wp2
        go_roundw
        case rel =>
          have st := copy_step (x := ⟨some ⟨wr.heap.size, 0, none⟩, 0, 0⟩) hlt HT.out B1 B2 B3 hF hz (Nat.le_refl _) hb HN.out.symm (fun h => absurd h (Nat.lt_irrefl 0))
          obtain ⟨s1, s2, s3, s4, s5, s6, s7⟩ := st
          exact ⟨k + 1, _, by omega, by go_num, s1, HNY.out.upd k ⟨fun h => (by cases h), Nat.le_refl _⟩, s2.alloc _, s3.alloc _, s4.alloc _, (s5.alloc _).mono (Nat.le_refl _) (by simp only [World.size_alloc, World.size_setCell]; omega), by simp only [World.size_alloc, World.size_setCell]; omega, s7.alloc (by simp only [World.size_setCell]; omega) _⟩
        case measure => simp [intOf]; omega
      | some ad =>
        rw [hsa] at c1 hr
        have hown : (wr.alloc (.cells #[] 54)).ownsRow wr.heap.size 54 3 (.slice (some ⟨wr.heap.size, 0, none⟩) 0 0) 0 [] := World.ownsRow_made wr #[] 0 (Nat.le_refl _) (by decide) rfl
        have HO := hide hown
        have HR := hide (hr.below ((Below.refl wr.heap.size wr).alloc (Nat.le_refl _) (.cells #[] 54)) (Nat.le_refl _)).news
        have HL := hide (rowL_len (intF (z k)) ((s k).n * 3))
        have H1 := hide (rowL_one (f := intF (z k)) (m := (s k).n * 3) fun _ _ => rfl)
        have HT := hide ht
        clear ha hown hr hsa ht
        go_wp2_with (at_builtin; refine wpList_append_own _ rfl (.tmp 10) (.tmp 13) 28 rfl wr.heap.size 54 i0 (.agg #[.int .i64 0, .int .i64 0, .int .i64 0]) 3 24 Tryz.underlying28 hi hz0 hz1 hz2 rfl (by decide) _ _ _ rfl (unhide HO) ad (s k).n (s k).c (rowL (intF (z k)) ((s k).n * 3)) rfl (unhide HL) (unhide HR) (unhide H1) ?_ ?_ ?_ ?_)
        · unfold maxLen; omega
        · omega
        · simp
        · intro v' w1 hown' hg _
          have hown2 : w1.ownsRow wr.heap.size 54 3 v' (s k).n (rowL (intF (z k)) ((s k).n * 3)) := by simpa using hown'
          have bw : Below wr.heap.size wr w1 := ((Below.refl wr.heap.size wr).alloc (Nat.le_refl _) (.cells #[] 54)).grown hg (by simp) (by intro j hj; simp [Value.ownBlock] at hj; omega)
          obtain ⟨x, rfl, hxn, hxy, hxo⟩ : ∃ x : Sl, v' = .slice x.a x.n x.c ∧ x.n = (s k).n ∧ ((x.a = none → x.n = 0 ∧ x.c = 0) ∧ x.n ≤ x.c) ∧ (0 < x.n → ∃ b, x.a = some ⟨b, 0, none⟩ ∧ wr.heap.size ≤ b ∧ b < w1.heap.size ∧ Own w1 b (x.n * 3) (intF (z k))) := by
            rcases own_of_owns hown2 with ⟨rfl, h0⟩ | ⟨g, cap, rfl, hg1, hcp, _, ho⟩
            · exact ⟨⟨none, 0, 0⟩, rfl, h0.symm, ⟨fun _ => ⟨rfl, rfl⟩, Nat.le_refl _⟩, fun h => absurd h (Nat.lt_irrefl 0)⟩
            · exact ⟨⟨some ⟨g, 0, none⟩, (s k).n, cap⟩, rfl, rfl, ⟨fun h => (by cases h), hcp⟩, fun _ => ⟨g, rfl, hg1, ho.lt, ho⟩⟩
          have B1' := B1.on bw
          have B2' := B2.on bw
          have B3' := B3.on bw
          have hF' := hF.on bw
          have hb' : Below w.heap.size w w1 := Below.on hb bw
          have d2 := B3'.cell k _ (arenaL_get t hlt)
          have f2 := B3'.frozen k
          have z3 := bw.size
          have HX := hide hxo
          have HXN := hide hxn
          have HXY := hide hxy
          have HF := hide hF'
          clear hown' hg hown2 hxo hxn hxy hF' hF B1 B2 B3 hb bw c1 d1 f1 z1 z2 HO HR HL H1
          go_wp2
          go_roundw
          case rel =>
            obtain ⟨s1, s2, s3, s4, s5, s6, s7⟩ := copy_step hlt HT.out B1' B2' B3' HF.out hz z3 hb' HXN.out HX.out
            exact ⟨k + 1, _, by omega, by go_num, s1, HNY.out.upd k HXY.out, s2, s3, s4, s5, s6, s7⟩
          case measure => simp [intOf]; omega
    · obtain rfl : k = 4 := by omega
      obtain ⟨⟨c0, c1, c2, c3⟩, f0, f1, f2, f3⟩ := B3.four
      obtain ⟨⟨d0, d1, d2, d3⟩, g0, g1, g2, g3⟩ := B2.four
      have HT := hide ht
      clear ht h hf
      go_wp2
      refine bodyPost_ret (v := .agg #[.slice (t 0).a (t 0).n (t 0).c, .slice (t 1).a (t 1).n (t 1).c, .slice (t 2).a (t 2).n (t 2).c, .slice (t 3).a (t 3).n (t 3).c]) (by simp [results, Tryz.results41, go_sem, d0, d1, d2, d3]) rfl ⟨t, rfl, HT.out, HNY.out, ?_, by go_grown⟩
      simp only [World.size_setCell]
      exact ((((hF.far _ (.inl (by simp))).far _ (.inl (by simp))).far _ (.inl (by simp))).far _ (.inl (by simp))).mono (by omega) (Nat.le_refl _)
set_option maxHeartbeats 1000000 in
theorem rcopyArena_any (s : Nat → Sl) (z : Nat → Nat → Int) (w : World) (hf : Fit s) (h : Arn w s z) :
    Calls Tryz.prog 109 #[arenaA s] w fun e w' => ∃ t, e = .returned (arenaA t) ∧ (∀ g, g < 4 → (t g).n = (s g).n) ∧ Nilly t ∧ Fresh w.heap.size w'.heap.size w' t z 4 ∧ Below w.heap.size w w' := by
  obtain ⟨i0, hi, hz0, hz1, hz2⟩ := info_parts Tryz.infoWord
  unfold arenaA
  go_enter Tryz.func109, Tryz.ntmps109
  go_wp2
  go_loopw [4] (fun i wr => ∃ (k : Nat) (t : Nat → Sl), k ≤ 4 ∧ i = .int .i64 k ∧ (∀ g, g < k → (t g).n = (s g).n) ∧ Nilly t ∧ Blk wr w.heap.size (arenaL s) ∧ Blk wr (w.heap.size + 1) (arenaL nilS) ∧ Blk wr (w.heap.size + 1 + 1) (arenaL t) ∧ Fresh (w.heap.size + 1 + 1 + 1) wr.heap.size wr t z k ∧ w.heap.size + 1 + 1 + 1 ≤ wr.heap.size ∧ Below w.heap.size w wr) (fun i _ => 4 - (intOf i).toNat)
  case atStart =>
    refine ⟨0, nilS, Nat.zero_le _, rfl, fun _ h => absurd h (Nat.not_lt_zero _), Nilly.nil, ?_, ?_, ?_, Fresh.zero _ _ _ _ _, ?_, by go_grown⟩
    · exact ((blk_new w (arenaL s) 29).alloc _).alloc _
    · have := (blk_new (w.alloc (.cells (arenaL s).toArray 29)) (arenaL nilS) 29).alloc (.cells (arenaL nilS).toArray 29)
      rw [World.size_alloc] at this
      exact this
    · have := blk_new ((w.alloc (.cells (arenaL s).toArray 29)).alloc (.cells (arenaL nilS).toArray 29)) (arenaL nilS) 29
      rw [World.size_alloc, World.size_alloc] at this
      exact this
    · simp only [World.size_alloc]; omega
  case round =>
    obtain ⟨k, t, hk, rfl, ht, hny, B1, B2, B3, hF, hz, hb⟩ := hrel
    have HNY := hide hny
    clear hny
    by_cases hlt : k < 4
    · have i1 : (k : Int) < 4 := by omega
      have c1 := B1.cell k _ (arenaL_get s hlt)
      have d1 := B3.cell k _ (arenaL_get t hlt)
      have f1 := B3.frozen k
      have z2 := B3.lt
      have z1 := B1.lt
      have hr := (h.below hb (Nat.le_refl _)) k hlt
      obtain ⟨hn, ha⟩ := hf k hlt
      clear h hf
      cases hsa : (s k).a with
      | none =>
        obtain ⟨hn0, hc0⟩ := ha hsa
        rw [hsa, hn0, hc0] at c1
        have HT := hide ht
        have HN := hide hn0
        clear ha hr hsa hn0 hc0 ht hn
        go_wp2
        go_roundw
        case rel =>
          have st := copy_step (x := ⟨some ⟨wr.heap.size, 0, none⟩, 0, 0⟩) hlt HT.out B1 B2 B3 hF hz (Nat.le_refl _) hb HN.out.symm (fun h => absurd h (Nat.lt_irrefl 0))
          obtain ⟨s1, s2, s3, s4, s5, s6, s7⟩ := st
          exact ⟨k + 1, _, by omega, by go_num, s1, HNY.out.upd k ⟨fun h => (by cases h), Nat.le_refl _⟩, s2.alloc _, s3.alloc _, s4.alloc _, (s5.alloc _).mono (Nat.le_refl _) (by simp only [World.size_alloc, World.size_setCell]; omega), by simp only [World.size_alloc, World.size_setCell]; omega, s7.alloc (by simp only [World.size_setCell]; omega) _⟩
        case measure => simp [intOf]; omega
      | some ad =>
        rw [hsa] at c1 hr
        have hown : (wr.alloc (.cells #[] 54)).ownsRow wr.heap.size 54 3 (.slice (some ⟨wr.heap.size, 0, none⟩) 0 0) 0 [] := World.ownsRow_made wr #[] 0 (Nat.le_refl _) (by decide) rfl
        have HO := hide hown
        have HR := hide (hr.below ((Below.refl wr.heap.size wr).alloc (Nat.le_refl _) (.cells #[] 54)) (Nat.le_refl _)).news
        have HL := hide (rowL_len (intF (z k)) ((s k).n * 3))
        have H1 := hide (rowL_one (f := intF (z k)) (m := (s k).n * 3) fun _ _ => rfl)
        have HT := hide ht
        clear ha hown hr hsa ht
        go_wp2_with (at_builtin; refine wpList_append_own _ rfl (.tmp 10) (.tmp 13) 28 rfl wr.heap.size 54 i0 (.agg #[.int .i64 0, .int .i64 0, .int .i64 0]) 3 24 Tryz.underlying28 hi hz0 hz1 hz2 rfl (by decide) _ _ _ rfl (unhide HO) ad (s k).n (s k).c (rowL (intF (z k)) ((s k).n * 3)) rfl (unhide HL) (unhide HR) (unhide H1) ?_ ?_ ?_ ?_)
        · unfold maxLen; omega
        · omega
        · simp
        · intro v' w1 hown' hg _
          have hown2 : w1.ownsRow wr.heap.size 54 3 v' (s k).n (rowL (intF (z k)) ((s k).n * 3)) := by simpa using hown'
          have bw : Below wr.heap.size wr w1 := ((Below.refl wr.heap.size wr).alloc (Nat.le_refl _) (.cells #[] 54)).grown hg (by simp) (by intro j hj; simp [Value.ownBlock] at hj; omega)
          obtain ⟨x, rfl, hxn, hxy, hxo⟩ : ∃ x : Sl, v' = .slice x.a x.n x.c ∧ x.n = (s k).n ∧ ((x.a = none → x.n = 0 ∧ x.c = 0) ∧ x.n ≤ x.c) ∧ (0 < x.n → ∃ b, x.a = some ⟨b, 0, none⟩ ∧ wr.heap.size ≤ b ∧ b < w1.heap.size ∧ Own w1 b (x.n * 3) (intF (z k))) := by
            rcases own_of_owns hown2 with ⟨rfl, h0⟩ | ⟨g, cap, rfl, hg1, hcp, _, ho⟩
            · exact ⟨⟨none, 0, 0⟩, rfl, h0.symm, ⟨fun _ => ⟨rfl, rfl⟩, Nat.le_refl _⟩, fun h => absurd h (Nat.lt_irrefl 0)⟩
            · exact ⟨⟨some ⟨g, 0, none⟩, (s k).n, cap⟩, rfl, rfl, ⟨fun h => (by cases h), hcp⟩, fun _ => ⟨g, rfl, hg1, ho.lt, ho⟩⟩
          have B1' := B1.on bw
          have B2' := B2.on bw
          have B3' := B3.on bw
          have hF' := hF.on bw
          have hb' : Below w.heap.size w w1 := Below.on hb bw
          have d2 := B3'.cell k _ (arenaL_get t hlt)
          have f2 := B3'.frozen k
          have z3 := bw.size
          have HX := hide hxo
          have HXN := hide hxn
          have HXY := hide hxy
          have HF := hide hF'
          clear hown' hg hown2 hxo hxn hxy hF' hF B1 B2 B3 hb bw c1 d1 f1 z1 z2 HO HR HL H1
          go_wp2
          go_roundw
          case rel =>
            obtain ⟨s1, s2, s3, s4, s5, s6, s7⟩ := copy_step hlt HT.out B1' B2' B3' HF.out hz z3 hb' HXN.out HX.out
            exact ⟨k + 1, _, by omega, by go_num, s1, HNY.out.upd k HXY.out, s2, s3, s4, s5, s6, s7⟩
          case measure => simp [intOf]; omega
    · obtain rfl : k = 4 := by omega
      obtain ⟨⟨c0, c1, c2, c3⟩, f0, f1, f2, f3⟩ := B3.four
      obtain ⟨⟨d0, d1, d2, d3⟩, g0, g1, g2, g3⟩ := B2.four
      have HT := hide ht
      clear ht h hf
      go_wp2
      refine bodyPost_ret (v := .agg #[.slice (t 0).a (t 0).n (t 0).c, .slice (t 1).a (t 1).n (t 1).c, .slice (t 2).a (t 2).n (t 2).c, .slice (t 3).a (t 3).n (t 3).c]) (by simp [results, Tryz.results109, go_sem, d0, d1, d2, d3]) rfl ⟨t, rfl, HT.out, HNY.out, ?_, by go_grown⟩
      simp only [World.size_setCell]
      exact ((((hF.far _ (.inl (by simp))).far _ (.inl (by simp))).far _ (.inl (by simp))).far _ (.inl (by simp))).mono (by omega) (Nat.le_refl _)
end Go.Proofs.YtaaenolbfhhnfaaGreat
namespace Go.Proofs.YtaaenolbfhhnfaaGreat
open Go.RowKit
set_option linter.unusedSimpArgs false
theorem Fresh.nil (B C : Nat) (w : World) (z : Nat → Nat → Int) (k : Nat) : Fresh B C w nilS z k := ⟨fun _ => 0, fun _ _ h => absurd h (Nat.lt_irrefl 0), fun _ _ _ _ h => absurd h (Nat.lt_irrefl 0)⟩
end Go.Proofs.YtaaenolbfhhnfaaGreat
namespace Go.Proofs.YtaaenolbfhhnfaaGreat
open Go.RowKit
/-- Is it so of the first k? -/
def allTo (p : Nat → Bool) : Nat → Bool
  | 0 => true
  | k + 1 => allTo p k && p k
theorem allTo_get {p : Nat → Bool} : ∀ {n : Nat}, allTo p n = true → ∀ i, i < n → p i = true
  | 0, _, i, hi => absurd hi (Nat.not_lt_zero _)
  | n + 1, h, i, hi => by
    simp only [allTo, Bool.and_eq_true] at h
    by_cases e : i = n
    · subst e; exact h.2
    · exact allTo_get h.1 i (by omega)
theorem allTo_mk {p : Nat → Bool} : ∀ {n : Nat}, (∀ i, i < n → p i = true) → allTo p n = true
  | 0, _ => rfl
  | n + 1, h => by rw [allTo, allTo_mk fun i hi => h i (by omega), h n (by omega)]; rfl
theorem allTo_no {p : Nat → Bool} {n : Nat} (i : Nat) (hi : i < n) (h : p i = false) : allTo p n = false := by
  cases e : allTo p n with
  | false => rfl
  | true => rw [allTo_get e i hi] at h; cases h
theorem allTo_ex {p : Nat → Bool} : ∀ {n : Nat}, allTo p n = false → ∃ i, i < n ∧ p i = false
  | 0, h => by cases h
  | n + 1, h => by
    cases e : p n
    · exact ⟨n, by omega, e⟩
    · rw [allTo, e, Bool.and_true] at h
      obtain ⟨i, hi, hp⟩ := allTo_ex h
      exact ⟨i, by omega, hp⟩
theorem allTo_congr {p q : Nat → Bool} : ∀ {n : Nat}, (∀ i, i < n → p i = q i) → allTo p n = allTo q n
  | 0, _ => rfl
  | n + 1, h => by rw [allTo, allTo, allTo_congr fun i hi => h i (by omega), h n (by omega)]
theorem allTo_and (p q : Nat → Bool) : ∀ n, allTo (fun i => p i && q i) n = (allTo p n && allTo q n)
  | 0 => rfl
  | n + 1 => by
    rw [allTo, allTo, allTo, allTo_and p q n]
    cases allTo p n <;> cases allTo q n <;> cases p n <;> cases q n <;> rfl
/-- Is the j-th of that word? (Three numbers each: a level, an index, and one more.) -/
def isWord (z : Nat → Int) (l i : Int) (j : Nat) : Bool := (z (j * 3) == l) && (z (j * 3 + 1) == i)
/-- Is none of the first k of that word? -/
def noneTo (z : Nat → Int) (l i : Int) (k : Nat) : Bool := allTo (fun j => !isWord z l i j) k
section
variable {z x : Nat → Int} {m n : Nat}
end
end Go.Proofs.YtaaenolbfhhnfaaGreat
namespace Go.Proofs.YtaaenolbfhhnfaaGreat
open Go.RowKit
/-- May it be a write, alone? -/
def writeMay (l i v : Int) : Bool := upToV l 3 && upToV i 3 && upToV v 255
theorem writeMay_yes {l i v : Int} (h : writeMay l i v = true) : (0 ≤ l ∧ l ≤ 3) ∧ (0 ≤ i ∧ i ≤ 3) ∧ 0 ≤ v ∧ v ≤ 255 := by
  simp only [writeMay, Bool.and_eq_true] at h
  exact ⟨upToV_yes h.1.1, upToV_yes h.1.2, upToV_yes h.2⟩
theorem writeMay_of {l i v : Int} (h : (0 ≤ l ∧ l ≤ 3) ∧ (0 ≤ i ∧ i ≤ 3) ∧ 0 ≤ v ∧ v ≤ 255) : writeMay l i v = true := by
  rw [writeMay, upToV_of h.1.1 h.1.2, upToV_of h.2.1.1 h.2.1.2, upToV_of h.2.2.1 h.2.2.2]; rfl
/-- Where the k-th one's word stands in the row of words. -/
def wkey (z : Nat → Int) (k : Nat) : Int := 4 * z (k * 3) + z (k * 3 + 1)
def aloneW (z : Nat → Int) (k : Nat) : Bool := writeMay (z (k * 3)) (z (k * 3 + 1)) (z (k * 3 + 2))
/-- Does the k-th stand behind the one ahead of it? -/
def riseW (z : Nat → Int) (k : Nat) : Bool := decide (k = 0) || decide (wkey z (k - 1) < wkey z k)
/-- May they be? -/
def writesMay (n : Nat) (z : Nat → Int) : Bool := allTo (aloneW z) n && allTo (riseW z) n && decide (n ≤ 16)
/-- Is the j-th ahead of that word? By Level, of one Level by Index. -/
def ltW (z : Nat → Int) (l i : Int) (j : Nat) : Bool := decide (z (j * 3) < l) || (decide (z (j * 3) = l) && decide (z (j * 3 + 1) < i))
/-- Are all ahead of the k-th ahead of its word? -/
def aheadW (z : Nat → Int) (k : Nat) : Bool := allTo (ltW z (z (k * 3)) (z (k * 3 + 1))) k
/-- Three numbers that may be, for each; they rise; at most sixteen. -/
structure Wr (n : Nat) (z : Nat → Int) : Prop where
  alone : ∀ k, k < n → (0 ≤ z (k * 3) ∧ z (k * 3) ≤ 3) ∧ (0 ≤ z (k * 3 + 1) ∧ z (k * 3 + 1) ≤ 3) ∧ 0 ≤ z (k * 3 + 2) ∧ z (k * 3 + 2) ≤ 255
  rise : ∀ j k, j < k → k < n → wkey z j < wkey z k
  few : n ≤ 16
theorem rise_all {z : Nat → Int} {n : Nat} (h : allTo (riseW z) n = true) : ∀ k, k < n → ∀ j, j < k → wkey z j < wkey z k
  | 0, _, j, hj => absurd hj (Nat.not_lt_zero _)
  | k + 1, hk, j, hj => by
    have h1 := allTo_get h (k + 1) hk
    simp only [riseW, Bool.or_eq_true, decide_eq_true_eq, Nat.add_sub_cancel] at h1
    have h1 : wkey z k < wkey z (k + 1) := by rcases h1 with h1 | h1 <;> omega
    by_cases e : j = k
    · subst e; exact h1
    · have := rise_all h k (by omega) j (by omega)
      omega
theorem writesMay_get {n : Nat} {z : Nat → Int} (h : writesMay n z = true) : Wr n z := by
  simp only [writesMay, Bool.and_eq_true, decide_eq_true_eq] at h
  exact ⟨fun k hk => writeMay_yes (allTo_get h.1.1 k hk), fun j k hjk hk => rise_all h.1.2 k hk j hjk, h.2⟩
theorem Wr.may {n : Nat} {z : Nat → Int} (h : Wr n z) : writesMay n z = true := by
  rw [writesMay, allTo_mk (p := aloneW z) fun k hk => writeMay_of (h.alone k hk), allTo_mk (p := riseW z) fun k hk => ?_, decide_eq_true h.few]
  · rfl
  · unfold riseW
    cases k with
    | zero => rfl
    | succ k => rw [Nat.add_sub_cancel, decide_eq_true (h.rise k (k + 1) (by omega) hk), Bool.or_true]
theorem writesMay_alones {n : Nat} {z : Nat → Int} (h : allTo (aloneW z) n = false) : writesMay n z = false := by rw [writesMay, h]; rfl
theorem writesMay_alone {n : Nat} {z : Nat → Int} (k : Nat) (hk : k < n) (h : aloneW z k = false) : writesMay n z = false := writesMay_alones (allTo_no k hk h)
theorem writesMay_rise {n : Nat} {z : Nat → Int} (k : Nat) (hk : k < n) (h : riseW z k = false) : writesMay n z = false := by rw [writesMay, allTo_no k hk h, Bool.and_false, Bool.false_and]
theorem writesMay_long {n : Nat} {z : Nat → Int} (h : 16 < n) : writesMay n z = false := by rw [writesMay, decide_eq_false (by omega), Bool.and_false]
theorem ltW_iff {z : Nat → Int} {l i : Int} {j : Nat} : ltW z l i j = true ↔ z (j * 3) < l ∨ z (j * 3) = l ∧ z (j * 3 + 1) < i := by
  simp only [ltW, Bool.or_eq_true, Bool.and_eq_true, decide_eq_true_eq]
/-- Where the numbers may be, a word is ahead of another just if it stands so in the row of words. -/
theorem ltW_key {z : Nat → Int} {l i : Int} {j : Nat} (h : (0 ≤ z (j * 3) ∧ z (j * 3) ≤ 3) ∧ 0 ≤ z (j * 3 + 1) ∧ z (j * 3 + 1) ≤ 3) (h' : 0 ≤ i ∧ i ≤ 3) : ltW z l i j = true ↔ wkey z j < 4 * l + i := by
  rw [ltW_iff, wkey]
  omega
theorem writesMay_ahead {n : Nat} {z : Nat → Int} (h : allTo (aloneW z) n = true) (h' : allTo (aheadW z) n = true) (hn : n ≤ 16) : writesMay n z = true := by
  have ha := fun k hk => writeMay_yes (allTo_get h k hk)
  refine Wr.may ⟨ha, fun j k hjk hk => ?_, hn⟩
  exact (ltW_key ⟨(ha j (by omega)).1, (ha j (by omega)).2.1⟩ (ha k hk).2.1).1 (allTo_get (allTo_get h' k hk) j hjk)
theorem writesMay_not_ahead {n : Nat} {z : Nat → Int} (k : Nat) (hk : k < n) (h : aheadW z k = false) : writesMay n z = false := by
  cases e : writesMay n z with
  | false => rfl
  | true =>
    have H := writesMay_get e
    have : aheadW z k = true := allTo_mk fun j hj => (ltW_key ⟨(H.alone j (by omega)).1, (H.alone j (by omega)).2.1⟩ (H.alone k hk).2.1).2 (H.rise j k hj hk)
    rw [this] at h; cases h
/-- How many, from the first on, is it so of? -/
def lead (p : Nat → Bool) : Nat → Nat
  | 0 => 0
  | k + 1 => bif allTo p (k + 1) then k + 1 else lead p k
theorem lead_le (p : Nat → Bool) : ∀ n, lead p n ≤ n
  | 0 => Nat.le_refl _
  | n + 1 => by
    rw [lead]
    have := lead_le p n
    cases allTo p (n + 1) <;> simp only [cond_true, cond_false] <;> omega
theorem lead_all (p : Nat → Bool) : ∀ n, allTo p (lead p n) = true
  | 0 => rfl
  | n + 1 => by
    rw [lead]
    cases e : allTo p (n + 1)
    · exact lead_all p n
    · exact e
theorem lead_is {p : Nat → Bool} {k : Nat} (h : allTo p k = true) : ∀ {n : Nat}, k ≤ n → (k < n → p k = false) → lead p n = k
  | 0, hk, _ => by rw [lead]; omega
  | n + 1, hk, hp => by
    rw [lead]
    by_cases e : k = n + 1
    · subst e; rw [h]; rfl
    · rw [allTo_no k (by omega) (hp (by omega)), cond_false, lead_is h (n := n) (by omega) fun h => hp (by omega)]
theorem lead_no {p : Nat → Bool} : ∀ {n : Nat}, lead p n < n → p (lead p n) = false
  | 0, h => absurd h (Nat.not_lt_zero _)
  | n + 1, h => by
    rw [lead] at h ⊢
    cases e : allTo p (n + 1)
    · rw [e, cond_false] at h
      rw [cond_false]
      by_cases h' : lead p n < n
      · exact lead_no h'
      · have h2 := lead_le p n
        have h3 : lead p n = n := by omega
        have h4 := lead_all p n
        rw [h3] at h4 ⊢
        rw [allTo, h4, Bool.true_and] at e
        exact e
    · rw [e, cond_true] at h; omega
/-- How many are ahead of that word. -/
def posW (n : Nat) (z : Nat → Int) (l i : Int) : Nat := lead (ltW z l i) n
/-- Is there one of that word? -/
def hasW (n : Nat) (z : Nat → Int) (l i : Int) : Bool := !noneTo z l i n
/-- From where on they are behind that word. -/
def toW (n : Nat) (z : Nat → Int) (l i : Int) : Nat := bif hasW n z l i then posW n z l i + 1 else posW n z l i
theorem posW_le (n : Nat) (z : Nat → Int) (l i : Int) : posW n z l i ≤ n := lead_le _ _
theorem isWord_iff {z : Nat → Int} {l i : Int} {j : Nat} : isWord z l i j = true ↔ z (j * 3) = l ∧ z (j * 3 + 1) = i := by
  simp only [isWord, Bool.and_eq_true, beq_iff_eq]
theorem hasW_iff {n : Nat} {z : Nat → Int} {l i : Int} : hasW n z l i = true ↔ ∃ k, k < n ∧ z (k * 3) = l ∧ z (k * 3 + 1) = i := by
  unfold hasW noneTo
  constructor
  · intro h
    rw [Bool.not_eq_true'] at h
    obtain ⟨k, hk, h⟩ := allTo_ex h
    rw [Bool.not_eq_false'] at h
    exact ⟨k, hk, isWord_iff.1 h⟩
  · rintro ⟨k, hk, h⟩
    rw [allTo_no k hk (by rw [isWord_iff.2 h]; rfl)]
    rfl
theorem hasW_no {n : Nat} {z : Nat → Int} {l i : Int} (h : hasW n z l i = false) (k : Nat) (hk : k < n) : ¬ (z (k * 3) = l ∧ z (k * 3 + 1) = i) := fun e => by
  rw [hasW_iff.2 ⟨k, hk, e⟩] at h; cases h
/-- The one of a word stands behind those that are ahead of it. -/
theorem Wr.pos {n : Nat} {z : Nat → Int} (H : Wr n z) {l i : Int} {k : Nat} (hk : k < n) (h : z (k * 3) = l ∧ z (k * 3 + 1) = i) : posW n z l i = k := by
  refine lead_is (allTo_mk fun j hj => ?_) (by omega) fun _ => ?_
  · have h1 := H.rise j k hj hk
    have h2 := H.alone k hk
    have h3 := H.alone j (by omega)
    rw [h.1, h.2] at h2
    rw [ltW_key ⟨h3.1, h3.2.1⟩ h2.2.1, ← h.1, ← h.2]
    exact h1
  · cases e : ltW z l i k with
    | false => rfl
    | true => rw [ltW_iff] at e; omega
theorem Wr.has {n : Nat} {z : Nat → Int} (H : Wr n z) {l i : Int} (h : hasW n z l i = true) : posW n z l i < n ∧ z (posW n z l i * 3) = l ∧ z (posW n z l i * 3 + 1) = i := by
  obtain ⟨k, hk, e⟩ := hasW_iff.1 h
  rw [H.pos hk e]
  exact ⟨hk, e⟩
theorem toW_le {n : Nat} {z : Nat → Int} {l i : Int} (H : Wr n z) : toW n z l i ≤ n := by
  unfold toW
  cases e : hasW n z l i
  · exact posW_le _ _ _ _
  · have := (H.has e).1
    rw [cond_true]
    omega
/-- The writes with one more: p ahead of it, those from t on behind it. -/
def insW (p t : Nat) (z : Nat → Int) (l i v : Int) (j : Nat) : Int :=
  if j < p * 3 then z j else if j = p * 3 then l else if j = p * 3 + 1 then i else if j = p * 3 + 2 then v else z (t * 3 + (j - (p + 1) * 3))
theorem insW_ahead {p t : Nat} {z : Nat → Int} {l i v : Int} {j : Nat} (h : j < p * 3) : insW p t z l i v j = z j := by unfold insW; rw [if_pos h]
theorem insW_at (p t : Nat) (z : Nat → Int) (l i v : Int) : insW p t z l i v (p * 3) = l ∧ insW p t z l i v (p * 3 + 1) = i ∧ insW p t z l i v (p * 3 + 2) = v := by
  unfold insW
  refine ⟨?_, ?_, ?_⟩
  · rw [if_neg (by omega), if_pos rfl]
  · rw [if_neg (by omega), if_neg (by omega), if_pos rfl]
  · rw [if_neg (by omega), if_neg (by omega), if_neg (by omega), if_pos rfl]
theorem insW_behind {p t : Nat} {z : Nat → Int} {l i v : Int} (j : Nat) : insW p t z l i v ((p + 1) * 3 + j) = z (t * 3 + j) := by
  unfold insW
  rw [if_neg (by omega), if_neg (by omega), if_neg (by omega), if_neg (by omega), Nat.add_sub_cancel_left]
/-- One of them: one that was ahead, the new one, or one that was behind. -/
theorem insW_one {p t : Nat} {z : Nat → Int} {l i v : Int} (k : Nat) :
    (k < p → ∀ o, o < 3 → insW p t z l i v (k * 3 + o) = z (k * 3 + o)) ∧ (p < k → ∀ o, o < 3 → insW p t z l i v (k * 3 + o) = z ((t + (k - (p + 1))) * 3 + o)) := by
  constructor
  · intro h o ho
    exact insW_ahead (by omega)
  · intro h o ho
    have := insW_behind (p := p) (t := t) (z := z) (l := l) (i := i) (v := v) ((k - (p + 1)) * 3 + o)
    rw [show (p + 1) * 3 + ((k - (p + 1)) * 3 + o) = k * 3 + o by omega] at this
    rw [this]
    congr 1
    omega
def withWOk (n : Nat) (z : Nat → Int) (l i v : Int) : Bool := writesMay n z && writeMay l i v
def withWE (n : Nat) (z : Nat → Int) (l i v : Int) : Int := bif withWOk n z l i v then 0 else 1000
/-- How many they are then. -/
def withWN (n : Nat) (z : Nat → Int) (l i v : Int) : Nat := bif withWOk n z l i v then posW n z l i + 1 + (n - toW n z l i) else 0
def withWZ (n : Nat) (z : Nat → Int) (l i v : Int) : Nat → Int := insW (posW n z l i) (toW n z l i) z l i v
theorem withWOk_mk {n : Nat} {z : Nat → Int} {l i v : Int} (h : writesMay n z = true) (h' : writeMay l i v = true) : withWOk n z l i v = true := by rw [withWOk, h, h']; rfl
theorem withWOk_writes {n : Nat} {z : Nat → Int} {l i v : Int} (h : writesMay n z = false) : withWOk n z l i v = false := by rw [withWOk, h]; rfl
theorem withWOk_write {n : Nat} {z : Nat → Int} {l i v : Int} (h : writeMay l i v = false) : withWOk n z l i v = false := by rw [withWOk, h, Bool.and_false]
/-- Where a rising row's numbers stand. -/
theorem Wr.low {n : Nat} {z : Nat → Int} (H : Wr n z) : ∀ k, k < n → (k : Int) ≤ wkey z k
  | 0, hk => by have := H.alone 0 hk; unfold wkey; omega
  | k + 1, hk => by
    have h1 := H.low k (by omega)
    have h2 := H.rise k (k + 1) (by omega) hk
    omega
theorem Wr.high {n : Nat} {z : Nat → Int} (H : Wr n z) : ∀ d k, k < n → n - 1 - k = d → wkey z k + d ≤ 15
  | 0, k, hk, _ => by have := H.alone k hk; unfold wkey; omega
  | d + 1, k, hk, hd => by
    have h1 := H.high d (k + 1) (by omega) (by omega)
    have h2 := H.rise k (k + 1) (by omega) (by omega)
    omega
section
variable {n : Nat} {z : Nat → Int} {l i v : Int}
/-- Those ahead are ahead, those from t on are behind. -/
theorem Wr.parts (H : Wr n z) (hm : writeMay l i v = true) : (∀ k, k < posW n z l i → wkey z k < 4 * l + i) ∧ (∀ k, toW n z l i ≤ k → k < n → 4 * l + i < wkey z k) := by
  obtain ⟨hl, hi, _⟩ := writeMay_yes hm
  have hle := posW_le n z l i
  constructor
  · intro k hk
    have h3 := H.alone k (by omega)
    exact (ltW_key ⟨h3.1, h3.2.1⟩ hi).1 (allTo_get (lead_all (ltW z l i) n) k hk)
  · intro k hk hkn
    cases e : hasW n z l i
    · unfold toW at hk
      rw [e, cond_false] at hk
      have hp : posW n z l i < n := by omega
      have h0 : ¬ wkey z (posW n z l i) < 4 * l + i := by
        have h3 := H.alone _ hp
        rw [← ltW_key ⟨h3.1, h3.2.1⟩ hi]
        rw [show ltW z l i (posW n z l i) = false from lead_no hp]
        simp
      have h1 := hasW_no e k hkn
      have h3 := H.alone k hkn
      have h2 : wkey z (posW n z l i) ≤ wkey z k := by
        by_cases ek : posW n z l i = k
        · rw [ek]; omega
        · have := H.rise (posW n z l i) k (by omega) hkn
          omega
      have h4 : ¬ wkey z k = 4 * l + i := by unfold wkey; omega
      omega
    · obtain ⟨h1, h2, h3⟩ := H.has e
      unfold toW at hk
      rw [e, cond_true] at hk
      have := H.rise _ k (show posW n z l i < k by omega) hkn
      unfold wkey at this ⊢
      rw [h2, h3] at this
      omega
theorem insW_keys (p t : Nat) (z : Nat → Int) (l i v : Int) (k : Nat) :
    (k < p → wkey (insW p t z l i v) k = wkey z k) ∧ (k = p → wkey (insW p t z l i v) k = 4 * l + i) ∧ (p < k → wkey (insW p t z l i v) k = wkey z (t + (k - (p + 1)))) := by
  unfold wkey
  refine ⟨fun h => ?_, fun h => ?_, fun h => ?_⟩
  · rw [show k * 3 = k * 3 + 0 from rfl, (insW_one k).1 h 0 (by omega), (insW_one k).1 h 1 (by omega)]
  · subst h
    rw [(insW_at _ _ _ _ _ _).1, (insW_at _ _ _ _ _ _).2.1]
  · have h0 := (insW_one (t := t) (z := z) (l := l) (i := i) (v := v) k).2 h 0 (by omega)
    simp only [Nat.add_zero] at h0
    rw [h0, (insW_one k).2 h 1 (by omega)]
/-- With one more they may be. -/
theorem Wr.ins (H : Wr n z) (hm : writeMay l i v = true) : Wr (posW n z l i + 1 + (n - toW n z l i)) (withWZ n z l i v) := by
  obtain ⟨ha, hb⟩ := H.parts hm
  obtain ⟨hl, hi, hv⟩ := writeMay_yes hm
  have hp := posW_le n z l i
  have ht := toW_le (l := l) (i := i) H
  have hpt : posW n z l i ≤ toW n z l i := by unfold toW; cases hasW n z l i <;> simp only [cond_true, cond_false] <;> omega
  have hlow : (posW n z l i : Int) ≤ 4 * l + i := by
    by_cases h0 : posW n z l i = 0
    · omega
    · have h1 := ha (posW n z l i - 1) (by omega)
      have h2 := H.low (posW n z l i - 1) (by omega)
      omega
  have hhigh : 4 * l + i + (n - toW n z l i : Nat) ≤ 15 := by
    by_cases h0 : toW n z l i = n
    · omega
    · have h1 := hb (toW n z l i) (by omega) (by omega)
      have h2 := H.high _ (toW n z l i) (by omega) rfl
      omega
  unfold withWZ
  generalize posW n z l i = p, toW n z l i = t at *
  refine ⟨fun k hk => ?_, fun j k hjk hk => ?_, by omega⟩
  · obtain ⟨e1, e2⟩ := insW_one (p := p) (t := t) (z := z) (l := l) (i := i) (v := v) k
    by_cases h1 : k < p
    · rw [show k * 3 = k * 3 + 0 from rfl, e1 h1 0 (by omega), e1 h1 1 (by omega), e1 h1 2 (by omega)]
      exact H.alone k (by omega)
    · by_cases h2 : p < k
      · rw [show k * 3 = k * 3 + 0 from rfl, e2 h2 0 (by omega), e2 h2 1 (by omega), e2 h2 2 (by omega)]
        exact H.alone (t + (k - (p + 1))) (by omega)
      · obtain rfl : k = p := by omega
        rw [(insW_at _ _ _ _ _ _).1, (insW_at _ _ _ _ _ _).2.1, (insW_at _ _ _ _ _ _).2.2]
        exact ⟨hl, hi, hv⟩
  · obtain ⟨j1, j2, j3⟩ := insW_keys p t z l i v j
    obtain ⟨k1, k2, k3⟩ := insW_keys p t z l i v k
    by_cases h1 : k < p
    · rw [k1 h1, j1 (by omega)]
      exact H.rise j k hjk (by omega)
    · by_cases h2 : p < k
      · rw [k3 h2]
        have hk' : t + (k - (p + 1)) < n := by omega
        by_cases h3 : j < p
        · rw [j1 h3]
          exact H.rise _ _ (by omega) hk'
        · by_cases h4 : p < j
          · rw [j3 h4]
            exact H.rise _ _ (by omega) hk'
          · rw [j2 (by omega)]
            exact hb _ (by omega) hk'
      · rw [k2 (by omega), j1 (by omega)]
        exact ha j (by omega)
end
/-- Is there a write of that word, with that value? -/
def InW (n : Nat) (z : Nat → Int) (l i v : Int) : Prop := ∃ k, k < n ∧ z (k * 3) = l ∧ z (k * 3 + 1) = i ∧ z (k * 3 + 2) = v
theorem InW.has {n : Nat} {z : Nat → Int} {l i v : Int} (h : InW n z l i v) : hasW n z l i = true := by
  obtain ⟨k, hk, h0, h1, _⟩ := h
  exact hasW_iff.2 ⟨k, hk, h0, h1⟩
theorem Wr.val {n : Nat} {z : Nat → Int} (H : Wr n z) {l i v : Int} (h : InW n z l i v) : z (posW n z l i * 3 + 2) = v := by
  obtain ⟨k, hk, h0, h1, h2⟩ := h
  rw [H.pos hk ⟨h0, h1⟩, h2]
/-- Find's answers. -/
def findIs (n : Nat) (z : Nat → Int) (l i : Int) : Bool := writesMay n z && hasW n z l i
def findVal (n : Nat) (z : Nat → Int) (l i : Int) : Int := bif findIs n z l i then z (posW n z l i * 3 + 2) else 0
theorem find_no {n : Nat} {z : Nat → Int} {l i : Int} (h : findIs n z l i = false) : findVal n z l i = 0 := by unfold findVal; rw [h]; rfl
theorem find_in {n : Nat} {z : Nat → Int} {l i v : Int} (H : Wr n z) (h : InW n z l i v) : findIs n z l i = true ∧ findVal n z l i = v := by
  have e : findIs n z l i = true := by rw [findIs, H.may, h.has]; rfl
  exact ⟨e, by unfold findVal; rw [e, cond_true, H.val h]⟩
/-- At's answer. -/
def atLv (z : Nat → Int) (l : Int) (k : Nat) : Bool := z (k * 3) == l
def atW (n : Nat) (z : Nat → Int) (l : Int) : Bool := writesMay n z && allTo (atLv z l) n
section
variable {z x : Nat → Int} {n : Nat}
end
end Go.Proofs.YtaaenolbfhhnfaaGreat
namespace Go.Proofs.YtaaenolbfhhnfaaGreat
open Go.RowKit
/-- One of a row of threes, in every world that has it. -/
theorem Row.kin3 {W : World} {a : Option Addr} {n : Nat} {f : Nat → Value} (h : Row W a (n * 3) f) (k : Nat) (hk : k < n) :
    ∃ b off, a = some ⟨b, off, none⟩ ∧ b < W.heap.size ∧ (∀ u : Kin W, u.at_.cell? ⟨b, off + k * 3, none⟩ = some (f (k * 3))) ∧ (∀ u : Kin W, u.at_.cell? ⟨b, off + k * 3 + 1, none⟩ = some (f (k * 3 + 1))) ∧ (∀ u : Kin W, u.at_.cell? ⟨b, off + k * 3 + 2, none⟩ = some (f (k * 3 + 2))) := by
  obtain ⟨b, off, e, hb, c0, c1, c2⟩ := h.at3 k hk
  exact ⟨b, off, e, hb, fun u => (u.cell b _ hb).trans c0, fun u => (u.cell b _ hb).trans c1, fun u => (u.cell b _ hb).trans c2⟩
end Go.Proofs.YtaaenolbfhhnfaaGreat
