/-
  Several small texts in one: HalfOwn, Sel, ClockPure, OpenMach, AppList.
-/
import Derived.Test.YtaaenolbfhhnfaaGreatZlad
import Derived.Test.YtaaenolbfhhnfaaGreatZlab
import Derived.SizedLaws
import Derived.WalkKit
import Derived.ProofKit
import Derived.OpenShut
import Derived.ChangeArms
namespace Go.Proofs.YtaaenolbfhhnfaaGreat
open Go.RowKit
set_option linter.unusedSimpArgs false
set_option linter.unusedVariables false
def PSess.li (x : PSess) (j : Nat) : List Int := match j with | 0 => x.prog | 1 => x.reads | _ => x.writes
/-- The lists that are its own: those whose number is below N, but for the trace (5). -/
structure HalfOwn (D : Nat → Prop) (W : World) (A : MacM) (M : PMach) (N : Nat) : Prop where
  words : ∀ g, g < 4 → SlIs W 3 (A.w g) (M.lv g)
  len : M.sess.length = A.s.n
  fit : A.s.n * 184 ≤ 140737488351232 ∧ A.s.n ≤ A.s.c ∧ (A.s.a = none → A.s.n = 0 ∧ A.s.c = 0)
  row : Row W A.s.a (A.s.n * 17) (sessCell A.q M.sess)
  is : ∀ i j, j < 3 → 6 + 3 * i + j < N → SlIs W (szL j) ((A.q i).sl j) ((M.at i).li j)
  own : ∀ m, m < N → m ≠ 5 → SlOwn D W (A.sl m)
  apart : ∀ m m', m < m' → m' < N → m ≠ 5 → m' ≠ 5 → 0 < (A.sl m).n → 0 < (A.sl m').n → (A.sl m).a ≠ (A.sl m').a
def halfI (D : Nat → Prop) (A : MacM) (M : PMach) (N : Nat) : Itm := ⟨D, fun W => 6 ≤ N ∧ HalfOwn D W A M N⟩
theorem HalfOwn.keep {D : Nat → Prop} {W W' : World} {A : MacM} {M : PMach} {N : Nat} (h : HalfOwn D W A M N) (hN : 6 ≤ N) (hs : W.heap.size ≤ W'.heap.size) (hk : ∀ b, D b → W'.heap[b]? = W.heap[b]?) : HalfOwn D W' A M N := by
  have kp : ∀ m, m < N → m ≠ 5 → 0 < (A.sl m).n → ∀ b o, (A.sl m).a = some ⟨b, o, none⟩ → W'.heap[b]? = W.heap[b]? := fun m hm h5 h0 b o e => by
    obtain ⟨b2, e2, hD, _⟩ := h.own m hm h5 h0
    rw [e2] at e; cases e
    exact hk _ hD
  refine ⟨fun g hg => ?_, h.len, h.fit, ?_, fun i j hj hm => ?_, fun m hm h5 => (h.own m hm h5).keep hk, h.apart⟩
  · exact (h.words g hg).keep hs fun h0 b o e => kp g (by omega) (by omega) (by rw [A.sl_w hg]; exact h0) b o (by rw [A.sl_w hg]; exact e)
  · exact h.row.keep hs fun h0 b o e => kp 4 (by omega) (by omega) (by rw [A.sl_s]; exact Nat.pos_of_mul_pos_right h0) b o (by rw [A.sl_s]; exact e)
  · exact (h.is i j hj hm).keep hs fun h0 b o e => kp _ hm (by omega) (by rw [A.sl_q i hj]; exact h0) b o (by rw [A.sl_q i hj]; exact e)
theorem halfI_loc (D : Nat → Prop) (A : MacM) (M : PMach) (N : Nat) : (halfI D A M N).Loc := fun W W' h hs hk => ⟨h.1, HalfOwn.keep h.2 h.1 hs hk⟩
section
variable {D D2 : Nat → Prop} {W : World} {A : MacM} {M : PMach}
theorem sl_turn {i j : Nat} (hj : j < 3) (s : Sl) (m : Nat) : (A.setQ i ((A.q i).setL j s)).sl m = if m = 6 + 3 * i + j then s else A.sl m := by
  rw [MacM.sl_setQ]
  by_cases c : 6 ≤ m ∧ (m - 6) / 3 = i
  · rw [if_pos c, SesM.sl_setL _ hj (Nat.mod_lt _ (by decide))]
    by_cases e : (m - 6) % 3 = j
    · rw [if_pos e, if_pos (by omega)]
    · rw [if_neg e, if_neg (by omega)]
      have := A.sl_q i (j := (m - 6) % 3) (Nat.mod_lt _ (by decide))
      rw [show 6 + 3 * i + (m - 6) % 3 = m by omega] at this
      exact this.symm
  · rw [if_neg c, if_neg (by omega)]
theorem sessOf_turn (q : SesM) (x : PSess) {j : Nat} (hj : j < 3) (s : Sl) : sessOf (q.setL j s) x = (sessOf q x).set (posL j) (.slice s.a s.n s.c) := by
  have : j = 0 ∨ j = 1 ∨ j = 2 := by omega
  rcases this with rfl | rfl | rfl <;> rfl
theorem HalfOwn.turn {i j b : Nat} (h : HalfOwn D W A M (6 + 3 * i + j)) (hi : i < A.s.n) (hj : j < 3) (hb : A.s.a = some ⟨b, 0, none⟩) {s : Sl} (hs : SlIs W (szL j) s ((M.at i).li j)) (ho : SlOwn D2 W s) (hD : ∀ k, D k → D2 k → False) :
    HalfOwn (fun k => D k ∨ D2 k) (W.setCell ⟨b, i * 17 + posL j, none⟩ (.slice s.a s.n s.c)) (A.setQ i ((A.q i).setL j s)) M (6 + 3 * i + j + 1) := by
  have hp : posL j < 17 := by unfold posL; split <;> omega
  have h4 : 0 < (A.sl 4).n := by rw [A.sl_s]; omega
  obtain ⟨b', e', hDb, l, hl⟩ := h.own 4 (by omega) (by omega) h4
  rw [A.sl_s, hb] at e'
  cases e'
  have T : Touch b (b + 1) W (W.setCell ⟨b, i * 17 + posL j, none⟩ (.slice s.a s.n s.c)) := (Touch.refl b (b + 1) W).setCell (a := ⟨b, i * 17 + posL j, none⟩) (Nat.le_refl b) (Nat.lt_succ_self b) _
  have blk : ∀ m, m < 6 + 3 * i + j → m ≠ 5 → m ≠ 4 → 0 < (A.sl m).n → ∀ b2 o, (A.sl m).a = some ⟨b2, o, none⟩ → (W.setCell ⟨b, i * 17 + posL j, none⟩ (.slice s.a s.n s.c)).heap[b2]? = W.heap[b2]? := fun m hm h5 hm4 h0 b2 o e => by
    obtain ⟨b3, e3, hD3, l3, hl3⟩ := h.own m hm h5 h0
    rw [e3] at e; cases e
    have hne : b2 ≠ b := fun hh => by
      subst hh
      rcases Nat.lt_or_gt_of_ne hm4 with h' | h'
      · exact h.apart m 4 h' (by omega) h5 (by omega) h0 h4 (by rw [e3, A.sl_s, hb])
      · exact h.apart 4 m h' hm (by omega) h5 h4 h0 (by rw [e3, A.sl_s, hb])
    exact T.block _ (by omega) hl3.lt
  have new : ∀ b2 o, 0 < s.n → s.a = some ⟨b2, o, none⟩ → D2 b2 ∧ (W.setCell ⟨b, i * 17 + posL j, none⟩ (.slice s.a s.n s.c)).heap[b2]? = W.heap[b2]? := fun b2 o h0 e => by
    obtain ⟨b3, e3, hD3, l3, hl3⟩ := ho h0
    rw [e3] at e; cases e
    have hne : b2 ≠ b := fun hh => hD b hDb (hh ▸ hD3)
    exact ⟨hD3, T.block _ (by omega) hl3.lt⟩
  refine ⟨fun g hg => ?_, h.len, h.fit, fun c hc => ?_, fun i' j' hj' hm => ?_, fun m hm h5 => ?_, fun m m' hmm hm' h5 h5' h0 h0' => ?_⟩
  · exact (h.words g hg).keep T.size fun h0 b2 o e => blk g (by omega) (by omega) (by omega) (by rw [A.sl_w hg]; exact h0) b2 o (by rw [A.sl_w hg]; exact e)
  · have hc : c < A.s.n * 17 := hc
    obtain ⟨b2, off, e2, hlt, hcc⟩ := h.row c hc
    rw [hb] at e2; cases e2
    rw [Nat.zero_add] at hcc
    refine ⟨b, 0, hb, Nat.lt_of_lt_of_le hlt T.size, ?_⟩
    rw [Nat.zero_add]
    by_cases e : c = i * 17 + posL j
    · subst e
      rw [World.cell?_setCell_same _ _ _ hcc]
      unfold sessCell
      rw [show (i * 17 + posL j) / 17 = i by omega, show (i * 17 + posL j) % 17 = posL j by omega]
      show some _ = some ((sessOf ((A.setQ i ((A.q i).setL j s)).q i) (M.at i)).getD (posL j) undef)
      rw [show (A.setQ i ((A.q i).setL j s)).q i = (A.q i).setL j s by unfold MacM.setQ updM; simp, sessOf_turn _ _ hj]
      have : posL j < (sessOf (A.q i) (M.at i)).length := by rw [sessOf_len]; exact hp
      simp [List.getD, this]
    · rw [World.cell?_setCell_other _ _ _ _ (fun he => by simp only [Addr.mk.injEq] at he; omega), hcc]
      unfold sessCell
      by_cases e2 : c / 17 = i
      · rw [e2]
        show some ((sessOf (A.q i) (M.at i)).getD (c % 17) undef) = some ((sessOf ((A.setQ i ((A.q i).setL j s)).q i) (M.at i)).getD (c % 17) undef)
        rw [show (A.setQ i ((A.q i).setL j s)).q i = (A.q i).setL j s by unfold MacM.setQ updM; simp, sessOf_turn _ _ hj]
        have : ¬ posL j = c % 17 := by omega
        simp [List.getD, List.getElem?_set, this]
      · rw [show (A.setQ i ((A.q i).setL j s)).q (c / 17) = A.q (c / 17) by unfold MacM.setQ updM; simp [e2]]
  · have hq : ((A.setQ i ((A.q i).setL j s)).q i').sl j' = if 6 + 3 * i' + j' = 6 + 3 * i + j then s else (A.q i').sl j' := by
      rw [← MacM.sl_q _ i' hj', sl_turn hj, A.sl_q i' hj']
    rw [hq]
    by_cases e : 6 + 3 * i' + j' = 6 + 3 * i + j
    · rw [if_pos e]
      obtain rfl : i' = i := by omega
      obtain rfl : j' = j := by omega
      exact hs.keep T.size fun h0 b2 o e => (new b2 o h0 e).2
    · rw [if_neg e]
      exact (h.is i' j' hj' (by omega)).keep T.size fun h0 b2 o e2 => blk (6 + 3 * i' + j') (by omega) (by omega) (by omega) (by rw [A.sl_q i' hj']; exact h0) b2 o (by rw [A.sl_q i' hj']; exact e2)
  · rw [sl_turn hj]
    by_cases e : m = 6 + 3 * i + j
    · rw [if_pos e]
      intro h0
      obtain ⟨b3, e3, hD3, l3, hl3⟩ := ho h0
      exact ⟨b3, e3, .inr hD3, l3, hl3.touch T (by
        have : b3 ≠ b := fun x => hD b hDb (x ▸ hD3)
        omega)⟩
    · rw [if_neg e]
      intro h0
      obtain ⟨b3, e3, hD3, l3, hl3⟩ := h.own m (by omega) h5 h0
      by_cases hbb : b3 = b
      · subst hbb
        exact ⟨b3, e3, .inl hD3, _, hl3.set (i * 17 + posL j) _⟩
      · exact ⟨b3, e3, .inl hD3, l3, hl3.touch T (by omega)⟩
  · rw [sl_turn hj] at h0 h0' ⊢
    rw [sl_turn hj]
    rw [if_neg (by omega)] at h0 ⊢
    by_cases e : m' = 6 + 3 * i + j
    · rw [if_pos e] at h0' ⊢
      intro hh
      obtain ⟨b3, e3, hD3, _⟩ := h.own m (by omega) h5 h0
      obtain ⟨b4, e4, hD4, _⟩ := ho h0'
      rw [e3, e4] at hh
      cases hh
      exact hD _ hD3 hD4
    · rw [if_neg e] at h0' ⊢
      exact h.apart m m' hmm (by omega) h5 h5' h0 h0'
/-- All its sessions' lists, and a trace of its own: a machine. -/
theorem HalfOwn.whole (h : HalfOwn D W A M (6 + 3 * A.s.n)) (h4 : M.words.length = 4) (hc : M.clocks.length = 4) (hn : ∀ i, i < A.s.n → (M.at i).num.length = 14) {s : Sl} (ht : ListOwn D2 70 4 W s M.trace) (hD : ∀ k, D k → D2 k → False) :
    MachOwn (fun k => D k ∨ D2 k) W { A with e := s } M := by
  have sl5 : ({ A with e := s } : MacM).sl 5 = s := rfl
  have slo : ∀ m, m ≠ 5 → ({ A with e := s } : MacM).sl m = A.sl m := fun m hm => by
    unfold MacM.sl
    simp only
    by_cases c : m < 4
    · rw [if_pos c, if_pos c]
    · rw [if_neg c, if_neg c]
      by_cases c4 : m = 4
      · rw [if_pos c4, if_pos c4]
      · rw [if_neg c4, if_neg c4, if_neg hm, if_neg hm]
  obtain ⟨v, hv, hrow, hg⟩ := ht.row
  refine ⟨⟨h4, hc, h.words, ⟨h.len, h.fit, h.row, fun i hi => ⟨hn i hi, ?_, ?_, ?_⟩⟩, ht.is⟩, fun m hm => ?_, fun m m' hmm hm' h0 h0' => ?_, v, hv, hrow, fun g hgg => ⟨.inr (hg g hgg), fun m hm h5 h0 => ?_⟩⟩
  · have hi : i < A.s.n := hi
    exact h.is i 0 (by decide) (by omega)
  · have hi : i < A.s.n := hi
    exact h.is i 1 (by decide) (by omega)
  · have hi : i < A.s.n := hi
    exact h.is i 2 (by decide) (by omega)
  · have hm : m < 6 + 3 * A.s.n := hm
    by_cases e : m = 5
    · subst e
      rw [sl5]
      exact ht.own.mono fun k hk => .inr hk
    · rw [slo m e]
      exact (h.own m hm e).mono fun k hk => .inl hk
  · have hm' : m' < 6 + 3 * A.s.n := hm'
    by_cases e : m = 5
    · subst e
      rw [sl5] at h0 ⊢
      rw [slo m' (by omega)] at h0' ⊢
      intro hh
      obtain ⟨b3, e3, hD3, _⟩ := ht.own h0
      obtain ⟨b4, e4, hD4, _⟩ := h.own m' hm' (by omega) h0'
      rw [e3, e4] at hh; cases hh
      exact hD _ hD4 hD3
    · rw [slo m e] at h0 ⊢
      by_cases e' : m' = 5
      · subst e'
        rw [sl5] at h0' ⊢
        intro hh
        obtain ⟨b3, e3, hD3, _⟩ := ht.own h0'
        obtain ⟨b4, e4, hD4, _⟩ := h.own m (by omega) e h0
        rw [e3, e4] at hh; cases hh
        exact hD _ hD4 hD3
      · rw [slo m' e'] at h0' ⊢
        exact h.apart m m' hmm hm' e e' h0 h0'
  · have hm : m < 6 + 3 * A.s.n := hm
    rw [slo m h5] at h0 ⊢
    intro hh
    obtain ⟨b4, e4, hD4, _⟩ := h.own m hm h5 h0
    rw [e4] at hh; cases hh
    exact hD _ hD4 (hg g hgg)
end
end Go.Proofs.YtaaenolbfhhnfaaGreat
namespace Go.Proofs.YtaaenolbfhhnfaaGreat
open Go.RowKit
set_option linter.unusedSimpArgs false
set_option linter.unusedVariables false
/-- Those that a list of places names. -/
def selI (L : List Itm) (ix : List Nat) : List Itm := ix.map fun i => L.getD i empI
theorem St.sel {w0 W : World} {L : List Itm} (h : St w0 W L) (ix : List Nat) (hn : ix.Nodup) (hlt : ix.all (fun i => decide (i < L.length)) = true) : St w0 W (selI L ix) := by
  have get : ∀ i x, (selI L ix)[i]? = some x → ∃ j, ix[i]? = some j ∧ L[j]? = some x := fun i x e => by
    unfold selI at e
    rw [List.getElem?_map] at e
    match hj : ix[i]?, e with
    | some j, e =>
      have hm : j < L.length := by simpa using List.all_eq_true.1 hlt j (List.mem_of_getElem? hj)
      refine ⟨j, hj, ?_⟩
      simp only [Option.map_some, Option.some.injEq] at e
      rw [List.getElem?_eq_getElem hm, ← e]
      simp [List.getD, hm]
  refine ⟨h.below, fun i x e => ?_, fun i j x y ex ey hij => ?_⟩
  · obtain ⟨j, _, ej⟩ := get i x e
    exact h.here j x ej
  · obtain ⟨i', e1, h1⟩ := get i x ex
    obtain ⟨j', e2, h2⟩ := get j y ey
    refine h.apart i' j' x y h1 h2 fun e => hij ?_
    subst e
    exact (List.getElem?_inj (List.getElem?_eq_some_iff.1 e1).1 hn).1 (e1.trans e2.symm)
end Go.Proofs.YtaaenolbfhhnfaaGreat
namespace Go.Proofs.YtaaenolbfhhnfaaGreat
open Go.RowKit
/-- May the clocks, the level, the ceiling be? -/
def nextOk (c : Nat → Int) (l m : Int) : Bool := upToV l 3 && upToV m 65535 && allUp c 65535 4
/-- The number of Next's error. -/
def nextE (c : Nat → Int) (l m : Int) : Int := bif nextOk c l m then (if m ≤ c l.toNat then 501 else 0) else 500
/-- Next's clocks. -/
def nextC (c : Nat → Int) (l m : Int) : Nat → Int := bif nextOk c l m then (if m ≤ c l.toNat then fun _ => 0 else updQ c l.toNat (c l.toNat + 1)) else fun _ => 0
/-- Next's number. -/
def nextK (c : Nat → Int) (l m : Int) : Int := bif nextOk c l m then (if m ≤ c l.toNat then 0 else c l.toNat + 1) else 0
theorem next_form {c : Nat → Int} {l m : Int} (h : nextOk c l m = false) : nextE c l m = 500 ∧ nextC c l m = (fun _ => 0) ∧ nextK c l m = 0 := by
  unfold nextE nextC nextK; rw [h]; exact ⟨rfl, rfl, rfl⟩
theorem next_full {c : Nat → Int} {l m : Int} (h : nextOk c l m = true) (h' : m ≤ c l.toNat) : nextE c l m = 501 ∧ nextC c l m = (fun _ => 0) ∧ nextK c l m = 0 := by
  unfold nextE nextC nextK; rw [h]
  simp only [cond_true, if_pos h', and_self]
theorem next_on {c : Nat → Int} {l m : Int} (h : nextOk c l m = true) (h' : ¬ m ≤ c l.toNat) : nextE c l m = 0 ∧ nextC c l m = updQ c l.toNat (c l.toNat + 1) ∧ nextK c l m = c l.toNat + 1 := by
  unfold nextE nextC nextK; rw [h]
  simp only [cond_true, if_neg h', and_self]
theorem nextOk_get {c : Nat → Int} {l m : Int} (h : nextOk c l m = true) : upToV l 3 = true ∧ upToV m 65535 = true ∧ allUp c 65535 4 = true := by
  unfold nextOk at h
  simp only [Bool.and_eq_true] at h
  exact ⟨h.1.1, h.1.2, h.2⟩
end Go.Proofs.YtaaenolbfhhnfaaGreat
namespace Go.Proofs.YtaaenolbfhhnfaaGreat
open Go.ChangeShapes Go.WideShapes
section
variable {H : Type} {enc : TypeId × Value → H} {w : World} {base : Nat} {spare : Nat → Bool} {held : Bool}
def fourSl (a b c d : Sl) (g : Nat) : Sl := match g with | 0 => a | 1 => b | 2 => c | _ => d
end
end Go.Proofs.YtaaenolbfhhnfaaGreat
namespace Go.Proofs.YtaaenolbfhhnfaaGreat
open Go.RowKit
set_option linter.unusedSimpArgs false
set_option linter.unusedVariables false
theorem rowL_more {l x : List Int} {n k : Nat} (hl : l.length = n * k) (hx : x.length = k) : rowL (intF (lz l)) (n * k) ++ x.map (Value.int .i64) = rowL (intF (lz (l ++ x))) ((n + 1) * k) := by
  have hm : (n + 1) * k = n * k + k := by rw [Nat.add_mul, Nat.one_mul]
  apply List.ext_getElem?
  intro i
  by_cases h1 : i < n * k
  · rw [List.getElem?_append_left (by rw [rowL_len]; exact h1), rowL_get h1, rowL_get (by omega)]
    unfold intF
    rw [lz_left (by rw [hl]; exact h1)]
  · rw [List.getElem?_append_right (by rw [rowL_len]; omega), rowL_len]
    by_cases h2 : i < (n + 1) * k
    · rw [rowL_get h2]
      unfold intF
      rw [lz_right (by rw [hl]; omega), hl]
      have : i - n * k < x.length := by omega
      simp [lz, List.getD, this]
    · rw [rowL_none (by omega)]
      simp; omega
theorem stw_app1 {w0 w : World} {L : List Itm} {P : Program} {op : Oper} {a : Act} {K : Act → World → Prop} {Q : Exit → Act → World → Prop} (HS : Hid (St w0 w L)) (i : Nat) {D : Nat → Prop} {e : TypeId} {k : Nat} {sl : Sl} {l : List Int} {be : Nat} {x : List Int} (B : ∀ q u, (x.map (Value.int .i64))[q]? = some u → w.cell? ⟨be, q, none⟩ = some u) (hxk : x.length = k) (ei : L[i]? = some (slI D e k sl l)) (hn : sl.n < 512)
    (s y : Operand) (t : TypeId) (ho : op.op = .call { callee := .builtin .append, args := #[s, y], argTypes := #[t, t] }) (z : Value) (bytes : Nat) (ht : P.underlying t = some (.slice e)) (hi : (P.info? e).map (fun i => (i.zero, i.size, i.bytes)) = some (some z, k, bytes)) (hzs : z.cells.size = k) (hk : 0 < k) (hk9 : k ≤ 100) (hb8 : bytes = 8 * k)
    (hs : a.eval s = .slice sl.a sl.n sl.c) (hy : a.eval y = .slice (some ⟨be, 0, none⟩) 1 1)
    (h : ∀ W D' g cap, Hid (St w0 W (L.set i (slI D' e k ⟨some ⟨g, 0, none⟩, sl.n + 1, cap⟩ (l ++ x)))) → K (a.put op.dst (.slice (some ⟨g, 0, none⟩) (sl.n + 1) cap)) W) : op.wp P a w K Q := by
  obtain ⟨ie, hie, hz, hsize, hby⟩ := info_parts hi
  have hM : ListOwn D e k w sl l := HS.out.get i ei
  obtain ⟨v0, rfl, ho5, hb5⟩ := hM.row
  have hlen := hM.is.1
  refine wp_append_lies w s y t ho 0 e ie z k bytes ht hie hz hsize hby hzs hk (.slice sl.a sl.n sl.c) sl.n _ hs ho5 ⟨be, 0, none⟩ 1 1 (x.map (Value.int .i64)) hy (by simp [hxk]) (fun q u hq => ?_) (fun u hu => ?_) (by decide) (by unfold maxLen; omega) (by rw [hb8]; have : (sl.n + 1) * (8 * k) ≤ 512 * 800 := Nat.mul_le_mul (by omega) (by omega); omega) (Nat.zero_le _) w.heap.size rfl fun g cap W' hown hgrow hat hlt => ?_
  · have hadd : (⟨be, 0, none⟩ : Addr).add q = ⟨be, q, none⟩ := by unfold Addr.add; split <;> simp_all
    rw [hadd]
    exact B q u hq
  · obtain ⟨q, _, rfl⟩ := List.mem_map.1 hu
    rfl
  · rw [rowL_more hlen hxk] at hown
    have hown2 := hown
    obtain ⟨a', c', e2, hc, ha', hr, ho'⟩ := slice_of_owns hown
    simp only [Value.slice.injEq] at e2
    obtain ⟨e3, _, e4⟩ := e2
    subst e3; subst e4
    refine h W' (fun q => D q ∨ q = g) g cap (HS.out.set i ei (slI (fun q => D q ∨ q = g) e k ⟨some ⟨g, 0, none⟩, sl.n + 1, cap⟩ (l ++ x)) (chg_grown hgrow fun g' hg' => hb5 g' hg') (slI_loc _ _ _ _ _) ⟨⟨?_, ⟨?_, hc, ha'⟩, hr⟩, fun h0 => ?_, _, rfl, hown2, fun q hq => ?_⟩ fun q hq => ?_)
    · show (l ++ x).length = (sl.n + 1) * k
      rw [List.length_append, hlen, hxk, Nat.add_mul, Nat.one_mul]
    · show (sl.n + 1) * (8 * k) ≤ _
      have : (sl.n + 1) * (8 * k) ≤ 512 * 800 := Nat.mul_le_mul (by omega) (by omega)
      omega
    · obtain ⟨b, e1, _, _, q, hq, _⟩ := ho' h0
      cases e1
      exact ⟨g, rfl, .inr rfl, q, hq⟩
    · right
      simpa [Value.ownBlock, eq_comm] using hq
    · rcases hq with hq | rfl
      · exact .inl hq
      · rcases hat with hat | hat
        · exact .inl (hb5 q hat)
        · exact .inr ⟨by omega, hlt⟩
theorem st_app1 {w0 w : World} {L : List Itm} {P : Program} {ops : Array Oper} {rest : List Oper} {op : Oper} {a : Act} {Q : Exit → Act → World → Prop} (HS : Hid (St w0 w L)) (i : Nat) {D : Nat → Prop} {e : TypeId} {k : Nat} {sl : Sl} {l : List Int} {be : Nat} {x : List Int} (B : ∀ q u, (x.map (Value.int .i64))[q]? = some u → w.cell? ⟨be, q, none⟩ = some u) (hxk : x.length = k) (ei : L[i]? = some (slI D e k sl l)) (hn : sl.n < 512) (hgd : Region.wanted op (yielded ops a.tmps) = true)
    (s y : Operand) (t : TypeId) (ho : op.op = .call { callee := .builtin .append, args := #[s, y], argTypes := #[t, t] }) (z : Value) (bytes : Nat) (ht : P.underlying t = some (.slice e)) (hi : (P.info? e).map (fun i => (i.zero, i.size, i.bytes)) = some (some z, k, bytes)) (hzs : z.cells.size = k) (hk : 0 < k) (hk9 : k ≤ 100) (hb8 : bytes = 8 * k)
    (hs : a.eval s = .slice sl.a sl.n sl.c) (hy : a.eval y = .slice (some ⟨be, 0, none⟩) 1 1)
    (h : ∀ W D' g cap, Hid (St w0 W (L.set i (slI D' e k ⟨some ⟨g, 0, none⟩, sl.n + 1, cap⟩ (l ++ x)))) → wpList P ops Q rest (a.put op.dst (.slice (some ⟨g, 0, none⟩) (sl.n + 1) cap)) W) : wpList P ops Q (op :: rest) a w :=
  BigFrame.wpList_want hgd fun _ hK => stw_app1 HS i B hxk ei hn s y t ho z bytes ht hi hzs hk hk9 hb8 hs hy fun W D' g cap h2 => hK _ _ (h W D' g cap h2)
end Go.Proofs.YtaaenolbfhhnfaaGreat
