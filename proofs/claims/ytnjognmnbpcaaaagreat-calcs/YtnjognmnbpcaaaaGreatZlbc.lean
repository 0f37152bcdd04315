/-
  A machine of one's own is written over: nothing else turns. (veil/veillaw0.SpoilMachine and below; written by wip/tools/gen_spoil.py)
-/
import Derived.Test.YtnjognmnbpcaaaaGreatZlad
import Derived.Test.YtnjognmnbpcaaaaGreatZhSessMem
import Derived.Test.YtnjognmnbpcaaaaGreatZlag
import Derived.Test.YtnjognmnbpcaaaaGreatZlac
namespace Go.Proofs.YtnjognmnbpcaaaaGreat
open Go.RowKit
set_option linter.unusedSimpArgs false
set_option linter.unusedVariables false
/-- How many numbers an element of a machine's list has. -/
def eltK (j : Nat) : Nat := if j < 4 then 3 else if j = 5 then 4 else if (j - 6) % 3 = 0 then 4 else 3
/-- The cells of a session, of whatever numbers. -/
def sessF (q : SesM) (f : Nat → Int) : List Value := sessL f (.slice q.p.a q.p.n q.p.c) (.slice q.r.a q.r.n q.r.c) (.slice q.t.a q.t.n q.t.c)
/-- A machine of one's own, whatever its numbers. -/
structure Spl (D : Nat → Prop) (W : World) (A : MacM) : Prop where
  small : ∀ j, j < A.num → (A.sl j).n ≤ 1152921504606846976
  ints : ∀ j, j < A.num → j ≠ 4 → 0 < (A.sl j).n → ∃ b, (A.sl j).a = some ⟨b, 0, none⟩ ∧ D b ∧ (∃ l, Blk W b l) ∧ ∀ i, i < (A.sl j).n * eltK j → ∃ v, W.cell? ⟨b, i, none⟩ = some (.int .i64 v)
  sess : 0 < A.s.n → ∃ b, A.s.a = some ⟨b, 0, none⟩ ∧ D b ∧ (∃ l, Blk W b l) ∧ ∀ k, k < A.s.n → ∃ f : Nat → Int, W.rangeAt b (k * 17) (sessF (A.q k) f)
  apart : ∀ j, j < A.num → j ≠ 4 → 0 < (A.sl j).n → 0 < A.s.n → (A.sl j).a ≠ A.s.a
theorem SlIs.ints {W : World} {k : Nat} {s : Sl} {L : List Int} {b : Nat} (h : SlIs W k s L) (hb : s.a = some ⟨b, 0, none⟩) : ∀ i, i < s.n * k → ∃ v, W.cell? ⟨b, i, none⟩ = some (.int .i64 v) := fun i hi => by
  obtain ⟨b2, off, e, _, hc⟩ := h.2.2 i hi
  rw [hb] at e; cases e
  rw [Nat.zero_add] at hc
  exact ⟨_, hc⟩
theorem MachIs.slk {W : World} {A : MacM} {M : PMach} (h : MachIs W A M) {j : Nat} (hj : j < A.num) (h4 : j ≠ 4) : ∃ L, SlIs W (eltK j) (A.sl j) L := by
  by_cases h1 : j < 4
  · exact ⟨_, by unfold eltK; rw [if_pos h1, A.sl_w h1]; exact h.words j h1⟩
  · by_cases h5 : j = 5
    · subst h5; exact ⟨_, h.trace⟩
    · unfold MacM.num at hj
      obtain ⟨i, c, hi, hc, rfl⟩ : ∃ i c, i < A.s.n ∧ c < 3 ∧ j = 6 + 3 * i + c := ⟨(j - 6) / 3, (j - 6) % 3, by omega, Nat.mod_lt _ (by decide), by omega⟩
      have hs := h.sess.2.2.2 i hi
      unfold eltK
      rw [if_neg (by omega), if_neg (by omega), A.sl_q i hc, show (6 + 3 * i + c - 6) % 3 = c by omega]
      match c, hc with
      | 0, _ => exact ⟨_, hs.2.1⟩
      | 1, _ => exact ⟨_, hs.2.2.1⟩
      | 2, _ => exact ⟨_, hs.2.2.2⟩
theorem MachOwn.spl {D : Nat → Prop} {W : World} {A : MacM} {M : PMach} (h : MachOwn D W A M) : Spl D W A where
  small := fun j hj => by
    by_cases h4 : j = 4
    · subst h4; rw [A.sl_s]; have := h.is.sess.2.1.1; omega
    · obtain ⟨L, hL⟩ := h.is.slk hj h4
      have h1 := hL.2.1.1
      have : 0 < eltK j := by unfold eltK; (repeat' split) <;> omega
      have h2 : (A.sl j).n * 8 ≤ (A.sl j).n * (8 * eltK j) := Nat.mul_le_mul_left _ (by omega)
      omega
  ints := fun j hj h4 h0 => by
    obtain ⟨b, e, hD, hl⟩ := h.own j hj h0
    obtain ⟨L, hL⟩ := h.is.slk hj h4
    exact ⟨b, e, hD, hl, hL.ints e⟩
  sess := fun h0 => by
    obtain ⟨b, e, hD, hl⟩ := h.sblk h0
    refine ⟨b, e, hD, hl, fun k hk => ⟨lz (M.at k).num, ?_⟩⟩
    obtain ⟨b2, off, e2, _, hr⟩ := h.is.sess.range hk
    rw [e] at e2; cases e2
    rw [Nat.zero_add] at hr
    exact hr
  apart := fun j hj h4 h0 hs => by
    have hn : 4 < A.num := by unfold MacM.num; omega
    rw [← A.sl_s]
    rcases Nat.lt_or_gt_of_ne h4 with hl | hl
    · exact h.apart j 4 hl hn h0 (by rw [A.sl_s]; exact hs)
    · exact (h.apart 4 j hl hj (by rw [A.sl_s]; exact hs) h0).symm
theorem rangeAt_keep {W W' : World} {b o : Nat} {l : List Value} (h : W.rangeAt b o l) (hk : W'.heap[b]? = W.heap[b]?) : W'.rangeAt b o l := fun j v hv => by
  rw [← h j v hv]
  exact World.cell?_of_block (w := W) (a := ⟨b, o + j, .none⟩) hk
theorem blk_keep {W W' : World} {b : Nat} (h : ∃ l, Blk W b l) (hk : W'.heap[b]? = W.heap[b]?) : ∃ l, Blk W' b l := by
  obtain ⟨l, t, h⟩ := h
  exact ⟨l, t, by rw [hk]; exact h⟩
def splI (D : Nat → Prop) (A : MacM) : Itm := ⟨D, fun W => Spl D W A⟩
theorem splI_loc (D : Nat → Prop) (A : MacM) : (splI D A).Loc := fun W W' h hs hk => by
  obtain ⟨h1, h2, h3, h4⟩ := (h : Spl D W A)
  refine ⟨h1, fun j hj hj4 h0 => ?_, fun h0 => ?_, h4⟩
  · obtain ⟨b, e, hD, hl, hc⟩ := h2 j hj hj4 h0
    refine ⟨b, e, hD, blk_keep hl (hk b hD), fun i hi => ?_⟩
    obtain ⟨v, hv⟩ := hc i hi
    exact ⟨v, by rw [← hv]; exact World.cell?_of_block (w := W) (a := ⟨b, i, .none⟩) (hk b hD)⟩
  · obtain ⟨b, e, hD, hl, hc⟩ := h3 h0
    exact ⟨b, e, hD, blk_keep hl (hk b hD), fun k hk' => by
      obtain ⟨f, hf⟩ := hc k hk'
      exact ⟨f, rangeAt_keep hf (hk b hD)⟩⟩
theorem blk_setAny {W : World} {b b' o : Nat} {v : Value} (h : ∃ l, Blk W b' l) : ∃ l, Blk (W.setCell ⟨b, o, none⟩ v) b' l := by
  obtain ⟨l, h⟩ := h
  by_cases e : b' = b
  · subst e; exact ⟨_, h.set o v⟩
  · exact ⟨l, h.far v e⟩
theorem cell_setInt {W : World} {b o b' i : Nat} {u v : Int} (hu : W.cell? ⟨b, o, none⟩ = some (.int .i64 u)) (h : ∃ v, W.cell? ⟨b', i, none⟩ = some (.int .i64 v)) : ∃ x, (W.setCell ⟨b, o, none⟩ (.int .i64 v)).cell? ⟨b', i, none⟩ = some (.int .i64 x) := by
  by_cases e : b' = b ∧ i = o
  · obtain ⟨rfl, rfl⟩ := e
    exact ⟨v, World.cell?_setCell_same _ _ _ hu⟩
  · obtain ⟨x, hx⟩ := h
    exact ⟨x, by rw [World.cell?_setCell_other _ _ _ _ (fun he => e (by simp only [Addr.mk.injEq] at he; omega))]; exact hx⟩
section
variable {D : Nat → Prop} {W : World} {A : MacM}
/-- A number of a list is written over. -/
theorem Spl.setL (h : Spl D W A) {j b c : Nat} (hj : j < A.num) (h4 : j ≠ 4) (hc : c < (A.sl j).n * eltK j) (hb : (A.sl j).a = some ⟨b, 0, none⟩) (v : Int) : Spl D (W.setCell ⟨b, c, none⟩ (.int .i64 v)) A := by
  have h0 : 0 < (A.sl j).n := Nat.pos_of_mul_pos_right (by omega : 0 < (A.sl j).n * eltK j)
  obtain ⟨b2, e, hD, hl, hcc⟩ := h.ints j hj h4 h0
  rw [hb] at e; cases e
  obtain ⟨u, hu⟩ := hcc c hc
  refine ⟨h.small, fun j' hj' hj4' h0' => ?_, fun hs => ?_, h.apart⟩
  · obtain ⟨b', e', hD', hl', hc'⟩ := h.ints j' hj' hj4' h0'
    exact ⟨b', e', hD', blk_setAny hl', fun i hi => cell_setInt hu (hc' i hi)⟩
  · obtain ⟨b', e', hD', hl', hc'⟩ := h.sess hs
    have hne : b' ≠ b := fun e => by subst e; exact h.apart j hj h4 h0 hs (by rw [hb, e'])
    refine ⟨b', e', hD', blk_setAny hl', fun k hk => ?_⟩
    obtain ⟨f, hf⟩ := hc' k hk
    exact ⟨f, rangeAt_keep hf (Below.heap_setCell _ _ _ _ hne)⟩
theorem sessF_zero (q : SesM) (f : Nat → Int) (v : Int) : sessF q (fun i => if i = 0 then v else f i) = (sessF q f).set 0 (.int .i64 v) := rfl
/-- A session's Id is written over. -/
theorem Spl.setId (h : Spl D W A) {b k : Nat} (hk : k < A.s.n) (hb : A.s.a = some ⟨b, 0, none⟩) (v : Int) : Spl D (W.setCell ⟨b, k * 17, none⟩ (.int .i64 v)) A := by
  have hs : 0 < A.s.n := by omega
  refine ⟨h.small, fun j hj h4 h0 => ?_, fun _ => ?_, h.apart⟩
  · obtain ⟨b', e', hD', hl', hc'⟩ := h.ints j hj h4 h0
    have hne : b' ≠ b := fun e => by subst e; exact h.apart j hj h4 h0 hs (by rw [e', hb])
    exact ⟨b', e', hD', blk_setAny hl', fun i hi => by
      obtain ⟨x, hx⟩ := hc' i hi
      exact ⟨x, by rw [← hx]; exact World.cell?_of_block (w := W) (a := ⟨b', i, .none⟩) (Below.heap_setCell _ _ _ _ hne)⟩⟩
  · obtain ⟨b', e', hD', hl', hc'⟩ := h.sess hs
    rw [hb] at e'; cases e'
    refine ⟨b, hb, hD', blk_setAny hl', fun k' hk' => ?_⟩
    obtain ⟨f, hf⟩ := hc' k' hk'
    by_cases e : k' = k
    · subst e
      refine ⟨fun i => if i = 0 then v else f i, fun j x hx => ?_⟩
      rw [sessF_zero, List.getElem?_set] at hx
      by_cases e0 : 0 = j
      · subst e0
        rw [if_pos rfl, if_pos (show 0 < (sessF (A.q k') f).length from (by show 0 < 17; decide))] at hx
        cases hx
        exact World.cell?_setCell_same _ _ _ (hf 0 _ rfl)
      · rw [if_neg e0] at hx
        rw [World.cell?_setCell_other _ _ _ _ (fun he => by simp only [Addr.mk.injEq] at he; omega)]
        exact hf j x hx
    · refine ⟨f, fun j x hx => ?_⟩
      have hj : j < 17 := (List.getElem?_eq_some_iff.1 hx).1
      rw [World.cell?_setCell_other _ _ _ _ (fun he => by simp only [Addr.mk.injEq] at he; omega)]
      exact hf j x hx
end
/-- A list that may be written over, where the walk stands. -/
def Splt (w0 : World) (L : List Itm) (s : Sl) (K : Nat) : Prop := s.n ≤ 1152921504606846976 ∧ (0 < s.n → ∃ b, s.a = some ⟨b, 0, none⟩ ∧ ∀ W, St w0 W L → ∀ c, c < s.n * K → (∃ v, W.cell? ⟨b, c, none⟩ = some (.int .i64 v)) ∧ W.frozen? ⟨b, c, none⟩ = false ∧ ∀ v, St w0 (W.setCell ⟨b, c, none⟩ (.int .i64 v)) L)
theorem splt_of {w0 w : World} {L : List Itm} (HS : St w0 w L) {i : Nat} {D : Nat → Prop} {A : MacM} (ei : L[i]? = some (splI D A)) {j : Nat} (hj : j < A.num) (h4 : j ≠ 4) : Splt w0 L (A.sl j) (eltK j) := by
  have h : Spl D w A := HS.get i ei
  refine ⟨h.small j hj, fun h0 => ?_⟩
  obtain ⟨b, e, hD, _⟩ := h.ints j hj h4 h0
  refine ⟨b, e, fun W hW c hc => ?_⟩
  have h2 : Spl D W A := hW.get i ei
  obtain ⟨b2, e2, hD2, ⟨l, hl⟩, hc2⟩ := h2.ints j hj h4 h0
  rw [e] at e2; cases e2
  refine ⟨hc2 c hc, hl.frozen c, fun v => ?_⟩
  have := hW.set i ei (splI D A) (chg_set (W := W) (b := b) (o := c) (v := .int .i64 v) hD2) (splI_loc D A) (h2.setL hj h4 hc e v) fun k hk => .inl hk
  rw [set_self ei] at this
  exact this
set_option maxHeartbeats 400000 in
theorem spoilWords_spl (w0 : World) (L : List Itm) (s : Sl) (w : World) (h : Splt w0 L s 3) (HS : Hid (St w0 w L)) :
    Calls Tryz.prog 57 #[.slice s.a s.n s.c] w fun e w' => e = .returned (.tuple #[]) ∧ St w0 w' L := by
  obtain ⟨hn, H⟩ := h
  by_cases hp : 0 < s.n
  · obtain ⟨b, hb, H⟩ := H hp
    replace H := hide H
    rw [hb]
    clear hb
    go_enter Tryz.func57, Tryz.ntmps57
    go_wp2
    go_loopw [2] (fun i wr => ∃ k : Nat, k ≤ s.n ∧ i = .int .i64 k ∧ Hid (St w0 wr L)) (fun i _ => s.n - (intOf i).toNat)
    case atStart => exact ⟨0, Nat.zero_le _, rfl, HS⟩
    case round =>
      clear HS
      obtain ⟨k, hk, rfl, HS⟩ := hrel
      by_cases hlt : k < s.n
      · have i1 : (k : Int) < (s.n : Int) := by omega
        obtain ⟨⟨u, c0⟩, f0, hS⟩ := H.out _ HS.out (k * 3) (by omega)
        replace hS := hide hS
        go_wp2
        go_roundw
        case rel => exact ⟨k + 1, by omega, by go_num, hS.out _⟩
        case measure => simp [intOf]; omega
      · go_wp2
        go_end0
        exact ⟨rfl, HS.out⟩
  · have h0 : s.n = 0 := by omega
    rw [h0]
    clear h0 hp hn H
    go_enter Tryz.func57, Tryz.ntmps57
    go_wp2
    go_loop [2] (fun i => i = .int .i64 0) (fun _ => 0)
    case atStart => rfl
    case round =>
      subst hrel
      go_wp2
      go_end0
      exact ⟨rfl, HS.out⟩
set_option maxHeartbeats 400000 in
theorem spoilInsts_spl (w0 : World) (L : List Itm) (s : Sl) (w : World) (h : Splt w0 L s 4) (HS : Hid (St w0 w L)) :
    Calls Tryz.prog 58 #[.slice s.a s.n s.c] w fun e w' => e = .returned (.tuple #[]) ∧ St w0 w' L := by
  obtain ⟨hn, H⟩ := h
  by_cases hp : 0 < s.n
  · obtain ⟨b, hb, H⟩ := H hp
    replace H := hide H
    rw [hb]
    clear hb
    go_enter Tryz.func58, Tryz.ntmps58
    go_wp2
    go_loopw [2] (fun i wr => ∃ k : Nat, k ≤ s.n ∧ i = .int .i64 k ∧ Hid (St w0 wr L)) (fun i _ => s.n - (intOf i).toNat)
    case atStart => exact ⟨0, Nat.zero_le _, rfl, HS⟩
    case round =>
      clear HS
      obtain ⟨k, hk, rfl, HS⟩ := hrel
      by_cases hlt : k < s.n
      · have i1 : (k : Int) < (s.n : Int) := by omega
        obtain ⟨⟨u, c0⟩, f0, hS⟩ := H.out _ HS.out (k * 4 + 1) (by omega)
        replace hS := hide hS
        go_wp2
        go_roundw
        case rel => exact ⟨k + 1, by omega, by go_num, hS.out _⟩
        case measure => simp [intOf]; omega
      · go_wp2
        go_end0
        exact ⟨rfl, HS.out⟩
  · have h0 : s.n = 0 := by omega
    rw [h0]
    clear h0 hp hn H
    go_enter Tryz.func58, Tryz.ntmps58
    go_wp2
    go_loop [2] (fun i => i = .int .i64 0) (fun _ => 0)
    case atStart => rfl
    case round =>
      subst hrel
      go_wp2
      go_end0
      exact ⟨rfl, HS.out⟩
set_option maxHeartbeats 400000 in
theorem spoilReads_spl (w0 : World) (L : List Itm) (s : Sl) (w : World) (h : Splt w0 L s 3) (HS : Hid (St w0 w L)) :
    Calls Tryz.prog 59 #[.slice s.a s.n s.c] w fun e w' => e = .returned (.tuple #[]) ∧ St w0 w' L := by
  obtain ⟨hn, H⟩ := h
  by_cases hp : 0 < s.n
  · obtain ⟨b, hb, H⟩ := H hp
    replace H := hide H
    rw [hb]
    clear hb
    go_enter Tryz.func59, Tryz.ntmps59
    go_wp2
    go_loopw [2] (fun i wr => ∃ k : Nat, k ≤ s.n ∧ i = .int .i64 k ∧ Hid (St w0 wr L)) (fun i _ => s.n - (intOf i).toNat)
    case atStart => exact ⟨0, Nat.zero_le _, rfl, HS⟩
    case round =>
      clear HS
      obtain ⟨k, hk, rfl, HS⟩ := hrel
      by_cases hlt : k < s.n
      · have i1 : (k : Int) < (s.n : Int) := by omega
        obtain ⟨⟨u, c0⟩, f0, hS⟩ := H.out _ HS.out (k * 3 + 1) (by omega)
        replace hS := hide hS
        go_wp2
        go_roundw
        case rel => exact ⟨k + 1, by omega, by go_num, hS.out _⟩
        case measure => simp [intOf]; omega
      · go_wp2
        go_end0
        exact ⟨rfl, HS.out⟩
  · have h0 : s.n = 0 := by omega
    rw [h0]
    clear h0 hp hn H
    go_enter Tryz.func59, Tryz.ntmps59
    go_wp2
    go_loop [2] (fun i => i = .int .i64 0) (fun _ => 0)
    case atStart => rfl
    case round =>
      subst hrel
      go_wp2
      go_end0
      exact ⟨rfl, HS.out⟩
set_option maxHeartbeats 400000 in
theorem spoilWrites_spl (w0 : World) (L : List Itm) (s : Sl) (w : World) (h : Splt w0 L s 3) (HS : Hid (St w0 w L)) :
    Calls Tryz.prog 60 #[.slice s.a s.n s.c] w fun e w' => e = .returned (.tuple #[]) ∧ St w0 w' L := by
  obtain ⟨hn, H⟩ := h
  by_cases hp : 0 < s.n
  · obtain ⟨b, hb, H⟩ := H hp
    replace H := hide H
    rw [hb]
    clear hb
    go_enter Tryz.func60, Tryz.ntmps60
    go_wp2
    go_loopw [2] (fun i wr => ∃ k : Nat, k ≤ s.n ∧ i = .int .i64 k ∧ Hid (St w0 wr L)) (fun i _ => s.n - (intOf i).toNat)
    case atStart => exact ⟨0, Nat.zero_le _, rfl, HS⟩
    case round =>
      clear HS
      obtain ⟨k, hk, rfl, HS⟩ := hrel
      by_cases hlt : k < s.n
      · have i1 : (k : Int) < (s.n : Int) := by omega
        obtain ⟨⟨u, c0⟩, f0, hS⟩ := H.out _ HS.out (k * 3 + 1) (by omega)
        replace hS := hide hS
        go_wp2
        go_roundw
        case rel => exact ⟨k + 1, by omega, by go_num, hS.out _⟩
        case measure => simp [intOf]; omega
      · go_wp2
        go_end0
        exact ⟨rfl, HS.out⟩
  · have h0 : s.n = 0 := by omega
    rw [h0]
    clear h0 hp hn H
    go_enter Tryz.func60, Tryz.ntmps60
    go_wp2
    go_loop [2] (fun i => i = .int .i64 0) (fun _ => 0)
    case atStart => rfl
    case round =>
      subst hrel
      go_wp2
      go_end0
      exact ⟨rfl, HS.out⟩
set_option maxHeartbeats 400000 in
theorem spoilEvents_spl (w0 : World) (L : List Itm) (s : Sl) (w : World) (h : Splt w0 L s 4) (HS : Hid (St w0 w L)) :
    Calls Tryz.prog 33 #[.slice s.a s.n s.c] w fun e w' => e = .returned (.tuple #[]) ∧ St w0 w' L := by
  obtain ⟨hn, H⟩ := h
  by_cases hp : 0 < s.n
  · obtain ⟨b, hb, H⟩ := H hp
    replace H := hide H
    rw [hb]
    clear hb
    go_enter Tryz.func33, Tryz.ntmps33
    go_wp2
    go_loopw [2] (fun i wr => ∃ k : Nat, k ≤ s.n ∧ i = .int .i64 k ∧ Hid (St w0 wr L)) (fun i _ => s.n - (intOf i).toNat)
    case atStart => exact ⟨0, Nat.zero_le _, rfl, HS⟩
    case round =>
      clear HS
      obtain ⟨k, hk, rfl, HS⟩ := hrel
      by_cases hlt : k < s.n
      · have i1 : (k : Int) < (s.n : Int) := by omega
        obtain ⟨⟨u, c0⟩, f0, hS⟩ := H.out _ HS.out (k * 4) (by omega)
        replace hS := hide hS
        go_wp2
        go_roundw
        case rel => exact ⟨k + 1, by omega, by go_num, hS.out _⟩
        case measure => simp [intOf]; omega
      · go_wp2
        go_end0
        exact ⟨rfl, HS.out⟩
  · have h0 : s.n = 0 := by omega
    rw [h0]
    clear h0 hp hn H
    go_enter Tryz.func33, Tryz.ntmps33
    go_wp2
    go_loop [2] (fun i => i = .int .i64 0) (fun _ => 0)
    case atStart => rfl
    case round =>
      subst hrel
      go_wp2
      go_end0
      exact ⟨rfl, HS.out⟩
set_option maxHeartbeats 1000000 in
theorem spoilArena_spl (w0 : World) (L : List Itm) (i : Nat) (D : Nat → Prop) (A : MacM) (w : World) (ei : Hid (L[i]? = some (splI D A))) (HS : Hid (St w0 w L)) :
    Calls Tryz.prog 31 #[arenaA A.w] w fun e w' => e = .returned (.tuple #[]) ∧ St w0 w' L := by
  obtain ⟨V0, hV0⟩ : ∃ V0, V0 = arenaA A.w := ⟨_, rfl⟩
  rw [← hV0]
  have HV : Hid (V0.cells = (arenaL A.w).toArray) := by rw [hV0]; rfl
  clear hV0
  have HP := hide fun (g : Nat) (hg : g < 4) (b : Nat) (W : World) (HS : Hid (St w0 W (blkI b (arenaL A.w) :: L))) => show Calls Tryz.prog 57 #[.slice (A.w g).a (A.w g).n (A.w g).c] W fun e w' => e = .returned (.tuple #[]) ∧ St w0 w' (blkI b (arenaL A.w) :: L) from
    spoilWords_spl w0 (blkI b (arenaL A.w) :: L) (A.w g) W (by
      have := splt_of HS.out (i := i + 1) (show (blkI b (arenaL A.w) :: L)[i + 1]? = some (splI D A) from ei.out) (j := g) (by unfold MacM.num; omega) (by omega)
      rw [A.sl_w hg, show eltK g = 3 by unfold eltK; rw [if_pos hg]] at this
      exact this) HS
  go_enter Tryz.func31, Tryz.ntmps31
  go_wp2_with (first | ((with_reducible refine isList ?_); first | (refine st_box HS _ _ rfl rfl (arenaL A.w) HV.out ?_; clear HS; intro W b HS)))
  go_loopw [2] (fun i wr => ∃ k : Nat, k ≤ 4 ∧ i = .int .i64 k ∧ Hid (St w0 wr (blkI b (arenaL A.w) :: L))) (fun i _ => 4 - (intOf i).toNat)
  case atStart => exact ⟨0, Nat.zero_le _, rfl, HS⟩
  case round =>
    clear HS
    obtain ⟨k, hk, rfl, HS⟩ := hrel
    by_cases hlt : k < 4
    · have i1 : (k : Int) < 4 := by omega
      have c1 := (HS.out.blk 0 rfl).cell k _ (arenaL_get A.w hlt)
      go_wp2_with fail
      refine (HP.out k hlt b _ HS).mono ?_
      rintro e w1 ⟨rfl, HS1⟩
      replace HS := hide HS1
      clear HS1 c1
      go_wp2
      go_roundw
      case rel => exact ⟨k + 1, by omega, by go_num, HS⟩
      case measure => simp [intOf]; omega
    · go_wp2
      go_end0
      exact ⟨rfl, HS.out.tail⟩
set_option maxHeartbeats 1000000 in
theorem spoilSession_spl (w0 : World) (L : List Itm) (i : Nat) (D : Nat → Prop) (A : MacM) (k : Nat) (f : Nat → Int) (w : World) (ei : Hid (L[i]? = some (splI D A))) (hk : k < A.s.n) (HS : Hid (St w0 w L)) :
    Calls Tryz.prog 32 #[.agg (sessF (A.q k) f).toArray] w fun e w' => e = .returned (.tuple #[]) ∧ St w0 w' L := by
  have HP : Hid (∀ (j : Nat) (hj : j < 3) (b : Nat) (W : World) (HS : Hid (St w0 W (blkI b (sessF (A.q k) f) :: L))), Splt w0 (blkI b (sessF (A.q k) f) :: L) ((A.q k).sl j) (if j = 0 then 4 else 3)) := fun j hj b W HS => by
    have := splt_of HS.out (i := i + 1) (show (blkI b (sessF (A.q k) f) :: L)[i + 1]? = some (splI D A) from ei.out) (j := 6 + 3 * k + j) (by unfold MacM.num; omega) (by omega)
    rw [A.sl_q k hj] at this
    have e : eltK (6 + 3 * k + j) = if j = 0 then 4 else 3 := by
      unfold eltK
      rw [if_neg (by omega), if_neg (by omega), show (6 + 3 * k + j - 6) % 3 = j by omega]
    rw [e] at this
    exact this
  obtain ⟨V0, hV0⟩ : ∃ V0, V0 = Value.agg (sessF (A.q k) f).toArray := ⟨_, rfl⟩
  rw [← hV0]
  have HV : Hid (V0.cells = (sessF (A.q k) f).toArray) := by rw [hV0]; rfl
  clear hV0 ei
  go_enter Tryz.func32, Tryz.ntmps32
  go_wp2_with (first | ((with_reducible refine isList ?_); first | (refine st_box HS _ _ rfl rfl (sessF (A.q k) f) HV.out ?_; clear HS; intro W b HS) | (refine st_load1 HS 0 rfl _ _ rfl _ rfl rfl (by decide +kernel) rfl ?_)))
  refine (spoilInsts_spl w0 _ (A.q k).p _ (HP.out 0 (by decide) b _ HS) HS).mono ?_
  rintro e w1 ⟨rfl, HS1⟩
  replace HS := hide HS1
  clear HS1
  go_wp2_with (first | ((with_reducible refine isList ?_); first | (refine st_load1 HS 0 rfl _ _ rfl _ rfl rfl (by decide +kernel) rfl ?_)))
  refine (spoilReads_spl w0 _ (A.q k).r _ (HP.out 1 (by decide) b _ HS) HS).mono ?_
  rintro e w2 ⟨rfl, HS1⟩
  replace HS := hide HS1
  clear HS1
  go_wp2_with (first | ((with_reducible refine isList ?_); first | (refine st_load1 HS 0 rfl _ _ rfl _ rfl rfl (by decide +kernel) rfl ?_)))
  refine (spoilWrites_spl w0 _ (A.q k).t _ (HP.out 2 (by decide) b _ HS) HS).mono ?_
  rintro e w3 ⟨rfl, HS1⟩
  replace HS := hide HS1
  clear HS1
  go_wp2
  go_end0
  exact ⟨rfl, HS.out.tail⟩
set_option maxRecDepth 100000 in
theorem ix_sess (bs n c k : Nat) (hk : k < n) (w : World) : (Instr.indexAt 25 (.slice (some ⟨bs, 0, none⟩) n c) (.int .i64 k)).run Tryz.prog w = .ok (.pointer (some ⟨bs, k * 17, none⟩)) w := by
  have h := run_indexAt_slice (P := Tryz.prog) (w := w) 25 ⟨bs, 0, none⟩ n c .i64 (k : Int) (by kernel_rfl)
  rw [h, if_pos ⟨by omega, by omega⟩]
  have e : Sem.run Tryz.prog (Go.sizeOf (Tryz.prog.elem 25)) w = .ok 17 w := by rfl
  rw [e]
  simp only [Result.andThen, Go.WideShapes.add_plain, Int.toNat_natCast, Nat.zero_add]
theorem stw_splId {w0 w : World} {L : List Itm} {P : Program} {op : Oper} {a : Act} {K : Act → World → Prop} {Q : Exit → Act → World → Prop} {D : Nat → Prop} {A : MacM} (HS : Hid (St w0 w L)) (i : Nat) (ei : L[i]? = some (splI D A)) {k bs : Nat} (hk : k < A.s.n) (hbs : A.s.a = some ⟨bs, 0, none⟩) (ty : TypeId) (x y : Operand) (ho : op.op = .store ty x y) (o : Nat) (hx : a.eval x = .pointer (some ⟨bs, o, none⟩)) (ho' : o = k * 17)
    {v : Int} (hy : ValOf a y (.int .i64 v)) (hi : (P.info? ty).map (·.size) = some 1) (hw : ∀ W, Hid (St w0 W L) → K (a.put op.dst undef) W) : op.wp P a w K Q := by
  have hM : Spl D w A := HS.out.get i ei
  obtain ⟨b, e, hD, ⟨l, hl⟩, hc⟩ := hM.sess (by omega)
  rw [hbs] at e; cases e
  obtain ⟨f, hf⟩ := hc k hk
  have hu : w.cell? ⟨bs, k * 17, none⟩ = some (.int .i64 (f 0)) := hf 0 _ rfl
  subst ho'
  unfold Oper.wp execOp
  simp only [ho, hx, hy.eval, Instr.storeAt, Instr.sureAddr, Sem.run_bind, Sem.run_pure, Result.andThen_ok, run_storeVar_one w ⟨bs, k * 17, none⟩ ty (.int .i64 (f 0)) (.int .i64 v) hu (hl.frozen _) rfl hi]
  have h2 := HS.out.set i ei (splI D A) (chg_set (W := w) (b := bs) (o := k * 17) (v := .int .i64 v) hD) (splI_loc D A) (hM.setId hk hbs v) fun k hk => .inl hk
  rw [set_self ei] at h2
  exact hw _ h2
set_option maxRecDepth 100000 in
set_option maxHeartbeats 4000000 in
theorem spoilMach_any (w0 : World) (L : List Itm) (i : Nat) (D : Nat → Prop) (A : MacM) (M : PMach) (w : World) (ei : Hid (L[i]? = some (machI D A M))) (HS : Hid (St w0 w L)) :
    Calls Tryz.prog 13 #[machA A M] w fun e w' => e = .returned (.tuple #[]) ∧ St w0 w' (L.set i (splI D A)) := by
  have hM : MachOwn D w A M := HS.out.get i ei.out
  have HS0 := hide (HS.out.set i ei.out (splI D A) (Chg.refl _ w) (splI_loc D A) hM.spl fun k hk => .inl hk)
  have ej : Hid ((L.set i (splI D A))[i]? = some (splI D A)) := by
    show (L.set i (splI D A))[i]? = _
    rw [List.getElem?_set, if_pos rfl, if_pos (List.getElem?_eq_some_iff.1 ei.out).1]
  have hn8 : A.s.n * 184 ≤ 140737488351232 := hM.is.sess.2.1.1
  clear hM HS ei
  generalize L.set i (splI D A) = L1 at HS0 ej ⊢
  replace HS := HS0
  clear HS0
  have HA := hide fun (b : Nat) (W : World) (HS : Hid (St w0 W (blkI b (machL A M) :: L1))) => spoilArena_spl w0 (blkI b (machL A M) :: L1) (i + 1) D A W ej HS
  have HP := hide fun (k : Nat) (hk : k < A.s.n) (f : Nat → Int) (b : Nat) (W : World) (HS : Hid (St w0 W (blkI b (machL A M) :: L1))) => spoilSession_spl w0 (blkI b (machL A M) :: L1) (i + 1) D A k f W ej hk HS
  have HE := hide fun (b : Nat) (W : World) (HS : Hid (St w0 W (blkI b (machL A M) :: L1))) => show Calls Tryz.prog 33 #[.slice A.e.a A.e.n A.e.c] W fun e w' => e = .returned (.tuple #[]) ∧ St w0 w' (blkI b (machL A M) :: L1) from
    spoilEvents_spl w0 (blkI b (machL A M) :: L1) A.e W (splt_of HS.out (i := i + 1) (show (blkI b (machL A M) :: L1)[i + 1]? = some (splI D A) from ej.out) (j := 5) (by unfold MacM.num; omega) (by omega)) HS
  have HG := hide fun (k : Nat) (hk : k < A.s.n) (b : Nat) (W : World) (HS : Hid (St w0 W (blkI b (machL A M) :: L1))) => Spl.sess (show Spl D W A from HS.out.get (i + 1) ej.out) (by omega)
  unfold arenaA at HA
  obtain ⟨V0, hV0⟩ : ∃ V0, V0 = machA A M := ⟨_, rfl⟩
  rw [← hV0]
  have HV : Hid (V0.cells = (machL A M).toArray) := by rw [hV0]; rfl
  clear hV0
  go_enter Tryz.func13, Tryz.ntmps13
  go_wp2_with (first | ((with_reducible refine isList ?_); first | (refine st_box HS _ _ rfl rfl (machL A M) HV.out ?_; clear HS; intro W bm HS) | (refine st_loadR HS 0 rfl _ _ rfl 0 rfl rfl (by decide +kernel) (arenaL A.w) _ (by kernel_rfl) rfl ?_)))
  refine (HA.out bm _ HS).mono ?_
  rintro e w1 ⟨rfl, HS1⟩
  replace HS := hide HS1
  clear HS1 HA
  go_wp2
  go_loopw [2] (fun j wr => ∃ k : Nat, k ≤ A.s.n ∧ j = .int .i64 k ∧ Hid (St w0 wr (blkI bm (machL A M) :: L1))) (fun j _ => A.s.n - (intOf j).toNat)
  case atStart => exact ⟨0, Nat.zero_le _, rfl, HS⟩
  case round =>
    clear HS
    obtain ⟨k, hk, rfl, HS⟩ := hrel
    by_cases hlt : k < A.s.n
    · have i1 : (k : Int) < (A.s.n : Int) := by omega
      obtain ⟨bs, hbs, _, _, hc⟩ := HG.out k hlt bm _ HS
      obtain ⟨f, hf⟩ := hc k hlt
      have hR := hide hf
      clear hc hf
      go_wp2_with (first | ((with_reducible refine isList ?_); first | (refine st_load1 HS 0 rfl _ _ rfl _ rfl rfl (by decide +kernel) rfl ?_) | (refine wpList_load_at _ _ rfl rfl bs (k * 17) rfl (sessF (A.q k) f) (by decide +kernel) (by kernel_rfl) hR.out ?_)))
      refine (HP.out k hlt f bm _ HS).mono ?_
      rintro e w2 ⟨rfl, HS1⟩
      replace HS := hide HS1
      clear HS1 hR
      obtain ⟨bs', hbs', _, _, hc⟩ := HG.out k hlt bm _ HS
      rw [hbs] at hbs'; cases hbs'
      obtain ⟨g, hg⟩ := hc k hlt
      have c0 : w2.cell? ⟨bs, k * 17, none⟩ = some (.int .i64 (g 0)) := hg 0 _ rfl
      have B0 := HS.out.blk 0 rfl
      clear hc hg
      replace c0 := hide c0
      go_wp2_with fail
      (try simp only [Act.put, List.setIfInBounds_toArray, List.set_cons_zero, List.set_cons_succ])
      refine wp_region_mask [true, true, true, true, true, true, true, true, true, true, false, false, false] [false, false, false, false, false, false, false, false, false, false, true, true, true] [3, 3, 1] (fun w' => Blk w' bm (machL A M) ∧ w'.cell? ⟨bs, k * 17, none⟩ = some (.int .i64 (g 0))) (by kernel_rfl) (by kernel_rfl) (by kernel_rfl) (by decide +kernel) ⟨B0.drew, c0.out⟩ ?_
      intro kne
      simp only [pickAt]
      repeat (first | ((first | (refine wpQuiet_ld _ _ rfl ⟨bm, 9, none⟩ rfl rfl (by decide +kernel) (fun w hC => hC.1.cell 9 _ rfl) ?_) | (refine wpQuiet_ld _ _ rfl ⟨bs, k * 17, none⟩ rfl rfl (by decide +kernel) (fun w hC => hC.2) ?_)); simp only [Act.put, List.setIfInBounds_toArray, List.set_cons_zero, List.set_cons_succ]) | go_big_quiet_step (fail))
      refine wpQuiet_nil ?_
      clear kne B0 c0
      replace HS := hide HS.out.drew
      generalize World.drew _ = Wd at *
      refine wpRest_of (v := .pointer (some ⟨bs, k * 17, none⟩)) rfl (fun w => by simp only [execOp, Act.eval, Act.put, Sem.run_bind]; first | (rw [ix_sess bs _ _ k hlt]; rfl) | (simp only [hbs]; rw [ix_sess bs _ _ k hlt]; rfl) | (simp [hbs, ix_sess bs _ _ k hlt, go_sem])) ?_
      (try simp only [Act.put, List.setIfInBounds_toArray, List.set_cons_zero, List.set_cons_succ])
      refine wpRest_of (v := .pointer (some ⟨bs, k * 17, none⟩)) rfl (fun w => rfl) ?_
      (try simp only [Act.put, List.setIfInBounds_toArray, List.set_cons_zero, List.set_cons_succ])
      refine wpRest_cons rfl rfl fun K hK => ?_
      refine stw_splId HS (i + 1) ej.out hlt hbs _ _ _ rfl _ rfl rfl rfl (by decide +kernel) ?_
      clear HS
      intro W2 HS
      refine hK _ _ (fun h => by cases h) (wpRest_nil ?_)
      clear hK K
      (try simp only [Act.put, List.setIfInBounds_toArray, List.set_cons_zero, List.set_cons_succ])
      refine NoPanic.normal ?_
      go_wp2
      go_roundw
      case rel =>
        first
          | exact ⟨k + 1, by omega, by go_num, HS⟩
          | (repeat apply Exists.intro
             exact ⟨⟨k + 1, by omega, by go_num, HS⟩, by first | rfl | (rw [hbs]; rfl)⟩)
      case measure => simp [intOf]; omega
    · obtain rfl : k = A.s.n := by omega
      go_wp2_with (first | ((with_reducible refine isList ?_); first | (refine st_load1 HS 0 rfl _ _ rfl _ rfl rfl (by decide +kernel) rfl ?_)))
      refine (HE.out bm _ HS).mono ?_
      rintro e w2 ⟨rfl, HS1⟩
      replace HS := hide HS1
      clear HS1
      go_wp2
      go_end0
      exact ⟨rfl, HS.out.tail⟩
end Go.Proofs.YtnjognmnbpcaaaaGreat
