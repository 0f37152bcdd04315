/-
  Several small texts in one: ArenaCopy, ArenaPut, AllTo, WritesPure, RowKin, RowKin4, ReadsMem, WritesMem, QuadEq, RegsPure, RegsRef, Apart, Lists, Turnwise, MachTurn, MachList, Fork.
-/
import Derived.Test.YtnjognmnbpcaaaaGreatZlab
import Derived.Laws.AppendOwnNone
import Derived.OwnWalk
import Derived.RegionTactic
import Derived.BigRegion
import Derived.WalkKit
import Derived.Deep.AppendLies
import Derived.Test.YtnjognmnbpcaaaaGreatRows
import Derived.WalkSpells
import Derived.ChangeKeysEq
import Derived.Deep.Cut
import Derived.Deep.RegionHeld3
import Derived.Deep.QuietTactic
namespace Go.Proofs.YtnjognmnbpcaaaaGreat
open Go.RowKit
theorem Tryz.infoWord : (Tryz.prog.info? 107).map (fun i => (i.zero, i.size, i.bytes)) = some (some (.agg #[.int .i64 0, .int .i64 0, .int .i64 0]), 3, 24) := by kernel_rfl
/-- No level is longer than what can come in; nil has none. -/
def Fit (s : Nat → Sl) : Prop := ∀ g, g < 4 → (s g).n * 24 ≤ 140737488351232 ∧ ((s g).a = none → (s g).n = 0 ∧ (s g).c = 0)
theorem Fit.short {s : Nat → Sl} (h : Fit s) : Short s := fun g hg => by have := (h g hg).1; omega
/-- The first k levels are rows of the call's own, in blocks from B up to C, one behind another. -/
def Fresh (B C : Nat) (w : World) (t : Nat → Sl) (z : Nat → Nat → Int) (k : Nat) : Prop :=
  ∃ β : Nat → Nat, (∀ g, g < k → 0 < (t g).n → (t g).a = some ⟨β g, 0, none⟩ ∧ B ≤ β g ∧ β g < C ∧ Own w (β g) ((t g).n * 3) (intF (z g))) ∧ ∀ g h, g < h → h < k → 0 < (t g).n → 0 < (t h).n → β g < β h
section
variable {B C : Nat} {w w' : World} {t : Nat → Sl} {z : Nat → Nat → Int} {k : Nat}
theorem Fresh.zero (B C : Nat) (w : World) (t : Nat → Sl) (z : Nat → Nat → Int) : Fresh B C w t z 0 := ⟨fun _ => 0, fun _ h => absurd h (Nat.not_lt_zero _), fun _ _ _ h => absurd h (Nat.not_lt_zero _)⟩
theorem Fresh.arn (h : Fresh B C w t z 4) : Arn w t z := by
  obtain ⟨β, h1, _⟩ := h
  intro g hg i hi
  obtain ⟨e, _, _, ho⟩ := h1 g hg (by omega)
  rw [e]
  exact ho.row i hi
theorem Fresh.on (h : Fresh B C w t z k) (hb : Below w.heap.size w w') : Fresh B C w' t z k := by
  obtain ⟨β, h1, h2⟩ := h
  exact ⟨β, fun g hg hn => ⟨(h1 g hg hn).1, (h1 g hg hn).2.1, (h1 g hg hn).2.2.1, (h1 g hg hn).2.2.2.on hb⟩, h2⟩
theorem Fresh.below {D : Nat} (h : Fresh B C w t z k) (hb : Below D w w') (hD : C ≤ D) : Fresh B C w' t z k := by
  obtain ⟨β, h1, h2⟩ := h
  exact ⟨β, fun g hg hn => ⟨(h1 g hg hn).1, (h1 g hg hn).2.1, (h1 g hg hn).2.2.1, (h1 g hg hn).2.2.2.below hb (by have := (h1 g hg hn).2.2.1; omega)⟩, h2⟩
/-- Nothing but what lies behind B is stored into. -/
theorem Fresh.far (h : Fresh B C w t z k) {a : Addr} (v : Value) (ha : a.block < B ∨ C ≤ a.block) : Fresh B C (w.setCell a v) t z k := by
  obtain ⟨β, h1, h2⟩ := h
  exact ⟨β, fun g hg hn => ⟨(h1 g hg hn).1, (h1 g hg hn).2.1, (h1 g hg hn).2.2.1, (h1 g hg hn).2.2.2.far v (by have := (h1 g hg hn).2.1; have := (h1 g hg hn).2.2.1; omega)⟩, h2⟩
theorem Fresh.alloc (h : Fresh B C w t z k) (o : Obj) : Fresh B C (w.alloc o) t z k := by
  obtain ⟨β, h1, h2⟩ := h
  exact ⟨β, fun g hg hn => ⟨(h1 g hg hn).1, (h1 g hg hn).2.1, (h1 g hg hn).2.2.1, (h1 g hg hn).2.2.2.alloc o⟩, h2⟩
theorem Fresh.drawn (h : Fresh B C w t z k) (n : Nat) : Fresh B C (w.drewN n) t z k := h
theorem Fresh.drew (h : Fresh B C w t z k) : Fresh B C w.drew t z k := h
theorem Fresh.mono {B' C' : Nat} (h : Fresh B C w t z k) (hB : B' ≤ B) (hC : C ≤ C') : Fresh B' C' w t z k := by
  obtain ⟨β, h1, h2⟩ := h
  exact ⟨β, fun g hg hn => ⟨(h1 g hg hn).1, Nat.le_trans hB (h1 g hg hn).2.1, Nat.lt_of_lt_of_le (h1 g hg hn).2.2.1 hC, (h1 g hg hn).2.2.2⟩, h2⟩
end
/-- One slice set into an arena. -/
def updS (t : Nat → Sl) (k : Nat) (x : Sl) (g : Nat) : Sl := if g = k then x else t g
theorem updS_same (t : Nat → Sl) (k : Nat) (x : Sl) : updS t k x k = x := if_pos rfl
theorem updS_other (t : Nat → Sl) {k g : Nat} (x : Sl) (h : g ≠ k) : updS t k x g = t g := if_neg h
theorem updS_self (t : Nat → Sl) (k : Nat) : updS t k (t k) = t := funext fun g => by
  unfold updS
  split
  · rename_i e; rw [e]
  · rfl
theorem updS_twice (t : Nat → Sl) (k : Nat) (x x' : Sl) : updS (updS t k x) k x' = updS t k x' := funext fun g => by
  unfold updS
  split
  · rfl
  · rfl
theorem arenaL_set (t : Nat → Sl) {k : Nat} (hk : k < 4) (x : Sl) : (arenaL t).set k (.slice x.a x.n x.c) = arenaL (updS t k x) := by
  have : k = 0 ∨ k = 1 ∨ k = 2 ∨ k = 3 := by omega
  rcases this with rfl | rfl | rfl | rfl <;> rfl
/-- One level more, in a block behind the others. -/
theorem Fresh.more {B C C' : Nat} {w : World} {t : Nat → Sl} {z : Nat → Nat → Int} {k : Nat} (h : Fresh B C w t z k) (hB : B ≤ C) (hC : C ≤ C') (x : Sl)
    (hx : 0 < x.n → ∃ b, x.a = some ⟨b, 0, none⟩ ∧ C ≤ b ∧ b < C' ∧ Own w b (x.n * 3) (intF (z k))) : Fresh B C' w (updS t k x) z (k + 1) := by
  obtain ⟨β, h1, h2⟩ := h
  by_cases hp : 0 < x.n
  · obtain ⟨b, e, hb, hb', ho⟩ := hx hp
    refine ⟨fun g => if g = k then b else β g, fun g hg hn => ?_, fun g h hgh hk hg' hh' => ?_⟩
    · by_cases e2 : g = k
      · subst e2
        rw [updS_same] at hn ⊢
        simp only [if_pos]
        exact ⟨e, by omega, hb', ho⟩
      · rw [updS_other t x e2] at hn ⊢
        simp only [if_neg e2]
        have h3 := h1 g (by omega) hn
        exact ⟨h3.1, h3.2.1, by omega, h3.2.2.2⟩
    · have e2 : g ≠ k := by omega
      rw [updS_other t x e2] at hg'
      simp only [if_neg e2]
      by_cases e3 : h = k
      · subst e3
        simp only [if_pos]
        have := (h1 g (by omega) hg').2.2.1
        omega
      · rw [updS_other t x e3] at hh'
        simp only [if_neg e3]
        exact h2 g h hgh (by omega) hg' hh'
  · refine ⟨β, fun g hg hn => ?_, fun g h hgh hk hg' hh' => ?_⟩
    · by_cases e2 : g = k
      · subst e2; rw [updS_same] at hn; omega
      · rw [updS_other t x e2] at hn ⊢
        have h3 := h1 g (by omega) hn
        exact ⟨h3.1, h3.2.1, by omega, h3.2.2.2⟩
    · have e2 : g ≠ k := by omega
      rw [updS_other t x e2] at hg'
      by_cases e3 : h = k
      · subst e3; rw [updS_same] at hh'; omega
      · rw [updS_other t x e3] at hh'
        exact h2 g h hgh (by omega) hg' hh'
/-- The arena of nothing. -/
def nilS : Nat → Sl := fun _ => ⟨none, 0, 0⟩
/-- Nil has nothing, and no room. -/
def Nilly (t : Nat → Sl) : Prop := ∀ g, ((t g).a = none → (t g).n = 0 ∧ (t g).c = 0) ∧ (t g).n ≤ (t g).c
theorem Nilly.nil : Nilly nilS := fun _ => ⟨fun _ => ⟨rfl, rfl⟩, Nat.le_refl _⟩
theorem Nilly.upd {t : Nat → Sl} (h : Nilly t) (k : Nat) {x : Sl} (hx : (x.a = none → x.n = 0 ∧ x.c = 0) ∧ x.n ≤ x.c) : Nilly (updS t k x) := by
  intro g
  by_cases e : g = k
  · subst e; rw [updS_same]; exact hx
  · rw [updS_other t x e]; exact h g
theorem Nilly.fit {t : Nat → Sl} (h : Nilly t) (hn : ∀ g, g < 4 → (t g).n * 24 ≤ 140737488351232) : Fit t := fun g hg => ⟨hn g hg, (h g).1⟩
/-- What the copying keeps, behind one level more. -/
theorem copy_step {w w1 : World} {s t : Nat → Sl} {z : Nat → Nat → Int} {k N : Nat} {x : Sl} (hk : k < 4) (ht : ∀ g, g < k → (t g).n = (s g).n) (B1 : Blk w1 w.heap.size (arenaL s)) (B2 : Blk w1 (w.heap.size + 1) (arenaL nilS)) (B3 : Blk w1 (w.heap.size + 1 + 1) (arenaL t))
    (hF : Fresh (w.heap.size + 1 + 1 + 1) N w1 t z k) (hN : w.heap.size + 1 + 1 + 1 ≤ N) (hN' : N ≤ w1.heap.size) (hb : Below w.heap.size w w1) (hxn : x.n = (s k).n)
    (hx : 0 < x.n → ∃ b, x.a = some ⟨b, 0, none⟩ ∧ N ≤ b ∧ b < w1.heap.size ∧ Own w1 b (x.n * 3) (intF (z k))) :
    (∀ g, g < k + 1 → (updS t k x g).n = (s g).n) ∧ Blk (w1.setCell ⟨w.heap.size + 1 + 1, k, none⟩ (.slice x.a x.n x.c)) w.heap.size (arenaL s) ∧ Blk (w1.setCell ⟨w.heap.size + 1 + 1, k, none⟩ (.slice x.a x.n x.c)) (w.heap.size + 1) (arenaL nilS) ∧
      Blk (w1.setCell ⟨w.heap.size + 1 + 1, k, none⟩ (.slice x.a x.n x.c)) (w.heap.size + 1 + 1) (arenaL (updS t k x)) ∧
      Fresh (w.heap.size + 1 + 1 + 1) (w1.setCell ⟨w.heap.size + 1 + 1, k, none⟩ (.slice x.a x.n x.c)).heap.size (w1.setCell ⟨w.heap.size + 1 + 1, k, none⟩ (.slice x.a x.n x.c)) (updS t k x) z (k + 1) ∧
      w.heap.size + 1 + 1 + 1 ≤ (w1.setCell ⟨w.heap.size + 1 + 1, k, none⟩ (.slice x.a x.n x.c)).heap.size ∧ Below w.heap.size w (w1.setCell ⟨w.heap.size + 1 + 1, k, none⟩ (.slice x.a x.n x.c)) := by
  refine ⟨fun g hg => ?_, B1.far _ (by simp; omega), B2.far _ (by simp), ?_, ?_, by rw [World.size_setCell]; omega, hb.setCell (by simp; omega) _⟩
  · by_cases e : g = k
    · subst e; rw [updS_same]; exact hxn
    · rw [updS_other t x e]; exact ht g (by omega)
  · rw [← arenaL_set t hk]
    exact B3.set k _
  · rw [World.size_setCell]
    refine (hF.far (a := ⟨w.heap.size + 1 + 1, k, none⟩) (.slice x.a x.n x.c) (.inl (by simp))).more hN hN' x fun hp => ?_
    obtain ⟨b, e, h1, h2, ho⟩ := hx hp
    exact ⟨b, e, h1, h2, ho.far _ (by simp; omega)⟩
set_option maxHeartbeats 1000000 in
theorem copyArena_any (s : Nat → Sl) (z : Nat → Nat → Int) (w : World) (hf : Fit s) (h : Arn w s z) :
    Calls Tryz.prog 17 #[arenaA s] w fun e w' => ∃ t, e = .returned (arenaA t) ∧ (∀ g, g < 4 → (t g).n = (s g).n) ∧ Nilly t ∧ Fresh w.heap.size w'.heap.size w' t z 4 ∧ Below w.heap.size w w' := by
  obtain ⟨i0, hi, hz0, hz1, hz2⟩ := info_parts Tryz.infoWord
  unfold arenaA
  go_enter Tryz.func17, Tryz.ntmps17
  go_wp2
  go_loopw [4] (fun i wr => ∃ (k : Nat) (t : Nat → Sl), k ≤ 4 ∧ i = .int .i64 k ∧ (∀ g, g < k → (t g).n = (s g).n) ∧ Nilly t ∧ Blk wr w.heap.size (arenaL s) ∧ Blk wr (w.heap.size + 1) (arenaL nilS) ∧ Blk wr (w.heap.size + 1 + 1) (arenaL t) ∧ Fresh (w.heap.size + 1 + 1 + 1) wr.heap.size wr t z k ∧ w.heap.size + 1 + 1 + 1 ≤ wr.heap.size ∧ Below w.heap.size w wr) (fun i _ => 4 - (intOf i).toNat)
  case atStart =>
    refine ⟨0, nilS, Nat.zero_le _, rfl, fun _ h => absurd h (Nat.not_lt_zero _), Nilly.nil, ?_, ?_, ?_, Fresh.zero _ _ _ _ _, ?_, by go_grown⟩
    · exact ((blk_new w (arenaL s) 23).alloc _).alloc _
    · have := (blk_new (w.alloc (.cells (arenaL s).toArray 23)) (arenaL nilS) 23).alloc (.cells (arenaL nilS).toArray 23)
      rw [World.size_alloc] at this
      exact this
    · have := blk_new ((w.alloc (.cells (arenaL s).toArray 23)).alloc (.cells (arenaL nilS).toArray 23)) (arenaL nilS) 23
      rw [World.size_alloc, World.size_alloc] at this
      exact this
    · simp only [World.size_alloc]; omega
  case round =>
    obtain ⟨k, t, hk, rfl, ht, hny, B1, B2, B3, hF, hz, hb⟩ := hrel
    have HNY := hide hny
    clear hny
    by_cases hlt : k < 4
    · have i1 : (k : Int) < 4 := by omega
      have c1 := B1.cell k _ (arenaL_get s hlt)
      have d1 := B3.cell k _ (arenaL_get t hlt)
      have f1 := B3.frozen k
      have z2 := B3.lt
      have z1 := B1.lt
      have hr := (h.below hb (Nat.le_refl _)) k hlt
      obtain ⟨hn, ha⟩ := hf k hlt
      clear h hf
      cases hsa : (s k).a with
      | none =>
        obtain ⟨hn0, hc0⟩ := ha hsa
        rw [hsa, hn0, hc0] at c1
        have HT := hide ht
        have HN := hide hn0
        clear ha hr hsa hn0 hc0 ht hn
        go_wp2
        go_roundw
        case rel =>
          have st := copy_step (x := ⟨some ⟨wr.heap.size, 0, none⟩, 0, 0⟩) hlt HT.out B1 B2 B3 hF hz (Nat.le_refl _) hb HN.out.symm (fun h => absurd h (Nat.lt_irrefl 0))
          obtain ⟨s1, s2, s3, s4, s5, s6, s7⟩ := st
          exact ⟨k + 1, _, by omega, by go_num, s1, HNY.out.upd k ⟨fun h => (by cases h), Nat.le_refl _⟩, s2.alloc _, s3.alloc _, s4.alloc _, (s5.alloc _).mono (Nat.le_refl _) (by simp only [World.size_alloc, World.size_setCell]; omega), by simp only [World.size_alloc, World.size_setCell]; omega, s7.alloc (by simp only [World.size_setCell]; omega) _⟩
        case measure => simp [intOf]; omega
      | some ad =>
        rw [hsa] at c1 hr
        have hown : (wr.alloc (.cells #[] 107)).ownsRow wr.heap.size 107 3 (.slice (some ⟨wr.heap.size, 0, none⟩) 0 0) 0 [] := World.ownsRow_made wr #[] 0 (Nat.le_refl _) (by decide) rfl
        have HO := hide hown
        have HR := hide (hr.below ((Below.refl wr.heap.size wr).alloc (Nat.le_refl _) (.cells #[] 107)) (Nat.le_refl _)).news
        have HL := hide (rowL_len (intF (z k)) ((s k).n * 3))
        have H1 := hide (rowL_one (f := intF (z k)) (m := (s k).n * 3) fun _ _ => rfl)
        have HT := hide ht
        clear ha hown hr hsa ht
        go_wp2_with (at_builtin; refine wpList_append_own _ rfl (.tmp 10) (.tmp 13) 22 rfl wr.heap.size 107 i0 (.agg #[.int .i64 0, .int .i64 0, .int .i64 0]) 3 24 Tryz.underlying22 hi hz0 hz1 hz2 rfl (by decide) _ _ _ rfl (unhide HO) ad (s k).n (s k).c (rowL (intF (z k)) ((s k).n * 3)) rfl (unhide HL) (unhide HR) (unhide H1) ?_ ?_ ?_ ?_)
        · unfold maxLen; omega
        · omega
        · simp
        · intro v' w1 hown' hg _
          have hown2 : w1.ownsRow wr.heap.size 107 3 v' (s k).n (rowL (intF (z k)) ((s k).n * 3)) := by simpa using hown'
          have bw : Below wr.heap.size wr w1 := ((Below.refl wr.heap.size wr).alloc (Nat.le_refl _) (.cells #[] 107)).grown hg (by simp) (by intro j hj; simp [Value.ownBlock] at hj; omega)
          obtain ⟨x, rfl, hxn, hxy, hxo⟩ : ∃ x : Sl, v' = .slice x.a x.n x.c ∧ x.n = (s k).n ∧ ((x.a = none → x.n = 0 ∧ x.c = 0) ∧ x.n ≤ x.c) ∧ (0 < x.n → ∃ b, x.a = some ⟨b, 0, none⟩ ∧ wr.heap.size ≤ b ∧ b < w1.heap.size ∧ Own w1 b (x.n * 3) (intF (z k))) := by
            rcases own_of_owns hown2 with ⟨rfl, h0⟩ | ⟨g, cap, rfl, hg1, hcp, _, ho⟩
            · exact ⟨⟨none, 0, 0⟩, rfl, h0.symm, ⟨fun _ => ⟨rfl, rfl⟩, Nat.le_refl _⟩, fun h => absurd h (Nat.lt_irrefl 0)⟩
            · exact ⟨⟨some ⟨g, 0, none⟩, (s k).n, cap⟩, rfl, rfl, ⟨fun h => (by cases h), hcp⟩, fun _ => ⟨g, rfl, hg1, ho.lt, ho⟩⟩
          have B1' := B1.on bw
          have B2' := B2.on bw
          have B3' := B3.on bw
          have hF' := hF.on bw
          have hb' : Below w.heap.size w w1 := Below.on hb bw
          have d2 := B3'.cell k _ (arenaL_get t hlt)
          have f2 := B3'.frozen k
          have z3 := bw.size
          have HX := hide hxo
          have HXN := hide hxn
          have HXY := hide hxy
          have HF := hide hF'
          clear hown' hg hown2 hxo hxn hxy hF' hF B1 B2 B3 hb bw c1 d1 f1 z1 z2 HO HR HL H1
          go_wp2
          go_roundw
          case rel =>
            obtain ⟨s1, s2, s3, s4, s5, s6, s7⟩ := copy_step hlt HT.out B1' B2' B3' HF.out hz z3 hb' HXN.out HX.out
            exact ⟨k + 1, _, by omega, by go_num, s1, HNY.out.upd k HXY.out, s2, s3, s4, s5, s6, s7⟩
          case measure => simp [intOf]; omega
    · obtain rfl : k = 4 := by omega
      obtain ⟨⟨c0, c1, c2, c3⟩, f0, f1, f2, f3⟩ := B3.four
      obtain ⟨⟨d0, d1, d2, d3⟩, g0, g1, g2, g3⟩ := B2.four
      have HT := hide ht
      clear ht h hf
      go_wp2
      refine bodyPost_ret (v := .agg #[.slice (t 0).a (t 0).n (t 0).c, .slice (t 1).a (t 1).n (t 1).c, .slice (t 2).a (t 2).n (t 2).c, .slice (t 3).a (t 3).n (t 3).c]) (by simp [results, Tryz.results17, go_sem, d0, d1, d2, d3]) rfl ⟨t, rfl, HT.out, HNY.out, ?_, by go_grown⟩
      simp only [World.size_setCell]
      exact ((((hF.far _ (.inl (by simp))).far _ (.inl (by simp))).far _ (.inl (by simp))).far _ (.inl (by simp))).mono (by omega) (Nat.le_refl _)
set_option maxHeartbeats 1000000 in
theorem rcopyArena_any (s : Nat → Sl) (z : Nat → Nat → Int) (w : World) (hf : Fit s) (h : Arn w s z) :
    Calls Tryz.prog 48 #[arenaA s] w fun e w' => ∃ t, e = .returned (arenaA t) ∧ (∀ g, g < 4 → (t g).n = (s g).n) ∧ Nilly t ∧ Fresh w.heap.size w'.heap.size w' t z 4 ∧ Below w.heap.size w w' := by
  obtain ⟨i0, hi, hz0, hz1, hz2⟩ := info_parts Tryz.infoWord
  unfold arenaA
  go_enter Tryz.func48, Tryz.ntmps48
  go_wp2
  go_loopw [4] (fun i wr => ∃ (k : Nat) (t : Nat → Sl), k ≤ 4 ∧ i = .int .i64 k ∧ (∀ g, g < k → (t g).n = (s g).n) ∧ Nilly t ∧ Blk wr w.heap.size (arenaL s) ∧ Blk wr (w.heap.size + 1) (arenaL nilS) ∧ Blk wr (w.heap.size + 1 + 1) (arenaL t) ∧ Fresh (w.heap.size + 1 + 1 + 1) wr.heap.size wr t z k ∧ w.heap.size + 1 + 1 + 1 ≤ wr.heap.size ∧ Below w.heap.size w wr) (fun i _ => 4 - (intOf i).toNat)
  case atStart =>
    refine ⟨0, nilS, Nat.zero_le _, rfl, fun _ h => absurd h (Nat.not_lt_zero _), Nilly.nil, ?_, ?_, ?_, Fresh.zero _ _ _ _ _, ?_, by go_grown⟩
    · exact ((blk_new w (arenaL s) 23).alloc _).alloc _
    · have := (blk_new (w.alloc (.cells (arenaL s).toArray 23)) (arenaL nilS) 23).alloc (.cells (arenaL nilS).toArray 23)
      rw [World.size_alloc] at this
      exact this
    · have := blk_new ((w.alloc (.cells (arenaL s).toArray 23)).alloc (.cells (arenaL nilS).toArray 23)) (arenaL nilS) 23
      rw [World.size_alloc, World.size_alloc] at this
      exact this
    · simp only [World.size_alloc]; omega
  case round =>
    obtain ⟨k, t, hk, rfl, ht, hny, B1, B2, B3, hF, hz, hb⟩ := hrel
    have HNY := hide hny
    clear hny
    by_cases hlt : k < 4
    · have i1 : (k : Int) < 4 := by omega
      have c1 := B1.cell k _ (arenaL_get s hlt)
      have d1 := B3.cell k _ (arenaL_get t hlt)
      have f1 := B3.frozen k
      have z2 := B3.lt
      have z1 := B1.lt
      have hr := (h.below hb (Nat.le_refl _)) k hlt
      obtain ⟨hn, ha⟩ := hf k hlt
      clear h hf
      cases hsa : (s k).a with
      | none =>
        obtain ⟨hn0, hc0⟩ := ha hsa
        rw [hsa, hn0, hc0] at c1
        have HT := hide ht
        have HN := hide hn0
        clear ha hr hsa hn0 hc0 ht hn
        go_wp2
        go_roundw
        case rel =>
          have st := copy_step (x := ⟨some ⟨wr.heap.size, 0, none⟩, 0, 0⟩) hlt HT.out B1 B2 B3 hF hz (Nat.le_refl _) hb HN.out.symm (fun h => absurd h (Nat.lt_irrefl 0))
          obtain ⟨s1, s2, s3, s4, s5, s6, s7⟩ := st
          exact ⟨k + 1, _, by omega, by go_num, s1, HNY.out.upd k ⟨fun h => (by cases h), Nat.le_refl _⟩, s2.alloc _, s3.alloc _, s4.alloc _, (s5.alloc _).mono (Nat.le_refl _) (by simp only [World.size_alloc, World.size_setCell]; omega), by simp only [World.size_alloc, World.size_setCell]; omega, s7.alloc (by simp only [World.size_setCell]; omega) _⟩
        case measure => simp [intOf]; omega
      | some ad =>
        rw [hsa] at c1 hr
        have hown : (wr.alloc (.cells #[] 107)).ownsRow wr.heap.size 107 3 (.slice (some ⟨wr.heap.size, 0, none⟩) 0 0) 0 [] := World.ownsRow_made wr #[] 0 (Nat.le_refl _) (by decide) rfl
        have HO := hide hown
        have HR := hide (hr.below ((Below.refl wr.heap.size wr).alloc (Nat.le_refl _) (.cells #[] 107)) (Nat.le_refl _)).news
        have HL := hide (rowL_len (intF (z k)) ((s k).n * 3))
        have H1 := hide (rowL_one (f := intF (z k)) (m := (s k).n * 3) fun _ _ => rfl)
        have HT := hide ht
        clear ha hown hr hsa ht
        go_wp2_with (at_builtin; refine wpList_append_own _ rfl (.tmp 10) (.tmp 13) 22 rfl wr.heap.size 107 i0 (.agg #[.int .i64 0, .int .i64 0, .int .i64 0]) 3 24 Tryz.underlying22 hi hz0 hz1 hz2 rfl (by decide) _ _ _ rfl (unhide HO) ad (s k).n (s k).c (rowL (intF (z k)) ((s k).n * 3)) rfl (unhide HL) (unhide HR) (unhide H1) ?_ ?_ ?_ ?_)
        · unfold maxLen; omega
        · omega
        · simp
        · intro v' w1 hown' hg _
          have hown2 : w1.ownsRow wr.heap.size 107 3 v' (s k).n (rowL (intF (z k)) ((s k).n * 3)) := by simpa using hown'
          have bw : Below wr.heap.size wr w1 := ((Below.refl wr.heap.size wr).alloc (Nat.le_refl _) (.cells #[] 107)).grown hg (by simp) (by intro j hj; simp [Value.ownBlock] at hj; omega)
          obtain ⟨x, rfl, hxn, hxy, hxo⟩ : ∃ x : Sl, v' = .slice x.a x.n x.c ∧ x.n = (s k).n ∧ ((x.a = none → x.n = 0 ∧ x.c = 0) ∧ x.n ≤ x.c) ∧ (0 < x.n → ∃ b, x.a = some ⟨b, 0, none⟩ ∧ wr.heap.size ≤ b ∧ b < w1.heap.size ∧ Own w1 b (x.n * 3) (intF (z k))) := by
            rcases own_of_owns hown2 with ⟨rfl, h0⟩ | ⟨g, cap, rfl, hg1, hcp, _, ho⟩
            · exact ⟨⟨none, 0, 0⟩, rfl, h0.symm, ⟨fun _ => ⟨rfl, rfl⟩, Nat.le_refl _⟩, fun h => absurd h (Nat.lt_irrefl 0)⟩
            · exact ⟨⟨some ⟨g, 0, none⟩, (s k).n, cap⟩, rfl, rfl, ⟨fun h => (by cases h), hcp⟩, fun _ => ⟨g, rfl, hg1, ho.lt, ho⟩⟩
          have B1' := B1.on bw
          have B2' := B2.on bw
          have B3' := B3.on bw
          have hF' := hF.on bw
          have hb' : Below w.heap.size w w1 := Below.on hb bw
          have d2 := B3'.cell k _ (arenaL_get t hlt)
          have f2 := B3'.frozen k
          have z3 := bw.size
          have HX := hide hxo
          have HXN := hide hxn
          have HXY := hide hxy
          have HF := hide hF'
          clear hown' hg hown2 hxo hxn hxy hF' hF B1 B2 B3 hb bw c1 d1 f1 z1 z2 HO HR HL H1
          go_wp2
          go_roundw
          case rel =>
            obtain ⟨s1, s2, s3, s4, s5, s6, s7⟩ := copy_step hlt HT.out B1' B2' B3' HF.out hz z3 hb' HXN.out HX.out
            exact ⟨k + 1, _, by omega, by go_num, s1, HNY.out.upd k HXY.out, s2, s3, s4, s5, s6, s7⟩
          case measure => simp [intOf]; omega
    · obtain rfl : k = 4 := by omega
      obtain ⟨⟨c0, c1, c2, c3⟩, f0, f1, f2, f3⟩ := B3.four
      obtain ⟨⟨d0, d1, d2, d3⟩, g0, g1, g2, g3⟩ := B2.four
      have HT := hide ht
      clear ht h hf
      go_wp2
      refine bodyPost_ret (v := .agg #[.slice (t 0).a (t 0).n (t 0).c, .slice (t 1).a (t 1).n (t 1).c, .slice (t 2).a (t 2).n (t 2).c, .slice (t 3).a (t 3).n (t 3).c]) (by simp [results, Tryz.results48, go_sem, d0, d1, d2, d3]) rfl ⟨t, rfl, HT.out, HNY.out, ?_, by go_grown⟩
      simp only [World.size_setCell]
      exact ((((hF.far _ (.inl (by simp))).far _ (.inl (by simp))).far _ (.inl (by simp))).far _ (.inl (by simp))).mono (by omega) (Nat.le_refl _)
end Go.Proofs.YtnjognmnbpcaaaaGreat
namespace Go.Proofs.YtnjognmnbpcaaaaGreat
open Go.RowKit
set_option linter.unusedSimpArgs false
theorem Fresh.nil (B C : Nat) (w : World) (z : Nat → Nat → Int) (k : Nat) : Fresh B C w nilS z k := ⟨fun _ => 0, fun _ _ h => absurd h (Nat.lt_irrefl 0), fun _ _ _ _ h => absurd h (Nat.lt_irrefl 0)⟩
end Go.Proofs.YtnjognmnbpcaaaaGreat
namespace Go.Proofs.YtnjognmnbpcaaaaGreat
open Go.RowKit
/-- Is it so of the first k? -/
def allTo (p : Nat → Bool) : Nat → Bool
  | 0 => true
  | k + 1 => allTo p k && p k
theorem allTo_get {p : Nat → Bool} : ∀ {n : Nat}, allTo p n = true → ∀ i, i < n → p i = true
  | 0, _, i, hi => absurd hi (Nat.not_lt_zero _)
  | n + 1, h, i, hi => by
    simp only [allTo, Bool.and_eq_true] at h
    by_cases e : i = n
    · subst e; exact h.2
    · exact allTo_get h.1 i (by omega)
theorem allTo_mk {p : Nat → Bool} : ∀ {n : Nat}, (∀ i, i < n → p i = true) → allTo p n = true
  | 0, _ => rfl
  | n + 1, h => by rw [allTo, allTo_mk fun i hi => h i (by omega), h n (by omega)]; rfl
theorem allTo_no {p : Nat → Bool} {n : Nat} (i : Nat) (hi : i < n) (h : p i = false) : allTo p n = false := by
  cases e : allTo p n with
  | false => rfl
  | true => rw [allTo_get e i hi] at h; cases h
theorem allTo_ex {p : Nat → Bool} : ∀ {n : Nat}, allTo p n = false → ∃ i, i < n ∧ p i = false
  | 0, h => by cases h
  | n + 1, h => by
    cases e : p n
    · exact ⟨n, by omega, e⟩
    · rw [allTo, e, Bool.and_true] at h
      obtain ⟨i, hi, hp⟩ := allTo_ex h
      exact ⟨i, by omega, hp⟩
theorem allTo_congr {p q : Nat → Bool} : ∀ {n : Nat}, (∀ i, i < n → p i = q i) → allTo p n = allTo q n
  | 0, _ => rfl
  | n + 1, h => by rw [allTo, allTo, allTo_congr fun i hi => h i (by omega), h n (by omega)]
theorem allTo_and (p q : Nat → Bool) : ∀ n, allTo (fun i => p i && q i) n = (allTo p n && allTo q n)
  | 0 => rfl
  | n + 1 => by
    rw [allTo, allTo, allTo, allTo_and p q n]
    cases allTo p n <;> cases allTo q n <;> cases p n <;> cases q n <;> rfl
/-- Is the j-th of that word? (Three numbers each: a level, an index, and one more.) -/
def isWord (z : Nat → Int) (l i : Int) (j : Nat) : Bool := (z (j * 3) == l) && (z (j * 3 + 1) == i)
/-- Is none of the first k of that word? -/
def noneTo (z : Nat → Int) (l i : Int) (k : Nat) : Bool := allTo (fun j => !isWord z l i j) k
section
variable {z x : Nat → Int} {m n : Nat}
end
end Go.Proofs.YtnjognmnbpcaaaaGreat
namespace Go.Proofs.YtnjognmnbpcaaaaGreat
open Go.RowKit
/-- May it be a write, alone? -/
def writeMay (l i v : Int) : Bool := upToV l 3 && upToV i 3 && upToV v 255
theorem writeMay_yes {l i v : Int} (h : writeMay l i v = true) : (0 ≤ l ∧ l ≤ 3) ∧ (0 ≤ i ∧ i ≤ 3) ∧ 0 ≤ v ∧ v ≤ 255 := by
  simp only [writeMay, Bool.and_eq_true] at h
  exact ⟨upToV_yes h.1.1, upToV_yes h.1.2, upToV_yes h.2⟩
theorem writeMay_of {l i v : Int} (h : (0 ≤ l ∧ l ≤ 3) ∧ (0 ≤ i ∧ i ≤ 3) ∧ 0 ≤ v ∧ v ≤ 255) : writeMay l i v = true := by
  rw [writeMay, upToV_of h.1.1 h.1.2, upToV_of h.2.1.1 h.2.1.2, upToV_of h.2.2.1 h.2.2.2]; rfl
/-- Where the k-th one's word stands in the row of words. -/
def wkey (z : Nat → Int) (k : Nat) : Int := 4 * z (k * 3) + z (k * 3 + 1)
def aloneW (z : Nat → Int) (k : Nat) : Bool := writeMay (z (k * 3)) (z (k * 3 + 1)) (z (k * 3 + 2))
/-- Does the k-th stand behind the one ahead of it? -/
def riseW (z : Nat → Int) (k : Nat) : Bool := decide (k = 0) || decide (wkey z (k - 1) < wkey z k)
/-- May they be? -/
def writesMay (n : Nat) (z : Nat → Int) : Bool := allTo (aloneW z) n && allTo (riseW z) n && decide (n ≤ 16)
/-- Is the j-th ahead of that word? By Level, of one Level by Index. -/
def ltW (z : Nat → Int) (l i : Int) (j : Nat) : Bool := decide (z (j * 3) < l) || (decide (z (j * 3) = l) && decide (z (j * 3 + 1) < i))
/-- Are all ahead of the k-th ahead of its word? -/
def aheadW (z : Nat → Int) (k : Nat) : Bool := allTo (ltW z (z (k * 3)) (z (k * 3 + 1))) k
/-- Three numbers that may be, for each; they rise; at most sixteen. -/
structure Wr (n : Nat) (z : Nat → Int) : Prop where
  alone : ∀ k, k < n → (0 ≤ z (k * 3) ∧ z (k * 3) ≤ 3) ∧ (0 ≤ z (k * 3 + 1) ∧ z (k * 3 + 1) ≤ 3) ∧ 0 ≤ z (k * 3 + 2) ∧ z (k * 3 + 2) ≤ 255
  rise : ∀ j k, j < k → k < n → wkey z j < wkey z k
  few : n ≤ 16
theorem rise_all {z : Nat → Int} {n : Nat} (h : allTo (riseW z) n = true) : ∀ k, k < n → ∀ j, j < k → wkey z j < wkey z k
  | 0, _, j, hj => absurd hj (Nat.not_lt_zero _)
  | k + 1, hk, j, hj => by
    have h1 := allTo_get h (k + 1) hk
    simp only [riseW, Bool.or_eq_true, decide_eq_true_eq, Nat.add_sub_cancel] at h1
    have h1 : wkey z k < wkey z (k + 1) := by rcases h1 with h1 | h1 <;> omega
    by_cases e : j = k
    · subst e; exact h1
    · have := rise_all h k (by omega) j (by omega)
      omega
theorem writesMay_get {n : Nat} {z : Nat → Int} (h : writesMay n z = true) : Wr n z := by
  simp only [writesMay, Bool.and_eq_true, decide_eq_true_eq] at h
  exact ⟨fun k hk => writeMay_yes (allTo_get h.1.1 k hk), fun j k hjk hk => rise_all h.1.2 k hk j hjk, h.2⟩
theorem Wr.may {n : Nat} {z : Nat → Int} (h : Wr n z) : writesMay n z = true := by
  rw [writesMay, allTo_mk (p := aloneW z) fun k hk => writeMay_of (h.alone k hk), allTo_mk (p := riseW z) fun k hk => ?_, decide_eq_true h.few]
  · rfl
  · unfold riseW
    cases k with
    | zero => rfl
    | succ k => rw [Nat.add_sub_cancel, decide_eq_true (h.rise k (k + 1) (by omega) hk), Bool.or_true]
theorem writesMay_alones {n : Nat} {z : Nat → Int} (h : allTo (aloneW z) n = false) : writesMay n z = false := by rw [writesMay, h]; rfl
theorem writesMay_alone {n : Nat} {z : Nat → Int} (k : Nat) (hk : k < n) (h : aloneW z k = false) : writesMay n z = false := writesMay_alones (allTo_no k hk h)
theorem writesMay_rise {n : Nat} {z : Nat → Int} (k : Nat) (hk : k < n) (h : riseW z k = false) : writesMay n z = false := by rw [writesMay, allTo_no k hk h, Bool.and_false, Bool.false_and]
theorem writesMay_long {n : Nat} {z : Nat → Int} (h : 16 < n) : writesMay n z = false := by rw [writesMay, decide_eq_false (by omega), Bool.and_false]
theorem ltW_iff {z : Nat → Int} {l i : Int} {j : Nat} : ltW z l i j = true ↔ z (j * 3) < l ∨ z (j * 3) = l ∧ z (j * 3 + 1) < i := by
  simp only [ltW, Bool.or_eq_true, Bool.and_eq_true, decide_eq_true_eq]
/-- Where the numbers may be, a word is ahead of another just if it stands so in the row of words. -/
theorem ltW_key {z : Nat → Int} {l i : Int} {j : Nat} (h : (0 ≤ z (j * 3) ∧ z (j * 3) ≤ 3) ∧ 0 ≤ z (j * 3 + 1) ∧ z (j * 3 + 1) ≤ 3) (h' : 0 ≤ i ∧ i ≤ 3) : ltW z l i j = true ↔ wkey z j < 4 * l + i := by
  rw [ltW_iff, wkey]
  omega
theorem writesMay_ahead {n : Nat} {z : Nat → Int} (h : allTo (aloneW z) n = true) (h' : allTo (aheadW z) n = true) (hn : n ≤ 16) : writesMay n z = true := by
  have ha := fun k hk => writeMay_yes (allTo_get h k hk)
  refine Wr.may ⟨ha, fun j k hjk hk => ?_, hn⟩
  exact (ltW_key ⟨(ha j (by omega)).1, (ha j (by omega)).2.1⟩ (ha k hk).2.1).1 (allTo_get (allTo_get h' k hk) j hjk)
theorem writesMay_not_ahead {n : Nat} {z : Nat → Int} (k : Nat) (hk : k < n) (h : aheadW z k = false) : writesMay n z = false := by
  cases e : writesMay n z with
  | false => rfl
  | true =>
    have H := writesMay_get e
    have : aheadW z k = true := allTo_mk fun j hj => (ltW_key ⟨(H.alone j (by omega)).1, (H.alone j (by omega)).2.1⟩ (H.alone k hk).2.1).2 (H.rise j k hj hk)
    rw [this] at h; cases h
/-- How many, from the first on, is it so of? -/
def lead (p : Nat → Bool) : Nat → Nat
  | 0 => 0
  | k + 1 => bif allTo p (k + 1) then k + 1 else lead p k
theorem lead_le (p : Nat → Bool) : ∀ n, lead p n ≤ n
  | 0 => Nat.le_refl _
  | n + 1 => by
    rw [lead]
    have := lead_le p n
    cases allTo p (n + 1) <;> simp only [cond_true, cond_false] <;> omega
theorem lead_all (p : Nat → Bool) : ∀ n, allTo p (lead p n) = true
  | 0 => rfl
  | n + 1 => by
    rw [lead]
    cases e : allTo p (n + 1)
    · exact lead_all p n
    · exact e
theorem lead_is {p : Nat → Bool} {k : Nat} (h : allTo p k = true) : ∀ {n : Nat}, k ≤ n → (k < n → p k = false) → lead p n = k
  | 0, hk, _ => by rw [lead]; omega
  | n + 1, hk, hp => by
    rw [lead]
    by_cases e : k = n + 1
    · subst e; rw [h]; rfl
    · rw [allTo_no k (by omega) (hp (by omega)), cond_false, lead_is h (n := n) (by omega) fun h => hp (by omega)]
theorem lead_no {p : Nat → Bool} : ∀ {n : Nat}, lead p n < n → p (lead p n) = false
  | 0, h => absurd h (Nat.not_lt_zero _)
  | n + 1, h => by
    rw [lead] at h ⊢
    cases e : allTo p (n + 1)
    · rw [e, cond_false] at h
      rw [cond_false]
      by_cases h' : lead p n < n
      · exact lead_no h'
      · have h2 := lead_le p n
        have h3 : lead p n = n := by omega
        have h4 := lead_all p n
        rw [h3] at h4 ⊢
        rw [allTo, h4, Bool.true_and] at e
        exact e
    · rw [e, cond_true] at h; omega
/-- How many are ahead of that word. -/
def posW (n : Nat) (z : Nat → Int) (l i : Int) : Nat := lead (ltW z l i) n
/-- Is there one of that word? -/
def hasW (n : Nat) (z : Nat → Int) (l i : Int) : Bool := !noneTo z l i n
/-- From where on they are behind that word. -/
def toW (n : Nat) (z : Nat → Int) (l i : Int) : Nat := bif hasW n z l i then posW n z l i + 1 else posW n z l i
theorem posW_le (n : Nat) (z : Nat → Int) (l i : Int) : posW n z l i ≤ n := lead_le _ _
theorem isWord_iff {z : Nat → Int} {l i : Int} {j : Nat} : isWord z l i j = true ↔ z (j * 3) = l ∧ z (j * 3 + 1) = i := by
  simp only [isWord, Bool.and_eq_true, beq_iff_eq]
theorem hasW_iff {n : Nat} {z : Nat → Int} {l i : Int} : hasW n z l i = true ↔ ∃ k, k < n ∧ z (k * 3) = l ∧ z (k * 3 + 1) = i := by
  unfold hasW noneTo
  constructor
  · intro h
    rw [Bool.not_eq_true'] at h
    obtain ⟨k, hk, h⟩ := allTo_ex h
    rw [Bool.not_eq_false'] at h
    exact ⟨k, hk, isWord_iff.1 h⟩
  · rintro ⟨k, hk, h⟩
    rw [allTo_no k hk (by rw [isWord_iff.2 h]; rfl)]
    rfl
theorem hasW_no {n : Nat} {z : Nat → Int} {l i : Int} (h : hasW n z l i = false) (k : Nat) (hk : k < n) : ¬ (z (k * 3) = l ∧ z (k * 3 + 1) = i) := fun e => by
  rw [hasW_iff.2 ⟨k, hk, e⟩] at h; cases h
/-- The one of a word stands behind those that are ahead of it. -/
theorem Wr.pos {n : Nat} {z : Nat → Int} (H : Wr n z) {l i : Int} {k : Nat} (hk : k < n) (h : z (k * 3) = l ∧ z (k * 3 + 1) = i) : posW n z l i = k := by
  refine lead_is (allTo_mk fun j hj => ?_) (by omega) fun _ => ?_
  · have h1 := H.rise j k hj hk
    have h2 := H.alone k hk
    have h3 := H.alone j (by omega)
    rw [h.1, h.2] at h2
    rw [ltW_key ⟨h3.1, h3.2.1⟩ h2.2.1, ← h.1, ← h.2]
    exact h1
  · cases e : ltW z l i k with
    | false => rfl
    | true => rw [ltW_iff] at e; omega
theorem Wr.has {n : Nat} {z : Nat → Int} (H : Wr n z) {l i : Int} (h : hasW n z l i = true) : posW n z l i < n ∧ z (posW n z l i * 3) = l ∧ z (posW n z l i * 3 + 1) = i := by
  obtain ⟨k, hk, e⟩ := hasW_iff.1 h
  rw [H.pos hk e]
  exact ⟨hk, e⟩
theorem toW_le {n : Nat} {z : Nat → Int} {l i : Int} (H : Wr n z) : toW n z l i ≤ n := by
  unfold toW
  cases e : hasW n z l i
  · exact posW_le _ _ _ _
  · have := (H.has e).1
    rw [cond_true]
    omega
/-- The writes with one more: p ahead of it, those from t on behind it. -/
def insW (p t : Nat) (z : Nat → Int) (l i v : Int) (j : Nat) : Int :=
  if j < p * 3 then z j else if j = p * 3 then l else if j = p * 3 + 1 then i else if j = p * 3 + 2 then v else z (t * 3 + (j - (p + 1) * 3))
theorem insW_ahead {p t : Nat} {z : Nat → Int} {l i v : Int} {j : Nat} (h : j < p * 3) : insW p t z l i v j = z j := by unfold insW; rw [if_pos h]
theorem insW_at (p t : Nat) (z : Nat → Int) (l i v : Int) : insW p t z l i v (p * 3) = l ∧ insW p t z l i v (p * 3 + 1) = i ∧ insW p t z l i v (p * 3 + 2) = v := by
  unfold insW
  refine ⟨?_, ?_, ?_⟩
  · rw [if_neg (by omega), if_pos rfl]
  · rw [if_neg (by omega), if_neg (by omega), if_pos rfl]
  · rw [if_neg (by omega), if_neg (by omega), if_neg (by omega), if_pos rfl]
theorem insW_behind {p t : Nat} {z : Nat → Int} {l i v : Int} (j : Nat) : insW p t z l i v ((p + 1) * 3 + j) = z (t * 3 + j) := by
  unfold insW
  rw [if_neg (by omega), if_neg (by omega), if_neg (by omega), if_neg (by omega), Nat.add_sub_cancel_left]
/-- One of them: one that was ahead, the new one, or one that was behind. -/
theorem insW_one {p t : Nat} {z : Nat → Int} {l i v : Int} (k : Nat) :
    (k < p → ∀ o, o < 3 → insW p t z l i v (k * 3 + o) = z (k * 3 + o)) ∧ (p < k → ∀ o, o < 3 → insW p t z l i v (k * 3 + o) = z ((t + (k - (p + 1))) * 3 + o)) := by
  constructor
  · intro h o ho
    exact insW_ahead (by omega)
  · intro h o ho
    have := insW_behind (p := p) (t := t) (z := z) (l := l) (i := i) (v := v) ((k - (p + 1)) * 3 + o)
    rw [show (p + 1) * 3 + ((k - (p + 1)) * 3 + o) = k * 3 + o by omega] at this
    rw [this]
    congr 1
    omega
def withWOk (n : Nat) (z : Nat → Int) (l i v : Int) : Bool := writesMay n z && writeMay l i v
def withWE (n : Nat) (z : Nat → Int) (l i v : Int) : Int := bif withWOk n z l i v then 0 else 1000
/-- How many they are then. -/
def withWN (n : Nat) (z : Nat → Int) (l i v : Int) : Nat := bif withWOk n z l i v then posW n z l i + 1 + (n - toW n z l i) else 0
def withWZ (n : Nat) (z : Nat → Int) (l i v : Int) : Nat → Int := insW (posW n z l i) (toW n z l i) z l i v
theorem withWOk_mk {n : Nat} {z : Nat → Int} {l i v : Int} (h : writesMay n z = true) (h' : writeMay l i v = true) : withWOk n z l i v = true := by rw [withWOk, h, h']; rfl
theorem withWOk_writes {n : Nat} {z : Nat → Int} {l i v : Int} (h : writesMay n z = false) : withWOk n z l i v = false := by rw [withWOk, h]; rfl
theorem withWOk_write {n : Nat} {z : Nat → Int} {l i v : Int} (h : writeMay l i v = false) : withWOk n z l i v = false := by rw [withWOk, h, Bool.and_false]
/-- Where a rising row's numbers stand. -/
theorem Wr.low {n : Nat} {z : Nat → Int} (H : Wr n z) : ∀ k, k < n → (k : Int) ≤ wkey z k
  | 0, hk => by have := H.alone 0 hk; unfold wkey; omega
  | k + 1, hk => by
    have h1 := H.low k (by omega)
    have h2 := H.rise k (k + 1) (by omega) hk
    omega
theorem Wr.high {n : Nat} {z : Nat → Int} (H : Wr n z) : ∀ d k, k < n → n - 1 - k = d → wkey z k + d ≤ 15
  | 0, k, hk, _ => by have := H.alone k hk; unfold wkey; omega
  | d + 1, k, hk, hd => by
    have h1 := H.high d (k + 1) (by omega) (by omega)
    have h2 := H.rise k (k + 1) (by omega) (by omega)
    omega
section
variable {n : Nat} {z : Nat → Int} {l i v : Int}
/-- Those ahead are ahead, those from t on are behind. -/
theorem Wr.parts (H : Wr n z) (hm : writeMay l i v = true) : (∀ k, k < posW n z l i → wkey z k < 4 * l + i) ∧ (∀ k, toW n z l i ≤ k → k < n → 4 * l + i < wkey z k) := by
  obtain ⟨hl, hi, _⟩ := writeMay_yes hm
  have hle := posW_le n z l i
  constructor
  · intro k hk
    have h3 := H.alone k (by omega)
    exact (ltW_key ⟨h3.1, h3.2.1⟩ hi).1 (allTo_get (lead_all (ltW z l i) n) k hk)
  · intro k hk hkn
    cases e : hasW n z l i
    · unfold toW at hk
      rw [e, cond_false] at hk
      have hp : posW n z l i < n := by omega
      have h0 : ¬ wkey z (posW n z l i) < 4 * l + i := by
        have h3 := H.alone _ hp
        rw [← ltW_key ⟨h3.1, h3.2.1⟩ hi]
        rw [show ltW z l i (posW n z l i) = false from lead_no hp]
        simp
      have h1 := hasW_no e k hkn
      have h3 := H.alone k hkn
      have h2 : wkey z (posW n z l i) ≤ wkey z k := by
        by_cases ek : posW n z l i = k
        · rw [ek]; omega
        · have := H.rise (posW n z l i) k (by omega) hkn
          omega
      have h4 : ¬ wkey z k = 4 * l + i := by unfold wkey; omega
      omega
    · obtain ⟨h1, h2, h3⟩ := H.has e
      unfold toW at hk
      rw [e, cond_true] at hk
      have := H.rise _ k (show posW n z l i < k by omega) hkn
      unfold wkey at this ⊢
      rw [h2, h3] at this
      omega
theorem insW_keys (p t : Nat) (z : Nat → Int) (l i v : Int) (k : Nat) :
    (k < p → wkey (insW p t z l i v) k = wkey z k) ∧ (k = p → wkey (insW p t z l i v) k = 4 * l + i) ∧ (p < k → wkey (insW p t z l i v) k = wkey z (t + (k - (p + 1)))) := by
  unfold wkey
  refine ⟨fun h => ?_, fun h => ?_, fun h => ?_⟩
  · rw [show k * 3 = k * 3 + 0 from rfl, (insW_one k).1 h 0 (by omega), (insW_one k).1 h 1 (by omega)]
  · subst h
    rw [(insW_at _ _ _ _ _ _).1, (insW_at _ _ _ _ _ _).2.1]
  · have h0 := (insW_one (t := t) (z := z) (l := l) (i := i) (v := v) k).2 h 0 (by omega)
    simp only [Nat.add_zero] at h0
    rw [h0, (insW_one k).2 h 1 (by omega)]
/-- With one more they may be. -/
theorem Wr.ins (H : Wr n z) (hm : writeMay l i v = true) : Wr (posW n z l i + 1 + (n - toW n z l i)) (withWZ n z l i v) := by
  obtain ⟨ha, hb⟩ := H.parts hm
  obtain ⟨hl, hi, hv⟩ := writeMay_yes hm
  have hp := posW_le n z l i
  have ht := toW_le (l := l) (i := i) H
  have hpt : posW n z l i ≤ toW n z l i := by unfold toW; cases hasW n z l i <;> simp only [cond_true, cond_false] <;> omega
  have hlow : (posW n z l i : Int) ≤ 4 * l + i := by
    by_cases h0 : posW n z l i = 0
    · omega
    · have h1 := ha (posW n z l i - 1) (by omega)
      have h2 := H.low (posW n z l i - 1) (by omega)
      omega
  have hhigh : 4 * l + i + (n - toW n z l i : Nat) ≤ 15 := by
    by_cases h0 : toW n z l i = n
    · omega
    · have h1 := hb (toW n z l i) (by omega) (by omega)
      have h2 := H.high _ (toW n z l i) (by omega) rfl
      omega
  unfold withWZ
  generalize posW n z l i = p, toW n z l i = t at *
  refine ⟨fun k hk => ?_, fun j k hjk hk => ?_, by omega⟩
  · obtain ⟨e1, e2⟩ := insW_one (p := p) (t := t) (z := z) (l := l) (i := i) (v := v) k
    by_cases h1 : k < p
    · rw [show k * 3 = k * 3 + 0 from rfl, e1 h1 0 (by omega), e1 h1 1 (by omega), e1 h1 2 (by omega)]
      exact H.alone k (by omega)
    · by_cases h2 : p < k
      · rw [show k * 3 = k * 3 + 0 from rfl, e2 h2 0 (by omega), e2 h2 1 (by omega), e2 h2 2 (by omega)]
        exact H.alone (t + (k - (p + 1))) (by omega)
      · obtain rfl : k = p := by omega
        rw [(insW_at _ _ _ _ _ _).1, (insW_at _ _ _ _ _ _).2.1, (insW_at _ _ _ _ _ _).2.2]
        exact ⟨hl, hi, hv⟩
  · obtain ⟨j1, j2, j3⟩ := insW_keys p t z l i v j
    obtain ⟨k1, k2, k3⟩ := insW_keys p t z l i v k
    by_cases h1 : k < p
    · rw [k1 h1, j1 (by omega)]
      exact H.rise j k hjk (by omega)
    · by_cases h2 : p < k
      · rw [k3 h2]
        have hk' : t + (k - (p + 1)) < n := by omega
        by_cases h3 : j < p
        · rw [j1 h3]
          exact H.rise _ _ (by omega) hk'
        · by_cases h4 : p < j
          · rw [j3 h4]
            exact H.rise _ _ (by omega) hk'
          · rw [j2 (by omega)]
            exact hb _ (by omega) hk'
      · rw [k2 (by omega), j1 (by omega)]
        exact ha j (by omega)
end
/-- Is there a write of that word, with that value? -/
def InW (n : Nat) (z : Nat → Int) (l i v : Int) : Prop := ∃ k, k < n ∧ z (k * 3) = l ∧ z (k * 3 + 1) = i ∧ z (k * 3 + 2) = v
theorem InW.has {n : Nat} {z : Nat → Int} {l i v : Int} (h : InW n z l i v) : hasW n z l i = true := by
  obtain ⟨k, hk, h0, h1, _⟩ := h
  exact hasW_iff.2 ⟨k, hk, h0, h1⟩
theorem Wr.val {n : Nat} {z : Nat → Int} (H : Wr n z) {l i v : Int} (h : InW n z l i v) : z (posW n z l i * 3 + 2) = v := by
  obtain ⟨k, hk, h0, h1, h2⟩ := h
  rw [H.pos hk ⟨h0, h1⟩, h2]
/-- Find's answers. -/
def findIs (n : Nat) (z : Nat → Int) (l i : Int) : Bool := writesMay n z && hasW n z l i
def findVal (n : Nat) (z : Nat → Int) (l i : Int) : Int := bif findIs n z l i then z (posW n z l i * 3 + 2) else 0
theorem find_no {n : Nat} {z : Nat → Int} {l i : Int} (h : findIs n z l i = false) : findVal n z l i = 0 := by unfold findVal; rw [h]; rfl
theorem find_in {n : Nat} {z : Nat → Int} {l i v : Int} (H : Wr n z) (h : InW n z l i v) : findIs n z l i = true ∧ findVal n z l i = v := by
  have e : findIs n z l i = true := by rw [findIs, H.may, h.has]; rfl
  exact ⟨e, by unfold findVal; rw [e, cond_true, H.val h]⟩
/-- At's answer. -/
def atLv (z : Nat → Int) (l : Int) (k : Nat) : Bool := z (k * 3) == l
def atW (n : Nat) (z : Nat → Int) (l : Int) : Bool := writesMay n z && allTo (atLv z l) n
section
variable {z x : Nat → Int} {n : Nat}
end
end Go.Proofs.YtnjognmnbpcaaaaGreat
namespace Go.Proofs.YtnjognmnbpcaaaaGreat
open Go.RowKit
/-- One of a row of threes, in every world that has it. -/
theorem Row.kin3 {W : World} {a : Option Addr} {n : Nat} {f : Nat → Value} (h : Row W a (n * 3) f) (k : Nat) (hk : k < n) :
    ∃ b off, a = some ⟨b, off, none⟩ ∧ b < W.heap.size ∧ (∀ u : Kin W, u.at_.cell? ⟨b, off + k * 3, none⟩ = some (f (k * 3))) ∧ (∀ u : Kin W, u.at_.cell? ⟨b, off + k * 3 + 1, none⟩ = some (f (k * 3 + 1))) ∧ (∀ u : Kin W, u.at_.cell? ⟨b, off + k * 3 + 2, none⟩ = some (f (k * 3 + 2))) := by
  obtain ⟨b, off, e, hb, c0, c1, c2⟩ := h.at3 k hk
  exact ⟨b, off, e, hb, fun u => (u.cell b _ hb).trans c0, fun u => (u.cell b _ hb).trans c1, fun u => (u.cell b _ hb).trans c2⟩
end Go.Proofs.YtnjognmnbpcaaaaGreat
namespace Go.Proofs.YtnjognmnbpcaaaaGreat
open Go.RowKit
theorem Row.at4 {w : World} {a : Option Addr} {n : Nat} {f : Nat → Value} (h : Row w a (n * 4) f) (k : Nat) (hk : k < n) :
    ∃ b off, a = some ⟨b, off, none⟩ ∧ b < w.heap.size ∧ w.cell? ⟨b, off + k * 4, none⟩ = some (f (k * 4)) ∧ w.cell? ⟨b, off + k * 4 + 1, none⟩ = some (f (k * 4 + 1)) ∧ w.cell? ⟨b, off + k * 4 + 2, none⟩ = some (f (k * 4 + 2)) ∧ w.cell? ⟨b, off + k * 4 + 3, none⟩ = some (f (k * 4 + 3)) := by
  obtain ⟨b, off, rfl, hb, c0⟩ := h (k * 4) (by omega)
  obtain ⟨_, _, e, _, c1⟩ := h (k * 4 + 1) (by omega)
  obtain ⟨_, _, e2, _, c2⟩ := h (k * 4 + 2) (by omega)
  obtain ⟨_, _, e3, _, c3⟩ := h (k * 4 + 3) (by omega)
  simp only [Option.some.injEq, Addr.mk.injEq] at e e2 e3
  obtain ⟨rfl, rfl, _⟩ := e
  obtain ⟨rfl, rfl, _⟩ := e2
  obtain ⟨rfl, rfl, _⟩ := e3
  exact ⟨b, off, rfl, hb, c0, c1, c2, c3⟩
theorem Row.kin4 {W : World} {a : Option Addr} {n : Nat} {f : Nat → Value} (h : Row W a (n * 4) f) (k : Nat) (hk : k < n) :
    ∃ b off, a = some ⟨b, off, none⟩ ∧ b < W.heap.size ∧ (∀ u : Kin W, u.at_.cell? ⟨b, off + k * 4, none⟩ = some (f (k * 4))) ∧ (∀ u : Kin W, u.at_.cell? ⟨b, off + k * 4 + 1, none⟩ = some (f (k * 4 + 1))) ∧ (∀ u : Kin W, u.at_.cell? ⟨b, off + k * 4 + 2, none⟩ = some (f (k * 4 + 2))) ∧ (∀ u : Kin W, u.at_.cell? ⟨b, off + k * 4 + 3, none⟩ = some (f (k * 4 + 3))) := by
  obtain ⟨b, off, e, hb, c0, c1, c2, c3⟩ := h.at4 k hk
  exact ⟨b, off, e, hb, fun u => (u.cell b _ hb).trans c0, fun u => (u.cell b _ hb).trans c1, fun u => (u.cell b _ hb).trans c2, fun u => (u.cell b _ hb).trans c3⟩
/-- A world itself is one of its class. -/
theorem kin_self {W : World} {p : World → Prop} (h : ∀ u : Kin W, p u.at_) : p W := h ⟨W, Below.refl _ _⟩
end Go.Proofs.YtnjognmnbpcaaaaGreat
namespace Go.Proofs.YtnjognmnbpcaaaaGreat
open Go.RowKit
set_option linter.unusedSimpArgs false
theorem Tryz.infoRead : (Tryz.prog.info? 82).map (fun i => (i.zero, i.size, i.bytes)) = some (some (.agg #[.int .i64 0, .int .i64 0, .int .i64 0]), 3, 24) := by kernel_rfl
set_option maxHeartbeats 1000000 in
theorem sameReads_any (a a' : Option Addr) (n c n' c' : Nat) (z y : Nat → Int) (w : World) (hn : n ≤ 1152921504606846976) (h : Row w a (n * 3) fun i => .int .i64 (z i)) (h' : Row w a' (n' * 3) fun i => .int .i64 (y i)) :
    Calls Tryz.prog 55 #[.slice a n c, .slice a' n' c'] w fun e w' => e = .returned (.bool (decide (n = n') && eqTo z y (n * 3))) ∧ ∃ q, w' = w.drewN q := by
  by_cases hnn : n = n'
  · subst hnn
    have hne : ((n : Int) != (n : Int)) = false := by simp
    go_enter Tryz.func55, Tryz.ntmps55
    go_wp2
    go_loopw [5] (fun i wr => ∃ k : Nat, k ≤ n ∧ i = .int .i64 k ∧ eqTo z y (k * 3) = true ∧ ∃ q, wr = w.drewN q) (fun i _ => n - (intOf i).toNat)
    case atStart => exact ⟨0, Nat.zero_le _, rfl, rfl, 0, rfl⟩
    case round =>
      obtain ⟨k, hk, rfl, hs, hq⟩ := hrel
      have HQ : Hid (∃ q, wr = w.drewN q) := hq
      replace h : Row wr a (n * 3) fun i => .int .i64 (z i) := by obtain ⟨q, rfl⟩ := hq; exact h
      replace h' : Row wr a' (n * 3) fun i => .int .i64 (y i) := by obtain ⟨q, rfl⟩ := hq; exact h'
      have HS : Hid (eqTo z y (k * 3) = true) := hs
      clear hs hq
      by_cases hlt : k < n
      · obtain ⟨b, off, rfl, hb, c0, c1, c2⟩ := h.at3 k hlt
        obtain ⟨b', off', rfl, hb', d0, d1, d2⟩ := h'.at3 k hlt
        clear h h'
        have i1 : (k : Int) < (n : Int) := by omega
        by_cases v0 : z (k * 3) = y (k * 3)
        · by_cases v1 : z (k * 3 + 1) = y (k * 3 + 1)
          · by_cases v2 : z (k * 3 + 2) = y (k * 3 + 2)
            · have HE : Hid (eqTo z y ((k + 1) * 3) = true) := by
                show eqTo z y ((k + 1) * 3) = true
                rw [show (k + 1) * 3 = k * 3 + 1 + 1 + 1 by omega, eqTo, eqTo, eqTo, HS.out, v0, v1, v2]
                simp
              go_wp2
              go_quiet (fail)
              go_wp2
              go_roundw
              case rel => exact ⟨k + 1, by omega, by go_num, HE.out, drewN_on HQ.out _⟩
              case measure => simp [intOf]; omega
            · have HV : Hid (z (k * 3 + 2) ≠ y (k * 3 + 2)) := v2
              go_wp2
              go_quiet (fail)
              go_wp2
              go_ret
              exact ⟨ret_bool (by simp [eqTo_no (n := n * 3) (k * 3 + 2) (by omega) HV.out]), drewN_on HQ.out _⟩
          · have HV : Hid (z (k * 3 + 1) ≠ y (k * 3 + 1)) := v1
            go_wp2
            go_quiet (fail)
            go_wp2
            go_ret
            exact ⟨ret_bool (by simp [eqTo_no (n := n * 3) (k * 3 + 1) (by omega) HV.out]), drewN_on HQ.out _⟩
        · have HV : Hid (z (k * 3) ≠ y (k * 3)) := v0
          go_wp2
          go_quiet (fail)
          go_wp2
          go_ret
          exact ⟨ret_bool (by simp [eqTo_no (n := n * 3) (k * 3) (by omega) HV.out]), drewN_on HQ.out _⟩
      · obtain rfl : k = n := by omega
        clear h h'
        go_wp2
        go_ret
        exact ⟨ret_bool (by simp [HS.out]), HQ.out⟩
  · have hne : ((n : Int) != (n' : Int)) = true := by simp; omega
    have HN : Hid (n ≠ n') := hnn
    clear hnn h h'
    go_enter Tryz.func55, Tryz.ntmps55
    go_wp2
    go_ret
    exact ⟨ret_bool (by simp [HN.out]), 0, rfl⟩
end Go.Proofs.YtnjognmnbpcaaaaGreat
namespace Go.Proofs.YtnjognmnbpcaaaaGreat
open Go.RowKit
set_option linter.unusedSimpArgs false
theorem Tryz.infoWrite : (Tryz.prog.info? 85).map (fun i => (i.zero, i.size, i.bytes)) = some (some (.agg #[.int .i64 0, .int .i64 0, .int .i64 0]), 3, 24) := by kernel_rfl
set_option maxHeartbeats 1000000 in
theorem sameWrites_any (a a' : Option Addr) (n c n' c' : Nat) (z y : Nat → Int) (w : World) (hn : n ≤ 1152921504606846976) (h : Row w a (n * 3) fun i => .int .i64 (z i)) (h' : Row w a' (n' * 3) fun i => .int .i64 (y i)) :
    Calls Tryz.prog 56 #[.slice a n c, .slice a' n' c'] w fun e w' => e = .returned (.bool (decide (n = n') && eqTo z y (n * 3))) ∧ ∃ q, w' = w.drewN q := by
  by_cases hnn : n = n'
  · subst hnn
    have hne : ((n : Int) != (n : Int)) = false := by simp
    go_enter Tryz.func56, Tryz.ntmps56
    go_wp2
    go_loopw [5] (fun i wr => ∃ k : Nat, k ≤ n ∧ i = .int .i64 k ∧ eqTo z y (k * 3) = true ∧ ∃ q, wr = w.drewN q) (fun i _ => n - (intOf i).toNat)
    case atStart => exact ⟨0, Nat.zero_le _, rfl, rfl, 0, rfl⟩
    case round =>
      obtain ⟨k, hk, rfl, hs, hq⟩ := hrel
      have HQ : Hid (∃ q, wr = w.drewN q) := hq
      replace h : Row wr a (n * 3) fun i => .int .i64 (z i) := by obtain ⟨q, rfl⟩ := hq; exact h
      replace h' : Row wr a' (n * 3) fun i => .int .i64 (y i) := by obtain ⟨q, rfl⟩ := hq; exact h'
      have HS : Hid (eqTo z y (k * 3) = true) := hs
      clear hs hq
      by_cases hlt : k < n
      · obtain ⟨b, off, rfl, hb, c0, c1, c2⟩ := h.at3 k hlt
        obtain ⟨b', off', rfl, hb', d0, d1, d2⟩ := h'.at3 k hlt
        clear h h'
        have i1 : (k : Int) < (n : Int) := by omega
        by_cases v0 : z (k * 3) = y (k * 3)
        · by_cases v1 : z (k * 3 + 1) = y (k * 3 + 1)
          · by_cases v2 : z (k * 3 + 2) = y (k * 3 + 2)
            · have HE : Hid (eqTo z y ((k + 1) * 3) = true) := by
                show eqTo z y ((k + 1) * 3) = true
                rw [show (k + 1) * 3 = k * 3 + 1 + 1 + 1 by omega, eqTo, eqTo, eqTo, HS.out, v0, v1, v2]
                simp
              go_wp2
              go_quiet (fail)
              go_wp2
              go_roundw
              case rel => exact ⟨k + 1, by omega, by go_num, HE.out, drewN_on HQ.out _⟩
              case measure => simp [intOf]; omega
            · have HV : Hid (z (k * 3 + 2) ≠ y (k * 3 + 2)) := v2
              go_wp2
              go_quiet (fail)
              go_wp2
              go_ret
              exact ⟨ret_bool (by simp [eqTo_no (n := n * 3) (k * 3 + 2) (by omega) HV.out]), drewN_on HQ.out _⟩
          · have HV : Hid (z (k * 3 + 1) ≠ y (k * 3 + 1)) := v1
            go_wp2
            go_quiet (fail)
            go_wp2
            go_ret
            exact ⟨ret_bool (by simp [eqTo_no (n := n * 3) (k * 3 + 1) (by omega) HV.out]), drewN_on HQ.out _⟩
        · have HV : Hid (z (k * 3) ≠ y (k * 3)) := v0
          go_wp2
          go_quiet (fail)
          go_wp2
          go_ret
          exact ⟨ret_bool (by simp [eqTo_no (n := n * 3) (k * 3) (by omega) HV.out]), drewN_on HQ.out _⟩
      · obtain rfl : k = n := by omega
        clear h h'
        go_wp2
        go_ret
        exact ⟨ret_bool (by simp [HS.out]), HQ.out⟩
  · have hne : ((n : Int) != (n' : Int)) = true := by simp; omega
    have HN : Hid (n ≠ n') := hnn
    clear hnn h h'
    go_enter Tryz.func56, Tryz.ntmps56
    go_wp2
    go_ret
    exact ⟨ret_bool (by simp [HN.out]), 0, rfl⟩
end Go.Proofs.YtnjognmnbpcaaaaGreat
namespace Go.Proofs.YtnjognmnbpcaaaaGreat
open Go.RowKit
theorem Tryz.infoInt : (Tryz.prog.info? 3).isSome = true := by kernel_rfl
theorem Tryz.cellsInt : Tryz.prog.cellsOf 3 = 1 := by kernel_rfl
theorem Tryz.quadType : Tryz.prog.underlying 24 = some (.array 4 3) := by kernel_rfl
theorem quad_eq (a b c d a' b' c' d' : Int) (W : World) : Sem.run Tryz.prog (Op.equalIn 10000 24 (.agg #[.int .i64 a, .int .i64 b, .int .i64 c, .int .i64 d]) (.agg #[.int .i64 a', .int .i64 b', .int .i64 c', .int .i64 d'])) W = .ok (a == a' && b == b' && c == c' && d == d') W := by
  obtain ⟨i, hi⟩ := Option.isSome_iff_exists.1 Tryz.infoInt
  rw [show (10000 : Nat) = 9999 + 1 from rfl, run_equalIn_array W 9999 _ _ Tryz.quadType hi, Tryz.cellsInt]
  show Sem.run Tryz.prog (Op.eqItems (9998 + 1) 3 1 _ _ [0, 1, 2, 3]) W = _
  cases h1 : a == a' <;> cases h2 : b == b' <;> cases h3 : c == c' <;> cases h4 : d == d'
  all_goals simp [Op.eqItems, go_sem, h1, h2, h3, h4]
end Go.Proofs.YtnjognmnbpcaaaaGreat
namespace Go.Proofs.YtnjognmnbpcaaaaGreat
open Go.RowKit
def setOk (c : Nat → Int) (a v : Int) : Bool := allUp c 255 4 && upToV a 3 && upToV v 255
def addOk (c : Nat → Int) (a b : Int) : Bool := allUp c 255 4 && upToV a 3 && upToV b 3
/-- The numbers of their errors. -/
def setE (c : Nat → Int) (a v : Int) : Int := bif setOk c a v then 0 else 600
def addE (c : Nat → Int) (a b : Int) : Int := bif addOk c a b then 0 else 600
/-- Their registers. -/
def setC (c : Nat → Int) (a v : Int) : Nat → Int := bif setOk c a v then updQ c a.toNat v else fun _ => 0
def addC (c : Nat → Int) (a b : Int) : Nat → Int := bif addOk c a b then updQ c a.toNat ((c a.toNat + c b.toNat) % 256) else fun _ => 0
theorem and3 {x y z : Bool} (h : (x && y && z) = true) : x = true ∧ y = true ∧ z = true := by
  simp only [Bool.and_eq_true] at h
  exact ⟨h.1.1, h.1.2, h.2⟩
theorem and3_mk {x y z : Bool} (h1 : x = true) (h2 : y = true) (h3 : z = true) : (x && y && z) = true := by rw [h1, h2, h3]; rfl
theorem and3_no1 {x y z : Bool} (h : x = false) : (x && y && z) = false := by rw [h]; rfl
theorem set_no {c : Nat → Int} {a v : Int} (h : setOk c a v = false) : setE c a v = 600 ∧ setC c a v = fun _ => 0 := by unfold setE setC; rw [h]; exact ⟨rfl, rfl⟩
theorem set_yes {c : Nat → Int} {a v : Int} (h : setOk c a v = true) : setE c a v = 0 ∧ setC c a v = updQ c a.toNat v := by unfold setE setC; rw [h]; exact ⟨rfl, rfl⟩
theorem add_no {c : Nat → Int} {a b : Int} (h : addOk c a b = false) : addE c a b = 600 ∧ addC c a b = fun _ => 0 := by unfold addE addC; rw [h]; exact ⟨rfl, rfl⟩
theorem add_yes {c : Nat → Int} {a b : Int} (h : addOk c a b = true) : addE c a b = 0 ∧ addC c a b = updQ c a.toNat ((c a.toNat + c b.toNat) % 256) := by unfold addE addC; rw [h]; exact ⟨rfl, rfl⟩
end Go.Proofs.YtnjognmnbpcaaaaGreat
namespace Go.Proofs.YtnjognmnbpcaaaaGreat
open Go.RowKit
set_option linter.unusedSimpArgs false
theorem rregsMay_any (c : Nat → Int) (w : World) :
    Calls Tryz.prog 50 #[quadA c] w fun e w' => e = .returned (.bool (allUp c 255 4)) ∧ Below w.heap.size w w' := by
  unfold quadA
  go_enter Tryz.func50, Tryz.ntmps50
  go_wp2
  go_loopw [3] (fun i wr => ∃ k : Nat, k ≤ 4 ∧ i = .int .i64 k ∧ Hid (allUp c 255 k = true) ∧ Blk wr w.heap.size (quadL c) ∧ Below w.heap.size w wr) (fun i _ => 4 - (intOf i).toNat)
  case atStart => exact ⟨0, Nat.zero_le _, rfl, rfl, blk_new w (quadL c) 24, by go_grown⟩
  case round =>
    obtain ⟨k, hk, rfl, HS, B1, hb⟩ := hrel
    by_cases hlt : k < 4
    · have i1 : (k : Int) < 4 := by omega
      have c1 := B1.cell k _ (quadL_get c hlt)
      cases hv : upToV (c k) 255
      · go_wp2_with (go_at_call 52; refine (rvalue_any _ _).mono ?_; rintro e w' ⟨rfl, rfl⟩)
        go_ret
        exact ⟨ret_bool (allUp_no k hlt hv).symm, hb⟩
      · have HN : Hid (allUp c 255 (k + 1) = true) := by
          show allUp c 255 (k + 1) = true
          rw [allUp, HS.out, hv]
          rfl
        go_wp2_with (go_at_call 52; refine (rvalue_any _ _).mono ?_; rintro e w' ⟨rfl, rfl⟩)
        go_roundw
        case rel => exact ⟨k + 1, by omega, by go_num, HN, B1, hb⟩
        case measure => simp [intOf]; omega
    · obtain rfl : k = 4 := by omega
      go_wp2
      go_ret
      exact ⟨ret_bool HS.out.symm, hb⟩
set_option maxHeartbeats 1000000 in
theorem rset_any (c : Nat → Int) (a b : Int) (w : World) :
    Calls Tryz.prog 26 #[quadA c, .int .i64 a, .int .i64 b] w fun e w' => e = .returned (.tuple #[quadA (setC c a b), .int .i64 (setE c a b)]) ∧ Below w.heap.size w w' := by
  cases h1 : allUp c 255 4
  · obtain ⟨e1, e2⟩ := set_no (c := c) (a := a) (v := b) (and3_no1 h1)
    rw [e1, e2]
    unfold quadA
    go_enter Tryz.func26, Tryz.ntmps26
    go_wp2_with fail
    refine (rregsMay_any c _).mono ?_
    rintro e w1 ⟨rfl, hb⟩
    rw [h1]
    have B2 := (blk_new (w.alloc _) _ _).on hb
    rw [World.size_alloc] at B2
    have b1 : Below w.heap.size w w1 := Below.on (by go_grown) hb
    obtain ⟨⟨d0, d1, d2, d3⟩, g0, g1, g2, g3⟩ := B2.four
    clear hb
    go_wp2
    exact bodyPost_ret (v := .tuple #[.agg #[.int .i64 0, .int .i64 0, .int .i64 0, .int .i64 0], .int .i64 600]) (by simp [results, Tryz.results26, go_sem, d0, d1, d2, d3]) rfl ⟨rfl, by go_grown⟩
  cases h2 : upToV a 3 && upToV b 255
  · obtain ⟨e1, e2⟩ := set_no (c := c) (a := a) (v := b) (by unfold setOk; rw [Bool.and_assoc, h2, Bool.and_false])
    rw [e1, e2]
    unfold quadA
    cases ha : upToV a 3 <;> cases hv : upToV b 255 <;> (try (rw [ha, hv] at h2; cases h2; done))
    all_goals
      go_enter Tryz.func26, Tryz.ntmps26
      go_wp2_with fail
      refine (rregsMay_any c _).mono ?_
      rintro e w1 ⟨rfl, hb⟩
      rw [h1]
      have B2 := (blk_new (w.alloc _) _ _).on hb
      rw [World.size_alloc] at B2
      have b1 : Below w.heap.size w w1 := Below.on (by go_grown) hb
      obtain ⟨⟨d0, d1, d2, d3⟩, g0, g1, g2, g3⟩ := B2.four
      clear hb h2
      go_wp2_with (first | (go_at_call 51; refine (rreg_any _ _).mono ?_; rintro e w' ⟨rfl, rfl⟩) | (go_at_call 52; refine (rvalue_any _ _).mono ?_; rintro e w' ⟨rfl, rfl⟩))
      exact bodyPost_ret (v := .tuple #[.agg #[.int .i64 0, .int .i64 0, .int .i64 0, .int .i64 0], .int .i64 600]) (by simp [results, Tryz.results26, go_sem, d0, d1, d2, d3]) rfl ⟨rfl, by go_grown⟩
  · have hok : setOk c a b = true := by unfold setOk; rw [Bool.and_assoc, h1, h2]; rfl
    obtain ⟨e1, e2⟩ := set_yes hok
    obtain ⟨_, ha, hv⟩ := and3 hok
    rw [e1, e2]
    obtain ⟨ha0, ha1⟩ := upToV_yes ha
    obtain ⟨g, rfl⟩ : ∃ g : Nat, a = g := ⟨a.toNat, by omega⟩
    rw [Int.toNat_natCast]
    have hg : g < 4 := by omega
    have i1 : (g : Int) < 4 := by omega
    clear e1 e2 hok h2
    unfold quadA
    go_enter Tryz.func26, Tryz.ntmps26
    go_wp2_with fail
    refine (rregsMay_any c _).mono ?_
    rintro e w1 ⟨rfl, hb⟩
    rw [h1]
    have B1 := ((blk_new w (quadL c) 24).alloc _).on hb
    have B2 := (blk_new (w.alloc _) _ _).on hb
    rw [World.size_alloc] at B2
    have b1 : Below w.heap.size w w1 := Below.on (by go_grown) hb
    have c1 := B1.cell g _ (quadL_get c hg)
    have f1 := B1.frozen g
    clear hb
    go_upto_region 4 with (first | (go_at_call 51; refine (rreg_any _ _).mono ?_; rintro e w' ⟨rfl, rfl⟩) | (go_at_call 52; refine (rvalue_any _ _).mono ?_; rintro e w' ⟨rfl, rfl⟩))
    have B1' := B1.set g (.int .i64 b)
    rw [quadL_set c hg] at B1'
    have B2' := B2.far (a := ⟨w.heap.size, g, none⟩) (.int .i64 b) (by simp)
    have b' : Below w.heap.size w (w1.setCell ⟨w.heap.size, g, none⟩ (.int .i64 b)) := b1.setCell (by simp) _
    clear B1 B2 b1 c1 f1
    generalize w1.setCell ⟨w.heap.size, g, none⟩ (.int .i64 b) = W at *
    obtain ⟨⟨c0, c1, c2, c3⟩, f0, f1, f2, f3⟩ := B1'.four
    obtain ⟨⟨d0, d1, d2, d3⟩, g0, g1, g2, g3⟩ := B2'.four
    go_wp2
    exact bodyPost_ret (v := .tuple #[quadA (updQ c g b), .int .i64 0]) (by simp [results, Tryz.results26, go_sem, d0, d1, d2, d3, quadA]) rfl ⟨rfl, by go_grown⟩
set_option maxHeartbeats 1000000 in
theorem radd_any (c : Nat → Int) (a b : Int) (w : World) :
    Calls Tryz.prog 27 #[quadA c, .int .i64 a, .int .i64 b] w fun e w' => e = .returned (.tuple #[quadA (addC c a b), .int .i64 (addE c a b)]) ∧ Below w.heap.size w w' := by
  cases h1 : allUp c 255 4
  · obtain ⟨e1, e2⟩ := add_no (c := c) (a := a) (b := b) (and3_no1 h1)
    rw [e1, e2]
    unfold quadA
    go_enter Tryz.func27, Tryz.ntmps27
    go_wp2_with fail
    refine (rregsMay_any c _).mono ?_
    rintro e w1 ⟨rfl, hb⟩
    rw [h1]
    have B2 := (blk_new (w.alloc _) _ _).on hb
    rw [World.size_alloc] at B2
    have b1 : Below w.heap.size w w1 := Below.on (by go_grown) hb
    obtain ⟨⟨d0, d1, d2, d3⟩, g0, g1, g2, g3⟩ := B2.four
    clear hb
    go_wp2
    exact bodyPost_ret (v := .tuple #[.agg #[.int .i64 0, .int .i64 0, .int .i64 0, .int .i64 0], .int .i64 600]) (by simp [results, Tryz.results27, go_sem, d0, d1, d2, d3]) rfl ⟨rfl, by go_grown⟩
  cases h2 : upToV a 3 && upToV b 3
  · obtain ⟨e1, e2⟩ := add_no (c := c) (a := a) (b := b) (by unfold addOk; rw [Bool.and_assoc, h2, Bool.and_false])
    rw [e1, e2]
    unfold quadA
    cases ha : upToV a 3 <;> cases hv : upToV b 3 <;> (try (rw [ha, hv] at h2; cases h2; done))
    all_goals
      go_enter Tryz.func27, Tryz.ntmps27
      go_wp2_with fail
      refine (rregsMay_any c _).mono ?_
      rintro e w1 ⟨rfl, hb⟩
      rw [h1]
      have B2 := (blk_new (w.alloc _) _ _).on hb
      rw [World.size_alloc] at B2
      have b1 : Below w.heap.size w w1 := Below.on (by go_grown) hb
      obtain ⟨⟨d0, d1, d2, d3⟩, g0, g1, g2, g3⟩ := B2.four
      clear hb h2
      go_wp2_with (first | (go_at_call 51; refine (rreg_any _ _).mono ?_; rintro e w' ⟨rfl, rfl⟩) | (go_at_call 52; refine (rvalue_any _ _).mono ?_; rintro e w' ⟨rfl, rfl⟩))
      exact bodyPost_ret (v := .tuple #[.agg #[.int .i64 0, .int .i64 0, .int .i64 0, .int .i64 0], .int .i64 600]) (by simp [results, Tryz.results27, go_sem, d0, d1, d2, d3]) rfl ⟨rfl, by go_grown⟩
  · have hok : addOk c a b = true := by unfold addOk; rw [Bool.and_assoc, h1, h2]; rfl
    obtain ⟨e1, e2⟩ := add_yes hok
    obtain ⟨_, ha, hv⟩ := and3 hok
    rw [e1, e2]
    obtain ⟨ha0, ha1⟩ := upToV_yes ha
    obtain ⟨hb0, hb1⟩ := upToV_yes hv
    obtain ⟨g, rfl⟩ : ∃ g : Nat, a = g := ⟨a.toNat, by omega⟩
    obtain ⟨h, rfl⟩ : ∃ g : Nat, b = g := ⟨b.toNat, by omega⟩
    rw [Int.toNat_natCast, Int.toNat_natCast]
    have hg : g < 4 := by omega
    have hh : h < 4 := by omega
    have i1 : (g : Int) < 4 := by omega
    have i2 : (h : Int) < 4 := by omega
    obtain ⟨p0, p1⟩ := upToV_yes (allUp_get h1 g hg)
    obtain ⟨q0, q1⟩ := upToV_yes (allUp_get h1 h hh)
    have tm : (c g + c h).tmod 256 = (c g + c h) % 256 := Int.tmod_eq_emod_of_nonneg (by omega)
    clear e1 e2 hok h2
    unfold quadA
    go_enter Tryz.func27, Tryz.ntmps27
    go_wp2_with fail
    refine (rregsMay_any c _).mono ?_
    rintro e w1 ⟨rfl, hb⟩
    rw [h1]
    have B1 := ((blk_new w (quadL c) 24).alloc _).on hb
    have B2 := (blk_new (w.alloc _) _ _).on hb
    rw [World.size_alloc] at B2
    have b1 : Below w.heap.size w w1 := Below.on (by go_grown) hb
    have c1 := B1.cell g _ (quadL_get c hg)
    have c2 := B1.cell h _ (quadL_get c hh)
    have f1 := B1.frozen g
    clear hb
    go_upto_region 3 with (first | (go_at_call 51; refine (rreg_any _ _).mono ?_; rintro e w' ⟨rfl, rfl⟩) | (go_at_call 52; refine (rvalue_any _ _).mono ?_; rintro e w' ⟨rfl, rfl⟩))
    go_region
    have B1' := B1.set g (.int .i64 ((c g + c h) % 256))
    rw [quadL_set c hg] at B1'
    have B2' := (B2.far (a := ⟨w.heap.size, g, none⟩) (.int .i64 ((c g + c h) % 256)) (by simp)).drew
    have b' : Below w.heap.size w (w1.setCell ⟨w.heap.size, g, none⟩ (.int .i64 ((c g + c h) % 256))).drew := (b1.setCell (by simp) _).drew
    replace B1' := B1'.drew
    clear B1 B2 b1 c1 c2 f1
    generalize (w1.setCell ⟨w.heap.size, g, none⟩ (.int .i64 ((c g + c h) % 256))).drew = W at *
    obtain ⟨⟨c0, c1, c2, c3⟩, f0, f1, f2, f3⟩ := B1'.four
    obtain ⟨⟨d0, d1, d2, d3⟩, g0, g1, g2, g3⟩ := B2'.four
    go_wp2
    exact bodyPost_ret (v := .tuple #[quadA (updQ c g ((c g + c h) % 256)), .int .i64 0]) (by simp [results, Tryz.results27, go_sem, d0, d1, d2, d3, quadA]) rfl ⟨rfl, by go_grown⟩
end Go.Proofs.YtnjognmnbpcaaaaGreat
namespace Go.Proofs.YtnjognmnbpcaaaaGreat
open Go.RowKit
section
variable {P : Program} {w : World}
theorem run_append_apart (base : Nat) (t ty e : TypeId) (i : TypeInfo) (z : Value) (size bytes : Nat) (ht : P.underlying t = some (.slice e)) (hi : P.info? e = some i) (hz : i.zero = some z)
    (hsize : i.size = size) (hby : i.bytes = bytes) (hzs : z.cells.size = size) (hsz : 0 < size)
    (v : Value) (n : Nat) (xs : List Value) (hown : w.ownsRow base e size v n xs)
    (a : Addr) (m c : Nat) (news : List Value) (hl : news.length = m * size) (hnews : ∀ j u, news[j]? = some u → w.cell? (a.add j) = some u) (h1 : ∀ u ∈ news, u.oneCell' = true)
    (h63 : n + m ≤ maxLen) (hbytes : (n + m) * bytes ≤ 140737488355328) (hbase : base ≤ w.heap.size) :
    ∃ v' w', (Builtin.append_ #[t, t] ty #[v, .slice (some a) m c]).run P w = .ok v' w' ∧ w'.ownsRow base e size v' (n + m) (xs ++ news) ∧ w.grownBy w' v.ownBlock ∧
      (∀ g, v'.ownBlock = some g → v.ownBlock = some g ∨ w.heap.size ≤ g) := by
  obtain ⟨v', w', hr, ho, hg, hn⟩ := run_append_own (P := P) w base t ty e i z size bytes ht hi hz hsize hby hzs hsz v n xs hown a m c news hl hnews h1 h63 hbytes hbase
  refine ⟨v', w', hr, ho, hg, ?_⟩
  subst hsize hby
  have h63' : n + m ≤ 9223372036854775807 := by simp only [maxLen] at h63; omega
  rcases hown.2 with ⟨rfl, rfl⟩ | ⟨g, cap, cur, rfl, _, hgg, _, _, hcs, _⟩
  · by_cases hm : m = 0
    · rw [hn.2 ⟨rfl, hm⟩]
      intro g h; simp [Value.ownBlock] at h
    · have hr2 := run_append_nil (P := P) w t ty e i z ht hi hz a m c news hl hnews (by omega) (by omega) (by simp only [Nat.zero_add] at hbytes; omega)
      rw [hr2] at hr
      injection hr with hv _
      subst hv
      intro g h
      simp [Value.ownBlock] at h
      omega
  · by_cases hroom : n + m ≤ cap
    · have hfit : n * i.size + news.length ≤ cur.size := by rw [hl, hcs, ← Nat.add_mul]; exact Nat.mul_le_mul_right _ hroom
      have hr2 := run_append_room (P := P) w t ty e i ht hi g n cap cur hgg a m c news hl hnews h1 hroom hfit
      rw [hr2] at hr
      injection hr with hv _
      subst hv
      intro g' h
      exact .inl h
    · have hr2 := run_append_grow (P := P) w t ty e i z ht hi hz ⟨g, 0, none⟩ n cap xs hown.1 (hown.cells (g := g) rfl) a m c news hl hnews (by omega) (by omega) (growslice_fits (by omega) hbytes)
      rw [hr2] at hr
      injection hr with hv _
      subst hv
      intro g' h
      simp [Value.ownBlock] at h
      omega
end
/-- Two of the call's own rows lie apart. -/
def Off (v u : Value) : Prop := ∀ g, v.ownBlock = some g → u.ownBlock ≠ some g
theorem Off.symm {v u : Value} (h : Off v u) : Off u v := fun g hu hv => h g hv hu
theorem Off.ne {v u : Value} (h : Off v u) : u.ownBlock = none ∨ u.ownBlock ≠ v.ownBlock := by
  cases e : u.ownBlock with
  | none => exact .inl rfl
  | some g => exact .inr fun hv => h g hv.symm e
/-- Behind an append onto the first. -/
theorem Off.on {v v' u : Value} (h : Off v u) {N : Nat} (hu : ∀ g, u.ownBlock = some g → g < N) (hv : ∀ g, v'.ownBlock = some g → v.ownBlock = some g ∨ N ≤ g) : Off v' u := by
  intro g hg hug
  rcases hv g hg with h1 | h1
  · exact h g h1 hug
  · have := hu g hug
    omega
end Go.Proofs.YtnjognmnbpcaaaaGreat
namespace Go.Proofs.YtnjognmnbpcaaaaGreat
open Go.RowKit
set_option linter.unusedSimpArgs false
set_option linter.unusedVariables false
/-- A list of numbers in memory of its own, as an append may go on. -/
structure ListOwn (D : Nat → Prop) (e : TypeId) (k : Nat) (W : World) (s : Sl) (L : List Int) : Prop where
  is : SlIs W k s L
  own : SlOwn D W s
  row : ∃ v, v = .slice s.a s.n s.c ∧ W.ownsRow 0 e k v s.n (rowL (intF (lz L)) (s.n * k)) ∧ ∀ g, v.ownBlock = some g → D g
def slI (D : Nat → Prop) (e : TypeId) (k : Nat) (s : Sl) (L : List Int) : Itm := ⟨D, fun W => ListOwn D e k W s L⟩
theorem slI_loc (D : Nat → Prop) (e : TypeId) (k : Nat) (s : Sl) (L : List Int) : (slI D e k s L).Loc := fun W W' h hs hk => by
  obtain ⟨h1, h2, v, h3, h4, h5⟩ := (h : ListOwn D e k W s L)
  refine ⟨h1.keep hs fun h0 b o e => ?_, h2.keep hk, v, h3, ownsRow_keep h4 fun g hg => hk g (h5 g hg), h5⟩
  obtain ⟨b2, e2, hD, _⟩ := h2 h0
  rw [e2] at e; cases e
  exact hk _ hD
/-- An empty literal. -/
def litI (b : Nat) (e : TypeId) (size : Nat) : Itm := ⟨fun k => k = b, fun W => W.ownsRow 0 e size (.slice (some ⟨b, 0, none⟩) 0 0) 0 []⟩
theorem litI_loc (b : Nat) (e : TypeId) (size : Nat) : (litI b e size).Loc := fun W W' h _ hk =>
  ownsRow_keep (show W.ownsRow 0 e size (.slice (some ⟨b, 0, none⟩) 0 0) 0 [] from h) fun g hg => hk g (by
    show g = b
    simp only [Value.ownBlock, Option.some.injEq] at hg
    omega)
theorem run_lit0 {P : Program} (w : World) (t e : TypeId) (size : Nat) (ht : P.underlying t = some (.slice e)) (hi : (P.info? e).map (·.size) = some size) : (Instr.buildSlice t 0 #[]).run P w = .ok (.slice (some ⟨w.heap.size, 0, none⟩) 0 0) (w.alloc (.cells #[] e)) := by
  unfold Instr.buildSlice
  cases hq : P.info? e with
  | none => simp [hq] at hi
  | some i =>
    simp [Sem.run_bind, run_underlying ht, sizeOf, typeInfo, hq, Instr.fill, newRow, Result.andThen, go_sem]
theorem stw_lit0 {w0 : World} {L : List Itm} {P : Program} {op : Oper} {a : Act} {w : World} {K : Act → World → Prop} {Q : Exit → Act → World → Prop} (HS : Hid (St w0 w L)) (t e : TypeId) (size : Nat) (ho : op.op = .buildSlice t 0 #[]) (ht : P.underlying t = some (.slice e)) (hi : (P.info? e).map (·.size) = some size)
    (hw : ∀ W b, Hid (St w0 W (litI b e size :: L)) → K (a.put op.dst (.slice (some ⟨b, 0, none⟩) 0 0)) W) : op.wp P a w K Q := by
  unfold Oper.wp execOp
  simp only [ho, Array.map_empty, Sem.run_bind, run_lit0 w t e size ht hi, Sem.run_pure, Result.andThen_ok]
  refine hw _ w.heap.size (HS.out.push ((Below.refl _ w).alloc (Nat.le_refl _) _) (litI w.heap.size e size) (litI_loc _ _ _) ?_ fun k hk => ?_)
  · exact World.ownsRow_made w #[] 0 (Nat.zero_le _) (by decide) (by simp)
  · obtain rfl : k = w.heap.size := hk
    exact ⟨Nat.le_refl _, by simp⟩
theorem st_lit0 {w0 : World} {L : List Itm} {P : Program} {ops : Array Oper} {rest : List Oper} {op : Oper} {a : Act} {w : World} {Q : Exit → Act → World → Prop} (HS : Hid (St w0 w L)) (t e : TypeId) (size : Nat) (ho : op.op = .buildSlice t 0 #[]) (hgd : Region.wanted op (yielded ops a.tmps) = true) (ht : P.underlying t = some (.slice e)) (hi : (P.info? e).map (·.size) = some size)
    (hw : ∀ W b, Hid (St w0 W (litI b e size :: L)) → wpList P ops Q rest (a.put op.dst (.slice (some ⟨b, 0, none⟩) 0 0)) W) : wpList P ops Q (op :: rest) a w :=
  BigFrame.wpList_want hgd fun _ hK => stw_lit0 HS t e size ho ht hi fun W b h => hK _ _ (hw W b h)
/-- What an append onto nothing leaves. -/
theorem run_copy {P : Program} {w : World} (t ty e : TypeId) (i : TypeInfo) (z : Value) (size bytes : Nat) (ht : P.underlying t = some (.slice e)) (hi : P.info? e = some i) (hz : i.zero = some z) (hsize : i.size = size) (hby : i.bytes = bytes) (hzs : z.cells.size = size) (hsz : 0 < size)
    (v : Value) (hown : w.ownsRow 0 e size v 0 []) (s : Sl) (f : Nat → Value) (hr : Row w s.a (s.n * size) f) (hf : s.a = none → s.n = 0 ∧ s.c = 0) (h1 : ∀ i, (f i).oneCell' = true) (hn : s.n ≤ maxLen) (hb : s.n * bytes ≤ 140737488355328) :
    ∃ (v' : Value) (w' : World), (Builtin.append_ #[t, t] ty #[v, .slice s.a s.n s.c]).run P w = .ok v' w' ∧ w'.ownsRow 0 e size v' s.n (rowL f (s.n * size)) ∧ w.grownBy w' v.ownBlock ∧ ∀ g, v'.ownBlock = some g → v.ownBlock = some g ∨ w.heap.size ≤ g := by
  cases hs : s.a with
  | none =>
    obtain ⟨hn0, hc0⟩ := hf hs
    rw [hn0, hc0]
    have := run_append_owned_none (P := P) (w := w) 0 t ty e i size ht hi v 0 [] hown
    refine ⟨v, w, ?_, ?_, grown_same _ _, fun g hg => .inl hg⟩
    · exact this
    · rw [Nat.zero_mul]; exact hown
  | some ad =>
    rw [hs] at hr
    have := run_append_apart (P := P) (w := w) 0 t ty e i z size bytes ht hi hz hsize hby hzs hsz v 0 [] hown ad s.n s.c (rowL f (s.n * size)) (rowL_len _ _) hr.news (rowL_one fun i _ => h1 i) (by omega) (by rw [Nat.zero_add]; exact hb) (Nat.zero_le _)
    obtain ⟨v', w', e1, e2, e3, e4⟩ := this
    rw [Nat.zero_add, List.nil_append] at e2
    exact ⟨v', w', e1, e2, e3, e4⟩
theorem slI_of {W : World} {e : TypeId} {k : Nat} {v : Value} {s : Sl} {L : List Int} {w : World} (h : SlIs w k s L) (ho : W.ownsRow 0 e k v s.n (rowL (intF (lz L)) (s.n * k))) (D : Nat → Prop) (hD : ∀ g, v.ownBlock = some g → D g) :
    ∃ s' : Sl, v = .slice s'.a s'.n s'.c ∧ s'.n = s.n ∧ ListOwn D e k W s' L := by
  obtain ⟨a', c', rfl, hc, ha', hr, ho'⟩ := slice_of_owns ho
  refine ⟨⟨a', s.n, c'⟩, rfl, rfl, ⟨h.1, ⟨h.2.1.1, hc, ha'⟩, hr⟩, fun h0 => ?_, _, rfl, ho, hD⟩
  obtain ⟨b, e1, _, _, l, hl, _⟩ := ho' h0
  refine ⟨b, e1, hD b ?_, l, hl⟩
  show Value.ownBlock (.slice a' s.n c') = some b
  rw [e1]; rfl
theorem stw_copy {w0 w : World} {L : List Itm} {P : Program} {op : Oper} {a : Act} {K : Act → World → Prop} {Q : Exit → Act → World → Prop} (HS : Hid (St w0 w L)) (j : Nat) {b : Nat} {e : TypeId} {k : Nat} (ej : L[j]? = some (litI b e k)) {s : Sl} {l : List Int} (hI : SlIs w k s l)
    (x y : Operand) (t : TypeId) (ho : op.op = .call { callee := .builtin .append, args := #[x, y], argTypes := #[t, t] }) (z : Value) (bytes : Nat) (ht : P.underlying t = some (.slice e)) (hi : (P.info? e).map (fun i => (i.zero, i.size, i.bytes)) = some (some z, k, bytes)) (hzs : z.cells.size = k) (hk : 0 < k) (hb8 : bytes = 8 * k)
    (hx : a.eval x = .slice (some ⟨b, 0, none⟩) 0 0) (hy : a.eval y = .slice s.a s.n s.c)
    (h : ∀ W D' s', Hid (s'.n = s.n) → Hid (St w0 W (L.set j (slI D' e k s' l))) → K (a.put op.dst (.slice s'.a s'.n s'.c)) W) : op.wp P a w K Q := by
  obtain ⟨i, hi', hz, hsize, hby⟩ := info_parts hi
  have hown : w.ownsRow 0 e k (.slice (some ⟨b, 0, none⟩) 0 0) 0 [] := HS.out.get j ej
  have hle := hI.2.1.1
  obtain ⟨v', W, hr, ho2, hg, hat⟩ := run_copy (P := P) t op.type e i z k bytes ht hi' hz hsize hby hzs hk _ hown s _ hI.2.2 hI.2.1.2.2 (fun _ => rfl) (by
    have : s.n * 1 ≤ s.n * (8 * k) := Nat.mul_le_mul_left _ (by omega)
    unfold maxLen; omega) (by rw [hb8]; omega)
  obtain ⟨s', rfl, hn, hs1⟩ := slI_of hI ho2 (fun g => g = b ∨ w.heap.size ≤ g ∧ g < W.heap.size) (fun g hg' => by
    rcases hat g hg' with h1 | h1
    · simp only [Value.ownBlock, Option.some.injEq] at h1; exact .inl h1.symm
    · exact .inr ⟨h1, (ho2.lt g hg').2⟩)
  unfold Oper.wp execOp
  simp only [ho, resolve, invoke, builtin, Sem.run_bind, Sem.run_pure, Result.andThen_ok, List.map_toArray, List.map_cons, List.map_nil, hx, hy, hr]
  refine h W _ s' hn (HS.out.set j ej (slI (fun g => g = b ∨ w.heap.size ≤ g ∧ g < W.heap.size) e k s' l) (chg_grown hg fun g hg' => ?_) (slI_loc _ _ _ _ _) hs1 fun g hg' => hg')
  simp only [Value.ownBlock, Option.some.injEq] at hg'
  exact hg'.symm
theorem stw_copyN {w0 w : World} {L : List Itm} {P : Program} {op : Oper} {a : Act} {K : Act → World → Prop} {Q : Exit → Act → World → Prop} (HS : Hid (St w0 w L)) (e : TypeId) {k : Nat} {s : Sl} {l : List Int} (hI : SlIs w k s l)
    (x y : Operand) (t : TypeId) (ho : op.op = .call { callee := .builtin .append, args := #[x, y], argTypes := #[t, t] }) (z : Value) (bytes : Nat) (ht : P.underlying t = some (.slice e)) (hi : (P.info? e).map (fun i => (i.zero, i.size, i.bytes)) = some (some z, k, bytes)) (hzs : z.cells.size = k) (hk : 0 < k) (hb8 : bytes = 8 * k)
    (hx : a.eval x = .slice none 0 0) (hy : a.eval y = .slice s.a s.n s.c)
    (h : ∀ W D' s', Hid (s'.n = s.n) → Hid (St w0 W (slI D' e k s' l :: L)) → K (a.put op.dst (.slice s'.a s'.n s'.c)) W) : op.wp P a w K Q := by
  obtain ⟨i, hi', hz, hsize, hby⟩ := info_parts hi
  have hle := hI.2.1.1
  obtain ⟨v', W, hr, ho2, hg, hat⟩ := run_copy (P := P) t op.type e i z k bytes ht hi' hz hsize hby hzs hk _ (World.ownsRow_nil w 0 e k) s _ hI.2.2 hI.2.1.2.2 (fun _ => rfl) (by
    have : s.n * 1 ≤ s.n * (8 * k) := Nat.mul_le_mul_left _ (by omega)
    unfold maxLen; omega) (by rw [hb8]; omega)
  obtain ⟨s', rfl, hn, hs1⟩ := slI_of hI ho2 (fun g => w.heap.size ≤ g ∧ g < W.heap.size) (fun g hg' => by
    rcases hat g hg' with h1 | h1
    · simp [Value.ownBlock] at h1
    · exact ⟨h1, (ho2.lt g hg').2⟩)
  unfold Oper.wp execOp
  simp only [ho, resolve, invoke, builtin, Sem.run_bind, Sem.run_pure, Result.andThen_ok, List.map_toArray, List.map_cons, List.map_nil, hx, hy, hr]
  exact h W _ s' hn (HS.out.push ((Below.refl _ w).grown hg (Nat.le_refl _) fun g hg' => by simp [Value.ownBlock] at hg') (slI (fun g => w.heap.size ≤ g ∧ g < W.heap.size) e k s' l) (slI_loc _ _ _ _ _) hs1 fun g hg' => hg')
theorem st_copy {w0 w : World} {L : List Itm} {P : Program} {ops : Array Oper} {rest : List Oper} {op : Oper} {a : Act} {Q : Exit → Act → World → Prop} (HS : Hid (St w0 w L)) (j : Nat) {b : Nat} {e : TypeId} {k : Nat} (ej : L[j]? = some (litI b e k)) {s : Sl} {l : List Int} (hI : SlIs w k s l) (hgd : Region.wanted op (yielded ops a.tmps) = true)
    (x y : Operand) (t : TypeId) (ho : op.op = .call { callee := .builtin .append, args := #[x, y], argTypes := #[t, t] }) (z : Value) (bytes : Nat) (ht : P.underlying t = some (.slice e)) (hi : (P.info? e).map (fun i => (i.zero, i.size, i.bytes)) = some (some z, k, bytes)) (hzs : z.cells.size = k) (hk : 0 < k) (hb8 : bytes = 8 * k)
    (hx : a.eval x = .slice (some ⟨b, 0, none⟩) 0 0) (hy : a.eval y = .slice s.a s.n s.c)
    (h : ∀ W D' s', Hid (s'.n = s.n) → Hid (St w0 W (L.set j (slI D' e k s' l))) → wpList P ops Q rest (a.put op.dst (.slice s'.a s'.n s'.c)) W) : wpList P ops Q (op :: rest) a w :=
  BigFrame.wpList_want hgd fun _ hK => stw_copy HS j ej hI x y t ho z bytes ht hi hzs hk hb8 hx hy fun W D' s' h1 h2 => hK _ _ (h W D' s' h1 h2)
theorem st_copyN {w0 w : World} {L : List Itm} {P : Program} {ops : Array Oper} {rest : List Oper} {op : Oper} {a : Act} {Q : Exit → Act → World → Prop} (HS : Hid (St w0 w L)) (e : TypeId) {k : Nat} {s : Sl} {l : List Int} (hI : SlIs w k s l) (hgd : Region.wanted op (yielded ops a.tmps) = true)
    (x y : Operand) (t : TypeId) (ho : op.op = .call { callee := .builtin .append, args := #[x, y], argTypes := #[t, t] }) (z : Value) (bytes : Nat) (ht : P.underlying t = some (.slice e)) (hi : (P.info? e).map (fun i => (i.zero, i.size, i.bytes)) = some (some z, k, bytes)) (hzs : z.cells.size = k) (hk : 0 < k) (hb8 : bytes = 8 * k)
    (hx : a.eval x = .slice none 0 0) (hy : a.eval y = .slice s.a s.n s.c)
    (h : ∀ W D' s', Hid (s'.n = s.n) → Hid (St w0 W (slI D' e k s' l :: L)) → wpList P ops Q rest (a.put op.dst (.slice s'.a s'.n s'.c)) W) : wpList P ops Q (op :: rest) a w :=
  BigFrame.wpList_want hgd fun _ hK => stw_copyN HS e hI x y t ho z bytes ht hi hzs hk hb8 hx hy fun W D' s' h1 h2 => hK _ _ (h W D' s' h1 h2)
/-- A session's lists, each in memory of its own, apart from the others. -/
structure SesOwn (D : Nat → Prop) (W : World) (q : SesM) (x : PSess) : Prop where
  is : SessIs W q x
  own : ∀ j, j < 3 → SlOwn D W (q.sl j)
  apart : ∀ i j, i < j → j < 3 → 0 < (q.sl i).n → 0 < (q.sl j).n → (q.sl i).a ≠ (q.sl j).a
theorem SesOwn.mono {D D' : Nat → Prop} {W : World} {q : SesM} {x : PSess} (h : SesOwn D W q x) (hd : ∀ k, D k → D' k) : SesOwn D' W q x := ⟨h.is, fun j hj => (h.own j hj).mono hd, h.apart⟩
def sesI (D : Nat → Prop) (q : SesM) (x : PSess) : Itm := ⟨D, fun W => SesOwn D W q x⟩
theorem sesI_loc (D : Nat → Prop) (q : SesM) (x : PSess) : (sesI D q x).Loc := fun W W' h hs hk => by
  have h : SesOwn D W q x := h
  exact ⟨h.is.keep hs fun j hj h0 b o e => (by
    obtain ⟨b2, e2, hD, _⟩ := h.own j hj h0
    rw [e2] at e; cases e
    exact hk _ hD), fun j hj => (h.own j hj).keep hk, h.apart⟩
/-- Two items' blocks are apart: so are their rows. -/
theorem SlOwn.ne {D D' : Nat → Prop} {W : World} {s s' : Sl} (h : SlOwn D W s) (h' : SlOwn D' W s') (hd : ∀ k, D k → D' k → False) (h0 : 0 < s.n) (h1 : 0 < s'.n) : s.a ≠ s'.a := fun e => by
  obtain ⟨b, e1, hD, _⟩ := h h0
  obtain ⟨b', e2, hD', _⟩ := h' h1
  rw [e1, e2] at e
  simp only [Option.some.injEq, Addr.mk.injEq, and_true] at e
  subst e
  exact hd _ hD hD'
end Go.Proofs.YtnjognmnbpcaaaaGreat
namespace Go.Proofs.YtnjognmnbpcaaaaGreat
open Go.RowKit
set_option linter.unusedSimpArgs false
set_option linter.unusedVariables false
section
variable {P : Program} {ops : Array Oper} {Q : Exit → Act → World → Prop} {md : Region.Mode} {C : World → Prop}
theorem nil_val {o : Oper} {x : Operand} (ho : o.op = .nilCheck x) {ρ : Operand → Value} {w w' : World} {n : Next} (h : (execOp ρ o).run P w = .ok n w') : ∃ v, n = .value v := by
  unfold execOp at h
  simp only [ho] at h
  split at h
  · simp [runtimePanic] at h
  · simp [runtimePanic] at h
  · simp [runtimePanic] at h
  · split at h
    · simp [runtimePanic] at h
    · rw [Sem.run_bind] at h
      cases hp : Sem.run P program w with
      | ok p w1 =>
        rw [hp] at h
        simp only [Result.andThen_ok] at h
        rw [Sem.run_bind] at h
        rename_i ty v _
        cases hq : Sem.run P (nilAhead (p.types.size + Made.depth) ty v ‹String›) w1 with
        | ok b w2 =>
          rw [hq] at h
          simp only [Result.andThen_ok] at h
          split at h
          · simp [Sem.run_bind, unsupported, Result.andThen] at h
          · simp at h
            exact ⟨_, h.1.symm⟩
        | halt c w2 =>
          rw [hq] at h
          simp [Result.andThen] at h
      | halt c w1 =>
        rw [hp] at h
        simp [Result.andThen] at h
    · simp at h
      exact ⟨_, h.1.symm⟩
  · simp at h
    exact ⟨_, h.1.symm⟩
/-- Operations that hand back a value, or halt. -/
def plainB : Op → Bool
  | .move _ | .assign _ | .pick .. | .nilCheck _ | .load .. | .build .. | .fieldAddr .. | .field .. | .indexAddr .. | .index .. | .binOp .. | .unOp .. | .extract .. | .convert .. | .slice .. => true
  | .call c => (match c.callee with | .builtin .len => true | .builtin .min => true | _ => false)
  | _ => false
theorem val_of_bind {s : Sem Value} {w w' : World} {n : Next} (h : (do pure (Next.value (← s)) : Sem Next).run P w = .ok n w') : ∃ v, n = .value v := by
  rw [Sem.run_bind] at h
  cases hr : s.run P w with
  | ok x w1 =>
    rw [hr] at h
    simp [Result.andThen] at h
    exact ⟨_, h.1.symm⟩
  | halt x w1 =>
    rw [hr] at h
    simp [Result.andThen] at h
theorem val_of_plain {o : Oper} {ρ : Operand → Value} {w w' : World} {n : Next} (hp : plainB o.op = true) (h : (execOp ρ o).run P w = .ok n w') : ∃ v, n = .value v := by
  obtain ⟨dst, op, type, pos, after, guard⟩ := o
  cases op <;> first | (simp [plainB] at hp; done) | skip
  case move x => simp [execOp] at h; exact ⟨_, h.1.symm⟩
  case nilCheck x => exact nil_val rfl h
  case assign x => simp [execOp] at h; exact ⟨_, h.1.symm⟩
  case pick c a b =>
    unfold execOp at h
    simp only [] at h
    rw [Sem.run_bind] at h
    cases hr : (asBool (ρ c)).run P w with
    | ok x w1 =>
      rw [hr] at h
      simp [Result.andThen] at h
      exact ⟨_, h.1.symm⟩
    | halt x w1 =>
      rw [hr] at h
      simp [Result.andThen] at h
  case call c =>
    obtain ⟨callee, args, ats⟩ := c
    cases callee <;> first | (simp [plainB] at hp; done) | skip
    case builtin b =>
      cases b <;> first | (simp [plainB] at hp; done) | skip
      all_goals
        rw [BigFrame.execOp_builtin] at h
        simp only [BigFrame.builtin_len, BigFrame.builtin_min] at h
        exact val_of_bind h
  all_goals exact val_of_bind h
/-- What the quiet walk shows of an operation that is plain. -/
theorem yieldsIf_of_quiet {o : Oper} {v : Value} {a : Act} (hp : plainB o.op = true) (hw : Region.wanted o (yielded ops a.tmps) = true) (h : ∀ w, C w → o.quietAt P a C w v) : YieldsIf P ops C o v a := by
  refine .inl ⟨hw, fun w hC => ?_⟩
  have := h w hC
  unfold Oper.quietAt at this
  cases hr : (execOp a.eval o).run P w with
  | ok n w' =>
    obtain ⟨u, rfl⟩ := val_of_plain hp hr
    rw [hr] at this
    simp only [Oper.quietUpon] at this
    rw [this.1, this.2]
  | halt x w' => rw [hr] at this; exact this.elim
/-- Whatever order is picked from here on, and C holds behind every operation but the late ones (behind a neutral one, if it held ahead). -/
def wpAnyL (P : Program) (md : Region.Mode) (ops : Array Oper) (Q : Exit → Act → World → Prop) (C : World → Prop) (late neut : Nat → Bool) : Nat → Array Bool → Act → World → Prop
  | 0, listed, a, w => Region.ready md ops listed = [] ∧ Q .normal a w
  | fuel + 1, listed, a, w =>
    (Region.ready md ops listed = [] → Q .normal a w) ∧
    ∀ i ∈ Region.ready md ops listed, wpOp P ops Q i (fun a' w' => (late i = false → (neut i = true → C w) → C w') ∧ wpAnyL P md ops Q C late neut fuel (listed.setIfInBounds i true) a' w') a w
variable {late neut : Nat → Bool}
theorem wpAny_of_late : ∀ (fuel : Nat) (listed : Array Bool) (a : Act) (w : World), wpAnyL P md ops Q C late neut fuel listed a w → wpAny P md ops Q fuel listed a w
  | 0, _, _, _, h => h
  | fuel + 1, _, _, _, h => ⟨h.1, fun i hi => wpOp_mono (fun a' w' h' => wpAny_of_late fuel _ a' w' h'.2) (h.2 i hi)⟩
theorem wpAnyL_first {i : Nat} {oi : Oper} {v : Value} (hi : ops[i]? = some oi) (hsel : ∀ (j : Nat) (o : Oper) cs b, ops[j]? = some o → o.op ≠ .select cs b)
    (hQ : ∀ c a w, Q (.panic c) (a.put oi.dst v) w → Q (.panic c) a w) (hl : ∀ j oj, ops[j]? = some oj → late j = true → ∃ e ∈ oj.after, Region.binds md e = true ∧ e.on = i) :
    ∀ (fuel : Nat) (listed : Array Bool) (a : Act) (w : World),
      (∀ j oj, ops[j]? = some oj → j ≠ i → listed.getD j true = false → (∀ e ∈ oj.after, Region.binds md e = true → e.on ≠ i) → oi.apart ops oj = true) →
      i ∈ Region.ready md ops listed → YieldsIf P ops C oi v a → C w →
      wpAnyL P md ops Q C late neut fuel (listed.setIfInBounds i true) (a.put oi.dst v) w → wpAnyL P md ops Q C late neut (fuel + 1) listed a w := by
  intro fuel
  induction fuel with
  | zero =>
    intro listed a w _ hr hy hS H
    refine ⟨fun h => (by rw [h] at hr; cases hr), fun j hj => ?_⟩
    by_cases hji : j = i
    · subst hji; exact hy.wpOp hi hS ⟨fun _ _ => hS, H⟩
    · have := ready_mono hj hji
      rw [H.1] at this
      cases this
  | succ fuel ih =>
    intro listed a w hfree hr hy hS H
    refine ⟨fun h => (by rw [h] at hr; cases hr), fun j hj => ?_⟩
    by_cases hji : j = i
    · subst hji; exact hy.wpOp hi hS ⟨fun _ _ => hS, H⟩
    · have h1 := H.2 j (ready_mono hj hji)
      obtain ⟨hjun, oj, hoj, hall⟩ := mem_ready.1 hj
      have hnot : ∀ e ∈ oj.after, Region.binds md e = true → e.on ≠ i := fun e he hb heq => by
        have h1 := hall e he hb
        have h0 := (mem_ready.1 hr).1
        rw [heq] at h1
        rcases Nat.lt_or_ge i listed.size with h' | h'
        · simp [h'] at h0 h1; rw [h0] at h1; cases h1
        · simp [Array.getElem?_eq_none h'] at h1
      have hlj : late j = false := by
        cases hc : late j with
        | false => rfl
        | true =>
          obtain ⟨e, he, hb, heq⟩ := hl j oj hoj hc
          exact absurd heq (hnot e he hb)
      have h2 := wpOp_putIf hoj (hfree j oj hoj hji hjun hnot) (fun cs b => hsel i oi cs b hi) (fun cs b => hsel j oj cs b hoj) hQ hy h1
      have hfree' : ∀ k ok, ops[k]? = some ok → k ≠ i → (listed.setIfInBounds j true).getD k true = false →
          (∀ e ∈ ok.after, Region.binds md e = true → e.on ≠ i) → oi.apart ops ok = true := fun k ok hk hki hun hno => by
        refine hfree k ok hk hki ?_ hno
        by_cases hjk : j = k
        · subst hjk; exact hjun
        · rw [getD_set_ne true hjk] at hun; exact hun
      refine wpOp_mono (fun a' w' h3 => ⟨h3.2.1, ih (listed.setIfInBounds j true) a' w' hfree' (ready_mono hr (Ne.symm hji)) h3.1 (h3.2.1 hlj fun _ => hS) ?_⟩) h2
      rw [Array.setIfInBounds_comm _ _ hji]
      exact h3.2.2
theorem wpAnyL_worldless {i : Nat} {oi : Oper} {v : Value} (hi : ops[i]? = some oi) (hsel : ∀ (j : Nat) (o : Oper) cs b, ops[j]? = some o → o.op ≠ .select cs b)
    (hQ : ∀ c a w, Q (.panic c) (a.put oi.dst v) w → Q (.panic c) a w) (hli : late i = true ∨ neut i = true) :
    ∀ (fuel : Nat) (listed : Array Bool) (a : Act) (w : World),
      (∀ j oj, ops[j]? = some oj → j ≠ i → listed.getD j true = false → (∀ e ∈ oj.after, Region.binds md e = true → e.on ≠ i) → oi.apart ops oj = true) →
      i ∈ Region.ready md ops listed → Yields P ops oi v a →
      wpAnyL P md ops Q C late neut fuel (listed.setIfInBounds i true) (a.put oi.dst v) w → wpAnyL P md ops Q C late neut (fuel + 1) listed a w := by
  intro fuel
  induction fuel with
  | zero =>
    intro listed a w _ hr hy H
    refine ⟨fun h => (by rw [h] at hr; cases hr), fun j hj => ?_⟩
    by_cases hji : j = i
    · subst hji; exact hy.wpOp hi ⟨fun h hc => hc (hli.resolve_left (by rw [h]; decide)), H⟩
    · have := ready_mono hj hji
      rw [H.1] at this
      cases this
  | succ fuel ih =>
    intro listed a w hfree hr hy H
    refine ⟨fun h => (by rw [h] at hr; cases hr), fun j hj => ?_⟩
    by_cases hji : j = i
    · subst hji; exact hy.wpOp hi ⟨fun h hc => hc (hli.resolve_left (by rw [h]; decide)), H⟩
    · have h1 := H.2 j (ready_mono hj hji)
      obtain ⟨hjun, oj, hoj, hall⟩ := mem_ready.1 hj
      have hnot : ∀ e ∈ oj.after, Region.binds md e = true → e.on ≠ i := fun e he hb heq => by
        have h1 := hall e he hb
        have h0 := (mem_ready.1 hr).1
        rw [heq] at h1
        rcases Nat.lt_or_ge i listed.size with h' | h'
        · simp [h'] at h0 h1; rw [h0] at h1; cases h1
        · simp [Array.getElem?_eq_none h'] at h1
      have h2 := wpOp_put hoj (hfree j oj hoj hji hjun hnot) (fun cs b => hsel i oi cs b hi) (fun cs b => hsel j oj cs b hoj) hQ hy h1
      have hfree' : ∀ k ok, ops[k]? = some ok → k ≠ i → (listed.setIfInBounds j true).getD k true = false →
          (∀ e ∈ ok.after, Region.binds md e = true → e.on ≠ i) → oi.apart ops ok = true := fun k ok hk hki hun hno => by
        refine hfree k ok hk hki ?_ hno
        by_cases hjk : j = k
        · subst hjk; exact hjun
        · rw [getD_set_ne true hjk] at hun; exact hun
      refine wpOp_mono (fun a' w' h3 => ⟨h3.2.1, ih (listed.setIfInBounds j true) a' w' hfree' (ready_mono hr (Ne.symm hji)) h3.1 ?_⟩) h2
      rw [Array.setIfInBounds_comm _ _ hji]
      exact h3.2.2
/-- May what only reads come first, in this order, and must the rest come so, one behind another (marks: 0; 1, late; 2, late and looking at no memory: it may come whenever)? -/
def lateWaits (md : Region.Mode) (ops : Array Oper) (late : List Nat) (q : Nat) : Bool :=
  late.all fun j => (((ops[j]?).map fun o => o.after.any fun e => Region.binds md e && e.on == q).getD false)
def okTail (md : Region.Mode) (ops : Array Oper) (late neut : List Nat) : List Nat → List Nat → Array Bool → Bool
  | t :: ts, b :: bs, l => (match b with
      | 2 => Region.free md ops l t && (Region.ready md ops l).contains t && late.contains t
      | 3 => Region.free md ops l t && (Region.ready md ops l).contains t && neut.contains t
      | _ => Region.ready md ops l == [t]) && okTail md ops late neut ts bs (l.setIfInBounds t true)
  | [], [], l => (Region.ready md ops l == [])
  | _, _, _ => false
def okTake (md : Region.Mode) (ops : Array Oper) (late neut ts bs : List Nat) : List Nat → Array Bool → Bool
  | q :: qs, l => Region.free md ops l q && (Region.ready md ops l).contains q && lateWaits md ops late q && ((ops[q]?).map fun o => plainB o.op).getD false && okTake md ops late neut ts bs qs (l.setIfInBounds q true)
  | [], l => okTail md ops late neut ts bs l
/-- What is left, one behind another. -/
def wpTail (P : Program) (ops : Array Oper) (Q : Exit → Act → World → Prop) (C : World → Prop) (late : List Nat) : List Nat → List Nat → Act → World → Prop
  | t :: ts, b :: bs, a, w => (match b with
      | 2 => ∃ o v, ops[t]? = some o ∧ Yields P ops o v a ∧ wpTail P ops Q C late ts bs (a.put o.dst v) w
      | 3 => ∃ o v, ops[t]? = some o ∧ Yields P ops o v a ∧ wpTail P ops Q C late ts bs (a.put o.dst v) w
      | _ => wpOp P ops Q t (fun a' w' => (late.contains t = false → C w') ∧ wpTail P ops Q C late ts bs a' w') a w)
  | _, _, a, w => Q .normal a w
theorem any_of_tail {late neut : List Nat} (hsel : ∀ (j : Nat) (o : Oper) cs b, ops[j]? = some o → o.op ≠ .select cs b) (hQ : ∀ c a d v w, Q (.panic c) (a.put d v) w → Q (.panic c) a w) : ∀ (ts bs : List Nat) (l : Array Bool) (a : Act) (w : World), okTail md ops late neut ts bs l = true → wpTail P ops Q C late ts bs a w → wpAnyL P md ops Q C late.contains neut.contains ts.length l a w
  | [], [], l, a, w, hok, h => ⟨by simpa [okTail] using hok, h⟩
  | [], _ :: _, _, _, _, hok, _ => by simp [okTail] at hok
  | _ :: _, [], _, _, _, hok, _ => by simp [okTail] at hok
  | t :: ts, b :: bs, l, a, w, hok, h => by
    simp only [okTail, Bool.and_eq_true] at hok
    by_cases hb : b = 2
    · subst hb
      obtain ⟨o, v, ho, hy, hk⟩ := h
      simp only [Bool.and_eq_true] at hok
      exact wpAnyL_worldless ho hsel (fun c a w => hQ c a o.dst v w) (.inl hok.1.2) _ l a w (Region.free_spec ho hok.1.1.1) (by simpa using hok.1.1.2) hy (any_of_tail hsel hQ ts bs _ _ w hok.2 hk)
    by_cases hb3 : b = 3
    · subst hb3
      obtain ⟨o, v, ho, hy, hk⟩ := h
      simp only [Bool.and_eq_true] at hok
      exact wpAnyL_worldless ho hsel (fun c a w => hQ c a o.dst v w) (.inr hok.1.2) _ l a w (Region.free_spec ho hok.1.1.1) (by simpa using hok.1.1.2) hy (any_of_tail hsel hQ ts bs _ _ w hok.2 hk)
    · have hr : Region.ready md ops l = [t] := by
        have := hok.1
        split at this
        · exact absurd rfl hb
        · exact absurd rfl hb3
        · simpa using this
      have hk : wpOp P ops Q t (fun a' w' => (late.contains t = false → C w') ∧ wpTail P ops Q C late ts bs a' w') a w := by
        unfold wpTail at h
        split at h
        · exact absurd rfl hb
        · exact absurd rfl hb3
        · exact h
      refine ⟨fun h0 => (by rw [hr] at h0; cases h0), fun i hi => ?_⟩
      rw [hr, List.mem_singleton] at hi
      subst hi
      exact wpOp_mono (fun a' w' ⟨h1, h2⟩ => ⟨fun hl _ => h1 hl, any_of_tail hsel hQ ts bs _ a' w' hok.2 h2⟩) hk
theorem any_of_take {late neut ts bs : List Nat} (hsel : ∀ (j : Nat) (o : Oper) cs b, ops[j]? = some o → o.op ≠ .select cs b) (hQ : ∀ c a d v w, Q (.panic c) (a.put d v) w → Q (.panic c) a w) (w : World) (hC : C w) :
    ∀ (qs : List Nat) (os : List Oper) (l : Array Bool) (a : Act), qs.map (ops[·]?) = os.map some → okTake md ops late neut ts bs qs l = true → wpQuiet P ops C (fun a' => wpTail P ops Q C late ts bs a' w) os a → wpAnyL P md ops Q C late.contains neut.contains (qs.length + ts.length) l a w
  | [], [], l, a, _, hok, h => by
    rw [List.length_nil, Nat.zero_add]
    exact any_of_tail hsel hQ ts bs l a w hok h
  | [], _ :: _, _, _, he, _, _ => by simp at he
  | _ :: _, [], _, _, he, _, _ => by simp at he
  | q :: qs, o :: os, l, a, he, hok, h => by
    simp only [List.map_cons, List.cons.injEq] at he
    simp only [okTake, Bool.and_eq_true] at hok
    obtain ⟨⟨⟨⟨h1, h2⟩, h3⟩, h4⟩, h5⟩ := hok
    rw [he.1] at h4
    have hp : plainB o.op = true := by simpa using h4
    have hy : ∃ v, YieldsIf P ops C o v a ∧ wpQuiet P ops C (fun a' => wpTail P ops Q C late ts bs a' w) os (a.put o.dst v) := by
      unfold wpQuiet at h
      split at h
      · rename_i hw
        obtain ⟨v, hv, hk⟩ := h
        exact ⟨v, yieldsIf_of_quiet hp hw hv, hk⟩
      · rename_i hw
        exact ⟨undef, .inr ⟨by simpa using hw, rfl⟩, h⟩
    obtain ⟨v, hv, hk⟩ := hy
    rw [List.length_cons, show qs.length + 1 + ts.length = (qs.length + ts.length) + 1 by omega]
    refine wpAnyL_first he.1 hsel (fun c a w => hQ c a o.dst v w) (fun j oj hj hlj => ?_) _ l a w (Region.free_spec he.1 h1) (by simpa using h2) hv hC (any_of_take hsel hQ w hC qs os _ _ he.2 h5 hk)
    unfold lateWaits at h3
    rw [List.all_eq_true] at h3
    have := h3 j (by simpa using hlj)
    rw [hj] at this
    simp only [Option.map_some, Option.getD_some] at this
    obtain ⟨e, he', hb⟩ := Array.any_eq_true'.1 this
    simp only [Bool.and_eq_true, beq_iff_eq] at hb
    exact ⟨e, he', hb.1, hb.2⟩
/-- THE LAW: the quiet walk of what only reads, then the rest. -/
theorem wp_region_turn {id : Nat} {a : Act} {w : World} {l : List Oper} (qs ts bs late neut : List Nat) (os : List Oper) (C : World → Prop) (hm : P.follows .mixedOrders = true) (hs : Region.noSelect l.toArray = true) (he : qs.map (l.toArray[·]?) = os.map some)
    (hok : okTake .any l.toArray late neut ts bs qs (Array.replicate l.toArray.size false) = true) (hlen : qs.length + ts.length = l.toArray.size) (hC : C w.drew)
    (h : wpQuiet P l.toArray C (fun a' => wpTail P l.toArray (NoPanic Q) C late ts bs a' w.drew) os a) : (Code.region id l.toArray true).wp P Q a w := by
  refine wp_region_noPanic ?_
  refine wp_region_any hm (wpAny_of_late (C := C) (late := late.contains) (neut := neut.contains) _ _ _ _ ?_)
  rw [← hlen]
  exact any_of_take (Region.noSelect_spec hs) (fun _ _ _ _ _ h => h) w.drew hC qs os _ a he (by rw [hlen]; exact hok) h
theorem wpQuiet_mono' {Q1 Q2 : Act → Prop} (h : ∀ a, Q1 a → Q2 a) : ∀ {os : List Oper} {a : Act}, wpQuiet P ops C Q1 os a → wpQuiet P ops C Q2 os a
  | [], a, hh => h a hh
  | o :: os, a, hh => by
    unfold wpQuiet at hh ⊢
    split
    · rename_i hw
      rw [if_pos hw] at hh
      exact Oper.quiet_mono (fun a' => wpQuiet_mono' h) hh
    · rename_i hw
      rw [if_neg hw] at hh
      exact wpQuiet_mono' h hh
/-- Those that a mask names. -/
def pickAt : List Oper → List Bool → List Oper
  | o :: os, true :: m => o :: pickAt os m
  | _ :: os, false :: m => pickAt os m
  | _, _ => []
def maskIdx : Nat → List Bool → List Nat
  | _, [] => []
  | k, true :: m => k :: maskIdx (k + 1) m
  | k, false :: m => maskIdx (k + 1) m
theorem mask_ok {l : List Oper} : ∀ (m : List Bool) (k : Nat), k + m.length ≤ l.length → (maskIdx k m).map (l.toArray[·]?) = (pickAt (l.drop k) m).map some
  | [], k, _ => by simp [maskIdx]; cases l.drop k <;> rfl
  | b :: m, k, h => by
    have hk : k < l.length := by simp at h; omega
    have ih := mask_ok (l := l) m (k + 1) (by simp at h; omega)
    rw [List.drop_eq_getElem_cons hk]
    cases b
    · exact ih
    · simp only [maskIdx, pickAt, List.map_cons]
      rw [ih]
      simp [hk]
/-- A world of a class: what the walk's simp goes over. -/
structure Cls (C : World → Prop) where
  at_ : World
  ok : C at_
def InC (C : World → Prop) (w : World) : Prop := ∃ u : Cls C, w = u.at_
theorem InC.mk {C : World → Prop} {w : World} (h : C w) : InC C w := ⟨⟨w, h⟩, rfl⟩
theorem InC.out {C : World → Prop} {w : World} (h : ∃ u : Cls C, w = u.at_) : C w := by obtain ⟨u, rfl⟩ := h; exact u.ok
/-- What is left, one behind another, the operations themselves; a mark each. -/
def wpRest (P : Program) (ops : Array Oper) (Q : Exit → Act → World → Prop) (C : World → Prop) : List Nat → List Oper → Act → World → Prop
  | b :: bs, o :: os, a, w => (match b with
      | 2 => ∃ v, Yields P ops o v a ∧ wpRest P ops Q C bs os (a.put o.dst v) w
      | 3 => ∃ v, Yields P ops o v a ∧ wpRest P ops Q C bs os (a.put o.dst v) w
      | _ => if Region.wanted o (yielded ops a.tmps) = true then o.wp P a w (fun a' w' => (b = 0 → C w') ∧ wpRest P ops Q C bs os a' w') Q else ((b = 0 → C w) ∧ wpRest P ops Q C bs os (a.put o.dst undef) w))
  | _, _, a, w => Q .normal a w
theorem wpRest_cons {b : Nat} {bs : List Nat} {o : Oper} {os : List Oper} {a : Act} {w : World} (hb : (b != 2 && b != 3) = true) (hw : Region.wanted o (yielded ops a.tmps) = true)
    (h : ∀ K : Act → World → Prop, (∀ a' w', (b = 0 → C w') → wpRest P ops Q C bs os a' w' → K a' w') → o.wp P a w K Q) : wpRest P ops Q C (b :: bs) (o :: os) a w := by
  unfold wpRest
  split
  · simp at hb
  · simp at hb
  · rw [if_pos hw]
    exact h _ fun a' w' h1 h2 => ⟨h1, h2⟩
/-- A number handed on, whenever. -/
theorem wpRest_assign {bs : List Nat} {o : Oper} {os : List Oper} {a : Act} {w : World} (x : Operand) (ho : o.op = .assign x) (hw : Region.wanted o (yielded ops a.tmps) = true) {v : Value} (hx : ValOf a x v)
    (h : wpRest P ops Q C bs os (a.put o.dst v) w) : wpRest P ops Q C (2 :: bs) (o :: os) a w :=
  ⟨v, .inl ⟨hw, fun w => by unfold execOp; simp only [ho, hx.eval]; rfl⟩, h⟩
theorem wpRest_nil {a : Act} {w : World} (h : Q .normal a w) : wpRest P ops Q C [] [] a w := h
theorem tail_of_rest {late : List Nat} : ∀ (ts bs : List Nat) (os : List Oper) (a : Act) (w : World), ts.map (ops[·]?) = os.map some → ts.map (late.contains ·) = bs.map (fun b => b != 0 && b != 3) → wpRest P ops Q C bs os a w → wpTail P ops Q C late ts bs a w
  | [], bs, os, a, w, h1, h2, h => by
    obtain rfl : os = [] := by simpa using h1.symm
    obtain rfl : bs = [] := by simpa using h2.symm
    exact h
  | t :: ts, bs, os, a, w, h1, h2, h => by
    cases os with
    | nil => simp at h1
    | cons o os =>
      cases bs with
      | nil => simp at h2
      | cons b bs =>
        simp only [List.map_cons, List.cons.injEq] at h1 h2
        by_cases hb : b = 2
        · subst hb
          obtain ⟨v, hy, hk⟩ := h
          exact ⟨o, v, h1.1, hy, tail_of_rest ts bs os _ w h1.2 h2.2 hk⟩
        by_cases hb3 : b = 3
        · subst hb3
          obtain ⟨v, hy, hk⟩ := h
          exact ⟨o, v, h1.1, hy, tail_of_rest ts bs os _ w h1.2 h2.2 hk⟩
        · unfold wpTail
          unfold wpRest at h
          split
          · exact absurd rfl hb
          · exact absurd rfl hb3
          · unfold wpOp
            simp only [h1.1]
            split at h
            · exact absurd rfl hb
            · exact absurd rfl hb3
            · have hlt : late.contains t = false → b = 0 := fun hh => by
                rw [hh] at h2
                have h3 := h2.1
                have hb3' : (b != 3) = true := by simpa using hb3
                rw [hb3', Bool.and_true] at h3
                simpa using h3.symm
              split
              · rename_i hw
                rw [if_pos hw] at h
                exact .inl (Oper.wp_mono (fun a' w' ⟨k1, k2⟩ => ⟨fun hh => k1 (hlt hh), tail_of_rest ts bs os a' w' h1.2 h2.2 k2⟩) h)
              · rename_i hw
                rw [if_neg hw] at h
                exact ⟨fun hh => h.1 (hlt hh), tail_of_rest ts bs os _ w h1.2 h2.2 h.2⟩
def lateOf : List Nat → List Nat → List Nat
  | _ :: ts, 0 :: bs => lateOf ts bs
  | _ :: ts, 3 :: bs => lateOf ts bs
  | t :: ts, _ :: bs => t :: lateOf ts bs
  | _, _ => []
def neutOf : List Nat → List Nat → List Nat
  | t :: ts, 3 :: bs => t :: neutOf ts bs
  | _ :: ts, _ :: bs => neutOf ts bs
  | _, _ => []
theorem wp_region_mask {id : Nat} {a : Act} {w : World} {l : List Oper} (m m2 : List Bool) (bs : List Nat) (C : World → Prop) (hm : P.follows .mixedOrders = true) (hs : Region.noSelect l.toArray = true) (hl : ((m.length == l.length) && (m2.length == l.length)) = true)
    (hok : (okTake .any l.toArray (lateOf (maskIdx 0 m2) bs) (neutOf (maskIdx 0 m2) bs) (maskIdx 0 m2) bs (maskIdx 0 m) (Array.replicate l.toArray.size false) && (((maskIdx 0 m).length + (maskIdx 0 m2).length == l.toArray.size) && ((maskIdx 0 m2).map ((lateOf (maskIdx 0 m2) bs).contains ·) == bs.map (fun b => b != 0 && b != 3)))) = true) (hC : C w.drew)
    (h : Nonempty (Cls C) → wpQuiet P l.toArray (fun w' => ∃ u : Cls C, w' = u.at_) (fun a' => wpRest P l.toArray (NoPanic Q) (InC C) bs (pickAt l m2) a' w.drew) (pickAt l m) a) : (Code.region id l.toArray true).wp P Q a w := by
  simp only [Bool.and_eq_true, beq_iff_eq] at hl hok
  refine wp_region_turn (maskIdx 0 m) (maskIdx 0 m2) bs (lateOf (maskIdx 0 m2) bs) (neutOf (maskIdx 0 m2) bs) (pickAt l m) (InC C) hm hs (mask_ok (l := l) m 0 (by omega)) hok.1 hok.2.1 (InC.mk hC) ?_
  exact wpQuiet_mono' (fun a' h' => tail_of_rest _ _ _ a' _ (mask_ok (l := l) m2 0 (by omega)) hok.2.2 h') (h ⟨⟨_, hC⟩⟩)
/-- A load of one cell, in a quiet walk, whatever the class. -/
theorem wpQuiet_ld {Q : Act → Prop} {a : Act} {o : Oper} {rest : List Oper} (ty : TypeId) (x : Operand) (ho : o.op = .load ty x) (ad : Addr) (hx : a.eval x = .pointer (some ad)) (hw : Region.wanted o (yielded ops a.tmps) = true)
    (hp : (P.underlying ty).any (fun d => !d.isRow) = true) {v : Value} (h : ∀ w, C w → w.cell? ad = some v) (hk : wpQuiet P ops (fun w' => ∃ u : Cls C, w' = u.at_) Q rest (a.put o.dst v)) : wpQuiet P ops (fun w' => ∃ u : Cls C, w' = u.at_) Q (o :: rest) a := by
  refine BigFrame.wpQuiet_want hw fun K hK => ⟨v, fun w hC => ?_, hK _ hk⟩
  replace hC := InC.out hC
  unfold Oper.quietAt execOp
  simp only [ho, hx, Instr.loadAt, Instr.sureAddr, Sem.run_bind, Sem.run_pure, Result.andThen_ok, run_loadVar_one w ad ty v (h w hC) hp]
  exact ⟨rfl, rfl⟩
/-- A load of many. -/
theorem wpQuiet_la {Q : Act → Prop} {a : Act} {o : Oper} {rest : List Oper} (ty : TypeId) (x : Operand) (ho : o.op = .load ty x) (b off : Nat) (hx : a.eval x = .pointer (some ⟨b, off, none⟩)) (hw : Region.wanted o (yielded ops a.tmps) = true)
    (hr : (P.underlying ty).any (·.isRow) = true) (cs : List Value) (hi : (P.info? ty).map (·.size) = some cs.length) (h : ∀ w, C w → w.rangeAt b off cs) (hk : wpQuiet P ops (fun w' => ∃ u : Cls C, w' = u.at_) Q rest (a.put o.dst (.agg cs.toArray))) : wpQuiet P ops (fun w' => ∃ u : Cls C, w' = u.at_) Q (o :: rest) a := by
  refine BigFrame.wpQuiet_want hw fun K hK => ⟨.agg cs.toArray, fun w hC => ?_, hK _ hk⟩
  replace hC := InC.out hC
  cases hd : P.underlying ty with
  | none => rw [hd] at hr; cases hr
  | some d =>
    rw [hd] at hr
    unfold Oper.quietAt execOp
    simp only [ho, hx, Instr.loadAt, Instr.sureAddr, Sem.run_bind, Sem.run_pure, Result.andThen_ok, run_loadVar_mid w b off ty cs d (h w hC) hd hr hi]
    exact ⟨rfl, rfl⟩
end
end Go.Proofs.YtnjognmnbpcaaaaGreat
namespace Go.Proofs.YtnjognmnbpcaaaaGreat
open Go.RowKit
set_option linter.unusedSimpArgs false
set_option linter.unusedVariables false
/-- A session with another list. -/
def PSess.setL (x : PSess) (j : Nat) (l : List Int) : PSess := match j with | 0 => { x with prog := l } | 1 => { x with reads := l } | _ => { x with writes := l }
def SesM.setL (q : SesM) (j : Nat) (s : Sl) : SesM := match j with | 0 => { q with p := s } | 1 => { q with r := s } | _ => { q with t := s }
def posL (j : Nat) : Nat := match j with | 0 => 3 | 1 => 10 | _ => 11
def szL (j : Nat) : Nat := match j with | 0 => 4 | _ => 3
theorem SesM.sl_setL (q : SesM) {j k : Nat} (hj : j < 3) (hk : k < 3) (s : Sl) : (q.setL j s).sl k = if k = j then s else q.sl k := by
  have : j = 0 ∨ j = 1 ∨ j = 2 := by omega
  have : k = 0 ∨ k = 1 ∨ k = 2 := by omega
  rcases ‹j = 0 ∨ j = 1 ∨ j = 2› with rfl | rfl | rfl <;> rcases ‹k = 0 ∨ k = 1 ∨ k = 2› with rfl | rfl | rfl <;> rfl
theorem sessOf_setL (q : SesM) (x : PSess) {j : Nat} (hj : j < 3) (s : Sl) (l : List Int) : sessOf (q.setL j s) (x.setL j l) = (sessOf q x).set (posL j) (.slice s.a s.n s.c) := by
  have : j = 0 ∨ j = 1 ∨ j = 2 := by omega
  rcases this with rfl | rfl | rfl <;> rfl
theorem SessIs.setL {W : World} {q : SesM} {x : PSess} (h : SessIs W q x) {j : Nat} (hj : j < 3) {s : Sl} {l : List Int} (hs : SlIs W (szL j) s l) : SessIs W (q.setL j s) (x.setL j l) := by
  have : j = 0 ∨ j = 1 ∨ j = 2 := by omega
  rcases this with rfl | rfl | rfl
  · exact ⟨h.1, hs, h.2.2.1, h.2.2.2⟩
  · exact ⟨h.1, h.2.1, hs, h.2.2.2⟩
  · exact ⟨h.1, h.2.1, h.2.2.1, hs⟩
section
variable {D : Nat → Prop} {W W' : World} {A : MacM} {M : PMach}
/-- A session's lists stand as they stood where a cell of the sessions' block is written over. -/
theorem MachOwn.sesKeep (h : MachOwn D W A M) {i b : Nat} (hi' : i < A.s.n) (hb : A.s.a = some ⟨b, 0, none⟩) (ht : Touch b (b + 1) W W') : SessIs W' (A.q i) (M.at i) := by
  have hs : SessIs W (A.q i) (M.at i) := h.is.sess.2.2.2 i hi'
  refine hs.keep ht.size fun j hj h0 b' o e => ?_
  have hn : 6 + 3 * i + j < A.num := by unfold MacM.num; omega
  have hne := h.ne (j := 6 + 3 * i + j) (k := 4) (by omega) hn (by unfold MacM.num; omega) (by rw [A.sl_q i hj]; exact h0) (by rw [A.sl_s]; omega)
  rw [A.sl_q i hj, A.sl_s, hb, e] at hne
  obtain ⟨b2, e2, _, l, hl⟩ := h.own _ hn (by rw [A.sl_q i hj]; exact h0)
  rw [A.sl_q i hj, e] at e2
  cases e2
  exact ht.block b' (by simp at hne; omega) hl.lt
theorem MachOwn.sesOwnKeep (h : MachOwn D W A M) {i b : Nat} (hi' : i < A.s.n) (ht : Touch b (b + 1) W W') (t2 : ∃ l, Blk W' b l) {j : Nat} (hj : j < 3) : SlOwn D W' ((A.q i).sl j) := fun h0 => by
  have hn : 6 + 3 * i + j < A.num := by unfold MacM.num; omega
  obtain ⟨b2, e2, h1, l, hl⟩ := h.own _ hn (by rw [A.sl_q i hj]; exact h0)
  rw [A.sl_q i hj] at e2
  by_cases hbb : b2 = b
  · subst hbb; exact ⟨b2, e2, h1, t2⟩
  · exact ⟨b2, e2, h1, l, hl.touch ht (by omega)⟩
/-- A list of a session is laid by. -/
theorem MachOwn.turnNil (h : MachOwn D W A M) {i b j : Nat} (hi' : i < A.s.n) (hb : A.s.a = some ⟨b, 0, none⟩) (hj : j < 3) :
    MachOwn D (W.setCell ⟨b, i * 17 + posL j, none⟩ (.slice none 0 0)) (A.setQ i ((A.q i).setL j noSl)) (M.setS i ((M.at i).setL j [])) := by
  have hp : posL j < 17 := by unfold posL; split <;> omega
  obtain ⟨t1, t2, t3, t4⟩ := h.cellTurn hi' hb hp (.slice none 0 0)
  refine h.turn hi' hb ((A.q i).setL j noSl) ((M.at i).setL j []) t1 t2 (fun k hk => by rw [sessOf_setL _ _ hj]; exact t3 k hk) t4 ((h.sesKeep hi' hb t1).setL hj (slIs_none _ _)) (fun k hk => ?_) (fun k m hk hm hkm h0 h1 => ?_) (fun v hv g hg k hk h0 => ?_)
  · rw [SesM.sl_setL _ hj hk]
    split
    · exact slOwn_none _ _ rfl
    · exact h.sesOwnKeep hi' t1 t2 hk
  · rw [SesM.sl_setL _ hj hk] at h0 ⊢
    split at h0
    · exact absurd h0 (Nat.lt_irrefl 0)
    · rename_i hkj
      rw [if_neg hkj]
      rw [MacM.sl_setQ] at h1 ⊢
      split at h1
      · rename_i hc
        rw [if_pos hc]
        rw [SesM.sl_setL _ hj (Nat.mod_lt _ (by decide))] at h1 ⊢
        split at h1
        · exact absurd h1 (Nat.lt_irrefl 0)
        · rename_i hkj2
          rw [if_neg hkj2]
          have := h.ne (j := m) (k := 6 + 3 * i + k) (by omega) hm (by unfold MacM.num; omega) (by unfold MacM.sl; rw [if_neg (by omega), if_neg (by omega), if_neg (by omega), hc.2]; exact h1) (by rw [A.sl_q i hk]; exact h0)
          rw [A.sl_q i hk] at this
          unfold MacM.sl at this
          rw [if_neg (by omega), if_neg (by omega), if_neg (by omega), hc.2] at this
          exact this
      · rename_i hc
        rw [if_neg hc]
        have := h.ne (j := m) (k := 6 + 3 * i + k) (by omega) hm (by unfold MacM.num; omega) h1 (by rw [A.sl_q i hk]; exact h0)
        rw [A.sl_q i hk] at this
        exact this
  · rw [SesM.sl_setL _ hj hk] at h0 ⊢
    split at h0
    · exact absurd h0 (Nat.lt_irrefl 0)
    · rename_i hkj
      rw [if_neg hkj]
      exact h.ses5 hi' v hv g hg k hk h0
/-- A number of a word is written. -/
theorem MachOwn.turnW (h : MachOwn D W A M) {g b c : Nat} (hg : g < 4) (hc : c < (A.w g).n * 3) (hb : (A.w g).a = some ⟨b, 0, none⟩) (v : Int) :
    MachOwn D (W.setCell ⟨b, c, none⟩ (.int .i64 v)) A (M.setLv g ((M.lv g).set c v)) := by
  have nn : A.num = 6 + 3 * A.s.n := rfl
  have h0g : 0 < (A.sl g).n := by rw [A.sl_w hg]; exact Nat.pos_of_mul_pos_right (by omega : 0 < (A.w g).n * 3)
  have hbg : (A.sl g).a = some ⟨b, 0, none⟩ := by rw [A.sl_w hg]; exact hb
  have ht : Touch b (b + 1) W (W.setCell ⟨b, c, none⟩ (.int .i64 v)) := (Touch.refl b (b + 1) W).setCell (a := ⟨b, c, none⟩) (Nat.le_refl b) (Nat.lt_succ_self b) _
  obtain ⟨b2, e2, hDb, lb, hlb⟩ := h.own g (by omega) h0g
  rw [hbg] at e2; cases e2
  have lt_of : ∀ j, j < A.num → 0 < (A.sl j).n → ∀ b' o, (A.sl j).a = some ⟨b', o, none⟩ → b' < W.heap.size := fun j hj h0 b' o e => by
    obtain ⟨b2, e2, _, l, hl⟩ := h.own j hj h0
    rw [e2] at e; cases e; exact hl.lt
  have far : ∀ j, j < A.num → j ≠ g → 0 < (A.sl j).n → ∀ b' o, (A.sl j).a = some ⟨b', o, none⟩ → b' ≠ b := fun j hj hjg h0 b' o e hbb => by
    subst hbb
    obtain ⟨b2, e2, _⟩ := h.own j hj h0
    rw [e2] at e; cases e
    exact h.ne hjg hj (by omega) h0 h0g (by rw [e2, hbg])
  have kp : ∀ j, j < A.num → j ≠ g → 0 < (A.sl j).n → ∀ b' o, (A.sl j).a = some ⟨b', o, none⟩ → (W.setCell ⟨b, c, none⟩ (.int .i64 v)).heap[b']? = W.heap[b']? := fun j hj hjg h0 b' o e => ht.block b' (by have := far j hj hjg h0 b' o e; omega) (lt_of j hj h0 b' o e)
  have hlen : (M.lv g).length = (A.w g).n * 3 := (h.is.words g hg).1
  have h4 := h.is.four
  have lvs : ∀ k, (M.setLv g ((M.lv g).set c v)).lv k = if k = g then (M.lv g).set c v else M.lv k := fun k => by
    show (M.words.set g _).getD k [] = _
    by_cases e : k = g
    · subst e; rw [if_pos rfl, getD_set_eq _ _ (by omega)]
    · rw [if_neg e, getD_set_ne' _ _ (Ne.symm e)]; rfl
  refine ⟨⟨by show (M.words.set g _).length = 4; rw [List.length_set]; exact h4, h.is.clocks, fun k hk => ?_, ⟨h.is.sess.1, h.is.sess.2.1, ?_, fun i hi => ?_⟩, ?_⟩, fun j hj => ?_, h.apart, ?_⟩
  · rw [lvs k]
    by_cases e : k = g
    · subst e
      rw [if_pos rfl]
      have hw := h.is.words k hk
      refine ⟨by rw [List.length_set]; exact hw.1, hw.2.1, fun i hi => ?_⟩
      obtain ⟨b3, off, e3, hlt, hcc⟩ := hw.2.2 i hi
      rw [hb] at e3; cases e3
      refine ⟨b, 0, hb, Nat.lt_of_lt_of_le hlt ht.size, ?_⟩
      rw [Nat.zero_add] at hcc ⊢
      show (W.setCell ⟨b, c, none⟩ (.int .i64 v)).cell? ⟨b, i, none⟩ = some (.int .i64 (lz ((M.lv k).set c v) i))
      rw [lz_set (by rw [hlen]; exact hc)]
      by_cases e : i = c
      · subst e; rw [if_pos rfl]; exact World.cell?_setCell_same _ _ _ hcc
      · rw [if_neg e, World.cell?_setCell_other _ _ _ _ (fun he => by simp only [Addr.mk.injEq] at he; omega)]; exact hcc
    · rw [if_neg e]
      exact (h.is.words k hk).keep ht.size fun h0 b' o e' => kp k (by omega) e (by rw [A.sl_w hk]; exact h0) b' o (by rw [A.sl_w hk]; exact e')
  · exact h.is.sess.2.2.1.keep ht.size fun h0 b' o e => kp 4 (by omega) (by omega) (by rw [A.sl_s]; exact Nat.pos_of_mul_pos_right h0) b' o (by rw [A.sl_s]; exact e)
  · have hi' : i < A.s.n := hi
    exact (h.is.sess.2.2.2 i hi).keep ht.size fun j hj h0 b' o e => kp (6 + 3 * i + j) (by omega) (by omega) (by rw [A.sl_q i hj]; exact h0) b' o (by rw [A.sl_q i hj]; exact e)
  · exact h.is.trace.keep ht.size fun h0 b' o e => kp 5 (by omega) (by omega) (by rw [A.sl_e]; exact h0) b' o (by rw [A.sl_e]; exact e)
  · intro h0
    obtain ⟨b2, e2, h1, l, hl⟩ := h.own j hj h0
    by_cases hbb : b2 = b
    · subst hbb; exact ⟨b2, e2, h1, _, hl.set c _⟩
    · exact ⟨b2, e2, h1, l, hl.touch ht (by omega)⟩
  · obtain ⟨v', hv', ho, hb5⟩ := h.trace
    exact ⟨v', hv', ownsRow_keep ho fun g' hg' => ht.block g' (by
      have : g' ≠ b := fun e => (hb5 g' hg').2 g (by omega) (by omega) h0g (by rw [hbg, e])
      omega) (ho.lt g' hg').2, hb5⟩
theorem MachOwn.wblk (h : MachOwn D W A M) {g : Nat} (hg : g < 4) (h0 : 0 < (A.w g).n) : ∃ b, (A.w g).a = some ⟨b, 0, none⟩ ∧ D b ∧ ∃ l, Blk W b l := by
  have := h.own g (by unfold MacM.num; omega) (by rw [A.sl_w hg]; exact h0)
  rw [A.sl_w hg] at this
  exact this
end
section
variable {w0 w : World} {L : List Itm} {P : Program} {ops : Array Oper} {rest : List Oper} {op : Oper} {a : Act} {K : Act → World → Prop} {Q : Exit → Act → World → Prop} {D : Nat → Prop} {A : MacM} {M : PMach}
/-- A cell of a session. -/
theorem stw_loadS (h : MachIs w A M) {k bs off : Nat} (hk : k < A.s.n) (hbs : A.s.a = some ⟨bs, off, none⟩) (c : Nat) (hc : c < 17) {v : Value} (hv : (sessOf (A.q k) (M.at k))[c]? = some v) (ty : TypeId) (x : Operand) (ho : op.op = .load ty x) (o : Nat) (hx : a.eval x = .pointer (some ⟨bs, o, none⟩)) (ho' : o = off + (k * 17 + c))
    (hp : (P.underlying ty).any (fun d => !d.isRow) = true) (hw : K (a.put op.dst v) w) : op.wp P a w K Q := by
  have hcell : w.cell? ⟨bs, o, none⟩ = some v := by
    obtain ⟨b2, off2, e2, _, hcc⟩ := h.sess.cell hk hc
    rw [hbs] at e2; cases e2
    rw [ho', hcc]
    show some ((sessOf (A.q k) (M.at k)).getD c undef) = _
    rw [List.getD_eq_getElem?_getD, hv]
    rfl
  unfold Oper.wp execOp
  simp only [ho, hx, Instr.loadAt, Instr.sureAddr, Sem.run_bind, Sem.run_pure, Result.andThen_ok, run_loadVar_one w _ ty v hcell hp]
  exact hw
theorem st_loadS (h : MachIs w A M) {k bs off : Nat} (hk : k < A.s.n) (hbs : A.s.a = some ⟨bs, off, none⟩) (c : Nat) (hc : c < 17) {v : Value} (hv : (sessOf (A.q k) (M.at k))[c]? = some v) (ty : TypeId) (x : Operand) (ho : op.op = .load ty x) (o : Nat) (hx : a.eval x = .pointer (some ⟨bs, o, none⟩)) (ho' : o = off + (k * 17 + c)) (hgd : Region.wanted op (yielded ops a.tmps) = true)
    (hp : (P.underlying ty).any (fun d => !d.isRow) = true) (hw : wpList P ops Q rest (a.put op.dst v) w) : wpList P ops Q (op :: rest) a w :=
  BigFrame.wpList_want hgd fun _ hK => stw_loadS h hk hbs c hc hv ty x ho o hx ho' hp (hK _ _ hw)
theorem stw_storeN (HS : Hid (St w0 w L)) (i : Nat) (ei : L[i]? = some (machI D A M)) {k bs : Nat} (hk : k < A.s.n) (hbs : A.s.a = some ⟨bs, 0, none⟩) (j : Nat) (hj : j < 14) (ty : TypeId) (x y : Operand) (ho : op.op = .store ty x y) (o : Nat) (hx : a.eval x = .pointer (some ⟨bs, o, none⟩)) (ho' : o = k * 17 + posN j)
    {v : Int} (hy : ValOf a y (.int .i64 v)) (hi : (P.info? ty).map (·.size) = some 1) (hw : ∀ W, Hid (St w0 W (L.set i (machI D A (M.setS k ((M.at k).setN j v))))) → K (a.put op.dst undef) W) : op.wp P a w K Q := by
  have hM : MachOwn D w A M := HS.out.get i ei
  have hp : posN j < 17 := by unfold posN; split <;> (try split) <;> omega
  obtain ⟨b, e, hD, l, hl⟩ := hM.sblk hk
  rw [hbs] at e; cases e
  have hc : ∃ u, w.cell? ⟨bs, k * 17 + posN j, none⟩ = some u := by
    obtain ⟨b2, off, e2, _, hcc⟩ := hM.is.sess.cell hk hp
    rw [hbs] at e2; cases e2
    rw [Nat.zero_add] at hcc
    exact ⟨_, hcc⟩
  obtain ⟨u, hu⟩ := hc
  subst ho'
  unfold Oper.wp execOp
  simp only [ho, hx, hy.eval, Instr.storeAt, Instr.sureAddr, Sem.run_bind, Sem.run_pure, Result.andThen_ok, run_storeVar_one w ⟨bs, k * 17 + posN j, none⟩ ty u (.int .i64 v) hu (hl.frozen _) rfl hi]
  exact hw _ (HS.out.set i ei _ (chg_set hD) (machI_loc _ _ _) (hM.turnN hk hbs hj v) fun k hk => .inl hk)
theorem st_storeN (HS : Hid (St w0 w L)) (i : Nat) (ei : L[i]? = some (machI D A M)) {k bs : Nat} (hk : k < A.s.n) (hbs : A.s.a = some ⟨bs, 0, none⟩) (j : Nat) (hj : j < 14) (ty : TypeId) (x y : Operand) (ho : op.op = .store ty x y) (o : Nat) (hx : a.eval x = .pointer (some ⟨bs, o, none⟩)) (ho' : o = k * 17 + posN j) (hgd : Region.wanted op (yielded ops a.tmps) = true)
    {v : Int} (hy : ValOf a y (.int .i64 v)) (hi : (P.info? ty).map (·.size) = some 1) (hw : ∀ W, Hid (St w0 W (L.set i (machI D A (M.setS k ((M.at k).setN j v))))) → wpList P ops Q rest (a.put op.dst undef) W) : wpList P ops Q (op :: rest) a w :=
  BigFrame.wpList_want hgd fun _ hK => stw_storeN HS i ei hk hbs j hj ty x y ho o hx ho' hy hi fun W h => hK _ _ (hw W h)
theorem stw_storeNil (HS : Hid (St w0 w L)) (i : Nat) (ei : L[i]? = some (machI D A M)) {k bs : Nat} (hk : k < A.s.n) (hbs : A.s.a = some ⟨bs, 0, none⟩) (j : Nat) (hj : j < 3) (ty : TypeId) (x y : Operand) (ho : op.op = .store ty x y) (o : Nat) (hx : a.eval x = .pointer (some ⟨bs, o, none⟩)) (ho' : o = k * 17 + posL j)
    (hy : ValOf a y (.slice none 0 0)) (hi : (P.info? ty).map (·.size) = some 1) (hw : ∀ W, Hid (St w0 W (L.set i (machI D (A.setQ k ((A.q k).setL j noSl)) (M.setS k ((M.at k).setL j []))))) → K (a.put op.dst undef) W) : op.wp P a w K Q := by
  have hM : MachOwn D w A M := HS.out.get i ei
  have hp : posL j < 17 := by unfold posL; split <;> omega
  obtain ⟨b, e, hD, l, hl⟩ := hM.sblk hk
  rw [hbs] at e; cases e
  have hc : ∃ u, w.cell? ⟨bs, k * 17 + posL j, none⟩ = some u := by
    obtain ⟨b2, off, e2, _, hcc⟩ := hM.is.sess.cell hk hp
    rw [hbs] at e2; cases e2
    rw [Nat.zero_add] at hcc
    exact ⟨_, hcc⟩
  obtain ⟨u, hu⟩ := hc
  subst ho'
  unfold Oper.wp execOp
  simp only [ho, hx, hy.eval, Instr.storeAt, Instr.sureAddr, Sem.run_bind, Sem.run_pure, Result.andThen_ok, run_storeVar_one w ⟨bs, k * 17 + posL j, none⟩ ty u (.slice none 0 0) hu (hl.frozen _) rfl hi]
  exact hw _ (HS.out.set i ei _ (chg_set hD) (machI_loc _ _ _) (hM.turnNil hk hbs hj) fun k hk => .inl hk)
theorem st_storeNil (HS : Hid (St w0 w L)) (i : Nat) (ei : L[i]? = some (machI D A M)) {k bs : Nat} (hk : k < A.s.n) (hbs : A.s.a = some ⟨bs, 0, none⟩) (j : Nat) (hj : j < 3) (ty : TypeId) (x y : Operand) (ho : op.op = .store ty x y) (o : Nat) (hx : a.eval x = .pointer (some ⟨bs, o, none⟩)) (ho' : o = k * 17 + posL j) (hgd : Region.wanted op (yielded ops a.tmps) = true)
    (hy : ValOf a y (.slice none 0 0)) (hi : (P.info? ty).map (·.size) = some 1) (hw : ∀ W, Hid (St w0 W (L.set i (machI D (A.setQ k ((A.q k).setL j noSl)) (M.setS k ((M.at k).setL j []))))) → wpList P ops Q rest (a.put op.dst undef) W) : wpList P ops Q (op :: rest) a w :=
  BigFrame.wpList_want hgd fun _ hK => stw_storeNil HS i ei hk hbs j hj ty x y ho o hx ho' hy hi fun W h => hK _ _ (hw W h)
/-- A number of a word. -/
theorem stw_storeW (HS : Hid (St w0 w L)) (i : Nat) (ei : L[i]? = some (machI D A M)) {g b c : Nat} (hg : g < 4) (hc : c < (A.w g).n * 3) (hb : (A.w g).a = some ⟨b, 0, none⟩) (ty : TypeId) (x y : Operand) (ho : op.op = .store ty x y) (hx : a.eval x = .pointer (some ⟨b, c, none⟩))
    {v : Int} (hy : ValOf a y (.int .i64 v)) (hi : (P.info? ty).map (·.size) = some 1) (hw : ∀ W, Hid (St w0 W (L.set i (machI D A (M.setLv g ((M.lv g).set c v))))) → K (a.put op.dst undef) W) : op.wp P a w K Q := by
  have hM : MachOwn D w A M := HS.out.get i ei
  obtain ⟨b2, e, hD, l, hl⟩ := hM.wblk hg (Nat.pos_of_mul_pos_right (by omega : 0 < (A.w g).n * 3))
  rw [hb] at e; cases e
  have hcell : ∃ u, w.cell? ⟨b, c, none⟩ = some u := by
    obtain ⟨b2, off, e2, _, hcc⟩ := (hM.is.words g hg).2.2 c hc
    rw [hb] at e2; cases e2
    rw [Nat.zero_add] at hcc
    exact ⟨_, hcc⟩
  obtain ⟨u, hu⟩ := hcell
  unfold Oper.wp execOp
  simp only [ho, hx, hy.eval, Instr.storeAt, Instr.sureAddr, Sem.run_bind, Sem.run_pure, Result.andThen_ok, run_storeVar_one w ⟨b, c, none⟩ ty u (.int .i64 v) hu (hl.frozen _) rfl hi]
  exact hw _ (HS.out.set i ei _ (chg_set hD) (machI_loc _ _ _) (hM.turnW hg hc hb v) fun k hk => .inl hk)
theorem st_storeW (HS : Hid (St w0 w L)) (i : Nat) (ei : L[i]? = some (machI D A M)) {g b c : Nat} (hg : g < 4) (hc : c < (A.w g).n * 3) (hb : (A.w g).a = some ⟨b, 0, none⟩) (ty : TypeId) (x y : Operand) (ho : op.op = .store ty x y) (hx : a.eval x = .pointer (some ⟨b, c, none⟩)) (hgd : Region.wanted op (yielded ops a.tmps) = true)
    {v : Int} (hy : ValOf a y (.int .i64 v)) (hi : (P.info? ty).map (·.size) = some 1) (hw : ∀ W, Hid (St w0 W (L.set i (machI D A (M.setLv g ((M.lv g).set c v))))) → wpList P ops Q rest (a.put op.dst undef) W) : wpList P ops Q (op :: rest) a w :=
  BigFrame.wpList_want hgd fun _ hK => stw_storeW HS i ei hg hc hb ty x y ho hx hy hi fun W h => hK _ _ (hw W h)
end
end Go.Proofs.YtnjognmnbpcaaaaGreat
namespace Go.Proofs.YtnjognmnbpcaaaaGreat
open Go.RowKit
set_option linter.unusedSimpArgs false
set_option linter.unusedVariables false
section
variable {D D2 : Nat → Prop} {W : World} {A : MacM} {M : PMach}
theorem MachOwn.turnL (h : MachOwn D W A M) {i b j : Nat} (hi' : i < A.s.n) (hb : A.s.a = some ⟨b, 0, none⟩) (hj : j < 3) {s : Sl} {l : List Int} (hs : SlIs W (szL j) s l) (ho : SlOwn D2 W s) (hD : ∀ k, D k → D2 k → False) :
    MachOwn (fun k => D k ∨ D2 k) (W.setCell ⟨b, i * 17 + posL j, none⟩ (.slice s.a s.n s.c)) (A.setQ i ((A.q i).setL j s)) (M.setS i ((M.at i).setL j l)) := by
  have hp : posL j < 17 := by unfold posL; split <;> omega
  have h' : MachOwn (fun k => D k ∨ D2 k) W A M := h.mono fun k hk => .inl hk
  obtain ⟨b0, e0, hDb, _⟩ := h.sblk hi'
  rw [hb] at e0; cases e0
  obtain ⟨t1, t2, t3, t4⟩ := h'.cellTurn hi' hb hp (.slice s.a s.n s.c)
  have old : ∀ m, m < A.num → 0 < (A.sl m).n → 0 < s.n → (A.sl m).a ≠ s.a := fun m hm h0 hs0 e => by
    obtain ⟨b1, e1, d1, _⟩ := h.own m hm h0
    obtain ⟨b2, e2, d2, _⟩ := ho hs0
    rw [e1, e2] at e
    cases e
    exact hD _ d1 d2
  have sld : ∀ {m : Nat}, (A.setQ i ((A.q i).setL j s)).sl m = if 6 ≤ m ∧ (m - 6) / 3 = i then (if (m - 6) % 3 = j then s else (A.q i).sl ((m - 6) % 3)) else A.sl m := fun {m} => by
    rw [MacM.sl_setQ]
    split
    · rw [SesM.sl_setL _ hj (Nat.mod_lt _ (by decide))]
    · rfl
  have slq : ∀ {m : Nat}, 6 ≤ m ∧ (m - 6) / 3 = i → A.sl m = (A.q i).sl ((m - 6) % 3) := fun {m} hc => by
    have := A.sl_q i (j := (m - 6) % 3) (Nat.mod_lt _ (by decide))
    rw [show 6 + 3 * i + (m - 6) % 3 = m by omega] at this
    exact this
  refine h'.turn hi' hb ((A.q i).setL j s) ((M.at i).setL j l) t1 t2 (fun k hk => by rw [sessOf_setL _ _ hj]; exact t3 k hk) t4 ((h'.sesKeep hi' hb t1).setL hj ?_) (fun k hk => ?_) (fun k m hk hm hkm h0 h1 => ?_) (fun v hv g hg k hk h0 => ?_)
  · refine hs.keep t1.size fun h0 b' o e => ?_
    obtain ⟨b2, e2, d2, l2, hl⟩ := ho h0
    rw [e2] at e; cases e
    exact t1.block b' (by
      have : b' ≠ b := fun x => hD b hDb (x ▸ d2)
      omega) hl.lt
  · rw [SesM.sl_setL _ hj hk]
    split
    · intro h0
      obtain ⟨b2, e2, d2, l2, hl⟩ := ho h0
      have : b2 ≠ b := fun x => hD b hDb (x ▸ d2)
      exact ⟨b2, e2, .inr d2, l2, hl.touch t1 (by omega)⟩
    · exact h'.sesOwnKeep hi' t1 t2 hk
  · have hn : 6 + 3 * i + k < A.num := by unfold MacM.num; omega
    rw [SesM.sl_setL _ hj hk] at h0 ⊢
    rw [sld] at h1 ⊢
    by_cases hkj : k = j
    · subst hkj
      rw [if_pos rfl] at h0 ⊢
      by_cases hc : 6 ≤ m ∧ (m - 6) / 3 = i
      · rw [if_pos hc, if_neg (by omega)] at h1 ⊢
        rw [← slq hc] at h1 ⊢
        exact old m hm h1 h0
      · rw [if_neg hc] at h1 ⊢
        exact old m hm h1 h0
    · rw [if_neg hkj] at h0 ⊢
      by_cases hc : 6 ≤ m ∧ (m - 6) / 3 = i
      · by_cases hmj : (m - 6) % 3 = j
        · rw [if_pos hc, if_pos hmj] at h1 ⊢
          have := old _ hn (by rw [A.sl_q i hk]; exact h0) h1
          rw [A.sl_q i hk] at this
          exact this.symm
        · rw [if_pos hc, if_neg hmj] at h1 ⊢
          rw [← slq hc] at h1 ⊢
          have := h.ne (j := m) (k := 6 + 3 * i + k) (by omega) hm hn h1 (by rw [A.sl_q i hk]; exact h0)
          rw [A.sl_q i hk] at this
          exact this
      · rw [if_neg hc] at h1 ⊢
        have := h.ne (j := m) (k := 6 + 3 * i + k) (by omega) hm hn h1 (by rw [A.sl_q i hk]; exact h0)
        rw [A.sl_q i hk] at this
        exact this
  · rw [SesM.sl_setL _ hj hk] at h0 ⊢
    split at h0
    · rename_i hkj
      rw [if_pos hkj]
      obtain ⟨v', hv', _, hb5⟩ := h.trace
      subst hv; subst hv'
      obtain ⟨b2, e2, d2, _⟩ := ho h0
      intro e
      rw [e2] at e; cases e
      exact hD _ (hb5 g hg).1 d2
    · rename_i hkj
      rw [if_neg hkj]
      exact h.ses5 hi' v hv g hg k hk h0
end
/-- A list of numbers in memory of its own, of whatever make. -/
def lisI (D : Nat → Prop) (k : Nat) (s : Sl) (L : List Int) : Itm := ⟨D, fun W => SlIs W k s L ∧ SlOwn D W s⟩
theorem lisI_loc (D : Nat → Prop) (k : Nat) (s : Sl) (L : List Int) : (lisI D k s L).Loc := fun W W' h hs hk => by
  obtain ⟨h1, h2⟩ := (h : SlIs W k s L ∧ SlOwn D W s)
  refine ⟨h1.keep hs fun h0 b o e => ?_, h2.keep hk⟩
  obtain ⟨b2, e2, hD, _⟩ := h2 h0
  rw [e2] at e; cases e
  exact hk _ hD
section
variable {w0 w : World} {L : List Itm} {P : Program} {ops : Array Oper} {rest : List Oper} {op : Oper} {a : Act} {K : Act → World → Prop} {Q : Exit → Act → World → Prop} {D D2 : Nat → Prop} {A : MacM} {M : PMach}
theorem stw_storeL (HS : Hid (St w0 w L)) (i i2 : Nat) (ei : L[i]? = some (machI D A M)) {k bs : Nat} {s : Sl} {l : List Int} (j : Nat) (hj : j < 3) (e2 : L[i2]? = some (lisI D2 (szL j) s l)) (hne : i ≠ i2) (hk : k < A.s.n) (hbs : A.s.a = some ⟨bs, 0, none⟩) (ty : TypeId) (x y : Operand) (ho : op.op = .store ty x y) (o : Nat) (hx : a.eval x = .pointer (some ⟨bs, o, none⟩)) (ho' : o = k * 17 + posL j)
    (hy : ValOf a y (.slice s.a s.n s.c)) (hi : (P.info? ty).map (·.size) = some 1) (hw : ∀ W, Hid (St w0 W ((L.set i2 empI).set i (machI (fun k => D k ∨ D2 k) (A.setQ k ((A.q k).setL j s)) (M.setS k ((M.at k).setL j l))))) → K (a.put op.dst undef) W) : op.wp P a w K Q := by
  have hM : MachOwn D w A M := HS.out.get i ei
  have hL : SlIs w (szL j) s l ∧ SlOwn D2 w s := HS.out.get i2 e2
  have hp : posL j < 17 := by unfold posL; split <;> omega
  obtain ⟨b, eb, hD, l1, hl⟩ := hM.sblk hk
  rw [hbs] at eb; cases eb
  have hc : ∃ u, w.cell? ⟨bs, k * 17 + posL j, none⟩ = some u := by
    obtain ⟨b2, off, e2, _, hcc⟩ := hM.is.sess.cell hk hp
    rw [hbs] at e2; cases e2
    rw [Nat.zero_add] at hcc
    exact ⟨_, hcc⟩
  obtain ⟨u, hu⟩ := hc
  subst ho'
  have hdis : ∀ k, D k → D2 k → False := HS.out.apart i i2 _ _ ei e2 hne
  have l1' := machI_loc D A M
  have l2' := lisI_loc D2 (szL j) s l
  have HG := HS.out.give i i2 ei e2 hne (x' := ⟨fun k => D k ∨ D2 k, fun W => MachOwn D W A M ∧ (SlIs W (szL j) s l ∧ SlOwn D2 W s)⟩) (fun W W' h hs hk => ⟨l1' W W' h.1 hs fun k hk' => hk k (.inl hk'), l2' W W' h.2 hs fun k hk' => hk k (.inr hk')⟩) ⟨hM, hL⟩ fun k hk => hk
  have hiL : i < L.length := (List.getElem?_eq_some_iff.1 ei).1
  have hg : ((L.set i (⟨fun k => D k ∨ D2 k, fun W => MachOwn D W A M ∧ (SlIs W (szL j) s l ∧ SlOwn D2 W s)⟩ : Itm)).set i2 empI)[i]? = some ⟨fun k => D k ∨ D2 k, fun W => MachOwn D W A M ∧ (SlIs W (szL j) s l ∧ SlOwn D2 W s)⟩ := by
    rw [List.getElem?_set, if_neg (Ne.symm hne), List.getElem?_set, if_pos rfl, if_pos hiL]
  have HT := HG.set i hg (machI (fun k => D k ∨ D2 k) (A.setQ k ((A.q k).setL j s)) (M.setS k ((M.at k).setL j l))) (W' := w.setCell ⟨bs, k * 17 + posL j, none⟩ (.slice s.a s.n s.c)) (chg_set (.inl hD)) (machI_loc _ _ _) (hM.turnL hk hbs hj hL.1 hL.2 hdis) fun k hk => .inl hk
  have eq : ((L.set i (⟨fun k => D k ∨ D2 k, fun W => MachOwn D W A M ∧ (SlIs W (szL j) s l ∧ SlOwn D2 W s)⟩ : Itm)).set i2 empI).set i (machI (fun k => D k ∨ D2 k) (A.setQ k ((A.q k).setL j s)) (M.setS k ((M.at k).setL j l))) = (L.set i2 empI).set i (machI (fun k => D k ∨ D2 k) (A.setQ k ((A.q k).setL j s)) (M.setS k ((M.at k).setL j l))) := by
    rw [List.set_comm _ _ hne, List.set_set]
  rw [eq] at HT
  unfold Oper.wp execOp
  simp only [ho, hx, hy.eval, Instr.storeAt, Instr.sureAddr, Sem.run_bind, Sem.run_pure, Result.andThen_ok, run_storeVar_one w ⟨bs, k * 17 + posL j, none⟩ ty u (.slice s.a s.n s.c) hu (hl.frozen _) rfl hi]
  exact hw _ HT
theorem st_storeL (HS : Hid (St w0 w L)) (i i2 : Nat) (ei : L[i]? = some (machI D A M)) {k bs : Nat} {s : Sl} {l : List Int} (j : Nat) (hj : j < 3) (e2 : L[i2]? = some (lisI D2 (szL j) s l)) (hne : i ≠ i2) (hk : k < A.s.n) (hbs : A.s.a = some ⟨bs, 0, none⟩) (ty : TypeId) (x y : Operand) (ho : op.op = .store ty x y) (o : Nat) (hx : a.eval x = .pointer (some ⟨bs, o, none⟩)) (ho' : o = k * 17 + posL j) (hgd : Region.wanted op (yielded ops a.tmps) = true)
    (hy : ValOf a y (.slice s.a s.n s.c)) (hi : (P.info? ty).map (·.size) = some 1) (hw : ∀ W, Hid (St w0 W ((L.set i2 empI).set i (machI (fun k => D k ∨ D2 k) (A.setQ k ((A.q k).setL j s)) (M.setS k ((M.at k).setL j l))))) → wpList P ops Q rest (a.put op.dst undef) W) : wpList P ops Q (op :: rest) a w :=
  BigFrame.wpList_want hgd fun _ hK => stw_storeL HS i i2 ei j hj e2 hne hk hbs ty x y ho o hx ho' hy hi fun W h => hK _ _ (hw W h)
end
end Go.Proofs.YtnjognmnbpcaaaaGreat
namespace Go.Proofs.YtnjognmnbpcaaaaGreat
open Go.RowKit
set_option linter.unusedSimpArgs false
set_option linter.unusedVariables false
section
variable {P : Program} {ops : Array Oper} {Q : Exit → Act → World → Prop} {md : Region.Mode} {C : World → Prop}
def okTakeG (md : Region.Mode) (ops : Array Oper) (late : List Nat) (fin : Array Bool → Bool) : List Nat → Array Bool → Bool
  | q :: qs, l => Region.free md ops l q && (Region.ready md ops l).contains q && lateWaits md ops late q && ((ops[q]?).map fun o => plainB o.op).getD false && okTakeG md ops late fin qs (l.setIfInBounds q true)
  | [], l => fin l
theorem any_of_takeG {late neut : List Nat} {fin : Array Bool → Bool} {R : Act → Prop} {n : Nat} (hsel : ∀ (j : Nat) (o : Oper) cs b, ops[j]? = some o → o.op ≠ .select cs b) (hQ : ∀ c a d v w, Q (.panic c) (a.put d v) w → Q (.panic c) a w) (w : World) (hC : C w)
    (hfin : ∀ l a, fin l = true → R a → wpAnyL P md ops Q C late.contains neut.contains n l a w) :
    ∀ (qs : List Nat) (os : List Oper) (l : Array Bool) (a : Act), qs.map (ops[·]?) = os.map some → okTakeG md ops late fin qs l = true → wpQuiet P ops C R os a → wpAnyL P md ops Q C late.contains neut.contains (qs.length + n) l a w
  | [], [], l, a, _, hok, h => by
    rw [List.length_nil, Nat.zero_add]
    exact hfin l a hok h
  | [], _ :: _, _, _, he, _, _ => by simp at he
  | _ :: _, [], _, _, he, _, _ => by simp at he
  | q :: qs, o :: os, l, a, he, hok, h => by
    simp only [List.map_cons, List.cons.injEq] at he
    simp only [okTakeG, Bool.and_eq_true] at hok
    obtain ⟨⟨⟨⟨h1, h2⟩, h3⟩, h4⟩, h5⟩ := hok
    rw [he.1] at h4
    have hp : plainB o.op = true := by simpa using h4
    have hy : ∃ v, YieldsIf P ops C o v a ∧ wpQuiet P ops C R os (a.put o.dst v) := by
      unfold wpQuiet at h
      split at h
      · rename_i hw
        obtain ⟨v, hv, hk⟩ := h
        exact ⟨v, yieldsIf_of_quiet hp hw hv, hk⟩
      · rename_i hw
        exact ⟨undef, .inr ⟨by simpa using hw, rfl⟩, h⟩
    obtain ⟨v, hv, hk⟩ := hy
    rw [List.length_cons, show qs.length + 1 + n = (qs.length + n) + 1 by omega]
    refine wpAnyL_first he.1 hsel (fun c a w => hQ c a o.dst v w) (fun j oj hj hlj => ?_) _ l a w (Region.free_spec he.1 h1) (by simpa using h2) hv hC (any_of_takeG hsel hQ w hC hfin qs os _ _ he.2 h5 hk)
    unfold lateWaits at h3
    rw [List.all_eq_true] at h3
    have := h3 j (by simpa using hlj)
    rw [hj] at this
    simp only [Option.map_some, Option.getD_some] at this
    obtain ⟨e, he', hb⟩ := Array.any_eq_true'.1 this
    simp only [Bool.and_eq_true, beq_iff_eq] at hb
    exact ⟨e, he', hb.1, hb.2⟩
/-- One of two comes next. -/
def okFork (md : Region.Mode) (ops : Array Oper) (late neut : List Nat) (t1 : Nat) (ts1 bs1 : List Nat) (t2 : Nat) (ts2 bs2 : List Nat) (l : Array Bool) : Bool :=
  (Region.ready md ops l == [t1, t2]) && (okTail md ops late neut ts1 bs1 (l.setIfInBounds t1 true) && okTail md ops late neut ts2 bs2 (l.setIfInBounds t2 true))
theorem any_of_fork {late neut : List Nat} (hsel : ∀ (j : Nat) (o : Oper) cs b, ops[j]? = some o → o.op ≠ .select cs b) (hQ : ∀ c a d v w, Q (.panic c) (a.put d v) w → Q (.panic c) a w)
    {t1 t2 : Nat} {ts1 bs1 ts2 bs2 : List Nat} (hlen : ts1.length = ts2.length) (hl1 : late.contains t1 = false) (hl2 : late.contains t2 = false) (l : Array Bool) (a : Act) (w : World) (hok : okFork md ops late neut t1 ts1 bs1 t2 ts2 bs2 l = true)
    (h1 : wpTail P ops Q C late (t1 :: ts1) (0 :: bs1) a w) (h2 : wpTail P ops Q C late (t2 :: ts2) (0 :: bs2) a w) : wpAnyL P md ops Q C late.contains neut.contains (ts1.length + 1) l a w := by
  simp only [okFork, Bool.and_eq_true, beq_iff_eq] at hok
  obtain ⟨hr, ho1, ho2⟩ := hok
  have h1 : wpOp P ops Q t1 (fun a' w' => (late.contains t1 = false → C w') ∧ wpTail P ops Q C late ts1 bs1 a' w') a w := h1
  have h2 : wpOp P ops Q t2 (fun a' w' => (late.contains t2 = false → C w') ∧ wpTail P ops Q C late ts2 bs2 a' w') a w := h2
  refine ⟨fun h0 => (by rw [hr] at h0; cases h0), fun i hi => ?_⟩
  rw [hr, List.mem_cons, List.mem_singleton] at hi
  rcases hi with rfl | rfl
  · exact wpOp_mono (fun a' w' ⟨k1, k2⟩ => ⟨fun hl _ => k1 hl, any_of_tail hsel hQ ts1 bs1 _ a' w' ho1 k2⟩) h1
  · refine wpOp_mono (fun a' w' ⟨k1, k2⟩ => ⟨fun hl _ => k1 hl, ?_⟩) h2
    rw [hlen]
    exact any_of_tail hsel hQ ts2 bs2 _ a' w' ho2 k2
/-- Those that a list of places names. -/
def pickIx (l : List Oper) : List Nat → List Oper
  | [] => []
  | t :: ts => (match l[t]? with | some o => o :: pickIx l ts | none => [])
theorem pickIx_ok {l : List Oper} : ∀ {ts : List Nat}, (ts.all fun t => decide (t < l.length)) = true → ts.map (l.toArray[·]?) = (pickIx l ts).map some
  | [], _ => rfl
  | t :: ts, h => by
    simp only [List.all_cons, Bool.and_eq_true, decide_eq_true_eq] at h
    have ih := pickIx_ok h.2
    unfold pickIx
    rw [List.getElem?_eq_getElem h.1]
    simp only [List.map_cons]
    rw [ih]
    simp [h.1]
/-- THE LAW of a fork: what a mask names only reads; then t1 or t2, each ahead of its tail (marks as in wp_region_mask). -/
theorem wp_region_fork {id : Nat} {a : Act} {w : World} {l : List Oper} (m : List Bool) (t1 : Nat) (ts1 bs1 : List Nat) (t2 : Nat) (ts2 bs2 : List Nat) (C : World → Prop) (hm : P.follows .mixedOrders = true) (hs : Region.noSelect l.toArray = true) (hl : (m.length == l.length) = true)
    (hok : (okTakeG .any l.toArray (lateOf ts1 bs1) (okFork .any l.toArray (lateOf ts1 bs1) (neutOf ts1 bs1) t1 ts1 bs1 t2 ts2 bs2) (maskIdx 0 m) (Array.replicate l.toArray.size false) && (((maskIdx 0 m).length + (ts1.length + 1) == l.toArray.size) && (ts1.length == ts2.length) && ((t1 :: ts1).all fun t => decide (t < l.length)) && ((t2 :: ts2).all fun t => decide (t < l.length))
      && ((t1 :: ts1).map ((lateOf ts1 bs1).contains ·) == (0 :: bs1).map (fun b => b != 0 && b != 3)) && ((t2 :: ts2).map ((lateOf ts1 bs1).contains ·) == (0 :: bs2).map (fun b => b != 0 && b != 3)))) = true) (hC : C w.drew)
    (h : Nonempty (Cls C) → wpQuiet P l.toArray (fun w' => ∃ u : Cls C, w' = u.at_) (fun a' => wpRest P l.toArray (NoPanic Q) (InC C) (0 :: bs1) (pickIx l (t1 :: ts1)) a' w.drew ∧ wpRest P l.toArray (NoPanic Q) (InC C) (0 :: bs2) (pickIx l (t2 :: ts2)) a' w.drew) (pickAt l m) a) : (Code.region id l.toArray true).wp P Q a w := by
  simp only [Bool.and_eq_true] at hok
  obtain ⟨hok1, ⟨⟨⟨⟨hlen, hlen2⟩, hin1⟩, hin2⟩, hm1⟩, hm2⟩ := hok
  rw [beq_iff_eq] at hlen hlen2 hm1 hm2 hl
  refine wp_region_noPanic ?_
  refine wp_region_any hm (wpAny_of_late (C := InC C) (late := (lateOf ts1 bs1).contains) (neut := (neutOf ts1 bs1).contains) _ _ _ _ ?_)
  rw [← hlen]
  refine any_of_takeG (Region.noSelect_spec hs) (fun _ _ _ _ _ h => h) w.drew (InC.mk hC) (R := fun a' => wpRest P l.toArray (NoPanic Q) (InC C) (0 :: bs1) (pickIx l (t1 :: ts1)) a' w.drew ∧ wpRest P l.toArray (NoPanic Q) (InC C) (0 :: bs2) (pickIx l (t2 :: ts2)) a' w.drew) (fun l' a' hf hR => ?_) _ _ _ a (mask_ok (l := l) m 0 (by omega)) (by rw [hlen]; exact hok1) (h ⟨⟨_, hC⟩⟩)
  have e1 := hm1
  have e2 := hm2
  simp only [List.map_cons, List.cons.injEq] at e1 e2
  exact any_of_fork (Region.noSelect_spec hs) (fun _ _ _ _ _ h => h) hlen2 (by simpa using e1.1) (by simpa using e2.1) l' a' _ hf (tail_of_rest _ _ _ a' _ (pickIx_ok hin1) hm1 hR.1) (tail_of_rest _ _ _ a' _ (pickIx_ok hin2) hm2 hR.2)
/-- What only reads, then one that makes memory, then what only reads again. -/
def okMid (md : Region.Mode) (ops : Array Oper) (t : Nat) (qs2 : List Nat) (l : Array Bool) : Bool := (Region.ready md ops l == [t]) && okTakeG md ops [] (fun l => Region.ready md ops l == []) qs2 (l.setIfInBounds t true)
def wpMid (P : Program) (ops : Array Oper) (Q : Exit → Act → World → Prop) (C : World → Prop) (o : Oper) (os : List Oper) (a : Act) (w : World) : Prop :=
  if Region.wanted o (yielded ops a.tmps) = true then o.wp P a w (fun a' w' => InC C w' ∧ wpQuiet P ops (fun w' => ∃ u : Cls C, w' = u.at_) (fun a'' => Q .normal a'' w') os a') Q else InC C w ∧ wpQuiet P ops (fun w' => ∃ u : Cls C, w' = u.at_) (fun a'' => Q .normal a'' w) os (a.put o.dst undef)
theorem wpMid_op {o : Oper} {os : List Oper} {a : Act} {w : World} (hw : Region.wanted o (yielded ops a.tmps) = true)
    (h : ∀ K : Act → World → Prop, (∀ a' w', InC C w' → wpQuiet P ops (fun w' => ∃ u : Cls C, w' = u.at_) (fun a'' => Q .normal a'' w') os a' → K a' w') → o.wp P a w K Q) : wpMid P ops Q C o os a w := by
  unfold wpMid
  rw [if_pos hw]
  exact h _ fun a' w' h1 h2 => ⟨h1, h2⟩
theorem wp_region_mid {id : Nat} {a : Act} {w : World} {l : List Oper} (m : List Bool) (t : Nat) (o : Oper) (m2 : List Bool) (C : World → Prop) (hm : P.follows .mixedOrders = true) (hs : Region.noSelect l.toArray = true) (hl : ((m.length == l.length) && (m2.length == l.length)) = true) (ho : l[t]? = some o)
    (hok : (okTakeG .any l.toArray [] (okMid .any l.toArray t (maskIdx 0 m2)) (maskIdx 0 m) (Array.replicate l.toArray.size false) && ((maskIdx 0 m).length + ((maskIdx 0 m2).length + 1) == l.toArray.size)) = true) (hC : C w.drew)
    (h : Nonempty (Cls C) → wpQuiet P l.toArray (fun w' => ∃ u : Cls C, w' = u.at_) (fun a' => wpMid P l.toArray (NoPanic Q) C o (pickAt l m2) a' w.drew) (pickAt l m) a) : (Code.region id l.toArray true).wp P Q a w := by
  simp only [Bool.and_eq_true, decide_eq_true_eq] at hok hl
  obtain ⟨hok1, hlen⟩ := hok
  obtain ⟨hl1, hl2⟩ := hl
  rw [beq_iff_eq] at hlen hl1 hl2
  refine wp_region_noPanic ?_
  refine wp_region_any hm (wpAny_of_late (C := InC C) (late := ([] : List Nat).contains) (neut := ([] : List Nat).contains) _ _ _ _ ?_)
  rw [← hlen]
  refine any_of_takeG (Region.noSelect_spec hs) (fun _ _ _ _ _ h => h) w.drew (InC.mk hC) (R := fun a' => wpMid P l.toArray (NoPanic Q) C o (pickAt l m2) a' w.drew) (fun l' a' hf hR => ?_) _ _ _ a (mask_ok (l := l) m 0 (by omega)) (by rw [hlen]; exact hok1) (h ⟨⟨_, hC⟩⟩)
  simp only [okMid, Bool.and_eq_true, beq_iff_eq] at hf
  obtain ⟨hr, hf2⟩ := hf
  have ho' : l.toArray[t]? = some o := by simpa using ho
  have hR2 : wpOp P l.toArray (NoPanic Q) t (fun a' w' => InC C w' ∧ wpQuiet P l.toArray (fun w' => ∃ u : Cls C, w' = u.at_) (fun a'' => NoPanic Q .normal a'' w') (pickAt l m2) a') a' w.drew := by
    unfold wpMid at hR
    unfold wpOp
    simp only [ho']
    split
    · rename_i hw
      rw [if_pos hw] at hR
      exact .inl hR
    · rename_i hw
      rw [if_neg hw] at hR
      exact hR
  refine ⟨fun h0 => (by rw [hr] at h0; cases h0), fun i hi => ?_⟩
  rw [hr, List.mem_singleton] at hi
  subst hi
  refine wpOp_mono (fun a2 w2 ⟨k1, k2⟩ => ⟨fun _ _ => k1, ?_⟩) hR2
  have := any_of_takeG (n := 0) (late := []) (neut := []) (Region.noSelect_spec hs) (fun _ _ _ _ _ h => h) w2 k1 (R := fun a'' => NoPanic Q .normal a'' w2) (fun l3 a3 hf3 hR3 => ⟨by simpa using hf3, hR3⟩) _ _ _ a2 (mask_ok (l := l) m2 0 (by omega)) hf2 k2
  exact this
/-- What looks at no memory comes first (each by itself, whatever the world), then what only reads, then the tail. -/
def okPre (md : Region.Mode) (ops : Array Oper) (neut : List Nat) (fin : Array Bool → Bool) : List Nat → Array Bool → Bool
  | t :: ts, l => Region.free md ops l t && (Region.ready md ops l).contains t && neut.contains t && okPre md ops neut fin ts (l.setIfInBounds t true)
  | [], l => fin l
def wpPre (P : Program) (ops : Array Oper) (R : Act → Prop) : List Oper → Act → Prop
  | o :: os, a => ∃ v, Yields P ops o v a ∧ wpPre P ops R os (a.put o.dst v)
  | [], a => R a
theorem any_of_pre {late neut : List Nat} {fin : Array Bool → Bool} {R : Act → Prop} {n : Nat} {w : World} (hsel : ∀ (j : Nat) (o : Oper) cs b, ops[j]? = some o → o.op ≠ .select cs b) (hQ : ∀ c a d v w, Q (.panic c) (a.put d v) w → Q (.panic c) a w)
    (hfin : ∀ l a, fin l = true → R a → wpAnyL P md ops Q C late.contains neut.contains n l a w) :
    ∀ (ts : List Nat) (os : List Oper) (l : Array Bool) (a : Act), ts.map (ops[·]?) = os.map some → okPre md ops neut fin ts l = true → wpPre P ops R os a → wpAnyL P md ops Q C late.contains neut.contains (ts.length + n) l a w
  | [], [], l, a, _, hok, h => by
    rw [List.length_nil, Nat.zero_add]
    exact hfin l a hok h
  | [], _ :: _, _, _, he, _, _ => by simp at he
  | _ :: _, [], _, _, he, _, _ => by simp at he
  | t :: ts, o :: os, l, a, he, hok, h => by
    simp only [List.map_cons, List.cons.injEq] at he
    simp only [okPre, Bool.and_eq_true] at hok
    obtain ⟨⟨⟨h1, h2⟩, h3⟩, h4⟩ := hok
    obtain ⟨v, hy, hk⟩ := h
    rw [List.length_cons, show ts.length + 1 + n = (ts.length + n) + 1 by omega]
    exact wpAnyL_worldless he.1 hsel (fun c a w => hQ c a o.dst v w) (.inr h3) _ l a w (Region.free_spec he.1 h1) (by simpa using h2) hy (any_of_pre hsel hQ hfin ts os _ _ he.2 h4 hk)
theorem wp_region_pre {id : Nat} {a : Act} {w : World} {l : List Oper} (ps qs ts bs : List Nat) (C : World → Prop) (hm : P.follows .mixedOrders = true) (hs : Region.noSelect l.toArray = true)
    (hl : ((ps.all fun t => decide (t < l.length)) && ((qs.all fun t => decide (t < l.length)) && (ts.all fun t => decide (t < l.length)))) = true)
    (hok : (okPre .any l.toArray (ps ++ neutOf ts bs) (okTakeG .any l.toArray (lateOf ts bs) (okTail .any l.toArray (lateOf ts bs) (ps ++ neutOf ts bs) ts bs) qs) ps (Array.replicate l.toArray.size false) && ((ps.length + (qs.length + ts.length) == l.toArray.size) && (ts.map ((lateOf ts bs).contains ·) == bs.map (fun b => b != 0 && b != 3)))) = true) (hC : C w.drew)
    (h : Nonempty (Cls C) → wpPre P l.toArray (fun a' => wpQuiet P l.toArray (fun w' => ∃ u : Cls C, w' = u.at_) (fun a'' => wpRest P l.toArray (NoPanic Q) (InC C) bs (pickIx l ts) a'' w.drew) (pickIx l qs) a') (pickIx l ps) a) : (Code.region id l.toArray true).wp P Q a w := by
  simp only [Bool.and_eq_true] at hok hl
  obtain ⟨hok1, hlen, hmk⟩ := hok
  obtain ⟨hl1, hl2, hl3⟩ := hl
  rw [beq_iff_eq] at hlen hmk
  refine wp_region_noPanic ?_
  refine wp_region_any hm (wpAny_of_late (C := InC C) (late := (lateOf ts bs).contains) (neut := (ps ++ neutOf ts bs).contains) _ _ _ _ ?_)
  rw [← hlen]
  refine any_of_pre (Region.noSelect_spec hs) (fun _ _ _ _ _ h => h) (R := fun a' => wpQuiet P l.toArray (fun w' => ∃ u : Cls C, w' = u.at_) (fun a'' => wpRest P l.toArray (NoPanic Q) (InC C) bs (pickIx l ts) a'' w.drew) (pickIx l qs) a') (fun l1 a1 hf1 hR1 => ?_) ps _ _ a (pickIx_ok hl1) (by rw [hlen]; exact hok1) (h ⟨⟨_, hC⟩⟩)
  refine any_of_takeG (Region.noSelect_spec hs) (fun _ _ _ _ _ h => h) w.drew (InC.mk hC) (R := fun a'' => wpRest P l.toArray (NoPanic Q) (InC C) bs (pickIx l ts) a'' w.drew) (fun l2 a2 hf2 hR2 => ?_) qs _ l1 a1 (pickIx_ok hl2) hf1 hR1
  exact any_of_tail (Region.noSelect_spec hs) (fun _ _ _ _ _ h => h) ts bs l2 a2 _ hf2 (tail_of_rest _ _ _ a2 _ (pickIx_ok hl3) hmk hR2)
theorem wpPre_of {R : Act → Prop} {o : Oper} {os : List Oper} {a : Act} {v : Value} (hw : Region.wanted o (yielded ops a.tmps) = true) (hv : ∀ w, (execOp a.eval o).run P w = .ok (.value v) w) (h : wpPre P ops R os (a.put o.dst v)) : wpPre P ops R (o :: os) a := ⟨v, .inl ⟨hw, hv⟩, h⟩
theorem wpPre_move {R : Act → Prop} {o : Oper} {os : List Oper} {a : Act} (x : Operand) (ho : o.op = .move x) (hw : Region.wanted o (yielded ops a.tmps) = true) {v : Value} (hx : ValOf a x v) (h : wpPre P ops R os (a.put o.dst v)) : wpPre P ops R (o :: os) a :=
  wpPre_of hw (fun w => by unfold execOp; simp only [ho, hx.eval]; rfl) h
theorem wpPre_nilCheck {R : Act → Prop} {o : Oper} {os : List Oper} {a : Act} (x : Operand) (ho : o.op = .nilCheck x) (hw : Region.wanted o (yielded ops a.tmps) = true) {ad : Addr} (hx : ValOf a x (.pointer (some ad))) (h : wpPre P ops R os (a.put o.dst (.pointer (some ad)))) : wpPre P ops R (o :: os) a :=
  wpPre_of hw (fun w => by unfold execOp; simp only [ho, hx.eval]; rfl) h
theorem wpRest_nilCheck {bs : List Nat} {o : Oper} {os : List Oper} {a : Act} {w : World} (x : Operand) (ho : o.op = .nilCheck x) (hw : Region.wanted o (yielded ops a.tmps) = true) {ad : Addr} (hx : ValOf a x (.pointer (some ad)))
    (h : wpRest P ops Q C bs os (a.put o.dst (.pointer (some ad))) w) : wpRest P ops Q C (3 :: bs) (o :: os) a w :=
  ⟨_, .inl ⟨hw, fun w => by unfold execOp; simp only [ho, hx.eval]; rfl⟩, h⟩
theorem wpRest_of {bs : List Nat} {o : Oper} {os : List Oper} {a : Act} {w : World} {v : Value} (hw : Region.wanted o (yielded ops a.tmps) = true) (hv : ∀ w, (execOp a.eval o).run P w = .ok (.value v) w) (h : wpRest P ops Q C bs os (a.put o.dst v) w) : wpRest P ops Q C (3 :: bs) (o :: os) a w := ⟨v, .inl ⟨hw, hv⟩, h⟩
end
end Go.Proofs.YtnjognmnbpcaaaaGreat
