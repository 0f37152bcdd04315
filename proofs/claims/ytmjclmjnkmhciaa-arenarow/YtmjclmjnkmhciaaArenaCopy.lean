/-
  A copy of an arena: four new rows, each in a block of its own.
-/
import Derived.Test.YtmjclmjnkmhciaaArenaPure
import Derived.Test.YtmjclmjnkmhciaaOwn
import Derived.Laws.AppendOwnNone
import Derived.OwnWalk
namespace Go.Proofs.Ytmjclmjnkmhciaa
open Go.RowKit

theorem Try.infoWord : (Try.prog.info? 27).map (fun i => (i.zero, i.size, i.bytes)) = some (some (.agg #[.int .i64 0, .int .i64 0, .int .i64 0]), 3, 24) := by kernel_rfl

/-- No level is longer than what can come in; nil has none. -/
def Fit (s : Nat → Sl) : Prop := ∀ g, g < 4 → (s g).n * 24 ≤ 140737488351232 ∧ ((s g).a = none → (s g).n = 0 ∧ (s g).c = 0)
theorem Fit.short {s : Nat → Sl} (h : Fit s) : Short s := fun g hg => by have := (h g hg).1; omega

/-- A word set into a row. -/
theorem Own.setWord {w : World} {b m : Nat} {z : Nat → Int} (h : Own w b m (intF z)) (i : Nat) (v n k : Int) : Own (((w.setCell ⟨b, i * 3, none⟩ (.int .i64 v)).setCell ⟨b, i * 3 + 1, none⟩ (.int .i64 n)).setCell ⟨b, i * 3 + 2, none⟩ (.int .i64 k)) b m (intF (putR z i v n k)) :=
  (((h.setInt (i * 3) v).setInt (i * 3 + 1) n).setInt (i * 3 + 2) k)

/-- The first k levels are rows of the call's own, in blocks from B up to C, one behind another. -/
def Fresh (B C : Nat) (w : World) (t : Nat → Sl) (z : Nat → Nat → Int) (k : Nat) : Prop :=
  ∃ β : Nat → Nat, (∀ g, g < k → 0 < (t g).n → (t g).a = some ⟨β g, 0, none⟩ ∧ B ≤ β g ∧ β g < C ∧ Own w (β g) ((t g).n * 3) (intF (z g))) ∧ ∀ g h, g < h → h < k → 0 < (t g).n → 0 < (t h).n → β g < β h

section
variable {B C : Nat} {w w' : World} {t : Nat → Sl} {z : Nat → Nat → Int} {k : Nat}
theorem Fresh.zero (B C : Nat) (w : World) (t : Nat → Sl) (z : Nat → Nat → Int) : Fresh B C w t z 0 := ⟨fun _ => 0, fun _ h => absurd h (Nat.not_lt_zero _), fun _ _ _ h => absurd h (Nat.not_lt_zero _)⟩
theorem Fresh.arn (h : Fresh B C w t z 4) : Arn w t z := by
  obtain ⟨β, h1, _⟩ := h
  intro g hg i hi
  obtain ⟨e, _, _, ho⟩ := h1 g hg (by omega)
  rw [e]
  exact ho.row i hi
theorem Fresh.on (h : Fresh B C w t z k) (hb : Below w.heap.size w w') : Fresh B C w' t z k := by
  obtain ⟨β, h1, h2⟩ := h
  exact ⟨β, fun g hg hn => ⟨(h1 g hg hn).1, (h1 g hg hn).2.1, (h1 g hg hn).2.2.1, (h1 g hg hn).2.2.2.on hb⟩, h2⟩
theorem Fresh.below {D : Nat} (h : Fresh B C w t z k) (hb : Below D w w') (hD : C ≤ D) : Fresh B C w' t z k := by
  obtain ⟨β, h1, h2⟩ := h
  exact ⟨β, fun g hg hn => ⟨(h1 g hg hn).1, (h1 g hg hn).2.1, (h1 g hg hn).2.2.1, (h1 g hg hn).2.2.2.below hb (by have := (h1 g hg hn).2.2.1; omega)⟩, h2⟩
/-- Nothing but what lies behind B is stored into. -/
theorem Fresh.far (h : Fresh B C w t z k) {a : Addr} (v : Value) (ha : a.block < B ∨ C ≤ a.block) : Fresh B C (w.setCell a v) t z k := by
  obtain ⟨β, h1, h2⟩ := h
  exact ⟨β, fun g hg hn => ⟨(h1 g hg hn).1, (h1 g hg hn).2.1, (h1 g hg hn).2.2.1, (h1 g hg hn).2.2.2.far v (by have := (h1 g hg hn).2.1; have := (h1 g hg hn).2.2.1; omega)⟩, h2⟩
theorem Fresh.alloc (h : Fresh B C w t z k) (o : Obj) : Fresh B C (w.alloc o) t z k := by
  obtain ⟨β, h1, h2⟩ := h
  exact ⟨β, fun g hg hn => ⟨(h1 g hg hn).1, (h1 g hg hn).2.1, (h1 g hg hn).2.2.1, (h1 g hg hn).2.2.2.alloc o⟩, h2⟩
theorem Fresh.drawn (h : Fresh B C w t z k) (n : Nat) : Fresh B C (w.drewN n) t z k := h
theorem Fresh.drew (h : Fresh B C w t z k) : Fresh B C w.drew t z k := h
theorem Fresh.mono {B' C' : Nat} (h : Fresh B C w t z k) (hB : B' ≤ B) (hC : C ≤ C') : Fresh B' C' w t z k := by
  obtain ⟨β, h1, h2⟩ := h
  exact ⟨β, fun g hg hn => ⟨(h1 g hg hn).1, Nat.le_trans hB (h1 g hg hn).2.1, Nat.lt_of_lt_of_le (h1 g hg hn).2.2.1 hC, (h1 g hg hn).2.2.2⟩, h2⟩
end

/-- An arena with another number in a cell. -/
def oneZ (z : Nat → Nat → Int) (l j : Nat) (x : Int) (g : Nat) : Nat → Int := if g = l then updZ (z g) j x else z g
/-- A number set into an arena of the call's own. -/
theorem Fresh.setOne {B C : Nat} {w : World} {t : Nat → Sl} {z : Nat → Nat → Int} {l b : Nat} (hl : l < 4) (h : Fresh B C w t z 4) (hp : 0 < (t l).n) (hb : (t l).a = some ⟨b, 0, none⟩) (j : Nat) (x : Int) :
    Fresh B C (w.setCell ⟨b, j, none⟩ (.int .i64 x)) t (oneZ z l j x) 4 := by
  obtain ⟨β, h1, h2⟩ := h
  have e := (h1 l hl hp).1
  rw [hb] at e
  simp only [Option.some.injEq, Addr.mk.injEq, and_true] at e
  refine ⟨β, fun g hg hn => ?_, h2⟩
  obtain ⟨a1, a2, a3, a4⟩ := h1 g hg hn
  refine ⟨a1, a2, a3, ?_⟩
  unfold oneZ
  by_cases eg : g = l
  · subst eg
    rw [if_pos rfl, ← e]
    rw [← e] at a4
    exact a4.setInt j x
  · rw [if_neg eg]
    have hne : β g ≠ b := by
      rcases Nat.lt_or_gt_of_ne eg with hl' | hl'
      · have := h2 g l hl' hl hn hp; omega
      · have := h2 l g hl' hg hp hn; omega
    exact a4.far _ hne

/-- A word set into an arena of the call's own. -/
theorem Fresh.setWord {B C : Nat} {w : World} {t : Nat → Sl} {z : Nat → Nat → Int} {l b : Nat} (hl : l < 4) (h : Fresh B C w t z 4) (hp : 0 < (t l).n) (hb : (t l).a = some ⟨b, 0, none⟩) (i : Nat) (v n k : Int) :
    Fresh B C (((w.setCell ⟨b, i * 3, none⟩ (.int .i64 v)).setCell ⟨b, i * 3 + 1, none⟩ (.int .i64 n)).setCell ⟨b, i * 3 + 2, none⟩ (.int .i64 k)) t (putZ z l i v n k) 4 := by
  obtain ⟨β, h1, h2⟩ := h
  have e := (h1 l hl hp).1
  rw [hb] at e
  simp only [Option.some.injEq, Addr.mk.injEq, and_true] at e
  refine ⟨β, fun g hg hn => ?_, h2⟩
  obtain ⟨a1, a2, a3, a4⟩ := h1 g hg hn
  refine ⟨a1, a2, a3, ?_⟩
  unfold putZ
  by_cases eg : g = l
  · subst eg
    rw [if_pos rfl, ← e]
    rw [← e] at a4
    exact a4.setWord i v n k
  · rw [if_neg eg]
    have hne : β g ≠ b := by
      rcases Nat.lt_or_gt_of_ne eg with hl' | hl'
      · have := h2 g l hl' hl hn hp; omega
      · have := h2 l g hl' hg hp hn; omega
    exact ((a4.far _ hne).far _ hne).far _ hne

/-- One slice set into an arena. -/
def updS (t : Nat → Sl) (k : Nat) (x : Sl) (g : Nat) : Sl := if g = k then x else t g
theorem updS_same (t : Nat → Sl) (k : Nat) (x : Sl) : updS t k x k = x := if_pos rfl
theorem updS_other (t : Nat → Sl) {k g : Nat} (x : Sl) (h : g ≠ k) : updS t k x g = t g := if_neg h
theorem updS_self (t : Nat → Sl) (k : Nat) : updS t k (t k) = t := funext fun g => by
  unfold updS
  split
  · rename_i e; rw [e]
  · rfl
theorem updS_twice (t : Nat → Sl) (k : Nat) (x x' : Sl) : updS (updS t k x) k x' = updS t k x' := funext fun g => by
  unfold updS
  split
  · rfl
  · rfl
theorem arenaL_set (t : Nat → Sl) {k : Nat} (hk : k < 4) (x : Sl) : (arenaL t).set k (.slice x.a x.n x.c) = arenaL (updS t k x) := by
  have : k = 0 ∨ k = 1 ∨ k = 2 ∨ k = 3 := by omega
  rcases this with rfl | rfl | rfl | rfl <;> rfl

/-- One level more, in a block behind the others. -/
theorem Fresh.more {B C C' : Nat} {w : World} {t : Nat → Sl} {z : Nat → Nat → Int} {k : Nat} (h : Fresh B C w t z k) (hB : B ≤ C) (hC : C ≤ C') (x : Sl)
    (hx : 0 < x.n → ∃ b, x.a = some ⟨b, 0, none⟩ ∧ C ≤ b ∧ b < C' ∧ Own w b (x.n * 3) (intF (z k))) : Fresh B C' w (updS t k x) z (k + 1) := by
  obtain ⟨β, h1, h2⟩ := h
  by_cases hp : 0 < x.n
  · obtain ⟨b, e, hb, hb', ho⟩ := hx hp
    refine ⟨fun g => if g = k then b else β g, fun g hg hn => ?_, fun g h hgh hk hg' hh' => ?_⟩
    · by_cases e2 : g = k
      · subst e2
        rw [updS_same] at hn ⊢
        simp only [if_pos]
        exact ⟨e, by omega, hb', ho⟩
      · rw [updS_other t x e2] at hn ⊢
        simp only [if_neg e2]
        have h3 := h1 g (by omega) hn
        exact ⟨h3.1, h3.2.1, by omega, h3.2.2.2⟩
    · have e2 : g ≠ k := by omega
      rw [updS_other t x e2] at hg'
      simp only [if_neg e2]
      by_cases e3 : h = k
      · subst e3
        simp only [if_pos]
        have := (h1 g (by omega) hg').2.2.1
        omega
      · rw [updS_other t x e3] at hh'
        simp only [if_neg e3]
        exact h2 g h hgh (by omega) hg' hh'
  · refine ⟨β, fun g hg hn => ?_, fun g h hgh hk hg' hh' => ?_⟩
    · by_cases e2 : g = k
      · subst e2; rw [updS_same] at hn; omega
      · rw [updS_other t x e2] at hn ⊢
        have h3 := h1 g (by omega) hn
        exact ⟨h3.1, h3.2.1, by omega, h3.2.2.2⟩
    · have e2 : g ≠ k := by omega
      rw [updS_other t x e2] at hg'
      by_cases e3 : h = k
      · subst e3; rw [updS_same] at hh'; omega
      · rw [updS_other t x e3] at hh'
        exact h2 g h hgh (by omega) hg' hh'

/-- The arena of nothing. -/
def nilS : Nat → Sl := fun _ => ⟨none, 0, 0⟩
/-- Nil has nothing, and no room. -/
def Nilly (t : Nat → Sl) : Prop := ∀ g, ((t g).a = none → (t g).n = 0 ∧ (t g).c = 0) ∧ (t g).n ≤ (t g).c
theorem Nilly.nil : Nilly nilS := fun _ => ⟨fun _ => ⟨rfl, rfl⟩, Nat.le_refl _⟩
theorem Nilly.upd {t : Nat → Sl} (h : Nilly t) (k : Nat) {x : Sl} (hx : (x.a = none → x.n = 0 ∧ x.c = 0) ∧ x.n ≤ x.c) : Nilly (updS t k x) := by
  intro g
  by_cases e : g = k
  · subst e; rw [updS_same]; exact hx
  · rw [updS_other t x e]; exact h g
theorem Nilly.fit {t : Nat → Sl} (h : Nilly t) (hn : ∀ g, g < 4 → (t g).n * 24 ≤ 140737488351232) : Fit t := fun g hg => ⟨hn g hg, (h g).1⟩

/-- What the copying keeps, behind one level more. -/
theorem copy_step {w w1 : World} {s t : Nat → Sl} {z : Nat → Nat → Int} {k N : Nat} {x : Sl} (hk : k < 4) (ht : ∀ g, g < k → (t g).n = (s g).n) (B1 : Blk w1 w.heap.size (arenaL s)) (B2 : Blk w1 (w.heap.size + 1) (arenaL nilS)) (B3 : Blk w1 (w.heap.size + 1 + 1) (arenaL t))
    (hF : Fresh (w.heap.size + 1 + 1 + 1) N w1 t z k) (hN : w.heap.size + 1 + 1 + 1 ≤ N) (hN' : N ≤ w1.heap.size) (hb : Below w.heap.size w w1) (hxn : x.n = (s k).n)
    (hx : 0 < x.n → ∃ b, x.a = some ⟨b, 0, none⟩ ∧ N ≤ b ∧ b < w1.heap.size ∧ Own w1 b (x.n * 3) (intF (z k))) :
    (∀ g, g < k + 1 → (updS t k x g).n = (s g).n) ∧ Blk (w1.setCell ⟨w.heap.size + 1 + 1, k, none⟩ (.slice x.a x.n x.c)) w.heap.size (arenaL s) ∧ Blk (w1.setCell ⟨w.heap.size + 1 + 1, k, none⟩ (.slice x.a x.n x.c)) (w.heap.size + 1) (arenaL nilS) ∧
      Blk (w1.setCell ⟨w.heap.size + 1 + 1, k, none⟩ (.slice x.a x.n x.c)) (w.heap.size + 1 + 1) (arenaL (updS t k x)) ∧
      Fresh (w.heap.size + 1 + 1 + 1) (w1.setCell ⟨w.heap.size + 1 + 1, k, none⟩ (.slice x.a x.n x.c)).heap.size (w1.setCell ⟨w.heap.size + 1 + 1, k, none⟩ (.slice x.a x.n x.c)) (updS t k x) z (k + 1) ∧
      w.heap.size + 1 + 1 + 1 ≤ (w1.setCell ⟨w.heap.size + 1 + 1, k, none⟩ (.slice x.a x.n x.c)).heap.size ∧ Below w.heap.size w (w1.setCell ⟨w.heap.size + 1 + 1, k, none⟩ (.slice x.a x.n x.c)) := by
  refine ⟨fun g hg => ?_, B1.far _ (by simp; omega), B2.far _ (by simp), ?_, ?_, by rw [World.size_setCell]; omega, hb.setCell (by simp; omega) _⟩
  · by_cases e : g = k
    · subst e; rw [updS_same]; exact hxn
    · rw [updS_other t x e]; exact ht g (by omega)
  · rw [← arenaL_set t hk]
    exact B3.set k _
  · rw [World.size_setCell]
    refine (hF.far (a := ⟨w.heap.size + 1 + 1, k, none⟩) (.slice x.a x.n x.c) (.inl (by simp))).more hN hN' x fun hp => ?_
    obtain ⟨b, e, h1, h2, ho⟩ := hx hp
    exact ⟨b, e, h1, h2, ho.far _ (by simp; omega)⟩

set_option maxHeartbeats 1000000 in
theorem copyArena_any (s : Nat → Sl) (z : Nat → Nat → Int) (w : World) (hf : Fit s) (h : Arn w s z) :
    Calls Try.prog 8 #[arenaA s] w fun e w' => ∃ t, e = .returned (arenaA t) ∧ (∀ g, g < 4 → (t g).n = (s g).n) ∧ Nilly t ∧ Fresh w.heap.size w'.heap.size w' t z 4 ∧ Below w.heap.size w w' := by
  obtain ⟨i0, hi, hz0, hz1, hz2⟩ := info_parts Try.infoWord
  unfold arenaA
  go_enter Try.func8, Try.ntmps8
  go_wp2
  go_loopw [4] (fun i wr => ∃ (k : Nat) (t : Nat → Sl), k ≤ 4 ∧ i = .int .i64 k ∧ (∀ g, g < k → (t g).n = (s g).n) ∧ Nilly t ∧ Blk wr w.heap.size (arenaL s) ∧ Blk wr (w.heap.size + 1) (arenaL nilS) ∧ Blk wr (w.heap.size + 1 + 1) (arenaL t) ∧ Fresh (w.heap.size + 1 + 1 + 1) wr.heap.size wr t z k ∧ w.heap.size + 1 + 1 + 1 ≤ wr.heap.size ∧ Below w.heap.size w wr) (fun i _ => 4 - (intOf i).toNat)
  case atStart =>
    refine ⟨0, nilS, Nat.zero_le _, rfl, fun _ h => absurd h (Nat.not_lt_zero _), Nilly.nil, ?_, ?_, ?_, Fresh.zero _ _ _ _ _, ?_, by go_grown⟩
    · exact ((blk_new w (arenaL s) 23).alloc _).alloc _
    · have := (blk_new (w.alloc (.cells (arenaL s).toArray 23)) (arenaL nilS) 23).alloc (.cells (arenaL nilS).toArray 23)
      rw [World.size_alloc] at this
      exact this
    · have := blk_new ((w.alloc (.cells (arenaL s).toArray 23)).alloc (.cells (arenaL nilS).toArray 23)) (arenaL nilS) 23
      rw [World.size_alloc, World.size_alloc] at this
      exact this
    · simp only [World.size_alloc]; omega
  case round =>
    obtain ⟨k, t, hk, rfl, ht, hny, B1, B2, B3, hF, hz, hb⟩ := hrel
    have HNY := hide hny
    clear hny
    by_cases hlt : k < 4
    · have i1 : (k : Int) < 4 := by omega
      have c1 := B1.cell k _ (arenaL_get s hlt)
      have d1 := B3.cell k _ (arenaL_get t hlt)
      have f1 := B3.frozen k
      have z2 := B3.lt
      have z1 := B1.lt
      have hr := (h.below hb (Nat.le_refl _)) k hlt
      obtain ⟨hn, ha⟩ := hf k hlt
      clear h hf
      cases hsa : (s k).a with
      | none =>
        obtain ⟨hn0, hc0⟩ := ha hsa
        rw [hsa, hn0, hc0] at c1
        have HT := hide ht
        have HN := hide hn0
        clear ha hr hsa hn0 hc0 ht hn
        go_wp2
        go_roundw
        case rel =>
          have st := copy_step (x := ⟨some ⟨wr.heap.size, 0, none⟩, 0, 0⟩) hlt HT.out B1 B2 B3 hF hz (Nat.le_refl _) hb HN.out.symm (fun h => absurd h (Nat.lt_irrefl 0))
          obtain ⟨s1, s2, s3, s4, s5, s6, s7⟩ := st
          exact ⟨k + 1, _, by omega, by go_num, s1, HNY.out.upd k ⟨fun h => (by cases h), Nat.le_refl _⟩, s2.alloc _, s3.alloc _, s4.alloc _, (s5.alloc _).mono (Nat.le_refl _) (by simp only [World.size_alloc, World.size_setCell]; omega), by simp only [World.size_alloc, World.size_setCell]; omega, s7.alloc (by simp only [World.size_setCell]; omega) _⟩
        case measure => simp [intOf]; omega
      | some ad =>
        rw [hsa] at c1 hr
        have hown : (wr.alloc (.cells #[] 27)).ownsRow wr.heap.size 27 3 (.slice (some ⟨wr.heap.size, 0, none⟩) 0 0) 0 [] := World.ownsRow_made wr #[] 0 (Nat.le_refl _) (by decide) rfl
        have HO := hide hown
        have HR := hide (hr.below ((Below.refl wr.heap.size wr).alloc (Nat.le_refl _) (.cells #[] 27)) (Nat.le_refl _)).news
        have HL := hide (rowL_len (intF (z k)) ((s k).n * 3))
        have H1 := hide (rowL_one (f := intF (z k)) (m := (s k).n * 3) fun _ _ => rfl)
        have HT := hide ht
        clear ha hown hr hsa ht
        go_wp2_with (at_builtin; refine wpList_append_own _ rfl (.tmp 10) (.tmp 13) 22 rfl wr.heap.size 27 i0 (.agg #[.int .i64 0, .int .i64 0, .int .i64 0]) 3 24 Try.underlying22 hi hz0 hz1 hz2 rfl (by decide) _ _ _ rfl (unhide HO) ad (s k).n (s k).c (rowL (intF (z k)) ((s k).n * 3)) rfl (unhide HL) (unhide HR) (unhide H1) ?_ ?_ ?_ ?_)
        · unfold maxLen; omega
        · omega
        · simp
        · intro v' w1 hown' hg _
          have hown2 : w1.ownsRow wr.heap.size 27 3 v' (s k).n (rowL (intF (z k)) ((s k).n * 3)) := by simpa using hown'
          have bw : Below wr.heap.size wr w1 := ((Below.refl wr.heap.size wr).alloc (Nat.le_refl _) (.cells #[] 27)).grown hg (by simp) (by intro j hj; simp [Value.ownBlock] at hj; omega)
          obtain ⟨x, rfl, hxn, hxy, hxo⟩ : ∃ x : Sl, v' = .slice x.a x.n x.c ∧ x.n = (s k).n ∧ ((x.a = none → x.n = 0 ∧ x.c = 0) ∧ x.n ≤ x.c) ∧ (0 < x.n → ∃ b, x.a = some ⟨b, 0, none⟩ ∧ wr.heap.size ≤ b ∧ b < w1.heap.size ∧ Own w1 b (x.n * 3) (intF (z k))) := by
            rcases own_of_owns hown2 with ⟨rfl, h0⟩ | ⟨g, cap, rfl, hg1, hcp, _, ho⟩
            · exact ⟨⟨none, 0, 0⟩, rfl, h0.symm, ⟨fun _ => ⟨rfl, rfl⟩, Nat.le_refl _⟩, fun h => absurd h (Nat.lt_irrefl 0)⟩
            · exact ⟨⟨some ⟨g, 0, none⟩, (s k).n, cap⟩, rfl, rfl, ⟨fun h => (by cases h), hcp⟩, fun _ => ⟨g, rfl, hg1, ho.lt, ho⟩⟩
          have B1' := B1.on bw
          have B2' := B2.on bw
          have B3' := B3.on bw
          have hF' := hF.on bw
          have hb' : Below w.heap.size w w1 := Below.on hb bw
          have d2 := B3'.cell k _ (arenaL_get t hlt)
          have f2 := B3'.frozen k
          have z3 := bw.size
          have HX := hide hxo
          have HXN := hide hxn
          have HXY := hide hxy
          have HF := hide hF'
          clear hown' hg hown2 hxo hxn hxy hF' hF B1 B2 B3 hb bw c1 d1 f1 z1 z2 HO HR HL H1
          go_wp2
          go_roundw
          case rel =>
            obtain ⟨s1, s2, s3, s4, s5, s6, s7⟩ := copy_step hlt HT.out B1' B2' B3' HF.out hz z3 hb' HXN.out HX.out
            exact ⟨k + 1, _, by omega, by go_num, s1, HNY.out.upd k HXY.out, s2, s3, s4, s5, s6, s7⟩
          case measure => simp [intOf]; omega
    · obtain rfl : k = 4 := by omega
      obtain ⟨⟨c0, c1, c2, c3⟩, f0, f1, f2, f3⟩ := B3.four
      obtain ⟨⟨d0, d1, d2, d3⟩, g0, g1, g2, g3⟩ := B2.four
      have HT := hide ht
      clear ht h hf
      go_wp2
      refine bodyPost_ret (v := .agg #[.slice (t 0).a (t 0).n (t 0).c, .slice (t 1).a (t 1).n (t 1).c, .slice (t 2).a (t 2).n (t 2).c, .slice (t 3).a (t 3).n (t 3).c]) (by simp [results, Try.results8, go_sem, d0, d1, d2, d3]) rfl ⟨t, rfl, HT.out, HNY.out, ?_, by go_grown⟩
      simp only [World.size_setCell]
      exact ((((hF.far _ (.inl (by simp))).far _ (.inl (by simp))).far _ (.inl (by simp))).far _ (.inl (by simp))).mono (by omega) (Nat.le_refl _)
set_option maxHeartbeats 1000000 in
theorem rcopyArena_any (s : Nat → Sl) (z : Nat → Nat → Int) (w : World) (hf : Fit s) (h : Arn w s z) :
    Calls Try.prog 27 #[arenaA s] w fun e w' => ∃ t, e = .returned (arenaA t) ∧ (∀ g, g < 4 → (t g).n = (s g).n) ∧ Nilly t ∧ Fresh w.heap.size w'.heap.size w' t z 4 ∧ Below w.heap.size w w' := by
  obtain ⟨i0, hi, hz0, hz1, hz2⟩ := info_parts Try.infoWord
  unfold arenaA
  go_enter Try.func27, Try.ntmps27
  go_wp2
  go_loopw [4] (fun i wr => ∃ (k : Nat) (t : Nat → Sl), k ≤ 4 ∧ i = .int .i64 k ∧ (∀ g, g < k → (t g).n = (s g).n) ∧ Nilly t ∧ Blk wr w.heap.size (arenaL s) ∧ Blk wr (w.heap.size + 1) (arenaL nilS) ∧ Blk wr (w.heap.size + 1 + 1) (arenaL t) ∧ Fresh (w.heap.size + 1 + 1 + 1) wr.heap.size wr t z k ∧ w.heap.size + 1 + 1 + 1 ≤ wr.heap.size ∧ Below w.heap.size w wr) (fun i _ => 4 - (intOf i).toNat)
  case atStart =>
    refine ⟨0, nilS, Nat.zero_le _, rfl, fun _ h => absurd h (Nat.not_lt_zero _), Nilly.nil, ?_, ?_, ?_, Fresh.zero _ _ _ _ _, ?_, by go_grown⟩
    · exact ((blk_new w (arenaL s) 23).alloc _).alloc _
    · have := (blk_new (w.alloc (.cells (arenaL s).toArray 23)) (arenaL nilS) 23).alloc (.cells (arenaL nilS).toArray 23)
      rw [World.size_alloc] at this
      exact this
    · have := blk_new ((w.alloc (.cells (arenaL s).toArray 23)).alloc (.cells (arenaL nilS).toArray 23)) (arenaL nilS) 23
      rw [World.size_alloc, World.size_alloc] at this
      exact this
    · simp only [World.size_alloc]; omega
  case round =>
    obtain ⟨k, t, hk, rfl, ht, hny, B1, B2, B3, hF, hz, hb⟩ := hrel
    have HNY := hide hny
    clear hny
    by_cases hlt : k < 4
    · have i1 : (k : Int) < 4 := by omega
      have c1 := B1.cell k _ (arenaL_get s hlt)
      have d1 := B3.cell k _ (arenaL_get t hlt)
      have f1 := B3.frozen k
      have z2 := B3.lt
      have z1 := B1.lt
      have hr := (h.below hb (Nat.le_refl _)) k hlt
      obtain ⟨hn, ha⟩ := hf k hlt
      clear h hf
      cases hsa : (s k).a with
      | none =>
        obtain ⟨hn0, hc0⟩ := ha hsa
        rw [hsa, hn0, hc0] at c1
        have HT := hide ht
        have HN := hide hn0
        clear ha hr hsa hn0 hc0 ht hn
        go_wp2
        go_roundw
        case rel =>
          have st := copy_step (x := ⟨some ⟨wr.heap.size, 0, none⟩, 0, 0⟩) hlt HT.out B1 B2 B3 hF hz (Nat.le_refl _) hb HN.out.symm (fun h => absurd h (Nat.lt_irrefl 0))
          obtain ⟨s1, s2, s3, s4, s5, s6, s7⟩ := st
          exact ⟨k + 1, _, by omega, by go_num, s1, HNY.out.upd k ⟨fun h => (by cases h), Nat.le_refl _⟩, s2.alloc _, s3.alloc _, s4.alloc _, (s5.alloc _).mono (Nat.le_refl _) (by simp only [World.size_alloc, World.size_setCell]; omega), by simp only [World.size_alloc, World.size_setCell]; omega, s7.alloc (by simp only [World.size_setCell]; omega) _⟩
        case measure => simp [intOf]; omega
      | some ad =>
        rw [hsa] at c1 hr
        have hown : (wr.alloc (.cells #[] 27)).ownsRow wr.heap.size 27 3 (.slice (some ⟨wr.heap.size, 0, none⟩) 0 0) 0 [] := World.ownsRow_made wr #[] 0 (Nat.le_refl _) (by decide) rfl
        have HO := hide hown
        have HR := hide (hr.below ((Below.refl wr.heap.size wr).alloc (Nat.le_refl _) (.cells #[] 27)) (Nat.le_refl _)).news
        have HL := hide (rowL_len (intF (z k)) ((s k).n * 3))
        have H1 := hide (rowL_one (f := intF (z k)) (m := (s k).n * 3) fun _ _ => rfl)
        have HT := hide ht
        clear ha hown hr hsa ht
        go_wp2_with (at_builtin; refine wpList_append_own _ rfl (.tmp 10) (.tmp 13) 22 rfl wr.heap.size 27 i0 (.agg #[.int .i64 0, .int .i64 0, .int .i64 0]) 3 24 Try.underlying22 hi hz0 hz1 hz2 rfl (by decide) _ _ _ rfl (unhide HO) ad (s k).n (s k).c (rowL (intF (z k)) ((s k).n * 3)) rfl (unhide HL) (unhide HR) (unhide H1) ?_ ?_ ?_ ?_)
        · unfold maxLen; omega
        · omega
        · simp
        · intro v' w1 hown' hg _
          have hown2 : w1.ownsRow wr.heap.size 27 3 v' (s k).n (rowL (intF (z k)) ((s k).n * 3)) := by simpa using hown'
          have bw : Below wr.heap.size wr w1 := ((Below.refl wr.heap.size wr).alloc (Nat.le_refl _) (.cells #[] 27)).grown hg (by simp) (by intro j hj; simp [Value.ownBlock] at hj; omega)
          obtain ⟨x, rfl, hxn, hxy, hxo⟩ : ∃ x : Sl, v' = .slice x.a x.n x.c ∧ x.n = (s k).n ∧ ((x.a = none → x.n = 0 ∧ x.c = 0) ∧ x.n ≤ x.c) ∧ (0 < x.n → ∃ b, x.a = some ⟨b, 0, none⟩ ∧ wr.heap.size ≤ b ∧ b < w1.heap.size ∧ Own w1 b (x.n * 3) (intF (z k))) := by
            rcases own_of_owns hown2 with ⟨rfl, h0⟩ | ⟨g, cap, rfl, hg1, hcp, _, ho⟩
            · exact ⟨⟨none, 0, 0⟩, rfl, h0.symm, ⟨fun _ => ⟨rfl, rfl⟩, Nat.le_refl _⟩, fun h => absurd h (Nat.lt_irrefl 0)⟩
            · exact ⟨⟨some ⟨g, 0, none⟩, (s k).n, cap⟩, rfl, rfl, ⟨fun h => (by cases h), hcp⟩, fun _ => ⟨g, rfl, hg1, ho.lt, ho⟩⟩
          have B1' := B1.on bw
          have B2' := B2.on bw
          have B3' := B3.on bw
          have hF' := hF.on bw
          have hb' : Below w.heap.size w w1 := Below.on hb bw
          have d2 := B3'.cell k _ (arenaL_get t hlt)
          have f2 := B3'.frozen k
          have z3 := bw.size
          have HX := hide hxo
          have HXN := hide hxn
          have HXY := hide hxy
          have HF := hide hF'
          clear hown' hg hown2 hxo hxn hxy hF' hF B1 B2 B3 hb bw c1 d1 f1 z1 z2 HO HR HL H1
          go_wp2
          go_roundw
          case rel =>
            obtain ⟨s1, s2, s3, s4, s5, s6, s7⟩ := copy_step hlt HT.out B1' B2' B3' HF.out hz z3 hb' HXN.out HX.out
            exact ⟨k + 1, _, by omega, by go_num, s1, HNY.out.upd k HXY.out, s2, s3, s4, s5, s6, s7⟩
          case measure => simp [intOf]; omega
    · obtain rfl : k = 4 := by omega
      obtain ⟨⟨c0, c1, c2, c3⟩, f0, f1, f2, f3⟩ := B3.four
      obtain ⟨⟨d0, d1, d2, d3⟩, g0, g1, g2, g3⟩ := B2.four
      have HT := hide ht
      clear ht h hf
      go_wp2
      refine bodyPost_ret (v := .agg #[.slice (t 0).a (t 0).n (t 0).c, .slice (t 1).a (t 1).n (t 1).c, .slice (t 2).a (t 2).n (t 2).c, .slice (t 3).a (t 3).n (t 3).c]) (by simp [results, Try.results27, go_sem, d0, d1, d2, d3]) rfl ⟨t, rfl, HT.out, HNY.out, ?_, by go_grown⟩
      simp only [World.size_setCell]
      exact ((((hF.far _ (.inl (by simp))).far _ (.inl (by simp))).far _ (.inl (by simp))).far _ (.inl (by simp))).mono (by omega) (Nat.le_refl _)

end Go.Proofs.Ytmjclmjnkmhciaa
