/-
  Words, arenas of a call's own, written over: nothing else turns.
-/
import Derived.Test.YtmjclmjnkmhciaaArenaCopy
import Derived.Test.YtmjclmjnkmhciaaTouch
namespace Go.Proofs.Ytmjclmjnkmhciaa
open Go.RowKit

theorem Fresh.touch {B C B' C' : Nat} {w w' : World} {t : Nat → Sl} {z : Nat → Nat → Int} {k : Nat} (h : Fresh B C w t z k) (ht : Touch B' C' w w') (hd : C' ≤ B ∨ C ≤ B') : Fresh B C w' t z k := by
  obtain ⟨β, h1, h2⟩ := h
  exact ⟨β, fun g hg hn => ⟨(h1 g hg hn).1, (h1 g hg hn).2.1, (h1 g hg hn).2.2.1, (h1 g hg hn).2.2.2.touch ht (by have := (h1 g hg hn).2.1; have := (h1 g hg hn).2.2.1; omega)⟩, h2⟩

set_option maxHeartbeats 400000 in
theorem spoilWords_any (b n c : Nat) (z : Nat → Int) (w : World) (hn : n ≤ 1152921504606846976) (h : Own w b (n * 3) (intF z)) :
    Calls Try.prog 30 #[.slice (some ⟨b, 0, none⟩) n c] w fun e w' => e = .returned (.tuple #[]) ∧ (∃ z', Own w' b (n * 3) (intF z')) ∧ Touch b (b + 1) w w' ∧ w'.heap.size = w.heap.size := by
  go_enter Try.func30, Try.ntmps30
  go_wp2
  go_loopw [2] (fun i wr => ∃ (k : Nat) (z : Nat → Int), k ≤ n ∧ i = .int .i64 k ∧ Own wr b (n * 3) (intF z) ∧ Touch b (b + 1) w wr ∧ wr.heap.size = w.heap.size) (fun i _ => n - (intOf i).toNat)
  case atStart => exact ⟨0, z, Nat.zero_le _, rfl, h, Touch.refl _ _ _, rfl⟩
  case round =>
    obtain ⟨k, z, hk, rfl, ho, ht, hs⟩ := hrel
    by_cases hlt : k < n
    · have i1 : (k : Int) < (n : Int) := by omega
      have c0 := ho.cell (i := k * 3) (by omega)
      have f0 := ho.frozen (k * 3)
      unfold intF at c0
      have HS := hide hs
      clear hs
      go_wp2
      go_roundw
      case rel => exact ⟨k + 1, _, by omega, by go_num, ho.setInt _ _, ht.setCell (by simp) (by simp) _, by rw [World.size_setCell]; exact HS.out⟩
      case measure => simp [intOf]; omega
    · go_wp2
      go_end0
      exact ⟨rfl, ⟨z, ho⟩, ht, hs⟩

theorem spoilWords_none (a : Option Addr) (c : Nat) (w : World) :
    Calls Try.prog 30 #[.slice a 0 c] w fun e w' => e = .returned (.tuple #[]) ∧ w = w' := by
  go_enter Try.func30, Try.ntmps30
  go_wp2
  go_loop [2] (fun i => i = .int .i64 0) (fun _ => 0)
  case atStart => rfl
  case round =>
    subst hrel
    go_wp2
    go_end0
    exact ⟨rfl, rfl⟩

theorem Fresh.spoilt {B C b : Nat} {w w' : World} {t : Nat → Sl} {z : Nat → Nat → Int} {k : Nat} (hk : k < 4) (h : Fresh B C w t z 4) (hp : 0 < (t k).n) (hb : (t k).a = some ⟨b, 0, none⟩) (ht : Touch b (b + 1) w w') (ho : ∃ z', Own w' b ((t k).n * 3) (intF z')) : ∃ z', Fresh B C w' t z' 4 := by
  obtain ⟨β, h1, h2⟩ := h
  obtain ⟨zk, ho⟩ := ho
  have e := (h1 k hk hp).1
  rw [hb] at e
  simp only [Option.some.injEq, Addr.mk.injEq, and_true] at e
  refine ⟨fun g => if g = k then zk else z g, β, fun g hg hn => ?_, h2⟩
  by_cases eg : g = k
  · subst eg
    simp only [if_pos]
    rw [← e]
    exact ⟨hb, by have := (h1 g hg hn).2.1; omega, by have := (h1 g hg hn).2.2.1; omega, ho⟩
  · simp only [if_neg eg]
    obtain ⟨a1, a2, a3, a4⟩ := h1 g hg hn
    refine ⟨a1, a2, a3, a4.touch ht ?_⟩
    rcases Nat.lt_or_gt_of_ne eg with hl | hl
    · have := h2 g k hl hk hn hp; omega
    · have := h2 k g hl hg hp hn; omega

set_option maxHeartbeats 400000 in
theorem spoilArena_any (B C : Nat) (t : Nat → Sl) (z : Nat → Nat → Int) (w : World) (hn : Short t) (h : Fresh B C w t z 4) (hC : C ≤ w.heap.size) :
    Calls Try.prog 19 #[arenaA t] w fun e w' => e = .returned (.tuple #[]) ∧ Touch B C w w' := by
  unfold arenaA
  go_enter Try.func19, Try.ntmps19
  go_wp2
  go_loopw [2] (fun i wr => ∃ (k : Nat) (z : Nat → Nat → Int), k ≤ 4 ∧ i = .int .i64 k ∧ Fresh B C wr t z 4 ∧ Blk wr w.heap.size (arenaL t) ∧ Touch B C w wr) (fun i _ => 4 - (intOf i).toNat)
  case atStart => exact ⟨0, z, Nat.zero_le _, rfl, h.alloc _, blk_new w (arenaL t) 23, (Touch.refl _ _ _).alloc _⟩
  case round =>
    clear h
    obtain ⟨k, z, hk, rfl, h, B1, ht⟩ := hrel
    by_cases hlt : k < 4
    · have i1 : (k : Int) < 4 := by omega
      have c1 := B1.cell k _ (arenaL_get t hlt)
      have HN := hide (hn k hlt)
      clear hn
      by_cases hp : 0 < (t k).n
      · obtain ⟨b, hb, hB, hC', ho⟩ : ∃ b, (t k).a = some ⟨b, 0, none⟩ ∧ B ≤ b ∧ b < C ∧ Own wr b ((t k).n * 3) (intF (z k)) := by
          obtain ⟨β, h1, _⟩ := h
          exact ⟨β k, h1 k hlt hp⟩
        rw [hb] at c1
        have HB := hide hb
        clear hb
        go_wp2_with fail
        refine (spoilWords_any b _ _ (z k) _ HN.out ho).mono ?_
        rintro e w1 ⟨rfl, ho', ht', _⟩
        obtain ⟨z', h'⟩ := Fresh.spoilt hlt h hp HB.out ht' ho'
        have B1' := B1.touch ht' (.inr (by omega))
        have T := ht.trans (ht'.mono hB (by omega))
        clear ho ho' ht' c1 B1 ht h
        go_wp2
        go_roundw
        case rel => exact ⟨k + 1, z', by omega, by go_num, h', B1', T⟩
        case measure => simp [intOf]; omega
      · have h0 : (t k).n = 0 := by omega
        rw [h0] at c1
        clear h0 HN hp
        go_wp2_with fail
        refine (spoilWords_none _ _ _).mono ?_
        rintro e w1 ⟨rfl, rfl⟩
        go_wp2
        go_roundw
        case rel => exact ⟨k + 1, z, by omega, by go_num, h, B1, ht⟩
        case measure => simp [intOf]; omega
    · go_wp2
      go_end0
      exact ⟨rfl, ht⟩

end Go.Proofs.Ytmjclmjnkmhciaa
