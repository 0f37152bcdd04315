/-
  The document's answers to chapter 4: may it be an arena, is there such a word, Get, a copy, Put, New.
-/
import Derived.Test.YtmjclmjnkmhciaaArenaPure
import Derived.Test.YtmjclmjnkmhciaaWordRef
import Derived.Test.YtmjclmjnkmhciaaLabelAnys
namespace Go.Proofs.Ytmjclmjnkmhciaa
open Go.RowKit

set_option maxHeartbeats 1000000 in
theorem rarenaMay_any (s : Nat → Sl) (z : Nat → Nat → Int) (w : World) (hn : Short s) (h : Arn w s z) :
    Calls Try.prog 18 #[arenaA s] w fun e w' => e = .returned (.bool (amay s z)) ∧ Below w.heap.size w w' := by
  unfold arenaA amay
  go_enter Try.func18, Try.ntmps18
  go_wp2
  go_loopw [3] (fun i wr => ∃ k : Nat, k ≤ 4 ∧ i = .int .i64 k ∧ lvTo s z k = true ∧ Blk wr w.heap.size (arenaL s) ∧ Below w.heap.size w wr) (fun i _ => 4 - (intOf i).toNat)
  case atStart => exact ⟨0, Nat.zero_le _, rfl, rfl, blk_new w (arenaL s) 23, by go_grown⟩
  case round =>
    obtain ⟨k, hk, rfl, hs, B1, hb⟩ := hrel
    by_cases hlt : k < 4
    · have i1 : (k : Int) < 4 := by omega
      have HK := hide (hn k hlt)
      have HS := hide hs
      have HR := hide h
      clear hs h hn
      go_wp2
      go_loopw [4] (fun j wr => ∃ m : Nat, m ≤ (s k).n ∧ m ≤ 4 ∧ j = .int .i64 m ∧ wordsTo (z k) m = true ∧ Blk wr w.heap.size (arenaL s) ∧ Below w.heap.size w wr) (fun j _ => 5 - (intOf j).toNat)
      case atStart => exact ⟨0, Nat.zero_le _, Nat.zero_le _, rfl, rfl, B1, hb⟩
      case round =>
        clear B1 hb
        rename_i wr1
        obtain ⟨m, hm, hm4, rfl, hw, B1, hb⟩ := hrel
        have c1 := B1.cell k _ (arenaL_get s hlt)
        have HW := hide hw
        clear hw
        by_cases hmn : m < (s k).n
        · have i2 : (m : Int) < ((s k).n : Int) := by omega
          by_cases h4 : m < 4
          · have i3 : ¬ (4 : Int) ≤ (m : Int) := by omega
            obtain ⟨b, off, hsa, _, d0, d1, d2⟩ := ((HR.out.below hb (Nat.le_refl _)) k hlt).at3 m hmn
            rw [hsa] at c1
            have HA := hide hsa
            clear hsa
            cases hv : wmay (z k (m * 3)) (z k (m * 3 + 1)) (z k (m * 3 + 2))
            · go_wp2_with fail
              refine (rwmay_any _ _ _ _).mono ?_
              rintro e w1 ⟨rfl, hb1⟩
              rw [hv]
              have b1 : Below w.heap.size w w1 := Below.on hb hb1
              clear hb1 c1 d0 d1 d2
              go_wp2
              go_ret
              exact ⟨ret_bool (lvTo_no k hlt (lvMay_bad m hmn hv)).symm, b1⟩
            · go_wp2_with fail
              refine (rwmay_any _ _ _ _).mono ?_
              rintro e w1 ⟨rfl, hb1⟩
              rw [hv]
              have b1 : Below w.heap.size w w1 := Below.on hb hb1
              have B3 := B1.on hb1
              have HN : Hid (wordsTo (z k) (m + 1) = true) := by
                show wordsTo (z k) (m + 1) = true
                rw [wordsTo, HW.out, hv]
                rfl
              clear hb1 c1 d0 d1 d2 B1 hb
              go_wp2
              go_roundw
              case rel => exact ⟨m + 1, by omega, by omega, by go_num, HN.out, B3, b1⟩
              case measure => simp [intOf]; omega
          · have i3 : (4 : Int) ≤ (m : Int) := by omega
            go_wp2
            go_ret
            exact ⟨ret_bool (lvTo_no k hlt (lvMay_long (by omega))).symm, hb⟩
        · obtain rfl : m = (s k).n := by omega
          have HN : Hid (lvTo s z (k + 1) = true) := by
            show lvTo s z (k + 1) = true
            rw [lvTo, HS.out, lvMay_mk (by omega) HW.out]
            rfl
          go_wp2
          go_roundw
          case rel => exact ⟨k + 1, by omega, by go_num, HN.out, B1, hb⟩
          case measure => simp [intOf]; omega
    · obtain rfl : k = 4 := by omega
      have HS := hide hs
      clear hs h hn
      go_wp2
      go_ret
      exact ⟨ret_bool HS.out.symm, hb⟩

theorem rthere_any (s : Nat → Sl) (l i : Int) (w : World) :
    Calls Try.prog 23 #[arenaA s, .int .i64 l, .int .i64 i] w fun e w' => e = .returned (.bool (thereV s l i)) ∧ Below w.heap.size w w' := by
  by_cases hl : 0 ≤ l ∧ l < 4
  · have hm : mayV l = true := decide_eq_true hl
    obtain ⟨g, rfl⟩ : ∃ g : Nat, l = g := ⟨l.toNat, by omega⟩
    have hg : g < 4 := by omega
    have g0 : (0 : Int) ≤ (g : Int) := by omega
    have g1 : (g : Int) < 4 := by omega
    by_cases h0 : 0 ≤ i
    · have c1 := (blk_new w (arenaL s) 23).cell g _ (arenaL_get s hg)
      unfold arenaL at c1
      by_cases h1 : i < ((s g).n : Int)
      · have HT : thereV s (g : Int) i = true := decide_eq_true ⟨hl, h0, by simpa using h1⟩
        rw [HT]
        clear HT hl
        unfold arenaA
        go_enter Try.func23, Try.ntmps23
        go_wp2_with (go_at_call 33; refine (rmay_any _ _).mono ?_; rintro e w' ⟨rfl, rfl⟩)
        go_ret
        exact ⟨rfl, (Below.refl _ _).alloc (Nat.le_refl _) _⟩
      · have HT : thereV s (g : Int) i = false := decide_eq_false (fun x => h1 (by simpa using x.2.2))
        rw [HT]
        clear HT hl
        unfold arenaA
        go_enter Try.func23, Try.ntmps23
        go_wp2_with (go_at_call 33; refine (rmay_any _ _).mono ?_; rintro e w' ⟨rfl, rfl⟩)
        go_ret
        exact ⟨ret_bool (decide_eq_false (by omega)), (Below.refl _ _).alloc (Nat.le_refl _) _⟩
    · have HT : thereV s (g : Int) i = false := decide_eq_false (fun x => h0 x.2.1)
      rw [HT]
      clear HT hl
      unfold arenaA
      go_enter Try.func23, Try.ntmps23
      go_wp2_with (go_at_call 33; refine (rmay_any _ _).mono ?_; rintro e w' ⟨rfl, rfl⟩)
      go_ret
      exact ⟨rfl, (Below.refl _ _).alloc (Nat.le_refl _) _⟩
  · have hm : mayV l = false := decide_eq_false hl
    have HT : thereV s l i = false := decide_eq_false (fun x => hl x.1)
    rw [HT]
    clear HT hl
    unfold arenaA
    go_enter Try.func23, Try.ntmps23
    go_wp2_with (go_at_call 33; refine (rmay_any _ _).mono ?_; rintro e w' ⟨rfl, rfl⟩)
    go_ret
    exact ⟨rfl, (Below.refl _ _).alloc (Nat.le_refl _) _⟩

set_option linter.unusedSimpArgs false
set_option maxHeartbeats 1000000 in
theorem rget_any (s : Nat → Sl) (z : Nat → Nat → Int) (l i : Int) (w : World) (hn : Short s) (h : Arn w s z) :
    Calls Try.prog 12 #[arenaA s, .int .i64 l, .int .i64 i] w fun e w' => e = .returned (.tuple #[getW s z l i, .int .i64 (getE s z l i)]) ∧ Below w.heap.size w w' := by
  cases ha : amay s z
  · obtain ⟨e1, e2⟩ := getW_no (s := s) (z := z) (l := l) (i := i) (by rw [ha]; rfl)
    rw [e1, e2]
    unfold arenaA wordA
    go_enter Try.func12, Try.ntmps12
    go_wp2_with fail
    refine (rarenaMay_any s z _ hn (h.below (by go_grown : Below w.heap.size w _) (Nat.le_refl _))).mono ?_
    rintro e w1 ⟨rfl, hb⟩
    rw [ha]
    have B2 := (blk_new (w.alloc _) _ _).on hb
    rw [World.size_alloc] at B2
    have b1 : Below w.heap.size w w1 := Below.on (by go_grown) hb
    obtain ⟨⟨d0, d1, d2⟩, g0, g1, g2⟩ := B2.three
    clear hb h hn
    go_wp2
    exact bodyPost_ret (v := .tuple #[.agg #[.int .i64 0, .int .i64 0, .int .i64 0], .int .i64 400]) (by simp [results, Try.results12, go_sem, d0, d1, d2]) rfl ⟨rfl, by go_grown⟩
  · cases ht : thereV s l i
    · obtain ⟨e1, e2⟩ := getW_no (s := s) (z := z) (l := l) (i := i) (by rw [ha, ht]; rfl)
      rw [e1, e2]
      unfold arenaA wordA
      go_enter Try.func12, Try.ntmps12
      go_wp2_with fail
      refine (rarenaMay_any s z _ hn (h.below (by go_grown : Below w.heap.size w _) (Nat.le_refl _))).mono ?_
      rintro e w1 ⟨rfl, hb⟩
      rw [ha]
      have B1 := ((blk_new w (arenaL s) 23).alloc _).on hb
      have B2 := (blk_new (w.alloc _) _ _).on hb
      rw [World.size_alloc] at B2
      have b1 : Below w.heap.size w w1 := Below.on (by go_grown) hb
      obtain ⟨⟨c0, c1, c2, c3⟩, f0, f1, f2, f3⟩ := B1.four
      clear hb h hn
      go_wp2_with fail
      refine (rthere_any s l i _).mono ?_
      rintro e w2 ⟨rfl, hb⟩
      rw [ht]
      replace B2 := B2.on hb
      have b2 : Below w.heap.size w w2 := Below.on b1 hb
      clear hb b1 c0 c1 c2 c3 f0 f1 f2 f3
      obtain ⟨⟨d0, d1, d2⟩, g0, g1, g2⟩ := B2.three
      go_wp2
      exact bodyPost_ret (v := .tuple #[.agg #[.int .i64 0, .int .i64 0, .int .i64 0], .int .i64 400]) (by simp [results, Try.results12, go_sem, d0, d1, d2]) rfl ⟨rfl, by go_grown⟩
    · obtain ⟨e1, e2⟩ := getW_yes ha ht
      rw [e1, e2]
      obtain ⟨g, k, rfl, rfl, hg, hk⟩ := thereV_get ht
      have i1 : (g : Int) < 4 := by omega
      have i2 : (k : Int) < ((s g).n : Int) := by omega
      rw [Int.toNat_natCast, Int.toNat_natCast]
      clear e1 e2
      unfold arenaA wordA
      go_enter Try.func12, Try.ntmps12
      go_wp2_with fail
      refine (rarenaMay_any s z _ hn (h.below (by go_grown : Below w.heap.size w _) (Nat.le_refl _))).mono ?_
      rintro e w1 ⟨rfl, hb⟩
      rw [ha]
      have B1 := ((blk_new w (arenaL s) 23).alloc _).on hb
      have B2 := (blk_new (w.alloc _) _ _).on hb
      rw [World.size_alloc] at B2
      have b1 : Below w.heap.size w w1 := Below.on (by go_grown) hb
      obtain ⟨⟨c0, c1, c2, c3⟩, f0, f1, f2, f3⟩ := B1.four
      clear hb
      go_wp2_with fail
      refine (rthere_any s g k _).mono ?_
      rintro e w2 ⟨rfl, hb⟩
      rw [ht]
      replace B1 := B1.on hb
      replace B2 := B2.on hb
      have b2 : Below w.heap.size w w2 := Below.on b1 hb
      clear hb b1 c0 c1 c2 c3 f0 f1 f2 f3
      obtain ⟨⟨d0, d1, d2⟩, g0, g1, g2⟩ := B2.three
      have c1 := B1.cell g _ (arenaL_get s hg)
      obtain ⟨b, off, hsa, _, j0, j1, j2⟩ := ((h.below b2 (Nat.le_refl _)) g hg).at3 k hk
      rw [hsa] at c1
      have zb2 := B2.lt
      clear h hn hsa
      go_wp2
      exact bodyPost_ret (v := .tuple #[.agg #[.int .i64 (z g (k * 3)), .int .i64 (z g (k * 3 + 1)), .int .i64 (z g (k * 3 + 2))], .int .i64 0]) (by simp [results, Try.results12, go_sem, d0, d1, d2]) rfl ⟨rfl, by go_grown⟩

end Go.Proofs.Ytmjclmjnkmhciaa
