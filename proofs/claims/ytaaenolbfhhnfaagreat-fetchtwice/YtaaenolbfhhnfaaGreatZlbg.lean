/-
  The landed arena's 'there' and Get.
-/
import Derived.Test.YtaaenolbfhhnfaaGreatZlad
namespace Go.Proofs.YtaaenolbfhhnfaaGreat
open Go.RowKit
theorem there_any (s : Nat → Sl) (l i : Int) (w : World) :
    Calls Tryz.prog 152 #[arenaA s, .int .i64 l, .int .i64 i] w fun e w' => e = .returned (.bool (thereV s l i)) ∧ Below w.heap.size w w' := by
  by_cases hl : 0 ≤ l ∧ l < 4
  · have hm : mayV l = true := decide_eq_true hl
    obtain ⟨g, rfl⟩ : ∃ g : Nat, l = g := ⟨l.toNat, by omega⟩
    have hg : g < 4 := by omega
    have g0 : (0 : Int) ≤ (g : Int) := by omega
    have g1 : (g : Int) < 4 := by omega
    by_cases h0 : 0 ≤ i
    · have c1 := (blk_new w (arenaL s) 29).cell g _ (arenaL_get s hg)
      unfold arenaL at c1
      by_cases h1 : i < ((s g).n : Int)
      · have HT : thereV s (g : Int) i = true := decide_eq_true ⟨hl, h0, by simpa using h1⟩
        rw [HT]
        clear HT hl
        unfold arenaA
        go_enter Tryz.func152, Tryz.ntmps152
        go_wp2_with (go_at_call 117; refine (may_any _ _).mono ?_; rintro e w' ⟨rfl, rfl⟩)
        go_ret
        exact ⟨rfl, (Below.refl _ _).alloc (Nat.le_refl _) _⟩
      · have HT : thereV s (g : Int) i = false := decide_eq_false (fun x => h1 (by simpa using x.2.2))
        rw [HT]
        clear HT hl
        unfold arenaA
        go_enter Tryz.func152, Tryz.ntmps152
        go_wp2_with (go_at_call 117; refine (may_any _ _).mono ?_; rintro e w' ⟨rfl, rfl⟩)
        go_ret
        exact ⟨ret_bool (decide_eq_false (by omega)), (Below.refl _ _).alloc (Nat.le_refl _) _⟩
    · have HT : thereV s (g : Int) i = false := decide_eq_false (fun x => h0 x.2.1)
      rw [HT]
      clear HT hl
      unfold arenaA
      go_enter Tryz.func152, Tryz.ntmps152
      go_wp2_with (go_at_call 117; refine (may_any _ _).mono ?_; rintro e w' ⟨rfl, rfl⟩)
      go_ret
      exact ⟨rfl, (Below.refl _ _).alloc (Nat.le_refl _) _⟩
  · have hm : mayV l = false := decide_eq_false hl
    have HT : thereV s l i = false := decide_eq_false (fun x => hl x.1)
    rw [HT]
    clear HT hl
    unfold arenaA
    go_enter Tryz.func152, Tryz.ntmps152
    go_wp2_with (go_at_call 117; refine (may_any _ _).mono ?_; rintro e w' ⟨rfl, rfl⟩)
    go_ret
    exact ⟨rfl, (Below.refl _ _).alloc (Nat.le_refl _) _⟩
set_option linter.unusedSimpArgs false
set_option maxHeartbeats 1000000 in
theorem get_c : GetC := by
  intro s z l i w hf h
  cases ha : amay s z
  · obtain ⟨e1, e2⟩ := getW_no (s := s) (z := z) (l := l) (i := i) (by rw [ha]; rfl)
    rw [e1, e2]
    unfold arenaA wordA
    go_enter Tryz.func87, Tryz.ntmps87
    go_wp2_with fail
    refine (may_c s z _ hf (h.below (by go_grown : Below w.heap.size w _) (Nat.le_refl _))).mono ?_
    rintro e w1 ⟨rfl, hb⟩
    rw [ha]
    have B2 := (blk_new (w.alloc _) _ _).on hb
    rw [World.size_alloc] at B2
    have b1 : Below w.heap.size w w1 := Below.on (by go_grown) hb
    obtain ⟨⟨d0, d1, d2⟩, g0, g1, g2⟩ := B2.three
    clear hb h hf
    go_wp2
    exact bodyPost_ret (v := .tuple #[.agg #[.int .i64 0, .int .i64 0, .int .i64 0], .int .i64 400]) (by simp [results, Tryz.results87, go_sem, d0, d1, d2]) rfl ⟨rfl, by go_grown⟩
  · cases ht : thereV s l i
    · obtain ⟨e1, e2⟩ := getW_no (s := s) (z := z) (l := l) (i := i) (by rw [ha, ht]; rfl)
      rw [e1, e2]
      unfold arenaA wordA
      go_enter Tryz.func87, Tryz.ntmps87
      go_wp2_with fail
      refine (may_c s z _ hf (h.below (by go_grown : Below w.heap.size w _) (Nat.le_refl _))).mono ?_
      rintro e w1 ⟨rfl, hb⟩
      rw [ha]
      have B1 := ((blk_new w (arenaL s) 29).alloc _).on hb
      have B2 := (blk_new (w.alloc _) _ _).on hb
      rw [World.size_alloc] at B2
      have b1 : Below w.heap.size w w1 := Below.on (by go_grown) hb
      obtain ⟨⟨c0, c1, c2, c3⟩, f0, f1, f2, f3⟩ := B1.four
      clear hb h hf
      go_wp2_with fail
      refine (there_any s l i _).mono ?_
      rintro e w2 ⟨rfl, hb⟩
      rw [ht]
      replace B2 := B2.on hb
      have b2 : Below w.heap.size w w2 := Below.on b1 hb
      clear hb b1 c0 c1 c2 c3 f0 f1 f2 f3
      obtain ⟨⟨d0, d1, d2⟩, g0, g1, g2⟩ := B2.three
      go_wp2
      exact bodyPost_ret (v := .tuple #[.agg #[.int .i64 0, .int .i64 0, .int .i64 0], .int .i64 400]) (by simp [results, Tryz.results87, go_sem, d0, d1, d2]) rfl ⟨rfl, by go_grown⟩
    · obtain ⟨e1, e2⟩ := getW_yes ha ht
      rw [e1, e2]
      obtain ⟨g, k, rfl, rfl, hg, hk⟩ := thereV_get ht
      have i1 : (g : Int) < 4 := by omega
      have i2 : (k : Int) < ((s g).n : Int) := by omega
      rw [Int.toNat_natCast, Int.toNat_natCast]
      clear e1 e2
      unfold arenaA wordA
      go_enter Tryz.func87, Tryz.ntmps87
      go_wp2_with fail
      refine (may_c s z _ hf (h.below (by go_grown : Below w.heap.size w _) (Nat.le_refl _))).mono ?_
      rintro e w1 ⟨rfl, hb⟩
      rw [ha]
      have B1 := ((blk_new w (arenaL s) 29).alloc _).on hb
      have B2 := (blk_new (w.alloc _) _ _).on hb
      rw [World.size_alloc] at B2
      have b1 : Below w.heap.size w w1 := Below.on (by go_grown) hb
      obtain ⟨⟨c0, c1, c2, c3⟩, f0, f1, f2, f3⟩ := B1.four
      clear hb
      go_wp2_with fail
      refine (there_any s g k _).mono ?_
      rintro e w2 ⟨rfl, hb⟩
      rw [ht]
      replace B1 := B1.on hb
      replace B2 := B2.on hb
      have b2 : Below w.heap.size w w2 := Below.on b1 hb
      clear hb b1 c0 c1 c2 c3 f0 f1 f2 f3
      obtain ⟨⟨d0, d1, d2⟩, g0, g1, g2⟩ := B2.three
      have c1 := B1.cell g _ (arenaL_get s hg)
      obtain ⟨b, off, hsa, _, j0, j1, j2⟩ := ((h.below b2 (Nat.le_refl _)) g hg).at3 k hk
      rw [hsa] at c1
      have zb2 := B2.lt
      clear h hf hsa
      go_wp2
      exact bodyPost_ret (v := .tuple #[.agg #[.int .i64 (z g (k * 3)), .int .i64 (z g (k * 3 + 1)), .int .i64 (z g (k * 3 + 2))], .int .i64 0]) (by simp [results, Tryz.results87, go_sem, d0, d1, d2]) rfl ⟨rfl, by go_grown⟩
end Go.Proofs.YtaaenolbfhhnfaaGreat
