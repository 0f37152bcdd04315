/-
  The document's answer to chapter 6.
-/
import Derived.Test.YtjjokalheloimaaGreatRows
import Derived.Test.YtjjokalheloimaaGreatZlac
import Derived.Test.YtjjokalheloimaaGreatZlab
import Derived.WalkKit
import Derived.WalkSpells
import Derived.RegionTactic
import Derived.BigRegion
import Derived.Deep.Cut
namespace Go.Proofs.YtjjokalheloimaaGreat
open Go.RowKit
set_option linter.unusedSimpArgs false
theorem rregsMay_any (c : Nat → Int) (w : World) :
    Calls Tryz.prog 132 #[quadA c] w fun e w' => e = .returned (.bool (allUp c 255 4)) ∧ Below w.heap.size w w' := by
  unfold quadA
  go_enter Tryz.func132, Tryz.ntmps132
  go_wp2
  go_loopw [3] (fun i wr => ∃ k : Nat, k ≤ 4 ∧ i = .int .i64 k ∧ Hid (allUp c 255 k = true) ∧ Blk wr w.heap.size (quadL c) ∧ Below w.heap.size w wr) (fun i _ => 4 - (intOf i).toNat)
  case atStart => exact ⟨0, Nat.zero_le _, rfl, rfl, blk_new w (quadL c) 30, by go_grown⟩
  case round =>
    obtain ⟨k, hk, rfl, HS, B1, hb⟩ := hrel
    by_cases hlt : k < 4
    · have i1 : (k : Int) < 4 := by omega
      have c1 := B1.cell k _ (quadL_get c hlt)
      cases hv : upToV (c k) 255
      · go_wp2_with (go_at_call 88; refine (rvalue_any _ _).mono ?_; rintro e w' ⟨rfl, rfl⟩)
        go_ret
        exact ⟨ret_bool (allUp_no k hlt hv).symm, hb⟩
      · have HN : Hid (allUp c 255 (k + 1) = true) := by
          show allUp c 255 (k + 1) = true
          rw [allUp, HS.out, hv]
          rfl
        go_wp2_with (go_at_call 88; refine (rvalue_any _ _).mono ?_; rintro e w' ⟨rfl, rfl⟩)
        go_roundw
        case rel => exact ⟨k + 1, by omega, by go_num, HN, B1, hb⟩
        case measure => simp [intOf]; omega
    · obtain rfl : k = 4 := by omega
      go_wp2
      go_ret
      exact ⟨ret_bool HS.out.symm, hb⟩
set_option maxHeartbeats 1000000 in
theorem rset_any (c : Nat → Int) (a b : Int) (w : World) :
    Calls Tryz.prog 170 #[quadA c, .int .i64 a, .int .i64 b] w fun e w' => e = .returned (.tuple #[quadA (setC c a b), .int .i64 (setE c a b)]) ∧ Below w.heap.size w w' := by
  cases h1 : allUp c 255 4
  · obtain ⟨e1, e2⟩ := set_no (c := c) (a := a) (v := b) (and3_no1 h1)
    rw [e1, e2]
    unfold quadA
    go_enter Tryz.func170, Tryz.ntmps170
    go_wp2_with fail
    refine (rregsMay_any c _).mono ?_
    rintro e w1 ⟨rfl, hb⟩
    rw [h1]
    have B2 := (blk_new (w.alloc _) _ _).on hb
    rw [World.size_alloc] at B2
    have b1 : Below w.heap.size w w1 := Below.on (by go_grown) hb
    obtain ⟨⟨d0, d1, d2, d3⟩, g0, g1, g2, g3⟩ := B2.four
    clear hb
    go_wp2
    exact bodyPost_ret (v := .tuple #[.agg #[.int .i64 0, .int .i64 0, .int .i64 0, .int .i64 0], .int .i64 600]) (by simp [results, Tryz.results170, go_sem, d0, d1, d2, d3]) rfl ⟨rfl, by go_grown⟩
  cases h2 : upToV a 3 && upToV b 255
  · obtain ⟨e1, e2⟩ := set_no (c := c) (a := a) (v := b) (by unfold setOk; rw [Bool.and_assoc, h2, Bool.and_false])
    rw [e1, e2]
    unfold quadA
    cases ha : upToV a 3 <;> cases hv : upToV b 255 <;> (try (rw [ha, hv] at h2; cases h2; done))
    all_goals
      go_enter Tryz.func170, Tryz.ntmps170
      go_wp2_with fail
      refine (rregsMay_any c _).mono ?_
      rintro e w1 ⟨rfl, hb⟩
      rw [h1]
      have B2 := (blk_new (w.alloc _) _ _).on hb
      rw [World.size_alloc] at B2
      have b1 : Below w.heap.size w w1 := Below.on (by go_grown) hb
      obtain ⟨⟨d0, d1, d2, d3⟩, g0, g1, g2, g3⟩ := B2.four
      clear hb h2
      go_wp2_with (first | (go_at_call 181; refine (rreg_any _ _).mono ?_; rintro e w' ⟨rfl, rfl⟩) | (go_at_call 88; refine (rvalue_any _ _).mono ?_; rintro e w' ⟨rfl, rfl⟩))
      exact bodyPost_ret (v := .tuple #[.agg #[.int .i64 0, .int .i64 0, .int .i64 0, .int .i64 0], .int .i64 600]) (by simp [results, Tryz.results170, go_sem, d0, d1, d2, d3]) rfl ⟨rfl, by go_grown⟩
  · have hok : setOk c a b = true := by unfold setOk; rw [Bool.and_assoc, h1, h2]; rfl
    obtain ⟨e1, e2⟩ := set_yes hok
    obtain ⟨_, ha, hv⟩ := and3 hok
    rw [e1, e2]
    obtain ⟨ha0, ha1⟩ := upToV_yes ha
    obtain ⟨g, rfl⟩ : ∃ g : Nat, a = g := ⟨a.toNat, by omega⟩
    rw [Int.toNat_natCast]
    have hg : g < 4 := by omega
    have i1 : (g : Int) < 4 := by omega
    clear e1 e2 hok h2
    unfold quadA
    go_enter Tryz.func170, Tryz.ntmps170
    go_wp2_with fail
    refine (rregsMay_any c _).mono ?_
    rintro e w1 ⟨rfl, hb⟩
    rw [h1]
    have B1 := ((blk_new w (quadL c) 30).alloc _).on hb
    have B2 := (blk_new (w.alloc _) _ _).on hb
    rw [World.size_alloc] at B2
    have b1 : Below w.heap.size w w1 := Below.on (by go_grown) hb
    have c1 := B1.cell g _ (quadL_get c hg)
    have f1 := B1.frozen g
    clear hb
    go_upto_region 4 with (first | (go_at_call 181; refine (rreg_any _ _).mono ?_; rintro e w' ⟨rfl, rfl⟩) | (go_at_call 88; refine (rvalue_any _ _).mono ?_; rintro e w' ⟨rfl, rfl⟩))
    have B1' := B1.set g (.int .i64 b)
    rw [quadL_set c hg] at B1'
    have B2' := B2.far (a := ⟨w.heap.size, g, none⟩) (.int .i64 b) (by simp)
    have b' : Below w.heap.size w (w1.setCell ⟨w.heap.size, g, none⟩ (.int .i64 b)) := b1.setCell (by simp) _
    clear B1 B2 b1 c1 f1
    generalize w1.setCell ⟨w.heap.size, g, none⟩ (.int .i64 b) = W at *
    obtain ⟨⟨c0, c1, c2, c3⟩, f0, f1, f2, f3⟩ := B1'.four
    obtain ⟨⟨d0, d1, d2, d3⟩, g0, g1, g2, g3⟩ := B2'.four
    go_wp2
    exact bodyPost_ret (v := .tuple #[quadA (updQ c g b), .int .i64 0]) (by simp [results, Tryz.results170, go_sem, d0, d1, d2, d3, quadA]) rfl ⟨rfl, by go_grown⟩
set_option maxHeartbeats 1000000 in
theorem radd_any (c : Nat → Int) (a b : Int) (w : World) :
    Calls Tryz.prog 171 #[quadA c, .int .i64 a, .int .i64 b] w fun e w' => e = .returned (.tuple #[quadA (addC c a b), .int .i64 (addE c a b)]) ∧ Below w.heap.size w w' := by
  cases h1 : allUp c 255 4
  · obtain ⟨e1, e2⟩ := add_no (c := c) (a := a) (b := b) (and3_no1 h1)
    rw [e1, e2]
    unfold quadA
    go_enter Tryz.func171, Tryz.ntmps171
    go_wp2_with fail
    refine (rregsMay_any c _).mono ?_
    rintro e w1 ⟨rfl, hb⟩
    rw [h1]
    have B2 := (blk_new (w.alloc _) _ _).on hb
    rw [World.size_alloc] at B2
    have b1 : Below w.heap.size w w1 := Below.on (by go_grown) hb
    obtain ⟨⟨d0, d1, d2, d3⟩, g0, g1, g2, g3⟩ := B2.four
    clear hb
    go_wp2
    exact bodyPost_ret (v := .tuple #[.agg #[.int .i64 0, .int .i64 0, .int .i64 0, .int .i64 0], .int .i64 600]) (by simp [results, Tryz.results171, go_sem, d0, d1, d2, d3]) rfl ⟨rfl, by go_grown⟩
  cases h2 : upToV a 3 && upToV b 3
  · obtain ⟨e1, e2⟩ := add_no (c := c) (a := a) (b := b) (by unfold addOk; rw [Bool.and_assoc, h2, Bool.and_false])
    rw [e1, e2]
    unfold quadA
    cases ha : upToV a 3 <;> cases hv : upToV b 3 <;> (try (rw [ha, hv] at h2; cases h2; done))
    all_goals
      go_enter Tryz.func171, Tryz.ntmps171
      go_wp2_with fail
      refine (rregsMay_any c _).mono ?_
      rintro e w1 ⟨rfl, hb⟩
      rw [h1]
      have B2 := (blk_new (w.alloc _) _ _).on hb
      rw [World.size_alloc] at B2
      have b1 : Below w.heap.size w w1 := Below.on (by go_grown) hb
      obtain ⟨⟨d0, d1, d2, d3⟩, g0, g1, g2, g3⟩ := B2.four
      clear hb h2
      go_wp2_with (first | (go_at_call 181; refine (rreg_any _ _).mono ?_; rintro e w' ⟨rfl, rfl⟩) | (go_at_call 88; refine (rvalue_any _ _).mono ?_; rintro e w' ⟨rfl, rfl⟩))
      exact bodyPost_ret (v := .tuple #[.agg #[.int .i64 0, .int .i64 0, .int .i64 0, .int .i64 0], .int .i64 600]) (by simp [results, Tryz.results171, go_sem, d0, d1, d2, d3]) rfl ⟨rfl, by go_grown⟩
  · have hok : addOk c a b = true := by unfold addOk; rw [Bool.and_assoc, h1, h2]; rfl
    obtain ⟨e1, e2⟩ := add_yes hok
    obtain ⟨_, ha, hv⟩ := and3 hok
    rw [e1, e2]
    obtain ⟨ha0, ha1⟩ := upToV_yes ha
    obtain ⟨hb0, hb1⟩ := upToV_yes hv
    obtain ⟨g, rfl⟩ : ∃ g : Nat, a = g := ⟨a.toNat, by omega⟩
    obtain ⟨h, rfl⟩ : ∃ g : Nat, b = g := ⟨b.toNat, by omega⟩
    rw [Int.toNat_natCast, Int.toNat_natCast]
    have hg : g < 4 := by omega
    have hh : h < 4 := by omega
    have i1 : (g : Int) < 4 := by omega
    have i2 : (h : Int) < 4 := by omega
    obtain ⟨p0, p1⟩ := upToV_yes (allUp_get h1 g hg)
    obtain ⟨q0, q1⟩ := upToV_yes (allUp_get h1 h hh)
    have tm : (c g + c h).tmod 256 = (c g + c h) % 256 := Int.tmod_eq_emod_of_nonneg (by omega)
    clear e1 e2 hok h2
    unfold quadA
    go_enter Tryz.func171, Tryz.ntmps171
    go_wp2_with fail
    refine (rregsMay_any c _).mono ?_
    rintro e w1 ⟨rfl, hb⟩
    rw [h1]
    have B1 := ((blk_new w (quadL c) 30).alloc _).on hb
    have B2 := (blk_new (w.alloc _) _ _).on hb
    rw [World.size_alloc] at B2
    have b1 : Below w.heap.size w w1 := Below.on (by go_grown) hb
    have c1 := B1.cell g _ (quadL_get c hg)
    have c2 := B1.cell h _ (quadL_get c hh)
    have f1 := B1.frozen g
    clear hb
    go_upto_region 3 with (first | (go_at_call 181; refine (rreg_any _ _).mono ?_; rintro e w' ⟨rfl, rfl⟩) | (go_at_call 88; refine (rvalue_any _ _).mono ?_; rintro e w' ⟨rfl, rfl⟩))
    go_region
    have B1' := B1.set g (.int .i64 ((c g + c h) % 256))
    rw [quadL_set c hg] at B1'
    have B2' := (B2.far (a := ⟨w.heap.size, g, none⟩) (.int .i64 ((c g + c h) % 256)) (by simp)).drew
    have b' : Below w.heap.size w (w1.setCell ⟨w.heap.size, g, none⟩ (.int .i64 ((c g + c h) % 256))).drew := (b1.setCell (by simp) _).drew
    replace B1' := B1'.drew
    clear B1 B2 b1 c1 c2 f1
    generalize (w1.setCell ⟨w.heap.size, g, none⟩ (.int .i64 ((c g + c h) % 256))).drew = W at *
    obtain ⟨⟨c0, c1, c2, c3⟩, f0, f1, f2, f3⟩ := B1'.four
    obtain ⟨⟨d0, d1, d2, d3⟩, g0, g1, g2, g3⟩ := B2'.four
    go_wp2
    exact bodyPost_ret (v := .tuple #[quadA (updQ c g ((c g + c h) % 256)), .int .i64 0]) (by simp [results, Tryz.results171, go_sem, d0, d1, d2, d3, quadA]) rfl ⟨rfl, by go_grown⟩
end Go.Proofs.YtjjokalheloimaaGreat
