/-
  The document's answer to chapter 5.
-/
import Derived.Test.YtnjognmnbpcaaaaGreatRows
import Derived.Test.YtnjognmnbpcaaaaGreatZlai
import Derived.Test.YtnjognmnbpcaaaaGreatZlab
import Derived.WalkKit
import Derived.WalkSpells
import Derived.RegionTactic
import Derived.BigRegion
import Derived.Deep.Cut
namespace Go.Proofs.YtnjognmnbpcaaaaGreat
open Go.RowKit
set_option linter.unusedSimpArgs false
theorem nextOk_more (c : Nat → Int) (l m : Int) (k : Nat) : (upToV l 3 && upToV m 65535 && allUp c 65535 (k + 1)) = ((upToV l 3 && upToV m 65535 && allUp c 65535 k) && upToV (c k) 65535) := by
  rw [allUp, Bool.and_assoc (upToV l 3 && upToV m 65535)]
set_option maxHeartbeats 1000000 in
theorem rnext_any (c : Nat → Int) (l m : Int) (w : World) :
    Calls Tryz.prog 91 #[quadA c, .int .i64 l, .int .i64 m] w fun e w' => e = .returned (.tuple #[quadA (nextC c l m), .int .i64 (nextK c l m), .int .i64 (nextE c l m)]) ∧ Below w.heap.size w w' := by
  obtain ⟨b0, hb0⟩ : ∃ b, b = (upToV l 3 && upToV m 65535) := ⟨_, rfl⟩
  have HB0 := hide hb0
  clear hb0
  unfold quadA
  cases hl : upToV l 3 <;> cases hm : upToV m 65535
  all_goals
    have HL := hide hl
    have HM := hide hm
    go_enter Tryz.func91, Tryz.ntmps91
    go_wp2_with (first | (go_at_call 79; refine (rlabel_any _ _).mono ?_; rintro e w' ⟨rfl, rfl⟩) | (go_at_call 76; refine (rclock_any _ _).mono ?_; rintro e w' ⟨rfl, rfl⟩))
    clear hl hm
    go_loopw [9, 10] (fun ok i wr => ∃ (b : Bool) (k : Nat), k ≤ 4 ∧ ok = .bool b ∧ i = .int .i64 k ∧ Hid (b = (upToV l 3 && upToV m 65535 && allUp c 65535 k)) ∧ Blk wr w.heap.size (quadL c) ∧ Blk wr (w.heap.size + 1) (quadL fun _ => 0) ∧ Below w.heap.size w wr) (fun _ i _ => 4 - (intOf i).toNat)
    case atStart =>
      refine ⟨_, 0, Nat.zero_le _, rfl, rfl, ?_, (blk_new w (quadL c) 24).alloc _, ?_, by go_grown⟩
      · show _ = _
        rw [HL.out, HM.out]; rfl
      · have := blk_new (w.alloc (.cells (quadL c).toArray 24)) (quadL fun _ => 0) 24
        rw [World.size_alloc] at this
        exact this
    case round =>
      obtain ⟨b, k, hk, rfl, rfl, HB, B1, B2, hb⟩ := hrel
      clear HL HM HB0
      by_cases hlt : k < 4
      · have i1 : (k : Int) < 4 := by omega
        have c1 := B1.cell k _ (quadL_get c hlt)
        cases b
        · go_wp2
          go_roundw
          case rel => exact ⟨false, k + 1, by omega, rfl, by go_num, (by show _ = _; rw [nextOk_more, ← HB.out]; rfl), B1, B2, hb⟩
          case measure => simp [intOf]; omega
        · go_wp2_with (go_at_call 76; refine (rclock_any _ _).mono ?_; rintro e w' ⟨rfl, rfl⟩)
          go_roundw
          case rel => exact ⟨upToV (c k) 65535, k + 1, by omega, rfl, by go_num, (by show _ = _; rw [nextOk_more, ← HB.out]; rfl), B1, B2, hb⟩
          case measure => simp [intOf]; omega
      · obtain rfl : k = 4 := by omega
        have HOK : Hid (nextOk c l m = b) := HB.out.symm
        clear HB
        obtain ⟨⟨d0, d1, d2, d3⟩, g0, g1, g2, g3⟩ := B2.four
        cases b
        · have HE := hide (next_form HOK.out)
          go_wp2
          exact bodyPost_ret (v := .tuple #[.agg #[.int .i64 0, .int .i64 0, .int .i64 0, .int .i64 0], .int .i64 0, .int .i64 500]) (by simp [results, Tryz.results91, go_sem, d0, d1, d2, d3]) rfl ⟨by rw [HE.out.1, HE.out.2.1, HE.out.2.2], by go_grown⟩
        · obtain ⟨hl, hm, hc⟩ := nextOk_get HOK.out
          obtain ⟨hl0, hl3⟩ := upToV_yes hl
          obtain ⟨g, rfl⟩ : ∃ g : Nat, l = g := ⟨l.toNat, by omega⟩
          have hg : g < 4 := by omega
          obtain ⟨hg0, hg1⟩ := upToV_yes (allUp_get hc g hg)
          have c1 := B1.cell g _ (quadL_get c hg)
          have f1 := B1.frozen g
          have i1 : (g : Int) < 4 := by omega
          clear hl hm hc hl0 hl3
          by_cases hf : m ≤ c g
          · have HE := hide (next_full HOK.out (by rw [Int.toNat_natCast]; exact hf))
            go_wp2
            exact bodyPost_ret (v := .tuple #[.agg #[.int .i64 0, .int .i64 0, .int .i64 0, .int .i64 0], .int .i64 0, .int .i64 501]) (by simp [results, Tryz.results91, go_sem, d0, d1, d2, d3]) rfl ⟨by rw [HE.out.1, HE.out.2.1, HE.out.2.2], by go_grown⟩
          · have HE := hide (next_on HOK.out (by rw [Int.toNat_natCast]; exact hf))
            go_upto_region 11 with (fail)
            have B1' := B1.set g (.int .i64 (c g + 1))
            rw [quadL_set c hg] at B1'
            have B2' := B2.far (a := ⟨w.heap.size, g, none⟩) (.int .i64 (c g + 1)) (by simp)
            have b' : Below w.heap.size w (wr.setCell ⟨w.heap.size, g, none⟩ (.int .i64 (c g + 1))) := hb.setCell (by simp) _
            have cg := B1'.cell g _ (quadL_get _ hg)
            rw [updQ_same] at cg
            clear B1 B2 hb c1 f1 d0 d1 d2 d3 g0 g1 g2 g3
            generalize wr.setCell ⟨w.heap.size, g, none⟩ (.int .i64 (c g + 1)) = W at *
            obtain ⟨⟨c0, c1, c2, c3⟩, f0, f1, f2, f3⟩ := B1'.four
            obtain ⟨⟨d0, d1, d2, d3⟩, g0, g1, g2, g3⟩ := B2'.four
            go_region
            all_goals
              go_wp2
              exact bodyPost_ret (v := .tuple #[quadA (updQ c g (c g + 1)), .int .i64 (c g + 1), .int .i64 0]) (by simp [results, Tryz.results91, go_sem, d0, d1, d2, d3, quadA]) rfl ⟨by rw [HE.out.1, HE.out.2.1, HE.out.2.2, Int.toNat_natCast]; rfl, by go_grown⟩
end Go.Proofs.YtnjognmnbpcaaaaGreat
