/-
  Are two arenas the same? Level by level.
-/
import Derived.Test.YtnjognmnbpcaaaaGreatZlab
namespace Go.Proofs.YtnjognmnbpcaaaaGreat
open Go.RowKit
set_option maxHeartbeats 1000000 in
theorem sameArena_any (s s' : Nat → Sl) (z z' : Nat → Nat → Int) (w : World) (hn : Short s) (h : Arn w s z) (h' : Arn w s' z') :
    Calls Tryz.prog 28 #[arenaA s, arenaA s'] w fun e w' => e = .returned (.bool (sameLv s s' z z' 4)) ∧ Below w.heap.size w w' := by
  unfold arenaA
  go_enter Tryz.func28, Tryz.ntmps28
  go_wp2
  go_loopw [5] (fun i wr => ∃ k : Nat, k ≤ 4 ∧ i = .int .i64 k ∧ sameLv s s' z z' k = true ∧ Blk wr w.heap.size (arenaL s) ∧ Blk wr (w.heap.size + 1) (arenaL s') ∧ Below w.heap.size w wr) (fun i _ => 4 - (intOf i).toNat)
  case atStart =>
    refine ⟨0, Nat.zero_le _, rfl, rfl, ?_, ?_, by go_grown⟩
    · exact (blk_new w (arenaL s) 23).alloc _
    · have := blk_new (w.alloc (.cells (arenaL s).toArray 23)) (arenaL s') 23
      rw [World.size_alloc] at this
      exact this
  case round =>
    obtain ⟨k, hk, rfl, hs, B1, B2, hb⟩ := hrel
    by_cases hlt : k < 4
    · have c1 := B1.cell k _ (arenaL_get s hlt)
      have c2 := B2.cell k _ (arenaL_get s' hlt)
      have i1 : (k : Int) < 4 := by omega
      have r1 := (h.below hb (Nat.le_refl _)) k hlt
      have r2 := (h'.below hb (Nat.le_refl _)) k hlt
      have HK := hide (hn k hlt)
      have HS := hide hs
      clear hs h h' hn
      cases hc : (decide ((s k).n = (s' k).n) && eqTo (z k) (z' k) ((s k).n * 3))
      · have HN : Hid (sameLv s s' z z' 4 = false) := sameLv_no k hc hlt
        go_wp2
        go_quiet ((go_at_call 53; exact Calls.quiet_of (sameWords_any _ _ _ _ _ _ _ _ _ HK.out (r1.drewN _) (r2.drewN _))))
        go_wp2
        go_ret
        exact ⟨ret_bool HN.out.symm, Below.drawn hb _⟩
      · have HN : Hid (sameLv s s' z z' (k + 1) = true) := by
          show sameLv s s' z z' (k + 1) = true
          rw [sameLv, HS.out, hc]
          rfl
        go_wp2
        go_quiet ((go_at_call 53; exact Calls.quiet_of (sameWords_any _ _ _ _ _ _ _ _ _ HK.out (r1.drewN _) (r2.drewN _))))
        go_wp2
        go_roundw
        case rel => exact ⟨k + 1, by omega, by go_num, HN.out, B1.drawn _, B2.drawn _, Below.drawn hb _⟩
        case measure => simp [intOf]; omega
    · obtain rfl : k = 4 := by omega
      have HS := hide hs
      clear hs h h' hn
      go_wp2
      go_ret
      exact ⟨ret_bool HS.out.symm, hb⟩
end Go.Proofs.YtnjognmnbpcaaaaGreat
