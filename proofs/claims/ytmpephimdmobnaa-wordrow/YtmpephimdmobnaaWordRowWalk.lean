/-
  The law WordRow: locks, frees, writes in any row: the last write stands; a lock is held by the first who took it. Its walk.
-/
import Derived.Test.YtmpephimdmobnaaWordAwake
import Derived.Test.YtmpephimdmobnaaPlain
import Derived.Test.YtmpephimdmobnaaRow
import Derived.Deep.QuietTactic
import Derived.BigQuiet
namespace Go.Proofs.Ytmpephimdmobnaa
open Go.RowKit
set_option linter.unusedVariables false

set_option maxRecDepth 100000 in
set_option maxHeartbeats 2000000 in
theorem wordRow_walk (a0 : Option Addr) (n0 c0 : Nat) (z0 : Nat → Int) (w : World) (l0 : n0 * 8 ≤ 140737488351232) (e0 : a0 = none → n0 = 0 ∧ c0 = 0) (r0 : Row w a0 n0 fun i => .int .i64 (z0 i)) :
    Calls Try.prog 7 #[.slice a0 n0 c0] w fun e w' => e = .returned (.bool true) ∧ Below w.heap.size w w' := by
  clear e0
  go_enter Try.func7, Try.ntmps7
  go_wp2_with fail
  refine (awake3_any _).mono ?_
  rintro e wa ⟨rfl, ba⟩
  have sa := ba.size
  go_wp2
  go_loopw [5] (fun i wr => ∃ (k : Nat) (x y z : Int), k ≤ n0 ∧ k ≤ 40 ∧ i = .int .i64 k ∧ Blk wr wa.heap.size [.int .i64 x, .int .i64 y, .int .i64 z] ∧ Blk wr (wa.heap.size + 1) [.int .i64 x, .int .i64 y, .int .i64 z] ∧ wmay x y z = true ∧ Below w.heap.size w wr) (fun i _ => 40 - (intOf i).toNat)
  case atStart =>
    refine ⟨0, 0, 0, 0, Nat.zero_le _, Nat.zero_le _, rfl, ?_, ?_, rfl, ?_⟩
    · have h1 := (blk_new wa [.int .i64 0, .int .i64 0, .int .i64 0] 23).alloc (.cells #[.int .i64 0, .int .i64 0, .int .i64 0] 23)
      exact h1
    · have h1 := blk_new (wa.alloc (.cells #[.int .i64 0, .int .i64 0, .int .i64 0] 23)) [.int .i64 0, .int .i64 0, .int .i64 0] 23
      rw [World.size_alloc] at h1
      exact h1
    · exact (ba.alloc sa _).alloc (by rw [World.size_alloc]; omega) _
  case round =>
    obtain ⟨k, x, y, z, hk, hk2, rfl, B1, B2, hm, hb⟩ := hrel
    have hs := hb.size
    by_cases hlt : k < n0
    · by_cases h40 : k < 40
      · obtain ⟨b, off, rfl, _, hc⟩ := r0.below hb (Nat.le_refl _) k hlt
        obtain ⟨q, hq⟩ : ∃ q, bits .and .i64 (z0 k / 4) 127 = q := ⟨_, rfl⟩
        have q0 : 0 ≤ q ∧ q ≤ 127 := by rw [← hq, mask127]; omega
        obtain ⟨q0, q1⟩ := q0
        have hq2 : upToV q 254 = true := upToV_of q0 (by omega)
        have m3 := mask3 (z0 k)
        obtain ⟨hx, hy, _⟩ := wmay_yes hm
        have zz1 := B1.lt
        have zz2 := B2.lt
        obtain ⟨⟨c0', c1', c2'⟩, f0, f1, f2⟩ := B1.three
        obtain ⟨⟨d0, d1, d2⟩, g0, g1, g2⟩ := B2.three
        have hr : z0 k % 4 = 0 ∨ z0 k % 4 = 1 ∨ z0 k % 4 = 2 ∨ z0 k % 4 = 3 := by omega
        have sz : w.heap.size ≤ wa.heap.size := sa
        clear r0 ba
        rcases hr with hr | hr | hr | hr
        · rw [hr] at m3
          clear hr
          by_cases hz : z = 0
          · subst hz
            obtain ⟨e1, e2⟩ := lockW_ok hm hq2 rfl
            go_wp2_with fail
            refine (lock_any x y 0 q _).mono ?_
            rintro e w2 ⟨rfl, hb2⟩
            rw [e1, e2]
            clear e1 e2 c0' c1' c2' f0 f1 f2 d0 d1 d2 g0 g1 g2 zz1 zz2 hc
            have b2 : Below w.heap.size w w2 := Below.on hb hb2
            replace B1 := B1.on hb2
            replace B2 := B2.on hb2
            clear hb hb2 hs
            unfold wordA
            have zz1 := B1.lt
            have zz2 := B2.lt
            obtain ⟨⟨c0', c1', c2'⟩, f0, f1, f2⟩ := B1.three
            obtain ⟨⟨d0, d1, d2⟩, g0, g1, g2⟩ := B2.three
            go_wp2_with fail
            clear c0' c1' c2' f0 f1 f2 d0 d1 d2 g0 g1 g2
            have B3 := blk_new w2 [.int .i64 x, .int .i64 y, .int .i64 (q + 1)] 23
            replace B1 := B1.alloc (.cells #[.int .i64 x, .int .i64 y, .int .i64 (q + 1)] 23)
            replace B2 := B2.alloc (.cells #[.int .i64 x, .int .i64 y, .int .i64 (q + 1)] 23)
            have b3 := b2.alloc b2.size (.cells #[.int .i64 x, .int .i64 y, .int .i64 (q + 1)] 23)
            generalize w2.alloc (.cells #[.int .i64 x, .int .i64 y, .int .i64 (q + 1)] 23) = W at *
            obtain ⟨⟨c0', c1', c2'⟩, f0, f1, f2⟩ := B1.three
            obtain ⟨⟨d0, d1, d2⟩, g0, g1, g2⟩ := B2.three
            obtain ⟨⟨j0, j1, j2⟩, k0, k1, k2⟩ := B3.three
            go_quiet ((go_at_call 14; exact Calls.quiet_of_same (flip (num_any _ _))))
            have ne1 : wa.heap.size ≠ w2.heap.size := by omega
            have ne2 : wa.heap.size + 1 ≠ w2.heap.size := by omega
            have ne3 : w2.heap.size ≠ wa.heap.size := by omega
            have ne4 : w2.heap.size ≠ wa.heap.size + 1 := by omega
            go_wp2_with (go_at_call 14; go_in)
            go_roundw
            case rel =>
              refine ⟨k + 1, x, y, q + 1, by omega, by omega, by go_num, ?_, ?_, wmay_of hx hy (upToV_of (by omega) (by omega)), ?_⟩
              · exact ((((B1.drawn nq).far _ (by simp)).set 0 _).set 1 _).set 2 _
              · exact ((((B2.drawn nq).set 2 _).far _ (by simp)).far _ (by simp)).far _ (by simp)
              · exact ((((Below.drawn b3 nq).setCell (by simp; omega) _).setCell (by simp; omega) _).setCell (by simp; omega) _).setCell (by simp; omega) _
            case measure => simp [intOf]; omega
          · obtain ⟨e1, e2⟩ := lockW_locked hm hq2 hz
            have hz2 : (z == 0) = false := beq_eq_false_iff_ne.2 hz
            go_wp2_with fail
            refine (lock_any x y z q _).mono ?_
            rintro e w2 ⟨rfl, hb2⟩
            rw [e1, e2]
            clear e1 e2 c0' c1' c2' f0 f1 f2 d0 d1 d2 g0 g1 g2 zz1 zz2 hc
            have b2 : Below w.heap.size w w2 := Below.on hb hb2
            replace B1 := B1.on hb2
            replace B2 := B2.on hb2
            clear hb hb2 hs
            unfold wordA
            go_wp2_with fail
            replace B1 := B1.alloc (.cells #[.int .i64 0, .int .i64 0, .int .i64 0] 23)
            replace B2 := B2.alloc (.cells #[.int .i64 0, .int .i64 0, .int .i64 0] 23)
            have b3 := b2.alloc b2.size (.cells #[.int .i64 0, .int .i64 0, .int .i64 0] 23)
            generalize w2.alloc (.cells #[.int .i64 0, .int .i64 0, .int .i64 0] 23) = W at *
            obtain ⟨⟨c0', c1', c2'⟩, f0, f1, f2⟩ := B1.three
            obtain ⟨⟨d0, d1, d2⟩, g0, g1, g2⟩ := B2.three
            go_quiet ((go_at_call 14; exact Calls.quiet_of_same (flip (num_any _ _))))
            go_wp2_with (go_at_call 14; go_in)
            go_roundw
            case rel => exact ⟨k + 1, x, y, z, by omega, by omega, by go_num, B1, B2, hm, Below.drawn b3 nq⟩
            case measure => simp [intOf]; omega
        · rw [hr] at m3
          clear hr
          by_cases hz : z = 0
          · subst hz
            obtain ⟨e1, e2⟩ := lockW_ok hm hq2 rfl
            go_wp2_with fail
            refine (lock_any x y 0 q _).mono ?_
            rintro e w2 ⟨rfl, hb2⟩
            rw [e1, e2]
            clear e1 e2 c0' c1' c2' f0 f1 f2 d0 d1 d2 g0 g1 g2 zz1 zz2 hc
            have b2 : Below w.heap.size w w2 := Below.on hb hb2
            replace B1 := B1.on hb2
            replace B2 := B2.on hb2
            clear hb hb2 hs
            unfold wordA
            have zz1 := B1.lt
            have zz2 := B2.lt
            obtain ⟨⟨c0', c1', c2'⟩, f0, f1, f2⟩ := B1.three
            obtain ⟨⟨d0, d1, d2⟩, g0, g1, g2⟩ := B2.three
            go_wp2_with fail
            clear c0' c1' c2' f0 f1 f2 d0 d1 d2 g0 g1 g2
            have B3 := blk_new w2 [.int .i64 x, .int .i64 y, .int .i64 (q + 1)] 23
            replace B1 := B1.alloc (.cells #[.int .i64 x, .int .i64 y, .int .i64 (q + 1)] 23)
            replace B2 := B2.alloc (.cells #[.int .i64 x, .int .i64 y, .int .i64 (q + 1)] 23)
            have b3 := b2.alloc b2.size (.cells #[.int .i64 x, .int .i64 y, .int .i64 (q + 1)] 23)
            generalize w2.alloc (.cells #[.int .i64 x, .int .i64 y, .int .i64 (q + 1)] 23) = W at *
            obtain ⟨⟨c0', c1', c2'⟩, f0, f1, f2⟩ := B1.three
            obtain ⟨⟨d0, d1, d2⟩, g0, g1, g2⟩ := B2.three
            obtain ⟨⟨j0, j1, j2⟩, k0, k1, k2⟩ := B3.three
            go_quiet ((go_at_call 14; exact Calls.quiet_of_same (flip (num_any _ _))))
            have ne1 : wa.heap.size ≠ w2.heap.size := by omega
            have ne2 : wa.heap.size + 1 ≠ w2.heap.size := by omega
            have ne3 : w2.heap.size ≠ wa.heap.size := by omega
            have ne4 : w2.heap.size ≠ wa.heap.size + 1 := by omega
            go_wp2_with (go_at_call 14; go_in)
            go_roundw
            case rel =>
              refine ⟨k + 1, x, y, q + 1, by omega, by omega, by go_num, ?_, ?_, wmay_of hx hy (upToV_of (by omega) (by omega)), ?_⟩
              · exact ((((B1.drawn nq).far _ (by simp)).set 0 _).set 1 _).set 2 _
              · exact ((((B2.drawn nq).set 2 _).far _ (by simp)).far _ (by simp)).far _ (by simp)
              · exact ((((Below.drawn b3 nq).setCell (by simp; omega) _).setCell (by simp; omega) _).setCell (by simp; omega) _).setCell (by simp; omega) _
            case measure => simp [intOf]; omega
          · obtain ⟨e1, e2⟩ := lockW_locked hm hq2 hz
            have hz2 : (z == 0) = false := beq_eq_false_iff_ne.2 hz
            go_wp2_with fail
            refine (lock_any x y z q _).mono ?_
            rintro e w2 ⟨rfl, hb2⟩
            rw [e1, e2]
            clear e1 e2 c0' c1' c2' f0 f1 f2 d0 d1 d2 g0 g1 g2 zz1 zz2 hc
            have b2 : Below w.heap.size w w2 := Below.on hb hb2
            replace B1 := B1.on hb2
            replace B2 := B2.on hb2
            clear hb hb2 hs
            unfold wordA
            go_wp2_with fail
            replace B1 := B1.alloc (.cells #[.int .i64 0, .int .i64 0, .int .i64 0] 23)
            replace B2 := B2.alloc (.cells #[.int .i64 0, .int .i64 0, .int .i64 0] 23)
            have b3 := b2.alloc b2.size (.cells #[.int .i64 0, .int .i64 0, .int .i64 0] 23)
            generalize w2.alloc (.cells #[.int .i64 0, .int .i64 0, .int .i64 0] 23) = W at *
            obtain ⟨⟨c0', c1', c2'⟩, f0, f1, f2⟩ := B1.three
            obtain ⟨⟨d0, d1, d2⟩, g0, g1, g2⟩ := B2.three
            go_quiet ((go_at_call 14; exact Calls.quiet_of_same (flip (num_any _ _))))
            go_wp2_with (go_at_call 14; go_in)
            go_roundw
            case rel => exact ⟨k + 1, x, y, z, by omega, by omega, by go_num, B1, B2, hm, Below.drawn b3 nq⟩
            case measure => simp [intOf]; omega
        · rw [hr] at m3
          clear hr
          obtain ⟨e1, e2⟩ := writeW_ok hm (wmay_of hx hy rfl)
          go_wp2_with fail
          refine (free_any x y z _).mono ?_
          rintro e w2 ⟨rfl, hb2⟩
          rw [e1, e2]
          clear e1 e2 c0' c1' c2' f0 f1 f2 d0 d1 d2 g0 g1 g2 zz1 zz2 hc
          have b2 : Below w.heap.size w w2 := Below.on hb hb2
          replace B1 := B1.on hb2
          replace B2 := B2.on hb2
          clear hb hb2 hs
          unfold wordA
          have zz1 := B1.lt
          have zz2 := B2.lt
          have ne1 : wa.heap.size ≠ w2.heap.size := by omega
          have ne2 : wa.heap.size + 1 ≠ w2.heap.size := by omega
          have ne3 : w2.heap.size ≠ wa.heap.size := by omega
          have ne4 : w2.heap.size ≠ wa.heap.size + 1 := by omega
          obtain ⟨⟨c0', c1', c2'⟩, f0, f1, f2⟩ := B1.three
          obtain ⟨⟨d0, d1, d2⟩, g0, g1, g2⟩ := B2.three
          go_wp2_with (go_at_call 14; go_in)
          go_roundw
          case rel =>
            refine ⟨k + 1, x, y, 0, by omega, by omega, by go_num, ?_, ?_, wmay_of hx hy rfl, ?_⟩
            · exact (((((B1.far _ (by simp)).set 0 _).set 1 _).set 2 _).alloc _)
            · exact ((((B2.set 2 _).far _ (by simp)).far _ (by simp)).far _ (by simp)).alloc _
            · exact ((((b2.setCell (by simp; omega) _).setCell (by simp; omega) _).setCell (by simp; omega) _).setCell (by simp; omega) _).alloc (by simp; omega) _
          case measure => simp [intOf]; omega
        · rw [hr] at m3
          clear hr
          obtain ⟨e1, e2⟩ := writeW_ok hm (wmay_of (v := q) (n := (k : Int)) (upToV_of q0 (by omega)) (upToV_of (by omega) (by omega)) rfl)
          go_wp2_with fail
          refine (write_any x y z q k _).mono ?_
          rintro e w2 ⟨rfl, hb2⟩
          rw [e1, e2]
          clear e1 e2 c0' c1' c2' f0 f1 f2 d0 d1 d2 g0 g1 g2 zz1 zz2 hc
          have b2 : Below w.heap.size w w2 := Below.on hb hb2
          replace B1 := B1.on hb2
          replace B2 := B2.on hb2
          clear hb hb2 hs
          unfold wordA
          have zz1 := B1.lt
          have zz2 := B2.lt
          have ne1 : wa.heap.size ≠ w2.heap.size := by omega
          have ne2 : wa.heap.size + 1 ≠ w2.heap.size := by omega
          have ne3 : w2.heap.size ≠ wa.heap.size := by omega
          have ne4 : w2.heap.size ≠ wa.heap.size + 1 := by omega
          obtain ⟨⟨c0', c1', c2'⟩, f0, f1, f2⟩ := B1.three
          obtain ⟨⟨d0, d1, d2⟩, g0, g1, g2⟩ := B2.three
          go_wp2_with (go_at_call 14; go_in)
          go_roundw
          case rel =>
            refine ⟨k + 1, q, (k : Int), 0, by omega, by omega, by go_num, ?_, ?_, wmay_of (upToV_of q0 (by omega)) (upToV_of (by omega) (by omega)) rfl, ?_⟩
            · exact (((((((B1.far _ (by simp)).far _ (by simp)).far _ (by simp)).set 0 _).set 1 _).set 2 _).alloc _)
            · exact ((((((B2.set 0 _).set 1 _).set 2 _).far _ (by simp)).far _ (by simp)).far _ (by simp)).alloc _
            · exact ((((((b2.setCell (by simp; omega) _).setCell (by simp; omega) _).setCell (by simp; omega) _).setCell (by simp; omega) _).setCell (by simp; omega) _).setCell (by simp; omega) _).alloc (by simp; omega) _
          case measure => simp [intOf]; omega
      · go_wp2
        go_ret
        exact ⟨rfl, hb⟩
    · go_wp2
      go_ret
      exact ⟨rfl, hb⟩

end Go.Proofs.Ytmpephimdmobnaa
