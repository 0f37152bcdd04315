/-
  The law WordForms: words, numbers that may not be. Its walk.
-/
import Derived.Test.YtmpephimdmobnaaWordAwake
import Derived.Test.YtmpephimdmobnaaPlain
import Derived.Deep.RegionWith
import Derived.Deep.DrawnRows
import Derived.Deep.Cut
namespace Go.Proofs.Ytmpephimdmobnaa
open Go.RowKit
set_option linter.unusedVariables false
set_option linter.unusedSimpArgs false
attribute [local go_sem ↓] Go.wp_at_zero Go.wp_at_succ

theorem bads_at (r : Int) (m : Nat) (h : m < 6) (r0 : 0 ≤ r) : ∃ bv bn bl : Int, [Value.int .i64 (-(1 + r)), Value.int .i64 0, Value.int .i64 0, Value.int .i64 (255 + (1 + r)), Value.int .i64 0, Value.int .i64 0, Value.int .i64 0, Value.int .i64 (-(1 + r)), Value.int .i64 0, Value.int .i64 0, Value.int .i64 (65535 + (1 + r)), Value.int .i64 0, Value.int .i64 0, Value.int .i64 0, Value.int .i64 (-(1 + r)), Value.int .i64 0, Value.int .i64 0, Value.int .i64 (255 + (1 + r))][m * 3]? = some (.int .i64 bv) ∧ [Value.int .i64 (-(1 + r)), Value.int .i64 0, Value.int .i64 0, Value.int .i64 (255 + (1 + r)), Value.int .i64 0, Value.int .i64 0, Value.int .i64 0, Value.int .i64 (-(1 + r)), Value.int .i64 0, Value.int .i64 0, Value.int .i64 (65535 + (1 + r)), Value.int .i64 0, Value.int .i64 0, Value.int .i64 0, Value.int .i64 (-(1 + r)), Value.int .i64 0, Value.int .i64 0, Value.int .i64 (255 + (1 + r))][m * 3 + 1]? = some (.int .i64 bn) ∧ [Value.int .i64 (-(1 + r)), Value.int .i64 0, Value.int .i64 0, Value.int .i64 (255 + (1 + r)), Value.int .i64 0, Value.int .i64 0, Value.int .i64 0, Value.int .i64 (-(1 + r)), Value.int .i64 0, Value.int .i64 0, Value.int .i64 (65535 + (1 + r)), Value.int .i64 0, Value.int .i64 0, Value.int .i64 0, Value.int .i64 (-(1 + r)), Value.int .i64 0, Value.int .i64 0, Value.int .i64 (255 + (1 + r))][m * 3 + 2]? = some (.int .i64 bl) ∧ wmay bv bn bl = false := by
  have : m = 0 ∨ m = 1 ∨ m = 2 ∨ m = 3 ∨ m = 4 ∨ m = 5 := by omega
  rcases this with rfl | rfl | rfl | rfl | rfl | rfl
  · exact ⟨_, _, _, rfl, rfl, rfl, wmay_no1 (upToV_not (by omega))⟩
  · exact ⟨_, _, _, rfl, rfl, rfl, wmay_no1 (upToV_not (by omega))⟩
  · exact ⟨_, _, _, rfl, rfl, rfl, wmay_no2 (upToV_not (by omega))⟩
  · exact ⟨_, _, _, rfl, rfl, rfl, wmay_no2 (upToV_not (by omega))⟩
  · exact ⟨_, _, _, rfl, rfl, rfl, wmay_no3 (upToV_not (by omega))⟩
  · exact ⟨_, _, _, rfl, rfl, rfl, wmay_no3 (upToV_not (by omega))⟩
/-- A number below 0, or one beyond the most. -/
theorem nums_at (r most : Int) (p : Nat) (h : p < 2) (r0 : 0 ≤ r) : ∃ x : Int, [Value.int .i64 (-(1 + r)), Value.int .i64 (most + (1 + r))][p]? = some (.int .i64 x) ∧ upToV x most = false := by
  have : p = 0 ∨ p = 1 := by omega
  rcases this with rfl | rfl
  · exact ⟨_, rfl, upToV_not (by omega)⟩
  · exact ⟨_, rfl, upToV_not (by omega)⟩

set_option maxRecDepth 100000 in
set_option maxHeartbeats 8000000 in
theorem wordForms_at (a0 a1 r : Int) (m p : Nat) (w : World) (hd : bits .and .i64 a1 1023 = r) (r0 : 0 ≤ r) (r1 : r ≤ 1023) (hp : bits .and .i64 a0 1 = p) (hp1 : (p : Int) < 2) (hp0 : (0 : Int) ≤ p) (hpick : wrap64 ((IntKind.u64.wrap a0).tmod 6) = m) (hm : (m : Int) < 6) (hm0 : (0 : Int) ≤ m) :
    Calls Try.prog 5 #[.int .i64 a0, .int .i64 a1] w fun e w' => e = .returned (.bool true) ∧ Below w.heap.size w w' := by
  obtain ⟨bv, bn, bl, l0, l1, l2, hbad⟩ := bads_at r m (by omega) r0
  obtain ⟨x1, n1, hx1⟩ := nums_at r 254 p (by omega) r0
  obtain ⟨x2, n2, hx2⟩ := nums_at r 255 p (by omega) r0
  obtain ⟨x3, n3, hx3⟩ := nums_at r 65535 p (by omega) r0
  obtain ⟨e1, e2⟩ := lockW_form (v := bv) (n := bn) (l := bl) (i := 3) (by rw [hbad]; rfl)
  obtain ⟨e3, e4⟩ := lockW_form (v := 3) (n := 0) (l := 0) (i := x1) (by rw [hx1]; rfl)
  obtain ⟨e5, e6⟩ := writeW_form (v := bv) (n := bn) (l := bl) (x := bv) (y := bn) (by rw [hbad]; rfl)
  obtain ⟨e7, e8⟩ := writeW_form (v := bv) (n := bn) (l := bl) (x := 1) (y := 1) (by rw [hbad]; rfl)
  obtain ⟨e9, e10⟩ := writeW_form (v := 3) (n := 0) (l := 0) (x := x2) (y := 1) (by rw [wmay_no1 hx2]; rfl)
  obtain ⟨e11, e12⟩ := writeW_form (v := 3) (n := 0) (l := 0) (x := 1) (y := x3) (by rw [wmay_no2 hx3]; rfl)
  have e13 : wmay 3 0 0 = true := rfl
  have v0 : IntKind.i64.wrap (-(1 + r)) = -(1 + r) := IntWalk.i64_in _ ⟨by omega, by omega⟩
  have v1 : IntKind.i64.wrap (254 + (1 + r)) = 254 + (1 + r) := IntWalk.i64_in _ ⟨by omega, by omega⟩
  have v2 : IntKind.i64.wrap (255 + (1 + r)) = 255 + (1 + r) := IntWalk.i64_in _ ⟨by omega, by omega⟩
  have v3 : IntKind.i64.wrap (65535 + (1 + r)) = 65535 + (1 + r) := IntWalk.i64_in _ ⟨by omega, by omega⟩
  go_enter Try.func5, Try.ntmps5
  go_wp2_with fail
  refine (awake3_any _).mono ?_
  rintro e w1 ⟨rfl, b1⟩
  have s1 := b1.size
  go_wp2_with fail
  refine (lock_any bv bn bl 3 _).mono ?_
  rintro e w2 ⟨rfl, hb⟩
  rw [e1, e2]
  clear e1 e2 l0 l1 l2 hpick
  have B1 := ((blk_new (w1.alloc _) _ _).alloc _).on hb
  have B2 := (blk_new ((w1.alloc _).alloc _) _ _).on hb
  rw [World.size_alloc] at B1
  rw [World.size_alloc, World.size_alloc] at B2
  have b2 : Below w.heap.size w w2 := Below.on (((b1.alloc s1 _).alloc (by simp; omega) _).alloc (by simp; omega) _) hb
  clear hb
  generalize w1.heap.size + 1 = g1 at *
  generalize g1 + 1 = g2 at *
  unfold wordA
  have z1 := B1.lt
  have z2 := B2.lt
  obtain ⟨⟨c0, c1, c2⟩, f0, f1, f2⟩ := B1.three
  obtain ⟨⟨d0, d1, d2⟩, j0, j1, j2⟩ := B2.three
  go_wp2_with fail
  replace B1 := B1.alloc (.cells #[.int .i64 0, .int .i64 0, .int .i64 0] 23)
  replace B2 := B2.alloc (.cells #[.int .i64 0, .int .i64 0, .int .i64 0] 23)
  replace b2 := b2.alloc b2.size (.cells #[.int .i64 0, .int .i64 0, .int .i64 0] 23)
  clear z1 z2 c0 c1 c2 f0 f1 f2 d0 d1 d2 j0 j1 j2
  generalize w2.alloc (.cells #[.int .i64 0, .int .i64 0, .int .i64 0] 23) = W2 at *
  go_cut [12] from 21 (fun s wx => s = .int .i64 300 ∧ Blk wx g1 [.int .i64 bv, .int .i64 bn, .int .i64 bl] ∧ Blk wx g2 [.int .i64 3, .int .i64 0, .int .i64 0] ∧ Below w.heap.size w wx)
  case first =>
    obtain ⟨⟨d0, d1, d2⟩, j0, j1, j2⟩ := B2.three
    have z1 := B1.lt
    have z2 := B2.lt
    have s2 := b2.size
    go_region_with ((go_at_call 8; refine (lock_any 3 0 0 x1 _).mono ?_; rintro e w3 ⟨rfl, hb⟩; rw [e3, e4]; obtain ⟨hc, hf⟩ := bcell hb; have hz := hb.size; simp only [World.size_alloc, World.size_drew] at hz; unfold wordA))
    all_goals
      go_wp2_with fail
      go_meet
      case rel =>
        refine ⟨rfl, ?_, ?_, ?_⟩
        · repeat (first | with_reducible exact B1 | with_reducible refine Blk.on ?_ hb | with_reducible refine Blk.alloc ?_ _ | with_reducible refine Blk.drew ?_ | with_reducible refine Blk.far ?_ _ (by simp; omega))
        · repeat (first | with_reducible exact B2 | with_reducible refine Blk.on ?_ hb | with_reducible refine Blk.alloc ?_ _ | with_reducible refine Blk.drew ?_ | with_reducible refine Blk.far ?_ _ (by simp; omega))
        · repeat (first | with_reducible exact b2 | with_reducible refine Below.on ?_ hb | with_reducible refine Below.alloc ?_ (by first | omega | (simp only [World.size_alloc, World.size_setCell, World.size_drew]; omega)) _ | with_reducible refine Below.drew ?_ | with_reducible refine Below.setCell ?_ (by simp; omega) _)
  case rest =>
    obtain ⟨rfl, B1, B2, b2⟩ := hcut
    clear e3 e4
    have z1 := B1.lt
    have z2 := B2.lt
    obtain ⟨⟨c0, c1, c2⟩, f0, f1, f2⟩ := B1.three
    obtain ⟨⟨d0, d1, d2⟩, j0, j1, j2⟩ := B2.three
    go_wp2_with fail
    refine (free_any bv bn bl _).mono ?_
    rintro e w4 ⟨rfl, hb⟩
    rw [e5, e6]
    clear z1 z2 c0 c1 c2 f0 f1 f2 d0 d1 d2 j0 j1 j2
    replace B1 := B1.on hb
    replace B2 := B2.on hb
    replace b2 := Below.on b2 hb
    clear hb
    unfold wordA
    have z1 := B1.lt
    have z2 := B2.lt
    obtain ⟨⟨c0, c1, c2⟩, f0, f1, f2⟩ := B1.three
    obtain ⟨⟨d0, d1, d2⟩, j0, j1, j2⟩ := B2.three
    go_wp2_with fail
    refine (write_any bv bn bl 1 1 _).mono ?_
    rintro e w5 ⟨rfl, hb⟩
    rw [e7, e8]
    clear e5 e6 e7 e8 z1 z2 c0 c1 c2 f0 f1 f2 d0 d1 d2 j0 j1 j2
    replace B1 := (B1.alloc _).on hb
    replace B2 := (B2.alloc _).on hb
    replace b2 := Below.on (b2.alloc b2.size _) hb
    clear hb
    unfold wordA
    have z1 := B1.lt
    have z2 := B2.lt
    obtain ⟨⟨c0, c1, c2⟩, f0, f1, f2⟩ := B1.three
    obtain ⟨⟨d0, d1, d2⟩, j0, j1, j2⟩ := B2.three
    go_wp2_with fail
    replace B1 := B1.alloc (.cells #[.int .i64 0, .int .i64 0, .int .i64 0] 23)
    replace B2 := B2.alloc (.cells #[.int .i64 0, .int .i64 0, .int .i64 0] 23)
    replace b2 := b2.alloc b2.size (.cells #[.int .i64 0, .int .i64 0, .int .i64 0] 23)
    clear z1 z2 c0 c1 c2 f0 f1 f2 d0 d1 d2 j0 j1 j2
    generalize w5.alloc (.cells #[.int .i64 0, .int .i64 0, .int .i64 0] 23) = W5 at *
    go_cut [18] from 21 (fun s wx => s = .int .i64 300 ∧ Blk wx g1 [.int .i64 bv, .int .i64 bn, .int .i64 bl] ∧ Blk wx g2 [.int .i64 3, .int .i64 0, .int .i64 0] ∧ Below w.heap.size w wx)
    case first =>
      obtain ⟨⟨d0, d1, d2⟩, j0, j1, j2⟩ := B2.three
      have z1 := B1.lt
      have z2 := B2.lt
      have s2 := b2.size
      go_region_with ((go_at_call 12; refine (write_any 3 0 0 x2 1 _).mono ?_; rintro e w6 ⟨rfl, hb⟩; rw [e9, e10]; obtain ⟨hc, hf⟩ := bcell hb; have hz := hb.size; simp only [World.size_alloc, World.size_drew] at hz; unfold wordA))
      all_goals
        go_wp2_with fail
        go_meet
        case rel =>
          refine ⟨rfl, ?_, ?_, ?_⟩
          · repeat (first | with_reducible exact B1 | with_reducible refine Blk.on ?_ hb | with_reducible refine Blk.alloc ?_ _ | with_reducible refine Blk.drew ?_ | with_reducible refine Blk.far ?_ _ (by simp; omega))
          · repeat (first | with_reducible exact B2 | with_reducible refine Blk.on ?_ hb | with_reducible refine Blk.alloc ?_ _ | with_reducible refine Blk.drew ?_ | with_reducible refine Blk.far ?_ _ (by simp; omega))
          · repeat (first | with_reducible exact b2 | with_reducible refine Below.on ?_ hb | with_reducible refine Below.alloc ?_ (by first | omega | (simp only [World.size_alloc, World.size_setCell, World.size_drew]; omega)) _ | with_reducible refine Below.drew ?_ | with_reducible refine Below.setCell ?_ (by simp; omega) _)
    case rest =>
      obtain ⟨rfl, B1, B2, b2⟩ := hcut
      clear e9 e10
      go_wp2_with fail
      go_cut [20] from 21 (fun s wx => s = .int .i64 300 ∧ Blk wx g1 [.int .i64 bv, .int .i64 bn, .int .i64 bl] ∧ Blk wx g2 [.int .i64 3, .int .i64 0, .int .i64 0] ∧ Below w.heap.size w wx)
      case first =>
        obtain ⟨⟨d0, d1, d2⟩, j0, j1, j2⟩ := B2.three
        have z1 := B1.lt
        have z2 := B2.lt
        have s2 := b2.size
        go_region_with ((go_at_call 12; refine (write_any 3 0 0 1 x3 _).mono ?_; rintro e w7 ⟨rfl, hb⟩; rw [e11, e12]; obtain ⟨hc, hf⟩ := bcell hb; have hz := hb.size; simp only [World.size_alloc, World.size_drew] at hz; unfold wordA))
        all_goals
          go_wp2_with fail
          go_meet
          case rel =>
            refine ⟨rfl, ?_, ?_, ?_⟩
            · repeat (first | with_reducible exact B1 | with_reducible refine Blk.on ?_ hb | with_reducible refine Blk.alloc ?_ _ | with_reducible refine Blk.drew ?_ | with_reducible refine Blk.far ?_ _ (by simp; omega))
            · repeat (first | with_reducible exact B2 | with_reducible refine Blk.on ?_ hb | with_reducible refine Blk.alloc ?_ _ | with_reducible refine Blk.drew ?_ | with_reducible refine Blk.far ?_ _ (by simp; omega))
            · repeat (first | with_reducible exact b2 | with_reducible refine Below.on ?_ hb | with_reducible refine Below.alloc ?_ (by first | omega | (simp only [World.size_alloc, World.size_setCell, World.size_drew]; omega)) _ | with_reducible refine Below.drew ?_ | with_reducible refine Below.setCell ?_ (by simp; omega) _)
      case rest =>
        obtain ⟨rfl, B1, B2, b2⟩ := hcut
        clear e11 e12
        have z1 := B1.lt
        have z2 := B2.lt
        obtain ⟨⟨c0, c1, c2⟩, f0, f1, f2⟩ := B1.three
        obtain ⟨⟨d0, d1, d2⟩, j0, j1, j2⟩ := B2.three
        go_wp2_with fail
        refine (wmay_any bv bn bl _).mono ?_
        rintro e w8 ⟨rfl, hb⟩
        rw [hbad]
        clear z1 z2 c0 c1 c2 f0 f1 f2 d0 d1 d2 j0 j1 j2
        replace B2 := B2.on hb
        replace b2 := Below.on b2 hb
        clear hb
        have z2 := B2.lt
        obtain ⟨⟨d0, d1, d2⟩, j0, j1, j2⟩ := B2.three
        go_wp2_with fail
        refine (wmay_any 3 0 0 _).mono ?_
        rintro e w9 ⟨rfl, hb⟩
        rw [e13]
        replace b2 := Below.on b2 hb
        clear hb z2 d0 d1 d2 j0 j1 j2
        go_wp2_with (go_at_call 14; go_in)
        go_ret
        exact ⟨rfl, b2⟩

theorem wordForms_walk (a0 a1 : Int) (w : World) (w0 : (Lit.int .i64 a0).wf = true) (w1 : (Lit.int .i64 a1).wf = true) :
    Calls Try.prog 5 #[.int .i64 a0, .int .i64 a1] w fun e w' => e = .returned (.bool true) ∧ Below w.heap.size w w' := by
  obtain ⟨m, hm, hpick⟩ := pick_at a0 6 (by omega) (by omega)
  have hd := mask1023 a1
  have hp := mask1 a0
  obtain ⟨p, hp2⟩ : ∃ p : Nat, a0 % 2 = p := ⟨(a0 % 2).toNat, by omega⟩
  rw [hp2] at hp
  exact wordForms_at a0 a1 (a1 % 1024) m p w hd (by omega) (by omega) hp (by omega) (by omega) hpick hm (by omega)

end Go.Proofs.Ytmpephimdmobnaa
