/-
  Several small texts in one: SessRef, ReadsStat, ReadsProg.
-/
import Derived.Test.YtaaenolbfhhnfaaGreatZhWordsRef
import Derived.Test.YtaaenolbfhhnfaaGreatZlab
import Derived.Test.YtaaenolbfhhnfaaGreatZlaf
import Derived.Test.YtaaenolbfhhnfaaGreatZhWritesRef
import Derived.Test.YtaaenolbfhhnfaaGreatZlae
import Derived.Test.YtaaenolbfhhnfaaGreatZhGoodRef2
namespace Go.Proofs.YtaaenolbfhhnfaaGreat
open Go.RowKit
set_option linter.unusedSimpArgs false
set_option linter.unusedVariables false
theorem mupTo_any (n m : Int) (w : World) :
    Calls Tryz.prog 50 #[.int .i64 n, .int .i64 0, .int .i64 m] w fun e w' => e = .returned (.bool (upToV n m)) ∧ w = w' := by
  unfold upToV
  by_cases h0 : 0 ≤ n
  · by_cases h1 : n ≤ m
    · rw [decide_eq_true (show 0 ≤ n ∧ n ≤ m from ⟨h0, h1⟩)]
      go_enter Tryz.func50, Tryz.ntmps50
      go_wp2
      go_ret
      exact ⟨rfl, rfl⟩
    · rw [decide_eq_false (show ¬ (0 ≤ n ∧ n ≤ m) from fun x => h1 x.2)]
      go_enter Tryz.func50, Tryz.ntmps50
      go_wp2
      go_ret
      exact ⟨rfl, rfl⟩
  · rw [decide_eq_false (show ¬ (0 ≤ n ∧ n ≤ m) from fun x => h0 x.1)]
    go_enter Tryz.func50, Tryz.ntmps50
    go_wp2
    go_ret
    exact ⟨rfl, rfl⟩
set_option maxRecDepth 100000 in
set_option maxHeartbeats 4000000 in
theorem rsessMay_any (s : Nat → Sl) (c : Nat → Int) (m : Int) (ss ts : Value) (i : Nat → Int) (pa ra ta : Option Addr) (pn pc rn rc tn tc : Nat) (pz rz tz : Nat → Int) (w : World) (hp : pn ≤ 1152921504606846976) (hr : rn ≤ 1152921504606846976) (ht : tn ≤ 1152921504606846976)
    (P : Row w pa (pn * 4) fun k => .int .i64 (pz k)) (R : Row w ra (rn * 3) fun k => .int .i64 (rz k)) (T : Row w ta (tn * 3) fun k => .int .i64 (tz k)) :
    Calls Tryz.prog 63 #[macA s c m ss ts, sessA i (.slice pa pn pc) (.slice ra rn rc) (.slice ta tn tc)] w fun e w' => e = .returned (.bool (sessMay s i pn rn tn pz rz tz)) ∧ Below w.heap.size w w' := by
  have HS : ∃ S : World → Prop, S ((w.alloc (.cells (macL s c m ss ts).toArray 34)).alloc (.cells (sessL i (.slice pa pn pc) (.slice ra rn rc) (.slice ta tn tc)).toArray 59)) ∧ (∀ W, S W → Below w.heap.size w W ∧ Blk W w.heap.size (macL s c m ss ts) ∧ Blk W (w.heap.size + 1) (sessL i (.slice pa pn pc) (.slice ra rn rc) (.slice ta tn tc))) ∧ Stays S := by
    refine ⟨fun W => Below w.heap.size w W ∧ Blk W w.heap.size (macL s c m ss ts) ∧ Blk W (w.heap.size + 1) (sessL i (.slice pa pn pc) (.slice ra rn rc) (.slice ta tn tc)), ⟨((Below.refl _ w).alloc (Nat.le_refl _) _).alloc (by simp) _, (blk_new w _ _).alloc _, ?_⟩, fun W h => h, (stays_below w).and ((stays_blk _ _).and (stays_blk _ _))⟩
    have := blk_new (w.alloc (.cells (macL s c m ss ts).toArray 34)) (sessL i (.slice pa pn pc) (.slice ra rn rc) (.slice ta tn tc)) 59
    rw [World.size_alloc] at this
    exact this
  obtain ⟨S, hS0, hSo, hSt⟩ := HS
  have C1 : Hid (∀ W, S W → Calls Tryz.prog 102 #[startA (i 0) (i 1) (i 2) (.slice pa pn pc)] W fun e w' => e = .returned (.bool (startMay (i 0) (i 1) (i 2) pn pz)) ∧ S w') := fun W h => (rstartMay_any _ _ _ pa pn pc pz W hp (P.below (hSo W h).1 (Nat.le_refl _))).mono fun e w' ⟨he, hb⟩ => ⟨he, hSt W w' h hb⟩
  have C2 : Hid (∀ W, S W → Calls Tryz.prog 130 #[arenaA s, sessA i (.slice pa pn pc) (.slice ra rn rc) (.slice ta tn tc)] W fun e w' => e = .returned (.bool (wordsThere s pn rn tn pz rz tz)) ∧ S w') := fun W h => (rwords_any s i pa ra ta pn pc rn rc tn tc pz rz tz W hp hr ht (P.below (hSo W h).1 (Nat.le_refl _)) (R.below (hSo W h).1 (Nat.le_refl _)) (T.below (hSo W h).1 (Nat.le_refl _))).mono fun e w' ⟨he, hb⟩ => ⟨he, hSt W w' h hb⟩
  have C5 : Hid (∀ W, S W → Calls Tryz.prog 131 #[quadA (regsI i)] W fun e w' => e = .returned (.bool (allUp (regsI i) 255 4)) ∧ S w') := fun W h => (rregsMay_any (regsI i) W).mono fun e w' ⟨he, hb⟩ => ⟨he, hSt W w' h hb⟩
  have C6 : Hid (∀ W, S W → Calls Tryz.prog 96 #[.slice ra rn rc] W fun e w' => e = .returned (.bool (readsMay rn rz)) ∧ S w') := fun W h => (rreadsMay_any ra rn rc rz W hr (R.below (hSo W h).1 (Nat.le_refl _))).mono fun e w' ⟨he, hb⟩ => ⟨he, hSt W w' h hb⟩
  have C7 : Hid (∀ W, S W → Calls Tryz.prog 132 #[.slice ta tn tc] W fun e w' => e = .returned (.bool (writesMay tn tz)) ∧ S w') := fun W h => (rwritesMay_any ta tn tc tz W ht (T.below (hSo W h).1 (Nat.le_refl _))).mono fun e w' ⟨he, q, hq⟩ => ⟨he, hSt W w' h (hq ▸ Below.drawn (Below.refl _ _) q)⟩
  unfold sessMay
  replace hSo := hide hSo
  clear P R T hp hr ht hSt
  generalize startMay (i 0) (i 1) (i 2) pn pz = a1 at *
  generalize wordsThere s pn rn tn pz rz tz = a2 at *
  generalize allUp (regsI i) 255 4 = a5 at *
  generalize readsMay rn rz = a6 at *
  generalize writesMay tn tz = a7 at *
  unfold macA sessA startA arenaA quadA regsI at *
  go_enter Tryz.func63, Tryz.ntmps63
  replace hS0 := hide hS0
  go_wp2_with fail
  refine (C1.out _ hS0.out).mono ?_
  rintro e w1 ⟨rfl, sw⟩
  have HW := hide sw
  clear hS0 C1 sw
  obtain ⟨bb, B0, B1⟩ := hSo.out _ HW.out
  obtain ⟨p0, p1, p2, p3, p4, p5, p6, p7, p8, p9, p10⟩ := B0.mac
  obtain ⟨d0, d1, d2, d3, d4, d5, d6, d7, d8, d9, d10, d11, d12, d13, d14, d15, d16⟩ := B1.sess
  cases a1
  · go_wp2
    go_ret
    exact ⟨by simp, bb⟩
  · skip
    go_wp2_with (refine wpList_load_at 59 (.tmp 3) rfl rfl (w.heap.size + 1) 0 rfl (sessL i (.slice pa pn pc) (.slice ra rn rc) (.slice ta tn tc)) Tryz.rowSess Tryz.sizeSess B1.range ?_)
    refine (C2.out _ HW.out).mono ?_
    rintro e w2 ⟨rfl, sw⟩
    clear C2
    clear p0 p1 p2 p3 p4 p5 p6 p7 p8 p9 p10 d0 d1 d2 d3 d4 d5 d6 d7 d8 d9 d10 d11 d12 d13 d14 d15 d16 B0 B1 HW bb
    have HW := hide sw
    clear sw
    obtain ⟨bb, B0, B1⟩ := hSo.out _ HW.out
    obtain ⟨p0, p1, p2, p3, p4, p5, p6, p7, p8, p9, p10⟩ := B0.mac
    obtain ⟨d0, d1, d2, d3, d4, d5, d6, d7, d8, d9, d10, d11, d12, d13, d14, d15, d16⟩ := B1.sess
    cases a2
    · go_wp2
      go_ret
      exact ⟨by simp, bb⟩
    · skip
      cases ha3 : upToV (i 3) 6
      · go_wp2_with (first | (go_at_call 50; refine (mupTo_any _ _ _).mono ?_; rintro e w' ⟨rfl, rfl⟩) | (go_at_call 62; refine (rclock_any _ _).mono ?_; rintro e w' ⟨rfl, rfl⟩) | (go_at_call 101; refine (rvalue_any _ _).mono ?_; rintro e w' ⟨rfl, rfl⟩))
        go_ret
        exact ⟨by simp [ha3], bb⟩
      · skip
        cases ha4 : upToV (i 4) pn
        · go_wp2_with (first | (go_at_call 50; refine (mupTo_any _ _ _).mono ?_; rintro e w' ⟨rfl, rfl⟩) | (go_at_call 62; refine (rclock_any _ _).mono ?_; rintro e w' ⟨rfl, rfl⟩) | (go_at_call 101; refine (rvalue_any _ _).mono ?_; rintro e w' ⟨rfl, rfl⟩))
          go_ret
          exact ⟨by simp [ha3, ha4], bb⟩
        · skip
          go_wp2_with (first | (go_at_call 50; refine (mupTo_any _ _ _).mono ?_; rintro e w' ⟨rfl, rfl⟩) | (go_at_call 62; refine (rclock_any _ _).mono ?_; rintro e w' ⟨rfl, rfl⟩) | (go_at_call 101; refine (rvalue_any _ _).mono ?_; rintro e w' ⟨rfl, rfl⟩))
          refine (C5.out _ HW.out).mono ?_
          rintro e w3 ⟨rfl, sw⟩
          clear C5
          clear p0 p1 p2 p3 p4 p5 p6 p7 p8 p9 p10 d0 d1 d2 d3 d4 d5 d6 d7 d8 d9 d10 d11 d12 d13 d14 d15 d16 B0 B1 HW bb
          have HW := hide sw
          clear sw
          obtain ⟨bb, B0, B1⟩ := hSo.out _ HW.out
          obtain ⟨p0, p1, p2, p3, p4, p5, p6, p7, p8, p9, p10⟩ := B0.mac
          obtain ⟨d0, d1, d2, d3, d4, d5, d6, d7, d8, d9, d10, d11, d12, d13, d14, d15, d16⟩ := B1.sess
          cases a5
          · go_wp2
            go_ret
            exact ⟨by simp, bb⟩
          · skip
            go_wp2_with fail
            refine (C6.out _ HW.out).mono ?_
            rintro e w4 ⟨rfl, sw⟩
            clear C6
            clear p0 p1 p2 p3 p4 p5 p6 p7 p8 p9 p10 d0 d1 d2 d3 d4 d5 d6 d7 d8 d9 d10 d11 d12 d13 d14 d15 d16 B0 B1 HW bb
            have HW := hide sw
            clear sw
            obtain ⟨bb, B0, B1⟩ := hSo.out _ HW.out
            obtain ⟨p0, p1, p2, p3, p4, p5, p6, p7, p8, p9, p10⟩ := B0.mac
            obtain ⟨d0, d1, d2, d3, d4, d5, d6, d7, d8, d9, d10, d11, d12, d13, d14, d15, d16⟩ := B1.sess
            cases a6
            · go_wp2
              go_ret
              exact ⟨by simp, bb⟩
            · skip
              go_wp2_with fail
              refine (C7.out _ HW.out).mono ?_
              rintro e w5 ⟨rfl, sw⟩
              clear C7
              clear p0 p1 p2 p3 p4 p5 p6 p7 p8 p9 p10 d0 d1 d2 d3 d4 d5 d6 d7 d8 d9 d10 d11 d12 d13 d14 d15 d16 B0 B1 HW bb
              have HW := hide sw
              clear sw
              obtain ⟨bb, B0, B1⟩ := hSo.out _ HW.out
              obtain ⟨p0, p1, p2, p3, p4, p5, p6, p7, p8, p9, p10⟩ := B0.mac
              obtain ⟨d0, d1, d2, d3, d4, d5, d6, d7, d8, d9, d10, d11, d12, d13, d14, d15, d16⟩ := B1.sess
              cases a7
              · go_wp2
                go_ret
                exact ⟨by simp, bb⟩
              · skip
                cases ha8 : upToV (i 9) tn
                · go_wp2_with (first | (go_at_call 50; refine (mupTo_any _ _ _).mono ?_; rintro e w' ⟨rfl, rfl⟩) | (go_at_call 62; refine (rclock_any _ _).mono ?_; rintro e w' ⟨rfl, rfl⟩) | (go_at_call 101; refine (rvalue_any _ _).mono ?_; rintro e w' ⟨rfl, rfl⟩))
                  go_ret
                  exact ⟨by simp [ha3, ha4, ha8], bb⟩
                · skip
                  cases ha9 : upToV (i 10) 65535
                  · go_wp2_with (first | (go_at_call 50; refine (mupTo_any _ _ _).mono ?_; rintro e w' ⟨rfl, rfl⟩) | (go_at_call 62; refine (rclock_any _ _).mono ?_; rintro e w' ⟨rfl, rfl⟩) | (go_at_call 101; refine (rvalue_any _ _).mono ?_; rintro e w' ⟨rfl, rfl⟩))
                    go_ret
                    exact ⟨by simp [ha3, ha4, ha8, ha9], bb⟩
                  · skip
                    cases ha10 : upToV (i 11) 65535
                    · go_wp2_with (first | (go_at_call 50; refine (mupTo_any _ _ _).mono ?_; rintro e w' ⟨rfl, rfl⟩) | (go_at_call 62; refine (rclock_any _ _).mono ?_; rintro e w' ⟨rfl, rfl⟩) | (go_at_call 101; refine (rvalue_any _ _).mono ?_; rintro e w' ⟨rfl, rfl⟩))
                      go_ret
                      exact ⟨by simp [ha3, ha4, ha8, ha9, ha10], bb⟩
                    · skip
                      cases ha11 : upToV (i 12) 5
                      · go_wp2_with (first | (go_at_call 50; refine (mupTo_any _ _ _).mono ?_; rintro e w' ⟨rfl, rfl⟩) | (go_at_call 62; refine (rclock_any _ _).mono ?_; rintro e w' ⟨rfl, rfl⟩) | (go_at_call 101; refine (rvalue_any _ _).mono ?_; rintro e w' ⟨rfl, rfl⟩))
                        go_ret
                        exact ⟨by simp [ha3, ha4, ha8, ha9, ha10, ha11], bb⟩
                      · skip
                        go_wp2_with (first | (go_at_call 50; refine (mupTo_any _ _ _).mono ?_; rintro e w' ⟨rfl, rfl⟩) | (go_at_call 62; refine (rclock_any _ _).mono ?_; rintro e w' ⟨rfl, rfl⟩) | (go_at_call 101; refine (rvalue_any _ _).mono ?_; rintro e w' ⟨rfl, rfl⟩))
                        go_ret
                        exact ⟨by simp [ha3, ha4, ha8, ha9, ha10, ha11], bb⟩
end Go.Proofs.YtaaenolbfhhnfaaGreat
namespace Go.Proofs.YtaaenolbfhhnfaaGreat
open Go.RowKit
def MayRC : Prop := ∀ (a : Option Addr) (n c : Nat) (z : Nat → Int) (w : World), n ≤ 1152921504606846976 → n ≤ c → (Row w a (n * 3) fun i => .int .i64 (z i)) → Calls Tryz.prog 119 #[.slice a n c] w fun e w' => e = .returned (.bool (readsMay n z)) ∧ Below w.heap.size w w'
end Go.Proofs.YtaaenolbfhhnfaaGreat
namespace Go.Proofs.YtaaenolbfhhnfaaGreat
open Go.RowKit
set_option linter.unusedSimpArgs false
set_option linter.unusedVariables false
theorem mayAlone_any (l i v : Int) (w : World) :
    Calls Tryz.prog 157 #[.agg #[.int .i64 l, .int .i64 i, .int .i64 v]] w fun e w' => e = .returned (.bool (readMay l i v)) ∧ Below w.heap.size w w' := by
  have C1 := fun w => may_any l w
  rw [mayV_up] at C1
  have C2 := fun w => askUpTo_any i 3 w
  have C3 := hide fun w => askUpTo_any v 65535 w
  unfold readMay
  cases hl : upToV l 3
  · rw [hl] at C1
    have H1 := hide C1
    clear C1 C2 C3
    go_enter Tryz.func157, Tryz.ntmps157
    go_wp2_with (go_at_call 117; refine (H1.out _).mono ?_; rintro e w' ⟨rfl, rfl⟩)
    go_ret
    exact ⟨rfl, by go_grown⟩
  · rw [hl] at C1
    have H1 := hide C1
    cases hi : upToV i 3
    · rw [hi] at C2
      have H2 := hide C2
      clear C1 C2 C3
      go_enter Tryz.func157, Tryz.ntmps157
      go_wp2_with (first | (go_at_call 117; refine (H1.out _).mono ?_; rintro e w' ⟨rfl, rfl⟩) | (go_at_call 47; refine (H2.out _).mono ?_; rintro e w' ⟨rfl, rfl⟩))
      go_ret
      exact ⟨rfl, by go_grown⟩
    · rw [hi] at C2
      have H2 := hide C2
      clear C1 C2
      go_enter Tryz.func157, Tryz.ntmps157
      go_wp2_with (first | (go_at_call 117; refine (H1.out _).mono ?_; rintro e w' ⟨rfl, rfl⟩) | (go_at_call 47; with_reducible refine (H2.out _).mono ?_; rintro e w' ⟨rfl, rfl⟩) | (go_at_call 47; with_reducible refine (C3.out _).mono ?_; rintro e w' ⟨rfl, rfl⟩))
      go_ret
      exact ⟨rfl, by go_grown⟩
set_option maxRecDepth 10000 in
set_option maxHeartbeats 1000000 in
theorem names_any (a : Option Addr) (n c : Nat) (z : Nat → Int) (l i v : Int) (w : World) (hn : n ≤ 1152921504606846976) (h : Row w a (n * 3) fun i => .int .i64 (z i)) :
    Calls Tryz.prog 158 #[.slice a n c, .agg #[.int .i64 l, .int .i64 i, .int .i64 v]] w fun e w' => e = .returned (.bool (!noneTo z l i n)) ∧ Below w.heap.size w w' := by
  have b0 : Below w.heap.size w (w.alloc (.cells #[.int .i64 l, .int .i64 i, .int .i64 v] 66)) := by go_grown
  have B := blk_new w [.int .i64 l, .int .i64 i, .int .i64 v] 66
  go_enter Tryz.func158, Tryz.ntmps158
  go_wp2
  go_loopw [9] (fun j wr => ∃ k : Nat, k ≤ n ∧ j = .int .i64 k ∧ Hid (noneTo z l i k = true) ∧ Blk wr w.heap.size [.int .i64 l, .int .i64 i, .int .i64 v] ∧ Below w.heap.size w wr) (fun j _ => n - (intOf j).toNat)
  case atStart => exact ⟨0, Nat.zero_le _, rfl, rfl, B, b0⟩
  case round =>
    clear b0 B
    obtain ⟨k, hk, rfl, HS, B, hb⟩ := hrel
    by_cases hlt : k < n
    · have i1 : (k : Int) < (n : Int) := by omega
      obtain ⟨b, off, hsa, hbl, d0, d1, d2⟩ := (h.below hb (Nat.le_refl _)).at3 k hlt
      subst hsa
      obtain ⟨⟨c0, c1, c2⟩, f0, f1, f2⟩ := B.three
      have bl := B.lt
      have s0 := hb.size
      clear h
      by_cases v0 : z (k * 3) = l
      · by_cases v1 : z (k * 3 + 1) = i
        · have HN : Hid (noneTo z l i n = false) := allTo_no k hlt (by unfold isWord; rw [v0, v1]; simp)
          rw [v0] at d0
          rw [v1] at d1
          clear v0 v1
          go_wp2
          go_ret
          exact ⟨ret_bool (by rw [HN.out]; rfl), by go_grown⟩
        · have HN : Hid (noneTo z l i (k + 1) = true) := by
            show allTo _ (k + 1) = true
            rw [allTo, show allTo _ k = true from HS.out]
            unfold isWord
            rw [beq_eq_false_iff_ne.2 v1, Bool.and_false]
            rfl
          rw [v0] at d0
          clear v0
          go_wp2
          go_roundw
          case rel => exact ⟨k + 1, by omega, by go_num, HN, B.alloc _, by go_grown⟩
          case measure => simp [intOf]; omega
      · have HN : Hid (noneTo z l i (k + 1) = true) := by
          show allTo _ (k + 1) = true
          rw [allTo, show allTo _ k = true from HS.out]
          unfold isWord
          rw [beq_eq_false_iff_ne.2 v0, Bool.false_and]
          rfl
        go_wp2
        go_roundw
        case rel => exact ⟨k + 1, by omega, by go_num, HN, B.alloc _, by go_grown⟩
        case measure => simp [intOf]; omega
    · obtain rfl : k = n := by omega
      clear h
      go_wp2
      go_ret
      exact ⟨ret_bool (by rw [HS.out]; rfl), hb⟩
set_option maxRecDepth 100000 in
theorem run_upto (b off n c m : Nat) (hm : m ≤ c) (W : World) : Sem.run Tryz.prog (Instr.slice 56 (.slice (some ⟨b, off, none⟩) n c) none (some (.int .i64 (m : Int))) none) W = .ok (.slice (some ⟨b, off, none⟩) m c) W := by
  rw [run_slice_h W 56 (some ⟨b, off, none⟩) n c (by kernel_rfl) .i64 (m : Int) (by omega) (by omega), Int.toNat_natCast]
  have e : Sem.run Tryz.prog (Go.sizeOf (Tryz.prog.elem 56)) W = .ok 3 W := by rfl
  rw [e]
  simp only [Result.andThen, sliced, Nat.sub_zero, Nat.zero_mul, Option.map_some, Go.WideShapes.add_plain, Nat.add_zero, ite_self]
set_option maxRecDepth 10000 in
set_option maxHeartbeats 2000000 in
theorem may_rc : MayRC := by
  intro a n c z w hn hc h
  by_cases h16 : n ≤ 16
  · have i16 : ¬ (16 : Int) < (n : Int) := by omega
    have CA := askAll_any 157 #[] #[] (aloneP z) a n c z w hn h (fun _ _ => rfl) (fun k hk W hb => mayAlone_any _ _ _ W)
    cases hl : allTo (aloneP z) n
    · rw [hl] at CA
      have HC := hide CA
      have HN := hide (readsMay_alones hl)
      clear CA h hl
      go_enter Tryz.func119, Tryz.ntmps119
      go_wp2_with fail
      refine HC.out.mono ?_
      rintro e w1 ⟨rfl, b1⟩
      clear HC
      go_wp2
      go_ret
      exact ⟨ret_bool HN.out.symm, b1⟩
    · rw [hl] at CA
      have HC := hide CA
      have HL := hide hl
      clear CA hl
      go_enter Tryz.func119, Tryz.ntmps119
      go_wp2_with fail
      refine HC.out.mono ?_
      rintro e w1 ⟨rfl, b1⟩
      clear HC
      go_wp2
      go_loopw [15] (fun i wr => ∃ k : Nat, k ≤ n ∧ i = .int .i64 k ∧ Hid (allTo (apartP z) k = true) ∧ Below w.heap.size w wr) (fun i _ => n - (intOf i).toNat)
      case atStart => exact ⟨0, Nat.zero_le _, rfl, rfl, b1⟩
      case round =>
        clear b1
        obtain ⟨k, hk, rfl, HS, hb⟩ := hrel
        by_cases hlt : k < n
        · have i1 : (k : Int) < (n : Int) := by omega
          obtain ⟨b, off, hsa, hbl, d0, d1, d2⟩ := (h.below hb (Nat.le_refl _)).at3 k hlt
          subst hsa
          have s0 := hb.size
          go_upto_region 6 with (fail)
          have b2 : Below w.heap.size w (wr.alloc (.cells #[.int .i64 (z (k * 3)), .int .i64 (z (k * 3 + 1)), .int .i64 (z (k * 3 + 2))] 66)) := by go_grown
          have B := blk_new wr [.int .i64 (z (k * 3)), .int .i64 (z (k * 3 + 1)), .int .i64 (z (k * 3 + 2))] 66
          clear d0 d1 d2 hbl hb
          change Blk (wr.alloc (.cells #[.int .i64 (z (k * 3)), .int .i64 (z (k * 3 + 1)), .int .i64 (z (k * 3 + 2))] 66)) wr.heap.size _ at B
          generalize wr.alloc (.cells #[.int .i64 (z (k * 3)), .int .i64 (z (k * 3 + 1)), .int .i64 (z (k * 3 + 2))] 66) = W at *
          obtain ⟨p0, p1, p2⟩ := B.kin3
          have hs := fun W => run_upto b off n c k (by omega) W
          have K : ∀ u : Kin W, _ := fun u => Calls.kin_of (u := u) (names_any (some ⟨b, off, none⟩) k c z (z (k * 3)) (z (k * 3 + 1)) (z (k * 3 + 2)) u.at_ (by omega) (((h.below b2 (Nat.le_refl _)).below u.below (Nat.le_refl _)).less (by omega)))
          have kne : Nonempty (Kin W) := kin_any W
          cases hp : noneTo z (z (k * 3)) (z (k * 3 + 1)) k
          · rw [hp] at K
            have HK := hide K
            have HN : Hid (readsMay n z = false) := readsMay_apart k hlt hp
            clear K hp
            refine wp_region_kin (by kernel_rfl) (by kernel_rfl) ?_
            repeat (go_big_quiet_step ((go_at_call 158; exact HK.out _)))
            refine wpQuiet_nil ?_
            rintro _ ⟨u, rfl⟩
            have b3 : Below w.heap.size w u.at_ := b2.trans (u.below.mono b2.size)
            clear p0 p1 p2 hs HK kne B b2 h
            generalize u.at_ = V at *
            clear u
            go_wp2
            go_ret
            exact ⟨ret_bool HN.out.symm, b3⟩
          · rw [hp] at K
            have HK := hide K
            have HN : Hid (allTo (apartP z) (k + 1) = true) := by
              show allTo (apartP z) (k + 1) = true
              rw [allTo, HS.out]
              exact hp
            clear K hp
            refine wp_region_kin (by kernel_rfl) (by kernel_rfl) ?_
            repeat (go_big_quiet_step ((go_at_call 158; exact HK.out _)))
            refine wpQuiet_nil ?_
            rintro _ ⟨u, rfl⟩
            have b3 : Below w.heap.size w u.at_ := b2.trans (u.below.mono b2.size)
            clear p0 p1 p2 hs HK kne B b2 h
            generalize u.at_ = V at *
            clear u
            go_wp2
            go_roundw
            case rel => exact ⟨k + 1, by omega, by go_num, HN, b3⟩
            case measure => simp [intOf]; omega
        · obtain rfl : k = n := by omega
          clear h
          go_wp2
          go_ret
          exact ⟨ret_bool (readsMay_mk HL.out HS.out h16).symm, hb⟩
  · have i16 : (16 : Int) < (n : Int) := by omega
    clear h
    go_enter Tryz.func119, Tryz.ntmps119
    go_wp2
    go_ret
    exact ⟨ret_bool (readsMay_long (by omega)).symm, Below.refl _ _⟩
end Go.Proofs.YtaaenolbfhhnfaaGreat
