/-
  The document's answers to chapter 9: are all their words there; are they good; is one changed.
-/
import Derived.Test.YtleemagdidffpaaReadsRef
import Derived.Deep.Cut
namespace Go.Proofs.Ytleemagdidffpaa
open Go.RowKit
set_option linter.unusedSimpArgs false
set_option linter.unusedVariables false

/-- One of a row of threes, in every world that has it. -/
theorem Row.kin3 {W : World} {a : Option Addr} {n : Nat} {f : Nat → Value} (h : Row W a (n * 3) f) (k : Nat) (hk : k < n) :
    ∃ b off, a = some ⟨b, off, none⟩ ∧ b < W.heap.size ∧ (∀ u : Kin W, u.at_.cell? ⟨b, off + k * 3, none⟩ = some (f (k * 3))) ∧ (∀ u : Kin W, u.at_.cell? ⟨b, off + k * 3 + 1, none⟩ = some (f (k * 3 + 1))) ∧ (∀ u : Kin W, u.at_.cell? ⟨b, off + k * 3 + 2, none⟩ = some (f (k * 3 + 2))) := by
  obtain ⟨b, off, e, hb, c0, c1, c2⟩ := h.at3 k hk
  exact ⟨b, off, e, hb, fun u => (u.cell b _ hb).trans c0, fun u => (u.cell b _ hb).trans c1, fun u => (u.cell b _ hb).trans c2⟩

set_option maxRecDepth 10000 in
set_option maxHeartbeats 2000000 in
theorem rreadsThere_any (s : Nat → Sl) (a : Option Addr) (n c : Nat) (z : Nat → Int) (w : World) (hn : n ≤ 1152921504606846976) (h : Row w a (n * 3) fun i => .int .i64 (z i)) :
    Calls Try.prog 37 #[arenaA s, .slice a n c] w fun e w' => e = .returned (.bool (allTo (thereP s z) n)) ∧ Below w.heap.size w w' := by
  have CA := hide fun l i w => rthere_any s l i w
  unfold arenaA at *
  go_enter Try.func37, Try.ntmps37
  go_wp2
  go_loopw [5] (fun i wr => ∃ k : Nat, k ≤ n ∧ i = .int .i64 k ∧ Hid (allTo (thereP s z) k = true) ∧ Blk wr w.heap.size (arenaL s) ∧ (Row wr a (n * 3) fun i => .int .i64 (z i)) ∧ Below w.heap.size w wr) (fun i _ => n - (intOf i).toNat)
  case atStart =>
    have b0 : Below w.heap.size w (w.alloc (.cells #[.slice (s 0).a (s 0).n (s 0).c, .slice (s 1).a (s 1).n (s 1).c, .slice (s 2).a (s 2).n (s 2).c, .slice (s 3).a (s 3).n (s 3).c] 26)) := by go_grown
    exact ⟨0, Nat.zero_le _, rfl, rfl, blk_new w (arenaL s) _, h.below b0 (Nat.le_refl _), b0⟩
  case round =>
    obtain ⟨k, hk, rfl, HS, B, R, hb⟩ := hrel
    clear h
    by_cases hlt : k < n
    · have i1 : (k : Int) < (n : Int) := by omega
      obtain ⟨b, off, rfl, hbl, d0, d1, _⟩ := R.kin3 k hlt
      obtain ⟨p0, p1, p2, p3⟩ := B.kin4
      have kne : Nonempty (Kin wr) := kin_any wr
      have K : ∀ u : Kin wr, _ := fun u => Calls.kin_of (u := u) (CA.out (z (k * 3)) (z (k * 3 + 1)) _)
      have HR := hide R
      have HB := hide hb
      have HBl := hide B
      cases ht : thereP s z k
      · unfold thereP at ht
        rw [ht] at K
        have HK := hide K
        have HN : Hid (allTo (thereP s z) n = false) := allTo_no k hlt ht
        clear K ht R hb B CA
        go_upto_region 4 with (fail)
        refine wp_region_kin (by kernel_rfl) (by kernel_rfl) ?_
        repeat (go_big_quiet_step ((go_at_call 47; exact HK.out _)))
        refine wpQuiet_nil ?_
        rintro _ ⟨u, rfl⟩
        have b2 : Below w.heap.size w u.at_ := HB.out.trans (u.below.mono HB.out.size)
        clear d0 d1 p0 p1 p2 p3 HK kne HR HB HBl
        generalize u.at_ = V at *
        clear u
        go_wp2
        go_ret
        exact ⟨ret_bool HN.out.symm, b2⟩
      · unfold thereP at ht
        rw [ht] at K
        have HK := hide K
        have HN : Hid (allTo (thereP s z) (k + 1) = true) := by
          show allTo (thereP s z) (k + 1) = true
          rw [allTo, HS.out]
          exact ht
        clear K ht R hb B CA
        go_upto_region 4 with (fail)
        refine wp_region_kin (by kernel_rfl) (by kernel_rfl) ?_
        repeat (go_big_quiet_step ((go_at_call 47; exact HK.out _)))
        refine wpQuiet_nil ?_
        rintro _ ⟨u, rfl⟩
        have b2 : Below w.heap.size w u.at_ := HB.out.trans (u.below.mono HB.out.size)
        have R2 := hide (HR.out.below u.below (Nat.le_refl _))
        have B2 := hide (HBl.out.kin u)
        clear d0 d1 p0 p1 p2 p3 HK kne HR HB HBl
        generalize u.at_ = V at *
        clear u
        go_wp2
        go_roundw
        case rel =>
          first
            | exact ⟨k + 1, by omega, by go_num, HN, B2.out, R2.out, b2⟩
            | (repeat apply Exists.intro
               exact ⟨⟨k + 1, by omega, by go_num, HN, B2.out, R2.out, b2⟩, rfl⟩)
        case measure => simp [intOf]; omega
    · obtain rfl : k = n := by omega
      go_wp2
      go_ret
      exact ⟨ret_bool HS.out.symm, hb⟩

/-- The word of a read that is there. -/
theorem there_word {s : Nat → Sl} {y : Nat → Nat → Int} {z : Nat → Int} {W : World} {k : Nat} (ht : thereP s z k = true) (hA : Arn W s y) :
    ∃ (g j b off : Nat), z (k * 3) = (g : Int) ∧ z (k * 3 + 1) = (j : Int) ∧ g < 4 ∧ j < (s g).n ∧ (s g).a = some ⟨b, off, none⟩ ∧ b < W.heap.size ∧ W.cell? ⟨b, off + j * 3, none⟩ = some (.int .i64 (y g (j * 3))) ∧ W.cell? ⟨b, off + j * 3 + 1, none⟩ = some (.int .i64 (y g (j * 3 + 1))) ∧ W.cell? ⟨b, off + j * 3 + 2, none⟩ = some (.int .i64 (y g (j * 3 + 2))) ∧
      sameP y z k = (y g (j * 3 + 1) == z (k * 3 + 2)) ∧ ∀ d, freeP y z d k = ((y g (j * 3 + 2) == 0) || (y g (j * 3 + 2) == d + 1)) := by
  obtain ⟨g, j, hg, hj, hg4, hjn⟩ := thereV_get ht
  obtain ⟨b, off, e, hb, c0, c1, c2⟩ := (hA g hg4).at3 j hjn
  refine ⟨g, j, b, off, hg, hj, hg4, hjn, e, hb, c0, c1, c2, ?_, fun d => ?_⟩
  · unfold sameP
    rw [hg, hj, Int.toNat_natCast, Int.toNat_natCast]
  · unfold freeP
    rw [hg, hj, Int.toNat_natCast, Int.toNat_natCast]

set_option maxRecDepth 10000 in
set_option maxHeartbeats 4000000 in
theorem rchanged_any (s : Nat → Sl) (y : Nat → Nat → Int) (a : Option Addr) (n c : Nat) (z : Nat → Int) (w : World) (hf : Short s) (hA : Arn w s y) (hn : n ≤ 1152921504606846976) (h : Row w a (n * 3) fun i => .int .i64 (z i)) :
    Calls Try.prog 16 #[arenaA s, .slice a n c] w fun e w' => e = .returned (.tuple #[.bool (chgV s y n z), .int .i64 (chgE s y n z)]) ∧ Below w.heap.size w w' := by
  have CA := hide fun w h => rarenaMay_any s y w hf h
  have CR := hide fun w h => rreadsMay_any a n c z w hn h
  have CT := hide fun w h => rreadsThere_any s a n c z w hn h
  have HA := hide hA
  have b0 : Below w.heap.size w (w.alloc (.cells (arenaL s).toArray 26)) := by go_grown
  have B := blk_new w (arenaL s) 26
  have HR := hide (h.below b0 (Nat.le_refl _))
  have HA0 := hide (hA.below b0 (Nat.le_refl _))
  clear h hA hf
  unfold arenaA at *
  cases ha : amay s y
  · obtain ⟨e1, e2⟩ := chg_no (fitR_arena (n := n) (z := z) ha)
    rw [e1, e2]
    clear e1 e2
    go_enter Try.func16, Try.ntmps16
    go_wp2_with fail
    refine (CA.out _ HA0.out).mono ?_
    rintro e w1 ⟨rfl, hb⟩
    rw [ha]
    have b1 := Below.on b0 hb
    clear hb
    go_wp2
    go_ret2
    exact ⟨rfl, b1⟩
  · go_enter Try.func16, Try.ntmps16
    go_wp2_with fail
    refine (CA.out _ HA0.out).mono ?_
    rintro e w1 ⟨rfl, hb⟩
    rw [ha]
    have b1 := Below.on b0 hb
    have R1 := hide (HR.out.below hb (Nat.le_refl _))
    have B1 := hide (B.on hb)
    clear hb b0 HR HA0 B CA
    go_wp2_with fail
    refine (CR.out _ R1.out).mono ?_
    rintro e w2 ⟨rfl, hb⟩
    have b2 := Below.on b1 hb
    have R2 := hide (R1.out.below hb (Nat.le_refl _))
    have B2 := B1.out.on hb
    clear hb b1 R1 B1 CR
    cases hr : readsMay n z
    · obtain ⟨e1, e2⟩ := chg_no (fitR_reads (s := s) (y := y) hr)
      have HE := hide (And.intro e1 e2)
      clear B2 e1 e2
      go_wp2
      go_ret2
      exact ⟨ret_bool_int HE.out.1.symm HE.out.2.symm, b2⟩
    · obtain ⟨⟨c0, c1, c2, c3⟩, f0, f1, f2, f3⟩ := B2.four
      go_wp2_with fail
      refine (CT.out _ R2.out).mono ?_
      rintro e w3 ⟨rfl, hb⟩
      have b3 := Below.on b2 hb
      have R3 := hide (R2.out.below hb (Nat.le_refl _))
      have B3 := B2.on hb
      clear hb b2 R2 B2 CT c0 c1 c2 c3 f0 f1 f2 f3
      cases ht : allTo (thereP s z) n
      · obtain ⟨e1, e2⟩ := chg_no (fitR_there (s := s) (y := y) ht)
        have HE := hide (And.intro e1 e2)
        clear B3 e1 e2
        go_wp2
        go_ret2
        exact ⟨ret_bool_int HE.out.1.symm HE.out.2.symm, b3⟩
      · obtain ⟨e1, e2⟩ := chg_yes (fitR_mk ha hr ht)
        have HE := hide (And.intro e1 e2)
        have HT := hide ht
        clear e1 e2 ht hr ha
        go_wp2
        go_loopw [6] (fun i wr => ∃ k : Nat, k ≤ n ∧ i = .int .i64 k ∧ Hid (allTo (sameP y z) k = true) ∧ Blk wr w.heap.size (arenaL s) ∧ (Row wr a (n * 3) fun i => .int .i64 (z i)) ∧ Below w.heap.size w wr) (fun i _ => n - (intOf i).toNat)
        case atStart => exact ⟨0, Nat.zero_le _, rfl, rfl, B3, R3.out, b3⟩
        case round =>
          clear B3 R3 b3
          obtain ⟨k, hk, rfl, HS, B, R, hb⟩ := hrel
          by_cases hlt : k < n
          · have i1 : (k : Int) < (n : Int) := by omega
            obtain ⟨b, off, rfl, hbl, d0, d1, d2⟩ := R.at3 k hlt
            obtain ⟨g, j, b', off', hg, hj, hg4, hjn, hsa, hb', q0, q1, q2, hsm, _⟩ := there_word (allTo_get HT.out k hlt) (HA.out.below hb (Nat.le_refl _))
            have c1 := B.cell g _ (arenaL_get s hg4)
            rw [hsa] at c1
            rw [hg] at d0
            rw [hj] at d1
            have i2 : (g : Int) < 4 := by omega
            have i3 : (j : Int) < ((s g).n : Int) := by omega
            have HR := hide R
            have HB := hide hb
            have HBl := hide B
            cases hv : (y g (j * 3 + 1) == z (k * 3 + 2))
            · have hv2 : (y g (j * 3 + 1) != z (k * 3 + 2)) = true := by rw [bne, hv]; rfl
              have hv3 : ¬ y g (j * 3 + 1) = z (k * 3 + 2) := by simpa using hv
              have HN : Hid (allTo (sameP y z) n = false) := allTo_no k hlt (by rw [hsm, hv])
              clear R hb B hsa hg hj hsm hv
              go_wp2
              go_quiet (fail)
              go_wp2
              go_ret2
              exact ⟨ret_bool_int (by rw [HE.out.1, HN.out]; rfl) HE.out.2.symm, Below.drawn HB.out _⟩
            · have hv2 : (y g (j * 3 + 1) != z (k * 3 + 2)) = false := by rw [bne, hv]; rfl
              have hv3 : y g (j * 3 + 1) = z (k * 3 + 2) := by simpa using hv
              have HN : Hid (allTo (sameP y z) (k + 1) = true) := by
                show allTo (sameP y z) (k + 1) = true
                rw [allTo, HS.out, hsm, hv]
                rfl
              clear R hb B hsa hg hj hsm hv
              go_wp2
              go_quiet (fail)
              go_wp2
              go_roundw
              case rel =>
                first
                  | exact ⟨k + 1, by omega, by go_num, HN, HBl.out.drawn _, HR.out.drewN _, Below.drawn HB.out _⟩
                  | (repeat apply Exists.intro
                     exact ⟨⟨k + 1, by omega, by go_num, HN, HBl.out.drawn _, HR.out.drewN _, Below.drawn HB.out _⟩, rfl⟩)
              case measure => simp [intOf]; omega
          · obtain rfl : k = n := by omega
            go_wp2
            go_ret2
            exact ⟨ret_bool_int (by rw [HE.out.1, HS.out]; rfl) HE.out.2.symm, hb⟩

end Go.Proofs.Ytleemagdidffpaa
