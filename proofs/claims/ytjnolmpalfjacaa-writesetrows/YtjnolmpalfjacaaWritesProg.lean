/-
  What the landed package writeset's functions hand back.
-/
import Derived.Test.YtjnolmpalfjacaaAskProg
import Derived.Test.YtjnolmpalfjacaaWritesStat
import Derived.Test.YtjnolmpalfjacaaLabelUp
import Derived.Deep.Cut
import Derived.WalkMore
namespace Go.Proofs.Ytjnolmpalfjacaa
open Go.RowKit
set_option linter.unusedSimpArgs false
set_option linter.unusedVariables false

theorem wAlone_any (l i v : Int) (w : World) :
    Calls Try.prog 23 #[.agg #[.int .i64 l, .int .i64 i, .int .i64 v]] w fun e w' => e = .returned (.bool (writeMay l i v)) ∧ Below w.heap.size w w' := by
  have C1 := fun w => may_any l w
  rw [mayV_up] at C1
  have C2 := fun w => askUpTo_any i 3 w
  have C3 := hide fun w => askUpTo_any v 255 w
  unfold writeMay
  cases hl : upToV l 3
  · rw [hl] at C1
    have H1 := hide C1
    clear C1 C2 C3
    go_enter Try.func23, Try.ntmps23
    go_wp2_with (go_at_call 31; refine (H1.out _).mono ?_; rintro e w' ⟨rfl, rfl⟩)
    go_ret
    exact ⟨rfl, by go_grown⟩
  · rw [hl] at C1
    have H1 := hide C1
    cases hi : upToV i 3
    · rw [hi] at C2
      have H2 := hide C2
      clear C1 C2 C3
      go_enter Try.func23, Try.ntmps23
      go_wp2_with (first | (go_at_call 31; refine (H1.out _).mono ?_; rintro e w' ⟨rfl, rfl⟩) | (go_at_call 32; refine (H2.out _).mono ?_; rintro e w' ⟨rfl, rfl⟩))
      go_ret
      exact ⟨rfl, by go_grown⟩
    · rw [hi] at C2
      have H2 := hide C2
      clear C1 C2
      go_enter Try.func23, Try.ntmps23
      go_wp2_with (first | (go_at_call 31; refine (H1.out _).mono ?_; rintro e w' ⟨rfl, rfl⟩) | (go_at_call 32; with_reducible refine (H2.out _).mono ?_; rintro e w' ⟨rfl, rfl⟩) | (go_at_call 32; with_reducible refine (C3.out _).mono ?_; rintro e w' ⟨rfl, rfl⟩))
      go_ret
      exact ⟨rfl, by go_grown⟩

/-- How many, from the first on, are ahead of that word. -/
theorem wPlace_any (a : Option Addr) (n c : Nat) (z : Nat → Int) (l i : Int) (w : World) (hn : n ≤ 1152921504606846976) (h : Row w a (n * 3) fun i => .int .i64 (z i)) :
    Calls Try.prog 28 #[.slice a n c, .int .i64 l, .int .i64 i] w fun e w' => e = .returned (.int .i64 (posW n z l i : Int)) ∧ Below w.heap.size w w' := by
  go_enter Try.func28, Try.ntmps28
  go_wp2
  go_step3
  go_wp2
  go_step3
  go_wp2
  go_loopw [7] (fun j wr => ∃ k : Nat, k ≤ n ∧ j = .int .i64 k ∧ Hid (allTo (ltW z l i) k = true) ∧ Below w.heap.size w wr) (fun j _ => n - (intOf j).toNat)
  case atStart => exact ⟨0, Nat.zero_le _, rfl, rfl, Below.refl _ _⟩
  case round =>
    obtain ⟨k, hk, rfl, HS, hb⟩ := hrel
    have s0 := hb.size
    by_cases hlt : k < n
    · have i1 : (k : Int) < (n : Int) := by omega
      obtain ⟨b, off, hsa, hbl, d0, d1, d2⟩ := (h.below hb (Nat.le_refl _)).at3 k hlt
      subst hsa
      clear h
      by_cases v0 : z (k * 3) < l
      · have HN : Hid (allTo (ltW z l i) (k + 1) = true) := by
          show allTo (ltW z l i) (k + 1) = true
          rw [allTo, HS.out, ltW_iff.2 (.inl v0)]
          rfl
        go_wp2
        go_roundw
        case rel => exact ⟨k + 1, by omega, by go_num, HN, by go_grown⟩
        case measure => simp [intOf]; omega
      · by_cases v1 : l < z (k * 3)
        · have HN : Hid (posW n z l i = k) := lead_is HS.out (by omega) fun _ => by
            cases e : ltW z l i k with
            | false => rfl
            | true => rw [ltW_iff] at e; omega
          go_wp2
          try rw [Exit.noGoto_ret]
          go_ret
          exact ⟨ret_int (by rw [HN.out]), by go_grown⟩
        · by_cases v2 : i ≤ z (k * 3 + 1)
          · have HN : Hid (posW n z l i = k) := lead_is HS.out (by omega) fun _ => by
              cases e : ltW z l i k with
              | false => rfl
              | true => rw [ltW_iff] at e; omega
            go_wp2
            try rw [Exit.noGoto_ret]
            go_ret
            exact ⟨ret_int (by rw [HN.out]), by go_grown⟩
          · have HN : Hid (allTo (ltW z l i) (k + 1) = true) := by
              show allTo (ltW z l i) (k + 1) = true
              rw [allTo, HS.out, ltW_iff.2 (by omega)]
              rfl
            go_wp2
            go_roundw
            case rel => exact ⟨k + 1, by omega, by go_num, HN, by go_grown⟩
            case measure => simp [intOf]; omega
    · obtain rfl : k = n := by omega
      have HN : Hid (posW k z l i = k) := lead_is HS.out (Nat.le_refl _) fun h => absurd h (Nat.lt_irrefl _)
      clear h
      go_wp2
      try rw [Exit.noGoto_ret]
      go_ret
      exact ⟨ret_int (by rw [HN.out]), hb⟩

/-- Where a slice begins that leaves out the first m. -/
def wFrom (a : Option Addr) (c m : Nat) : Option Addr := if c = m then a else a.map (·.add (m * 3))
theorem run_wFrom (a : Option Addr) (n c m : Nat) (hm : m ≤ n) (W : World) : Sem.run Try.prog (Instr.slice 22 (.slice a n c) (some (.int .i64 (m : Int))) none none) W = .ok (.slice (wFrom a c m) (n - m) (c - m)) W := by
  rw [run_slice_l W 22 a n c (by kernel_rfl) .i64 (m : Int) (by omega) (by omega)]
  rw [Int.toNat_natCast]
  rfl
theorem run_wPart (a : Option Addr) (n c p m : Nat) (hp : p ≤ m) (hm : m ≤ c) (W : World) : Sem.run Try.prog (Instr.slice 22 (.slice a n c) (some (.int .i64 (p : Int))) (some (.int .i64 (m : Int))) none) W = .ok (.slice (wFrom a c p) (m - p) (c - p)) W := by
  rw [run_slice_lh W 22 a n c (by kernel_rfl) .i64 .i64 (p : Int) (m : Int) (by omega) (by omega) (by omega)]
  rw [Int.toNat_natCast, Int.toNat_natCast]
  rfl
theorem run_wUpto (a : Option Addr) (n c m : Nat) (hm : m ≤ c) (W : World) : Sem.run Try.prog (Instr.slice 22 (.slice a n c) none (some (.int .i64 (m : Int))) none) W = .ok (.slice a m c) W := by
  rw [run_slice_h W 22 a n c (by kernel_rfl) .i64 (m : Int) (by omega) (by omega), Int.toNat_natCast]
  have e : Sem.run Try.prog (Go.sizeOf (Try.prog.elem 22)) W = .ok 3 W := by rfl
  rw [e]
  have e0 : ∀ x : Addr, x.add 0 = x := fun x => by
    obtain ⟨b, o, p⟩ := x
    simp [Addr.add]
  cases a <;> simp [Result.andThen, sliced, e0]
theorem row_wFrom {w : World} {a : Option Addr} {n c m : Nat} {z : Nat → Int} (h : Row w a (n * 3) fun i => .int .i64 (z i)) (hm : m ≤ n) (hc : n ≤ c) : Row w (wFrom a c m) ((n - m) * 3) fun i => .int .i64 (z (m * 3 + i)) := by
  intro i hi
  obtain ⟨b, off, rfl, hb, hcell⟩ := h (m * 3 + i) (by omega)
  refine ⟨b, off + m * 3, ?_, hb, ?_⟩
  · unfold wFrom
    rw [if_neg (by omega), Option.map_some, Go.WideShapes.add_plain]
  · rw [Nat.add_assoc]; exact hcell
theorem wFrom_none {a : Option Addr} {c m : Nat} (h : wFrom a c m = none) : a = none := by
  unfold wFrom at h
  split at h
  · exact h
  · simpa using h

theorem ahead_pos {z : Nat → Int} {k : Nat} (h : aheadW z k = true) : posW k z (z (k * 3)) (z (k * 3 + 1)) = k := lead_is h (Nat.le_refl _) fun h => absurd h (Nat.lt_irrefl _)
theorem ahead_not {z : Nat → Int} {k : Nat} (h : aheadW z k = false) : posW k z (z (k * 3)) (z (k * 3 + 1)) < k := by
  have h1 := posW_le k z (z (k * 3)) (z (k * 3 + 1))
  have h2 := lead_all (ltW z (z (k * 3)) (z (k * 3 + 1))) k
  by_cases e : posW k z (z (k * 3)) (z (k * 3 + 1)) = k
  · rw [show lead (ltW z (z (k * 3)) (z (k * 3 + 1))) k = k from e] at h2
    rw [show aheadW z k = allTo (ltW z (z (k * 3)) (z (k * 3 + 1))) k from rfl, h2] at h
    cases h
  · omega

set_option maxRecDepth 10000 in
set_option maxHeartbeats 2000000 in
theorem may_wc : MayWC := by
  intro a n c z w hn hc h
  by_cases h16 : n ≤ 16
  · have i16 : ¬ (16 : Int) < (n : Int) := by omega
    have CA := askAllW_any 23 #[] #[] (aloneW z) a n c z w hn h (fun _ _ => rfl) (fun k hk W hb => wAlone_any _ _ _ W)
    cases hl : allTo (aloneW z) n
    · rw [hl] at CA
      have HC := hide CA
      have HN := hide (writesMay_alones hl)
      clear CA h hl
      go_enter Try.func17, Try.ntmps17
      go_wp2_with fail
      refine HC.out.mono ?_
      rintro e w1 ⟨rfl, b1⟩
      clear HC
      go_wp2
      go_ret
      exact ⟨ret_bool HN.out.symm, b1⟩
    · rw [hl] at CA
      have HC := hide CA
      have HL := hide hl
      clear CA hl
      go_enter Try.func17, Try.ntmps17
      go_wp2_with fail
      refine HC.out.mono ?_
      rintro e w1 ⟨rfl, b1⟩
      clear HC
      go_wp2
      go_loopw [15] (fun i wr => ∃ k : Nat, k ≤ n ∧ i = .int .i64 k ∧ Hid (allTo (aheadW z) k = true) ∧ Below w.heap.size w wr) (fun i _ => n - (intOf i).toNat)
      case atStart => exact ⟨0, Nat.zero_le _, rfl, rfl, b1⟩
      case round =>
        clear b1
        obtain ⟨k, hk, rfl, HS, hb⟩ := hrel
        by_cases hlt : k < n
        · have i1 : (k : Int) < (n : Int) := by omega
          obtain ⟨b, off, hsa, hbl, d0, d1, d2⟩ := (h.below hb (Nat.le_refl _)).at3 k hlt
          subst hsa
          have s0 := hb.size
          go_upto_region 6 with (fail)
          have b2 : Below w.heap.size w (wr.alloc (.cells #[.int .i64 (z (k * 3)), .int .i64 (z (k * 3 + 1)), .int .i64 (z (k * 3 + 2))] 24)) := by go_grown
          have B := blk_new wr [.int .i64 (z (k * 3)), .int .i64 (z (k * 3 + 1)), .int .i64 (z (k * 3 + 2))] 24
          clear d0 d1 d2 hbl hb
          change Blk (wr.alloc (.cells #[.int .i64 (z (k * 3)), .int .i64 (z (k * 3 + 1)), .int .i64 (z (k * 3 + 2))] 24)) wr.heap.size _ at B
          generalize wr.alloc (.cells #[.int .i64 (z (k * 3)), .int .i64 (z (k * 3 + 1)), .int .i64 (z (k * 3 + 2))] 24) = W at *
          obtain ⟨p0, p1, p2⟩ := B.kin3
          have hs := fun W => run_wUpto (some ⟨b, off, none⟩) n c k (by omega) W
          have K : ∀ u : Kin W, _ := fun u => Calls.kin_of (u := u) (wPlace_any (some ⟨b, off, none⟩) k c z (z (k * 3)) (z (k * 3 + 1)) u.at_ (by omega) (((h.below b2 (Nat.le_refl _)).below u.below (Nat.le_refl _)).less (by omega)))
          have kne : Nonempty (Kin W) := kin_any W
          cases hp : aheadW z k
          · have HN : Hid (writesMay n z = false) := writesMay_not_ahead k hlt hp
            have hp' := ahead_not hp
            have HK := hide K
            clear K hp
            generalize posW k z (z (k * 3)) (z (k * 3 + 1)) = P at *
            have i2 : (P : Int) < (k : Int) := by omega
            refine wp_region_kin (by kernel_rfl) (by kernel_rfl) ?_
            repeat (go_big_quiet_step ((go_at_call 28; exact HK.out _)))
            refine wpQuiet_nil ?_
            rintro _ ⟨u, rfl⟩
            have b3 : Below w.heap.size w u.at_ := b2.trans (u.below.mono b2.size)
            clear p0 p1 p2 hs HK kne B b2 h
            generalize u.at_ = V at *
            clear u
            go_wp2
            go_ret
            exact ⟨ret_bool HN.out.symm, b3⟩
          · rw [ahead_pos hp] at K
            have HK := hide K
            have HN : Hid (allTo (aheadW z) (k + 1) = true) := by
              show allTo (aheadW z) (k + 1) = true
              rw [allTo, HS.out]
              exact hp
            clear K hp
            refine wp_region_kin (by kernel_rfl) (by kernel_rfl) ?_
            repeat (go_big_quiet_step ((go_at_call 28; exact HK.out _)))
            refine wpQuiet_nil ?_
            rintro _ ⟨u, rfl⟩
            have b3 : Below w.heap.size w u.at_ := b2.trans (u.below.mono b2.size)
            clear p0 p1 p2 hs HK kne B b2 h
            generalize u.at_ = V at *
            clear u
            go_wp2
            go_roundw
            case rel => exact ⟨k + 1, by omega, by go_num, HN, b3⟩
            case measure => simp [intOf]; omega
        · obtain rfl : k = n := by omega
          clear h
          go_wp2
          go_ret
          exact ⟨ret_bool (writesMay_ahead HL.out HS.out h16).symm, hb⟩
  · have i16 : (16 : Int) < (n : Int) := by omega
    clear h
    go_enter Try.func17, Try.ntmps17
    go_wp2
    go_ret
    exact ⟨ret_bool (writesMay_long (by omega)).symm, Below.refl _ _⟩

end Go.Proofs.Ytjnolmpalfjacaa
