/-
  Several small texts in one: ReadsStat, ReadsProg.
-/
import Derived.Test.YtjjokalheloimaaGreatZhGoodRef2
import Derived.Test.YtjjokalheloimaaGreatZlae
import Derived.Test.YtjjokalheloimaaGreatZhAskProg
import Derived.Test.YtjjokalheloimaaGreatZlab
namespace Go.Proofs.YtjjokalheloimaaGreat
open Go.RowKit
def MayRC : Prop := ∀ (a : Option Addr) (n c : Nat) (z : Nat → Int) (w : World), n ≤ 1152921504606846976 → n ≤ c → (Row w a (n * 3) fun i => .int .i64 (z i)) → Calls Tryz.prog 120 #[.slice a n c] w fun e w' => e = .returned (.bool (readsMay n z)) ∧ Below w.heap.size w w'
end Go.Proofs.YtjjokalheloimaaGreat
namespace Go.Proofs.YtjjokalheloimaaGreat
open Go.RowKit
set_option linter.unusedSimpArgs false
set_option linter.unusedVariables false
theorem mayAlone_any (l i v : Int) (w : World) :
    Calls Tryz.prog 159 #[.agg #[.int .i64 l, .int .i64 i, .int .i64 v]] w fun e w' => e = .returned (.bool (readMay l i v)) ∧ Below w.heap.size w w' := by
  have C1 := fun w => may_any l w
  rw [mayV_up] at C1
  have C2 := fun w => askUpTo_any i 3 w
  have C3 := hide fun w => askUpTo_any v 65535 w
  unfold readMay
  cases hl : upToV l 3
  · rw [hl] at C1
    have H1 := hide C1
    clear C1 C2 C3
    go_enter Tryz.func159, Tryz.ntmps159
    go_wp2_with (go_at_call 118; refine (H1.out _).mono ?_; rintro e w' ⟨rfl, rfl⟩)
    go_ret
    exact ⟨rfl, by go_grown⟩
  · rw [hl] at C1
    have H1 := hide C1
    cases hi : upToV i 3
    · rw [hi] at C2
      have H2 := hide C2
      clear C1 C2 C3
      go_enter Tryz.func159, Tryz.ntmps159
      go_wp2_with (first | (go_at_call 118; refine (H1.out _).mono ?_; rintro e w' ⟨rfl, rfl⟩) | (go_at_call 59; refine (H2.out _).mono ?_; rintro e w' ⟨rfl, rfl⟩))
      go_ret
      exact ⟨rfl, by go_grown⟩
    · rw [hi] at C2
      have H2 := hide C2
      clear C1 C2
      go_enter Tryz.func159, Tryz.ntmps159
      go_wp2_with (first | (go_at_call 118; refine (H1.out _).mono ?_; rintro e w' ⟨rfl, rfl⟩) | (go_at_call 59; with_reducible refine (H2.out _).mono ?_; rintro e w' ⟨rfl, rfl⟩) | (go_at_call 59; with_reducible refine (C3.out _).mono ?_; rintro e w' ⟨rfl, rfl⟩))
      go_ret
      exact ⟨rfl, by go_grown⟩
set_option maxRecDepth 10000 in
set_option maxHeartbeats 1000000 in
theorem names_any (a : Option Addr) (n c : Nat) (z : Nat → Int) (l i v : Int) (w : World) (hn : n ≤ 1152921504606846976) (h : Row w a (n * 3) fun i => .int .i64 (z i)) :
    Calls Tryz.prog 160 #[.slice a n c, .agg #[.int .i64 l, .int .i64 i, .int .i64 v]] w fun e w' => e = .returned (.bool (!noneTo z l i n)) ∧ Below w.heap.size w w' := by
  have b0 : Below w.heap.size w (w.alloc (.cells #[.int .i64 l, .int .i64 i, .int .i64 v] 69)) := by go_grown
  have B := blk_new w [.int .i64 l, .int .i64 i, .int .i64 v] 69
  go_enter Tryz.func160, Tryz.ntmps160
  go_wp2
  go_loopw [9] (fun j wr => ∃ k : Nat, k ≤ n ∧ j = .int .i64 k ∧ Hid (noneTo z l i k = true) ∧ Blk wr w.heap.size [.int .i64 l, .int .i64 i, .int .i64 v] ∧ Below w.heap.size w wr) (fun j _ => n - (intOf j).toNat)
  case atStart => exact ⟨0, Nat.zero_le _, rfl, rfl, B, b0⟩
  case round =>
    clear b0 B
    obtain ⟨k, hk, rfl, HS, B, hb⟩ := hrel
    by_cases hlt : k < n
    · have i1 : (k : Int) < (n : Int) := by omega
      obtain ⟨b, off, hsa, hbl, d0, d1, d2⟩ := (h.below hb (Nat.le_refl _)).at3 k hlt
      subst hsa
      obtain ⟨⟨c0, c1, c2⟩, f0, f1, f2⟩ := B.three
      have bl := B.lt
      have s0 := hb.size
      clear h
      by_cases v0 : z (k * 3) = l
      · by_cases v1 : z (k * 3 + 1) = i
        · have HN : Hid (noneTo z l i n = false) := allTo_no k hlt (by unfold isWord; rw [v0, v1]; simp)
          rw [v0] at d0
          rw [v1] at d1
          clear v0 v1
          go_wp2
          go_ret
          exact ⟨ret_bool (by rw [HN.out]; rfl), by go_grown⟩
        · have HN : Hid (noneTo z l i (k + 1) = true) := by
            show allTo _ (k + 1) = true
            rw [allTo, show allTo _ k = true from HS.out]
            unfold isWord
            rw [beq_eq_false_iff_ne.2 v1, Bool.and_false]
            rfl
          rw [v0] at d0
          clear v0
          go_wp2
          go_roundw
          case rel => exact ⟨k + 1, by omega, by go_num, HN, B.alloc _, by go_grown⟩
          case measure => simp [intOf]; omega
      · have HN : Hid (noneTo z l i (k + 1) = true) := by
          show allTo _ (k + 1) = true
          rw [allTo, show allTo _ k = true from HS.out]
          unfold isWord
          rw [beq_eq_false_iff_ne.2 v0, Bool.false_and]
          rfl
        go_wp2
        go_roundw
        case rel => exact ⟨k + 1, by omega, by go_num, HN, B.alloc _, by go_grown⟩
        case measure => simp [intOf]; omega
    · obtain rfl : k = n := by omega
      clear h
      go_wp2
      go_ret
      exact ⟨ret_bool (by rw [HS.out]; rfl), hb⟩
set_option maxRecDepth 100000 in
theorem run_upto (b off n c m : Nat) (hm : m ≤ c) (W : World) : Sem.run Tryz.prog (Instr.slice 56 (.slice (some ⟨b, off, none⟩) n c) none (some (.int .i64 (m : Int))) none) W = .ok (.slice (some ⟨b, off, none⟩) m c) W := by
  rw [run_slice_h W 56 (some ⟨b, off, none⟩) n c (by kernel_rfl) .i64 (m : Int) (by omega) (by omega), Int.toNat_natCast]
  have e : Sem.run Tryz.prog (Go.sizeOf (Tryz.prog.elem 56)) W = .ok 3 W := by rfl
  rw [e]
  simp only [Result.andThen, sliced, Nat.sub_zero, Nat.zero_mul, Option.map_some, Go.WideShapes.add_plain, Nat.add_zero, ite_self]
set_option maxRecDepth 10000 in
set_option maxHeartbeats 2000000 in
theorem may_rc : MayRC := by
  intro a n c z w hn hc h
  by_cases h16 : n ≤ 16
  · have i16 : ¬ (16 : Int) < (n : Int) := by omega
    have CA := askAll_any 159 #[] #[] (aloneP z) a n c z w hn h (fun _ _ => rfl) (fun k hk W hb => mayAlone_any _ _ _ W)
    cases hl : allTo (aloneP z) n
    · rw [hl] at CA
      have HC := hide CA
      have HN := hide (readsMay_alones hl)
      clear CA h hl
      go_enter Tryz.func120, Tryz.ntmps120
      go_wp2_with fail
      refine HC.out.mono ?_
      rintro e w1 ⟨rfl, b1⟩
      clear HC
      go_wp2
      go_ret
      exact ⟨ret_bool HN.out.symm, b1⟩
    · rw [hl] at CA
      have HC := hide CA
      have HL := hide hl
      clear CA hl
      go_enter Tryz.func120, Tryz.ntmps120
      go_wp2_with fail
      refine HC.out.mono ?_
      rintro e w1 ⟨rfl, b1⟩
      clear HC
      go_wp2
      go_loopw [15] (fun i wr => ∃ k : Nat, k ≤ n ∧ i = .int .i64 k ∧ Hid (allTo (apartP z) k = true) ∧ Below w.heap.size w wr) (fun i _ => n - (intOf i).toNat)
      case atStart => exact ⟨0, Nat.zero_le _, rfl, rfl, b1⟩
      case round =>
        clear b1
        obtain ⟨k, hk, rfl, HS, hb⟩ := hrel
        by_cases hlt : k < n
        · have i1 : (k : Int) < (n : Int) := by omega
          obtain ⟨b, off, hsa, hbl, d0, d1, d2⟩ := (h.below hb (Nat.le_refl _)).at3 k hlt
          subst hsa
          have s0 := hb.size
          go_upto_region 6 with (fail)
          have b2 : Below w.heap.size w (wr.alloc (.cells #[.int .i64 (z (k * 3)), .int .i64 (z (k * 3 + 1)), .int .i64 (z (k * 3 + 2))] 69)) := by go_grown
          have B := blk_new wr [.int .i64 (z (k * 3)), .int .i64 (z (k * 3 + 1)), .int .i64 (z (k * 3 + 2))] 69
          clear d0 d1 d2 hbl hb
          change Blk (wr.alloc (.cells #[.int .i64 (z (k * 3)), .int .i64 (z (k * 3 + 1)), .int .i64 (z (k * 3 + 2))] 69)) wr.heap.size _ at B
          generalize wr.alloc (.cells #[.int .i64 (z (k * 3)), .int .i64 (z (k * 3 + 1)), .int .i64 (z (k * 3 + 2))] 69) = W at *
          obtain ⟨p0, p1, p2⟩ := B.kin3
          have hs := fun W => run_upto b off n c k (by omega) W
          have K : ∀ u : Kin W, _ := fun u => Calls.kin_of (u := u) (names_any (some ⟨b, off, none⟩) k c z (z (k * 3)) (z (k * 3 + 1)) (z (k * 3 + 2)) u.at_ (by omega) (((h.below b2 (Nat.le_refl _)).below u.below (Nat.le_refl _)).less (by omega)))
          have kne : Nonempty (Kin W) := kin_any W
          cases hp : noneTo z (z (k * 3)) (z (k * 3 + 1)) k
          · rw [hp] at K
            have HK := hide K
            have HN : Hid (readsMay n z = false) := readsMay_apart k hlt hp
            clear K hp
            refine wp_region_kin (by kernel_rfl) (by kernel_rfl) ?_
            repeat (go_big_quiet_step ((go_at_call 160; exact HK.out _)))
            refine wpQuiet_nil ?_
            rintro _ ⟨u, rfl⟩
            have b3 : Below w.heap.size w u.at_ := b2.trans (u.below.mono b2.size)
            clear p0 p1 p2 hs HK kne B b2 h
            generalize u.at_ = V at *
            clear u
            go_wp2
            go_ret
            exact ⟨ret_bool HN.out.symm, b3⟩
          · rw [hp] at K
            have HK := hide K
            have HN : Hid (allTo (apartP z) (k + 1) = true) := by
              show allTo (apartP z) (k + 1) = true
              rw [allTo, HS.out]
              exact hp
            clear K hp
            refine wp_region_kin (by kernel_rfl) (by kernel_rfl) ?_
            repeat (go_big_quiet_step ((go_at_call 160; exact HK.out _)))
            refine wpQuiet_nil ?_
            rintro _ ⟨u, rfl⟩
            have b3 : Below w.heap.size w u.at_ := b2.trans (u.below.mono b2.size)
            clear p0 p1 p2 hs HK kne B b2 h
            generalize u.at_ = V at *
            clear u
            go_wp2
            go_roundw
            case rel => exact ⟨k + 1, by omega, by go_num, HN, b3⟩
            case measure => simp [intOf]; omega
        · obtain rfl : k = n := by omega
          clear h
          go_wp2
          go_ret
          exact ⟨ret_bool (readsMay_mk HL.out HS.out h16).symm, hb⟩
  · have i16 : (16 : Int) < (n : Int) := by omega
    clear h
    go_enter Tryz.func120, Tryz.ntmps120
    go_wp2
    go_ret
    exact ⟨ret_bool (readsMay_long (by omega)).symm, Below.refl _ _⟩
end Go.Proofs.YtjjokalheloimaaGreat
