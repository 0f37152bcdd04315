/-
  The law ProgParts, if package prog's functions keep their statements.
-/
import Derived.Test.YtkomapgmhipkaaaProgStat
import Derived.Test.YtkomapgmhipkaaaProgMore
import Derived.Test.YtkomapgmhipkaaaPlain
import Derived.Test.YtkomapgmhipkaaaKin
namespace Go.Proofs.Ytkomapgmhipkaaa
open Go.RowKit
set_option linter.unusedSimpArgs false
set_option linter.unusedVariables false

/-- Where a slice begins that leaves out the first m. -/
def sliceFrom (a : Option Addr) (c m : Nat) : Option Addr := if c = m then a else a.map (·.add (m * 4))
theorem run_from (a : Option Addr) (n c m : Nat) (hm : m ≤ n) (W : World) : Sem.run Try.prog (Instr.slice 22 (.slice a n c) (some (.int .i64 (m : Int))) none none) W = .ok (.slice (sliceFrom a c m) (n - m) (c - m)) W := by
  rw [run_slice_l W 22 a n c (by kernel_rfl) .i64 (m : Int) (by omega) (by omega)]
  rw [Int.toNat_natCast]
  rfl
theorem row_from {w : World} {a : Option Addr} {n c m : Nat} {z : Nat → Int} (h : Row w a (n * 4) fun i => .int .i64 (z i)) (hm : m ≤ n) (hc : n ≤ c) : Row w (sliceFrom a c m) ((n - m) * 4) fun i => .int .i64 (fromZ z m i) := by
  intro i hi
  obtain ⟨b, off, rfl, hb, hcell⟩ := h (m * 4 + i) (by omega)
  refine ⟨b, off + m * 4, ?_, hb, ?_⟩
  · unfold sliceFrom
    rw [if_neg (by omega), Option.map_some, Go.WideShapes.add_plain]
  · rw [Nat.add_assoc]; exact hcell

theorem run_tail (b : UInt8) (r : List UInt8) (W : World) : Sem.run Try.prog (Instr.slice 9 (.string ⟨(b :: r).toArray⟩) (some (.int .i64 1)) none none) W = .ok (.string ⟨r.toArray⟩) W := by
  rw [run_slice_string_from_if W 9 _ .i64 1 (by kernel_rfl), if_pos ⟨by omega, by rw [text_size, List.length_cons]; omega⟩, ByteArray.extract_mk, text_size]
  simp

set_option maxRecDepth 100000 in
set_option maxHeartbeats 4000000 in
theorem progParts_said (hM : MayPC) (hP : PutPC) (hG : GetPC) (a : Option Addr) (n c : Nat) (z : Nat → Int) (a1 : Int) (w : World) (hn : n * 32 ≤ 140737488351232) (hc : n ≤ c) (ha : a = none → n = 0 ∧ c = 0) (h : Row w a (n * 4) fun i => .int .i64 (z i)) :
    Calls Try.prog 7 #[.slice a n c, .int .i64 a1] w fun e w' => e = .returned (.bool true) ∧ Below w.heap.size w w' := by
  have C0 := hide fun w => awake8_any hM hP hG w
  obtain ⟨m, hm, hpick⟩ := pick_at a1 ((n : Int) + 1) (by omega) (by omega)
  go_enter Try.func7, Try.ntmps7
  go_wp2_with fail
  refine (C0.out _).mono ?_
  rintro e w1 ⟨rfl, b1⟩
  have R1 := h.below b1 (Nat.le_refl _)
  clear C0 h
  go_wp2
  go_loop [5] (fun i => ∃ k : Nat, k ≤ n ∧ i = .int .i64 k ∧ Hid (∀ j, j < k → z (j * 4) ≠ 4)) (fun i => n - (intOf i).toNat)
  case atStart => exact ⟨0, Nat.zero_le _, rfl, fun j hj => absurd hj (Nat.not_lt_zero _)⟩
  case round =>
    obtain ⟨k, hk, rfl, H4⟩ := hrel
    by_cases hlt : k < n
    · have i1 : (k : Int) < (n : Int) := by omega
      obtain ⟨b, off, rfl, hbl, d0, d1, d2, d3⟩ := R1.at4 k hlt
      by_cases h4 : z (k * 4) = 4
      · rw [h4] at d0
        clear hpick
        go_wp2
        go_ret
        exact ⟨rfl, b1⟩
      · clear hpick
        have HN : Hid (∀ j, j < k + 1 → z (j * 4) ≠ 4) := fun j hj => by
          by_cases e : j = k
          · subst e; exact h4
          · exact H4.out j (by omega)
        go_wp2
        go_round
        case rel => exact ⟨k + 1, by omega, by go_num, HN⟩
        case measure => simp [intOf]; omega
    · obtain rfl : k = n := by omega
      clear hk hlt
      have hmk : m ≤ k := by omega
      have hs2 := run_from a k c m hmk
      clear ha
      cases hy : progMay k z
      · have C1 := hide fun (w : World) h => hP a k c z w (by omega) h
        have C2 := hide fun (w : World) h => hP a m c z w (by omega) h
        have C3 := hide fun (w : World) h => hP (sliceFrom a c m) (k - m) (c - m) (fromZ z m) w (by omega) h
        rw [(putP_not hy).1, (putP_not hy).2] at C1
        have HF : Hid (∀ w : World, (Row w a (k * 4) fun i => .int .i64 (z i)) → Row w (sliceFrom a c m) ((k - m) * 4) fun i => .int .i64 (fromZ z m i)) := fun w h => row_from h hmk hc
        unfold textS at C1 C2 C3
        clear hM hP hG hy
        generalize sliceFrom a c m = a', k - m = n', c - m = c', fromZ z m = z' at *
        go_wp2_with fail
        refine (C1.out _ R1).mono ?_
        rintro e w2 ⟨rfl, hb⟩
        have b2 : Below w.heap.size w w2 := Below.on b1 hb
        have R2 := R1.below hb (Nat.le_refl _)
        clear hb b1 R1 C1
        go_wp2_with fail
        refine (C2.out _ (R2.less (by omega))).mono ?_
        rintro e w3 ⟨rfl, hb⟩
        have b3 : Below w.heap.size w w3 := Below.on b2 hb
        have R3 := R2.below hb (Nat.le_refl _)
        clear hb b2 R2 C2
        go_wp2_with fail
        refine (C3.out _ (HF.out _ R3)).mono ?_
        rintro e w4 ⟨rfl, hb⟩
        have b4 : Below w.heap.size w w4 := Below.on b3 hb
        clear hb b3 R3 C3 HF
        go_wp2_with (go_at_call 13; refine (num_any _ _).mono ?_; rintro e w' ⟨rfl, rfl⟩)
        go_ret
        exact ⟨rfl, b4⟩
      · have C1 := hide fun (w : World) h => hP a k c z w (by omega) h
        have C2 := hide fun (w : World) h => hP a m c z w (by omega) h
        have C3 := hide fun (w : World) h => hP (sliceFrom a c m) (k - m) (c - m) (fromZ z m) w (by omega) h
        have C4 := hide fun (w : World) h => hM a m c z w (by omega) h
        have C5 := hide fun (w : World) h => hM (sliceFrom a c m) (k - m) (c - m) (fromZ z m) w (by omega) h
        obtain ⟨p1, p2⟩ := progMay_parts hy hmk H4.out
        have k16 := (progMay_get hy).2
        rw [(putP_yes hy).1, (putP_yes hy).2] at C1
        rw [(putP_yes p1).1, (putP_yes p1).2] at C2
        rw [(putP_yes p2).1, (putP_yes p2).2] at C3
        rw [p1] at C4
        rw [p2] at C5
        have HF : Hid (∀ w : World, (Row w a (k * 4) fun i => .int .i64 (z i)) → Row w (sliceFrom a c m) ((k - m) * 4) fun i => .int .i64 (fromZ z m i)) := fun w h => row_from h hmk hc
        have t1 := run_tail (byteOf k) (progB z k)
        have t2 := run_tail (byteOf m) (progB z m)
        have t3 := run_tail (byteOf ((k - m : Nat) : Int)) (progB (fromZ z m) (k - m))
        have l1 : ∃ L : Nat, (⟨(byteOf k :: progB z k).toArray⟩ : ByteArray).size = L + 1 := ⟨_, by rw [text_size, List.length_cons]⟩
        have l2 : ∃ L : Nat, (⟨(byteOf m :: progB z m).toArray⟩ : ByteArray).size = L + 1 := ⟨_, by rw [text_size, List.length_cons]⟩
        have l3 : ∃ L : Nat, (⟨(byteOf ((k - m : Nat) : Int) :: progB (fromZ z m) (k - m)).toArray⟩ : ByteArray).size = L + 1 := ⟨_, by rw [text_size, List.length_cons]⟩
        have ta := text_append (progB z m) (progB (fromZ z m) (k - m))
        rw [← progB_add, show m + (k - m) = k by omega] at ta
        have sb : ¬ 9223372036854775807 < (progB z m).length + (progB (fromZ z m) (k - m)).length := by rw [progB_len, progB_len]; omega
        have tx := text_list (progB z k)
        unfold textS at C1 C2 C3
        clear hM hP hG hy p1 p2 H4
        generalize byteOf k :: progB z k = T1, byteOf m :: progB z m = T2 at *
        generalize byteOf ((k - m : Nat) : Int) :: progB (fromZ z m) (k - m) = T3 at *
        generalize progB z k = r1, progB z m = r2 at *
        generalize progB (fromZ z m) (k - m) = r3 at *
        generalize sliceFrom a c m = a', k - m = n', c - m = c', fromZ z m = z' at *
        obtain ⟨L1, l1⟩ := l1
        obtain ⟨L2, l2⟩ := l2
        obtain ⟨L3, l3⟩ := l3
        have i1 : ¬ (L1 : Int) + 1 < 1 := by omega
        have i2 : ¬ (L2 : Int) + 1 < 1 := by omega
        have i3 : ¬ (L3 : Int) + 1 < 1 := by omega
        go_wp2_with fail
        refine (C1.out _ R1).mono ?_
        rintro e w2 ⟨rfl, hb⟩
        have b2 : Below w.heap.size w w2 := Below.on b1 hb
        have R2 := R1.below hb (Nat.le_refl _)
        clear hb b1 R1 C1
        go_wp2_with fail
        refine (C2.out _ (R2.less (by omega))).mono ?_
        rintro e w3 ⟨rfl, hb⟩
        have b3 : Below w.heap.size w w3 := Below.on b2 hb
        have R3 := R2.below hb (Nat.le_refl _)
        clear hb b2 R2 C2
        go_wp2_with fail
        refine (C3.out _ (HF.out _ R3)).mono ?_
        rintro e w4 ⟨rfl, hb⟩
        have b4 : Below w.heap.size w w4 := Below.on b3 hb
        have R4 := R3.below hb (Nat.le_refl _)
        clear hb b3 R3 C3
        go_upto_region 16 with (go_at_call 13; refine (num_any _ _).mono ?_; rintro e w' ⟨rfl, rfl⟩)
        have K4 : Hid (∀ u : Kin w4, Calls Try.prog 15 #[.slice a m c] u.at_ fun e w'' => e = .returned (.bool true) ∧ ∃ u' : Kin w4, w'' = u'.at_) := fun u => Calls.kin_of (C4.out _ ((R4.below u.below (Nat.le_refl _)).less (by omega)))
        have K5 : Hid (∀ u : Kin w4, Calls Try.prog 15 #[.slice a' n' c'] u.at_ fun e w'' => e = .returned (.bool true) ∧ ∃ u' : Kin w4, w'' = u'.at_) := fun u => Calls.kin_of (C5.out _ (HF.out _ (R4.below u.below (Nat.le_refl _))))
        clear hpick
        have kne : Nonempty (Kin w4) := kin_any w4
        refine wp_region_kin (by kernel_rfl) (by kernel_rfl) ?_
        iterate 18 (go_big_quiet_step ((go_at_call 15; exact K4.out _)))
        repeat (go_big_quiet_step ((go_at_call 15; exact K5.out _)))
        refine wpQuiet_nil ?_
        rintro _ ⟨u, rfl⟩
        have b6 : Below w.heap.size w u.at_ := b4.trans (u.below.mono b4.size)
        clear K4 K5 kne b4 C4 C5 HF R4
        generalize u.at_ = W at *
        clear u
        go_wp2
        go_ret
        exact ⟨rfl, b6⟩

end Go.Proofs.Ytkomapgmhipkaaa
