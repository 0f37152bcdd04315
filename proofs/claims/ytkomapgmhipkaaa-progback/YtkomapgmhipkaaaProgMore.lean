/-
  Programs and their texts: what was put is got; a text that is one is told as it stood; unlike ones, parts. No Go in sight.
-/
import Derived.Test.YtkomapgmhipkaaaProgGetRef
import Derived.Test.YtkomapgmhipkaaaEqTo
namespace Go.Proofs.Ytkomapgmhipkaaa
open Go.RowKit

theorem putP_yes {n : Nat} {z : Nat → Int} (h : progMay n z = true) : putPT n z = byteOf n :: progB z n ∧ putPE n z = 0 := by unfold putPT putPE; rw [h]; exact ⟨rfl, rfl⟩
theorem putP_not {n : Nat} {z : Nat → Int} (h : progMay n z = false) : putPT n z = [] ∧ putPE n z = 800 := by unfold putPT putPE; rw [h]; exact ⟨rfl, rfl⟩
theorem progTo_congr {z y : Nat → Int} (n : Nat) : ∀ {k : Nat}, (∀ j, j < k * 4 → z j = y j) → progTo z n k = progTo y n k
  | 0, _ => rfl
  | k + 1, h => by
    rw [progTo, progTo, progTo_congr n fun j hj => h j (by omega), instMay_congr (i := instAt z k) (j := instAt y k) fun j hj => h _ (by omega)]
    unfold badJump
    rw [h (k * 4) (by omega), h (k * 4 + 2) (by omega)]
theorem progMay_congr {z y : Nat → Int} {n : Nat} (h : ∀ j, j < n * 4 → z j = y j) : progMay n z = progMay n y := by unfold progMay; rw [progTo_congr n h]
theorem progB_get {z : Nat → Int} {n : Nat} : ∀ {k : Nat}, progTo z n k = true → ∀ j, j < k * 4 → (((progB z k).getD j 0).toNat : Int) = z j
  | 0, _, j, hj => by omega
  | k + 1, h, j, hj => by
    rw [progB, List.getD_eq_getElem?_getD]
    by_cases hlt : j < k * 4
    · rw [List.getElem?_append_left (by rw [progB_len]; exact hlt), ← List.getD_eq_getElem?_getD]
      exact progB_get (by rw [progTo, Bool.and_eq_true] at h; exact h.1) j hlt
    · rw [List.getElem?_append_right (by rw [progB_len]; omega), progB_len, ← List.getD_eq_getElem?_getD]
      have := instOf_instT (progTo_get h k (by omega)).1 (j - k * 4) (by omega)
      unfold instOf at this
      rw [this]
      unfold instAt
      congr 1
      omega
/-- What was put is got. -/
theorem getP_put {n : Nat} {z : Nat → Int} (h : progMay n z = true) : getPOk (byteOf n :: progB z n) = true ∧ textN (byteOf n :: progB z n) = n ∧ ∀ j, j < n * 4 → textZ (byteOf n :: progB z n) j = z j := by
  obtain ⟨hp, h16⟩ := progMay_get h
  have hz : ∀ j, j < n * 4 → textZ (byteOf n :: progB z n) j = z j := fun j hj => by
    unfold textZ
    rw [Nat.add_comm 1 j]
    exact progB_get hp j hj
  have hN : textN (byteOf n :: progB z n) = n := by
    have := byteOf_nat (n := n) (by omega) (by omega)
    unfold textN
    show (byteOf n).toNat = n
    omega
  refine ⟨?_, hN, hz⟩
  unfold getPOk
  rw [hN, progMay_congr hz, h, List.length_cons, progB_len, decide_eq_true (by omega)]
  rfl
theorem instT_congr {i j : Nat → Int} (h : ∀ k, k < 4 → i k = j k) : instT i = instT j := by
  unfold instT
  rw [h 0 (by omega), h 1 (by omega), h 2 (by omega), h 3 (by omega)]
theorem progB_text {l : List UInt8} : ∀ {k : Nat}, 1 + 4 * k ≤ l.length → progB (textZ l) k = (l.drop 1).take (4 * k)
  | 0, _ => by rw [progB]; rfl
  | k + 1, h => by
    rw [progB, progB_text (by omega), instT_congr (i := instAt (textZ l) k) (j := instOf (partT l k)) fun j hj => (partT_of hj).symm, instT_instOf (partT_len (by omega))]
    unfold partT
    rw [show 4 * (k + 1) = 4 * k + 4 by omega, List.take_add, List.drop_drop]
/-- A text that is one is told as it stood. -/
theorem putP_get {l : List UInt8} (h : getPOk l = true) : putPT (textN l) (textZ l) = l ∧ putPE (textN l) (textZ l) = 0 ∧ progMay (textN l) (textZ l) = true := by
  unfold getPOk at h
  simp only [Bool.and_eq_true, decide_eq_true_eq] at h
  obtain ⟨hl, hm⟩ := h
  refine ⟨?_, (putP_yes hm).2, hm⟩
  rw [(putP_yes hm).1, progB_text (by omega)]
  match l, hl with
  | [], hl => simp only [List.length_nil] at hl; omega
  | a :: r, hl =>
    have e1 : byteOf ((textN (a :: r) : Nat) : Int) = a := by
      unfold byteOf textN
      rw [Int.toNat_natCast]
      exact UInt8.ofNat_toNat
    rw [e1]
    congr 1
    simp only [List.drop_succ_cons, List.drop_zero]
    exact List.take_of_length_le (by simp only [List.length_cons] at hl; omega)
/-- Those that are like have like numbers. -/
theorem putP_same {n : Nat} {z y : Nat → Int} (hz : progMay n z = true) (hy : progMay n y = true) (h : byteOf (n : Int) :: progB z n = byteOf (n : Int) :: progB y n) : ∀ j, j < n * 4 → z j = y j := fun j hj => by
  rw [← progB_get (progMay_get hz).1 j hj, ← progB_get (progMay_get hy).1 j hj, (List.cons.inj h).2]
theorem progB_congr {z y : Nat → Int} : ∀ {k : Nat}, (∀ j, j < k * 4 → z j = y j) → progB z k = progB y k
  | 0, _ => rfl
  | k + 1, h => by rw [progB, progB, progB_congr fun j hj => h j (by omega), instT_congr (i := instAt z k) (j := instAt y k) fun j hj => h _ (by omega)]
/-- The instructions behind the first k. -/
def fromZ (z : Nat → Int) (k : Nat) : Nat → Int := fun j => z (k * 4 + j)
theorem instAt_from (z : Nat → Int) (k m : Nat) : instAt (fromZ z k) m = instAt z (k + m) := by
  funext j
  unfold instAt fromZ
  congr 1
  omega
theorem progB_add (z : Nat → Int) (k : Nat) : ∀ m, progB z (k + m) = progB z k ++ progB (fromZ z k) m
  | 0 => by rw [progB, List.append_nil]; rfl
  | m + 1 => by
    rw [← Nat.add_assoc, progB, progB, progB_add z k m, List.append_assoc, instAt_from]
/-- The parts of one without jumps. -/
theorem progMay_parts {n k : Nat} {z : Nat → Int} (h : progMay n z = true) (hk : k ≤ n) (h4 : ∀ i, i < n → z (i * 4) ≠ 4) : progMay k z = true ∧ progMay (n - k) (fromZ z k) = true := by
  obtain ⟨hp, h16⟩ := progMay_get h
  have nj : ∀ (y : Nat → Int) (m i : Nat), y (i * 4) ≠ 4 → badJump y m i = false := fun y m i hy => by
    unfold badJump
    rw [beq_eq_false_iff_ne.2 hy]
    rfl
  refine ⟨progMay_mk (progTo_mk fun i hi => ⟨(progTo_get hp i (by omega)).1, nj _ _ _ (h4 i (by omega))⟩) (by omega), progMay_mk (progTo_mk fun i hi => ⟨?_, nj _ _ _ ?_⟩) (by omega)⟩
  · rw [instAt_from]; exact (progTo_get hp (k + i) (by omega)).1
  · have := h4 (k + i) (by omega)
    unfold fromZ
    rw [show k * 4 + i * 4 = (k + i) * 4 by omega]
    exact this

end Go.Proofs.Ytkomapgmhipkaaa
