/-
  Instructions: which may be, their bytes. An instruction's four numbers are told by their places: 0 its code, 1, 2, 3. No Go in sight.
-/
import Derived.Test.YtlaanhkmoficbaaQuad
namespace Go.Proofs.Ytlaanhkmoficbaa
open Go.RowKit

/-- A text. -/
def textS (l : List UInt8) : Value := .string ⟨l.toArray⟩
/-- May it be an instruction? -/
def instMay (i : Nat → Int) : Bool :=
  if i 0 = 0 then upToV (i 1) 3 && upToV (i 2) 255 && (i 3 == 0)
  else if i 0 = 1 then upToV (i 1) 3 && upToV (i 2) 3 && (i 3 == 0)
  else if i 0 = 2 ∨ i 0 = 3 then upToV (i 1) 3 && upToV (i 2) 3 && upToV (i 3) 3
  else if i 0 = 4 then upToV (i 1) 3 && upToV (i 2) 16 && (i 3 == 0)
  else if i 0 = 5 then (i 1 == 0) && (i 2 == 0) && (i 3 == 0)
  else if i 0 = 6 then upToV (i 1) 255 && (i 2 == 0) && (i 3 == 0)
  else false
section
variable {i : Nat → Int}
theorem instMay_0 (h : i 0 = 0) : instMay i = (upToV (i 1) 3 && upToV (i 2) 255 && (i 3 == 0)) := by unfold instMay; rw [if_pos h]
theorem instMay_1 (h : i 0 = 1) : instMay i = (upToV (i 1) 3 && upToV (i 2) 3 && (i 3 == 0)) := by unfold instMay; rw [if_neg (by omega), if_pos h]
theorem instMay_23 (h : i 0 = 2 ∨ i 0 = 3) : instMay i = (upToV (i 1) 3 && upToV (i 2) 3 && upToV (i 3) 3) := by unfold instMay; rw [if_neg (by omega), if_neg (by omega), if_pos h]
theorem instMay_4 (h : i 0 = 4) : instMay i = (upToV (i 1) 3 && upToV (i 2) 16 && (i 3 == 0)) := by unfold instMay; rw [if_neg (by omega), if_neg (by omega), if_neg (by omega), if_pos h]
theorem instMay_5 (h : i 0 = 5) : instMay i = ((i 1 == 0) && (i 2 == 0) && (i 3 == 0)) := by unfold instMay; rw [if_neg (by omega), if_neg (by omega), if_neg (by omega), if_neg (by omega), if_pos h]
theorem instMay_6 (h : i 0 = 6) : instMay i = (upToV (i 1) 255 && (i 2 == 0) && (i 3 == 0)) := by unfold instMay; rw [if_neg (by omega), if_neg (by omega), if_neg (by omega), if_neg (by omega), if_neg (by omega), if_pos h]
theorem instMay_no (h0 : i 0 < 0 ∨ 6 < i 0) : instMay i = false := by unfold instMay; rw [if_neg (by omega), if_neg (by omega), if_neg (by omega), if_neg (by omega), if_neg (by omega), if_neg (by omega)]
theorem inst_cases (i : Nat → Int) : (i 0 < 0 ∨ 6 < i 0) ∨ i 0 = 0 ∨ i 0 = 1 ∨ i 0 = 2 ∨ i 0 = 3 ∨ i 0 = 4 ∨ i 0 = 5 ∨ i 0 = 6 := by omega
theorem and3b {x y z : Bool} (h : (x && y && z) = true) : x = true ∧ y = true ∧ z = true := by
  simp only [Bool.and_eq_true] at h
  exact ⟨h.1.1, h.1.2, h.2⟩
/-- All four numbers of one that may be are bytes. -/
theorem instMay_bytes (h : instMay i = true) : ∀ k, k < 4 → 0 ≤ i k ∧ i k ≤ 255 := by
  have up : ∀ {x m : Int}, m ≤ 255 → upToV x m = true → 0 ≤ x ∧ x ≤ 255 := fun hm h => by have := upToV_yes h; omega
  have z : ∀ {x : Int}, (x == 0) = true → 0 ≤ x ∧ x ≤ 255 := fun h => by rw [beq_iff_eq] at h; omega
  have key : (0 ≤ i 0 ∧ i 0 ≤ 255) ∧ (0 ≤ i 1 ∧ i 1 ≤ 255) ∧ (0 ≤ i 2 ∧ i 2 ≤ 255) ∧ 0 ≤ i 3 ∧ i 3 ≤ 255 := by
    rcases inst_cases i with h0 | h0 | h0 | h0 | h0 | h0 | h0 | h0
    · rw [instMay_no h0] at h; cases h
    · rw [instMay_0 h0] at h; obtain ⟨a, b, c⟩ := and3b h; exact ⟨by omega, up (by omega) a, up (by omega) b, z c⟩
    · rw [instMay_1 h0] at h; obtain ⟨a, b, c⟩ := and3b h; exact ⟨by omega, up (by omega) a, up (by omega) b, z c⟩
    · rw [instMay_23 (.inl h0)] at h; obtain ⟨a, b, c⟩ := and3b h; exact ⟨by omega, up (by omega) a, up (by omega) b, up (by omega) c⟩
    · rw [instMay_23 (.inr h0)] at h; obtain ⟨a, b, c⟩ := and3b h; exact ⟨by omega, up (by omega) a, up (by omega) b, up (by omega) c⟩
    · rw [instMay_4 h0] at h; obtain ⟨a, b, c⟩ := and3b h; exact ⟨by omega, up (by omega) a, up (by omega) b, z c⟩
    · rw [instMay_5 h0] at h; obtain ⟨a, b, c⟩ := and3b h; exact ⟨by omega, z a, z b, z c⟩
    · rw [instMay_6 h0] at h; obtain ⟨a, b, c⟩ := and3b h; exact ⟨by omega, up (by omega) a, z b, z c⟩
  intro k hk
  have : k = 0 ∨ k = 1 ∨ k = 2 ∨ k = 3 := by omega
  rcases this with rfl | rfl | rfl | rfl
  · exact key.1
  · exact key.2.1
  · exact key.2.2.1
  · exact key.2.2.2
end

/-- A number's byte. -/
def byteOf (n : Int) : UInt8 := UInt8.ofNat n.toNat
theorem byteOf_nat {n : Int} (h0 : 0 ≤ n) (h1 : n ≤ 255) : ((byteOf n).toNat : Int) = n := by
  unfold byteOf
  rw [UInt8.toNat_ofNat']
  omega
/-- Its bytes. -/
def instT (i : Nat → Int) : List UInt8 := [byteOf (i 0), byteOf (i 1), byteOf (i 2), byteOf (i 3)]
/-- The numbers of four bytes. -/
def instOf (l : List UInt8) (k : Nat) : Int := ((l.getD k 0).toNat : Int)
def putIE (i : Nat → Int) : Int := bif instMay i then 0 else 700
def putIT (i : Nat → Int) : List UInt8 := bif instMay i then instT i else []
def getIOk (l : List UInt8) : Bool := decide (l.length = 4) && instMay (instOf l)
def getIE (l : List UInt8) : Int := bif getIOk l then 0 else 700
def getII (l : List UInt8) : Nat → Int := bif getIOk l then instOf l else fun _ => 0
theorem instT_len (i : Nat → Int) : (instT i).length = 4 := rfl
/-- What was put is got. -/
theorem instOf_instT {i : Nat → Int} (h : instMay i = true) : ∀ k, k < 4 → instOf (instT i) k = i k := by
  have hb := instMay_bytes h
  intro k hk
  obtain ⟨h0, h1⟩ := hb k hk
  have : k = 0 ∨ k = 1 ∨ k = 2 ∨ k = 3 := by omega
  rcases this with rfl | rfl | rfl | rfl
  · exact byteOf_nat h0 h1
  · exact byteOf_nat h0 h1
  · exact byteOf_nat h0 h1
  · exact byteOf_nat h0 h1
theorem instMay_congr {i j : Nat → Int} (h : ∀ k, k < 4 → i k = j k) : instMay i = instMay j := by
  unfold instMay
  rw [h 0 (by omega), h 1 (by omega), h 2 (by omega), h 3 (by omega)]
theorem byteOf_instOf (l : List UInt8) (k : Nat) : byteOf (instOf l k) = l.getD k 0 := by
  unfold byteOf instOf
  rw [Int.toNat_natCast]
  exact UInt8.ofNat_toNat
theorem instT_instOf {l : List UInt8} (h : l.length = 4) : instT (instOf l) = l := by
  unfold instT
  rw [byteOf_instOf, byteOf_instOf, byteOf_instOf, byteOf_instOf]
  match l, h with
  | [a, b, c, d], _ => rfl
/-- Unlike ones have unlike bytes. -/
theorem instT_inj {i j : Nat → Int} (hi : instMay i = true) (hj : instMay j = true) (h : instT i = instT j) : ∀ k, k < 4 → i k = j k := fun k hk => by
  rw [← instOf_instT hi k hk, ← instOf_instT hj k hk, h]

end Go.Proofs.Ytlaanhkmoficbaa
