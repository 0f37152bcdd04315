/-
  Plain facts on bits of small integers: no Go in sight. The low bits of an int are its remainder; on the four labels 'or' and 'and not' are a lattice's join and order.
-/
import Derived.WalkKit
namespace Go.Proofs.Ytmjclmjnkmhciaa
open Go.RowKit

theorem mask (k : Nat) (hk : k < 63) (n : Int) : bits .and .i64 n ((2 ^ k - 1 : Nat) : Int) = n % ((2 ^ k : Nat) : Int) := by
  have hp : (2 ^ k : Nat) ≤ 2 ^ 62 := Nat.pow_le_pow_right (by decide) (by omega)
  have hp0 : 0 < (2 ^ k : Nat) := Nat.pow_pos (by decide)
  have h2 : (BitVec.ofInt 64 ((2 ^ k - 1 : Nat) : Int)).toNat = 2 ^ k - 1 := by
    rw [BitVec.ofInt_natCast, BitVec.toNat_ofNat]; exact Nat.mod_eq_of_lt (by omega)
  have h1 : ((BitVec.ofInt 64 n).toNat : Int) = n % (2 ^ 64 : Nat) := by
    rw [BitVec.toNat_ofInt]; exact Int.toNat_of_nonneg (Int.emod_nonneg _ (by decide))
  show IntKind.i64.wrap ((BitVec.ofInt 64 n &&& BitVec.ofInt 64 ((2 ^ k - 1 : Nat) : Int)).toNat : Int) = _
  rw [BitVec.toNat_and, h2, Nat.and_two_pow_sub_one_eq_mod]
  have hd : ((2 ^ k : Nat) : Int) ∣ ((2 ^ 64 : Nat) : Int) := Int.natCast_dvd_natCast.mpr (Nat.pow_dvd_pow 2 (by omega))
  have e : (((BitVec.ofInt 64 n).toNat % 2 ^ k : Nat) : Int) = n % ((2 ^ k : Nat) : Int) := by
    rw [Int.natCast_emod, h1]
    exact Int.emod_emod_of_dvd n hd
  rw [e]
  have b0 := Int.emod_nonneg n (b := ((2 ^ k : Nat) : Int)) (by omega)
  have b1 := Int.emod_lt_of_pos n (b := ((2 ^ k : Nat) : Int)) (by omega)
  have b2 : ((2 ^ k : Nat) : Int) ≤ 4611686018427387904 := by
    have : ((2 ^ k : Nat) : Int) ≤ ((2 ^ 62 : Nat) : Int) := Int.ofNat_le.mpr hp
    simpa using this
  simp only [IntKind.wrap, IntKind.bits, IntKind.signed]
  generalize n % ((2 ^ k : Nat) : Int) = r at *
  generalize ((2 ^ k : Nat) : Int) = q at *
  simp
  omega

theorem mask1 (n : Int) : bits .and .i64 n 1 = n % 2 := mask 1 (by decide) n
theorem mask3 (n : Int) : bits .and .i64 n 3 = n % 4 := mask 2 (by decide) n
theorem mask15 (n : Int) : bits .and .i64 n 15 = n % 16 := mask 4 (by decide) n
theorem mask127 (n : Int) : bits .and .i64 n 127 = n % 128 := mask 7 (by decide) n
theorem mask255 (n : Int) : bits .and .i64 n 255 = n % 256 := mask 8 (by decide) n
theorem mask65535 (n : Int) : bits .and .i64 n 65535 = n % 65536 := mask 16 (by decide) n
theorem mask1023 (n : Int) : bits .and .i64 n 1023 = n % 1024 := mask 10 (by decide) n

/-- One of the four labels. -/
def Lab (x : Int) : Prop := 0 ≤ x ∧ x < 4
theorem lab_cases {x : Int} (h : Lab x) : x = 0 ∨ x = 1 ∨ x = 2 ∨ x = 3 := by
  obtain ⟨a, b⟩ := h
  omega
theorem lab_mod (n : Int) : Lab (n % 4) := ⟨by omega, by omega⟩
theorem lab_or {x y : Int} (hx : Lab x) (hy : Lab y) : Lab (bits .or .i64 x y) := by
  rcases lab_cases hx with rfl | rfl | rfl | rfl <;> rcases lab_cases hy with rfl | rfl | rfl | rfl <;> exact ⟨by decide, by decide⟩

/-- The join goes either way round. -/
theorem or_comm {x y : Int} (hx : Lab x) (hy : Lab y) : (bits .or .i64 x y == bits .or .i64 y x) = true := by
  rcases lab_cases hx with rfl | rfl | rfl | rfl <;> rcases lab_cases hy with rfl | rfl | rfl | rfl <;> decide
/-- One is below its join with another one. -/
theorem below_or {x y : Int} (hx : Lab x) (hy : Lab y) : (bits .andNot .i64 x (bits .or .i64 x y) == 0) = true := by
  rcases lab_cases hx with rfl | rfl | rfl | rfl <;> rcases lab_cases hy with rfl | rfl | rfl | rfl <;> decide
/-- The join is the least one above both. -/
theorem or_least {x y z : Int} (hx : Lab x) (hy : Lab y) (hz : Lab z) : (bits .andNot .i64 (bits .or .i64 x y) z == 0) = ((bits .andNot .i64 x z == 0) && (bits .andNot .i64 y z == 0)) := by
  rcases lab_cases hx with rfl | rfl | rfl | rfl <;> rcases lab_cases hy with rfl | rfl | rfl | rfl <;> rcases lab_cases hz with rfl | rfl | rfl | rfl <;> decide
/-- Two that are below one another are one. -/
theorem below_antisymm {x y : Int} (hx : Lab x) (hy : Lab y) : ((bits .andNot .i64 x y == 0) && (bits .andNot .i64 y x == 0)) = (x == y) := by
  rcases lab_cases hx with rfl | rfl | rfl | rfl <;> rcases lab_cases hy with rfl | rfl | rfl | rfl <;> decide
theorem or_assoc {x y z : Int} (hx : Lab x) (hy : Lab y) (hz : Lab z) : (bits .or .i64 (bits .or .i64 x y) z == bits .or .i64 x (bits .or .i64 y z)) = true := by
  rcases lab_cases hx with rfl | rfl | rfl | rfl <;> rcases lab_cases hy with rfl | rfl | rfl | rfl <;> rcases lab_cases hz with rfl | rfl | rfl | rfl <;> decide
theorem or_self {x : Int} (hx : Lab x) : (bits .or .i64 x x == x) = true := by
  rcases lab_cases hx with rfl | rfl | rfl | rfl <;> decide
theorem zero_below {x : Int} (hx : Lab x) : (bits .andNot .i64 0 x == 0) = true := by
  rcases lab_cases hx with rfl | rfl | rfl | rfl <;> decide
theorem below_three {x : Int} (hx : Lab x) : (bits .andNot .i64 x 3 == 0) = true := by
  rcases lab_cases hx with rfl | rfl | rfl | rfl <;> decide
theorem below_self {x : Int} (hx : Lab x) : (bits .andNot .i64 x x == 0) = true := by
  rcases lab_cases hx with rfl | rfl | rfl | rfl <;> decide
/-- 'a and not b is nothing' and 'a or b is b' say the same. -/
theorem under_iff {x y : Int} (hx : Lab x) (hy : Lab y) : (bits .andNot .i64 x y == 0) = (bits .or .i64 x y == y) := by
  rcases lab_cases hx with rfl | rfl | rfl | rfl <;> rcases lab_cases hy with rfl | rfl | rfl | rfl <;> decide

theorem ofInt_wrap (v : BitVec 64) : BitVec.ofInt 64 (IntKind.i64.wrap (v.toNat : Int)) = v := by
  have h := v.isLt
  apply BitVec.eq_of_toNat_eq
  rw [BitVec.toNat_ofInt]
  simp only [IntKind.wrap, IntKind.bits, IntKind.signed]
  simp
  omega
theorem wrap_small (j : Int) (h0 : 0 ≤ j) (h1 : j < 9223372036854775808) : IntKind.i64.wrap ((BitVec.ofInt 64 j).toNat : Int) = j := by
  rw [BitVec.toNat_ofInt]
  simp only [IntKind.wrap, IntKind.bits, IntKind.signed]
  simp
  omega
/-- What is in both adds nothing to either. -/
theorem or_and (a j : Int) (h0 : 0 ≤ j) (h1 : j < 9223372036854775808) : bits .or .i64 j (bits .and .i64 a j) = j := by
  show IntKind.i64.wrap ((BitVec.ofInt 64 j ||| BitVec.ofInt 64 (IntKind.i64.wrap ((BitVec.ofInt 64 a &&& BitVec.ofInt 64 j).toNat : Int))).toNat : Int) = j
  rw [ofInt_wrap]
  have e : BitVec.ofInt 64 j ||| BitVec.ofInt 64 a &&& BitVec.ofInt 64 j = BitVec.ofInt 64 j := by
    ext i
    simp
  rw [e]
  exact wrap_small j h0 h1
/-- What is in a label too is one. -/
theorem lab_and (a : Int) {j : Int} (h : Lab j) : Lab (bits .and .i64 a j) := by
  obtain ⟨h0, h1⟩ := h
  show Lab (IntKind.i64.wrap ((BitVec.ofInt 64 a &&& BitVec.ofInt 64 j).toNat : Int))
  have hj : (BitVec.ofInt 64 j).toNat < 4 := by
    rw [BitVec.toNat_ofInt]
    omega
  have hle : (BitVec.ofInt 64 a &&& BitVec.ofInt 64 j).toNat ≤ (BitVec.ofInt 64 j).toNat := by
    rw [BitVec.toNat_and]
    exact Nat.and_le_right
  generalize (BitVec.ofInt 64 a &&& BitVec.ofInt 64 j).toNat = x at *
  simp only [IntKind.wrap, IntKind.bits, IntKind.signed, Lab]
  simp
  omega

/-- A place picked by a remainder, as the walk spells it. -/
theorem pick_at (x D : Int) (h0 : 0 < D) (h1 : D ≤ 4611686018427387904) : ∃ m : Nat, (m : Int) < D ∧ wrap64 ((IntKind.u64.wrap x).tmod D) = m := by
  have hx : 0 ≤ IntKind.u64.wrap x := by rw [IntKind.wrap_u64]; omega
  have e : (IntKind.u64.wrap x).tmod D = IntKind.u64.wrap x % D := Int.tmod_eq_emod_of_nonneg hx
  have b0 := Int.emod_nonneg (IntKind.u64.wrap x) (b := D) (by omega)
  have b1 := Int.emod_lt_of_pos (IntKind.u64.wrap x) h0
  refine ⟨(IntKind.u64.wrap x % D).toNat, by omega, ?_⟩
  rw [e, IntWalk.wrap64_in _ ⟨by omega, by omega⟩]
  omega

end Go.Proofs.Ytmjclmjnkmhciaa
