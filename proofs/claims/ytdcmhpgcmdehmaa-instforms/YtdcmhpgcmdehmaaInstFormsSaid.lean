/-
  The law InstForms, if package inst's functions keep their statements.
-/
import Derived.Test.YtdcmhpgcmdehmaaInstStat
import Derived.Test.YtdcmhpgcmdehmaaPlain
import Derived.Deep.Cut
namespace Go.Proofs.Ytdcmhpgcmdehmaa
open Go.RowKit
set_option linter.unusedSimpArgs false
set_option linter.unusedVariables false

/-- The numbers of the sixteen that may not be, one behind another. -/
def badRows (r : Int) : List Int := [-(1 + r), 0, 0, 0, 6 + (1 + r), 0, 0, 0, 0, 4, 0, 0, 0, -(1 + r), 0, 0, 0, 0, 255 + (1 + r), 0, 0, 0, 0, 1, 1, 0, 4, 0, 2, 0, 4, 0, 2, 0, 0, 4, 3, 4, 0, 0, 4, 0, 16 + (1 + r), 0, 4, 0, 0, 1, 5, 0, 1, 0, 6, 255 + (1 + r), 0, 0, 6, 0, 1, 0, 1, 0, 0, 1 + r]
def badI (r : Int) (c k : Nat) : Int := (badRows r).getD (c * 4 + k) 0
theorem badRows_at (r : Int) {j : Nat} (h : j < 64) : ((badRows r).map (Value.int .i64))[j]? = some (.int .i64 ((badRows r).getD j 0)) := by
  have : j < (badRows r).length := h
  simp [this]
theorem bad_may (r : Int) (r0 : 0 ≤ r) (c : Nat) (h : c < 16) : instMay (badI r c) = false := by
  have : c = 0 ∨ c = 1 ∨ c = 2 ∨ c = 3 ∨ c = 4 ∨ c = 5 ∨ c = 6 ∨ c = 7 ∨ c = 8 ∨ c = 9 ∨ c = 10 ∨ c = 11 ∨ c = 12 ∨ c = 13 ∨ c = 14 ∨ c = 15 := by omega
  have up : ∀ {x m : Int}, m < x → upToV x m = false := fun h => upToV_not (.inr h)
  have dn : ∀ {x m : Int}, x < 0 → upToV x m = false := fun h => upToV_not (.inl h)
  rcases this with rfl | rfl | rfl | rfl | rfl | rfl | rfl | rfl | rfl | rfl | rfl | rfl | rfl | rfl | rfl | rfl
  · exact instMay_no (.inl (by show -(1 + r) < 0; omega))
  · exact instMay_no (.inr (by show 6 < 6 + (1 + r); omega))
  · rfl
  · rw [instMay_0 (i := badI r 3) rfl, dn (show badI r 3 1 < 0 by show -(1 + r) < 0; omega)]; rfl
  · rw [instMay_0 (i := badI r 4) rfl, up (show 255 < badI r 4 2 by show 255 < 255 + (1 + r); omega), Bool.and_false]; rfl
  · rfl
  · rfl
  · rfl
  · rfl
  · rfl
  · rw [instMay_4 (i := badI r 10) rfl, up (show 16 < badI r 10 2 by show 16 < 16 + (1 + r); omega), Bool.and_false]; rfl
  · rfl
  · rfl
  · rw [instMay_6 (i := badI r 13) rfl, up (show 255 < badI r 13 1 by show 255 < 255 + (1 + r); omega)]; rfl
  · rfl
  · rw [instMay_1 (i := badI r 15) rfl, show (badI r 15 3 == 0) = false by rw [beq_eq_false_iff_ne]; show 1 + r ≠ 0; omega, Bool.and_false]

/-- The texts that are none. -/
def badT : Nat → List UInt8
  | 0 => []
  | 1 => [0, 0, 0]
  | 2 => [0, 0, 0, 0, 0]
  | 3 => [7, 0, 0, 0]
  | 4 => [0, 4, 0, 0]
  | 5 => [0, 0, 0, 1]
  | 6 => [2, 0, 4, 0]
  | _ => [4, 0, 17, 0]
theorem badT_not (p : Nat) (h : p < 8) : getIOk (badT p) = false := by
  have : p = 0 ∨ p = 1 ∨ p = 2 ∨ p = 3 ∨ p = 4 ∨ p = 5 ∨ p = 6 ∨ p = 7 := by omega
  rcases this with rfl | rfl | rfl | rfl | rfl | rfl | rfl | rfl <;> decide
theorem badT_at (p : Nat) (h : p < 8) : [textS [], textS [0, 0, 0], textS [0, 0, 0, 0, 0], textS [7, 0, 0, 0], textS [0, 4, 0, 0], textS [0, 0, 0, 1], textS [2, 0, 4, 0], textS [4, 0, 17, 0]][p]? = some (textS (badT p)) := by
  have : p = 0 ∨ p = 1 ∨ p = 2 ∨ p = 3 ∨ p = 4 ∨ p = 5 ∨ p = 6 ∨ p = 7 := by omega
  rcases this with rfl | rfl | rfl | rfl | rfl | rfl | rfl | rfl <;> rfl

set_option maxRecDepth 100000 in
set_option maxHeartbeats 4000000 in
theorem instForms_at (hM : MayIC) (hP : PutIC) (hG : GetIC) (a0 a1 r : Int) (c p : Nat) (w : World) (hd : bits .and .i64 a1 1023 = r) (r0 : 0 ≤ r) (r1 : r ≤ 1023) (hc : bits .and .i64 a0 15 = c) (hc4 : c < 16) (hp : bits .and .i64 (a0 / 16) 7 = p) (hp8 : p < 8) :
    Calls Try.prog 4 #[.int .i64 a0, .int .i64 a1] w fun e w' => e = .returned (.bool true) ∧ Below w.heap.size w w' := by
  have C0 := hide fun w => awake7_any hM hP hG w
  have hbad := bad_may r r0 c hc4
  have htxt := badT_not p hp8
  have A1 := hP (badI r c)
  have A2 := hG (badT p)
  have A3 := hM (badI r c)
  unfold putIT putIE at A1
  rw [hbad] at A1 A3
  unfold getII getIE at A2
  rw [htxt] at A2
  simp only [cond_false] at A1 A2
  have C1 := hide A1
  have C2 := hide A2
  have C3 := hide A3
  clear A1 A2 A3 hM hP hG hbad htxt
  have i1 : (c : Int) < 16 := by omega
  have i2 : (p : Int) < 8 := by omega
  have v0 : IntKind.i64.wrap (-(1 + r)) = -(1 + r) := IntWalk.i64_in _ ⟨by omega, by omega⟩
  go_enter Try.func4, Try.ntmps4
  go_wp2_with fail
  refine (C0.out _).mono ?_
  rintro e w1 ⟨rfl, b1⟩
  have s1 := b1.size
  clear C0
  go_upto_region 5 with (fail)
  have B1 : Blk (w1.alloc (.cells #[.int .i64 (-(1 + r)), .int .i64 0, .int .i64 0, .int .i64 0, .int .i64 (6 + (1 + r)), .int .i64 0, .int .i64 0, .int .i64 0, .int .i64 0, .int .i64 4, .int .i64 0, .int .i64 0, .int .i64 0, .int .i64 (-(1 + r)), .int .i64 0, .int .i64 0, .int .i64 0, .int .i64 0, .int .i64 (255 + (1 + r)), .int .i64 0, .int .i64 0, .int .i64 0, .int .i64 0, .int .i64 1, .int .i64 1, .int .i64 0, .int .i64 4, .int .i64 0, .int .i64 2, .int .i64 0, .int .i64 4, .int .i64 0, .int .i64 2, .int .i64 0, .int .i64 0, .int .i64 4, .int .i64 3, .int .i64 4, .int .i64 0, .int .i64 0, .int .i64 4, .int .i64 0, .int .i64 (16 + (1 + r)), .int .i64 0, .int .i64 4, .int .i64 0, .int .i64 0, .int .i64 1, .int .i64 5, .int .i64 0, .int .i64 1, .int .i64 0, .int .i64 6, .int .i64 (255 + (1 + r)), .int .i64 0, .int .i64 0, .int .i64 6, .int .i64 0, .int .i64 1, .int .i64 0, .int .i64 1, .int .i64 0, .int .i64 0, .int .i64 (1 + r)] 23)) w1.heap.size ((badRows r).map (Value.int .i64)) := blk_new w1 ((badRows r).map (Value.int .i64)) 23
  have b2 := b1.alloc s1 (.cells #[.int .i64 (-(1 + r)), .int .i64 0, .int .i64 0, .int .i64 0, .int .i64 (6 + (1 + r)), .int .i64 0, .int .i64 0, .int .i64 0, .int .i64 0, .int .i64 4, .int .i64 0, .int .i64 0, .int .i64 0, .int .i64 (-(1 + r)), .int .i64 0, .int .i64 0, .int .i64 0, .int .i64 0, .int .i64 (255 + (1 + r)), .int .i64 0, .int .i64 0, .int .i64 0, .int .i64 0, .int .i64 1, .int .i64 1, .int .i64 0, .int .i64 4, .int .i64 0, .int .i64 2, .int .i64 0, .int .i64 4, .int .i64 0, .int .i64 2, .int .i64 0, .int .i64 0, .int .i64 4, .int .i64 3, .int .i64 4, .int .i64 0, .int .i64 0, .int .i64 4, .int .i64 0, .int .i64 (16 + (1 + r)), .int .i64 0, .int .i64 4, .int .i64 0, .int .i64 0, .int .i64 1, .int .i64 5, .int .i64 0, .int .i64 1, .int .i64 0, .int .i64 6, .int .i64 (255 + (1 + r)), .int .i64 0, .int .i64 0, .int .i64 6, .int .i64 0, .int .i64 1, .int .i64 0, .int .i64 1, .int .i64 0, .int .i64 0, .int .i64 (1 + r)] 23)
  generalize w1.alloc (.cells #[.int .i64 (-(1 + r)), .int .i64 0, .int .i64 0, .int .i64 0, .int .i64 (6 + (1 + r)), .int .i64 0, .int .i64 0, .int .i64 0, .int .i64 0, .int .i64 4, .int .i64 0, .int .i64 0, .int .i64 0, .int .i64 (-(1 + r)), .int .i64 0, .int .i64 0, .int .i64 0, .int .i64 0, .int .i64 (255 + (1 + r)), .int .i64 0, .int .i64 0, .int .i64 0, .int .i64 0, .int .i64 1, .int .i64 1, .int .i64 0, .int .i64 4, .int .i64 0, .int .i64 2, .int .i64 0, .int .i64 4, .int .i64 0, .int .i64 2, .int .i64 0, .int .i64 0, .int .i64 4, .int .i64 3, .int .i64 4, .int .i64 0, .int .i64 0, .int .i64 4, .int .i64 0, .int .i64 (16 + (1 + r)), .int .i64 0, .int .i64 4, .int .i64 0, .int .i64 0, .int .i64 1, .int .i64 5, .int .i64 0, .int .i64 1, .int .i64 0, .int .i64 6, .int .i64 (255 + (1 + r)), .int .i64 0, .int .i64 0, .int .i64 6, .int .i64 0, .int .i64 1, .int .i64 0, .int .i64 1, .int .i64 0, .int .i64 0, .int .i64 (1 + r)] 23) = W at *
  have s2 := b2.size
  have c0 : W.cell? ⟨w1.heap.size, c * 4, none⟩ = some (.int .i64 (badI r c 0)) := B1.cell (c * 4) _ (badRows_at r (by omega))
  have c1 : W.cell? ⟨w1.heap.size, c * 4 + 1, none⟩ = some (.int .i64 (badI r c 1)) := B1.cell (c * 4 + 1) _ (badRows_at r (by omega))
  have c2 : W.cell? ⟨w1.heap.size, c * 4 + 2, none⟩ = some (.int .i64 (badI r c 2)) := B1.cell (c * 4 + 2) _ (badRows_at r (by omega))
  have c3 : W.cell? ⟨w1.heap.size, c * 4 + 3, none⟩ = some (.int .i64 (badI r c 3)) := B1.cell (c * 4 + 3) _ (badRows_at r (by omega))
  clear b1 B1 v0
  generalize badI r c = q at *
  unfold quadA at C1 C3
  unfold textS at C1
  go_wp2_with fail
  refine (C1.out _).mono ?_
  rintro e w2 ⟨rfl, hb⟩
  have b3 : Below w.heap.size w w2 := Below.on (b2.alloc s2 _) hb
  have s3 := b3.size
  have B7 := (blk_new W (quadL q) 23).on hb
  clear hb C1 b2 c0 c1 c2 c3
  go_upto_region 8 with (fail)
  have B8 : Blk (w2.alloc (.cells #[.string ⟨#[]⟩, .string ⟨#[0, 0, 0]⟩, .string ⟨#[0, 0, 0, 0, 0]⟩, .string ⟨#[7, 0, 0, 0]⟩, .string ⟨#[0, 4, 0, 0]⟩, .string ⟨#[0, 0, 0, 1]⟩, .string ⟨#[2, 0, 4, 0]⟩, .string ⟨#[4, 0, 17, 0]⟩] 9)) w2.heap.size [textS [], textS [0, 0, 0], textS [0, 0, 0, 0, 0], textS [7, 0, 0, 0], textS [0, 4, 0, 0], textS [0, 0, 0, 1], textS [2, 0, 4, 0], textS [4, 0, 17, 0]] := blk_new w2 [textS [], textS [0, 0, 0], textS [0, 0, 0, 0, 0], textS [7, 0, 0, 0], textS [0, 4, 0, 0], textS [0, 0, 0, 1], textS [2, 0, 4, 0], textS [4, 0, 17, 0]] 9
  have b4 := b3.alloc s3 (.cells #[.string ⟨#[]⟩, .string ⟨#[0, 0, 0]⟩, .string ⟨#[0, 0, 0, 0, 0]⟩, .string ⟨#[7, 0, 0, 0]⟩, .string ⟨#[0, 4, 0, 0]⟩, .string ⟨#[0, 0, 0, 1]⟩, .string ⟨#[2, 0, 4, 0]⟩, .string ⟨#[4, 0, 17, 0]⟩] 9)
  replace B7 := B7.alloc (.cells #[.string ⟨#[]⟩, .string ⟨#[0, 0, 0]⟩, .string ⟨#[0, 0, 0, 0, 0]⟩, .string ⟨#[7, 0, 0, 0]⟩, .string ⟨#[0, 4, 0, 0]⟩, .string ⟨#[0, 0, 0, 1]⟩, .string ⟨#[2, 0, 4, 0]⟩, .string ⟨#[4, 0, 17, 0]⟩] 9)
  have c0 := B8.cell p _ (badT_at p hp8)
  generalize w2.alloc (.cells #[.string ⟨#[]⟩, .string ⟨#[0, 0, 0]⟩, .string ⟨#[0, 0, 0, 0, 0]⟩, .string ⟨#[7, 0, 0, 0]⟩, .string ⟨#[0, 4, 0, 0]⟩, .string ⟨#[0, 0, 0, 1]⟩, .string ⟨#[2, 0, 4, 0]⟩, .string ⟨#[4, 0, 17, 0]⟩] 9) = W8 at *
  generalize badT p = t at *
  unfold textS at c0 C2
  unfold quadA at C2
  clear B8 b3 s3
  go_wp2_with fail
  refine (C2.out _).mono ?_
  rintro e w3 ⟨rfl, hb⟩
  have b5 : Below w.heap.size w w3 := Below.on b4 hb
  have s5 := b5.size
  replace B7 := B7.on hb
  have y7 := B7.lt
  clear hb C2 b4 c0 hd hc hp
  obtain ⟨d0, d1, d2, d3⟩ := B7.cells4
  go_wp2_with fail
  refine (C3.out _).mono ?_
  rintro e w4 ⟨rfl, hb⟩
  have b6 : Below w.heap.size w w4 := Below.on (b5.alloc s5 _) hb
  clear hb C3 b5 d0 d1 d2 d3
  go_wp2_with (go_at_call 11; refine (num_any _ _).mono ?_; rintro e w' ⟨rfl, rfl⟩)
  go_ret
  exact ⟨rfl, b6⟩

theorem mask7 (n : Int) : bits .and .i64 n 7 = n % 8 := mask 3 (by decide) n
theorem instForms_said (hM : MayIC) (hP : PutIC) (hG : GetIC) (a0 a1 : Int) (w : World) :
    Calls Try.prog 4 #[.int .i64 a0, .int .i64 a1] w fun e w' => e = .returned (.bool true) ∧ Below w.heap.size w w' :=
  instForms_at hM hP hG a0 a1 (a1 % 1024) (a0 % 16).toNat (a0 / 16 % 8).toNat w (mask1023 _) (by omega) (by omega) (by rw [mask15]; omega) (by omega) (by rw [mask7]; omega) (by omega)

end Go.Proofs.Ytdcmhpgcmdehmaa
