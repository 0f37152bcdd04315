/-
  The law InstNames, if package inst's functions keep their statements.
-/
import Derived.Test.YtdcmhpgcmdehmaaInstStat
import Derived.Test.YtdcmhpgcmdehmaaPlain
import Derived.Deep.Cut
namespace Go.Proofs.Ytdcmhpgcmdehmaa
open Go.RowKit
set_option linter.unusedSimpArgs false
set_option linter.unusedVariables false

/-- What each code names: a, b, c. -/
def names : Nat → List UInt8
  | 0 => [97, 98]
  | 1 => [97, 98]
  | 2 => [97, 98, 99]
  | 3 => [97, 98, 99]
  | 4 => [97, 98]
  | 5 => []
  | _ => [97]
theorem names_at (c : Nat) (h : c < 7) : [textS [97, 98], textS [97, 98], textS [97, 98, 99], textS [97, 98, 99], textS [97, 98], textS [], textS [97]][c]? = some (textS (names c)) := by
  have : c = 0 ∨ c = 1 ∨ c = 2 ∨ c = 3 ∨ c = 4 ∨ c = 5 ∨ c = 6 := by omega
  rcases this with rfl | rfl | rfl | rfl | rfl | rfl | rfl <;> rfl
theorem names_byte (c : Nat) (h : c < 7) (k : Nat) (hk : k < (names c).length) : 97 ≤ instOf (names c) k ∧ instOf (names c) k ≤ 99 := by
  have : c = 0 ∨ c = 1 ∨ c = 2 ∨ c = 3 ∨ c = 4 ∨ c = 5 ∨ c = 6 := by omega
  have hk3 : k = 0 ∨ k = 1 ∨ k = 2 := by
    rcases this with rfl | rfl | rfl | rfl | rfl | rfl | rfl <;> simp [names] at hk <;> omega
  rcases this with rfl | rfl | rfl | rfl | rfl | rfl | rfl <;> rcases hk3 with rfl | rfl | rfl <;> first | (exact absurd hk (by decide)) | decide
theorem names_len (c : Nat) (h : c < 7) : (names c).length ≤ 3 := by
  have : c = 0 ∨ c = 1 ∨ c = 2 ∨ c = 3 ∨ c = 4 ∨ c = 5 ∨ c = 6 := by omega
  rcases this with rfl | rfl | rfl | rfl | rfl | rfl | rfl <;> decide
/-- Does one of the first k name f? -/
def wantTo (l : List UInt8) (f : Nat) : Nat → Bool
  | 0 => false
  | k + 1 => wantTo l f k || (instOf l k - 97 == (f : Int))
/-- The instruction with a 3 in one place. -/
def threeI (c f : Nat) : Nat → Int := updQ (quad c 0 0 0) (f + 1) 3
theorem three_may (c f : Nat) (hc : c < 7) (hf : f < 3) : instMay (threeI c f) = wantTo (names c) f (names c).length := by
  have h1 : c = 0 ∨ c = 1 ∨ c = 2 ∨ c = 3 ∨ c = 4 ∨ c = 5 ∨ c = 6 := by omega
  have h2 : f = 0 ∨ f = 1 ∨ f = 2 := by omega
  rcases h1 with rfl | rfl | rfl | rfl | rfl | rfl | rfl <;> rcases h2 with rfl | rfl | rfl <;> decide
theorem plain_may (c : Nat) (hc : c < 7) : instMay (quad c 0 0 0) = true := by
  have h1 : c = 0 ∨ c = 1 ∨ c = 2 ∨ c = 3 ∨ c = 4 ∨ c = 5 ∨ c = 6 := by omega
  rcases h1 with rfl | rfl | rfl | rfl | rfl | rfl | rfl <;> decide

set_option maxRecDepth 100000 in
set_option maxHeartbeats 4000000 in
theorem instNames_at (hM : MayIC) (hP : PutIC) (hG : GetIC) (a0 a1 : Int) (c f : Nat) (w : World) (hc : wrap64 ((IntKind.u64.wrap a0).tmod 7) = c) (hc7 : c < 7) (hf : wrap64 ((IntKind.u64.wrap a1).tmod 3) = f) (hf3 : f < 3) :
    Calls Try.prog 6 #[.int .i64 a0, .int .i64 a1] w fun e w' => e = .returned (.bool true) ∧ Below w.heap.size w w' := by
  have C0 := hide fun w => awake7_any hM hP hG w
  have C1 := hide (hM (threeI c f))
  have C2 := hide (hM (quad c 0 0 0))
  have HT := hide (three_may c f hc7 hf3)
  rw [HT.out] at C1
  rw [plain_may c hc7] at C2
  clear hM hP hG HT
  have i1 : (c : Int) < 7 := by omega
  have HN := hide (names_at c hc7)
  have HB := hide (names_byte c hc7)
  have HL := hide (names_len c hc7)
  go_enter Try.func6, Try.ntmps6
  go_wp2_with fail
  refine (C0.out _).mono ?_
  rintro e w1 ⟨rfl, b1⟩
  have s1 := b1.size
  clear C0
  go_upto_region 7 with (fail)
  simp only [hc, hf]
  have B1 : Blk (w1.alloc (.cells #[.int .i64 c, .int .i64 0, .int .i64 0, .int .i64 0] 23)) w1.heap.size (quadL (quad c 0 0 0)) := blk_new w1 (quadL (quad c 0 0 0)) 23
  have b2 := b1.alloc s1 (.cells #[.int .i64 c, .int .i64 0, .int .i64 0, .int .i64 0] 23)
  have z2 : (w1.alloc (.cells #[.int .i64 c, .int .i64 0, .int .i64 0, .int .i64 0] 23)).heap.size = w1.heap.size + 1 := World.size_alloc _ _
  generalize w1.alloc (.cells #[.int .i64 c, .int .i64 0, .int .i64 0, .int .i64 0] 23) = W at *
  clear hc hf b1
  have s2 := b2.size
  obtain ⟨⟨c0, c1, c2, c3⟩, f0, f1, f2, f3⟩ := B1.four
  have hf' : f = 0 ∨ f = 1 ∨ f = 2 := by omega
  rcases hf' with rfl | rfl | rfl
  · go_upto_region 12 with (fail)
    have B2 : Blk ((W.setCell ⟨w1.heap.size, 1, none⟩ (.int .i64 3)).alloc (.cells #[.string ⟨#[97, 98]⟩, .string ⟨#[97, 98]⟩, .string ⟨#[97, 98, 99]⟩, .string ⟨#[97, 98, 99]⟩, .string ⟨#[97, 98]⟩, .string ⟨#[]⟩, .string ⟨#[97]⟩] 9)) w1.heap.size (quadL (threeI c 0)) := (B1.set 1 (.int .i64 3)).alloc (.cells #[.string ⟨#[97, 98]⟩, .string ⟨#[97, 98]⟩, .string ⟨#[97, 98, 99]⟩, .string ⟨#[97, 98, 99]⟩, .string ⟨#[97, 98]⟩, .string ⟨#[]⟩, .string ⟨#[97]⟩] 9)
    have B8 : Blk ((W.setCell ⟨w1.heap.size, 1, none⟩ (.int .i64 3)).alloc (.cells #[.string ⟨#[97, 98]⟩, .string ⟨#[97, 98]⟩, .string ⟨#[97, 98, 99]⟩, .string ⟨#[97, 98, 99]⟩, .string ⟨#[97, 98]⟩, .string ⟨#[]⟩, .string ⟨#[97]⟩] 9)) (w1.heap.size + 1) [textS [97, 98], textS [97, 98], textS [97, 98, 99], textS [97, 98, 99], textS [97, 98], textS [], textS [97]] := by
      have := blk_new (W.setCell ⟨w1.heap.size, 1, none⟩ (.int .i64 3)) [textS [97, 98], textS [97, 98], textS [97, 98, 99], textS [97, 98, 99], textS [97, 98], textS [], textS [97]] 9
      rw [World.size_setCell, z2] at this
      exact this
    have b3 : Below w.heap.size w ((W.setCell ⟨w1.heap.size, 1, none⟩ (.int .i64 3)).alloc (.cells #[.string ⟨#[97, 98]⟩, .string ⟨#[97, 98]⟩, .string ⟨#[97, 98, 99]⟩, .string ⟨#[97, 98, 99]⟩, .string ⟨#[97, 98]⟩, .string ⟨#[]⟩, .string ⟨#[97]⟩] 9)) := (b2.setCell (by simp; omega) _).alloc (by rw [World.size_setCell]; exact s2) _
    have cn := B8.cell c _ HN.out
    generalize (W.setCell ⟨w1.heap.size, 1, none⟩ (.int .i64 3)).alloc (.cells #[.string ⟨#[97, 98]⟩, .string ⟨#[97, 98]⟩, .string ⟨#[97, 98, 99]⟩, .string ⟨#[97, 98, 99]⟩, .string ⟨#[97, 98]⟩, .string ⟨#[]⟩, .string ⟨#[97]⟩] 9) = V at *
    unfold textS at cn
    clear B1 B8 b2 s2 HN c0 c1 c2 c3 f0 f1 f2 f3
    have sz := text_size (names c)
    go_wp2_with fail
    go_loopw [9, 10] (fun t i wr => ∃ k : Nat, k ≤ (names c).length ∧ t = .bool (wantTo (names c) 0 k) ∧ i = .int .i64 k ∧ wr = V) (fun _ i _ => (names c).length - (intOf i).toNat)
    case atStart => exact ⟨0, Nat.zero_le _, rfl, rfl, rfl⟩
    case round =>
      obtain ⟨k, hk, rfl, rfl, rfl⟩ := hrel
      by_cases hlt : k < (names c).length
      · have i2 : (k : Int) < ((names c).length : Int) := by omega
        have hk3 : k < 3 := by have := HL.out; omega
        cases hw : wantTo (names c) 0 k
        · have tn := text_num (names c) (k := k) (by rw [sz]; exact hlt)
          obtain ⟨n0, n1⟩ := HB.out k hlt
          go_wp2
          go_roundw
          case rel => exact ⟨k + 1, by omega, by rw [wantTo, hw]; rfl, by go_num, trivial⟩
          case measure => simp [intOf]; omega
        · go_wp2
          go_roundw
          case rel => exact ⟨k + 1, by omega, by rw [wantTo, hw]; rfl, by go_num, trivial⟩
          case measure => simp [intOf]; omega
      · obtain rfl : k = (names c).length := by omega
        obtain ⟨d0, d1, d2, d3⟩ := B2.cells4
        have y2 := B2.lt
        unfold quadA at C1 C2
        generalize threeI c 0 = q at *
        generalize wantTo (names c) 0 (names c).length = t at *
        unfold quad at C2
        go_wp2_with fail
        refine (C1.out _).mono ?_
        rintro e w4 ⟨rfl, hb⟩
        have b4 : Below w.heap.size w w4 := Below.on b3 hb
        clear hb C1 d0 d1 d2 d3 cn
        go_wp2_with fail
        refine (C2.out _).mono ?_
        rintro e w5 ⟨rfl, hb⟩
        have b5 : Below w.heap.size w w5 := Below.on b4 hb
        clear hb C2 b4
        go_wp2_with (go_at_call 11; refine (num_any _ _).mono ?_; rintro e w' ⟨rfl, rfl⟩)
        go_ret
        exact ⟨rfl, b5⟩
  · go_upto_region 12 with (fail)
    have B2 : Blk ((W.setCell ⟨w1.heap.size, 2, none⟩ (.int .i64 3)).alloc (.cells #[.string ⟨#[97, 98]⟩, .string ⟨#[97, 98]⟩, .string ⟨#[97, 98, 99]⟩, .string ⟨#[97, 98, 99]⟩, .string ⟨#[97, 98]⟩, .string ⟨#[]⟩, .string ⟨#[97]⟩] 9)) w1.heap.size (quadL (threeI c 1)) := (B1.set 2 (.int .i64 3)).alloc (.cells #[.string ⟨#[97, 98]⟩, .string ⟨#[97, 98]⟩, .string ⟨#[97, 98, 99]⟩, .string ⟨#[97, 98, 99]⟩, .string ⟨#[97, 98]⟩, .string ⟨#[]⟩, .string ⟨#[97]⟩] 9)
    have B8 : Blk ((W.setCell ⟨w1.heap.size, 2, none⟩ (.int .i64 3)).alloc (.cells #[.string ⟨#[97, 98]⟩, .string ⟨#[97, 98]⟩, .string ⟨#[97, 98, 99]⟩, .string ⟨#[97, 98, 99]⟩, .string ⟨#[97, 98]⟩, .string ⟨#[]⟩, .string ⟨#[97]⟩] 9)) (w1.heap.size + 1) [textS [97, 98], textS [97, 98], textS [97, 98, 99], textS [97, 98, 99], textS [97, 98], textS [], textS [97]] := by
      have := blk_new (W.setCell ⟨w1.heap.size, 2, none⟩ (.int .i64 3)) [textS [97, 98], textS [97, 98], textS [97, 98, 99], textS [97, 98, 99], textS [97, 98], textS [], textS [97]] 9
      rw [World.size_setCell, z2] at this
      exact this
    have b3 : Below w.heap.size w ((W.setCell ⟨w1.heap.size, 2, none⟩ (.int .i64 3)).alloc (.cells #[.string ⟨#[97, 98]⟩, .string ⟨#[97, 98]⟩, .string ⟨#[97, 98, 99]⟩, .string ⟨#[97, 98, 99]⟩, .string ⟨#[97, 98]⟩, .string ⟨#[]⟩, .string ⟨#[97]⟩] 9)) := (b2.setCell (by simp; omega) _).alloc (by rw [World.size_setCell]; exact s2) _
    have cn := B8.cell c _ HN.out
    generalize (W.setCell ⟨w1.heap.size, 2, none⟩ (.int .i64 3)).alloc (.cells #[.string ⟨#[97, 98]⟩, .string ⟨#[97, 98]⟩, .string ⟨#[97, 98, 99]⟩, .string ⟨#[97, 98, 99]⟩, .string ⟨#[97, 98]⟩, .string ⟨#[]⟩, .string ⟨#[97]⟩] 9) = V at *
    unfold textS at cn
    clear B1 B8 b2 s2 HN c0 c1 c2 c3 f0 f1 f2 f3
    have sz := text_size (names c)
    go_wp2_with fail
    go_loopw [9, 10] (fun t i wr => ∃ k : Nat, k ≤ (names c).length ∧ t = .bool (wantTo (names c) 1 k) ∧ i = .int .i64 k ∧ wr = V) (fun _ i _ => (names c).length - (intOf i).toNat)
    case atStart => exact ⟨0, Nat.zero_le _, rfl, rfl, rfl⟩
    case round =>
      obtain ⟨k, hk, rfl, rfl, rfl⟩ := hrel
      by_cases hlt : k < (names c).length
      · have i2 : (k : Int) < ((names c).length : Int) := by omega
        have hk3 : k < 3 := by have := HL.out; omega
        cases hw : wantTo (names c) 1 k
        · have tn := text_num (names c) (k := k) (by rw [sz]; exact hlt)
          obtain ⟨n0, n1⟩ := HB.out k hlt
          go_wp2
          go_roundw
          case rel => exact ⟨k + 1, by omega, by rw [wantTo, hw]; rfl, by go_num, trivial⟩
          case measure => simp [intOf]; omega
        · go_wp2
          go_roundw
          case rel => exact ⟨k + 1, by omega, by rw [wantTo, hw]; rfl, by go_num, trivial⟩
          case measure => simp [intOf]; omega
      · obtain rfl : k = (names c).length := by omega
        obtain ⟨d0, d1, d2, d3⟩ := B2.cells4
        have y2 := B2.lt
        unfold quadA at C1 C2
        generalize threeI c 1 = q at *
        generalize wantTo (names c) 1 (names c).length = t at *
        unfold quad at C2
        go_wp2_with fail
        refine (C1.out _).mono ?_
        rintro e w4 ⟨rfl, hb⟩
        have b4 : Below w.heap.size w w4 := Below.on b3 hb
        clear hb C1 d0 d1 d2 d3 cn
        go_wp2_with fail
        refine (C2.out _).mono ?_
        rintro e w5 ⟨rfl, hb⟩
        have b5 : Below w.heap.size w w5 := Below.on b4 hb
        clear hb C2 b4
        go_wp2_with (go_at_call 11; refine (num_any _ _).mono ?_; rintro e w' ⟨rfl, rfl⟩)
        go_ret
        exact ⟨rfl, b5⟩
  · go_upto_region 12 with (fail)
    have B2 : Blk ((W.setCell ⟨w1.heap.size, 3, none⟩ (.int .i64 3)).alloc (.cells #[.string ⟨#[97, 98]⟩, .string ⟨#[97, 98]⟩, .string ⟨#[97, 98, 99]⟩, .string ⟨#[97, 98, 99]⟩, .string ⟨#[97, 98]⟩, .string ⟨#[]⟩, .string ⟨#[97]⟩] 9)) w1.heap.size (quadL (threeI c 2)) := (B1.set 3 (.int .i64 3)).alloc (.cells #[.string ⟨#[97, 98]⟩, .string ⟨#[97, 98]⟩, .string ⟨#[97, 98, 99]⟩, .string ⟨#[97, 98, 99]⟩, .string ⟨#[97, 98]⟩, .string ⟨#[]⟩, .string ⟨#[97]⟩] 9)
    have B8 : Blk ((W.setCell ⟨w1.heap.size, 3, none⟩ (.int .i64 3)).alloc (.cells #[.string ⟨#[97, 98]⟩, .string ⟨#[97, 98]⟩, .string ⟨#[97, 98, 99]⟩, .string ⟨#[97, 98, 99]⟩, .string ⟨#[97, 98]⟩, .string ⟨#[]⟩, .string ⟨#[97]⟩] 9)) (w1.heap.size + 1) [textS [97, 98], textS [97, 98], textS [97, 98, 99], textS [97, 98, 99], textS [97, 98], textS [], textS [97]] := by
      have := blk_new (W.setCell ⟨w1.heap.size, 3, none⟩ (.int .i64 3)) [textS [97, 98], textS [97, 98], textS [97, 98, 99], textS [97, 98, 99], textS [97, 98], textS [], textS [97]] 9
      rw [World.size_setCell, z2] at this
      exact this
    have b3 : Below w.heap.size w ((W.setCell ⟨w1.heap.size, 3, none⟩ (.int .i64 3)).alloc (.cells #[.string ⟨#[97, 98]⟩, .string ⟨#[97, 98]⟩, .string ⟨#[97, 98, 99]⟩, .string ⟨#[97, 98, 99]⟩, .string ⟨#[97, 98]⟩, .string ⟨#[]⟩, .string ⟨#[97]⟩] 9)) := (b2.setCell (by simp; omega) _).alloc (by rw [World.size_setCell]; exact s2) _
    have cn := B8.cell c _ HN.out
    generalize (W.setCell ⟨w1.heap.size, 3, none⟩ (.int .i64 3)).alloc (.cells #[.string ⟨#[97, 98]⟩, .string ⟨#[97, 98]⟩, .string ⟨#[97, 98, 99]⟩, .string ⟨#[97, 98, 99]⟩, .string ⟨#[97, 98]⟩, .string ⟨#[]⟩, .string ⟨#[97]⟩] 9) = V at *
    unfold textS at cn
    clear B1 B8 b2 s2 HN c0 c1 c2 c3 f0 f1 f2 f3
    have sz := text_size (names c)
    go_wp2_with fail
    go_loopw [9, 10] (fun t i wr => ∃ k : Nat, k ≤ (names c).length ∧ t = .bool (wantTo (names c) 2 k) ∧ i = .int .i64 k ∧ wr = V) (fun _ i _ => (names c).length - (intOf i).toNat)
    case atStart => exact ⟨0, Nat.zero_le _, rfl, rfl, rfl⟩
    case round =>
      obtain ⟨k, hk, rfl, rfl, rfl⟩ := hrel
      by_cases hlt : k < (names c).length
      · have i2 : (k : Int) < ((names c).length : Int) := by omega
        have hk3 : k < 3 := by have := HL.out; omega
        cases hw : wantTo (names c) 2 k
        · have tn := text_num (names c) (k := k) (by rw [sz]; exact hlt)
          obtain ⟨n0, n1⟩ := HB.out k hlt
          go_wp2
          go_roundw
          case rel => exact ⟨k + 1, by omega, by rw [wantTo, hw]; rfl, by go_num, trivial⟩
          case measure => simp [intOf]; omega
        · go_wp2
          go_roundw
          case rel => exact ⟨k + 1, by omega, by rw [wantTo, hw]; rfl, by go_num, trivial⟩
          case measure => simp [intOf]; omega
      · obtain rfl : k = (names c).length := by omega
        obtain ⟨d0, d1, d2, d3⟩ := B2.cells4
        have y2 := B2.lt
        unfold quadA at C1 C2
        generalize threeI c 2 = q at *
        generalize wantTo (names c) 2 (names c).length = t at *
        unfold quad at C2
        go_wp2_with fail
        refine (C1.out _).mono ?_
        rintro e w4 ⟨rfl, hb⟩
        have b4 : Below w.heap.size w w4 := Below.on b3 hb
        clear hb C1 d0 d1 d2 d3 cn
        go_wp2_with fail
        refine (C2.out _).mono ?_
        rintro e w5 ⟨rfl, hb⟩
        have b5 : Below w.heap.size w w5 := Below.on b4 hb
        clear hb C2 b4
        go_wp2_with (go_at_call 11; refine (num_any _ _).mono ?_; rintro e w' ⟨rfl, rfl⟩)
        go_ret
        exact ⟨rfl, b5⟩

theorem instNames_said (hM : MayIC) (hP : PutIC) (hG : GetIC) (a0 a1 : Int) (w : World) :
    Calls Try.prog 6 #[.int .i64 a0, .int .i64 a1] w fun e w' => e = .returned (.bool true) ∧ Below w.heap.size w w' := by
  obtain ⟨c, hc7, hc⟩ := pick_at a0 7 (by omega) (by omega)
  obtain ⟨f, hf3, hf⟩ := pick_at a1 3 (by omega) (by omega)
  exact instNames_at hM hP hG a0 a1 c f w hc (by omega) hf (by omega)

end Go.Proofs.Ytdcmhpgcmdehmaa
