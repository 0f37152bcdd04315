/-
  What the landed package prog's May, Put and Get hand back.
-/
import Derived.Test.YtkomapgmhipkaaaProgStat
import Derived.Test.YtkomapgmhipkaaaInstProg
namespace Go.Proofs.Ytkomapgmhipkaaa
open Go.RowKit
set_option linter.unusedSimpArgs false
set_option linter.unusedVariables false

def fwdV (i : Nat → Int) (at_ many : Int) : Bool := (i 0 != 4) || (decide (at_ < i 2) && decide (i 2 ≤ many))

set_option maxHeartbeats 1000000 in
theorem fwd_any (i : Nat → Int) (at_ many : Int) (w : World) :
    Calls Try.prog 26 #[quadA i, .int .i64 at_, .int .i64 many] w fun e w' => e = .returned (.bool (fwdV i at_ many)) ∧ Below w.heap.size w w' := by
  unfold fwdV quadA
  by_cases h0 : i 0 = 4
  · rw [h0, show ((4 : Int) != 4) = false from rfl, Bool.false_or]
    by_cases h1 : at_ < i 2
    · rw [decide_eq_true h1, Bool.true_and]
      go_enter Try.func26, Try.ntmps26
      go_wp2
      go_ret
      exact ⟨rfl, by go_grown⟩
    · rw [decide_eq_false h1, Bool.false_and]
      go_enter Try.func26, Try.ntmps26
      go_wp2
      go_ret
      exact ⟨rfl, by go_grown⟩
  · have h0' : (i 0 != 4) = true := by simpa using h0
    rw [h0', Bool.true_or]
    go_enter Try.func26, Try.ntmps26
    go_wp2
    go_ret
    exact ⟨rfl, by go_grown⟩
theorem fwd_bad (z : Nat → Int) (n k : Nat) : fwdV (instAt z k) (k : Int) (n : Int) = !badJump z n k := by
  unfold fwdV badJump instAt
  show ((z (k * 4) != 4) || (decide ((k : Int) < z (k * 4 + 2)) && decide (z (k * 4 + 2) ≤ (n : Int)))) = _
  by_cases h0 : z (k * 4) = 4
  · by_cases h1 : (k : Int) < z (k * 4 + 2) <;> by_cases h2 : z (k * 4 + 2) ≤ (n : Int)
    all_goals
      simp [h0, h1, h2]
      try omega
  · have : (z (k * 4) == 4) = false := by simpa using h0
    simp [bne, this]

set_option maxRecDepth 10000 in
set_option maxHeartbeats 2000000 in
theorem may_pc : MayPC := by
  intro a n c z w hn h
  by_cases h16 : n ≤ 16
  · have i16 : ¬ (16 : Int) < (n : Int) := by omega
    go_enter Try.func15, Try.ntmps15
    go_wp2
    go_loopw [10] (fun i wr => ∃ k : Nat, k ≤ n ∧ i = .int .i64 k ∧ Hid (progTo z n k = true) ∧ Below w.heap.size w wr) (fun i _ => n - (intOf i).toNat)
    case atStart => exact ⟨0, Nat.zero_le _, rfl, rfl, by go_grown⟩
    case round =>
      obtain ⟨k, hk, rfl, HS, hb⟩ := hrel
      by_cases hlt : k < n
      · have i1 : (k : Int) < (n : Int) := by omega
        obtain ⟨b, off, hsa, hbl, d0, d1, d2, d3⟩ := (h.below hb (Nat.le_refl _)).at4 k hlt
        subst hsa
        have s0 := hb.size
        have C := hide fun w => may_ic (instAt z k) w
        have D := hide fun w => fwd_any (instAt z k) k n w
        rw [fwd_bad] at D
        rw [quadA_at] at C D
        have B := blk_new wr [.int .i64 (z (k * 4)), .int .i64 (z (k * 4 + 1)), .int .i64 (z (k * 4 + 2)), .int .i64 (z (k * 4 + 3))] 40
        cases hm : instMay (instAt z k)
        · rw [hm] at C
          go_wp2_with fail
          refine (C.out _).mono ?_
          rintro e w1 ⟨rfl, hb1⟩
          have b1 : Below w.heap.size w w1 := Below.on (hb.alloc s0 _) hb1
          clear hb1 d0 d1 d2 d3 C D
          go_wp2
          go_ret
          exact ⟨ret_bool (progMay_no k hlt (by rw [hm]; rfl)).symm, b1⟩
        · rw [hm] at C
          cases hj : badJump z n k
          · rw [hj] at D
            have HN : Hid (progTo z n (k + 1) = true) := by
              show progTo z n (k + 1) = true
              rw [progTo, HS.out, hm, hj]
              rfl
            go_wp2_with fail
            refine (C.out _).mono ?_
            rintro e w1 ⟨rfl, hb1⟩
            have b1 : Below w.heap.size w w1 := Below.on (hb.alloc s0 _) hb1
            replace B := B.on hb1
            clear hb1 d0 d1 d2 d3 C
            obtain ⟨c0, c1, c2, c3⟩ := B.cells4
            go_wp2_with fail
            refine (D.out _).mono ?_
            rintro e w2 ⟨rfl, hb2⟩
            have b2 : Below w.heap.size w w2 := Below.on b1 hb2
            clear hb2 D c0 c1 c2 c3 b1
            go_wp2
            go_roundw
            case rel => exact ⟨k + 1, by omega, by go_num, HN, b2⟩
            case measure => simp [intOf]; omega
          · rw [hj] at D
            go_wp2_with fail
            refine (C.out _).mono ?_
            rintro e w1 ⟨rfl, hb1⟩
            have b1 : Below w.heap.size w w1 := Below.on (hb.alloc s0 _) hb1
            replace B := B.on hb1
            clear hb1 d0 d1 d2 d3 C
            obtain ⟨c0, c1, c2, c3⟩ := B.cells4
            go_wp2_with fail
            refine (D.out _).mono ?_
            rintro e w2 ⟨rfl, hb2⟩
            have b2 : Below w.heap.size w w2 := Below.on b1 hb2
            clear hb2 D c0 c1 c2 c3 b1
            go_wp2
            go_ret
            exact ⟨ret_bool (progMay_no k hlt (by rw [hj, Bool.not_true, Bool.and_false])).symm, b2⟩
      · obtain rfl : k = n := by omega
        go_wp2
        go_ret
        exact ⟨ret_bool (progMay_mk HS.out h16).symm, hb⟩
  · have i16 : (16 : Int) < (n : Int) := by omega
    go_enter Try.func15, Try.ntmps15
    go_wp2
    go_ret
    exact ⟨ret_bool (progMay_long (by omega)).symm, Below.refl _ _⟩

set_option maxRecDepth 10000 in
set_option maxHeartbeats 2000000 in
theorem put_pc : PutPC := by
  intro a n c z w hn h
  unfold putPT putPE
  cases hm : progMay n z
  · go_enter Try.func9, Try.ntmps9
    go_wp2_with fail
    refine (may_pc a n c z _ hn h).mono ?_
    rintro e w1 ⟨rfl, hb⟩
    rw [hm]
    go_wp2
    go_ret2
    exact ⟨rfl, hb⟩
  · obtain ⟨hp, h16⟩ := progMay_get hm
    have u0 : IntKind.u8.wrap (n : Int) = n := u8_byte (by omega) (by omega)
    go_enter Try.func9, Try.ntmps9
    go_wp2_with fail
    refine (may_pc a n c z _ hn h).mono ?_
    rintro e w1 ⟨rfl, b1⟩
    rw [hm]
    have s1 := b1.size
    have hconv := run_convert_bytes_back (P := Try.prog) (w1.alloc (.cells #[.int .u8 (n : Int)] 5)) 44 9 5 ⟨w1.heap.size, 0, none⟩ 1 [byteOf n] (by kernel_rfl) (by kernel_rfl) (by kernel_rfl) (by
      intro j hj
      obtain rfl : j = 0 := by simpa using hj
      rw [show (([byteOf (n : Int)][0]).toNat : Int) = n from byteOf_nat (by omega) (by omega)]
      exact (blk_new w1 [.int .u8 (n : Int)] 5).cell 0 _ rfl)
    rw [show [byteOf (n : Int)].length = 1 from rfl] at hconv
    have HP := hide hp
    clear hp hm
    go_wp2
    go_loopw [4, 19] (fun t i wr => ∃ k : Nat, k ≤ n ∧ t = textS (byteOf n :: progB z k) ∧ i = .int .i64 k ∧ Below w.heap.size w wr) (fun _ i _ => n - (intOf i).toNat)
    case atStart => exact ⟨0, Nat.zero_le _, rfl, rfl, b1.alloc s1 _⟩
    case round =>
      obtain ⟨k, hk, rfl, rfl, hb⟩ := hrel
      by_cases hlt : k < n
      · have i1 : (k : Int) < (n : Int) := by omega
        obtain ⟨b, off, hsa, hbl, d0, d1, d2, d3⟩ := (h.below hb (Nat.le_refl _)).at4 k hlt
        subst hsa
        have s0 := hb.size
        have C := hide fun w => put_ic (instAt z k) w
        unfold putIT putIE at C
        rw [quadA_at, (progTo_get HP.out k hlt).1] at C
        simp only [cond_true] at C
        have ta := text_append (byteOf n :: progB z k) (instT (instAt z k))
        rw [show (byteOf (n : Int) :: progB z k) ++ instT (instAt z k) = byteOf n :: progB z (k + 1) from rfl] at ta
        have sb : ¬ 9223372036854775807 < (progB z k).length + 1 + (instT (instAt z k)).length := by rw [progB_len, instT_len]; omega
        generalize instT (instAt z k) = t at *
        unfold textS at *
        go_wp2_with fail
        refine (C.out _).mono ?_
        rintro e w2 ⟨rfl, hb2⟩
        have b2 : Below w.heap.size w w2 := Below.on (hb.alloc s0 _) hb2
        clear hb2 d0 d1 d2 d3 C hconv
        go_wp2
        go_roundw
        case rel => exact ⟨k + 1, by omega, rfl, by go_num, b2⟩
        case measure => simp [intOf]; omega
      · obtain rfl : k = n := by omega
        clear hconv
        go_wp2
        go_ret2
        exact ⟨rfl, hb⟩

set_option maxRecDepth 10000 in
set_option maxHeartbeats 2000000 in
theorem get_pc : GetPC := by
  intro l w
  obtain ⟨i0, hi, hz0, hz1, hz2⟩ := info_parts Try.infoInst
  have tl := text_list l
  have sz := text_size l
  have hN := textN_le l
  cases he : l == []
  · have hne : 0 < l.length := by
      cases l with
      | nil => cases he
      | cons _ _ => simp
    have t0 : wrap64 (((⟨l.toArray⟩ : ByteArray)[0]'(by rw [sz]; exact hne)).toNat : Int) = (textN l : Int) := text_wrap l _
    unfold textS
    by_cases hl : l.length = 1 + 4 * textN l
    · have hl2 : ((l.length : Int) != 1 + 4 * (textN l : Int)) = false := by
        rw [bne_eq_false_iff_eq]; omega
      have p0 : (0 : Int) < 1 + 4 * (textN l : Int) := by omega
      have HL := hide hl
      have hN2 : (textN l : Int) ≤ 255 := by omega
      go_enter Try.func11, Try.ntmps11
      go_wp2
      go_loopw [4, 5] (fun p i wr => ∃ (k : Nat) (x : Sl), k ≤ textN l ∧ p = .slice x.a x.n x.c ∧ i = .int .i64 (1 + 4 * k : Nat) ∧ wr.ownsRow w.heap.size 40 4 (.slice x.a x.n x.c) k (rowL (intF (textZ l)) (k * 4)) ∧ (∀ j, j < k → instMay (instAt (textZ l) j) = true) ∧ Below w.heap.size w wr) (fun _ i _ => 2000 - (intOf i).toNat)
      case atStart => exact ⟨0, ⟨none, 0, 0⟩, Nat.zero_le _, rfl, rfl, World.ownsRow_nil _ _ _ _, fun _ h => absurd h (Nat.not_lt_zero _), Below.refl _ _⟩
      case round =>
        obtain ⟨k, x, hk, rfl, rfl, hown, hall, hb⟩ := hrel
        have HA := hide hall
        clear hall t0
        by_cases hlt : k < textN l
        · have i1 : (1 + 4 * (k : Int)) < 1 + 4 * (textN l : Int) := by omega
          have hext : (⟨l.toArray⟩ : ByteArray).extract (1 + 4 * k) (1 + 4 * k + 4) = ⟨(partT l k).toArray⟩ := by
            rw [ByteArray.extract_mk, show 1 + 4 * k + 4 - (1 + 4 * k) = 4 by omega]
            rfl
          have hsl : ∀ W, Sem.run Try.prog (Instr.slice 9 (.string ⟨l.toArray⟩) (some (.int .i64 (1 + 4 * (k : Int)))) (some (.int .i64 (1 + 4 * (k : Int) + 4))) none) W = .ok (.string ⟨(partT l k).toArray⟩) W := by
            intro W
            rw [run_slice_string W 9 _ .i64 .i64 _ _ (by kernel_rfl) (by omega) (by omega) (by rw [sz, HL.out]; omega), show (1 + 4 * (k : Int)).toNat = 1 + 4 * k by omega, show (1 + 4 * (k : Int) + 4).toNat = 1 + 4 * k + 4 by omega, hext]
          have hlen : (partT l k).length = 4 := partT_len (by omega)
          cases hm : instMay (instAt (textZ l) k)
          · have C := fun w => get_ic (partT l k) w
            have hg : getIOk (partT l k) = false := by unfold getIOk; rw [part_may, hm, Bool.and_false]
            unfold getII getIE at C
            rw [hg] at C
            simp only [cond_false] at C
            unfold textS quadA at C
            have CC := hide C
            have hno : getPOk l = false := by unfold getPOk; rw [progMay_no k hlt (by rw [hm]; rfl), Bool.and_false]
            have HNO := hide hno
            clear C hg hno hown
            go_wp2_with fail
            refine (CC.out _).mono ?_
            rintro e w1 ⟨rfl, hb1⟩
            have b1 : Below w.heap.size w w1 := Below.on hb hb1
            clear hb1 hsl
            go_wp2
            go_ret2
            exact getP_no HNO.out (b1.alloc b1.size _)
          · have C := fun w => get_ic (partT l k) w
            have hg : getIOk (partT l k) = true := by unfold getIOk; rw [part_may, hm, decide_eq_true hlen]; rfl
            unfold getII getIE at C
            rw [hg] at C
            simp only [cond_true] at C
            rw [part_quad] at C
            unfold textS at C
            have CC := hide C
            have HM := hide hm
            clear C hg hm
            go_wp2_with fail
            refine (CC.out _).mono ?_
            rintro e w1 ⟨rfl, hb1⟩
            have b1 : Below w.heap.size w w1 := Below.on hb hb1
            have s1 := b1.size
            have ho1 := owns_on hown hb1
            have HO := hide ((ho1.alloc (.cells #[.int .i64 (textZ l (k * 4)), .int .i64 (textZ l (k * 4 + 1)), .int .i64 (textZ l (k * 4 + 2)), .int .i64 (textZ l (k * 4 + 3))] 40)).alloc (.cells #[.int .i64 (textZ l (k * 4)), .int .i64 (textZ l (k * 4 + 1)), .int .i64 (textZ l (k * 4 + 2)), .int .i64 (textZ l (k * 4 + 3))] 40))
            have HE := hide (owns_block ho1)
            have HNW : Hid (∀ j u, [.int .i64 (textZ l (k * 4)), .int .i64 (textZ l (k * 4 + 1)), .int .i64 (textZ l (k * 4 + 2)), .int .i64 (textZ l (k * 4 + 3))][j]? = some u → ((w1.alloc (.cells #[.int .i64 (textZ l (k * 4)), .int .i64 (textZ l (k * 4 + 1)), .int .i64 (textZ l (k * 4 + 2)), .int .i64 (textZ l (k * 4 + 3))] 40)).alloc (.cells #[.int .i64 (textZ l (k * 4)), .int .i64 (textZ l (k * 4 + 1)), .int .i64 (textZ l (k * 4 + 2)), .int .i64 (textZ l (k * 4 + 3))] 40)).cell? ((⟨w1.heap.size + 1, 0, none⟩ : Addr).add j) = some u) := by
              have := World.news_of_block (cs := #[.int .i64 (textZ l (k * 4)), .int .i64 (textZ l (k * 4 + 1)), .int .i64 (textZ l (k * 4 + 2)), .int .i64 (textZ l (k * 4 + 3))]) (t := 40) (fr := (0, 0)) (heap_alloc_new (w1.alloc (.cells #[.int .i64 (textZ l (k * 4)), .int .i64 (textZ l (k * 4 + 1)), .int .i64 (textZ l (k * 4 + 2)), .int .i64 (textZ l (k * 4 + 3))] 40)) (.cells #[.int .i64 (textZ l (k * 4)), .int .i64 (textZ l (k * 4 + 1)), .int .i64 (textZ l (k * 4 + 2)), .int .i64 (textZ l (k * 4 + 3))] 40))
              rw [World.size_alloc] at this
              exact this
            clear hb1 hsl hown ho1 CC
            go_wp2_with (at_builtin; refine wpList_append_own _ rfl (.tmp 37) (.tmp 39) 22 rfl w.heap.size 40 i0 (.agg #[.int .i64 0, .int .i64 0, .int .i64 0, .int .i64 0]) 4 32 Try.underlying22 hi hz0 hz1 hz2 rfl (by decide) _ _ _ rfl (unhide HO) ⟨w1.heap.size + 1, 0, none⟩ 1 1 [.int .i64 (textZ l (k * 4)), .int .i64 (textZ l (k * 4 + 1)), .int .i64 (textZ l (k * 4 + 2)), .int .i64 (textZ l (k * 4 + 3))] rfl rfl (unhide HNW) ?_ ?_ ?_ ?_ ?_)
            · simp [Value.oneCell']
            · unfold maxLen; omega
            · omega
            · simp only [World.size_alloc]; omega
            · intro v' w2 hown1 hgrow _
              have bw : Below w.heap.size w w2 := ((b1.alloc s1 _).alloc (by rw [World.size_alloc]; omega) _).grown hgrow (by simp only [World.size_alloc]; omega) HE.out
              have hown2 : w2.ownsRow w.heap.size 40 4 v' (k + 1) (rowL (intF (textZ l)) ((k + 1) * 4)) := by rw [← rowL_more4]; exact hown1
              obtain ⟨x', rfl⟩ : ∃ x' : Sl, v' = .slice x'.a x'.n x'.c := by
                rcases own_of_owns hown2 with ⟨rfl, _⟩ | ⟨g, cap, rfl, _⟩
                · exact ⟨⟨none, 0, 0⟩, rfl⟩
                · exact ⟨⟨some ⟨g, 0, none⟩, k + 1, cap⟩, rfl⟩
              have HO2 := hide hown2
              clear hown2 hown1 hgrow HO HE HNW b1 hb
              go_wp2
              go_roundw
              case rel =>
                refine ⟨k + 1, x', by omega, rfl, by go_num, HO2.out, fun j hj => ?_, bw⟩
                by_cases e : j = k
                · subst e; exact HM.out
                · exact HA.out j (by omega)
              case measure => simp [intOf]; omega
        · have hkN : k = textN l := by omega
          have i1 : ¬ (1 + 4 * (k : Int)) < 1 + 4 * (textN l : Int) := by omega
          obtain ⟨hxn, hxy, hxo⟩ : x.n = k ∧ (x.a = none → x.n = 0 ∧ x.c = 0) ∧ (0 < x.n → ∃ b, x.a = some ⟨b, 0, none⟩ ∧ w.heap.size ≤ b ∧ b < wr.heap.size ∧ Own wr b (x.n * 4) (intF (textZ l))) := by
            rcases own_of_owns hown with ⟨e, h0⟩ | ⟨g, cap, e, hg1, _, _, ho⟩
            · simp only [Value.slice.injEq] at e
              exact ⟨by omega, fun _ => ⟨e.2.1, e.2.2⟩, fun h => by omega⟩
            · simp only [Value.slice.injEq] at e
              obtain ⟨e1, e2, e3⟩ := e
              exact ⟨e2, (fun h => by rw [e1] at h; cases h), fun _ => ⟨g, e1, hg1, ho.lt, by rw [e2]; exact ho⟩⟩
          have hrow : Row wr x.a (x.n * 4) fun i => .int .i64 (textZ l i) := by
            by_cases hp : 0 < x.n
            · obtain ⟨b, e, _, _, ho⟩ := hxo hp
              rw [e]; exact ho.row
            · rw [show x.n = 0 by omega, Nat.zero_mul]; exact row_zero _ _ _
          have HX := hide (And.intro hxn (And.intro hxy hxo))
          have C := hide (may_pc x.a x.n x.c (textZ l) wr (by omega) hrow)
          have hxN : x.n = textN l := by omega
          rw [hxN] at C
          clear hown hxn hxy hxo hrow
          cases hm : progMay (textN l) (textZ l)
          · have HNO : Hid (getPOk l = false) := by show getPOk l = false; unfold getPOk; rw [hm, Bool.and_false]
            rw [hm] at C
            have hxN' := hide hxN
            rw [hxN]
            clear hxN
            go_wp2_with fail
            refine C.out.mono ?_
            rintro e w1 ⟨rfl, hb1⟩
            have b1 : Below w.heap.size w w1 := Below.on hb hb1
            clear hb1 C
            go_wp2
            go_ret2
            exact getP_no HNO.out b1
          · have HOK : Hid (getPOk l = true) := by show getPOk l = true; unfold getPOk; rw [hm, decide_eq_true HL.out]; rfl
            rw [hm] at C
            have hxN' := hide hxN
            rw [hxN]
            clear hxN
            go_wp2_with fail
            refine C.out.mono ?_
            rintro e w1 ⟨rfl, hb1⟩
            have b1 : Below w.heap.size w w1 := Below.on hb hb1
            have z1 := hb1.size
            have HB := hide hb1
            clear hb1 C
            go_wp2
            go_ret2
            refine ⟨x, ?_, HX.out.2.1, fun _ => hxN'.out, fun h => ?_, fun hp => ?_, b1⟩
            · unfold getPE; rw [HOK.out, hxN'.out]; rfl
            · rw [HOK.out] at h; cases h
            · obtain ⟨b, e, g1, g2, ho⟩ := HX.out.2.2 hp
              exact ⟨b, e, g1, by omega, ho.on HB.out⟩
    · have hl2 : ((l.length : Int) != 1 + 4 * (textN l : Int)) = true := by
        rw [bne_iff_ne]; omega
      have hno : getPOk l = false := by unfold getPOk; rw [decide_eq_false hl]; rfl
      go_enter Try.func11, Try.ntmps11
      go_wp2
      go_ret2
      exact getP_no hno (Below.refl _ _)
  · obtain rfl : l = [] := eq_of_beq he
    unfold textS
    go_enter Try.func11, Try.ntmps11
    go_wp2
    go_ret2
    exact getP_no rfl (Below.refl _ _)

end Go.Proofs.Ytkomapgmhipkaaa
