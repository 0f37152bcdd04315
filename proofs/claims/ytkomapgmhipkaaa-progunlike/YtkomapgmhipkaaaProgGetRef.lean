/-
  The document's Get of a program.
-/
import Derived.Test.YtkomapgmhipkaaaProgPutRef
import Derived.Test.YtkomapgmhipkaaaSl
import Derived.Laws.AppendOwnNone
import Derived.OwnWalk
import Derived.Deep.AppendLies
namespace Go.Proofs.Ytkomapgmhipkaaa
open Go.RowKit
set_option linter.unusedSimpArgs false

theorem Try.infoInst : (Try.prog.info? 40).map (fun i => (i.zero, i.size, i.bytes)) = some (some (.agg #[.int .i64 0, .int .i64 0, .int .i64 0, .int .i64 0]), 4, 32) := by kernel_rfl
theorem owns_on {w w1 : World} {base : Nat} {e : TypeId} {size : Nat} {v : Value} {n : Nat} {xs : List Value} (h : w.ownsRow base e size v n xs) (hb : Below w.heap.size w w1) : w1.ownsRow base e size v n xs := by
  rcases h with ⟨hl, h2 | ⟨g, cap, cur, hv, hg, hh, r⟩⟩
  · exact ⟨hl, .inl h2⟩
  · have hlt : g < w.heap.size := by
      have := Array.getElem?_eq_some_iff.1 hh
      exact this.1
    exact ⟨hl, .inr ⟨g, cap, cur, hv, hg, by rw [hb.block g hlt]; exact hh, r⟩⟩

/-- What Get hands back: nothing, or the instructions of the text, in new memory. -/
def GetPPost (l : List UInt8) (w : World) (e : Ending) (w' : World) : Prop :=
  ∃ x : Sl, e = .returned (.tuple #[.slice x.a x.n x.c, .int .i64 (getPE l)]) ∧ (x.a = none → x.n = 0 ∧ x.c = 0) ∧ (getPOk l = true → x.n = textN l) ∧ (getPOk l = false → x = ⟨none, 0, 0⟩) ∧
    (0 < x.n → ∃ b, x.a = some ⟨b, 0, none⟩ ∧ w.heap.size ≤ b ∧ b < w'.heap.size ∧ Own w' b (x.n * 4) (intF (textZ l))) ∧ Below w.heap.size w w'
theorem getP_no {l : List UInt8} {w w' : World} (h : getPOk l = false) (hb : Below w.heap.size w w') : GetPPost l w (.returned (.tuple #[.slice none 0 0, .int .i64 800])) w' := by
  refine ⟨⟨none, 0, 0⟩, ?_, fun _ => ⟨rfl, rfl⟩, fun h' => ?_, fun _ => rfl, fun h' => absurd h' (Nat.lt_irrefl 0), hb⟩
  · unfold getPE; rw [h]; rfl
  · rw [h] at h'; cases h'
/-- The bytes of the k-th instruction of a text. -/
def partT (l : List UInt8) (k : Nat) : List UInt8 := (l.drop (1 + 4 * k)).take 4
theorem partT_len {l : List UInt8} {k : Nat} (h : 1 + 4 * k + 4 ≤ l.length) : (partT l k).length = 4 := by
  unfold partT
  rw [List.length_take, List.length_drop]
  omega
theorem partT_of {l : List UInt8} {k j : Nat} (hj : j < 4) : instOf (partT l k) j = instAt (textZ l) k j := by
  unfold instOf instAt textZ partT
  congr 2
  rw [List.getD_eq_getElem?_getD, List.getD_eq_getElem?_getD, List.getElem?_take, if_pos hj, List.getElem?_drop]
  congr 2
  omega
theorem part_may (l : List UInt8) (k : Nat) : instMay (instOf (partT l k)) = instMay (instAt (textZ l) k) := instMay_congr fun _ hj => partT_of hj
theorem part_quad (l : List UInt8) (k : Nat) : quadA (instOf (partT l k)) = .agg #[.int .i64 (textZ l (k * 4)), .int .i64 (textZ l (k * 4 + 1)), .int .i64 (textZ l (k * 4 + 2)), .int .i64 (textZ l (k * 4 + 3))] := by
  unfold quadA
  rw [partT_of (by omega), partT_of (by omega), partT_of (by omega), partT_of (by omega)]
  rfl
theorem rowL_more4 (z : Nat → Int) (k : Nat) : rowL (intF z) (k * 4) ++ [.int .i64 (z (k * 4)), .int .i64 (z (k * 4 + 1)), .int .i64 (z (k * 4 + 2)), .int .i64 (z (k * 4 + 3))] = rowL (intF z) ((k + 1) * 4) := by
  rw [show (k + 1) * 4 = k * 4 + 4 by omega, rowL_add]
  rfl

theorem text_list (l : List UInt8) : (⟨l.toArray⟩ : ByteArray).toList = l := by
  rw [ByteArray.toList_eq]
theorem textN_le (l : List UInt8) : textN l ≤ 255 := by
  unfold textN
  have := (l.getD 0 0).toNat_lt
  omega

set_option maxRecDepth 10000 in
set_option maxHeartbeats 2000000 in
theorem rgetProg_any (l : List UInt8) (w : World) :
    Calls Try.prog 12 #[textS l] w (GetPPost l w) := by
  obtain ⟨i0, hi, hz0, hz1, hz2⟩ := info_parts Try.infoInst
  have tl := text_list l
  have sz := text_size l
  have hN := textN_le l
  cases he : l == []
  · have hne : 0 < l.length := by
      cases l with
      | nil => cases he
      | cons _ _ => simp
    have t0 : wrap64 (((⟨l.toArray⟩ : ByteArray)[0]'(by rw [sz]; exact hne)).toNat : Int) = (textN l : Int) := text_wrap l _
    unfold textS
    by_cases hl : l.length = 1 + 4 * textN l
    · have hl2 : ((l.length : Int) != 1 + 4 * (textN l : Int)) = false := by
        rw [bne_eq_false_iff_eq]; omega
      have p0 : (0 : Int) < 1 + 4 * (textN l : Int) := by omega
      have HL := hide hl
      have hN2 : (textN l : Int) ≤ 255 := by omega
      go_enter Try.func12, Try.ntmps12
      go_wp2
      go_loopw [4, 5] (fun p i wr => ∃ (k : Nat) (x : Sl), k ≤ textN l ∧ p = .slice x.a x.n x.c ∧ i = .int .i64 (1 + 4 * k : Nat) ∧ wr.ownsRow w.heap.size 40 4 (.slice x.a x.n x.c) k (rowL (intF (textZ l)) (k * 4)) ∧ (∀ j, j < k → instMay (instAt (textZ l) j) = true) ∧ Below w.heap.size w wr) (fun _ i _ => 2000 - (intOf i).toNat)
      case atStart => exact ⟨0, ⟨none, 0, 0⟩, Nat.zero_le _, rfl, rfl, World.ownsRow_nil _ _ _ _, fun _ h => absurd h (Nat.not_lt_zero _), Below.refl _ _⟩
      case round =>
        obtain ⟨k, x, hk, rfl, rfl, hown, hall, hb⟩ := hrel
        have HA := hide hall
        clear hall t0
        by_cases hlt : k < textN l
        · have i1 : (1 + 4 * (k : Int)) < 1 + 4 * (textN l : Int) := by omega
          have hext : (⟨l.toArray⟩ : ByteArray).extract (1 + 4 * k) (1 + 4 * k + 4) = ⟨(partT l k).toArray⟩ := by
            rw [ByteArray.extract_mk, show 1 + 4 * k + 4 - (1 + 4 * k) = 4 by omega]
            rfl
          have hsl : ∀ W, Sem.run Try.prog (Instr.slice 9 (.string ⟨l.toArray⟩) (some (.int .i64 (1 + 4 * (k : Int)))) (some (.int .i64 (1 + 4 * (k : Int) + 4))) none) W = .ok (.string ⟨(partT l k).toArray⟩) W := by
            intro W
            rw [run_slice_string W 9 _ .i64 .i64 _ _ (by kernel_rfl) (by omega) (by omega) (by rw [sz, HL.out]; omega), show (1 + 4 * (k : Int)).toNat = 1 + 4 * k by omega, show (1 + 4 * (k : Int) + 4).toNat = 1 + 4 * k + 4 by omega, hext]
          have hlen : (partT l k).length = 4 := partT_len (by omega)
          cases hm : instMay (instAt (textZ l) k)
          · have C := fun w => rgetInst_any (partT l k) w
            have hg : getIOk (partT l k) = false := by unfold getIOk; rw [part_may, hm, Bool.and_false]
            unfold getII getIE at C
            rw [hg] at C
            simp only [cond_false] at C
            unfold textS quadA at C
            have CC := hide C
            have hno : getPOk l = false := by unfold getPOk; rw [progMay_no k hlt (by rw [hm]; rfl), Bool.and_false]
            have HNO := hide hno
            clear C hg hno hown
            go_wp2_with fail
            refine (CC.out _).mono ?_
            rintro e w1 ⟨rfl, hb1⟩
            have b1 : Below w.heap.size w w1 := Below.on hb hb1
            clear hb1 hsl
            go_wp2
            go_ret2
            exact getP_no HNO.out (b1.alloc b1.size _)
          · have C := fun w => rgetInst_any (partT l k) w
            have hg : getIOk (partT l k) = true := by unfold getIOk; rw [part_may, hm, decide_eq_true hlen]; rfl
            unfold getII getIE at C
            rw [hg] at C
            simp only [cond_true] at C
            rw [part_quad] at C
            unfold textS at C
            have CC := hide C
            have HM := hide hm
            clear C hg hm
            go_wp2_with fail
            refine (CC.out _).mono ?_
            rintro e w1 ⟨rfl, hb1⟩
            have b1 : Below w.heap.size w w1 := Below.on hb hb1
            have s1 := b1.size
            have ho1 := owns_on hown hb1
            have HO := hide ((ho1.alloc (.cells #[.int .i64 (textZ l (k * 4)), .int .i64 (textZ l (k * 4 + 1)), .int .i64 (textZ l (k * 4 + 2)), .int .i64 (textZ l (k * 4 + 3))] 40)).alloc (.cells #[.int .i64 (textZ l (k * 4)), .int .i64 (textZ l (k * 4 + 1)), .int .i64 (textZ l (k * 4 + 2)), .int .i64 (textZ l (k * 4 + 3))] 40))
            have HE := hide (owns_block ho1)
            have HNW : Hid (∀ j u, [.int .i64 (textZ l (k * 4)), .int .i64 (textZ l (k * 4 + 1)), .int .i64 (textZ l (k * 4 + 2)), .int .i64 (textZ l (k * 4 + 3))][j]? = some u → ((w1.alloc (.cells #[.int .i64 (textZ l (k * 4)), .int .i64 (textZ l (k * 4 + 1)), .int .i64 (textZ l (k * 4 + 2)), .int .i64 (textZ l (k * 4 + 3))] 40)).alloc (.cells #[.int .i64 (textZ l (k * 4)), .int .i64 (textZ l (k * 4 + 1)), .int .i64 (textZ l (k * 4 + 2)), .int .i64 (textZ l (k * 4 + 3))] 40)).cell? ((⟨w1.heap.size + 1, 0, none⟩ : Addr).add j) = some u) := by
              have := World.news_of_block (cs := #[.int .i64 (textZ l (k * 4)), .int .i64 (textZ l (k * 4 + 1)), .int .i64 (textZ l (k * 4 + 2)), .int .i64 (textZ l (k * 4 + 3))]) (t := 40) (fr := (0, 0)) (heap_alloc_new (w1.alloc (.cells #[.int .i64 (textZ l (k * 4)), .int .i64 (textZ l (k * 4 + 1)), .int .i64 (textZ l (k * 4 + 2)), .int .i64 (textZ l (k * 4 + 3))] 40)) (.cells #[.int .i64 (textZ l (k * 4)), .int .i64 (textZ l (k * 4 + 1)), .int .i64 (textZ l (k * 4 + 2)), .int .i64 (textZ l (k * 4 + 3))] 40))
              rw [World.size_alloc] at this
              exact this
            clear hb1 hsl hown ho1 CC
            go_wp2_with (at_builtin; refine wpList_append_own _ rfl (.tmp 37) (.tmp 39) 22 rfl w.heap.size 40 i0 (.agg #[.int .i64 0, .int .i64 0, .int .i64 0, .int .i64 0]) 4 32 Try.underlying22 hi hz0 hz1 hz2 rfl (by decide) _ _ _ rfl (unhide HO) ⟨w1.heap.size + 1, 0, none⟩ 1 1 [.int .i64 (textZ l (k * 4)), .int .i64 (textZ l (k * 4 + 1)), .int .i64 (textZ l (k * 4 + 2)), .int .i64 (textZ l (k * 4 + 3))] rfl rfl (unhide HNW) ?_ ?_ ?_ ?_ ?_)
            · simp [Value.oneCell']
            · unfold maxLen; omega
            · omega
            · simp only [World.size_alloc]; omega
            · intro v' w2 hown1 hgrow _
              have bw : Below w.heap.size w w2 := ((b1.alloc s1 _).alloc (by rw [World.size_alloc]; omega) _).grown hgrow (by simp only [World.size_alloc]; omega) HE.out
              have hown2 : w2.ownsRow w.heap.size 40 4 v' (k + 1) (rowL (intF (textZ l)) ((k + 1) * 4)) := by rw [← rowL_more4]; exact hown1
              obtain ⟨x', rfl⟩ : ∃ x' : Sl, v' = .slice x'.a x'.n x'.c := by
                rcases own_of_owns hown2 with ⟨rfl, _⟩ | ⟨g, cap, rfl, _⟩
                · exact ⟨⟨none, 0, 0⟩, rfl⟩
                · exact ⟨⟨some ⟨g, 0, none⟩, k + 1, cap⟩, rfl⟩
              have HO2 := hide hown2
              clear hown2 hown1 hgrow HO HE HNW b1 hb
              go_wp2
              go_roundw
              case rel =>
                refine ⟨k + 1, x', by omega, rfl, by go_num, HO2.out, fun j hj => ?_, bw⟩
                by_cases e : j = k
                · subst e; exact HM.out
                · exact HA.out j (by omega)
              case measure => simp [intOf]; omega
        · have hkN : k = textN l := by omega
          have i1 : ¬ (1 + 4 * (k : Int)) < 1 + 4 * (textN l : Int) := by omega
          obtain ⟨hxn, hxy, hxo⟩ : x.n = k ∧ (x.a = none → x.n = 0 ∧ x.c = 0) ∧ (0 < x.n → ∃ b, x.a = some ⟨b, 0, none⟩ ∧ w.heap.size ≤ b ∧ b < wr.heap.size ∧ Own wr b (x.n * 4) (intF (textZ l))) := by
            rcases own_of_owns hown with ⟨e, h0⟩ | ⟨g, cap, e, hg1, _, _, ho⟩
            · simp only [Value.slice.injEq] at e
              exact ⟨by omega, fun _ => ⟨e.2.1, e.2.2⟩, fun h => by omega⟩
            · simp only [Value.slice.injEq] at e
              obtain ⟨e1, e2, e3⟩ := e
              exact ⟨e2, (fun h => by rw [e1] at h; cases h), fun _ => ⟨g, e1, hg1, ho.lt, by rw [e2]; exact ho⟩⟩
          have hrow : Row wr x.a (x.n * 4) fun i => .int .i64 (textZ l i) := by
            by_cases hp : 0 < x.n
            · obtain ⟨b, e, _, _, ho⟩ := hxo hp
              rw [e]; exact ho.row
            · rw [show x.n = 0 by omega, Nat.zero_mul]; exact row_zero _ _ _
          have HX := hide (And.intro hxn (And.intro hxy hxo))
          have C := hide (rprogMay_any x.a x.n x.c (textZ l) wr (by omega) hrow)
          have hxN : x.n = textN l := by omega
          rw [hxN] at C
          clear hown hxn hxy hxo hrow
          cases hm : progMay (textN l) (textZ l)
          · have HNO : Hid (getPOk l = false) := by show getPOk l = false; unfold getPOk; rw [hm, Bool.and_false]
            rw [hm] at C
            have hxN' := hide hxN
            rw [hxN]
            clear hxN
            go_wp2_with fail
            refine C.out.mono ?_
            rintro e w1 ⟨rfl, hb1⟩
            have b1 : Below w.heap.size w w1 := Below.on hb hb1
            clear hb1 C
            go_wp2
            go_ret2
            exact getP_no HNO.out b1
          · have HOK : Hid (getPOk l = true) := by show getPOk l = true; unfold getPOk; rw [hm, decide_eq_true HL.out]; rfl
            rw [hm] at C
            have hxN' := hide hxN
            rw [hxN]
            clear hxN
            go_wp2_with fail
            refine C.out.mono ?_
            rintro e w1 ⟨rfl, hb1⟩
            have b1 : Below w.heap.size w w1 := Below.on hb hb1
            have z1 := hb1.size
            have HB := hide hb1
            clear hb1 C
            go_wp2
            go_ret2
            refine ⟨x, ?_, HX.out.2.1, fun _ => hxN'.out, fun h => ?_, fun hp => ?_, b1⟩
            · unfold getPE; rw [HOK.out, hxN'.out]; rfl
            · rw [HOK.out] at h; cases h
            · obtain ⟨b, e, g1, g2, ho⟩ := HX.out.2.2 hp
              exact ⟨b, e, g1, by omega, ho.on HB.out⟩
    · have hl2 : ((l.length : Int) != 1 + 4 * (textN l : Int)) = true := by
        rw [bne_iff_ne]; omega
      have hno : getPOk l = false := by unfold getPOk; rw [decide_eq_false hl]; rfl
      go_enter Try.func12, Try.ntmps12
      go_wp2
      go_ret2
      exact getP_no hno (Below.refl _ _)
  · obtain rfl : l = [] := eq_of_beq he
    unfold textS
    go_enter Try.func12, Try.ntmps12
    go_wp2
    go_ret2
    exact getP_no rfl (Below.refl _ _)

end Go.Proofs.Ytkomapgmhipkaaa
