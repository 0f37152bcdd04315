/-
  The landed split, With, Find and At of package writeset.
-/
import Derived.Test.YtjnolmpalfjacaaWritesProg
namespace Go.Proofs.Ytjnolmpalfjacaa
open Go.RowKit
set_option linter.unusedSimpArgs false
set_option linter.unusedVariables false

set_option maxRecDepth 10000 in
set_option maxHeartbeats 2000000 in
theorem wSplit_any (a : Option Addr) (n c : Nat) (z : Nat → Int) (l i : Int) (w : World) (H : Wr n z) (hc : n ≤ c) (h : Row w a (n * 3) fun i => .int .i64 (z i)) :
    Calls Try.prog 24 #[.slice a n c, .int .i64 l, .int .i64 i] w fun e w' => e = .returned (.tuple #[.slice a (posW n z l i) c, .slice (wFrom a c (posW n z l i)) (toW n z l i - posW n z l i) (c - posW n z l i), .slice (wFrom a c (toW n z l i)) (n - toW n z l i) (c - toW n z l i)]) ∧ Below w.heap.size w w' := by
  have hn := H.few
  have CP := hide (wPlace_any a n c z l i w (by omega) h)
  have hp := posW_le n z l i
  have ht := toW_le (l := l) (i := i) H
  have hpt : posW n z l i ≤ toW n z l i := by unfold toW; cases hasW n z l i <;> simp only [cond_true, cond_false] <;> omega
  have hs1 := fun W => run_wUpto a n c (posW n z l i) (by omega) W
  have hs2 := fun W => run_wPart a n c (posW n z l i) (toW n z l i) hpt (by omega) W
  have hs3 := fun W => run_wFrom a n c (toW n z l i) ht W
  cases hh : hasW n z l i
  · have et : toW n z l i = posW n z l i := by unfold toW; rw [hh]; rfl
    have HN := hide fun k hk => hasW_no hh k hk
    rw [et] at hs2 hs3 ⊢
    clear et ht hpt hh
    generalize posW n z l i = p at *
    go_enter Try.func24, Try.ntmps24
    go_wp2_with fail
    refine CP.out.mono ?_
    rintro e w1 ⟨rfl, b1⟩
    clear CP
    by_cases hlt : p < n
    · have i1 : (p : Int) < (n : Int) := by omega
      obtain ⟨b, off, hsa, hbl, d0, d1, d2⟩ := (h.below b1 (Nat.le_refl _)).at3 p hlt
      subst hsa
      clear h
      by_cases v0 : z (p * 3) = l
      · have v1 : ¬ z (p * 3 + 1) = i := fun e => HN.out p hlt ⟨v0, e⟩
        have dv : decide (z (p * 3 + 1) = i) = false := decide_eq_false v1
        have dv' : (z (p * 3 + 1) == i) = false := beq_eq_false_iff_ne.2 v1
        rw [v0] at d0
        clear v0
        go_wp2
        go_quiet (fail)
        go_wp2
        exact bodyPost_ret (v := .tuple #[_, _, _]) (by simp [results, Try.results24, go_sem]) rfl ⟨rfl, Below.drawn b1 _⟩
      · have dv : decide (z (p * 3) = l) = false := decide_eq_false v0
        have dv' : (z (p * 3) == l) = false := beq_eq_false_iff_ne.2 v0
        go_wp2
        go_quiet (fail)
        go_wp2
        exact bodyPost_ret (v := .tuple #[_, _, _]) (by simp [results, Try.results24, go_sem]) rfl ⟨rfl, Below.drawn b1 _⟩
    · have i1 : ¬ (p : Int) < (n : Int) := by omega
      clear h
      go_wp2
      go_quiet (fail)
      go_wp2
      exact bodyPost_ret (v := .tuple #[_, _, _]) (by simp [results, Try.results24, go_sem]) rfl ⟨rfl, Below.drawn b1 _⟩
  · have et : toW n z l i = posW n z l i + 1 := by unfold toW; rw [hh]; rfl
    obtain ⟨hlt, v0, v1⟩ := H.has hh
    rw [et] at hs2 hs3 ⊢
    clear et ht hpt hh
    generalize posW n z l i = p at *
    have i1 : (p : Int) < (n : Int) := by omega
    rw [show ((p + 1 : Nat) : Int) = (p : Int) + 1 by omega] at hs2 hs3
    go_enter Try.func24, Try.ntmps24
    go_wp2_with fail
    refine CP.out.mono ?_
    rintro e w1 ⟨rfl, b1⟩
    clear CP
    obtain ⟨b, off, hsa, hbl, d0, d1, d2⟩ := (h.below b1 (Nat.le_refl _)).at3 p hlt
    subst hsa
    rw [v0] at d0
    rw [v1] at d1
    clear h v0 v1
    go_wp2
    go_quiet (fail)
    go_wp2
    exact bodyPost_ret (v := .tuple #[_, _, _]) (by simp [results, Try.results24, go_sem]) rfl ⟨rfl, Below.drawn b1 _⟩

set_option maxRecDepth 10000 in
set_option maxHeartbeats 4000000 in
theorem with_wc : WithWC := by
  intro a n c z l i v w hn hc ha h
  obtain ⟨i0, hi, hz0, hz1, hz2⟩ := info_parts Try.infoWrite
  have CR := hide fun w h => may_wc a n c z w hn hc h
  have C1 := hide fun w => wAlone_any l i v w
  have b0 : Below w.heap.size w (w.alloc (.cells #[.int .i64 l, .int .i64 i, .int .i64 v] 24)) := by go_grown
  have B := blk_new w [.int .i64 l, .int .i64 i, .int .i64 v] 24
  have HR := hide (h.below b0 (Nat.le_refl _))
  have HH := hide h
  clear h
  unfold wordA
  go_enter Try.func9, Try.ntmps9
  go_wp2_with fail
  refine (CR.out _ HR.out).mono ?_
  rintro e w1 ⟨rfl, hb⟩
  have b1 := Below.on b0 hb
  have R1 := hide (HR.out.below hb (Nat.le_refl _))
  have B1 := B.on hb
  clear hb b0 HR B CR
  cases hr : writesMay n z
  · have HN := hide (withWOk_writes (l := l) (i := i) (v := v) hr)
    clear B1
    go_wp2
    go_ret2
    exact withW_no HN.out b1
  · obtain ⟨⟨c0, c1, c2⟩, f0, f1, f2⟩ := B1.three
    have bl := B1.lt
    go_wp2_with fail
    refine (C1.out _).mono ?_
    rintro e w2 ⟨rfl, hb⟩
    have b2 := Below.on b1 hb
    have R2 := hide (R1.out.below hb (Nat.le_refl _))
    have B2 := B1.on hb
    have s2 := b2.size
    have s1 := b1.size
    clear hb b1 R1 B1 C1 c0 c1 c2 f0 f1 f2
    cases hm : writeMay l i v
    · have HN := hide (withWOk_write (n := n) (z := z) hm)
      clear B2
      go_wp2
      go_ret2
      exact withW_no HN.out b2
    · have HOK := hide (withWOk_mk hr hm)
      have H := writesMay_get hr
      have n16 := H.few
      have m16 := (H.ins hm).few
      have hp := posW_le n z l i
      have ht := toW_le (l := l) (i := i) H
      have CS := hide fun w h => wSplit_any a n c z l i w H hc h
      have HZ : Hid (rowL (intF z) (posW n z l i * 3) = rowL (intF (withWZ n z l i v)) (posW n z l i * 3)) := rowL_congr fun j hj => by unfold intF withWZ; rw [insW_ahead hj]
      have HL : Hid (withWZ n z l i v (posW n z l i * 3) = l ∧ withWZ n z l i v (posW n z l i * 3 + 1) = i ∧ withWZ n z l i v (posW n z l i * 3 + 2) = v) := insW_at _ _ _ _ _ _
      have HX : Hid (rowL (intF (withWZ n z l i v)) ((posW n z l i + 1) * 3) ++ rowL (fun j => .int .i64 (z (toW n z l i * 3 + j))) ((n - toW n z l i) * 3) = rowL (intF (withWZ n z l i v)) ((posW n z l i + 1 + (n - toW n z l i)) * 3)) := by
        show _ = _
        rw [show (posW n z l i + 1 + (n - toW n z l i)) * 3 = (posW n z l i + 1) * 3 + (n - toW n z l i) * 3 by omega, rowL_add]
        congr 1
        exact rowL_congr fun j _ => by unfold intF withWZ; rw [insW_behind]
      have HF : Hid (posW n z l i + 1 + (n - toW n z l i) = posW n z l i + 1 + (n - toW n z l i)) := rfl
      have HA := hide ha
      have HA1 : Hid (a = none → posW n z l i = 0 ∧ c = 0) := fun e => ⟨by have := (ha e).1; omega, (ha e).2⟩
      have HA2 : Hid (wFrom a c (toW n z l i) = none → n - toW n z l i = 0 ∧ c - toW n z l i = 0) := fun e => by have := ha (wFrom_none e); omega
      have HR2 : Hid (∀ w : World, (Row w a (n * 3) fun i => .int .i64 (z i)) → (Row w a (posW n z l i * 3) fun i => .int .i64 (z i)) ∧ Row w (wFrom a c (toW n z l i)) ((n - toW n z l i) * 3) fun j => .int .i64 (z (toW n z l i * 3 + j))) := fun w h => ⟨h.less (by omega), row_wFrom h ht hc⟩
      clear H hr hm ha
      have hown : w2.ownsRow (w.heap.size + 1) 24 3 (.slice none 0 0) 0 [] := World.ownsRow_nil _ _ _ _
      obtain ⟨⟨c0, c1, c2⟩, f0, f1, f2⟩ := B2.three
      have bl := B2.lt
      generalize wFrom a c (posW n z l i) = a1 at *
      generalize wFrom a c (toW n z l i) = a2 at *
      generalize hpos : posW n z l i = p at *
      generalize hto : toW n z l i = t at *
      generalize hZ : withWZ n z l i v = Z at *
      have HPos := hide hpos
      have HTo := hide hto
      have HZZ := hide hZ
      clear hpos hto hZ hown
      go_wp2_with fail
      refine (CS.out _ R2.out).mono ?_
      rintro e w3 ⟨rfl, hb⟩
      have b3 := Below.on b2 hb
      have R3 := hide (R2.out.below hb (Nat.le_refl _))
      have B3 := B2.on hb
      have s3 := b3.size
      have HRa := hide (HR2.out _ R3.out).1
      have hown : w3.ownsRow (w.heap.size + 1) 24 3 (.slice none 0 0) 0 [] := World.ownsRow_nil _ _ _ _
      have HO := hide hown
      have s3' : w.heap.size + 1 ≤ w3.heap.size := B3.lt
      clear hown hb b2 R2 B2 CS c0 c1 c2 f0 f1 f2 bl
      go_wp2_with (at_builtin; refine wpList_append_row rfl (.const (.slice none 0 0)) (.tmp 28) 22 rfl (w.heap.size + 1) 24 i0 (.agg #[.int .i64 0, .int .i64 0, .int .i64 0]) 3 24 Try.underlying22 hi hz0 hz1 hz2 rfl (by decide) _ _ _ rfl (unhide HO) a p c (fun i => .int .i64 (z i)) rfl (unhide HA1) (unhide HRa) (fun _ => rfl) ?_ ?_ ?_ ?_)
      · unfold maxLen; omega
      · omega
      · omega
      · intro v' w4 hown' hg
        have bw : Below w3.heap.size w3 w4 := (Below.refl w3.heap.size w3).grown hg (Nat.le_refl _) (by intro j hj; simp [Value.ownBlock] at hj)
        have hown2 : w4.ownsRow (w.heap.size + 1) 24 3 v' p (rowL (intF Z) (p * 3)) := by
          rw [← HZ.out]
          first | exact hown' | (rw [Nat.zero_add, List.nil_append] at hown'; exact hown')
        obtain ⟨xa, xc, rfl, _⟩ := slice_of_owns hown2
        have HO2 := hide hown2
        have b4 := Below.on b3 bw
        have B4 := B3.on bw
        have s4 : w.heap.size + 1 ≤ w4.heap.size := B4.lt
        clear hown' hg hown2 HO HRa R3 bw B3 b3
        obtain ⟨⟨c0, c1, c2⟩, f0, f1, f2⟩ := B4.three
        have bl := B4.lt
        have HO5 := hide (HO2.out.alloc (.cells #[.int .i64 l, .int .i64 i, .int .i64 v] 24))
        have HE := hide (owns_block HO2.out)
        have HNW := hide (World.news_of_block (cs := #[.int .i64 l, .int .i64 i, .int .i64 v]) (t := 24) (fr := (0, 0)) (heap_alloc_new w4 (.cells #[.int .i64 l, .int .i64 i, .int .i64 v] 24)))
        clear HO2
        go_wp2_with (at_builtin; refine wpList_append_own _ rfl (.tmp 30) (.tmp 32) 22 rfl (w.heap.size + 1) 24 i0 (.agg #[.int .i64 0, .int .i64 0, .int .i64 0]) 3 24 Try.underlying22 hi hz0 hz1 hz2 rfl (by decide) _ _ _ rfl (unhide HO5) ⟨w4.heap.size, 0, none⟩ 1 1 [.int .i64 l, .int .i64 i, .int .i64 v] rfl rfl (unhide HNW) ?_ ?_ ?_ ?_ ?_)
        · simp [Value.oneCell']
        · unfold maxLen; omega
        · omega
        · first | omega | (simp only [World.size_alloc]; omega)
        · intro v' w5 hown1 hgrow _
          have b5 : Below w.heap.size w w5 := (b4.alloc (by omega) _).grown hgrow (by simp only [World.size_alloc]; omega) (fun k hk => by have := HE.out k hk; omega)
          have s5 := hgrow.size
          rw [World.size_alloc] at s5
          rw [rowL_three _ _ HL.out] at hown1
          obtain ⟨ya, yc, rfl, _⟩ := slice_of_owns hown1
          have HO6 := hide hown1
          clear hown1 hgrow HO5 HNW HE b4 B4 c0 c1 c2 f0 f1 f2 bl
          have HRb := hide (HR2.out _ (HH.out.below b5 (Nat.le_refl _))).2
          have HE := hide (owns_block HO6.out)
          go_wp2_with (at_builtin; refine wpList_append_row rfl (.tmp 34) (.tmp 35) 22 rfl (w.heap.size + 1) 24 i0 (.agg #[.int .i64 0, .int .i64 0, .int .i64 0]) 3 24 Try.underlying22 hi hz0 hz1 hz2 rfl (by decide) _ _ _ rfl (unhide HO6) a2 (n - t) (c - t) (fun j => .int .i64 (z (t * 3 + j))) rfl (unhide HA2) (unhide HRb) (fun _ => rfl) ?_ ?_ ?_ ?_)
          · unfold maxLen; omega
          · omega
          · omega
          · intro v' w6 hown' hg
            have b6 : Below w.heap.size w w6 := b5.grown hg (by omega) (fun k hk => by have := HE.out k hk; omega)
            rw [HX.out] at hown'
            obtain ⟨m, hm⟩ : ∃ m, m = p + 1 + (n - t) := ⟨_, rfl⟩
            rw [← hm] at hown' m16
            have HM := hide hm
            obtain ⟨za, zc, rfl, hzc, _, _, ho⟩ := slice_of_owns hown'
            have HO7 := hide ho
            clear hown' hg HO6 HRb HE b5 hm ho
            have i6 : ¬ (16 : Int) < (m : Int) := by omega
            go_wp2
            go_ret2
            subst HZZ
            exact withW_yes HOK.out (by rw [HPos.out, HTo.out]; exact HM.out) b6 hzc (fun hp => by obtain ⟨b, e1, e2, e3, e4⟩ := HO7.out hp; exact ⟨b, e1, by omega, e3, e4⟩)

set_option maxRecDepth 10000 in
set_option maxHeartbeats 2000000 in
theorem find_wc : FindWC := by
  intro a n c z l i w hn hc ha h
  have CR := hide (may_wc a n c z w hn hc h)
  go_enter Try.func11, Try.ntmps11
  go_wp2_with fail
  refine CR.out.mono ?_
  rintro e w1 ⟨rfl, b1⟩
  have R1 := hide (h.below b1 (Nat.le_refl _))
  clear CR h
  cases hr : writesMay n z
  · have HN : Hid (findIs n z l i = false) := by show findIs n z l i = false; rw [findIs, hr]; rfl
    clear hr
    go_wp2
    go_ret2
    exact ⟨ret_int_bool (find_no HN.out).symm HN.out.symm, b1⟩
  · have H := writesMay_get hr
    have CS := hide fun w h => wSplit_any a n c z l i w H hc h
    cases hh : hasW n z l i
    · have HN : Hid (findIs n z l i = false) := by show findIs n z l i = false; rw [findIs, hr, hh]; rfl
      have et : toW n z l i - posW n z l i = 0 := by unfold toW; rw [hh]; simp
      rw [et] at CS
      clear hr hh et H
      generalize wFrom a c (posW n z l i) = a1, wFrom a c (toW n z l i) = a2 at *
      generalize posW n z l i = p, toW n z l i = t at *
      go_wp2_with fail
      refine (CS.out _ R1.out).mono ?_
      rintro e w2 ⟨rfl, hb⟩
      have b2 := Below.on b1 hb
      clear CS hb b1 R1
      go_wp2
      go_ret2
      exact ⟨ret_int_bool (find_no HN.out).symm HN.out.symm, b2⟩
    · have hF := find_in H (inW_of_has H hh)
      have et : toW n z l i - posW n z l i = 1 := by unfold toW; rw [hh, cond_true]; omega
      have hlt := (H.has hh).1
      have HRR : Hid (∀ w : World, (Row w a (n * 3) fun i => .int .i64 (z i)) → Row w (wFrom a c (posW n z l i)) ((n - posW n z l i) * 3) fun j => .int .i64 (z (posW n z l i * 3 + j))) := fun w h => row_wFrom h (by omega) hc
      rw [et] at CS
      have HF := hide hF
      clear hr hh et H hF
      generalize wFrom a c (posW n z l i) = a1, wFrom a c (toW n z l i) = a2 at *
      generalize posW n z l i = p, toW n z l i = t at *
      go_wp2_with fail
      refine (CS.out _ R1.out).mono ?_
      rintro e w2 ⟨rfl, hb⟩
      have b2 := Below.on b1 hb
      obtain ⟨b, off, e, hbl, cell⟩ := HRR.out _ (R1.out.below hb (Nat.le_refl _)) 2 (by omega)
      subst e
      clear CS hb b1 R1 HRR
      go_wp2
      go_ret2
      exact ⟨ret_int_bool HF.out.2.symm HF.out.1.symm, b2⟩

theorem wAt1_any (l i v x : Int) (b : Nat) (w : World) (B : Blk w b [.int .i64 x]) :
    Calls Try.prog 27 #[.agg #[.int .i64 l, .int .i64 i, .int .i64 v], .pointer (some ⟨b, 0, none⟩)] w fun e w' => e = .returned (.bool (l == x)) ∧ Below w.heap.size w w' := by
  obtain ⟨c0, f0⟩ := B.one
  have bl := B.lt
  go_enter Try.func27, Try.ntmps27
  go_wp2
  go_ret
  exact ⟨ret_bool (by first | rfl | simp), by go_grown⟩

set_option maxHeartbeats 1000000 in
theorem at_wc : AtWC := by
  intro a n c z l w hn hc h
  have CR := hide fun w h => may_wc a n c z w hn hc h
  have b0 : Below w.heap.size w (w.alloc (.cells #[.int .i64 l] 3)) := by go_grown
  have B := blk_new w [.int .i64 l] 3
  have HR := hide (h.below b0 (Nat.le_refl _))
  clear h
  go_enter Try.func15, Try.ntmps15
  go_wp2_with fail
  refine (CR.out _ HR.out).mono ?_
  rintro e w1 ⟨rfl, hb⟩
  have b1 := Below.on b0 hb
  have R1 := hide (HR.out.below hb (Nat.le_refl _))
  have B1 := B.on hb
  clear hb b0 HR B CR
  cases hr : writesMay n z
  · have HN : Hid (atW n z l = false) := by show atW n z l = false; rw [atW, hr]; rfl
    clear hr B1
    go_wp2
    go_ret
    exact ⟨ret_bool HN.out.symm, b1⟩
  · have HN : Hid (atW n z l = allTo (atLv z l) n) := by show atW n z l = _; rw [atW, hr]; rfl
    have HA := hide (askAllW_any 27 #[] #[.pointer (some ⟨w.heap.size, 0, none⟩)] (atLv z l) a n c z w1 hn R1.out (fun _ _ => rfl) (fun k hk W hb => wAt1_any _ _ _ l w.heap.size W (B1.on hb)))
    clear hr
    go_wp2_with fail
    refine HA.out.mono ?_
    rintro e w2 ⟨rfl, hb⟩
    have b2 := Below.on b1 hb
    clear HA hb b1 B1 R1
    go_wp2
    go_ret
    exact ⟨ret_bool HN.out.symm, b2⟩

end Go.Proofs.Ytjnolmpalfjacaa
