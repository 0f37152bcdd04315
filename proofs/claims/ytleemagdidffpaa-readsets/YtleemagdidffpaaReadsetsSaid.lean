/-
  The law Readsets, if package readset's functions keep their statements.
-/
import Derived.Test.YtleemagdidffpaaReadsetsReg1
import Derived.Test.YtleemagdidffpaaArenaSame
import Derived.Deep.Cut
namespace Go.Proofs.Ytleemagdidffpaa
open Go.RowKit
set_option linter.unusedSimpArgs false
set_option linter.unusedVariables false

/-- A row that was there before, in a world where only a block behind has turned. -/
theorem Row.touchOf {w0 w w' : World} {B C : Nat} {a : Option Addr} {n : Nat} {f f0 : Nat → Value} (h0 : Row w0 a n f0) (h : Row w a n f) (ht : Touch B C w w') (hB : w0.heap.size ≤ B) : Row w' a n f := by
  intro i hi
  obtain ⟨b, off, e, hlt, hc⟩ := h i hi
  obtain ⟨b', off', e', hlt', _⟩ := h0 i hi
  rw [e] at e'
  cases e'
  exact ⟨b, off, e, Nat.lt_of_lt_of_le hlt ht.size, by rw [← hc]; exact World.cell?_of_block (w := w) (a := ⟨b, off + i, .none⟩) (ht.block b (.inl (by omega)) hlt)⟩
theorem lent_row {w : World} {g n : Nat} {z : Nat → Int} (h : Own w g ((n + 2) * 3) (intF (lentR z n))) : Row w (some ⟨g, 0, none⟩) (n * 3) fun i => .int .i64 (z i) :=
  (h.row.less (by omega)).congr fun i hi => by unfold intF lentR; rw [if_pos hi]

set_option maxRecDepth 100000 in
set_option maxHeartbeats 8000000 in
theorem readsets_said (hM : MayRC) (hW : WithRC) (hG : GoodRC) (hC : ChgRC) (a : Option Addr) (n c : Nat) (z : Nat → Int) (l i v : Int) (s : Nat → Sl) (y : Nat → Nat → Int) (d : Int) (w : World) (hn : n * 24 ≤ 140737488351232) (hc : n ≤ c) (ha : a = none → n = 0 ∧ c = 0) (h : Row w a (n * 3) fun i => .int .i64 (z i)) (hf : Fit s) (hA : Arn w s y) :
    Calls Try.prog 3 #[.slice a n c, wordA l i v, arenaA s, .int .i64 d] w fun e w' => e = .returned (.bool true) ∧ Below w.heap.size w w' := by
  have C0 := hide fun w => awake9_any hM hW hG hC w
  have CW1 := hide fun g cap w h => (hW (some ⟨g, 0, none⟩) n (cap + (n + 2)) z l i v w (by omega) (by omega) (fun e => by cases e) h).mono fun _ _ h => with_any h
  have CW2 := hide fun w h => (rwithRead_any a n c z l i v w (by omega) ha h).mono fun _ _ h => with_any h
  have CG1 := hide fun t g cap w (hft : Fit t) (htn : ∀ g, g < 4 → (t g).n = (s g).n) hA h => (good_congr (y := y) (n := n) (z := z) (d := d) htn).1 ▸ (good_congr (y := y) (n := n) (z := z) (d := d) htn).2 ▸ hG t y (some ⟨g, 0, none⟩) n (cap + (n + 2)) z d w hft hA (by omega) (by omega) h
  have CG2 := hide fun w hA h => rgood_any s y a n c z d w hf.short hA (by omega) h
  have CC1 := hide fun t g cap w (hft : Fit t) (htn : ∀ g, g < 4 → (t g).n = (s g).n) hA h => (chg_congr (y := y) (n := n) (z := z) htn).1 ▸ (chg_congr (y := y) (n := n) (z := z) htn).2 ▸ hC t y (some ⟨g, 0, none⟩) n (cap + (n + 2)) z w hft hA (by omega) (by omega) h
  have CC2 := hide fun w hA h => rchanged_any s y a n c z w hf.short hA (by omega) h
  have CM1 := hide fun g cap w h => hM (some ⟨g, 0, none⟩) n (cap + (n + 2)) z w (by omega) (by omega) h
  have CM2 := hide fun w h => rreadsMay_any a n c z w (by omega) h
  have wl := withN_le n z l i v
  have b0 : Below w.heap.size w ((w.alloc (.cells #[.int .i64 l, .int .i64 i, .int .i64 v] 24)).alloc (.cells (arenaL s).toArray 26)) := by go_grown
  have P := (blk_new w [.int .i64 l, .int .i64 i, .int .i64 v] 24).alloc (.cells (arenaL s).toArray 26)
  have B6 := blk_new (w.alloc (.cells #[.int .i64 l, .int .i64 i, .int .i64 v] 24)) (arenaL s) 26
  rw [World.size_alloc] at B6
  have HR := hide (h.below b0 (Nat.le_refl _))
  have HS := hide (hA.below b0 (Nat.le_refl _))
  have HN := hide ha
  have HF := hide hf
  have HFs := hide hf.short
  clear h hA ha hf hM hW hG hC
  generalize withN n z l i v = N, withE n z l i v = E, putR z n l i v = z' at *
  generalize goodV s y n z d = gv, goodE s y n z d = ge at *
  generalize chgV s y n z = qv, chgE s y n z = qe at *
  generalize readsMay n z = m at *
  unfold arenaA wordA at *
  go_enter Try.func3, Try.ntmps3
  go_upto_region 1 with (fail)
  change Blk ((w.alloc (.cells #[.int .i64 l, .int .i64 i, .int .i64 v] 24)).alloc (.cells #[.slice (s 0).a (s 0).n (s 0).c, .slice (s 1).a (s 1).n (s 1).c, .slice (s 2).a (s 2).n (s 2).c, .slice (s 3).a (s 3).n (s 3).c] 26)) _ _ at P B6
  change Below _ _ ((w.alloc (.cells #[.int .i64 l, .int .i64 i, .int .i64 v] 24)).alloc (.cells #[.slice (s 0).a (s 0).n (s 0).c, .slice (s 1).a (s 1).n (s 1).c, .slice (s 2).a (s 2).n (s 2).c, .slice (s 3).a (s 3).n (s 3).c] 26)) at b0
  change Hid (Row ((w.alloc (.cells #[.int .i64 l, .int .i64 i, .int .i64 v] 24)).alloc (.cells #[.slice (s 0).a (s 0).n (s 0).c, .slice (s 1).a (s 1).n (s 1).c, .slice (s 2).a (s 2).n (s 2).c, .slice (s 3).a (s 3).n (s 3).c] 26)) _ _ _) at HR
  change Hid (Arn ((w.alloc (.cells #[.int .i64 l, .int .i64 i, .int .i64 v] 24)).alloc (.cells #[.slice (s 0).a (s 0).n (s 0).c, .slice (s 1).a (s 1).n (s 1).c, .slice (s 2).a (s 2).n (s 2).c, .slice (s 3).a (s 3).n (s 3).c] 26)) _ _) at HS
  generalize (w.alloc (.cells #[.int .i64 l, .int .i64 i, .int .i64 v] 24)).alloc (.cells #[.slice (s 0).a (s 0).n (s 0).c, .slice (s 1).a (s 1).n (s 1).c, .slice (s 2).a (s 2).n (s 2).c, .slice (s 3).a (s 3).n (s 3).c] 26) = W at *
  refine readsets_reg1 a n c _ z s y W hn HN HR HF HS B6 _ _ _ _ _ _ _ _ _ _ _ _ _ _ _ _ _ _ _ _ _ _ _ _ _ _ _ _ _ _ _ _ _ _ _ _ _ _ _ _ _ _ _ _ _ _ _ _ _ _ _ _ _ _ _ _ _ _ _ _ _ _ _ _ _ _ _ _ _ _ _ _ _ _ _ _ _ _ _ _ _ _ _ _ _ _ _ _ _ _ _ _ _ _ _ _ _ _ _ _ _ _ _ _ _ _ _ _ _ _ _ _ _ _ _ _ _ ?_
  intro g cap0 b10 t u23 u24 u25 u26 w1 hcap O htn hny hA B10 hb
  obtain ⟨cap, rfl⟩ : ∃ cap, cap0 = cap + (n + 2) := ⟨cap0 - (n + 2), by omega⟩
  have HO := hide O
  have HA := hide hA
  have HTN := hide htn
  have HFT := hide (same_fit hny HF.out htn)
  have HO0 := hide O
  have HA0 := hide hA
  replace P := P.on hb
  replace B6 := B6.on hb
  replace HR := hide (HR.out.below hb (Nat.le_refl _))
  replace HS := hide (HS.out.below hb (Nat.le_refl _))
  have HR0 := HR
  have HS0 := HS
  have b1 := Below.on b0 hb
  have w1s := b1.size
  have bb6 := B6.lt
  have bb10 := B10.lt
  clear hb O hA htn hny b0 HF HN
  obtain ⟨⟨e0, e1, e2⟩, ef0, ef1, ef2⟩ := P.three
  go_wp2_with fail
  refine (CW1.out g cap _ (lent_row HO.out)).mono ?_
  rintro e w2 ⟨xa, xc, rfl, _, _, XR, XO, hb⟩
  replace P := P.on hb
  replace B6 := B6.on hb
  replace B10 := B10.on hb
  replace HO := hide (HO.out.on hb)
  replace HA := hide (HA.out.below hb (Nat.le_refl _))
  replace HR := hide (HR.out.below hb (Nat.le_refl _))
  replace HS := hide (HS.out.below hb (Nat.le_refl _))
  have b2 := Below.on b1 hb
  have HXR := hide XR
  have HXO := hide XO
  have t1 := hb.size
  clear hb b1 CW1 XR XO e0 e1 e2 ef0 ef1 ef2
  obtain ⟨⟨e0, e1, e2⟩, ef0, ef1, ef2⟩ := P.three
  go_wp2_with fail
  refine (CW2.out _ HR.out).mono ?_
  rintro e w3 ⟨ya, yc, rfl, _, _, YR, _, hb⟩
  replace P := P.on hb
  replace B6 := B6.on hb
  replace B10 := B10.on hb
  replace HO := hide (HO.out.on hb)
  replace HA := hide (HA.out.below hb (Nat.le_refl _))
  replace HR := hide (HR.out.below hb (Nat.le_refl _))
  replace HS := hide (HS.out.below hb (Nat.le_refl _))
  have b3 := Below.on b2 hb
  have HYR := hide YR
  replace HXR := hide (HXR.out.below hb (Nat.le_refl _))
  replace HXO : Hid (0 < N → ∃ b, xa = some ⟨b, 0, none⟩ ∧ w1.heap.size ≤ b ∧ Own w3 b (N * 3) (intF z')) := fun hp => by
    obtain ⟨b, x1, x2, _, x4⟩ := HXO.out hp
    exact ⟨b, x1, x2, x4.on hb⟩
  clear hb b2 CW2 YR e0 e1 e2 ef0 ef1 ef2 P
  obtain ⟨⟨d0, d1, d2, d3⟩, df0, df1, df2, df3⟩ := B10.four
  go_wp2_with fail
  refine (CG1.out t g cap _ HFT.out HTN.out HA.out (lent_row HO.out)).mono ?_
  rintro e w4 ⟨rfl, hb⟩
  replace B6 := B6.on hb
  replace B10 := B10.on hb
  replace HO := hide (HO.out.on hb)
  replace HA := hide (HA.out.below hb (Nat.le_refl _))
  replace HR := hide (HR.out.below hb (Nat.le_refl _))
  replace HS := hide (HS.out.below hb (Nat.le_refl _))
  have b4 := Below.on b3 hb
  replace HYR := hide (HYR.out.below hb (Nat.le_refl _))
  replace HXR := hide (HXR.out.below hb (Nat.le_refl _))
  replace HXO : Hid (0 < N → ∃ b, xa = some ⟨b, 0, none⟩ ∧ w1.heap.size ≤ b ∧ Own w4 b (N * 3) (intF z')) := fun hp => by
    obtain ⟨b, x1, x2, x4⟩ := HXO.out hp
    exact ⟨b, x1, x2, x4.on hb⟩
  clear hb b3 CG1 d0 d1 d2 d3 df0 df1 df2 df3
  obtain ⟨⟨d0, d1, d2, d3⟩, df0, df1, df2, df3⟩ := B6.four
  go_wp2_with fail
  refine (CG2.out _ HS.out HR.out).mono ?_
  rintro e w5 ⟨rfl, hb⟩
  replace B6 := B6.on hb
  replace B10 := B10.on hb
  replace HO := hide (HO.out.on hb)
  replace HA := hide (HA.out.below hb (Nat.le_refl _))
  replace HR := hide (HR.out.below hb (Nat.le_refl _))
  replace HS := hide (HS.out.below hb (Nat.le_refl _))
  have b5 := Below.on b4 hb
  replace HYR := hide (HYR.out.below hb (Nat.le_refl _))
  replace HXR := hide (HXR.out.below hb (Nat.le_refl _))
  replace HXO : Hid (0 < N → ∃ b, xa = some ⟨b, 0, none⟩ ∧ w1.heap.size ≤ b ∧ Own w5 b (N * 3) (intF z')) := fun hp => by
    obtain ⟨b, x1, x2, x4⟩ := HXO.out hp
    exact ⟨b, x1, x2, x4.on hb⟩
  clear hb b4 CG2 d0 d1 d2 d3 df0 df1 df2 df3
  obtain ⟨⟨d0, d1, d2, d3⟩, df0, df1, df2, df3⟩ := B10.four
  go_wp2_with fail
  refine (CC1.out t g cap _ HFT.out HTN.out HA.out (lent_row HO.out)).mono ?_
  rintro e w6 ⟨rfl, hb⟩
  replace B6 := B6.on hb
  replace B10 := B10.on hb
  replace HO := hide (HO.out.on hb)
  replace HA := hide (HA.out.below hb (Nat.le_refl _))
  replace HR := hide (HR.out.below hb (Nat.le_refl _))
  replace HS := hide (HS.out.below hb (Nat.le_refl _))
  have b6 := Below.on b5 hb
  replace HYR := hide (HYR.out.below hb (Nat.le_refl _))
  replace HXR := hide (HXR.out.below hb (Nat.le_refl _))
  replace HXO : Hid (0 < N → ∃ b, xa = some ⟨b, 0, none⟩ ∧ w1.heap.size ≤ b ∧ Own w6 b (N * 3) (intF z')) := fun hp => by
    obtain ⟨b, x1, x2, x4⟩ := HXO.out hp
    exact ⟨b, x1, x2, x4.on hb⟩
  clear hb b5 CC1 d0 d1 d2 d3 df0 df1 df2 df3
  obtain ⟨⟨d0, d1, d2, d3⟩, df0, df1, df2, df3⟩ := B6.four
  go_wp2_with fail
  refine (CC2.out _ HS.out HR.out).mono ?_
  rintro e w7 ⟨rfl, hb⟩
  replace B6 := B6.on hb
  replace B10 := B10.on hb
  replace HO := hide (HO.out.on hb)
  replace HA := hide (HA.out.below hb (Nat.le_refl _))
  replace HR := hide (HR.out.below hb (Nat.le_refl _))
  replace HS := hide (HS.out.below hb (Nat.le_refl _))
  have b7 := Below.on b6 hb
  replace HYR := hide (HYR.out.below hb (Nat.le_refl _))
  replace HXR := hide (HXR.out.below hb (Nat.le_refl _))
  replace HXO : Hid (0 < N → ∃ b, xa = some ⟨b, 0, none⟩ ∧ w1.heap.size ≤ b ∧ Own w7 b (N * 3) (intF z')) := fun hp => by
    obtain ⟨b, x1, x2, x4⟩ := HXO.out hp
    exact ⟨b, x1, x2, x4.on hb⟩
  clear hb b6 CC2 d0 d1 d2 d3 df0 df1 df2 df3
  have CS : Hid (Calls Try.prog 17 #[.slice xa N xc, .slice ya N yc] w7 fun e w' => e = .returned (.bool true) ∧ ∃ q, w' = w7.drewN q) := by
    have := sameReads_any xa ya N xc N yc z' z' w7 (by omega) HXR.out HYR.out
    rw [eqTo_mk fun _ _ => rfl, decide_eq_true rfl] at this
    exact this
  clear HYR HXR
  go_wp2_with (first | (go_at_call 18; refine (num_any _ _).mono ?_; rintro e w' ⟨rfl, rfl⟩) | (go_at_call 17; refine CS.out.mono ?_; rintro e w' ⟨rfl, q, rfl⟩))
  refine (CM1.out g cap _ ((lent_row HO.out).drewN _)).mono ?_
  rintro e w8 ⟨rfl, hb⟩
  replace hb : Below w7.heap.size w7 w8 := Below.on (Below.drawn (Below.refl _ _) _) hb
  replace B6 := B6.on hb
  replace B10 := B10.on hb
  replace HO := hide (HO.out.on hb)
  replace HA := hide (HA.out.below hb (Nat.le_refl _))
  replace HR := hide (HR.out.below hb (Nat.le_refl _))
  replace HS := hide (HS.out.below hb (Nat.le_refl _))
  have b8 := Below.on b7 hb
  replace HXO : Hid (0 < N → ∃ b, xa = some ⟨b, 0, none⟩ ∧ w1.heap.size ≤ b ∧ Own w8 b (N * 3) (intF z')) := fun hp => by
    obtain ⟨b, x1, x2, x4⟩ := HXO.out hp
    exact ⟨b, x1, x2, x4.on hb⟩
  clear hb b7 CM1 CS
  go_wp2_with fail
  refine (CM2.out _ HR.out).mono ?_
  rintro e w9 ⟨rfl, hb⟩
  replace B6 := B6.on hb
  replace B10 := B10.on hb
  replace HO := hide (HO.out.on hb)
  replace HA := hide (HA.out.below hb (Nat.le_refl _))
  replace HR := hide (HR.out.below hb (Nat.le_refl _))
  replace HS := hide (HS.out.below hb (Nat.le_refl _))
  have b9 := Below.on b8 hb
  replace HXO : Hid (0 < N → ∃ b, xa = some ⟨b, 0, none⟩ ∧ w1.heap.size ≤ b ∧ Own w9 b (N * 3) (intF z')) := fun hp => by
    obtain ⟨b, x1, x2, x4⟩ := HXO.out hp
    exact ⟨b, x1, x2, x4.on hb⟩
  clear hb b8 CM2
  have s1 : w.heap.size ≤ w9.heap.size := b9.size
  have g10 := HO0.out.lt
  have HSP : Hid (Calls Try.prog 21 #[.slice xa N xc] w9 fun e w' => e = .returned (.tuple #[]) ∧ ∃ bx, w1.heap.size ≤ bx ∧ Touch bx (bx + 1) w9 w') := by
    by_cases hp : 0 < N
    · obtain ⟨b, rfl, x2, x4⟩ := HXO.out hp
      exact (spoilReads_any b N xc z' w9 (by omega) x4).mono fun e w' ⟨he, _, ht, _⟩ => ⟨he, b, x2, ht⟩
    · obtain rfl : N = 0 := by omega
      exact (spoilReads_none xa xc w9).mono fun e w' ⟨he, hm⟩ => ⟨he, w1.heap.size, Nat.le_refl _, hm ▸ Touch.refl _ _ _⟩
  clear HXO
  go_wp2_with fail
  refine HSP.out.mono ?_
  rintro e w10 ⟨rfl, bx, hbx, ht⟩
  replace HR := hide (HR0.out.touchOf HR.out ht hbx)
  replace HS : Hid (Arn w10 s y) := fun g hg => (HS0.out g hg).touchOf (HS.out g hg) ht hbx
  replace HA : Hid (Arn w10 t y) := fun g hg => (HA0.out g hg).touchOf (HA.out g hg) ht hbx
  replace HO := hide (HO.out.touch ht (.inl (by omega)))
  replace B6 := B6.touch ht (.inl (by omega))
  replace B10 := B10.touch ht (.inl (by omega))
  have b10 : Below w.heap.size w w10 := b9.trans ⟨ht.os, ht.tape, ht.output, ht.size, fun k hk => ht.block k (.inl (by omega)) (by omega)⟩
  clear ht HSP b9 HR0 HS0 HA0 HO0
  go_wp2_with fail
  refine (keptReads_yes g (cap + (n + 2)) a n c z w10 hn (by omega) HO.out HR.out).mono ?_
  rintro e w11 ⟨rfl, q, rfl⟩
  replace B6 := B6.drawn q
  replace B10 := B10.drawn q
  replace HS : Hid (Arn (w10.drewN q) s y) := HS.out.drewN q
  replace HA : Hid (Arn (w10.drewN q) t y) := HA.out.drewN q
  replace b10 := Below.drawn b10 q
  clear HO HR
  generalize w10.drewN q = w11 at *
  obtain ⟨⟨d0, d1, d2, d3⟩, df0, df1, df2, df3⟩ := B6.four
  obtain ⟨⟨x0, x1, x2, x3⟩, xf0, xf1, xf2, xf3⟩ := B10.four
  have CA := sameArena_any t s y y w11 HFT.out.short HA.out HS.out
  rw [sameLv_mk fun g hg => ⟨HTN.out g hg, fun _ _ => rfl⟩] at CA
  unfold arenaA at CA
  have HCA := hide CA
  clear CA
  go_wp2_with fail
  refine HCA.out.mono ?_
  rintro e w12 ⟨rfl, hb⟩
  have b12 := Below.on b10 hb
  clear hb b10 HCA d0 d1 d2 d3 df0 df1 df2 df3 x0 x1 x2 x3 xf0 xf1 xf2 xf3 B6 B10 HA HS
  go_wp2_with fail
  refine (C0.out _).mono ?_
  rintro e w13 ⟨rfl, hb⟩
  have b13 := Below.on b12 hb
  clear hb b12 C0
  go_wp2
  go_ret
  exact ⟨rfl, b13⟩

end Go.Proofs.Ytleemagdidffpaa
