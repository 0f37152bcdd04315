/-
  The law Starts, if package start's functions keep their statements.
-/
import Derived.Test.YtlaanhkmoficbaaQuietSess
import Derived.Test.YtlaanhkmoficbaaStartRef
import Derived.Test.YtlaanhkmoficbaaInstsLend
namespace Go.Proofs.Ytlaanhkmoficbaa
open Go.RowKit
set_option linter.unusedSimpArgs false
set_option linter.unusedVariables false

/-- What was lent, as a program. -/
theorem lent_insts {w : World} {g n : Nat} {z : Nat → Int} (O : Own w g ((n + 2) * 4) (intF (lentI z n))) : Row w (some ⟨g, 0, none⟩) (n * 4) fun k => .int .i64 (z k) :=
  (O.row.less (by omega)).congr fun i hi => by unfold intF lentI; rw [if_pos hi]

set_option maxRecDepth 100000 in
set_option maxHeartbeats 4000000 in
theorem starts_said (hM : MaySC) (hN : NewSC) (id l cl : Int) (a : Option Addr) (n c : Nat) (z : Nat → Int) (w : World) (f : n * 32 ≤ 140737488351232 ∧ n ≤ c ∧ (a = none → n = 0 ∧ c = 0)) (r : Row w a (n * 4) fun i => .int .i64 (z i)) :
    Calls Try.prog 3 #[startA id l cl (.slice a n c)] w fun e w' => e = .returned (.bool true) ∧ Below w.heap.size w w' := by
  obtain ⟨f1, f2, f3⟩ := f
  have C0 := hide fun w => awake11_any hM hN w
  have C1 := hide fun g cap w h => (hN id l cl (some ⟨g, 0, none⟩) n cap z w f1 (fun h => by cases h) h).mono fun _ _ h => newS_by h
  have C2 := hide fun w h => (rnewSession_any id l cl a n c z w f1 f3 h).mono fun _ _ h => newS_by h
  have C3 := hide fun g cap w h => hM id l cl (some ⟨g, 0, none⟩) n cap z w (by omega) h
  have C4 := hide fun w h => rstartMay_any id l cl a n c z w (by omega) h
  have C5 := hide fun w h => lendInsts_any a n c z w f1 f3 h
  have C6 := hide fun g cap w hc hl h => keptInsts_yes g cap a n c z w f1 hc hl h
  have hm := newN_le (startMay id l cl n z) n
  have HR := hide r
  clear hM hN r
  generalize newI (startMay id l cl n z) id l cl = I at *
  generalize newN (startMay id l cl n z) n = m at *
  generalize newE (startMay id l cl n z) = E at *
  generalize startMay id l cl n z = k at *
  have hm2 : Hid (m ≤ 1152921504606846976) := by show m ≤ _; omega
  clear hm f1 f2 f3
  unfold startA at *
  have b0 : Hid (Below w.heap.size w ((w.alloc (.cells #[.int .i64 id, .int .i64 l, .int .i64 cl, .slice a n c] 24)).alloc (.cells #[.int .i64 id, .int .i64 l, .int .i64 cl, .slice a n c] 24))) := ((Below.refl _ w).alloc (Nat.le_refl _) _).alloc (by simp) _
  have B0 : Hid (Blk ((w.alloc (.cells #[.int .i64 id, .int .i64 l, .int .i64 cl, .slice a n c] 24)).alloc (.cells #[.int .i64 id, .int .i64 l, .int .i64 cl, .slice a n c] 24)) w.heap.size (startL id l cl (.slice a n c))) := (blk_new w _ 24).alloc _
  have B1 : Hid (Blk ((w.alloc (.cells #[.int .i64 id, .int .i64 l, .int .i64 cl, .slice a n c] 24)).alloc (.cells #[.int .i64 id, .int .i64 l, .int .i64 cl, .slice a n c] 24)) (w.heap.size + 1) (startL id l cl (.slice a n c))) := by
    have := blk_new (w.alloc (.cells #[.int .i64 id, .int .i64 l, .int .i64 cl, .slice a n c] 24)) (startL id l cl (.slice a n c)) 24
    rw [World.size_alloc] at this
    exact this
  go_enter Try.func3, Try.ntmps3
  go_wp2_with fail
  generalize (w.alloc (.cells #[.int .i64 id, .int .i64 l, .int .i64 cl, .slice a n c] 24)).alloc (.cells #[.int .i64 id, .int .i64 l, .int .i64 cl, .slice a n c] 24) = w0 at *
  refine (C5.out _ (HR.out.below b0.out (Nat.le_refl _))).mono ?_
  rintro e w1 ⟨g, cap, rfl, hg, hcap, O, hb⟩
  have b1 := hide (Below.on b0.out hb)
  have sg : Hid (w.heap.size + 1 < g) := by have := B1.out.lt; show _ < g; omega
  replace B0 := hide (B0.out.on hb)
  replace B1 := hide (B1.out.on hb)
  replace O := hide O
  replace hcap := hide hcap
  have ff := B1.out.frozen
  obtain ⟨e0, e1, e2, e3⟩ := B1.out.start
  clear hb hg b0 C5
  go_upto_region 3 with (fail)
  replace b1 : Hid (Below w.heap.size w (w1.setCell ⟨w.heap.size + 1, 3, none⟩ (.slice (some ⟨g, 0, none⟩) n cap))) := b1.out.setCell (Nat.le_succ _) _
  replace B0 := hide (B0.out.far (a := ⟨w.heap.size + 1, 3, none⟩) (.slice (some ⟨g, 0, none⟩) n cap) (by simp))
  replace O := hide (O.out.far (a := ⟨w.heap.size + 1, 3, none⟩) (.slice (some ⟨g, 0, none⟩) n cap) (by have := sg.out; show g ≠ w.heap.size + 1; omega))
  replace B1 : Hid (Blk (w1.setCell ⟨w.heap.size + 1, 3, none⟩ (.slice (some ⟨g, 0, none⟩) n cap)) (w.heap.size + 1) (startL id l cl (.slice (some ⟨g, 0, none⟩) n cap))) := B1.out.set 3 _
  clear e0 e1 e2 e3 ff
  generalize w1.setCell ⟨w.heap.size + 1, 3, none⟩ (.slice (some ⟨g, 0, none⟩) n cap) = w2 at *
  have sg2 := hide O.out.lt
  obtain ⟨e0, e1, e2, e3⟩ := B1.out.start
  go_wp2_with fail
  refine (C1.out _ _ _ (lent_insts O.out)).mono ?_
  rintro e w3 ⟨xa, xc, rfl, OX, hb⟩
  have b3 := hide (Below.on b1.out hb)
  have s3 := hide hb.size
  replace B0 := hide (B0.out.on hb)
  replace B1 := hide (B1.out.on hb)
  replace O := hide (O.out.on hb)
  replace OX := hide OX
  clear hb b1 C1 e0 e1 e2 e3
  obtain ⟨e0, e1, e2, e3⟩ := B0.out.start
  go_wp2_with (refine wpList_store_all rfl 30 (.tmp 4) (.tmp 16) rfl _ _ (sessL I (.slice xa m xc) (.slice none 0 0) (.slice none 0 0)) rfl rfl (blk_new _ (sessL (fun _ => 0) (.slice none 0 0) (.slice none 0 0) (.slice none 0 0)) 30) rfl Try.sizeSess rfl ?_; intro w4 B4 TW _; have bt := made_touch TW; have b4 := hide (Below.on b3.out bt); have s4 := hide bt.size; replace B0 := hide (B0.out.on bt); replace B1 := hide (B1.out.on bt); replace O := hide (O.out.on bt); replace OX := hide (OX.out.on bt); replace B4 := hide B4; clear bt TW b3 e0 e1 e2 e3; obtain ⟨e0, e1, e2, e3⟩ := B0.out.start)
  refine (C2.out _ (HR.out.below b4.out (Nat.le_refl _))).mono ?_
  rintro e w5 ⟨ya, yc, rfl, OY, hb⟩
  have b5 := hide (Below.on b4.out hb)
  have s5 := hide hb.size
  replace B0 := hide (B0.out.on hb)
  replace B1 := hide (B1.out.on hb)
  replace B4 := hide (B4.out.on hb)
  replace O := hide (O.out.on hb)
  replace OX := hide (OX.out.on hb)
  replace OY := hide OY.row
  clear hb b4 C2 e0 e1 e2 e3
  go_wp2_with (refine wpList_store_all rfl 30 (.tmp 6) (.tmp 21) rfl _ _ (sessL I (.slice ya m yc) (.slice none 0 0) (.slice none 0 0)) rfl rfl (blk_new _ (sessL (fun _ => 0) (.slice none 0 0) (.slice none 0 0) (.slice none 0 0)) 30) rfl Try.sizeSess rfl ?_; intro w6 B6 TW _; have bt := made_touch TW; have b6 := hide (Below.on b5.out bt); have s6 := hide bt.size; replace B0 := hide (B0.out.on bt); replace B1 := hide (B1.out.on bt); replace B4 := hide (B4.out.on bt); replace O := hide (O.out.on bt); replace OX := hide (OX.out.on bt); replace OY := hide (OY.out.below bt (Nat.le_refl _)); replace B6 := hide B6; clear bt TW b5)
  have D1 : Hid (∀ u : Kin w6, Calls Try.prog 11 #[.int .i64 E] u.at_ fun e w'' => e = .returned (.int .i64 E) ∧ ∃ u' : Kin w6, w'' = u'.at_) := fun u => Calls.kin_same (num_any E u.at_)
  have D2 : Hid (∀ u : Kin w6, Calls Try.prog 10 #[sessA I (.slice xa m xc) (.slice none 0 0) (.slice none 0 0), sessA I (.slice ya m yc) (.slice none 0 0) (.slice none 0 0)] u.at_ fun e w'' => e = .returned (.bool true) ∧ ∃ u' : Kin w6, w'' = u'.at_) := fun u => Calls.kin_of (sameSession_yes I xa ya none none none none m xc yc 0 0 0 0 0 0 z (fun _ => 0) (fun _ => 0) u.at_ hm2.out (by omega) (by omega) (OX.out.row.below u.below (Nat.le_refl _)) (OY.out.below u.below (Nat.le_refl _)) (row_zero _ _ _) (row_zero _ _ _) (row_zero _ _ _) (row_zero _ _ _))
  have D3 : Hid (∀ u : Kin w6, Calls Try.prog 12 #[.agg #[.int .i64 id, .int .i64 l, .int .i64 cl, .slice (some ⟨g, 0, none⟩) n cap]] u.at_ fun e w'' => e = .returned (.bool k) ∧ ∃ u' : Kin w6, w'' = u'.at_) := fun u => Calls.kin_of (C3.out g cap u.at_ (lent_insts (O.out.on u.below)))
  have D4 : Hid (∀ u : Kin w6, Calls Try.prog 13 #[.agg #[.int .i64 id, .int .i64 l, .int .i64 cl, .slice a n c]] u.at_ fun e w'' => e = .returned (.bool k) ∧ ∃ u' : Kin w6, w'' = u'.at_) := fun u => Calls.kin_of (C4.out u.at_ (HR.out.below (Below.on b6.out u.below) (Nat.le_refl _)))
  obtain ⟨e0, e1, e2, e3⟩ := B0.out.kin4
  obtain ⟨g0, g1, g2, g3⟩ := B1.out.kin4
  have kne : Nonempty (Kin w6) := kin_any w6
  clear OY C3 C4
  refine wp_region_kin (by kernel_rfl) (by kernel_rfl) ?_
  repeat (first | (refine wpQuiet_load_sess rfl (.tmp 4) rfl _ rfl B4.out ?_; simp only [Act.put, List.setIfInBounds_toArray, List.set_cons_zero, List.set_cons_succ]) | (refine wpQuiet_load_sess rfl (.tmp 6) rfl _ rfl B6.out ?_; simp only [Act.put, List.setIfInBounds_toArray, List.set_cons_zero, List.set_cons_succ]) | (go_big_quiet_step ((first | (go_at_call 11; exact D1.out _) | (go_at_call 10; exact D2.out _) | (go_at_call 12; exact D3.out _) | (go_at_call 13; exact D4.out _)))))
  refine wpQuiet_nil ?_
  rintro _ ⟨u, rfl⟩
  have hb := u.below
  have b7 := hide (Below.on b6.out hb)
  have s7 := hide hb.size
  replace B0 := hide (B0.out.on hb)
  replace B1 := hide (B1.out.on hb)
  replace B4 := hide (B4.out.on hb)
  replace O := hide (O.out.on hb)
  replace OX := hide (OX.out.on hb)
  clear D1 D2 D3 D4 e0 e1 e2 e3 g0 g1 g2 g3 kne b6 B6 hb
  generalize u.at_ = w7 at *
  go_wp2_with (refine wpList_load_sess rfl (.tmp 4) rfl _ rfl B4.out ?_)
  refine (spoilSession_new I xa m xc z w2.heap.size w3.heap.size _ hm2.out OX.out).mono ?_
  rintro e w8 ⟨rfl, ht⟩
  have s2 : Hid (w.heap.size ≤ w2.heap.size) := by have := sg.out; have := sg2.out; show _ ≤ _; omega
  have b8 : Hid (Below w.heap.size w w8) := b7.out.trans ((ht.below (by have := s3.out; have := s4.out; have := s5.out; have := s6.out; have := s7.out; omega)).mono s2.out)
  replace B0 := hide (B0.out.touch ht (.inl (by have := sg.out; have := sg2.out; omega)))
  replace B1 := hide (B1.out.touch ht (.inl (by have := sg.out; have := sg2.out; omega)))
  replace O := hide (O.out.touch ht (.inl sg2.out))
  clear ht b7 OX B4 sg s2 s3 s4 s5 s6 s7 sg2
  have e3 := B0.out.cell 3 _ rfl
  have g3 := B1.out.cell 3 _ rfl
  go_wp2_with fail
  refine (C6.out _ _ _ hcap.out O.out (HR.out.below b8.out (Nat.le_refl _))).mono ?_
  rintro e w9 ⟨rfl, q, rfl⟩
  have b9 := hide (Below.drawn b8.out q)
  clear b8 e3 g3 O B0 B1 C6
  generalize w8.drewN q = w9 at *
  go_wp2_with fail
  refine (C0.out _).mono ?_
  rintro e w10 ⟨rfl, hb⟩
  have b10 := hide (Below.on b9.out hb)
  clear hb b9 C0
  go_wp2
  go_ret
  exact ⟨rfl, b10.out⟩

end Go.Proofs.Ytlaanhkmoficbaa
