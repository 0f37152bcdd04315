/-
  The law StartApart, if package start's functions keep their statements.
-/
import Derived.Test.YtlaanhkmoficbaaStartAwake
import Derived.Test.YtlaanhkmoficbaaQuietSess
namespace Go.Proofs.Ytlaanhkmoficbaa
open Go.RowKit
set_option linter.unusedSimpArgs false
set_option linter.unusedVariables false

set_option maxRecDepth 100000 in
set_option maxHeartbeats 4000000 in
theorem startApart_said (hM : MaySC) (hN : NewSC) (id l cl : Int) (a : Option Addr) (n c : Nat) (z : Nat → Int) (w : World) (f : n * 32 ≤ 140737488351232 ∧ n ≤ c ∧ (a = none → n = 0 ∧ c = 0)) (r : Row w a (n * 4) fun i => .int .i64 (z i)) :
    Calls Try.prog 6 #[startA id l cl (.slice a n c)] w fun e w' => e = .returned (.bool true) ∧ Below w.heap.size w w' := by
  obtain ⟨f1, f2, f3⟩ := f
  have C0 := hide fun w => awake11_any hM hN w
  have C1 := hide fun w h => (hN id l cl a n c z w f1 f3 h).mono fun _ _ h => newS_by h
  have C2 := hide fun w h => hM id l cl a n c z w (by omega) h
  have hE := newE_zero (startMay id l cl n z)
  have hm := newN_le (startMay id l cl n z) n
  have HR := hide r
  have B0 := hide (blk_new w (startL id l cl (.slice a n c)) 24)
  have b0 : Hid (Below w.heap.size w (w.alloc (.cells #[.int .i64 id, .int .i64 l, .int .i64 cl, .slice a n c] 24))) := (Below.refl _ w).alloc (Nat.le_refl _) _
  change Hid (Blk (w.alloc (.cells #[.int .i64 id, .int .i64 l, .int .i64 cl, .slice a n c] 24)) w.heap.size (startL id l cl (.slice a n c))) at B0
  clear hM hN r
  generalize newI (startMay id l cl n z) id l cl = I at *
  generalize newN (startMay id l cl n z) n = m at *
  generalize newE (startMay id l cl n z) = E at *
  generalize startMay id l cl n z = k at *
  have hm2 : Hid (m ≤ 1152921504606846976) := by show m ≤ _; omega
  clear hm f1 f2 f3
  unfold startA at *
  go_enter Try.func6, Try.ntmps6
  go_wp2_with fail
  generalize w.alloc (.cells #[.int .i64 id, .int .i64 l, .int .i64 cl, .slice a n c] 24) = w0 at *
  refine (C0.out _).mono ?_
  rintro e w1 ⟨rfl, hb⟩
  have b1 := hide (Below.on b0.out hb)
  replace B0 := hide (B0.out.on hb)
  have s0 := hide B0.out.lt
  clear C0 hb b0
  obtain ⟨e0, e1, e2, e3⟩ := B0.out.start
  go_wp2_with fail
  refine (C1.out _ (HR.out.below b1.out (Nat.le_refl _))).mono ?_
  rintro e w2 ⟨xa, xc, rfl, OX, hb⟩
  have b2 := hide (Below.on b1.out hb)
  replace B0 := hide (B0.out.on hb)
  replace OX := hide OX
  have s1 := hide b1.out.size
  have s2 := hide hb.size
  clear hb b1 e0 e1 e2 e3
  go_wp2_with (refine wpList_store_all rfl 30 (.tmp 3) (.tmp 14) rfl _ _ (sessL I (.slice xa m xc) (.slice none 0 0) (.slice none 0 0)) rfl rfl (blk_new _ (sessL (fun _ => 0) (.slice none 0 0) (.slice none 0 0) (.slice none 0 0)) 30) rfl Try.sizeSess rfl ?_; intro w3 B3 TW _; have bt := made_touch TW; have b3 := hide (Below.on b2.out bt); replace B0 := hide (B0.out.on bt); replace OX := hide (OX.out.on bt); replace B3 := hide B3; have s3 := hide bt.size; clear bt TW b2; obtain ⟨e0, e1, e2, e3⟩ := B0.out.start)
  refine (C1.out _ (HR.out.below b3.out (Nat.le_refl _))).mono ?_
  rintro e w4 ⟨ya, yc, rfl, OY, hb⟩
  have b4 := hide (Below.on b3.out hb)
  replace B0 := hide (B0.out.on hb)
  replace B3 := hide (B3.out.on hb)
  replace OX := hide (OX.out.on hb)
  replace OY := hide OY
  have s4 := hide hb.size
  clear hb b3 e0 e1 e2 e3
  go_wp2_with (first | (refine wpList_store_all rfl 30 (.tmp 5) (.tmp 19) rfl _ _ (sessL I (.slice ya m yc) (.slice none 0 0) (.slice none 0 0)) rfl rfl (blk_new _ (sessL (fun _ => 0) (.slice none 0 0) (.slice none 0 0) (.slice none 0 0)) 30) rfl Try.sizeSess rfl ?_; intro w5 B5 TW _; have bt := made_touch TW; have b5 := hide (Below.on b4.out bt); replace B0 := hide (B0.out.on bt); replace B3 := hide (B3.out.on bt); replace OX := hide (OX.out.on bt); replace OY := hide (OY.out.on bt); replace B5 := hide B5; have s5 := hide bt.size; clear bt TW b4) | (go_at_call 11; refine (num_any _ _).mono ?_; rintro e w' ⟨rfl, rfl⟩) | (refine wpList_load_sess rfl (.tmp 3) rfl _ rfl B3.out ?_) | (refine wpList_load_sess rfl (.tmp 5) rfl _ rfl B5.out ?_))
  refine (sameSession_yes I xa ya none none none none m xc yc 0 0 0 0 0 0 z (fun _ => 0) (fun _ => 0) _ hm2.out (by omega) (by omega) OX.out.row OY.out.row (row_zero _ _ _) (row_zero _ _ _) (row_zero _ _ _) (row_zero _ _ _)).mono ?_
  rintro e w6 ⟨rfl, hb⟩
  have b6 := hide (Below.on b5.out hb)
  replace B0 := hide (B0.out.on hb)
  replace B3 := hide (B3.out.on hb)
  replace B5 := hide (B5.out.on hb)
  replace OX := hide (OX.out.on hb)
  replace OY := hide (OY.out.on hb)
  have s6 := hide hb.size
  clear hb b5
  go_wp2_with (refine wpList_load_sess rfl (.tmp 3) rfl _ rfl B3.out ?_)
  refine (spoilSession_new I xa m xc z w1.heap.size w2.heap.size _ hm2.out OX.out).mono ?_
  rintro e w7 ⟨rfl, ht⟩
  have b7 : Hid (Below w.heap.size w w7) := b6.out.trans ((ht.below (by have := s2.out; have := s3.out; have := s4.out; have := s5.out; have := s6.out; omega)).mono s1.out)
  replace B0 := hide (B0.out.touch ht (.inl s0.out))
  replace B5 := hide (B5.out.touch ht (.inr (by have := s3.out; have := s4.out; omega)))
  replace OY := hide (OY.out.touch ht s3.out)
  clear ht b6 OX B3 s0 s1 s2 s3 s4 s5 s6
  obtain ⟨e0, e1, e2, e3⟩ := B0.out.start
  go_wp2_with fail
  refine (C1.out _ (HR.out.below b7.out (Nat.le_refl _))).mono ?_
  rintro e w8 ⟨ua, uc, rfl, OU, hb⟩
  have b8 := hide (Below.on b7.out hb)
  replace B0 := hide (B0.out.on hb)
  replace B5 := hide (B5.out.on hb)
  replace OY := hide OY.out.row
  replace OY := hide (OY.out.below hb (Nat.le_refl _))
  replace OU := hide OU.row
  clear hb b7 e0 e1 e2 e3 C1
  go_wp2_with (refine wpList_store_all rfl 30 (.tmp 7) (.tmp 37) rfl _ _ (sessL I (.slice ua m uc) (.slice none 0 0) (.slice none 0 0)) rfl rfl (blk_new _ (sessL (fun _ => 0) (.slice none 0 0) (.slice none 0 0) (.slice none 0 0)) 30) rfl Try.sizeSess rfl ?_; intro w9 B9 TW _; have bt := made_touch TW; have b9 := hide (Below.on b8.out bt); replace B0 := hide (B0.out.on bt); replace B5 := hide (B5.out.on bt); replace OY := hide (OY.out.below bt (Nat.le_refl _)); replace OU := hide (OU.out.below bt (Nat.le_refl _)); replace B9 := hide B9; clear bt TW b8)
  have D1 : Hid (∀ u : Kin w9, Calls Try.prog 11 #[.int .i64 E] u.at_ fun e w'' => e = .returned (.int .i64 E) ∧ ∃ u' : Kin w9, w'' = u'.at_) := fun u => Calls.kin_same (num_any E u.at_)
  have D2 : Hid (∀ u : Kin w9, Calls Try.prog 10 #[sessA I (.slice ya m yc) (.slice none 0 0) (.slice none 0 0), sessA I (.slice ua m uc) (.slice none 0 0) (.slice none 0 0)] u.at_ fun e w'' => e = .returned (.bool true) ∧ ∃ u' : Kin w9, w'' = u'.at_) := fun u => Calls.kin_of (sameSession_yes I ya ua none none none none m yc uc 0 0 0 0 0 0 z (fun _ => 0) (fun _ => 0) u.at_ hm2.out (by omega) (by omega) (OY.out.below u.below (Nat.le_refl _)) (OU.out.below u.below (Nat.le_refl _)) (row_zero _ _ _) (row_zero _ _ _) (row_zero _ _ _) (row_zero _ _ _))
  have D3 : Hid (∀ u : Kin w9, Calls Try.prog 12 #[.agg #[.int .i64 id, .int .i64 l, .int .i64 cl, .slice a n c]] u.at_ fun e w'' => e = .returned (.bool k) ∧ ∃ u' : Kin w9, w'' = u'.at_) := fun u => Calls.kin_of (C2.out u.at_ (HR.out.below (Below.on b9.out u.below) (Nat.le_refl _)))
  obtain ⟨e0, e1, e2, e3⟩ := B0.out.kin4
  have kne : Nonempty (Kin w9) := kin_any w9
  clear B0 OY OU HR C2 hm2
  refine wp_region_kin (by kernel_rfl) (by kernel_rfl) ?_
  repeat (first | (refine wpQuiet_load_sess rfl (.tmp 5) rfl _ rfl B5.out ?_; simp only [Act.put, List.setIfInBounds_toArray, List.set_cons_zero, List.set_cons_succ]) | (refine wpQuiet_load_sess rfl (.tmp 7) rfl _ rfl B9.out ?_; simp only [Act.put, List.setIfInBounds_toArray, List.set_cons_zero, List.set_cons_succ]) | (go_big_quiet_step ((first | (go_at_call 11; exact D1.out _) | (go_at_call 10; exact D2.out _) | (go_at_call 12; exact D3.out _)))))
  refine wpQuiet_nil ?_
  rintro _ ⟨u, rfl⟩
  have b10 := Below.on b9.out u.below
  clear D1 D2 D3 B5 B9 e0 e1 e2 e3 kne b9
  go_wp2
  go_ret
  exact ⟨rfl, b10⟩

end Go.Proofs.Ytlaanhkmoficbaa
