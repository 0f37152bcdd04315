/-
  The law Arenas: the program's answers are the document's; what was handed in stays. Its walk, if the four functions keep their statements.
-/
import Derived.Test.YtmjclmjnkmhciaaArenaAwake
import Derived.Test.YtmjclmjnkmhciaaArenaSame
import Derived.Test.YtmjclmjnkmhciaaArenaSpoil
import Derived.Test.YtmjclmjnkmhciaaKin
namespace Go.Proofs.Ytmjclmjnkmhciaa
open Go.RowKit

theorem Arn.kin {w : World} {s : Nat → Sl} {z : Nat → Nat → Int} (h : Arn w s z) (u : Kin w) : Arn u.at_ s z := h.below u.below (Nat.le_refl _)

set_option maxRecDepth 10000 in
set_option maxHeartbeats 2000000 in
theorem arenas_said (hNew : NewC) (hMay : MayC) (hGet : GetC) (hPut : PutC) (s v : Nat → Sl) (z y : Nat → Nat → Int) (l i a b c : Int) (w : World) (hfs : Fit s) (hs : Arn w s z) (hfv : VFit v) (hv : Vals w v y) :
    Calls Try.prog 3 #[arenaA s, arenaA v, .int .i64 l, .int .i64 i, wordA a b c] w fun e w' => e = .returned (.bool true) ∧ Below w.heap.size w w' := by
  obtain ⟨x1, x2, x3, hgw⟩ := getW_word s z l i
  unfold arenaA wordA at *
  go_enter Try.func3, Try.ntmps3
  go_wp2_with fail
  have b0 : Below w.heap.size w (((w.alloc (.cells (arenaL s).toArray 23)).alloc (.cells (arenaL v).toArray 25)).alloc (.cells #[.int .i64 a, .int .i64 b, .int .i64 c] 27)) := by go_grown
  refine (copyArena_any s z _ hfs (hs.below b0 (Nat.le_refl _))).mono ?_
  rintro e w1 ⟨x, rfl, hxn, hxy, hxF, hb⟩
  have b1 := Below.on b0 hb
  have sz1 := hb.size
  simp only [World.size_alloc] at sz1
  have H : Held w1 [(w.heap.size, arenaL s), (w.heap.size + 1, arenaL v), (w.heap.size + 1 + 1, [.int .i64 a, .int .i64 b, .int .i64 c])] := by
    refine Held.on ?_ hb
    refine Held.cons (((blk_new w (arenaL s) _).alloc _).alloc _) (Held.cons ?_ (Held.cons ?_ (Held.nil _)))
    · have := (blk_new (w.alloc (.cells (arenaL s).toArray 23)) (arenaL v) 25).alloc (.cells #[.int .i64 a, .int .i64 b, .int .i64 c] 27)
      rw [World.size_alloc] at this
      exact this
    · have := blk_new ((w.alloc (.cells (arenaL s).toArray 23)).alloc (.cells (arenaL v).toArray 25)) [.int .i64 a, .int .i64 b, .int .i64 c] 27
      rw [World.size_alloc, World.size_alloc] at this
      exact this
  have HX := hide hxn
  have HXF := hide hxF
  have HXfit := hide (same_fit hxy hfs hxn)
  have HGW := hide hgw
  have HFS := hide hfs
  have HFV := hide hfv
  have HS := hide hs
  have HV := hide hv
  clear hb hxn hxF hxy hgw hfs hfv hs hv b0
  unfold arenaA
  obtain ⟨⟨c0, c1, c2, c3⟩, cf0, cf1, cf2, cf3⟩ := (H.at 1 rfl).four
  have cl := (H.at 1 rfl).lt
  go_wp2_with fail
  refine (hNew v y _ HFV.out (HV.out.below (b1.alloc b1.size _) (Nat.le_refl _))).mono ?_
  rintro e w2 ⟨ta, rfl, hay, haF, hb, hao, han⟩
  clear c0 c1 c2 c3 cf0 cf1 cf2 cf3 cl
  replace H := Held.cons ((blk_new w1 (arenaL x) 23).on hb) ((H.alloc _).on hb)
  have b2 := Below.on (b1.alloc b1.size _) hb
  have sz2 := hb.size
  rw [World.size_alloc] at sz2
  replace HXF : Hid (Fresh _ w1.heap.size w2 x z 4) := (HXF.out.alloc _).on hb
  have HAF := hide haF
  have HAO := hide hao
  have HAN := hide han
  have HAY := hide hay
  clear hb b1 haF hao han hay
  unfold arenaA
  obtain ⟨⟨c0, c1, c2, c3⟩, cf0, cf1, cf2, cf3⟩ := (H.at 2 rfl).four
  have cl := (H.at 2 rfl).lt
  go_wp2_with fail
  refine (rnewArena_any v y _ HFV.out.short (HV.out.below (b2.alloc b2.size _) (Nat.le_refl _))).mono ?_
  rintro e w3 ⟨tb, rfl, _, hbF, hb, hbo, hbn⟩
  clear c0 c1 c2 c3 cf0 cf1 cf2 cf3 cl
  replace H := Held.cons ((blk_new w2 (arenaL ta) 23).on hb) ((H.alloc _).on hb)
  have b3 := Below.on (b2.alloc b2.size _) hb
  have sz3 := hb.size
  rw [World.size_alloc] at sz3
  replace HXF : Hid (Fresh _ w1.heap.size w3 x z 4) := (HXF.out.alloc _).on hb
  replace HAF : Hid (Fresh _ w2.heap.size w3 ta (newZ y) 4) := (HAF.out.alloc _).on hb
  have HBA := hide hbF.arn
  have HE1 : Hid (sameLv ta tb (newZ y) (newZ y) 4 = true) := new_same HAO.out HAN.out hbo hbn
  have HBS : Hid (Short ta) := fun g hg => by
    cases e : newOk v y
    · rw [HAN.out e]; exact Nat.zero_le _
    · rw [HAO.out e g hg]; exact HFV.out.short g hg
  clear hb b2 hbF hbo hbn HAO HAN HFV HV
  unfold arenaA
  obtain ⟨⟨c0, c1, c2, c3⟩, cf0, cf1, cf2, cf3⟩ := (H.at 1 rfl).four
  have cl := (H.at 1 rfl).lt
  go_wp2_with fail
  refine (hGet x z l i _ HXfit.out (HXF.out.arn.below ((Below.refl w3.heap.size w3).alloc (Nat.le_refl _) _) (Nat.le_refl _))).mono ?_
  rintro e w4 ⟨rfl, hb⟩
  rw [(getW_congr HX.out l i).1, (getW_congr HX.out l i).2, HGW.out]
  clear c0 c1 c2 c3 cf0 cf1 cf2 cf3 cl
  replace H := Held.cons ((blk_new w3 (arenaL tb) 23).on hb) ((H.alloc _).on hb)
  have b4 := Below.on (b3.alloc b3.size _) hb
  have sz4 := hb.size
  rw [World.size_alloc] at sz4
  replace HXF : Hid (Fresh _ w1.heap.size w4 x z 4) := (HXF.out.alloc _).on hb
  replace HAF : Hid (Fresh _ w2.heap.size w4 ta (newZ y) 4) := (HAF.out.alloc _).on hb
  replace HBA : Hid (Arn w4 tb (newZ y)) := HBA.out.below (Below.on ((Below.refl w3.heap.size w3).alloc (Nat.le_refl _) _) hb) (Nat.le_refl _)
  clear hb b3
  obtain ⟨⟨c0, c1, c2, c3⟩, cf0, cf1, cf2, cf3⟩ := (H.at 3 rfl).four
  have cl := (H.at 3 rfl).lt
  go_wp2_with fail
  refine (rget_any s z l i _ HFS.out.short (HS.out.below (b4.alloc b4.size _) (Nat.le_refl _))).mono ?_
  rintro e w5 ⟨rfl, hb⟩
  rw [HGW.out]
  clear c0 c1 c2 c3 cf0 cf1 cf2 cf3 cl
  replace H := Held.cons ((blk_new w4 [.int .i64 x1, .int .i64 x2, .int .i64 x3] 27).on hb) ((H.alloc _).on hb)
  have b5 := Below.on (b4.alloc b4.size _) hb
  have sz5 := hb.size
  rw [World.size_alloc] at sz5
  replace HXF : Hid (Fresh _ w1.heap.size w5 x z 4) := (HXF.out.alloc _).on hb
  replace HAF : Hid (Fresh _ w2.heap.size w5 ta (newZ y) 4) := (HAF.out.alloc _).on hb
  replace HBA : Hid (Arn w5 tb (newZ y)) := HBA.out.below (Below.on ((Below.refl w4.heap.size w4).alloc (Nat.le_refl _) _) hb) (Nat.le_refl _)
  clear hb b4
  obtain ⟨⟨c0, c1, c2, c3⟩, cf0, cf1, cf2, cf3⟩ := (H.at 3 rfl).four
  have cl := (H.at 3 rfl).lt
  obtain ⟨⟨d0, d1, d2⟩, df0, df1, df2⟩ := (H.at 6 rfl).three
  have dl := (H.at 6 rfl).lt
  go_wp2_with fail
  refine (hPut x z l i a b c _ HXfit.out (HXF.out.arn.below ((Below.refl w5.heap.size w5).alloc (Nat.le_refl _) _) (Nat.le_refl _))).mono ?_
  rintro e w6 ⟨tp, zp, rfl, hpy, hpF, hb, hpo, hpn⟩
  clear c0 c1 c2 c3 cf0 cf1 cf2 cf3 cl
  clear d0 d1 d2 df0 df1 df2 dl
  replace H := Held.cons ((blk_new w5 [.int .i64 x1, .int .i64 x2, .int .i64 x3] 27).on hb) ((H.alloc _).on hb)
  have b6 := Below.on (b5.alloc b5.size _) hb
  have sz6 := hb.size
  rw [World.size_alloc] at sz6
  replace HXF : Hid (Fresh _ w1.heap.size w6 x z 4) := (HXF.out.alloc _).on hb
  replace HAF : Hid (Fresh _ w2.heap.size w6 ta (newZ y) 4) := (HAF.out.alloc _).on hb
  replace HBA : Hid (Arn w6 tb (newZ y)) := HBA.out.below (Below.on ((Below.refl w5.heap.size w5).alloc (Nat.le_refl _) _) hb) (Nat.le_refl _)
  have HPF := hide hpF
  have HPO := hide hpo
  have HPN := hide hpn
  clear hb b5 hpF hpo hpn hpy
  unfold arenaA
  obtain ⟨⟨c0, c1, c2, c3⟩, cf0, cf1, cf2, cf3⟩ := (H.at 5 rfl).four
  have cl := (H.at 5 rfl).lt
  obtain ⟨⟨d0, d1, d2⟩, df0, df1, df2⟩ := (H.at 7 rfl).three
  have dl := (H.at 7 rfl).lt
  go_wp2_with fail
  refine (rput_any s z l i a b c _ HFS.out (HS.out.below (b6.alloc b6.size _) (Nat.le_refl _))).mono ?_
  rintro e w7 ⟨tq, zq, rfl, _, hqF, hb, hqo, hqn⟩
  clear c0 c1 c2 c3 cf0 cf1 cf2 cf3 cl
  clear d0 d1 d2 df0 df1 df2 dl
  replace H := Held.cons ((blk_new w6 (arenaL tp) 23).on hb) ((H.alloc _).on hb)
  have b7 := Below.on (b6.alloc b6.size _) hb
  have sz7 := hb.size
  rw [World.size_alloc] at sz7
  replace HXF : Hid (Fresh _ w1.heap.size w7 x z 4) := (HXF.out.alloc _).on hb
  replace HAF : Hid (Fresh _ w2.heap.size w7 ta (newZ y) 4) := (HAF.out.alloc _).on hb
  replace HBA : Hid (Arn w7 tb (newZ y)) := HBA.out.below (Below.on ((Below.refl w6.heap.size w6).alloc (Nat.le_refl _) _) hb) (Nat.le_refl _)
  replace HPF : Hid (Fresh _ w6.heap.size w7 tp zp 4) := (HPF.out.alloc _).on hb
  have HQA := hide hqF.arn
  obtain ⟨hE2, hE3⟩ := put_same HX.out HPO.out HPN.out hqo hqn
  have HE2 := hide hE2
  rw [hE3]
  have HPS : Hid (Short tp) := fun g hg => by
    cases e : putOk x z l i a b c
    · rw [HPN.out e]; exact Nat.zero_le _
    · rw [(HPO.out e).1 g hg]; exact HXfit.out.short g hg
  clear hb b6 hqF hqo hqn hE2 hE3
  unfold arenaA
  go_wp2_with fail
  replace H : Held (w7.alloc (.cells #[.slice (tq 0).a (tq 0).n (tq 0).c, .slice (tq 1).a (tq 1).n (tq 1).c, .slice (tq 2).a (tq 2).n (tq 2).c, .slice (tq 3).a (tq 3).n (tq 3).c] 23)) _ := Held.cons (blk_new w7 (arenaL tq) 23) (H.alloc _)
  have b8 := b7.alloc b7.size (.cells #[.slice (tq 0).a (tq 0).n (tq 0).c, .slice (tq 1).a (tq 1).n (tq 1).c, .slice (tq 2).a (tq 2).n (tq 2).c, .slice (tq 3).a (tq 3).n (tq 3).c] 23)
  replace HXF : Hid (Fresh _ w1.heap.size (w7.alloc (.cells #[.slice (tq 0).a (tq 0).n (tq 0).c, .slice (tq 1).a (tq 1).n (tq 1).c, .slice (tq 2).a (tq 2).n (tq 2).c, .slice (tq 3).a (tq 3).n (tq 3).c] 23)) x z 4) := HXF.out.alloc _
  replace HAF : Hid (Fresh _ w2.heap.size (w7.alloc (.cells #[.slice (tq 0).a (tq 0).n (tq 0).c, .slice (tq 1).a (tq 1).n (tq 1).c, .slice (tq 2).a (tq 2).n (tq 2).c, .slice (tq 3).a (tq 3).n (tq 3).c] 23)) ta (newZ y) 4) := HAF.out.alloc _
  replace HBA : Hid (Arn (w7.alloc (.cells #[.slice (tq 0).a (tq 0).n (tq 0).c, .slice (tq 1).a (tq 1).n (tq 1).c, .slice (tq 2).a (tq 2).n (tq 2).c, .slice (tq 3).a (tq 3).n (tq 3).c] 23)) tb (newZ y)) := HBA.out.below ((Below.refl w7.heap.size w7).alloc (Nat.le_refl _) _) (Nat.le_refl _)
  replace HPF : Hid (Fresh _ w6.heap.size (w7.alloc (.cells #[.slice (tq 0).a (tq 0).n (tq 0).c, .slice (tq 1).a (tq 1).n (tq 1).c, .slice (tq 2).a (tq 2).n (tq 2).c, .slice (tq 3).a (tq 3).n (tq 3).c] 23)) tp zp 4) := HPF.out.alloc _
  replace HQA : Hid (Arn (w7.alloc (.cells #[.slice (tq 0).a (tq 0).n (tq 0).c, .slice (tq 1).a (tq 1).n (tq 1).c, .slice (tq 2).a (tq 2).n (tq 2).c, .slice (tq 3).a (tq 3).n (tq 3).c] 23)) tq zq) := HQA.out.below ((Below.refl w7.heap.size w7).alloc (Nat.le_refl _) _) (Nat.le_refl _)
  have HE4 : Hid (amay x z = amay s z) := amay_congr HX.out
  clear b7
  generalize w7.alloc (.cells #[.slice (tq 0).a (tq 0).n (tq 0).c, .slice (tq 1).a (tq 1).n (tq 1).c, .slice (tq 2).a (tq 2).n (tq 2).c, .slice (tq 3).a (tq 3).n (tq 3).c] 23) = W at *
  have HSA : Hid (Arn W s z) := HS.out.below b8 (Nat.le_refl _)
  obtain ⟨p0, p1, p2, p3⟩ := Blk.kin4 (H.at 0 rfl)
  obtain ⟨q0, q1, q2, q3⟩ := Blk.kin4 (H.at 1 rfl)
  obtain ⟨r0, r1, r2⟩ := Blk.kin3 (H.at 2 rfl)
  obtain ⟨t0, t1, t2⟩ := Blk.kin3 (H.at 3 rfl)
  obtain ⟨u0, u1, u2, u3⟩ := Blk.kin4 (H.at 4 rfl)
  obtain ⟨v0, v1, v2, v3⟩ := Blk.kin4 (H.at 5 rfl)
  obtain ⟨o0, o1, o2, o3⟩ := Blk.kin4 (H.at 6 rfl)
  obtain ⟨m0, m1, m2, m3⟩ := Blk.kin4 (H.at 7 rfl)
  have C1 : Hid (∀ u : Kin W, Calls Try.prog 15 #[arenaA ta, arenaA tb] u.at_ fun e w' => e = .returned (.bool true) ∧ Below u.at_.heap.size u.at_ w') := fun u => by
    have h := sameArena_any ta tb (newZ y) (newZ y) u.at_ HBS.out (HAF.out.arn.kin _) (HBA.out.kin _)
    rw [HE1.out] at h
    exact h
  have C2 : Hid (∀ u : Kin W, Calls Try.prog 15 #[arenaA tp, arenaA tq] u.at_ fun e w' => e = .returned (.bool true) ∧ Below u.at_.heap.size u.at_ w') := fun u => by
    have h := sameArena_any tp tq zp zq u.at_ HPS.out (HPF.out.arn.kin _) (HQA.out.kin _)
    rw [HE2.out] at h
    exact h
  have C3 : Hid (∀ u : Kin W, Calls Try.prog 17 #[arenaA x] u.at_ fun e w' => e = .returned (.bool (amay s z)) ∧ Below u.at_.heap.size u.at_ w') := fun u => by
    have h := hMay x z u.at_ HXfit.out (HXF.out.arn.kin _)
    rw [HE4.out] at h
    exact h
  have C4 : Hid (∀ u : Kin W, Calls Try.prog 18 #[arenaA s] u.at_ fun e w' => e = .returned (.bool (amay s z)) ∧ Below u.at_.heap.size u.at_ w') := fun u => rarenaMay_any s z u.at_ HFS.out.short (HSA.out.kin _)
  have kne : Nonempty (Kin W) := kin_any W
  refine wp_region_kin (by kernel_rfl) (by kernel_rfl) ?_
  repeat (go_big_quiet_step ((first | (go_at_call 16; exact Calls.kin_same (num_any _ _)) | (go_at_call_of 15 (ta 0); exact Calls.kin_of (C1.out _)) | (go_at_call_of 15 (tp 0); exact Calls.kin_of (C2.out _)) | (go_at_call 17; exact Calls.kin_of (C3.out _)) | (go_at_call 18; exact Calls.kin_of (C4.out _)))))
  refine wpQuiet_nil ?_
  rintro _ ⟨u, rfl⟩
  have hu := u.below
  have Ba := (H.at 5 rfl).on hu
  have Bp := (H.at 1 rfl).on hu
  have Bx := (H.at 6 rfl).on hu
  have Bs := (H.at 7 rfl).on hu
  have b9 := Below.on b8 hu
  have sW := (H.at 0 rfl).lt
  have su := hu.size
  have XF := HXF.out.on hu
  have AF := HAF.out.on hu
  have PF := HPF.out.on hu
  rw [World.size_alloc] at AF PF
  simp only [World.size_alloc] at XF
  clear C1 C2 C3 C4 HSA HQA HBA HXF HAF HPF H HE4 b8 p0 p1 p2 p3 q0 q1 q2 q3 r0 r1 r2 t0 t1 t2 u0 u1 u2 u3 v0 v1 v2 v3 o0 o1 o2 o3 m0 m1 m2 m3 HPO HPN HE1 HE2
  generalize u.at_ = w8 at *
  clear hu
  obtain ⟨⟨c0, c1, c2, c3⟩, cf0, cf1, cf2, cf3⟩ := Ba.four
  have cl := Ba.lt
  have HXF := hide XF
  have HAF := hide AF
  have HPF := hide PF
  clear XF AF PF
  go_wp2_with fail
  refine (spoilArena_any _ _ ta _ _ HBS.out HAF.out (by omega)).mono ?_
  rintro e w9 ⟨rfl, tc⟩
  clear c0 c1 c2 c3 cf0 cf1 cf2 cf3 cl
  replace Bp := Bp.touch tc (.inr (by omega))
  replace Bx := Bx.touch tc (.inl (by omega))
  replace Bs := Bs.touch tc (.inl (by omega))
  replace HXF : Hid (Fresh _ _ w9 x z 4) := HXF.out.touch tc (.inr (by omega))
  replace HPF : Hid (Fresh _ _ w9 tp zp 4) := HPF.out.touch tc (.inl (by omega))
  have b10 : Below w.heap.size w w9 := b9.trans ((tc.below (by omega)).mono (by omega))
  have s9 := tc.size
  clear tc b9 HAF Ba
  obtain ⟨⟨c0, c1, c2, c3⟩, cf0, cf1, cf2, cf3⟩ := Bp.four
  have cl := Bp.lt
  go_wp2_with fail
  refine (spoilArena_any _ _ tp _ _ HPS.out HPF.out (by omega)).mono ?_
  rintro e w10 ⟨rfl, tc⟩
  clear c0 c1 c2 c3 cf0 cf1 cf2 cf3 cl
  replace Bx := Bx.touch tc (.inl (by omega))
  replace Bs := Bs.touch tc (.inl (by omega))
  replace HXF : Hid (Fresh _ _ w10 x z 4) := HXF.out.touch tc (.inr (by omega))
  have b11 : Below w.heap.size w w10 := b10.trans ((tc.below (by omega)).mono (by omega))
  clear tc b10 HPF Bp
  obtain ⟨⟨c0, c1, c2, c3⟩, cf0, cf1, cf2, cf3⟩ := Bx.four
  have cl := Bx.lt
  obtain ⟨⟨d0, d1, d2, d3⟩, df0, df1, df2, df3⟩ := Bs.four
  have dl := Bs.lt
  go_wp2_with fail
  refine (sameArena_any x s z z _ HXfit.out.short HXF.out.arn (HS.out.below b11 (Nat.le_refl _))).mono ?_
  rintro e w11 ⟨rfl, hb⟩
  rw [sameLv_mk fun g hg => ⟨HX.out g hg, fun _ _ => rfl⟩]
  clear c0 c1 c2 c3 cf0 cf1 cf2 cf3 cl
  clear d0 d1 d2 d3 df0 df1 df2 df3 dl
  have b12 := Below.on b11 hb
  clear hb b11 Bx Bs HXF
  go_wp2_with fail
  refine (awake4_any hNew hMay hGet hPut _).mono ?_
  rintro e w12 ⟨rfl, hb⟩
  have b13 := Below.on b12 hb
  clear hb
  go_wp2
  go_ret
  exact ⟨rfl, b13⟩

end Go.Proofs.Ytmjclmjnkmhciaa
