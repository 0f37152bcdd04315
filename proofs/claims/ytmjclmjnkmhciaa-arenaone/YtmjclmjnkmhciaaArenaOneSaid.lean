/-
  The law ArenaOne: what is put is got, all other words are as they were. Its walk, if the four functions keep their statements.
-/
import Derived.Test.YtmjclmjnkmhciaaArenaAwake
import Derived.Test.YtmjclmjnkmhciaaArenaSame
namespace Go.Proofs.Ytmjclmjnkmhciaa
open Go.RowKit

/-- What was put there is got. -/
theorem get_put {s t : Nat → Sl} {z : Nat → Nat → Int} {l i a b c : Int} (h : putOk s z l i a b c = true) (ht : ∀ g, g < 4 → (t g).n = (s g).n) : getW t (putZ z l.toNat i.toNat a b c) l i = wordA a b c ∧ getE t (putZ z l.toNat i.toNat a b c) l i = 0 := by
  obtain ⟨h1, h2, h3⟩ := putOk_get h
  obtain ⟨g, k, rfl, rfl, hg, hk⟩ := thereV_get h2
  rw [Int.toNat_natCast, Int.toNat_natCast]
  obtain ⟨e1, e2⟩ := get_at (put_may (l := g) (i := k) h1 h3 ht) hg (by rw [ht g hg]; exact hk)
  rw [e1, e2]
  refine ⟨?_, rfl⟩
  unfold putZ
  rw [if_pos rfl]
  unfold putR
  rw [if_neg (by omega), if_neg (by omega), if_pos rfl, if_neg (by omega), if_pos rfl, if_pos rfl]
/-- The other words are got as they were. -/
theorem get_other {s t : Nat → Sl} {z : Nat → Nat → Int} {l i a b c p q : Int} (h : putOk s z l i a b c = true) (ht : ∀ g, g < 4 → (t g).n = (s g).n) : getE t (putZ z l.toNat i.toNat a b c) p q = getE s z p q ∧ (¬ (p = l ∧ q = i) → getW t (putZ z l.toNat i.toNat a b c) p q = getW s z p q) := by
  obtain ⟨h1, h2, h3⟩ := putOk_get h
  have hm := put_may (l := l.toNat) (i := i.toNat) h1 h3 ht
  have hth := thereV_congr ht p q
  constructor
  · unfold getE; rw [hm, h1, hth]
  · intro hne
    unfold getW
    rw [hm, h1, hth]
    cases e : thereV s p q
    · rfl
    · obtain ⟨g, k, rfl, rfl, hg, hk⟩ := thereV_get e
      obtain ⟨g', k', rfl, rfl, hg', hk'⟩ := thereV_get h2
      simp only [Int.toNat_natCast, Bool.true_and, cond_true]
      unfold putZ
      by_cases eg : g = g'
      · rw [if_pos eg]
        have hk2 : k ≠ k' := fun e2 => hne ⟨by rw [eg], by rw [e2]⟩
        unfold putR
        rw [if_neg (by omega), if_neg (by omega), if_neg (by omega), if_neg (by omega), if_neg (by omega), if_neg (by omega), if_neg (by omega), if_neg (by omega), if_neg (by omega)]
      · rw [if_neg eg]

set_option maxRecDepth 10000 in
set_option maxHeartbeats 4000000 in
theorem arenaOne_said (hNew : NewC) (hMay : MayC) (hGet : GetC) (hPut : PutC) (s : Nat → Sl) (z : Nat → Nat → Int) (l i a b c p q : Int) (w : World) (hfs : Fit s) (hs : Arn w s z) :
    Calls Try.prog 4 #[arenaA s, .int .i64 l, .int .i64 i, wordA a b c, .int .i64 p, .int .i64 q] w fun e w' => e = .returned (.bool true) ∧ Below w.heap.size w w' := by
  obtain ⟨x1, x2, x3, hgw⟩ := getW_word s z p q
  unfold arenaA wordA at *
  go_enter Try.func4, Try.ntmps4
  go_wp2_with fail
  have b0 : Below w.heap.size w ((w.alloc (.cells (arenaL s).toArray 23)).alloc (.cells #[.int .i64 a, .int .i64 b, .int .i64 c] 27)) := by go_grown
  refine (awake4_any hNew hMay hGet hPut _).mono ?_
  rintro e w1 ⟨rfl, hb⟩
  have b1 := Below.on b0 hb
  have H : Held w1 [(w.heap.size, arenaL s), (w.heap.size + 1, [.int .i64 a, .int .i64 b, .int .i64 c])] := by
    refine Held.on ?_ hb
    refine Held.cons ((blk_new w (arenaL s) _).alloc _) (Held.cons ?_ (Held.nil _))
    have := blk_new (w.alloc (.cells (arenaL s).toArray 23)) [.int .i64 a, .int .i64 b, .int .i64 c] 27
    rw [World.size_alloc] at this
    exact this
  have HGW := hide hgw
  have HFS := hide hfs
  have HS := hide hs
  clear hb hgw hfs hs b0
  obtain ⟨⟨c0, c1, c2, c3⟩, cf0, cf1, cf2, cf3⟩ := (H.at 0 rfl).four
  obtain ⟨⟨d0, d1, d2⟩, df0, df1, df2⟩ := (H.at 1 rfl).three
  go_wp2_with fail
  refine (hPut s z l i a b c _ HFS.out (HS.out.below b1 (Nat.le_refl _))).mono ?_
  rintro e w2 ⟨t, z', rfl, hny, hF, hb, hpo, hpn⟩
  clear c0 c1 c2 c3 cf0 cf1 cf2 cf3 d0 d1 d2 df0 df1 df2
  replace H := H.on hb
  have b2 := Below.on b1 hb
  have HA := hide hF.arn
  clear hb b1 hF
  unfold arenaA
  cases hok : putOk s z l i a b c
  · have ht := hpn hok
    have hE : putE s z l i a b c = 400 := by unfold putE; rw [hok]; rfl
    rw [hE]
    subst ht
    clear hE hpo hpn hny HA
    unfold nilS
    go_wp2_with (go_at_call 16; go_in)
    refine (sameArena_any nilS nilS z z _ (fun _ _ => Nat.zero_le _) (fun _ _ => row_zero _ _ _) (fun _ _ => row_zero _ _ _)).mono ?_
    rintro e w3 ⟨rfl, hb⟩
    rw [sameLv_nil]
    have b3 := Below.on (b2.alloc b2.size _) hb
    go_wp2
    go_ret
    exact ⟨rfl, b3⟩
  · obtain ⟨ht, hz⟩ := hpo hok
    have hE : putE s z l i a b c = 0 := by unfold putE; rw [hok]; rfl
    rw [hE]
    have HFt := hide (same_fit hny HFS.out ht)
    have HG1 := hide (get_put hok ht)
    have HG2 := hide (get_other (p := p) (q := q) hok ht)
    rw [← hz] at HG1 HG2
    clear hE hpo hpn hny ht hz hok
    by_cases hpq : p = l ∧ q = i
    · obtain ⟨rfl, rfl⟩ := hpq
      go_wp2_with (go_at_call 16; go_in)
      refine (hGet t z' p q _ HFt.out (HA.out.below ((Below.refl w2.heap.size w2).alloc (Nat.le_refl _) _) (Nat.le_refl _))).mono ?_
      rintro e w3 ⟨rfl, hb⟩
      rw [HG1.out.1, HG1.out.2]
      replace H := Held.cons ((blk_new w2 (arenaL t) 23).on hb) ((H.alloc _).on hb)
      have b3 := Below.on (b2.alloc b2.size _) hb
      replace HA : Hid (Arn w3 t z') := HA.out.below (Below.on ((Below.refl w2.heap.size w2).alloc (Nat.le_refl _) _) hb) (Nat.le_refl _)
      clear hb b2
      unfold wordA at *
      obtain ⟨⟨c0, c1, c2, c3⟩, cf0, cf1, cf2, cf3⟩ := (H.at 0 rfl).four
      have cl := (H.at 0 rfl).lt
      go_wp2_with fail
      refine (hGet t z' p q _ HFt.out (HA.out.below ((Below.refl w3.heap.size w3).alloc (Nat.le_refl _) _) (Nat.le_refl _))).mono ?_
      rintro e w4 ⟨rfl, hb⟩
      rw [HG2.out.1, HG1.out.1]
      clear c0 c1 c2 c3 cf0 cf1 cf2 cf3 cl
      replace H := Held.cons ((blk_new w3 [.int .i64 a, .int .i64 b, .int .i64 c] 27).on hb) ((H.alloc _).on hb)
      have b4 := Below.on (b3.alloc b3.size _) hb
      clear hb b3 HA
      obtain ⟨⟨c0, c1, c2, c3⟩, cf0, cf1, cf2, cf3⟩ := (H.at 2 rfl).four
      have cl := (H.at 2 rfl).lt
      go_wp2_with fail
      refine (hGet s z p q _ HFS.out (HS.out.below (b4.alloc b4.size _) (Nat.le_refl _))).mono ?_
      rintro e w5 ⟨rfl, hb⟩
      rw [HGW.out]
      clear c0 c1 c2 c3 cf0 cf1 cf2 cf3 cl
      replace H := Held.cons ((blk_new w4 [.int .i64 a, .int .i64 b, .int .i64 c] 27).on hb) ((H.alloc _).on hb)
      have b5 := Below.on (b4.alloc b4.size _) hb
      clear hb b4
      obtain ⟨⟨c0, c1, c2⟩, cf0, cf1, cf2⟩ := (H.at 0 rfl).three
      obtain ⟨⟨d0, d1, d2⟩, df0, df1, df2⟩ := (H.at 1 rfl).three
      obtain ⟨⟨e0, e1, e2⟩, ef0, ef1, ef2⟩ := (H.at 4 rfl).three
      have cl := (H.at 0 rfl).lt
      have dl := (H.at 1 rfl).lt
      have el := (H.at 4 rfl).lt
      go_wp2_with (go_at_call 16; go_in)
      go_ret
      exact ⟨rfl, b5.alloc b5.size _⟩
    · have HG3 := hide (HG2.out.2 hpq)
      have hne : (p == l && q == i) = false := by
        rw [Bool.eq_false_iff]
        intro h
        simp only [Bool.and_eq_true, beq_iff_eq] at h
        exact hpq h
      cases hp : (p == l)
      · clear hne
        go_wp2_with (go_at_call 16; go_in)
        refine (hGet t z' l i _ HFt.out (HA.out.below ((Below.refl w2.heap.size w2).alloc (Nat.le_refl _) _) (Nat.le_refl _))).mono ?_
        rintro e w3 ⟨rfl, hb⟩
        rw [HG1.out.1, HG1.out.2]
        replace H := Held.cons ((blk_new w2 (arenaL t) 23).on hb) ((H.alloc _).on hb)
        have b3 := Below.on (b2.alloc b2.size _) hb
        replace HA : Hid (Arn w3 t z') := HA.out.below (Below.on ((Below.refl w2.heap.size w2).alloc (Nat.le_refl _) _) hb) (Nat.le_refl _)
        clear hb b2
        unfold wordA
        obtain ⟨⟨c0, c1, c2, c3⟩, cf0, cf1, cf2, cf3⟩ := (H.at 0 rfl).four
        have cl := (H.at 0 rfl).lt
        go_wp2_with fail
        refine (hGet t z' p q _ HFt.out (HA.out.below ((Below.refl w3.heap.size w3).alloc (Nat.le_refl _) _) (Nat.le_refl _))).mono ?_
        rintro e w4 ⟨rfl, hb⟩
        rw [HG2.out.1, HG3.out, HGW.out]
        clear c0 c1 c2 c3 cf0 cf1 cf2 cf3 cl
        replace H := Held.cons ((blk_new w3 [.int .i64 a, .int .i64 b, .int .i64 c] 27).on hb) ((H.alloc _).on hb)
        have b4 := Below.on (b3.alloc b3.size _) hb
        clear hb b3 HA
        obtain ⟨⟨c0, c1, c2, c3⟩, cf0, cf1, cf2, cf3⟩ := (H.at 2 rfl).four
        have cl := (H.at 2 rfl).lt
        go_wp2_with fail
        refine (hGet s z p q _ HFS.out (HS.out.below (b4.alloc b4.size _) (Nat.le_refl _))).mono ?_
        rintro e w5 ⟨rfl, hb⟩
        rw [HGW.out]
        clear c0 c1 c2 c3 cf0 cf1 cf2 cf3 cl
        replace H := Held.cons ((blk_new w4 [.int .i64 x1, .int .i64 x2, .int .i64 x3] 27).on hb) ((H.alloc _).on hb)
        have b5 := Below.on (b4.alloc b4.size _) hb
        clear hb b4
        obtain ⟨⟨c0, c1, c2⟩, cf0, cf1, cf2⟩ := (H.at 0 rfl).three
        obtain ⟨⟨d0, d1, d2⟩, df0, df1, df2⟩ := (H.at 1 rfl).three
        obtain ⟨⟨e0, e1, e2⟩, ef0, ef1, ef2⟩ := (H.at 4 rfl).three
        have cl := (H.at 0 rfl).lt
        have dl := (H.at 1 rfl).lt
        have el := (H.at 4 rfl).lt
        go_wp2_with (go_at_call 16; go_in)
        go_ret
        exact ⟨rfl, b5.alloc b5.size _⟩
      · rw [hp, Bool.true_and] at hne
        go_wp2_with (go_at_call 16; go_in)
        refine (hGet t z' l i _ HFt.out (HA.out.below ((Below.refl w2.heap.size w2).alloc (Nat.le_refl _) _) (Nat.le_refl _))).mono ?_
        rintro e w3 ⟨rfl, hb⟩
        rw [HG1.out.1, HG1.out.2]
        replace H := Held.cons ((blk_new w2 (arenaL t) 23).on hb) ((H.alloc _).on hb)
        have b3 := Below.on (b2.alloc b2.size _) hb
        replace HA : Hid (Arn w3 t z') := HA.out.below (Below.on ((Below.refl w2.heap.size w2).alloc (Nat.le_refl _) _) hb) (Nat.le_refl _)
        clear hb b2
        unfold wordA
        obtain ⟨⟨c0, c1, c2, c3⟩, cf0, cf1, cf2, cf3⟩ := (H.at 0 rfl).four
        have cl := (H.at 0 rfl).lt
        go_wp2_with fail
        refine (hGet t z' p q _ HFt.out (HA.out.below ((Below.refl w3.heap.size w3).alloc (Nat.le_refl _) _) (Nat.le_refl _))).mono ?_
        rintro e w4 ⟨rfl, hb⟩
        rw [HG2.out.1, HG3.out, HGW.out]
        clear c0 c1 c2 c3 cf0 cf1 cf2 cf3 cl
        replace H := Held.cons ((blk_new w3 [.int .i64 a, .int .i64 b, .int .i64 c] 27).on hb) ((H.alloc _).on hb)
        have b4 := Below.on (b3.alloc b3.size _) hb
        clear hb b3 HA
        obtain ⟨⟨c0, c1, c2, c3⟩, cf0, cf1, cf2, cf3⟩ := (H.at 2 rfl).four
        have cl := (H.at 2 rfl).lt
        go_wp2_with fail
        refine (hGet s z p q _ HFS.out (HS.out.below (b4.alloc b4.size _) (Nat.le_refl _))).mono ?_
        rintro e w5 ⟨rfl, hb⟩
        rw [HGW.out]
        clear c0 c1 c2 c3 cf0 cf1 cf2 cf3 cl
        replace H := Held.cons ((blk_new w4 [.int .i64 x1, .int .i64 x2, .int .i64 x3] 27).on hb) ((H.alloc _).on hb)
        have b5 := Below.on (b4.alloc b4.size _) hb
        clear hb b4
        obtain ⟨⟨c0, c1, c2⟩, cf0, cf1, cf2⟩ := (H.at 0 rfl).three
        obtain ⟨⟨d0, d1, d2⟩, df0, df1, df2⟩ := (H.at 1 rfl).three
        obtain ⟨⟨e0, e1, e2⟩, ef0, ef1, ef2⟩ := (H.at 4 rfl).three
        have cl := (H.at 0 rfl).lt
        have dl := (H.at 1 rfl).lt
        have el := (H.at 4 rfl).lt
        go_wp2_with (go_at_call 16; go_in)
        go_ret
        exact ⟨rfl, b5.alloc b5.size _⟩

end Go.Proofs.Ytmjclmjnkmhciaa
