/-
  The law ArenaForms: values, arenas, places that may not be. Its walk, if the four functions keep their statements.
-/
import Derived.Test.YtmjclmjnkmhciaaArenaAwake
import Derived.Test.YtmjclmjnkmhciaaPlain
import Derived.Test.YtmjclmjnkmhciaaArenaFormsReg9
import Derived.Test.YtmjclmjnkmhciaaArenaFormsReg10
import Derived.Test.YtmjclmjnkmhciaaArenaFormsReg11
import Derived.Deep.Cut
namespace Go.Proofs.Ytmjclmjnkmhciaa
open Go.RowKit
set_option linter.unusedVariables false
set_option linter.unusedSimpArgs false
attribute [local go_sem ↓] Go.wp_at_zero Go.wp_at_succ

/-- A number below 0, or one beyond the most. -/
theorem pair_at (r most : Int) (p : Nat) (h : p < 2) (r0 : 0 ≤ r) : ∃ x : Int, [Value.int .i64 (-(1 + r)), Value.int .i64 (most + (1 + r))][p]? = some (.int .i64 x) ∧ (x < 0 ∨ most < x) := by
  have : p = 0 ∨ p = 1 := by omega
  rcases this with rfl | rfl
  · exact ⟨_, rfl, by omega⟩
  · exact ⟨_, rfl, by omega⟩
theorem pair_at0 (r : Int) (p : Nat) (h : p < 2) (r0 : 0 ≤ r) : ∃ x : Int, [Value.int .i64 (-(1 + r)), Value.int .i64 (1 + r)][p]? = some (.int .i64 x) ∧ (x < 0 ∨ 0 < x) := by
  have : p = 0 ∨ p = 1 := by omega
  rcases this with rfl | rfl
  · exact ⟨_, rfl, by omega⟩
  · exact ⟨_, rfl, by omega⟩

/-- The values that no level can be made of. -/
def badY (r : Int) : Nat → Nat → Int := four (listZ [1, 2, 3, 4, 5]) (listZ [-(1 + r)]) (listZ [255 + (1 + r)]) (listZ [0, 0, -1])
def badS (b : Nat) : Nat → Sl := four ⟨some ⟨b, 0, none⟩, 5, 5⟩ ⟨some ⟨b + 1, 0, none⟩, 1, 1⟩ ⟨some ⟨b + 1 + 1, 0, none⟩, 1, 1⟩ ⟨some ⟨b + 1 + 1 + 1, 0, none⟩, 3, 3⟩
theorem bad_no (r : Int) (b p : Nat) (hp : p < 4) (r0 : 0 ≤ r) : lvNew (badS b p).n (badY r p) = false := by
  refine four_all (P := fun p => lvNew (badS b p).n (badY r p) = false) (lvNew_long (by show 4 < 5; omega)) ?_ ?_ ?_ p hp
  · exact lvNew_bad 0 (by show 0 < 1; omega) (upToV_not (.inl (by show -(1 + r) < 0; omega)))
  · exact lvNew_bad 0 (by show 0 < 1; omega) (upToV_not (.inr (by show 255 < 255 + (1 + r); omega)))
  · exact lvNew_bad 2 (by show 2 < 3; omega) (upToV_not (.inl (by show (-1 : Int) < 0; omega)))

set_option maxRecDepth 100000 in
set_option maxHeartbeats 8000000 in
theorem arenaForms_at (hNew : NewC) (hMay : MayC) (hGet : GetC) (hPut : PutC) (a0 a1 r : Int) (g p q : Nat) (w : World) (hd : bits .and .i64 a1 1023 = r) (r0 : 0 ≤ r) (r1 : r ≤ 1023) (hg : bits .and .i64 (a0 / 4) 3 = g) (hg4 : (g : Int) < 4) (hg0 : (0 : Int) ≤ g) (hp : bits .and .i64 a0 3 = p) (hp4 : (p : Int) < 4) (hp0 : (0 : Int) ≤ p) (hq : bits .and .i64 a0 1 = q) (hq2 : (q : Int) < 2) (hq0 : (0 : Int) ≤ q) :
    Calls Try.prog 5 #[.int .i64 a0, .int .i64 a1] w fun e w' => e = .returned (.bool true) ∧ Below w.heap.size w w' := by
  obtain ⟨x1, n1, hx1⟩ := pair_at r 3 q (by omega) r0
  obtain ⟨x2, n2, hx2⟩ := pair_at0 r q (by omega) r0
  have v0 : IntKind.i64.wrap (-(1 + r)) = -(1 + r) := IntWalk.i64_in _ ⟨by omega, by omega⟩
  have v1 : IntKind.i64.wrap (3 + (1 + r)) = 3 + (1 + r) := IntWalk.i64_in _ ⟨by omega, by omega⟩
  go_enter Try.func5, Try.ntmps5
  go_wp2_with fail
  refine (awake4_any hNew hMay hGet hPut _).mono ?_
  rintro e w1 ⟨rfl, b1⟩
  have s1 := b1.size
  obtain ⟨x, HX, hL⟩ : ∃ x : Sl, Hid (x = badS (w1.heap.size + 1) p) ∧ [Value.slice (some ⟨w1.heap.size + 1, 0, none⟩) 5 5, Value.slice (some ⟨w1.heap.size + 1 + 1, 0, none⟩) 1 1, Value.slice (some ⟨w1.heap.size + 1 + 1 + 1, 0, none⟩) 1 1, Value.slice (some ⟨w1.heap.size + 1 + 1 + 1 + 1, 0, none⟩) 3 3][p]? = some (.slice x.a x.n x.c) := ⟨_, rfl, arenaL_get (badS (w1.heap.size + 1)) (k := p) (by omega)⟩
  have hN : [Value.slice none 0 0, Value.slice none 0 0, Value.slice none 0 0, Value.slice none 0 0][g]? = some (.slice none 0 0) := arenaL_get nilS (k := g) (by omega)
  go_upto_region 7 with (fail)
  have HV : Held ((((((w1.alloc (.cells ([Value.slice none 0 0, Value.slice none 0 0, Value.slice none 0 0, Value.slice none 0 0].set g (.slice x.a x.n x.c)).toArray 25)).alloc (.cells #[.int .i64 1, .int .i64 2, .int .i64 3, .int .i64 4, .int .i64 5] 3)).alloc (.cells #[.int .i64 (-(1 + r))] 3)).alloc (.cells #[.int .i64 (255 + (1 + r))] 3)).alloc (.cells #[.int .i64 0, .int .i64 0, .int .i64 (-1)] 3)).alloc (.cells #[.slice (some ⟨w1.heap.size + 1, 0, none⟩) 5 5, .slice (some ⟨w1.heap.size + 1 + 1, 0, none⟩) 1 1, .slice (some ⟨w1.heap.size + 1 + 1 + 1, 0, none⟩) 1 1, .slice (some ⟨w1.heap.size + 1 + 1 + 1 + 1, 0, none⟩) 3 3] 24)) [(w1.heap.size, arenaL (updS nilS g x)), (w1.heap.size + 1, [1, 2, 3, 4, 5].map (Value.int .i64)), (w1.heap.size + 1 + 1, [-(1 + r)].map (Value.int .i64)), (w1.heap.size + 1 + 1 + 1, [255 + (1 + r)].map (Value.int .i64)), (w1.heap.size + 1 + 1 + 1 + 1, [0, 0, -1].map (Value.int .i64))] := by
    have e0 := blk_new w1 ([Value.slice none 0 0, Value.slice none 0 0, Value.slice none 0 0, Value.slice none 0 0].set g (.slice x.a x.n x.c)) 25
    generalize hW0 : w1.alloc (.cells ([Value.slice none 0 0, Value.slice none 0 0, Value.slice none 0 0, Value.slice none 0 0].set g (.slice x.a x.n x.c)).toArray 25) = W0 at e0 ⊢
    have z0 : W0.heap.size = w1.heap.size + 1 := by rw [← hW0, World.size_alloc]
    have e1 := blk_ints W0 [1, 2, 3, 4, 5] 3
    have e2 := blk_ints (W0.alloc (.cells ([1, 2, 3, 4, 5].map (Value.int .i64)).toArray 3)) [-(1 + r)] 3
    have e3 := blk_ints ((W0.alloc (.cells ([1, 2, 3, 4, 5].map (Value.int .i64)).toArray 3)).alloc (.cells ([-(1 + r)].map (Value.int .i64)).toArray 3)) [255 + (1 + r)] 3
    have e4 := blk_ints (((W0.alloc (.cells ([1, 2, 3, 4, 5].map (Value.int .i64)).toArray 3)).alloc (.cells ([-(1 + r)].map (Value.int .i64)).toArray 3)).alloc (.cells ([255 + (1 + r)].map (Value.int .i64)).toArray 3)) [0, 0, -1] 3
    simp only [World.size_alloc, z0] at e1 e2 e3 e4
    have e0' : Blk W0 w1.heap.size (arenaL (updS nilS g x)) := by rw [← arenaL_set nilS (by omega) x]; exact e0
    exact Held.cons (((((e0'.alloc _).alloc _).alloc _).alloc _).alloc _) (Held.cons ((((e1.alloc _).alloc _).alloc _).alloc _) (Held.cons (((e2.alloc _).alloc _).alloc _) (Held.cons ((e3.alloc _).alloc _) (Held.cons (e4.alloc _) (Held.nil _)))))
  have b2 : Below w.heap.size w ((((((w1.alloc (.cells ([Value.slice none 0 0, Value.slice none 0 0, Value.slice none 0 0, Value.slice none 0 0].set g (.slice x.a x.n x.c)).toArray 25)).alloc (.cells #[.int .i64 1, .int .i64 2, .int .i64 3, .int .i64 4, .int .i64 5] 3)).alloc (.cells #[.int .i64 (-(1 + r))] 3)).alloc (.cells #[.int .i64 (255 + (1 + r))] 3)).alloc (.cells #[.int .i64 0, .int .i64 0, .int .i64 (-1)] 3)).alloc (.cells #[.slice (some ⟨w1.heap.size + 1, 0, none⟩) 5 5, .slice (some ⟨w1.heap.size + 1 + 1, 0, none⟩) 1 1, .slice (some ⟨w1.heap.size + 1 + 1 + 1, 0, none⟩) 1 1, .slice (some ⟨w1.heap.size + 1 + 1 + 1 + 1, 0, none⟩) 3 3] 24)) := (((((b1.alloc s1 _).alloc (by simp only [World.size_alloc]; omega) _).alloc (by simp only [World.size_alloc]; omega) _).alloc (by simp only [World.size_alloc]; omega) _).alloc (by simp only [World.size_alloc]; omega) _).alloc (by simp only [World.size_alloc]; omega) _
  generalize ((((((w1.alloc (.cells ([Value.slice none 0 0, Value.slice none 0 0, Value.slice none 0 0, Value.slice none 0 0].set g (.slice x.a x.n x.c)).toArray 25)).alloc (.cells #[.int .i64 1, .int .i64 2, .int .i64 3, .int .i64 4, .int .i64 5] 3)).alloc (.cells #[.int .i64 (-(1 + r))] 3)).alloc (.cells #[.int .i64 (255 + (1 + r))] 3)).alloc (.cells #[.int .i64 0, .int .i64 0, .int .i64 (-1)] 3)).alloc (.cells #[.slice (some ⟨w1.heap.size + 1, 0, none⟩) 5 5, .slice (some ⟨w1.heap.size + 1 + 1, 0, none⟩) 1 1, .slice (some ⟨w1.heap.size + 1 + 1 + 1, 0, none⟩) 1 1, .slice (some ⟨w1.heap.size + 1 + 1 + 1 + 1, 0, none⟩) 3 3] 24)) = W1 at *
  have hrow : ∀ k, k < 4 → Row W1 (badS (w1.heap.size + 1) k).a (badS (w1.heap.size + 1) k).n fun i => .int .i64 (badY r k i) := four_all (HV.at 1 rfl).ints (HV.at 2 rfl).ints (HV.at 3 rfl).ints (HV.at 4 rfl).ints
  have hfitx : x.n * 8 ≤ 140737488351232 ∧ (x.a = none → x.n = 0 ∧ x.c = 0) := by
    rw [HX.out]
    exact four_all (P := fun p => (badS (w1.heap.size + 1) p).n * 8 ≤ 140737488351232 ∧ ((badS (w1.heap.size + 1) p).a = none → (badS (w1.heap.size + 1) p).n = 0 ∧ (badS (w1.heap.size + 1) p).c = 0)) ⟨by show 5 * 8 ≤ _; omega, fun h => by cases h⟩ ⟨by show 1 * 8 ≤ _; omega, fun h => by cases h⟩ ⟨by show 1 * 8 ≤ _; omega, fun h => by cases h⟩ ⟨by show 3 * 8 ≤ _; omega, fun h => by cases h⟩ p (by omega)
  have HVF : Hid (VFit (updS nilS g x)) := fun k hk => by
    by_cases e : k = g
    · subst e; rw [updS_same]; exact hfitx
    · rw [updS_other _ _ e]; exact ⟨by show 0 * 8 ≤ _; omega, fun _ => ⟨rfl, rfl⟩⟩
  have HVV : Hid (Vals W1 (updS nilS g x) (fun _ => badY r p)) := fun k hk => by
    by_cases e : k = g
    · subst e; rw [updS_same, HX.out]; exact hrow p (by omega)
    · rw [updS_other _ _ e]; exact row_zero _ _ _
  have HVN : Hid (newOk (updS nilS g x) (fun _ => badY r p) = false) := newOk_no g (by omega) (by rw [updS_same, HX.out]; exact bad_no r _ p (by omega) r0)
  obtain ⟨⟨c0, c1, c2, c3⟩, cf0, cf1, cf2, cf3⟩ := (HV.at 0 rfl).four
  clear hL hN hrow hfitx HX HV b1 s1
  go_wp2_with fail
  refine (hNew (updS nilS g x) (fun _ => badY r p) _ HVF.out HVV.out).mono ?_
  rintro e w2 ⟨t1, rfl, _, _, hb, _, hn1⟩
  have ht1 := hn1 HVN.out
  have e1 : newE (updS nilS g x) (fun _ => badY r p) = 400 := by unfold newE; rw [HVN.out]; rfl
  rw [e1]
  subst ht1
  have b3 := Below.on b2 hb
  have s3 := b3.size
  clear c0 c1 c2 c3 cf0 cf1 cf2 cf3 hb hn1 e1 HVF HVV HVN b2
  unfold arenaA nilS
  go_wp2_with fail
  have HV : Held (((((w2.alloc (.cells #[.slice none 0 0, .slice none 0 0, .slice none 0 0, .slice none 0 0] 23)).alloc (.cells #[.int .i64 1] 3)).alloc (.cells #[.int .i64 2] 3)).alloc (.cells #[.int .i64 3] 3)).alloc (.cells #[.int .i64 4] 3)) [(w2.heap.size + 1, [1].map (Value.int .i64)), (w2.heap.size + 1 + 1, [2].map (Value.int .i64)), (w2.heap.size + 1 + 1 + 1, [3].map (Value.int .i64)), (w2.heap.size + 1 + 1 + 1 + 1, [4].map (Value.int .i64))] := by
    generalize hW0 : w2.alloc (.cells #[.slice none 0 0, .slice none 0 0, .slice none 0 0, .slice none 0 0] 23) = W0
    have z0 : W0.heap.size = w2.heap.size + 1 := by rw [← hW0, World.size_alloc]
    have e1 := blk_ints W0 [1] 3
    have e2 := blk_ints (W0.alloc (.cells ([1].map (Value.int .i64)).toArray 3)) [2] 3
    have e3 := blk_ints ((W0.alloc (.cells ([1].map (Value.int .i64)).toArray 3)).alloc (.cells ([2].map (Value.int .i64)).toArray 3)) [3] 3
    have e4 := blk_ints (((W0.alloc (.cells ([1].map (Value.int .i64)).toArray 3)).alloc (.cells ([2].map (Value.int .i64)).toArray 3)).alloc (.cells ([3].map (Value.int .i64)).toArray 3)) [4] 3
    simp only [World.size_alloc, z0] at e1 e2 e3 e4
    exact Held.cons (((e1.alloc _).alloc _).alloc _) (Held.cons ((e2.alloc _).alloc _) (Held.cons (e3.alloc _) (Held.cons e4 (Held.nil _))))
  refine (hNew (four ⟨some ⟨w2.heap.size + 1, 0, none⟩, 1, 1⟩ ⟨some ⟨w2.heap.size + 1 + 1, 0, none⟩, 1, 1⟩ ⟨some ⟨w2.heap.size + 1 + 1 + 1, 0, none⟩, 1, 1⟩ ⟨some ⟨w2.heap.size + 1 + 1 + 1 + 1, 0, none⟩, 1, 1⟩) (four (listZ [1]) (listZ [2]) (listZ [3]) (listZ [4])) _ ?_ ?_).mono ?_
  · exact four_all ⟨by simp [four], fun h => by cases h⟩ ⟨by simp [four], fun h => by cases h⟩ ⟨by simp [four], fun h => by cases h⟩ ⟨by simp [four], fun h => by cases h⟩
  · exact four_all (HV.at 0 rfl).ints (HV.at 1 rfl).ints (HV.at 2 rfl).ints (HV.at 3 rfl).ints
  rintro e w3 ⟨t, rfl, hny, hF, hb, hok, hnn⟩
  clear hnn
  have ok1 : newOk (four ⟨some ⟨w2.heap.size + 1, 0, none⟩, 1, 1⟩ ⟨some ⟨w2.heap.size + 1 + 1, 0, none⟩, 1, 1⟩ ⟨some ⟨w2.heap.size + 1 + 1 + 1, 0, none⟩, 1, 1⟩ ⟨some ⟨w2.heap.size + 1 + 1 + 1 + 1, 0, none⟩, 1, 1⟩) (four (listZ [1]) (listZ [2]) (listZ [3]) (listZ [4])) = true := rfl
  have e1 : newE (four ⟨some ⟨w2.heap.size + 1, 0, none⟩, 1, 1⟩ ⟨some ⟨w2.heap.size + 1 + 1, 0, none⟩, 1, 1⟩ ⟨some ⟨w2.heap.size + 1 + 1 + 1, 0, none⟩, 1, 1⟩ ⟨some ⟨w2.heap.size + 1 + 1 + 1 + 1, 0, none⟩, 1, 1⟩) (four (listZ [1]) (listZ [2]) (listZ [3]) (listZ [4])) = 0 := rfl
  rw [e1]
  have htn := hok ok1
  have htn1 : ∀ g, g < 4 → (t g).n = 1 := fun g hg => (htn g hg).trans (four_all (P := fun g => (four (α := Sl) ⟨some ⟨w2.heap.size + 1, 0, none⟩, 1, 1⟩ ⟨some ⟨w2.heap.size + 1 + 1, 0, none⟩, 1, 1⟩ ⟨some ⟨w2.heap.size + 1 + 1 + 1, 0, none⟩, 1, 1⟩ ⟨some ⟨w2.heap.size + 1 + 1 + 1 + 1, 0, none⟩, 1, 1⟩ g).n = 1) rfl rfl rfl rfl g hg)
  have HFit := hide (new_fit hny ok1 htn)
  have HN1 := hide htn1
  have HA0 := hide hF.arn
  generalize newZ (four (listZ [1]) (listZ [2]) (listZ [3]) (listZ [4])) = z at *
  have b4 : Below w.heap.size w w3 := Below.on ((((((b3.alloc s3 _).alloc (by simp only [World.size_alloc]; omega) _).alloc (by simp only [World.size_alloc]; omega) _).alloc (by simp only [World.size_alloc]; omega) _).alloc (by simp only [World.size_alloc]; omega) _)) hb
  have ge : ∀ l i, thereV t l i = false → getW t z l i = wordA 0 0 0 ∧ getE t z l i = 400 := fun l i h => getW_no (by rw [h, Bool.and_false])
  have g1 := ge x1 0 (thereV_not (fun k m hk hm h4 => by omega))
  have g2 := ge g x2 (thereV_not (fun k m hk hm h4 => by rw [htn1 k h4]; omega))
  have p1 : putOk t z g x2 0 0 0 = false := by unfold putOk; rw [thereV_not (s := t) (l := (g : Int)) (i := x2) (fun k m hk hm h4 => by rw [htn1 k h4]; omega), Bool.and_false]; rfl
  have p2 : putOk t z g 0 (-(1 + r)) 0 0 = false := by unfold putOk; rw [wmay_no1 (upToV_not (.inl (by omega))), Bool.and_false]
  have q1 : putE t z g x2 0 0 0 = 400 := by unfold putE; rw [p1]; rfl
  have q2 : putE t z g 0 (-(1 + r)) 0 0 = 400 := by unfold putE; rw [p2]; rfl
  have HG1 := hide g1
  have HG2 := hide g2
  have HP1 := hide (And.intro p1 q1)
  have HP2 := hide (And.intro p2 q2)
  clear HV hny hF hb hok ok1 e1 htn htn1 b3 s3 ge g1 g2 p1 p2 q1 q2
  unfold arenaA
  go_wp2_with fail
  have B10 : Blk (w3.alloc (.cells #[.slice (t 0).a (t 0).n (t 0).c, .slice (t 1).a (t 1).n (t 1).c, .slice (t 2).a (t 2).n (t 2).c, .slice (t 3).a (t 3).n (t 3).c] 23)) w3.heap.size (arenaL t) := blk_new w3 (arenaL t) _
  replace b4 := b4.alloc b4.size (.cells #[.slice (t 0).a (t 0).n (t 0).c, .slice (t 1).a (t 1).n (t 1).c, .slice (t 2).a (t 2).n (t 2).c, .slice (t 3).a (t 3).n (t 3).c] 23)
  have HA : Hid (Arn (w3.alloc (.cells #[.slice (t 0).a (t 0).n (t 0).c, .slice (t 1).a (t 1).n (t 1).c, .slice (t 2).a (t 2).n (t 2).c, .slice (t 3).a (t 3).n (t 3).c] 23)) t z) := HA0.out.below ((Below.refl w3.heap.size w3).alloc (Nat.le_refl _) _) (Nat.le_refl _)
  clear HA0
  generalize w3.alloc (.cells #[.slice (t 0).a (t 0).n (t 0).c, .slice (t 1).a (t 1).n (t 1).c, .slice (t 2).a (t 2).n (t 2).c, .slice (t 3).a (t 3).n (t 3).c] 23) = W3 at *
  refine forms_reg9 hGet a0 r x1 g q _ t z W3 hq hq2 hq0 n1 v0 v1 HFit HG1 HA B10 _ _ _ _ _ _ _ _ _ _ _ _ _ _ _ _ _ _ _ _ _ _ _ _ _ _ _ _ _ _ _ _ _ _ _ _ _ _ _ _ _ _ _ _ _ _ _ _ _ _ _ _ _ _ _ _ _ _ _ _ _ _ _ _ _ _ _ _ _ _ _ _ _ _ _ _ _ _ _ _ _ _ _ _ _ _ _ _ _ _ _ _ _ _ _ _ _ _ _ _ _ _ _ _ _ _ _ _ _ _ _ _ _ _ _ _ _ _ _ _ _ _ _ _ _ _ _ _ _ _ _ _ _ _ _ _ _ _ _ _ _ _ _ _ _ _ _ _ _ _ _ _ _ _ _ _ _ _ _ _ _ _ _ _ _ _ _ ?_
  intro _ _ _ _ _ _ _ _ _ _ _ _ _ _ _ wc hw
  replace B10 := B10.on hw
  replace b4 := Below.on b4 hw
  replace HA : Hid (Arn wc t z) := HA.out.below hw (Nat.le_refl _)
  clear hw
  go_wp2_with fail
  refine forms_reg10 hGet a0 r x2 g q _ t z wc hq hq2 hq0 n2 v0 v1 HFit HG2 HA B10 _ _ _ _ _ _ _ _ _ _ _ _ _ _ _ _ _ _ _ _ _ _ _ _ _ _ _ _ _ _ _ _ _ _ _ _ _ _ _ _ _ _ _ _ _ _ _ _ _ _ _ _ _ _ _ _ _ _ _ _ _ _ _ _ _ _ _ _ _ _ _ _ _ _ _ _ _ _ _ _ _ _ _ _ _ _ _ _ _ _ _ _ _ _ _ _ _ _ _ _ _ _ _ _ _ _ _ _ _ _ _ _ _ _ _ _ _ _ _ _ _ _ _ _ _ _ _ _ _ _ _ _ _ _ _ _ _ _ _ _ _ _ _ _ _ _ _ _ _ _ _ _ _ _ _ _ _ _ _ _ _ _ _ _ _ _ _ ?_
  intro _ _ _ _ _ _ _ _ _ _ _ _ _ _ _ wc hw
  replace B10 := B10.on hw
  replace b4 := Below.on b4 hw
  replace HA : Hid (Arn wc t z) := HA.out.below hw (Nat.le_refl _)
  clear hw
  go_wp2_with fail
  refine forms_reg11 hPut a0 r x2 g q _ t z wc hq hq2 hq0 n2 v0 v1 HFit HP1 HA B10 _ _ _ _ _ _ _ _ _ _ _ _ _ _ _ _ _ _ _ _ _ _ _ _ _ _ _ _ _ _ _ _ _ _ _ _ _ _ _ _ _ _ _ _ _ _ _ _ _ _ _ _ _ _ _ _ _ _ _ _ _ _ _ _ _ _ _ _ _ _ _ _ _ _ _ _ _ _ _ _ _ _ _ _ _ _ _ _ _ _ _ _ _ _ _ _ _ _ _ _ _ _ _ _ _ _ _ _ _ _ _ _ _ _ _ _ _ _ _ _ _ _ _ _ _ _ _ _ _ _ _ _ _ _ _ _ _ _ _ _ _ _ _ _ _ _ _ _ _ _ _ _ _ _ _ _ _ _ _ _ _ _ _ _ _ _ _ ?_
  intro _ _ _ _ _ _ _ _ _ _ _ _ _ _ _ _ wc hw
  replace B10 := B10.on hw
  replace b4 := Below.on b4 hw
  replace HA : Hid (Arn wc t z) := HA.out.below hw (Nat.le_refl _)
  clear hw
  obtain ⟨⟨c0, c1, c2, c3⟩, cf0, cf1, cf2, cf3⟩ := B10.four
  have z10 := B10.lt
  clear HG1 HG2 HP1
  go_wp2_with fail
  refine (hPut t z g 0 (-(1 + r)) 0 0 _ HFit.out HA.out).mono ?_
  rintro e w7 ⟨tp, zp, rfl, _, _, hb, _, hn⟩
  rw [HP2.out.2, hn HP2.out.1]
  clear c0 c1 c2 c3 cf0 cf1 cf2 cf3 z10 hn HP2
  replace B10 := B10.on hb
  replace b4 := Below.on b4 hb
  replace HA : Hid (Arn w7 t z) := HA.out.below hb (Nat.le_refl _)
  clear hb
  unfold arenaA nilS
  obtain ⟨⟨c0, c1, c2, c3⟩, cf0, cf1, cf2, cf3⟩ := B10.four
  have z10 := B10.lt
  go_wp2_with fail
  refine (copyArena_any t z _ HFit.out (HA.out.below ((Below.refl w7.heap.size w7).alloc (Nat.le_refl _) _) (Nat.le_refl _))).mono ?_
  rintro e w8 ⟨t2, rfl, h2n, h2y, h2F, hb⟩
  clear c0 c1 c2 c3 cf0 cf1 cf2 cf3 z10 B10 HA
  have b5 := Below.on (b4.alloc b4.size _) hb
  have s47 := b4.size
  have s5 := b5.size
  have s78 := hb.size
  rw [World.size_alloc] at s78
  have n2 : (t2 g).n = 1 := (h2n g (by omega)).trans (HN1.out g (by omega))
  have HFit2 := hide (same_fit h2y HFit.out h2n)
  clear hb b4 h2y HN1 HFit
  unfold arenaA
  have B20 : Blk (w8.alloc (.cells #[.slice (t2 0).a (t2 0).n (t2 0).c, .slice (t2 1).a (t2 1).n (t2 1).c, .slice (t2 2).a (t2 2).n (t2 2).c, .slice (t2 3).a (t2 3).n (t2 3).c] 23)) w8.heap.size (arenaL t2) := blk_new w8 (arenaL t2) _
  have b6 := b5.alloc b5.size (.cells #[.slice (t2 0).a (t2 0).n (t2 0).c, .slice (t2 1).a (t2 1).n (t2 1).c, .slice (t2 2).a (t2 2).n (t2 2).c, .slice (t2 3).a (t2 3).n (t2 3).c] 23)
  have F2 := h2F.alloc (.cells #[.slice (t2 0).a (t2 0).n (t2 0).c, .slice (t2 1).a (t2 1).n (t2 1).c, .slice (t2 2).a (t2 2).n (t2 2).c, .slice (t2 3).a (t2 3).n (t2 3).c] 23)
  clear h2F h2n b5
  go_upto_region 14 with (fail)
  generalize w8.alloc (.cells #[.slice (t2 0).a (t2 0).n (t2 0).c, .slice (t2 1).a (t2 1).n (t2 1).c, .slice (t2 2).a (t2 2).n (t2 2).c, .slice (t2 3).a (t2 3).n (t2 3).c] 23) = W8 at *
  obtain ⟨b, hta, hbB, hbC, ho⟩ : ∃ b, (t2 g).a = some ⟨b, 0, none⟩ ∧ w7.heap.size + 1 ≤ b ∧ b < w8.heap.size ∧ Own W8 b ((t2 g).n * 3) (intF (z g)) := by
    obtain ⟨β, h1, _⟩ := F2
    have := h1 g (by omega) (by rw [n2]; omega)
    rw [World.size_alloc] at this
    exact ⟨β g, this⟩
  have cg := B20.cell g _ (arenaL_get t2 (by omega))
  rw [hta, n2] at cg
  rw [n2] at ho
  have j2 := ho.cell (i := 2) (by omega)
  have k2 := ho.frozen 2
  unfold intF at j2
  have F3 := F2.setOne (l := g) (b := b) (by omega) (by rw [n2]; omega) hta 2 (-(1 + r))
  have B21 := B20.far (a := ⟨b, 2, none⟩) (.int .i64 (-(1 + r))) (by simp; omega)
  have b7 : Below w.heap.size w (W8.setCell ⟨b, 2, none⟩ (.int .i64 (-(1 + r)))) := b6.setCell (by simp; omega) _
  have HM : Hid (amay t2 (oneZ z g 2 (-(1 + r))) = false) := lvTo_no g (by omega) (lvMay_bad 0 (by rw [n2]; omega) (wmay_no3 (upToV_not (.inl (by unfold oneZ updZ; rw [if_pos rfl, if_pos rfl]; omega)))))
  have HF3 := hide F3
  have HB21 := hide B21
  clear F2 F3 B20 B21 b6 ho hta n1 n2 hx1 hx2
  go_upto_region 17 with (fail)
  generalize W8.setCell ⟨b, 2, none⟩ (.int .i64 (-(1 + r))) = W9 at *
  clear cg j2 k2
  obtain ⟨⟨c0, c1, c2, c3⟩, cf0, cf1, cf2, cf3⟩ := HB21.out.four
  have z21 := HB21.out.lt
  obtain ⟨g1, g2⟩ := getW_no (s := t2) (z := oneZ z g 2 (-(1 + r))) (l := 0) (i := 0) (by rw [HM.out]; rfl)
  have HG := hide (And.intro g1 g2)
  clear g1 g2
  go_wp2_with fail
  refine (hGet t2 (oneZ z g 2 (-(1 + r))) 0 0 _ HFit2.out HF3.out.arn).mono ?_
  rintro e w9 ⟨rfl, hb⟩
  rw [HG.out.1, HG.out.2]
  clear c0 c1 c2 c3 cf0 cf1 cf2 cf3 z21
  have b8 := Below.on b7 hb
  have HA2 : Hid (Arn w9 t2 (oneZ z g 2 (-(1 + r)))) := HF3.out.arn.below hb (Nat.le_refl _)
  replace HB21 : Hid (Blk w9 w8.heap.size (arenaL t2)) := HB21.out.on hb
  clear hb HF3 b7
  unfold wordA
  obtain ⟨⟨c0, c1, c2, c3⟩, cf0, cf1, cf2, cf3⟩ := HB21.out.four
  have z21 := HB21.out.lt
  go_wp2_with (go_at_call 16; go_in)
  refine (hMay t2 (oneZ z g 2 (-(1 + r))) _ HFit2.out (HA2.out.below ((Below.refl w9.heap.size w9).alloc (Nat.le_refl _) _) (Nat.le_refl _))).mono ?_
  rintro e w10 ⟨rfl, hb⟩
  rw [HM.out]
  have b9 := Below.on (b8.alloc b8.size _) hb
  clear hb c0 c1 c2 c3 cf0 cf1 cf2 cf3 z21 b8
  go_wp2_with (go_at_call 16; go_in)
  go_ret
  exact ⟨rfl, b9⟩

theorem arenaForms_said (hNew : NewC) (hMay : MayC) (hGet : GetC) (hPut : PutC) (a0 a1 : Int) (w : World) :
    Calls Try.prog 5 #[.int .i64 a0, .int .i64 a1] w fun e w' => e = .returned (.bool true) ∧ Below w.heap.size w w' := by
  obtain ⟨g, hg⟩ : ∃ g : Nat, a0 / 4 % 4 = g := ⟨(a0 / 4 % 4).toNat, by omega⟩
  obtain ⟨p, hp⟩ : ∃ p : Nat, a0 % 4 = p := ⟨(a0 % 4).toNat, by omega⟩
  obtain ⟨q, hq⟩ : ∃ q : Nat, a0 % 2 = q := ⟨(a0 % 2).toNat, by omega⟩
  exact arenaForms_at hNew hMay hGet hPut a0 a1 (a1 % 1024) g p q w (mask1023 a1) (by omega) (by omega) (by rw [mask3]; exact hg) (by omega) (by omega) (by rw [mask3]; exact hp) (by omega) (by omega) (by rw [mask1]; exact hq) (by omega) (by omega)

end Go.Proofs.Ytmjclmjnkmhciaa
