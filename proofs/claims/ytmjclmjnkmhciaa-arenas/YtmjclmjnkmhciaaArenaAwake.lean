/-
  What every program answers that is one: chapter 4's own examples hold, if the four functions keep their statements.
-/
import Derived.Test.YtmjclmjnkmhciaaArenaSaid
namespace Go.Proofs.Ytmjclmjnkmhciaa
open Go.RowKit

theorem Blk.rowOf {w : World} {b : Nat} {l : List Value} (h : Blk w b l) (f : Nat → Value) (hf : ∀ i, i < l.length → l[i]? = some (f i)) : Row w (some ⟨b, 0, none⟩) l.length f := (own_of_blk h f hf).row

/-- A list of numbers, just laid. -/
def listZ (l : List Int) (i : Nat) : Int := l.getD i 0
theorem blk_ints (w : World) (l : List Int) (t : TypeId) : Blk (w.alloc (.cells (l.map (Value.int .i64)).toArray t)) w.heap.size (l.map (Value.int .i64)) := blk_new w _ t
theorem Blk.ints {w : World} {b : Nat} {l : List Int} (h : Blk w b (l.map (Value.int .i64))) : Row w (some ⟨b, 0, none⟩) l.length fun i => .int .i64 (listZ l i) := by
  have := h.rowOf (fun i => .int .i64 (listZ l i)) (fun i hi => by
    have hi' : i < l.length := by simpa using hi
    simp [listZ, hi'])
  simpa using this

set_option maxRecDepth 10000 in
set_option maxHeartbeats 2000000 in
theorem awake4_any (hNew : NewC) (hMay : MayC) (hGet : GetC) (hPut : PutC) (w : World) :
    Calls Try.prog 20 #[] w fun e w' => e = .returned (.bool true) ∧ Below w.heap.size w w' := by
  go_enter Try.func20, Try.ntmps20
  go_wp2_with fail
  have V1 := ((blk_ints w [1, 2] 3).alloc (.cells #[.int .i64 3] 3)).ints
  have V2 := (blk_ints (w.alloc (.cells #[.int .i64 1, .int .i64 2] 3)) [3] 3).ints
  refine (hNew (four ⟨some ⟨w.heap.size, 0, none⟩, 2, 2⟩ ⟨none, 0, 0⟩ ⟨some ⟨w.heap.size + 1, 0, none⟩, 1, 1⟩ ⟨none, 0, 0⟩) (four (listZ [1, 2]) (fun _ => 0) (listZ [3]) (fun _ => 0)) _ ?_ ?_).mono ?_
  · exact four_all ⟨by simp [four], fun h => by cases h⟩ ⟨by simp [four], fun _ => ⟨rfl, rfl⟩⟩ ⟨by simp [four], fun h => by cases h⟩ ⟨by simp [four], fun _ => ⟨rfl, rfl⟩⟩
  · exact four_all V1 (row_zero _ _ _) (by rw [World.size_alloc] at V2; exact V2) (row_zero _ _ _)
  rintro e w1 ⟨t, rfl, hny, hF, hb, hok, _⟩
  have ok1 : newOk (four ⟨some ⟨w.heap.size, 0, none⟩, 2, 2⟩ ⟨none, 0, 0⟩ ⟨some ⟨w.heap.size + 1, 0, none⟩, 1, 1⟩ ⟨none, 0, 0⟩) (four (listZ [1, 2]) (fun _ => 0) (listZ [3]) (fun _ => 0)) = true := rfl
  have e1 : newE (four ⟨some ⟨w.heap.size, 0, none⟩, 2, 2⟩ ⟨none, 0, 0⟩ ⟨some ⟨w.heap.size + 1, 0, none⟩, 1, 1⟩ ⟨none, 0, 0⟩) (four (listZ [1, 2]) (fun _ => 0) (listZ [3]) (fun _ => 0)) = 0 := rfl
  rw [e1]
  have htn := hok ok1
  have hfit := new_fit hny ok1 htn
  have hmay := new_may ok1 htn
  have n0 : (t 0).n = 2 := htn 0 (by omega)
  have n1 : (t 1).n = 0 := htn 1 (by omega)
  have n2 : (t 2).n = 1 := htn 2 (by omega)
  have hz : ∃ z, newZ (four (listZ [1, 2]) (fun _ => 0) (listZ [3]) (fun _ => 0)) = z ∧ z 2 0 = 3 ∧ z 2 1 = 0 ∧ z 2 2 = 0 := ⟨_, rfl, rfl, rfl, rfl⟩
  obtain ⟨z, hze, z0, z1, z2⟩ := hz
  rw [hze] at hF hmay
  have b1 : Below w.heap.size w w1 := Below.on (by go_grown) hb
  have A1 := hF.arn
  have g1 : getW t z 2 0 = wordA 3 0 0 ∧ getE t z 2 0 = 0 := by
    have := get_at hmay (g := 2) (k := 0) (by omega) (by omega)
    simpa [z0, z1, z2] using this
  have g2 : getW t z 1 0 = wordA 0 0 0 ∧ getE t z 1 0 = 400 := getW_no (by rw [thereV_not (fun g k hg hk _ => by cases (show g = 1 by omega); omega), Bool.and_false])
  have p1 : putOk t z 0 1 9 0 0 = true := by
    unfold putOk
    rw [hmay, show thereV t 0 1 = true from thereV_mk (g := 0) (k := 1) (by omega) (by omega)]
    rfl
  have p2 : putE t z 0 1 9 0 0 = 0 := by unfold putE; rw [p1]; rfl
  have HA := hide A1
  have HFit := hide hfit
  have HM := hide hmay
  have HN := hide (And.intro n0 (And.intro n1 n2))
  clear V1 V2 hb hny hok e1 ok1 hF hze htn A1 hfit hmay n0 n1 n2
  unfold arenaA
  go_wp2_with fail
  have B1 : Blk (w1.alloc (.cells #[.slice (t 0).a (t 0).n (t 0).c, .slice (t 1).a (t 1).n (t 1).c, .slice (t 2).a (t 2).n (t 2).c, .slice (t 3).a (t 3).n (t 3).c] 23)) w1.heap.size (arenaL t) := blk_new w1 (arenaL t) _
  refine (hGet t z 2 0 _ HFit.out (HA.out.below ((Below.refl w1.heap.size w1).alloc (Nat.le_refl _) _) (Nat.le_refl _))).mono ?_
  rintro e w2 ⟨rfl, hb⟩
  rw [g1.1, g1.2]
  replace B1 := B1.on hb
  have b2 : Below w.heap.size w w2 := Below.on (b1.alloc b1.size _) hb
  have bb2 : Below w1.heap.size w1 w2 := Below.on ((Below.refl w1.heap.size w1).alloc (Nat.le_refl _) _) hb
  clear hb g1
  obtain ⟨⟨c0, c1, c2, c3⟩, f0, f1, f2, f3⟩ := B1.four
  have y1 := B1.lt
  unfold wordA
  go_wp2_with fail
  have B2 := blk_new w2 [.int .i64 3, .int .i64 0, .int .i64 0] 27
  refine (hPut t z 0 1 9 0 0 _ HFit.out (HA.out.below (bb2.alloc bb2.size _) (Nat.le_refl _))).mono ?_
  rintro e w3 ⟨t', z', rfl, hny', hF', hb, hok', _⟩
  obtain ⟨htn', hz'⟩ := hok' p1
  rw [p2]
  clear hok' c0 c1 c2 c3 f0 f1 f2 f3 y1
  replace B2 := B2.on hb
  replace B1 := (B1.alloc (.cells #[.int .i64 3, .int .i64 0, .int .i64 0] 27)).on hb
  have b3 : Below w.heap.size w w3 := Below.on (b2.alloc b2.size _) hb
  have bb3 : Below w1.heap.size w1 w3 := Below.on (bb2.alloc bb2.size _) hb
  have HA' := hide hF'.arn
  have HFit' := hide (same_fit hny' HFit.out htn')
  have g3 : getW t' z' 0 1 = wordA 9 0 0 ∧ getE t' z' 0 1 = 0 := by
    have hm' : amay t' z' = true := by rw [hz']; exact put_may HM.out rfl htn'
    have := get_at hm' (g := 0) (k := 1) (by omega) (by rw [htn' 0 (by omega)]; have := HN.out.1; omega)
    rw [hz'] at this ⊢
    exact this
  have hm' : amay t' z' = true := by rw [hz']; exact put_may HM.out rfl htn'
  have HM' := hide hm'
  clear hb hF' hny' htn' hz' p1 p2 hm' b2 bb2
  unfold arenaA
  obtain ⟨⟨c0, c1, c2, c3⟩, f0, f1, f2, f3⟩ := B1.four
  have y1 := B1.lt
  go_wp2_with fail
  have B3 : Blk (w3.alloc (.cells #[.slice (t' 0).a (t' 0).n (t' 0).c, .slice (t' 1).a (t' 1).n (t' 1).c, .slice (t' 2).a (t' 2).n (t' 2).c, .slice (t' 3).a (t' 3).n (t' 3).c] 23)) w3.heap.size (arenaL t') := blk_new w3 (arenaL t') _
  refine (hGet t z 1 0 _ HFit.out (HA.out.below (bb3.alloc bb3.size _) (Nat.le_refl _))).mono ?_
  rintro e w4 ⟨rfl, hb⟩
  rw [g2.1, g2.2]
  clear g2 c0 c1 c2 c3 f0 f1 f2 f3 y1 B1 HA HFit HM HN
  replace B2 := (B2.alloc (.cells #[.slice (t' 0).a (t' 0).n (t' 0).c, .slice (t' 1).a (t' 1).n (t' 1).c, .slice (t' 2).a (t' 2).n (t' 2).c, .slice (t' 3).a (t' 3).n (t' 3).c] 23)).on hb
  replace B3 := B3.on hb
  have b4 : Below w.heap.size w w4 := Below.on (b3.alloc b3.size _) hb
  have bb4 : Below w3.heap.size w3 w4 := Below.on ((Below.refl w3.heap.size w3).alloc (Nat.le_refl _) _) hb
  clear hb b3 bb3
  unfold wordA
  go_wp2_with fail
  have V3 := (blk_ints (w4.alloc (.cells #[.int .i64 0, .int .i64 0, .int .i64 0] 27)) [1, 2, 3, 4, 5] 3).ints
  rw [World.size_alloc] at V3
  refine (hNew (four ⟨some ⟨w4.heap.size + 1, 0, none⟩, 5, 5⟩ ⟨none, 0, 0⟩ ⟨none, 0, 0⟩ ⟨none, 0, 0⟩) (four (listZ [1, 2, 3, 4, 5]) (fun _ => 0) (fun _ => 0) (fun _ => 0)) _ ?_ ?_).mono ?_
  · exact four_all ⟨by simp [four], fun h => by cases h⟩ ⟨by simp [four], fun _ => ⟨rfl, rfl⟩⟩ ⟨by simp [four], fun _ => ⟨rfl, rfl⟩⟩ ⟨by simp [four], fun _ => ⟨rfl, rfl⟩⟩
  · exact four_all V3 (row_zero _ _ _) (row_zero _ _ _) (row_zero _ _ _)
  rintro e w5 ⟨t5, rfl, _, _, hb, _, hno⟩
  have ht5 := hno rfl
  have e5 : newE (four ⟨some ⟨w4.heap.size + 1, 0, none⟩, 5, 5⟩ ⟨none, 0, 0⟩ ⟨none, 0, 0⟩ ⟨none, 0, 0⟩) (four (listZ [1, 2, 3, 4, 5]) (fun _ => 0) (fun _ => 0) (fun _ => 0)) = 400 := rfl
  rw [e5]
  subst ht5
  replace B2 := ((B2.alloc _).alloc _).on hb
  replace B3 := ((B3.alloc _).alloc _).on hb
  have b5 : Below w.heap.size w w5 := Below.on ((b4.alloc b4.size _).alloc (by simp only [World.size_alloc]; have := b4.size; omega) _) hb
  have bb5 : Below w3.heap.size w3 w5 := Below.on ((bb4.alloc bb4.size _).alloc (by simp only [World.size_alloc]; have := bb4.size; omega) _) hb
  clear V3 hno hb e5 b4 bb4
  unfold arenaA nilS
  obtain ⟨⟨c0, c1, c2, c3⟩, f0, f1, f2, f3⟩ := B3.four
  have y3 := B3.lt
  go_wp2_with fail
  refine (hGet t' z' 0 1 _ HFit'.out (HA'.out.below (bb5.alloc bb5.size _) (Nat.le_refl _))).mono ?_
  rintro e w6 ⟨rfl, hb⟩
  rw [g3.1, g3.2]
  clear g3 c0 c1 c2 c3 f0 f1 f2 f3 y3
  replace B2 := (B2.alloc _).on hb
  replace B3 := (B3.alloc _).on hb
  have b6 : Below w.heap.size w w6 := Below.on (b5.alloc b5.size _) hb
  have bb6 : Below w3.heap.size w3 w6 := Below.on (bb5.alloc bb5.size _) hb
  clear hb b5 bb5
  unfold wordA
  obtain ⟨⟨c0, c1, c2, c3⟩, f0, f1, f2, f3⟩ := B3.four
  obtain ⟨⟨d0, d1, d2⟩, g0, g1, g2⟩ := B2.three
  have y2 := B2.lt
  have y3 := B3.lt
  go_wp2_with (go_at_call 16; go_in)
  refine (hMay t' z' _ HFit'.out (HA'.out.below (bb6.alloc bb6.size _) (Nat.le_refl _))).mono ?_
  rintro e w7 ⟨rfl, hb⟩
  rw [HM'.out]
  have b7 : Below w.heap.size w w7 := Below.on (b6.alloc b6.size _) hb
  clear c0 c1 c2 c3 f0 f1 f2 f3 d0 d1 d2 g0 g1 g2 y2 y3
  go_wp2
  go_ret
  exact ⟨rfl, b7⟩

end Go.Proofs.Ytmjclmjnkmhciaa
