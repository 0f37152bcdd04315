/-
  The document's answer to New.
-/
import Derived.Test.YtnjognmnbpcaaaaGreatZlac
import Derived.Deep.RegionLaw
import Derived.Deep.AppendLies
namespace Go.Proofs.YtnjognmnbpcaaaaGreat
open Go.RowKit
set_option linter.unusedSimpArgs false
/-- What New hands back: nothing, or words of these values, of version 0, free, in new memory. -/
def NewPost (v : Nat → Sl) (y : Nat → Nat → Int) (w : World) (e : Ending) (w' : World) : Prop :=
  ∃ t, e = .returned (.tuple #[arenaA t, .int .i64 (newE v y)]) ∧ Nilly t ∧ Fresh w.heap.size w'.heap.size w' t (newZ y) 4 ∧ Below w.heap.size w w' ∧
    (newOk v y = true → ∀ g, g < 4 → (t g).n = (v g).n) ∧ (newOk v y = false → t = nilS)
theorem new_no {v : Nat → Sl} {y : Nat → Nat → Int} {w w' : World} (h : newOk v y = false) (hb : Below w.heap.size w w') : NewPost v y w (.returned (.tuple #[.agg #[.slice none 0 0, .slice none 0 0, .slice none 0 0, .slice none 0 0], .int .i64 400])) w' := by
  refine ⟨nilS, ?_, Nilly.nil, Fresh.nil _ _ _ _ _, hb, fun h' => ?_, fun _ => rfl⟩
  · unfold newE; rw [h]; rfl
  · rw [h] at h'; cases h'
/-- One word more of a new level. -/
theorem newZ_more (y : Nat → Nat → Int) (g m : Nat) : rowL (intF (newZ y g)) (m * 3) ++ [.int .i64 (y g m), .int .i64 0, .int .i64 0] = rowL (intF (newZ y g)) ((m + 1) * 3) := by
  rw [show (m + 1) * 3 = m * 3 + 3 by omega, rowL_add]
  congr 1
  have e0 : newZ y g (m * 3 + 0) = y g m := by unfold newZ; rw [if_pos (by omega)]; congr 1; omega
  have e1 : newZ y g (m * 3 + 1) = 0 := by unfold newZ; rw [if_neg (by omega)]
  have e2 : newZ y g (m * 3 + 2) = 0 := by unfold newZ; rw [if_neg (by omega)]
  show _ = [intF (newZ y g) (m * 3 + 0), intF (newZ y g) (m * 3 + 1), intF (newZ y g) (m * 3 + 2)]
  unfold intF
  rw [e0, e1, e2]
set_option maxRecDepth 100000 in
set_option maxHeartbeats 2000000 in
theorem rnewArena_any (v : Nat → Sl) (y : Nat → Nat → Int) (w : World) (hn : Short v) (h : Vals w v y) :
    Calls Tryz.prog 61 #[arenaA v] w (NewPost v y w) := by
  obtain ⟨i0, hi, hz0, hz1, hz2⟩ := info_parts Tryz.infoWord
  unfold arenaA
  go_enter Tryz.func61, Tryz.ntmps61
  go_wp2
  go_loopw [5] (fun i wr => ∃ (k : Nat) (t : Nat → Sl), k ≤ 4 ∧ i = .int .i64 k ∧ newTo v y k = true ∧ (∀ g, g < k → (t g).n = (v g).n) ∧ (∀ g, k ≤ g → t g = ⟨none, 0, 0⟩) ∧ Nilly t ∧ Blk wr w.heap.size (arenaL v) ∧ Blk wr (w.heap.size + 1) (arenaL nilS) ∧ Blk wr (w.heap.size + 1 + 1) (arenaL t) ∧ Fresh (w.heap.size + 1 + 1 + 1) wr.heap.size wr t (newZ y) k ∧ w.heap.size + 1 + 1 + 1 ≤ wr.heap.size ∧ Below w.heap.size w wr) (fun i _ => 4 - (intOf i).toNat)
  case atStart =>
    refine ⟨0, nilS, Nat.zero_le _, rfl, rfl, fun _ h => absurd h (Nat.not_lt_zero _), fun _ _ => rfl, Nilly.nil, ?_, ?_, ?_, Fresh.zero _ _ _ _ _, ?_, by go_grown⟩
    · exact ((blk_new w (arenaL v) 70).alloc _).alloc _
    · have := (blk_new (w.alloc (.cells (arenaL v).toArray 70)) (arenaL nilS) 23).alloc (.cells (arenaL nilS).toArray 23)
      rw [World.size_alloc] at this
      exact this
    · have := blk_new ((w.alloc (.cells (arenaL v).toArray 70)).alloc (.cells (arenaL nilS).toArray 23)) (arenaL nilS) 23
      rw [World.size_alloc, World.size_alloc] at this
      exact this
    · simp only [World.size_alloc]; omega
  case round =>
    obtain ⟨k, t, hk, rfl, hok, htn, htz, hny, B1, B2, B3, hF, hz, hb⟩ := hrel
    have HNY := hide hny
    clear hny
    have HV := hide h
    have HN := hide hn
    have HTN := hide htn
    have HOK := hide hok
    clear h hn htn hok
    by_cases hlt : k < 4
    · have i1 : (k : Int) < 4 := by omega
      have hw0 : w.heap.size < wr.heap.size := by omega
      have hNN : ∃ N, wr.heap.size = N := ⟨_, rfl⟩
      obtain ⟨N, hNe⟩ := hNN
      have hzN : w.heap.size + 1 + 1 + 1 ≤ N := by omega
      have HZ : Hid (∀ g, k ≤ g → t g = ⟨none, 0, 0⟩) := htz
      clear htz
      go_wp2
      go_loopw [6] (fun j wr => ∃ (m : Nat) (x : Sl), m ≤ (v k).n ∧ m ≤ 4 ∧ j = .int .i64 m ∧ valsTo (y k) m = true ∧ wr.ownsRow N 107 3 (.slice x.a x.n x.c) m (rowL (intF (newZ y k)) (m * 3)) ∧ Blk wr w.heap.size (arenaL v) ∧ Blk wr (w.heap.size + 1) (arenaL nilS) ∧ Blk wr (w.heap.size + 1 + 1) (arenaL (updS t k x)) ∧ Fresh (w.heap.size + 1 + 1 + 1) N wr t (newZ y) k ∧ N ≤ wr.heap.size ∧ Below w.heap.size w wr) (fun j _ => 5 - (intOf j).toNat)
      case atStart =>
        subst hNe
        refine ⟨0, t k, Nat.zero_le _, Nat.zero_le _, rfl, rfl, ?_, B1, B2, ?_, hF, Nat.le_refl _, hb⟩
        · rw [HZ.out k (Nat.le_refl _)]; exact World.ownsRow_nil _ _ _ _
        · rw [updS_self]; exact B3
      case round =>
        clear B1 B2 B3 hF hb
        obtain ⟨m, x, hm, hm4, rfl, hv, hown, B1, B2, B3, hF, hNs, hb⟩ := hrel
        have c1 := B1.cell k _ (arenaL_get v hlt)
        have HW := hide hv
        clear hv hw0
        by_cases hmn : m < (v k).n
        · have i2 : (m : Int) < ((v k).n : Int) := by omega
          by_cases h4 : m < 4
          · have i3 : ¬ (4 : Int) ≤ (m : Int) := by omega
            obtain ⟨b, off, hva, hbl, cv⟩ := (HV.out.below hb (Nat.le_refl _)) k hlt m hmn
            rw [hva] at c1
            have HA := hide hva
            clear hva
            cases hu : upToV (y k m) 255
            · clear hown hF B3
              obtain ⟨⟨d0, d1, d2, d3⟩, g0, g1, g2, g3⟩ := B2.four
              go_wp2_with (go_at_call 52; refine (rvalue_any _ _).mono ?_; rintro e w' ⟨rfl, rfl⟩)
              exact bodyPost_ret (v := .tuple #[.agg #[.slice none 0 0, .slice none 0 0, .slice none 0 0, .slice none 0 0], .int .i64 400]) (by simp [results, Tryz.results61, go_sem, d0, d1, d2, d3]) rfl (new_no (newOk_no k hlt (lvNew_bad m hmn hu)) (by go_grown))
            · have c3 := B3.cell k _ (arenaL_get (updS t k x) hlt)
              have f3 := B3.frozen k
              rw [updS_same] at c3
              have y1 := B1.lt
              have y3 := B3.lt
              have HO := hide ((hown.alloc (.cells #[.int .i64 (y k m), .int .i64 0, .int .i64 0] 107)).drew)
              have HE := hide (owns_block hown)
              clear hown
              go_wp2_with (go_at_call 52; refine (rvalue_any _ _).mono ?_; rintro e w' ⟨rfl, rfl⟩)
              go_region_law ((refine step_append_lies _ (by rfl) _ _ _ (by rfl) N 107 i0 _ 3 24 Tryz.underlying22 hi hz0 hz1 hz2 rfl (by omega) (.slice x.a x.n x.c) m (rowL (intF (newZ y k)) (m * 3)) (by rfl) HO.out ⟨wr.heap.size, 0, none⟩ 1 1 [.int .i64 (y k m), .int .i64 0, .int .i64 0] (by rfl) (by rfl) (World.news_of_block (cs := #[.int .i64 (y k m), .int .i64 0, .int .i64 0]) (t := 107) (fr := (0, 0)) (heap_alloc_new wr _)) (by simp [Value.oneCell']) (by omega) (by unfold maxLen; omega) (by omega) (by simp; omega) (wr.heap.size + 1) (by simp) ?_; intro gg cap w1 hown1 hgrow hat hlt1; have bw : Below N wr w1 := (((Below.refl N wr).alloc hNs _).drew).grown hgrow (by simp; omega) HE.out; have c4 := (bw.cell (p := ⟨w.heap.size + 1 + 1, k, none⟩) (by simp; omega)).trans c3; have f4 := (bw.frozen (p := ⟨w.heap.size + 1 + 1, k, none⟩) (by simp; omega)).trans f3))
              all_goals
                have own2 : w1.ownsRow N 107 3 (.slice (some ⟨gg, 0, none⟩) (m + 1) cap) (m + 1) (rowL (intF (newZ y k)) ((m + 1) * 3)) := by rw [← newZ_more]; exact hown1
                have HO2 := hide own2
                have B1' := B1.below bw (by omega)
                have B2' := B2.below bw (by omega)
                have B3' := B3.below bw (by omega)
                have F' := hF.below bw (Nat.le_refl _)
                have b' : Below w.heap.size w w1 := hb.trans (bw.mono (by omega))
                have z' := bw.size
                have HW2 : Hid (valsTo (y k) (m + 1) = true) := by
                  show valsTo (y k) (m + 1) = true
                  rw [valsTo, HW.out, hu]
                  rfl
                clear own2 hown1 hgrow hat HO HE B1 B2 B3 hF hb bw c1 c3 f3 cv
                go_wp2
                go_roundw
                case rel =>
                  refine ⟨m + 1, ⟨some ⟨gg, 0, none⟩, m + 1, cap⟩, by omega, by omega, by go_num, HW2.out, ownsRow_setCell_below HO2.out (by simp; omega) _, B1'.far _ (by simp; omega), B2'.far _ (by simp), ?_, F'.far _ (.inl (by simp)), by rw [World.size_setCell]; omega, b'.setCell (by simp; omega) _⟩
                  have := B3'.set k (.slice (some ⟨gg, 0, none⟩) (m + 1) cap)
                  rw [arenaL_set _ hlt ⟨some ⟨gg, 0, none⟩, m + 1, cap⟩, updS_twice] at this
                  exact this
                case measure => simp [intOf]; omega
          · have i3 : (4 : Int) ≤ (m : Int) := by omega
            clear hown hF B3
            obtain ⟨⟨d0, d1, d2, d3⟩, g0, g1, g2, g3⟩ := B2.four
            go_wp2
            exact bodyPost_ret (v := .tuple #[.agg #[.slice none 0 0, .slice none 0 0, .slice none 0 0, .slice none 0 0], .int .i64 400]) (by simp [results, Tryz.results61, go_sem, d0, d1, d2, d3]) rfl (new_no (newOk_no k hlt (lvNew_long (by omega))) (by go_grown))
        · obtain rfl : m = (v k).n := by omega
          have HOK2 : Hid (newTo v y (k + 1) = true) := by
            show newTo v y (k + 1) = true
            rw [newTo, HOK.out, lvNew_mk (by omega) HW.out]
            rfl
          obtain ⟨hxn, hxy, hxo⟩ : x.n = (v k).n ∧ ((x.a = none → x.n = 0 ∧ x.c = 0) ∧ x.n ≤ x.c) ∧ (0 < x.n → ∃ b, x.a = some ⟨b, 0, none⟩ ∧ N ≤ b ∧ b < wr.heap.size ∧ Own wr b (x.n * 3) (intF (newZ y k))) := by
            rcases own_of_owns hown with ⟨e, h0⟩ | ⟨g, cap, e, hg1, hcp, _, ho⟩
            · simp only [Value.slice.injEq] at e
              exact ⟨by omega, ⟨fun _ => ⟨e.2.1, e.2.2⟩, by omega⟩, fun h => by omega⟩
            · simp only [Value.slice.injEq] at e
              obtain ⟨e1, e2, e3⟩ := e
              exact ⟨e2, ⟨fun h => (by rw [e1] at h; cases h), by omega⟩, fun _ => ⟨g, e1, hg1, ho.lt, by rw [e2]; exact ho⟩⟩
          have F2 := hF.more hzN hNs x hxo
          have HXN := hide hxn
          have HXY := hide hxy
          clear hown hxn hxy hxo hF
          go_wp2
          go_roundw
          case rel =>
            refine ⟨k + 1, updS t k x, by omega, by go_num, HOK2.out, fun g hg => ?_, fun g hg => ?_, HNY.out.upd k HXY.out, B1, B2, B3, F2, by omega, hb⟩
            · by_cases e : g = k
              · subst e; rw [updS_same]; exact HXN.out
              · rw [updS_other t x e]; exact HTN.out g (by omega)
            · rw [updS_other t x (by omega)]; exact HZ.out g (by omega)
          case measure => simp [intOf]; omega
    · obtain rfl : k = 4 := by omega
      obtain ⟨⟨c0, c1, c2, c3⟩, f0, f1, f2, f3⟩ := B3.four
      obtain ⟨⟨d0, d1, d2, d3⟩, g0, g1, g2, g3⟩ := B2.four
      clear htz
      go_wp2
      refine bodyPost_ret (v := .tuple #[.agg #[.slice (t 0).a (t 0).n (t 0).c, .slice (t 1).a (t 1).n (t 1).c, .slice (t 2).a (t 2).n (t 2).c, .slice (t 3).a (t 3).n (t 3).c], .int .i64 0]) (by simp [results, Tryz.results61, go_sem, d0, d1, d2, d3]) rfl ⟨t, ?_, HNY.out, ?_, by go_grown, fun _ => HTN.out, fun h => ?_⟩
      · unfold newE newOk; rw [HOK.out]; rfl
      · simp only [World.size_setCell]
        exact ((((hF.far _ (.inl (by simp))).far _ (.inl (by simp))).far _ (.inl (by simp))).far _ (.inl (by simp))).mono (by omega) (Nat.le_refl _)
      · unfold newOk at h; rw [HOK.out] at h; cases h
end Go.Proofs.YtnjognmnbpcaaaaGreat
